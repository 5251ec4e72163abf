/-
  utf and its reference: the calls that touch no memory but what they read.
-/
import Derived.Test.YtjafaicpnhdodaaChecked
import Derived.Test.YtjafaicpnhdodaaUMath
import Derived.Test.YtjafaicpnhdodaaCom
import Derived.WalkLawsBesides
import Derived.LoopTactic
import Derived.IntWalk
import Derived.Outline
import Derived.Deep.QuietTactic
import Derived.BigQuiet
import Derived.WalkSmall
namespace Go.Proofs.Ytjafaicpnhdodaa.Utf
open Go Go.RowKit Go.Proofs.Ytjafaicpnhdodaa.Com

theorem ret3 {a b c x y z : Int} {k l m : IntKind} (h1 : a = x) (h2 : b = y) (h3 : c = z) : Ending.returned (.tuple #[.int k a, .int l b, .int m c]) = .returned (.tuple #[.int k x, .int l y, .int m z]) := by rw [h1, h2, h3]

def leftF (b : Int) : Int := if sizeF b = 0 then 0 else sizeF b - 1
theorem follow_ways {b : Int} (h : 128 ≤ b) (h2 : b ≤ 255) :
    (b < 194 ∧ leftF b = 0 ∧ loF b = 128 ∧ hiF b = 191) ∨ (194 ≤ b ∧ b ≤ 223 ∧ leftF b = 1 ∧ loF b = 128 ∧ hiF b = 191) ∨ (b = 224 ∧ leftF b = 2 ∧ loF b = 160 ∧ hiF b = 191) ∨ (225 ≤ b ∧ b ≤ 236 ∧ leftF b = 2 ∧ loF b = 128 ∧ hiF b = 191) ∨
    (b = 237 ∧ leftF b = 2 ∧ loF b = 128 ∧ hiF b = 159) ∨ (b = 238 ∧ leftF b = 2 ∧ loF b = 128 ∧ hiF b = 191) ∨ (b = 239 ∧ leftF b = 2 ∧ loF b = 128 ∧ hiF b = 191) ∨
    (b = 240 ∧ leftF b = 3 ∧ loF b = 144 ∧ hiF b = 191) ∨ (241 ≤ b ∧ b ≤ 243 ∧ leftF b = 3 ∧ loF b = 128 ∧ hiF b = 191) ∨ (b = 244 ∧ leftF b = 3 ∧ loF b = 128 ∧ hiF b = 143) ∨ (245 ≤ b ∧ leftF b = 0 ∧ loF b = 128 ∧ hiF b = 191) := by
  have hall : ∀ n : Fin 256, 128 ≤ (n.val : Int) →
    ((n.val : Int) < 194 ∧ leftF n.val = 0 ∧ loF n.val = 128 ∧ hiF n.val = 191) ∨ (194 ≤ (n.val : Int) ∧ (n.val : Int) ≤ 223 ∧ leftF n.val = 1 ∧ loF n.val = 128 ∧ hiF n.val = 191) ∨ ((n.val : Int) = 224 ∧ leftF n.val = 2 ∧ loF n.val = 160 ∧ hiF n.val = 191) ∨ (225 ≤ (n.val : Int) ∧ (n.val : Int) ≤ 236 ∧ leftF n.val = 2 ∧ loF n.val = 128 ∧ hiF n.val = 191) ∨
    ((n.val : Int) = 237 ∧ leftF n.val = 2 ∧ loF n.val = 128 ∧ hiF n.val = 159) ∨ ((n.val : Int) = 238 ∧ leftF n.val = 2 ∧ loF n.val = 128 ∧ hiF n.val = 191) ∨ ((n.val : Int) = 239 ∧ leftF n.val = 2 ∧ loF n.val = 128 ∧ hiF n.val = 191) ∨
    ((n.val : Int) = 240 ∧ leftF n.val = 3 ∧ loF n.val = 144 ∧ hiF n.val = 191) ∨ (241 ≤ (n.val : Int) ∧ (n.val : Int) ≤ 243 ∧ leftF n.val = 3 ∧ loF n.val = 128 ∧ hiF n.val = 191) ∨ ((n.val : Int) = 244 ∧ leftF n.val = 3 ∧ loF n.val = 128 ∧ hiF n.val = 143) ∨ (245 ≤ (n.val : Int) ∧ leftF n.val = 0 ∧ loF n.val = 128 ∧ hiF n.val = 191) := by decide +kernel
  have e : ((⟨b.toNat, by omega⟩ : Fin 256).val : Int) = b := by simp; omega
  have hh := hall ⟨b.toNat, by omega⟩
  rw [e] at hh
  exact hh h
set_option maxHeartbeats 800000 in
theorem follow_any (b : Int) (h : 128 ≤ b) (h2 : b ≤ 255) (w : World) : Calls Try.prog 30 #[.int .u8 b] w fun e w' => e = .returned (.tuple #[.int .i64 (leftF b), .int .u8 (loF b), .int .u8 (hiF b)]) ∧ w = w' := by
  rcases follow_ways h h2 with ⟨c, e1, e2, e3⟩ | ⟨c, d, e1, e2, e3⟩ | ⟨rfl, e1, e2, e3⟩ | ⟨c, d, e1, e2, e3⟩ | ⟨rfl, e1, e2, e3⟩ | ⟨rfl, e1, e2, e3⟩ | ⟨rfl, e1, e2, e3⟩ | ⟨rfl, e1, e2, e3⟩ | ⟨c, d, e1, e2, e3⟩ | ⟨rfl, e1, e2, e3⟩ | ⟨c, e1, e2, e3⟩
  all_goals
    replace e1 := Lib.hid e1
    replace e2 := Lib.hid e2
    replace e3 := Lib.hid e3
    go_enter Try.func30, Try.ntmps30
    go_wp2
    go_ret3
    exact ⟨ret3 e1.out.symm e2.out.symm e3.out.symm, rfl⟩

theorem size_ways {b : Int} (h : 0 ≤ b) (h2 : b ≤ 255) : (b ≤ 127 ∧ (sizeF b : Int) = 1) ∨ (128 ≤ b ∧ b < 194 ∧ (sizeF b : Int) = 0) ∨ (194 ≤ b ∧ b ≤ 223 ∧ (sizeF b : Int) = 2) ∨ (224 ≤ b ∧ b ≤ 239 ∧ (sizeF b : Int) = 3) ∨ (240 ≤ b ∧ b ≤ 244 ∧ (sizeF b : Int) = 4) ∨ (244 < b ∧ (sizeF b : Int) = 0) := by
  rcases sizeF_cases b with ⟨_, e⟩ | ⟨_, _, e⟩ | ⟨_, _, e⟩ | ⟨_, _, e⟩ | ⟨_, _, e⟩ <;> rw [e] <;> omega
set_option maxHeartbeats 400000 in
theorem size_any (b : Int) (h : 0 ≤ b) (h2 : b ≤ 255) (w : World) : Calls Try.prog 25 #[.int .u8 b] w fun e w' => e = .returned (.int .i64 (sizeF b)) ∧ w = w' := by
  rcases size_ways h h2 with ⟨c, e⟩ | ⟨c, d, e⟩ | ⟨c, d, e⟩ | ⟨c, d, e⟩ | ⟨c, d, e⟩ | ⟨c, e⟩
  all_goals
    replace e := Lib.hid e
    go_enter Try.func25, Try.ntmps25
    go_wp2
    go_ret
    exact ⟨ret_int e.out.symm, rfl⟩

theorem second_ways (a : Int) : (a = 224 ∧ loF a = 160 ∧ hiF a = 191) ∨ (a = 237 ∧ loF a = 128 ∧ hiF a = 159) ∨ (a = 240 ∧ loF a = 144 ∧ hiF a = 191) ∨ (a = 244 ∧ loF a = 128 ∧ hiF a = 143) ∨ (¬ a = 224 ∧ ¬ a = 237 ∧ ¬ a = 240 ∧ ¬ a = 244 ∧ loF a = 128 ∧ hiF a = 191) := by
  unfold loF hiF; omega
set_option maxHeartbeats 400000 in
theorem second_yes (a x : Int) (h1 : loF a ≤ x) (h2 : x ≤ hiF a) (w : World) : Calls Try.prog 29 #[.int .u8 a, .int .u8 x] w fun e w' => e = .returned (.bool true) ∧ w = w' := by
  rcases second_ways a with ⟨rfl, e1, e2⟩ | ⟨rfl, e1, e2⟩ | ⟨rfl, e1, e2⟩ | ⟨rfl, e1, e2⟩ | ⟨n1, n2, n3, n4, e1, e2⟩
  all_goals
    rw [e1] at h1
    rw [e2] at h2
    clear e1 e2
    go_enter Try.func29, Try.ntmps29
    go_wp2
    go_ret
    exact ⟨rfl, rfl⟩
set_option maxHeartbeats 400000 in
theorem second_no (a x : Int) (h : x < loF a ∨ hiF a < x) (w : World) : Calls Try.prog 29 #[.int .u8 a, .int .u8 x] w fun e w' => e = .returned (.bool false) ∧ w = w' := by
  rcases second_ways a with ⟨rfl, e1, e2⟩ | ⟨rfl, e1, e2⟩ | ⟨rfl, e1, e2⟩ | ⟨rfl, e1, e2⟩ | ⟨n1, n2, n3, n4, e1, e2⟩
  all_goals
    rw [e1, e2] at h
    clear e1 e2
    rcases h with h | h
    all_goals
      try have h0 := Int.not_le.2 h
      go_enter Try.func29, Try.ntmps29
      go_wp2
      go_ret
      exact ⟨rfl, rfl⟩

/-- Are two lists of numbers alike? -/
theorem same_yes (l : List Int) (ao bo : Option Addr) (c d : Nat) (w : World) (B : Nat) (hl : l.length ≤ 1048576) (h1 : Nums w B .i32 ao l) (h2 : Nums w B .i32 bo l) :
    Calls Try.prog 10 #[.slice ao l.length c, .slice bo l.length d] w fun e w' => e = .returned (.bool true) ∧ Below w.heap.size w w' := by
  go_enter Try.func10, Try.ntmps10
  go_wp2
  go_loopw [5] (fun i wr => ∃ k n : Nat, k ≤ l.length ∧ i = .int .i64 k ∧ wr = w.drewN n) (fun i _ => l.length - (intOf i).toNat)
  case atStart => exact ⟨0, 0, by omega, rfl, rfl⟩
  case round =>
    obtain ⟨k, n, hk, rfl, rfl⟩ := hrel
    by_cases hlt : k < l.length
    · obtain ⟨ad, rfl, _, hc1⟩ := h1.at hlt
      obtain ⟨bd, rfl, _, hc2⟩ := h2.at hlt
      clear h1 h2
      generalize l[k] = x at hc1 hc2
      go_wp2
      go_quiet (fail)
      go_wp2
      go_roundw
      case rel => exact ⟨k + 1, _, by omega, by go_num, rfl⟩
      case measure => simp [intOf]; omega
    · go_wp2
      go_ret
      exact ⟨rfl, below_drewN (Below.refl _ _) n⟩

end Go.Proofs.Ytjafaicpnhdodaa.Utf
