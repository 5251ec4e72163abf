/-
  Encode, and the reference's.
-/
import Derived.Test.YtjafaicpnhdodaaUDe2
namespace Go.Proofs.Ytjafaicpnhdodaa.Utf
open Go Go.RowKit Go.Proofs.Ytjafaicpnhdodaa.Com

def encF (r : Int) : List Int :=
  if r < 0 ∨ 1114111 < r ∨ (55296 ≤ r ∧ r ≤ 57343) then [239, 191, 189]
  else if r < 128 then [r]
  else if r < 2048 then [192 + r / 64, 128 + r % 64]
  else if r < 65536 then [224 + r / 4096, 128 + r / 64 % 64, 128 + r % 64]
  else [240 + r / 262144, 128 + r / 4096 % 64, 128 + r / 64 % 64, 128 + r % 64]

theorem trailing_any (r : Int) (w : World) : Calls Try.prog 23 #[.int .i32 r] w fun e w' => e = .returned (.int .u8 (128 + r % 64)) ∧ w = w' := by
  go_enter Try.func23, Try.ntmps23
  go_wp2
  go_ret
  exact ⟨rfl, rfl⟩

def EncTold (w : World) (r : Int) (e : Ending) (w' : World) : Prop := ∃ v, e = .returned v ∧ Own w' w.heap.size 5 .u8 v (encF r) ∧ Below w.heap.size w w'
theorem enc_lit (w : World) (l : List Int) (hl : l.length ≤ 4) : Own (w.alloc (.cells (l.map (Value.int .u8)).toArray 5)) w.heap.size 5 .u8 (.slice (some ⟨w.heap.size, 0, none⟩) l.length l.length) l :=
  Own.lit w _ _ _ l (Nat.le_refl _) (by simp [maxLen]; omega)
theorem enc_below (w : World) (o : Obj) : Below w.heap.size w (w.alloc o) := (Below.refl _ _).alloc (Nat.le_refl _) _

theorem enc_ways {r : Int} (h : ¬ (r < 0 ∨ 1114111 < r ∨ (55296 ≤ r ∧ r ≤ 57343))) :
    (0 ≤ r ∧ r < 128 ∧ encF r = [r]) ∨ (128 ≤ r ∧ r < 2048 ∧ encF r = [192 + r / 64, 128 + r % 64]) ∨ (2048 ≤ r ∧ r < 55296 ∧ encF r = [224 + r / 4096, 128 + r / 64 % 64, 128 + r % 64]) ∨ (57343 < r ∧ r < 65536 ∧ encF r = [224 + r / 4096, 128 + r / 64 % 64, 128 + r % 64]) ∨
    (65536 ≤ r ∧ r ≤ 1114111 ∧ encF r = [240 + r / 262144, 128 + r / 4096 % 64, 128 + r / 64 % 64, 128 + r % 64]) := by
  unfold encF
  rw [if_neg h]
  by_cases h1 : r < 128
  · exact .inl ⟨by omega, h1, if_pos h1⟩
  · rw [if_neg h1]
    by_cases h2 : r < 2048
    · exact .inr (.inl ⟨by omega, h2, if_pos h2⟩)
    · rw [if_neg h2]
      by_cases h3 : r < 65536
      · rw [if_pos h3]
        by_cases h4 : r < 55296
        · exact .inr (.inr (.inl ⟨by omega, h4, rfl⟩))
        · exact .inr (.inr (.inr (.inl ⟨by omega, h3, rfl⟩)))
      · rw [if_neg h3]
        exact .inr (.inr (.inr (.inr ⟨by omega, by omega, rfl⟩)))
set_option maxHeartbeats 1000000 in
theorem encode_valid (r : Int) (h : ¬ (r < 0 ∨ 1114111 < r ∨ (55296 ≤ r ∧ r ≤ 57343))) (w : World) : Calls Try.prog 13 #[.int .i32 r] w (EncTold w r) := by
  rcases enc_ways h with ⟨h0, h1, e⟩ | ⟨h0, h1, e⟩ | ⟨h0, h1, e⟩ | ⟨h0, h1, e⟩ | ⟨h0, h1, e⟩
  all_goals
    replace e := Lib.hid e
    clear h
    go_enter Try.func13, Try.ntmps13
    go_wp2_with ((go_at_call 23; refine (trailing_any _ _).mono ?_; rintro e w' ⟨rfl, rfl⟩))
    go_ret
    refine ⟨_, rfl, ?_, enc_below _ _⟩
    rw [e.out]
    exact enc_lit w _ (by simp)

set_option maxHeartbeats 1000000 in
theorem refEncode_valid (r : Int) (h : ¬ (r < 0 ∨ 1114111 < r ∨ (55296 ≤ r ∧ r ≤ 57343))) (w : World) : Calls Try.prog 14 #[.int .i32 r] w (EncTold w r) := by
  rcases enc_ways h with ⟨h0, h1, e⟩ | ⟨h0, h1, e⟩ | ⟨h0, h1, e⟩ | ⟨h0, h1, e⟩ | ⟨h0, h1, e⟩
  all_goals
    replace e := Lib.hid e
    clear h
    go_enter Try.func14, Try.ntmps14
    go_wp2
    go_ret
    refine ⟨_, rfl, ?_, enc_below _ _⟩
    rw [e.out]
    exact enc_lit w _ (by simp)

theorem bad_valid : ¬ ((65533 : Int) < 0 ∨ (1114111 : Int) < 65533 ∨ ((55296 : Int) ≤ 65533 ∧ (65533 : Int) ≤ 57343)) := by omega
theorem enc_no {r : Int} (h : r < 0 ∨ 1114111 < r ∨ (55296 ≤ r ∧ r ≤ 57343)) : encF r = [239, 191, 189] := by unfold encF; exact if_pos h
set_option maxHeartbeats 1000000 in
theorem encode_any (r : Int) (w : World) : Calls Try.prog 13 #[.int .i32 r] w (EncTold w r) := by
  by_cases h : r < 0 ∨ 1114111 < r ∨ (55296 ≤ r ∧ r ≤ 57343)
  · have hb := encode_valid 65533 bad_valid w
    have hE : EncTold w 65533 = EncTold w r := by unfold EncTold; rw [enc_no h]; rfl
    rw [hE] at hb
    replace hb := Lib.hid hb
    clear hE
    rcases h with h | h | ⟨h, h'⟩
    all_goals
      go_enter Try.func13, Try.ntmps13
      go_wp2_with ((go_at_call 13; refine (hb.out).mono ?_; rintro e w1 ⟨v, rfl, ho, hbel⟩))
      go_ret
      exact ⟨v, rfl, ho, hbel⟩
  · exact encode_valid r h w
set_option maxHeartbeats 1000000 in
theorem refEncode_any (r : Int) (w : World) : Calls Try.prog 14 #[.int .i32 r] w (EncTold w r) := by
  by_cases h : r < 0 ∨ 1114111 < r ∨ (55296 ≤ r ∧ r ≤ 57343)
  · have e := Lib.hid (enc_no h)
    rcases h with h | h | ⟨h, h'⟩
    all_goals
      go_enter Try.func14, Try.ntmps14
      go_wp2
      go_ret
      refine ⟨_, rfl, ?_, enc_below _ _⟩
      rw [e.out]
      exact enc_lit w _ (by simp)
  · exact refEncode_valid r h w

end Go.Proofs.Ytjafaicpnhdodaa.Utf
