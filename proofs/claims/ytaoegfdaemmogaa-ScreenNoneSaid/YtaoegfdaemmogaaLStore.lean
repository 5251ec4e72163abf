/-
  lines: the store's calls that ask.
-/
import Derived.Test.YtaoegfdaemmogaaLPut2
import Derived.Test.YtaoegfdaemmogaaLTwin
import Derived.Test.YtaoegfdaemmogaaRRef
namespace Go.Proofs.Ytaoegfdaemmogaa.Lns
open Go Go.RowKit Go.Proofs.Ytaoegfdaemmogaa.Com Go.Proofs.Ytaoegfdaemmogaa.Rw
section
variable {B : Nat} {w w' : World} {s nx most o : Nat} {sv : Value} {P R : List En}

theorem new_no (most : Int) (h : most < 0 ∨ 10000 < most) (w : World) : Calls Try.prog 32 #[.int .i64 most] w fun e w' => e = .returned (.tuple #[.pointer none, .int .i64 2]) ∧ w = w' := by
  by_cases h0 : most < 0
  · go_enter Try.func32, Try.ntmps32
    go_wp2
    go_ret2
    exact ⟨rfl, rfl⟩
  · have h1 : 10000 < most := by omega
    go_enter Try.func32, Try.ntmps32
    go_wp2
    go_ret2
    exact ⟨rfl, rfl⟩
theorem new_yes (most : Nat) (h : most ≤ 10000) (w : World) : Calls Try.prog 32 #[.int .i64 most] w fun e w' => e = .returned (.tuple #[.pointer (some ⟨w.heap.size, 0, none⟩), .int .i64 0]) ∧ SX w.heap.size w' w.heap.size 1 most (.slice none 0 0) [] ∧ Below w.heap.size w w' := by
  have h0 : ¬ (most : Int) < 0 := by omega
  have h1 : ¬ 10000 < (most : Int) := by omega
  have h0' := decide_eq_false h0
  have h1' := decide_eq_false h1
  go_enter Try.func32, Try.ntmps32
  go_wp2
  go_ret2
  exact ⟨rfl, ⟨⟨0, [], ⟨Block.made w _ _, World.ownsRow_nil _ _ _ _, by simp, fun _ => rfl, .inr rfl, h, by decide, by decide, Nat.le_refl _⟩, by simp [lg]⟩, by simp⟩, below_new _ _⟩
theorem next_any (h : SX B w s nx most sv R) : Calls Try.prog 12 #[.pointer (some ⟨s, 0, none⟩)] w fun e w' => e = .returned (.int .i64 nx) ∧ w = w' := by
  obtain ⟨⟨o, P, h0, rfl⟩, _⟩ := h
  have hm := Lib.hid (made_any h0)
  obtain ⟨h1, _, _, _⟩ := h0.cells
  clear h0
  go_enter Try.func12, Try.ntmps12
  go_wp2_with ((go_at_call 34; (with_reducible refine (hm.out).mono ?_); rintro e w' ⟨rfl, rfl⟩))
  go_ret
  exact ⟨rfl, rfl⟩
theorem slen_any (h : SX B w s nx most sv R) : Calls Try.prog 26 #[.pointer (some ⟨s, 0, none⟩)] w fun e w' => e = .returned (.int .i64 R.length) ∧ w = w' := by
  obtain ⟨⟨o, P, h0, rfl⟩, _⟩ := h
  have hm := Lib.hid (made_any h0)
  have hc := Lib.hid (count_any h0)
  rw [lg_len]
  clear h0
  go_enter Try.func26, Try.ntmps26
  go_wp2_with (first
    | (go_at_call 34; (with_reducible refine (hm.out).mono ?_); rintro e w' ⟨rfl, rfl⟩)
    | (go_at_call 55; (with_reducible refine (hc.out).mono ?_); rintro e w' ⟨rfl, rfl⟩))
  go_ret
  exact ⟨rfl, rfl⟩
theorem find_any (h : SX B w s nx most sv R) (id : Int) : Calls Try.prog 19 #[.pointer (some ⟨s, 0, none⟩), .int .i64 id] w fun e w' => e = .returned (.int .i64 (findF (R.map En.id) id)) ∧ Below w.heap.size w w' := by
  obtain ⟨⟨o, P, h0, rfl⟩, _⟩ := h
  have hm := Lib.hid (made_any h0)
  have hc := newest_any h0 id
  generalize findF ((lg P o).map En.id) id = F at hc ⊢
  replace hc := Lib.hid hc
  clear h0
  go_enter Try.func19, Try.ntmps19
  go_wp2_with (first
    | (go_at_call 34; (with_reducible refine (hm.out).mono ?_); rintro e w' ⟨rfl, rfl⟩)
    | (go_at_call 51; (with_reducible refine (hc.out).mono ?_); rintro e w1 ⟨rfl, hb1⟩))
  go_ret
  exact ⟨rfl, hb1⟩
end
end Go.Proofs.Ytaoegfdaemmogaa.Lns
