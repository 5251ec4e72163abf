/-
  row: New, Resize.
-/
import Derived.Test.YtleooelhnnfjbaaROps2
namespace Go.Proofs.Ytleooelhnnfjbaa.Rw
open Go Go.RowKit Go.Proofs.Ytleooelhnnfjbaa.Com

def NewDone (w : World) (n : Nat) (e : Ending) (w' : World) : Prop := ∃ d g, e = .returned (.tuple #[.pointer (some ⟨d, 0, none⟩), .int .i64 0]) ∧ RowX w' d g n n [] (List.replicate n (clr zeroAt)) ∧ Below w.heap.size w w' ∧ w.heap.size ≤ d ∧ w.heap.size ≤ g

theorem new_no (cols : Int) (h : cols < 1 ∨ 512 < cols) (w : World) : Calls Try.prog 28 #[.int .i64 cols] w fun e w' => e = .returned (.tuple #[.pointer none, .int .i64 2]) ∧ w = w' := by
  have hmc := Lib.hid (mayCount_no cols h)
  clear h
  go_enter Try.func28, Try.ntmps28
  go_wp2_with ((go_at_call 52; (with_reducible refine (hmc.out _).mono ?_); rintro e w' ⟨rfl, rfl⟩))
  go_ret2
  exact ⟨rfl, rfl⟩
set_option maxHeartbeats 1000000 in
theorem new_yes (n : Nat) (h1 : 1 ≤ n) (h2 : n ≤ 512) (w : World) : Calls Try.prog 28 #[.int .i64 n] w (NewDone w n) := by
  have hmc := Lib.hid (mayCount_yes n (by omega) (by omega))
  have hcl := clr_any n h2 zeroAt
  simp only [zeroAt] at hcl
  replace hcl := Lib.hid hcl
  go_enter Try.func28, Try.ntmps28
  go_wp2_with (first
    | (go_at_call 52; (with_reducible refine (hmc.out _).mono ?_); rintro e w' ⟨rfl, rfl⟩)
    | (go_at_call 53; (with_reducible refine (hcl.out _).mono ?_); rintro e w1 ⟨g1, rfl, hb1, hbel1, hg1⟩))
  go_ret2
  have hlt := hb1.lt
  refine ⟨w1.heap.size, g1, rfl, ⟨Block.made w1 _ _, by rw [List.append_nil]; exact hb1.alloc _, by simp, Nat.le_refl _, by unfold maxLen; omega, h1, h2⟩, hbel1.alloc hbel1.size _, hbel1.size, hg1⟩

section
variable {w : World} {d g n cap : Nat} {tail : List Value} {l : List Cel}
end
end Go.Proofs.Ytleooelhnnfjbaa.Rw
