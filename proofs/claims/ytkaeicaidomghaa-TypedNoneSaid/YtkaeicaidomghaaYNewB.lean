/-
  typed: New.
-/
import Derived.Test.YtkaeicaidomghaaYNew
namespace Go.Proofs.Ytkaeicaidomghaa.Tpd
open Go Go.RowKit Go.Proofs.Ytkaeicaidomghaa.Com

set_option maxHeartbeats 4000000 in
theorem new_yes (life : Int) (h1 : 1 ≤ life) (h2 : life ≤ 1000) (w : World) :
    Calls Try.prog 12 #[.int .i64 life] w fun e w' => ∃ d, e = .returned (.tuple #[.pointer (some ⟨d, 0, none⟩), .int .i64 0]) ∧ TL w' d life 0 [] ∧ w.heap.size ≤ d ∧ Below w.heap.size w w' := by
  obtain ⟨z, hz, hz1, hz2⟩ : ∃ z : Array Value, (∀ w, (zeroValue 28).run Try.prog w = .ok (.agg z) w) ∧ ((z = #[]) = False) ∧ z.setIfInBounds 0 (.int .i64 life) = (tyL life 0 zP 0 0).toArray := ⟨zA, zero_list, zA_some, zA_set life⟩
  have hsz : (tyL life 0 zP 0 0).toArray.size = 132 := by rw [List.size_toArray, tyL_len]
  have hb := Block.made w 28 (tyL life 0 zP 0 0).toArray
  generalize hyA : (tyL life 0 zP 0 0).toArray = yA at hz2 hsz hb
  replace hb := Lib.hid hb
  replace hyA := Lib.hid hyA
  go_enter Try.func12, Try.ntmps12
  go_wp2
  go_ret2
  have hb' : LB (w.alloc (.cells yA 28)) w.heap.size life 0 zP 0 0 := by
    unfold LB
    rw [hyA.out]
    exact hb.out
  exact ⟨_, rfl, ⟨zP, 0, by omega, by simp, hb', Shows.nil _ _⟩, Nat.le_refl _, below_new w _⟩
theorem new_no (life : Int) (h1 : life < 1 ∨ 1000 < life) (w : World) :
    Calls Try.prog 12 #[.int .i64 life] w fun e w' => e = .returned (.tuple #[.pointer none, .int .i64 2]) ∧ w = w' := by
  go_enter Try.func12, Try.ntmps12
  go_wp2
  all_goals go_ret2
  all_goals exact ⟨rfl, rfl⟩
end Go.Proofs.Ytkaeicaidomghaa.Tpd
