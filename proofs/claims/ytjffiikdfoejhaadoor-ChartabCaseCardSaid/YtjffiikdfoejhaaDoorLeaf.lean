/-
  The calls of chartab and of its reference that call nothing, or only 'in': what each answers.
-/
import Derived.Test.YtjffiikdfoejhaaDoorChecked
import Derived.Test.YtjffiikdfoejhaaDoorMath
import Derived.WalkKit
import Derived.WalkLawsBesides
import Derived.Outline
namespace Go.Proofs.YtjffiikdfoejhaaDoor.Cht
open Go Go.RowKit

theorem ret_bool {a b : Bool} (h : a = b) : Ending.returned (.bool a) = .returned (.bool b) := by rw [h]
theorem ret_int {k : IntKind} {a b : Int} (h : a = b) : Ending.returned (.int k a) = .returned (.int k b) := by rw [h]

set_option maxHeartbeats 400000 in
theorem in_any (r a b : Int) (w : World) : Calls Tryd.prog 30 #[.int .i32 r, .int .i32 a, .int .i32 b] w fun e w' => e = .returned (.bool (inB r a b)) ∧ w = w' := by
  unfold inB
  by_cases h1 : a ≤ r
  · by_cases h2 : r ≤ b
    all_goals
      go_enter Tryd.func30, Tryd.ntmps30
      go_wp2
      go_ret
      exact ⟨ret_bool (by (rw [Bool.eq_iff_iff]; simp) <;> omega), rfl⟩
  · go_enter Tryd.func30, Tryd.ntmps30
    go_wp2
    go_ret
    exact ⟨ret_bool (by (rw [Bool.eq_iff_iff]; simp) <;> omega), rfl⟩

set_option maxHeartbeats 400000 in
theorem may_any (r : Int) (w : World) : Calls Tryd.prog 11 #[.int .i32 r] w fun e w' => e = .returned (.bool (mayF r)) ∧ w = w' := by
  unfold mayF
  by_cases h1 : 55296 ≤ r
  · by_cases h2 : r ≤ 57343
    · go_enter Tryd.func11, Tryd.ntmps11
      go_wp2
      go_ret
      exact ⟨ret_bool (by (rw [Bool.eq_iff_iff]; simp) <;> omega), rfl⟩
    · by_cases h3 : r ≤ 1114111
      all_goals
        go_enter Tryd.func11, Tryd.ntmps11
        go_wp2
        go_ret
        exact ⟨ret_bool (by (rw [Bool.eq_iff_iff]; simp) <;> omega), rfl⟩
  · by_cases h3 : 0 ≤ r
    all_goals
      go_enter Tryd.func11, Tryd.ntmps11
      go_wp2
      go_ret
      exact ⟨ret_bool (by (rw [Bool.eq_iff_iff]; simp) <;> omega), rfl⟩

set_option maxHeartbeats 400000 in
theorem refMay_any (r : Int) (w : World) : Calls Tryd.prog 12 #[.int .i32 r] w fun e w' => e = .returned (.bool (mayF r)) ∧ w = w' := by
  unfold mayF
  by_cases h3 : 0 ≤ r
  · by_cases h4 : r ≤ 1114111
    · by_cases h1 : 55296 ≤ r
      · by_cases h2 : r ≤ 57343
        all_goals
          go_enter Tryd.func12, Tryd.ntmps12
          go_wp2
          go_ret
          exact ⟨ret_bool (by (rw [Bool.eq_iff_iff]; simp) <;> omega), rfl⟩
      · go_enter Tryd.func12, Tryd.ntmps12
        go_wp2
        go_ret
        exact ⟨ret_bool (by (rw [Bool.eq_iff_iff]; simp) <;> omega), rfl⟩
    · go_enter Tryd.func12, Tryd.ntmps12
      go_wp2
      go_ret
      exact ⟨ret_bool (by (rw [Bool.eq_iff_iff]; simp) <;> omega), rfl⟩
  · go_enter Tryd.func12, Tryd.ntmps12
    go_wp2
    go_ret
    exact ⟨ret_bool (by (rw [Bool.eq_iff_iff]; simp) <;> omega), rfl⟩

set_option maxHeartbeats 1000000 in
theorem control_any (r : Int) (w : World) : Calls Tryd.prog 26 #[.int .i32 r] w fun e w' => e = .returned (.bool (anyIn controls r)) ∧ w = w' := by
  go_enter Tryd.func26, Tryd.ntmps26
  go_wp2_with (go_at_call 30; refine (in_any _ _ _ _).mono ?_; rintro e w' ⟨rfl, rfl⟩)
  all_goals go_ret
  all_goals exact ⟨ret_bool (by simp_all [anyIn, controls]), rfl⟩

set_option maxHeartbeats 4000000 in
theorem mark_any (r : Int) (w : World) : Calls Tryd.prog 27 #[.int .i32 r] w fun e w' => e = .returned (.bool (anyIn marks r)) ∧ w = w' := by
  go_enter Tryd.func27, Tryd.ntmps27
  go_wp2_with (go_at_call 30; refine (in_any _ _ _ _).mono ?_; rintro e w' ⟨rfl, rfl⟩)
  all_goals go_ret
  all_goals exact ⟨ret_bool (by simp_all [anyIn, marks, inB_self]), rfl⟩

set_option maxHeartbeats 4000000 in
theorem wide_any (r : Int) (w : World) : Calls Tryd.prog 28 #[.int .i32 r] w fun e w' => e = .returned (.bool (anyIn wides r)) ∧ w = w' := by
  go_enter Tryd.func28, Tryd.ntmps28
  go_wp2_with (go_at_call 30; refine (in_any _ _ _ _).mono ?_; rintro e w' ⟨rfl, rfl⟩)
  all_goals go_ret
  all_goals exact ⟨ret_bool (by simp_all [anyIn, wides]), rfl⟩

set_option maxHeartbeats 1000000 in
theorem blank_any (r : Int) (w : World) : Calls Tryd.prog 29 #[.int .i32 r] w fun e w' => e = .returned (.bool (anyIn blanks r)) ∧ w = w' := by
  go_enter Tryd.func29, Tryd.ntmps29
  go_wp2_with (go_at_call 30; refine (in_any _ _ _ _).mono ?_; rintro e w' ⟨rfl, rfl⟩)
  all_goals go_ret
  all_goals exact ⟨ret_bool (by (simp_all [anyIn, blanks, inB_self]) <;> simp [Bool.or_assoc]), rfl⟩

set_option maxHeartbeats 1000000 in
theorem small_any (r : Int) (w : World) : Calls Tryd.prog 31 #[.int .i32 r] w fun e w' => e = .returned (.bool (anyIn smalls r)) ∧ w = w' := by
  go_enter Tryd.func31, Tryd.ntmps31
  go_wp2_with (go_at_call 30; refine (in_any _ _ _ _).mono ?_; rintro e w' ⟨rfl, rfl⟩)
  all_goals go_ret
  all_goals exact ⟨ret_bool (by simp_all [anyIn, smalls]), rfl⟩

set_option maxHeartbeats 1000000 in
theorem capital_any (r : Int) (w : World) : Calls Tryd.prog 32 #[.int .i32 r] w fun e w' => e = .returned (.bool (anyIn capitals r)) ∧ w = w' := by
  go_enter Tryd.func32, Tryd.ntmps32
  go_wp2_with (go_at_call 30; refine (in_any _ _ _ _).mono ?_; rintro e w' ⟨rfl, rfl⟩)
  all_goals go_ret
  all_goals exact ⟨ret_bool (by simp_all [anyIn, capitals]), rfl⟩

end Go.Proofs.YtjffiikdfoejhaaDoor.Cht
