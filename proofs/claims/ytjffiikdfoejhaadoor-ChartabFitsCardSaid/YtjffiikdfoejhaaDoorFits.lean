/-
  The two statements that hold chartab's calls against each other: their walks.
-/
import Derived.Test.YtjffiikdfoejhaaDoorLaws
namespace Go.Proofs.YtjffiikdfoejhaaDoor.Cht
open Go Go.RowKit

set_option maxHeartbeats 4000000 in
theorem lawTurns (r : Int) (w : World) (T : Tabs w) : Calls Tryd.prog 10 #[.int .i32 r] w fun e w' => e = .returned (.bool true) ∧ Below w.heap.size w w' := by
  have TT := Lib.hid T; clear T
  obtain ⟨f1, f2, f3, f4, f5⟩ := turns_facts r
  rcases f5 with ⟨g1, g2, g3⟩ | ⟨g1, g2, g3 | ⟨g3, g4, g5⟩⟩
  all_goals
    go_enter Tryd.func10, Tryd.ntmps10
    go_wp2_with (first | (go_at_call 18; refine (lower_any _ _ TT.out).mono ?_; rintro e w' ⟨rfl, rfl⟩) | (go_at_call 20; refine (upper_any _ _ TT.out).mono ?_; rintro e w' ⟨rfl, rfl⟩) | (go_at_call 14; refine (width_any _ _ TT.out).mono ?_; rintro e w' ⟨rfl, rfl⟩) | (go_at_call 16; refine (class_any _ _ TT.out).mono ?_; rintro e w' ⟨rfl, rfl⟩) | (go_at_call 13; refine (known_any _ TT.out).mono ?_; rintro e w1 ⟨rfl, hbel⟩))
    go_ret
    exact ⟨rfl, hbel⟩

set_option maxHeartbeats 4000000 in
theorem lawFits (r s : Int) (w : World) (T : Tabs w) (h1 : -2147483648 ≤ r) (h2 : r ≤ 2147483647) : Calls Tryd.prog 9 #[.int .i32 r, .int .u8 s] w fun e w' => e = .returned (.bool true) ∧ Below w.heap.size w w' := by
  have TT := Lib.hid T; clear T
  by_cases ew : widthF r = 0
  · have ec := class_none ew
    have hr : r < 32 ∨ 126 < r := by
      by_cases a : r < 32
      · exact .inl a
      · by_cases b : 126 < r
        · exact .inr b
        · have := charset_width 0 r (by omega) (by omega)
          rw [show charsetF 0 r = r by simp [charsetF]] at this
          omega
    have en : nameF r = (⟨#[]⟩, 0) := name_none (by omega)
    have en1 : (nameF r).1 = ⟨#[]⟩ := by rw [en]
    have en2 : (nameF r).2 = 0 := by rw [en]
    clear en
    cases hm : mayF r
    all_goals
      rcases hr with hr | hr
      all_goals
        go_enter Tryd.func9, Tryd.ntmps9
        go_wp2_with (first | (go_at_call 11; refine (may_any _ _).mono ?_; rintro e w' ⟨rfl, rfl⟩) | (go_at_call 24; refine (name_any _ _ TT.out h1 h2).mono ?_; rintro e w1 ⟨rfl, hbel⟩; have TT1 := Lib.hid (TT.out.below hbel)) | (go_at_call 14; refine (width_any _ _ TT.out).mono ?_; rintro e w' ⟨rfl, rfl⟩) | (go_at_call 16; refine (class_any _ _ TT.out).mono ?_; rintro e w' ⟨rfl, rfl⟩) | (go_at_call 13; refine (known_any _ TT1.out).mono ?_; rintro e w2 ⟨rfl, hbel2⟩))
        go_ret
        exact ⟨rfl, hbel.trans (hbel2.mono hbel.size)⟩
  · have hm : mayF r = true := may_of_width ew
    have w0 : 1 ≤ widthF r ∧ widthF r ≤ 2 := by rcases width_range r with e | e | e <;> omega
    obtain ⟨wb1, wb2⟩ := w0
    have wz : (widthF r == 0) = false := by simpa using ew
    have c0 : classF r ≠ 0 := fun e => ew ((class_zero r).1 e)
    obtain ⟨c1, c2⟩ := class_range r
    have c3 : 1 ≤ classF r := by omega
    have hr : (r < 32 ∨ 126 < r) ∨ (32 ≤ r ∧ r ≤ 126 ∧ widthF (charsetF s r) = 1) := by
      by_cases a : r < 32 ∨ 126 < r
      · exact .inl a
      · exact .inr ⟨by omega, by omega, charset_width s r (by omega) (by omega)⟩
    have cz : (classF r == 0) = false := by simpa using c0
    clear ew c0 c1
    rcases name_cases r with en | ⟨n1, n2, _, n4, n5, n6⟩
    · have en1 : (nameF r).1 = ⟨#[]⟩ := by rw [en]
      have en2 : (nameF r).2 = 0 := by rw [en]
      clear en
      rcases hr with (hr | hr) | ⟨a1, a2, a3⟩
      all_goals
        go_enter Tryd.func9, Tryd.ntmps9
        go_wp2_with (first | (go_at_call 11; refine (may_any _ _).mono ?_; rintro e w' ⟨rfl, rfl⟩) | (go_at_call 24; refine (name_any _ _ TT.out h1 h2).mono ?_; rintro e w1 ⟨rfl, hbel⟩; have TT1 := Lib.hid (TT.out.below hbel)) | (go_at_call 22; refine (charset_any _ _ _ TT1.out).mono ?_; rintro e w' ⟨rfl, rfl⟩) | (go_at_call 14; first | (refine (width_any _ _ TT.out).mono ?_; rintro e w' ⟨rfl, rfl⟩) | (refine (width_any _ _ TT1.out).mono ?_; rintro e w' ⟨rfl, rfl⟩)) | (go_at_call 16; refine (class_any _ _ TT.out).mono ?_; rintro e w' ⟨rfl, rfl⟩) | (go_at_call 13; refine (known_any _ TT1.out).mono ?_; rintro e w2 ⟨rfl, hbel2⟩))
        go_ret
        exact ⟨rfl, hbel.trans (hbel2.mono hbel.size)⟩
    · have n7 : ((nameF r).2 == 0) = false := by simp; omega
      clear c2 c3 wb1 wb2 wz cz
      rcases hr with (hr | hr) | ⟨a1, a2, a3⟩
      all_goals
        go_enter Tryd.func9, Tryd.ntmps9
        go_wp2_with (first | (go_at_call 11; refine (may_any _ _).mono ?_; rintro e w' ⟨rfl, rfl⟩) | (go_at_call 24; refine (name_any _ _ TT.out h1 h2).mono ?_; rintro e w1 ⟨rfl, hbel⟩; have TT1 := Lib.hid (TT.out.below hbel)) | (go_at_call 22; refine (charset_any _ _ _ TT1.out).mono ?_; rintro e w' ⟨rfl, rfl⟩) | (go_at_call 14; first | (refine (width_any _ _ TT.out).mono ?_; rintro e w' ⟨rfl, rfl⟩) | (refine (width_any _ _ TT1.out).mono ?_; rintro e w' ⟨rfl, rfl⟩)) | (go_at_call 16; refine (class_any _ _ TT.out).mono ?_; rintro e w' ⟨rfl, rfl⟩) | (go_at_call 13; refine (known_any _ TT1.out).mono ?_; rintro e w2 ⟨rfl, hbel2⟩))
        go_ret
        exact ⟨rfl, hbel.trans (hbel2.mono hbel.size)⟩
end Go.Proofs.YtjffiikdfoejhaaDoor.Cht
