/-
  Width and Class of chartab and of its reference, over the two tables.
-/
import Derived.Test.YtjffiikdfoejhaaDoorLeaf
import Derived.LoopTactic
import Derived.Below
import Derived.Lib.Hide
namespace Go.Proofs.YtjffiikdfoejhaaDoor.Cht
open Go Go.RowKit

/-- What block g holds at row k of a table of rows. -/
structure RowAt (g : Nat) (l : List (Int × Int × Int)) (w : World) (k : Nat) : Prop where
  first : w.cell? ⟨g, k * 3, none⟩ = some (.int .i32 (l.getD k (0, 0, 0)).1)
  last : w.cell? ⟨g, k * 3 + 1, none⟩ = some (.int .i32 (l.getD k (0, 0, 0)).2.1)
  value : w.cell? ⟨g, k * 3 + 2, none⟩ = some (.int .u8 (l.getD k (0, 0, 0)).2.2)

theorem RowAt.below {g : Nat} {l : List (Int × Int × Int)} {w w' : World} {k : Nat} (h : RowAt g l w k) (hb : Below w.heap.size w w') (hg : g < w.heap.size) : RowAt g l w' k :=
  ⟨(hb.cell (p := ⟨g, k * 3, none⟩) hg).trans h.first, (hb.cell (p := ⟨g, k * 3 + 1, none⟩) hg).trans h.last, (hb.cell (p := ⟨g, k * 3 + 2, none⟩) hg).trans h.value⟩

/-- The tables lie where the program's initialisers laid them. -/
structure Tabs (w : World) : Prop where
  size : 3 ≤ w.heap.size
  widths : ∀ k, k < 29 → RowAt 0 wrows w k
  classes : ∀ k, k < 13 → RowAt 1 crows w k
  graphics : ∀ k, k < 31 → w.cell? ⟨2, k, none⟩ = some (.int .i32 (graphs.getD k 0))

theorem Tabs.below {w w' : World} (h : Tabs w) (hb : Below w.heap.size w w') : Tabs w' :=
  have h3 := h.size
  ⟨Nat.le_trans h3 hb.size, fun k hk => (h.widths k hk).below hb (by omega), fun k hk => (h.classes k hk).below hb (by omega), fun k hk => (hb.cell (p := ⟨2, k, none⟩) (show 2 < w.heap.size by omega)).trans (h.graphics k hk)⟩

theorem wvalue (k : Nat) (h : k < 29) : 0 ≤ (wrows.getD k (0, 0, 0)).2.2 ∧ (wrows.getD k (0, 0, 0)).2.2 ≤ 255 := by
  have hall : ∀ k : Fin 29, 0 ≤ (wrows.getD k.val (0, 0, 0)).2.2 ∧ (wrows.getD k.val (0, 0, 0)).2.2 ≤ 255 := by decide +kernel
  exact hall ⟨k, h⟩

set_option maxHeartbeats 1000000 in
theorem width_any (r : Int) (w : World) (T : Tabs w) :
    Calls Tryd.prog 14 #[.int .i32 r] w fun e w' => e = .returned (.int .i64 (widthF r)) ∧ w = w' := by
  have T' := Lib.hid T.widths; clear T
  by_cases hm : mayF r = true
  · have HW : Hid (widthF r = (scan wrows r).getD 1) := by show _ = _; unfold widthF; rw [if_pos hm]
    go_enter Tryd.func14, Tryd.ntmps14
    go_wp2_with (go_at_call 11; refine (may_any _ _).mono ?_; rintro e w' ⟨rfl, rfl⟩)
    go_loop [7] (fun i => ∃ k : Nat, k ≤ 29 ∧ i = .int .i64 k ∧ Hid (scan wrows r = scan (wrows.drop k) r)) (fun i => 29 - (intOf i).toNat)
    case atStart => exact ⟨0, by omega, rfl, rfl⟩
    case round =>
      obtain ⟨k, hk, rfl, hs⟩ := hrel
      by_cases hlt : k < 29
      · have R := T'.out k hlt
        have c0 := R.first
        have c1 := R.last
        have c2 := R.value
        have HD := Lib.hid (scan_drop wrows r k hlt)
        obtain ⟨v0, v1⟩ := wvalue k hlt
        clear R
        generalize hrow : wrows.getD k (0, 0, 0) = row at c0 c1 c2 HD v0 v1
        clear hrow
        obtain ⟨x, y, z⟩ := row
        by_cases hx : r < x
        · go_wp2
          go_ret
          exact ⟨ret_int (by rw [HW.out, hs.out, HD.out, if_pos hx]; rfl), rfl⟩
        · by_cases hy : r ≤ y
          · go_wp2
            go_ret
            exact ⟨ret_int (by rw [HW.out, hs.out, HD.out, if_neg (show ¬ r < x by omega), if_pos hy, IntWalk.wrap64_in z ⟨by omega, by omega⟩]; rfl), rfl⟩
          · go_wp2
            go_round
            case rel => exact ⟨k + 1, by omega, by go_num, by rw [hs.out, HD.out, if_neg (show ¬ r < x by omega), if_neg (show ¬ r ≤ y by omega)]; exact Lib.hid rfl⟩
            case measure => simp [intOf]; omega
      · go_wp2
        go_ret
        exact ⟨ret_int (by rw [HW.out, hs.out, List.drop_of_length_le (by show 29 ≤ k; omega)]; rfl), rfl⟩
  · have hm' : mayF r = false := by simpa using hm
    go_enter Tryd.func14, Tryd.ntmps14
    go_wp2_with (go_at_call 11; refine (may_any _ _).mono ?_; rintro e w' ⟨rfl, rfl⟩)
    go_ret
    exact ⟨ret_int (by rw [width_no hm']), rfl⟩
set_option maxHeartbeats 1000000 in
theorem class_any (r : Int) (w : World) (T : Tabs w) :
    Calls Tryd.prog 16 #[.int .i32 r] w fun e w' => e = .returned (.int .u8 (classF r)) ∧ w = w' := by
  have TT := Lib.hid T
  have T' := Lib.hid T.classes; clear T
  by_cases hm : widthF r = 0
  · have HC := Lib.hid (class_none hm)
    have hb : (widthF r == 0) = true := by simpa using hm
    clear hm
    go_enter Tryd.func16, Tryd.ntmps16
    go_wp2_with (go_at_call 14; refine (width_any _ _ TT.out).mono ?_; rintro e w' ⟨rfl, rfl⟩)
    go_ret
    exact ⟨ret_int (by rw [HC.out]), rfl⟩
  · have HC : Hid (classF r = (scan crows r).getD (if r < 128 then 5 else 6)) := by show _ = _; unfold classF; rw [if_neg hm]
    have hb : (widthF r == 0) = false := by simpa using hm
    clear hm
    go_enter Tryd.func16, Tryd.ntmps16
    go_wp2_with (go_at_call 14; refine (width_any _ _ TT.out).mono ?_; rintro e w' ⟨rfl, rfl⟩)
    go_loop [7] (fun i => ∃ k : Nat, k ≤ 13 ∧ i = .int .i64 k ∧ Hid (scan crows r = scan (crows.drop k) r)) (fun i => 13 - (intOf i).toNat)
    case atStart => exact ⟨0, by omega, rfl, rfl⟩
    case round =>
      obtain ⟨k, hk, rfl, hs⟩ := hrel
      by_cases hlt : k < 13
      · have R := T'.out k hlt
        have c0 := R.first
        have c1 := R.last
        have c2 := R.value
        have HD := Lib.hid (scan_drop crows r k hlt)
        clear R
        generalize hrow : crows.getD k (0, 0, 0) = row at c0 c1 c2 HD
        clear hrow
        obtain ⟨x, y, z⟩ := row
        by_cases hx : r < x
        · by_cases h128 : r < 128
          all_goals
            go_wp2
            go_ret
          · exact ⟨ret_int (by rw [HC.out, hs.out, HD.out, if_pos hx, if_pos h128]; rfl), rfl⟩
          · exact ⟨ret_int (by rw [HC.out, hs.out, HD.out, if_pos hx, if_neg (show ¬ r < 128 by omega)]; rfl), rfl⟩
        · by_cases hy : r ≤ y
          · go_wp2
            go_ret
            exact ⟨ret_int (by rw [HC.out, hs.out, HD.out, if_neg (show ¬ r < x by omega), if_pos hy]; rfl), rfl⟩
          · go_wp2
            go_round
            case rel => exact ⟨k + 1, by omega, by go_num, by rw [hs.out, HD.out, if_neg (show ¬ r < x by omega), if_neg (show ¬ r ≤ y by omega)]; exact Lib.hid rfl⟩
            case measure => simp [intOf]; omega
      · have HE : Hid (classF r = if r < 128 then 5 else 6) := by
          show _ = _
          rw [HC.out, hs.out, List.drop_of_length_le (by show 13 ≤ k; omega)]; rfl
        by_cases h128 : r < 128
        all_goals
          go_wp2
          go_ret
        · exact ⟨ret_int (by rw [HE.out, if_pos h128]), rfl⟩
        · exact ⟨ret_int (by rw [HE.out, if_neg (show ¬ r < 128 by omega)]), rfl⟩

/-! The reference. -/
set_option maxHeartbeats 1000000 in
theorem refWidth_any (r : Int) (w : World) :
    Calls Tryd.prog 15 #[.int .i32 r] w fun e w' => e = .returned (.int .i64 (widthF r)) ∧ w = w' := by
  cases hm : mayF r with
  | false =>
    have HW := Lib.hid (width_no hm)
    go_enter Tryd.func15, Tryd.ntmps15
    go_wp2_with (first | (go_at_call 12; refine (refMay_any _ _).mono ?_; rintro e w' ⟨rfl, rfl⟩) | (go_at_call 26; refine (control_any _ _).mono ?_; rintro e w' ⟨rfl, rfl⟩) | (go_at_call 27; refine (mark_any _ _).mono ?_; rintro e w' ⟨rfl, rfl⟩) | (go_at_call 28; refine (wide_any _ _).mono ?_; rintro e w' ⟨rfl, rfl⟩))
    all_goals go_ret
    all_goals exact ⟨ret_int (by rw [HW.out]), rfl⟩
  | true =>
    cases hc : anyIn controls r with
    | true =>
      have HW := Lib.hid (width_control hc)
      go_enter Tryd.func15, Tryd.ntmps15
      go_wp2_with (first | (go_at_call 12; refine (refMay_any _ _).mono ?_; rintro e w' ⟨rfl, rfl⟩) | (go_at_call 26; refine (control_any _ _).mono ?_; rintro e w' ⟨rfl, rfl⟩) | (go_at_call 27; refine (mark_any _ _).mono ?_; rintro e w' ⟨rfl, rfl⟩) | (go_at_call 28; refine (wide_any _ _).mono ?_; rintro e w' ⟨rfl, rfl⟩))
      all_goals go_ret
      all_goals exact ⟨ret_int (by rw [HW.out]), rfl⟩
    | false =>
      cases hk : anyIn marks r with
      | true =>
        have HW := Lib.hid (width_mark hk)
        go_enter Tryd.func15, Tryd.ntmps15
        go_wp2_with (first | (go_at_call 12; refine (refMay_any _ _).mono ?_; rintro e w' ⟨rfl, rfl⟩) | (go_at_call 26; refine (control_any _ _).mono ?_; rintro e w' ⟨rfl, rfl⟩) | (go_at_call 27; refine (mark_any _ _).mono ?_; rintro e w' ⟨rfl, rfl⟩) | (go_at_call 28; refine (wide_any _ _).mono ?_; rintro e w' ⟨rfl, rfl⟩))
        all_goals go_ret
        all_goals exact ⟨ret_int (by rw [HW.out]), rfl⟩
      | false =>
        cases hd : anyIn wides r with
        | true =>
          have HW := Lib.hid (width_wide hm hd)
          go_enter Tryd.func15, Tryd.ntmps15
          go_wp2_with (first | (go_at_call 12; refine (refMay_any _ _).mono ?_; rintro e w' ⟨rfl, rfl⟩) | (go_at_call 26; refine (control_any _ _).mono ?_; rintro e w' ⟨rfl, rfl⟩) | (go_at_call 27; refine (mark_any _ _).mono ?_; rintro e w' ⟨rfl, rfl⟩) | (go_at_call 28; refine (wide_any _ _).mono ?_; rintro e w' ⟨rfl, rfl⟩))
          all_goals go_ret
          all_goals exact ⟨ret_int (by rw [HW.out]), rfl⟩
        | false =>
          have HW := Lib.hid (width_else hm hc hk hd)
          go_enter Tryd.func15, Tryd.ntmps15
          go_wp2_with (first | (go_at_call 12; refine (refMay_any _ _).mono ?_; rintro e w' ⟨rfl, rfl⟩) | (go_at_call 26; refine (control_any _ _).mono ?_; rintro e w' ⟨rfl, rfl⟩) | (go_at_call 27; refine (mark_any _ _).mono ?_; rintro e w' ⟨rfl, rfl⟩) | (go_at_call 28; refine (wide_any _ _).mono ?_; rintro e w' ⟨rfl, rfl⟩))
          all_goals go_ret
          all_goals exact ⟨ret_int (by rw [HW.out]), rfl⟩

set_option maxHeartbeats 1000000 in
theorem refClass_any (r : Int) (w : World) :
    Calls Tryd.prog 17 #[.int .i32 r] w fun e w' => e = .returned (.int .u8 (classF r)) ∧ w = w' := by
  by_cases hm : widthF r = 0
  · have HC := Lib.hid (class_none hm)
    have hb : (widthF r == 0) = true := by simpa using hm
    clear hm
    go_enter Tryd.func17, Tryd.ntmps17
    go_wp2_with (go_at_call 15; refine (refWidth_any _ _).mono ?_; rintro e w' ⟨rfl, rfl⟩)
    go_ret
    exact ⟨ret_int (by rw [HC.out]), rfl⟩
  · have hb : (widthF r == 0) = false := by simpa using hm
    have fin : (anyIn blanks r = true ∧ Hid (classF r = 1)) ∨ (anyIn blanks r = false ∧ inB r 48 57 = true ∧ Hid (classF r = 2)) ∨ (anyIn blanks r = false ∧ inB r 48 57 = false ∧ anyIn smalls r = true ∧ Hid (classF r = 3)) ∨ (anyIn blanks r = false ∧ inB r 48 57 = false ∧ anyIn smalls r = false ∧ anyIn capitals r = true ∧ Hid (classF r = 4)) ∨ (anyIn blanks r = false ∧ inB r 48 57 = false ∧ anyIn smalls r = false ∧ anyIn capitals r = false ∧ r < 128 ∧ Hid (classF r = 5)) ∨ (anyIn blanks r = false ∧ inB r 48 57 = false ∧ anyIn smalls r = false ∧ anyIn capitals r = false ∧ ¬ r < 128 ∧ Hid (classF r = 6)) := by
      cases h1 : anyIn blanks r with
      | true => exact .inl ⟨rfl, class_blank hm h1⟩
      | false =>
        cases h2 : inB r 48 57 with
        | true => exact .inr (.inl ⟨rfl, rfl, class_digit hm h2⟩)
        | false =>
          cases h3 : anyIn smalls r with
          | true => exact .inr (.inr (.inl ⟨rfl, rfl, rfl, class_small hm h3⟩))
          | false =>
            cases h4 : anyIn capitals r with
            | true => exact .inr (.inr (.inr (.inl ⟨rfl, rfl, rfl, rfl, class_capital hm h4⟩)))
            | false =>
              have hc := class_else hm h1 h2 h3 h4
              by_cases h5 : r < 128
              · rw [if_pos h5] at hc
                exact .inr (.inr (.inr (.inr (.inl ⟨rfl, rfl, rfl, rfl, h5, hc⟩))))
              · rw [if_neg h5] at hc
                exact .inr (.inr (.inr (.inr (.inr ⟨rfl, rfl, rfl, rfl, h5, hc⟩))))
    clear hm
    rcases fin with ⟨h1, HC⟩ | ⟨h1, h2, HC⟩ | ⟨h1, h2, h3, HC⟩ | ⟨h1, h2, h3, h4, HC⟩ | ⟨h1, h2, h3, h4, h5, HC⟩ | ⟨h1, h2, h3, h4, h5, HC⟩
    all_goals
      go_enter Tryd.func17, Tryd.ntmps17
      go_wp2_with (first | (go_at_call 15; refine (refWidth_any _ _).mono ?_; rintro e w' ⟨rfl, rfl⟩) | (go_at_call 29; refine (blank_any _ _).mono ?_; rintro e w' ⟨rfl, rfl⟩) | (go_at_call 30; refine (in_any _ _ _ _).mono ?_; rintro e w' ⟨rfl, rfl⟩) | (go_at_call 31; refine (small_any _ _).mono ?_; rintro e w' ⟨rfl, rfl⟩) | (go_at_call 32; refine (capital_any _ _).mono ?_; rintro e w' ⟨rfl, rfl⟩))
      go_ret
      exact ⟨ret_int (by rw [HC.out]), rfl⟩

end Go.Proofs.YtjffiikdfoejhaaDoor.Cht
