/-
  row: Join.
-/
import Derived.Test.YtnnaagkdlmamjaaROps3
namespace Go.Proofs.Ytnnaagkdlmamjaa.Rw
open Go Go.RowKit Go.Proofs.Ytnnaagkdlmamjaa.Com

def addMark (c : Cel) (x : Int) : Cel := ⟨c.r, c.m ++ [x], c.wide, c.a⟩
theorem pad4_add {m : List Int} (h : m.length < 4) (x : Int) : pad4 (m ++ [x]) = (pad4 m).set m.length x := by
  unfold pad4
  match m, h with
  | [], _ => rfl
  | [_], _ => rfl
  | [_, _], _ => rfl
  | [_, _, _], _ => rfl
theorem cellC_add {c : Cel} (h : c.m.length < 4) (x : Int) : cellC (addMark c x) = ((cellC c).set (1 + c.m.length) (.int .i32 x)).set 5 (.int .u8 ((c.m.length : Int) + 1)) := by
  obtain ⟨r, m, wd, a⟩ := c
  simp only at h
  unfold cellC addMark
  simp only [pad4_add h]
  match m, h with
  | [], _ => rfl
  | [_], _ => rfl
  | [_, _], _ => rfl
  | [_, _, _], _ => rfl
theorem splice_put {α : Type} (cur vs : List α) (off i : Nat) (v : α) (h : off + vs.length ≤ cur.length) (hi : i < vs.length) : splice cur off (vs.set i v) = (splice cur off vs).set (off + i) v := by
  unfold splice
  rw [List.set_append_right _ _ (by simp; omega), List.length_take, Nat.min_eq_left (by omega), Nat.add_sub_cancel_left, List.set_append_left _ _ hi, List.length_set]
theorem RowX.marked {w : World} {d g n cap : Nat} {tail : List Value} {l : List Cel} (h : RowX w d g n cap tail l) {i : Nat} (hi : i < l.length) (hm : l[i].m.length < 4) (x : Int) :
    fl cellC (l.set i (addMark l[i] x)) ++ tail = ((Rw.fl cellC l ++ tail).set (i * 10 + (1 + l[i].m.length)) (.int .i32 x)).set (i * 10 + 5) (.int .u8 ((l[i].m.length : Int) + 1)) := by
  have hfit := h.fits (i := i) (by rw [← h.len]; exact hi) l[i]
  have e1 := fl_splice cellC_length l [addMark l[i] x] tail i (by simp; omega)
  have e0 := fl_splice cellC_length l [l[i]] tail i (by simp; omega)
  rw [fl_one, splice_set _ _ _ hi] at e1 e0
  rw [List.set_getElem_self] at e0
  rw [← e1, cellC_add hm, splice_put _ _ _ _ _ (by simpa using hfit) (by simp [cellC_length]), splice_put _ _ _ _ _ hfit (by rw [cellC_length]; omega), e0]
theorem cellC_mark (c : Cel) {k : Nat} (hk : k < 4) : ∃ v, (cellC c)[1 + k]? = some (.int .i32 v) := by
  unfold cellC
  rw [show 1 + k = k + 1 by omega, List.getElem?_cons_succ, List.getElem?_append_left (by simp [pad4_length]; omega), List.getElem?_map, List.getElem?_eq_getElem (by rw [pad4_length]; exact hk)]
  exact ⟨_, rfl⟩

section
variable {w : World} {d g n cap : Nat} {tail : List Value} {l : List Cel}
theorem cjoin_full (h : RowX w d g n cap tail l) {i : Nat} (hi : i < l.length) (hm : l[i].m.length = 4) (x : Int) :
    Calls Try.prog 43 #[.pointer (some ⟨g, i * 10, none⟩), .int .i32 x] w fun e w' => e = .returned (.int .i64 8) ∧ w = w' := by
  have hc := h.count hi
  rw [hm] at hc
  clear h
  go_enter Try.func43, Try.ntmps43
  go_wp2
  go_ret
  exact ⟨rfl, rfl⟩
set_option maxHeartbeats 1000000 in
theorem cjoin_add (h : RowX w d g n cap tail l) {i : Nat} (hi : i < l.length) (hm : l[i].m.length < 4) (x : Int) :
    Calls Try.prog 43 #[.pointer (some ⟨g, i * 10, none⟩), .int .i32 x] w (OpDone w d g n cap tail (l.set i (addMark l[i] x)) (.int .i64 0)) := by
  have hc := h.count hi
  have hmk := h.marked hi hm x
  have hR := h.row
  obtain ⟨v0, hv0⟩ := cellC_mark l[i] hm
  have hcell := h.at' hi (by omega) hv0
  have hfr := fun j => h.row.free j
  have hb1 := (h.row.set (i * 10 + (1 + l[i].m.length)) (.int .i32 x)).set (i * 10 + 5) (.int .u8 ((l[i].m.length : Int) + 1))
  rw [List.setIfInBounds_toArray, List.setIfInBounds_toArray, ← hmk] at hb1
  have ho : Only [g] w ((w.setCell ⟨g, i * 10 + (1 + l[i].m.length), none⟩ (.int .i32 x)).setCell ⟨g, i * 10 + 5, none⟩ (.int .u8 ((l[i].m.length : Int) + 1))) := by
    have o1 : Only [g] w (w.setCell ⟨g, i * 10 + (1 + l[i].m.length), none⟩ (.int .i32 x)) := Only.setCell w ⟨g, i * 10 + (1 + l[i].m.length), none⟩ _
    exact o1.trans (Only.setCell _ ⟨g, i * 10 + 5, none⟩ _)
  have hres := h.turned ho hb1 (by simp)
  replace hres := Lib.hid (And.intro hres ho)
  clear hmk hR hb1 ho hv0
  generalize l.set i (addMark l[i] x) = l2 at hres ⊢
  generalize l[i].m.length = k at hc hm hcell hres
  have hk4 : ((k : Int) == 4) = false := beq_eq_false_iff_ne.2 (by omega)
  have hfr1 := hfr (i * 10 + 1 + k)
  rw [← Nat.add_assoc] at hcell
  have hk3 : (k : Int) < 4 := by omega
  have hne : i * 10 + 5 ≠ i * 10 + 1 + k := by omega
  rw [show i * 10 + (1 + k) = i * 10 + 1 + k by omega] at hres
  have hfr2 := hfr (i * 10 + 5)
  clear h hfr
  go_enter Try.func43, Try.ntmps43
  go_wp2
  go_region
  go_wp2
  go_ret
  exact ⟨rfl, hres.out.1.drawn, hres.out.2.trans (Only.drewN _ _ 1)⟩

/-- The place whose marks are meant: of a right half the left half. -/
def joinAt (l : List Cel) (i : Nat) : Nat := if W l i = 2 then i - 1 else i
theorem joinAt_lt {l : List Cel} {i : Nat} (h : i < l.length) : joinAt l i < l.length := by unfold joinAt; split <;> omega
def joinL (l : List Cel) (i : Nat) (x : Int) : List Cel := match l[joinAt l i]? with
  | some c => if c.m.length < 4 then l.set (joinAt l i) (addMark c x) else l
  | none => l
def joinV (l : List Cel) (i : Nat) : Int := match l[joinAt l i]? with
  | some c => if c.m.length < 4 then 0 else 8
  | none => 8

theorem join_no (h : RowX w d g n cap tail l) (col x : Int) (hno : runeB x = false ∨ col < 0 ∨ (n : Int) ≤ col) :
    Calls Try.prog 15 #[.pointer (some ⟨d, 0, none⟩), .int .i64 col, .int .i32 x] w fun e w' => e = .returned (.int .i64 2) ∧ w = w' := by
  have hn := h.pos
  have hn0 : ((n : Int) == 0) = false := beq_eq_false_iff_ne.2 (by omega)
  have hlen := Lib.hid (len_any h)
  have hnot := Lib.hid (fun j h0 => has_no h j h0)
  have hmp := mayPut_any x
  by_cases h1 : runeB x = false
  · rw [h1] at hmp
    replace hmp := Lib.hid hmp
    clear h hno h1
    go_enter Try.func15, Try.ntmps15
    go_wp2_with (first | (go_at_call 27; (with_reducible refine (hlen.out).mono ?_); rintro e w' ⟨rfl, rfl⟩) | (go_at_call 41; (with_reducible refine (hmp.out _).mono ?_); rintro e w' ⟨rfl, rfl⟩))
    go_ret
    exact ⟨rfl, rfl⟩
  · have h1 : runeB x = true := by simpa using h1
    have h2 : col < 0 ∨ (n : Int) ≤ col := by
      rcases hno with hh | hh
      · simp [h1] at hh
      · exact hh
    rw [h1] at hmp
    replace hmp := Lib.hid hmp
    replace h2 := Lib.hid h2
    clear h hno h1
    go_enter Try.func15, Try.ntmps15
    go_wp2_with (first | (go_at_call 27; (with_reducible refine (hlen.out).mono ?_); rintro e w' ⟨rfl, rfl⟩) | (go_at_call 41; (with_reducible refine (hmp.out _).mono ?_); rintro e w' ⟨rfl, rfl⟩) | (go_at_call 42; (with_reducible refine (hnot.out _ h2.out).mono ?_); rintro e w' ⟨rfl, rfl⟩))
    go_ret
    exact ⟨rfl, rfl⟩

set_option maxHeartbeats 2000000 in
theorem join_yes (h : RowX w d g n cap tail l) (hwh : Whole l) (h4 : ∀ c ∈ l, c.m.length ≤ 4) (col : Nat) (x : Int) (hx : runeB x = true) (hcol : col < n) :
    Calls Try.prog 15 #[.pointer (some ⟨d, 0, none⟩), .int .i64 col, .int .i32 x] w (OpDone w d g n cap tail (joinL l col x) (.int .i64 (joinV l col))) := by
  have hn := h.pos
  have hn5 := h.small
  have hle := h.le
  have hcm := h.cap
  unfold maxLen at hcm
  have hn0 : ((n : Int) == 0) = false := beq_eq_false_iff_ne.2 (by omega)
  have hlen := Lib.hid (len_any h)
  have hyes := Lib.hid (fun j h0 h1 => has_yes h j h0 h1)
  have hmp := mayPut_any x
  rw [hx] at hmp
  replace hmp := Lib.hid hmp
  have hcl : col < l.length := by rw [h.len]; exact hcol
  have hjl := joinAt_lt hcl
  have hc := h.slice
  have hwd := h.wide hcl
  have hWc := W_at hcl
  have hcall : Calls Try.prog 43 #[.pointer (some ⟨g, joinAt l col * 10, none⟩), .int .i32 x] w (OpDone w d g n cap tail (joinL l col x) (.int .i64 (joinV l col))) := by
    unfold joinL joinV
    rw [List.getElem?_eq_getElem hjl]
    simp only
    by_cases hm : l[joinAt l col].m.length < 4
    · rw [if_pos hm, if_pos hm]
      exact cjoin_add h hjl hm x
    · rw [if_neg hm, if_neg hm]
      refine (cjoin_full h hjl ?_ x).mono fun e w' ⟨he, hw⟩ => ⟨he, hw ▸ h, hw ▸ Only.refl _ _⟩
      have := h4 _ (List.getElem_mem hjl)
      omega
  generalize joinL l col x = l2 at hcall ⊢
  generalize joinV l col = v2 at hcall ⊢
  replace hcall := Lib.hid hcall
  by_cases h2 : W l col = 2
  · have hpos : col ≠ 0 := fun e => (whole_iff l).1 hwh |>.1 (by rw [← e]; exact h2)
    rw [h2] at hWc
    rw [← hWc] at hwd
    have hj : joinAt l col = col - 1 := if_pos h2
    rw [hj] at hcall
    obtain ⟨c, rfl⟩ : ∃ c, col = c + 1 := ⟨col - 1, by omega⟩
    rw [Nat.add_sub_cancel] at hcall
    clear h hj hWc h2 hcl hjl h4 hwh hx
    go_enter Try.func15, Try.ntmps15
    go_wp2_with (first
      | (go_at_call 27; (with_reducible refine (hlen.out).mono ?_); rintro e w' ⟨rfl, rfl⟩)
      | (go_at_call 41; (with_reducible refine (hmp.out _).mono ?_); rintro e w' ⟨rfl, rfl⟩)
      | (go_at_call 42; (with_reducible refine (hyes.out _ (by omega) (by omega)).mono ?_); rintro e w' ⟨rfl, rfl⟩)
      | (go_at_call 43; (with_reducible refine (hcall.out).mono ?_); rintro e w1 ⟨rfl, hR1, ho1⟩))
    go_ret
    exact ⟨rfl, hR1, ho1⟩
  · have hj : joinAt l col = col := if_neg h2
    rw [hj] at hcall
    have hne : (l[col].wide == 2) = false := by rw [← hWc]; simpa using h2
    generalize l[col].wide = wd at hwd hne
    clear h hj hWc h2 hcl hjl h4 hwh hx
    go_enter Try.func15, Try.ntmps15
    go_wp2_with (first
      | (go_at_call 27; (with_reducible refine (hlen.out).mono ?_); rintro e w' ⟨rfl, rfl⟩)
      | (go_at_call 41; (with_reducible refine (hmp.out _).mono ?_); rintro e w' ⟨rfl, rfl⟩)
      | (go_at_call 42; (with_reducible refine (hyes.out _ (by omega) (by omega)).mono ?_); rintro e w' ⟨rfl, rfl⟩)
      | (go_at_call 43; (with_reducible refine (hcall.out).mono ?_); rintro e w1 ⟨rfl, hR1, ho1⟩))
    go_ret
    exact ⟨rfl, hR1, ho1⟩
end
end Go.Proofs.Ytnnaagkdlmamjaa.Rw
