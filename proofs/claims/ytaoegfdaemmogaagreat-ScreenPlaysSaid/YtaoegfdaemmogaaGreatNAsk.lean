/-
  screen: all that is known of a screen; the calls that ask.
-/
import Derived.Test.YtaoegfdaemmogaaGreatNChg
namespace Go.Proofs.YtaoegfdaemmogaaGreat.Scn
open Go Go.RowKit Go.Proofs.YtaoegfdaemmogaaGreat.Com Go.Proofs.YtaoegfdaemmogaaGreat.Rw Go.Proofs.YtaoegfdaemmogaaGreat.Lns

/-- At x is a screen, at s its store; they show S. -/
def SC (B : Nat) (w : World) (x s : Nat) (S : Scr) : Prop :=
  ∃ sv lv L R, MidX B w x s S.nx S.most S.kp S.cols sv lv S.top S.bot L.length (fl lineC L) L R ∧ vw L = S.L ∧ vw R = S.R
section
variable {B : Nat} {w w' : World} {x s : Nat} {S : Scr}
theorem SC.fr {B' : Nat} {ts : List TypeId} (h : SC B w x s S) (hf : Fr B' ts w w') (hn : NoPT ts) : SC B w' x s S := by
  obtain ⟨sv, lv, L, R, h1, h2, h3⟩ := h
  exact ⟨sv, lv, L, R, h1.fr hf hn, h2, h3⟩
theorem SC.below (h : SC B w x s S) (hb : Below w.heap.size w w') : SC B w' x s S := h.fr (Fr.of_below (B := 0) (ts := []) hb) (by simp [NoPT])
theorem SC.lt (h : SC B w x s S) : x < w.heap.size ∧ B ≤ x := by
  obtain ⟨sv, lv, L, R, h1, h2, h3⟩ := h
  exact ⟨h1.ln.blk.lt, h1.ln.lo⟩
/-- The cells that a call reads. -/
theorem SC.cells (h : SC B w x s S) : w.cell? ⟨x, 0, none⟩ = some (.pointer (some ⟨s, 0, none⟩)) ∧ w.cell? ⟨x, 1, none⟩ = some (.bool S.kp) ∧ w.cell? ⟨x, 2, none⟩ = some (.int .i64 S.cols) ∧ (∃ ao c, w.cell? ⟨x, 3, none⟩ = some (.slice ao S.L.length c)) ∧ w.cell? ⟨x, 4, none⟩ = some (.int .i64 S.top) ∧ w.cell? ⟨x, 5, none⟩ = some (.int .i64 S.bot) := by
  obtain ⟨sv, lv, L, R, h1, h2, h3⟩ := h
  obtain ⟨c0, c1, c2, c3, c4, c5⟩ := h1.ln.cells
  obtain ⟨ao, c, rfl, _⟩ := h1.ln.shape
  rw [← h2, vw_len]
  exact ⟨c0, c1, c2, ⟨ao, c, c3⟩, c4, c5⟩
theorem SC.elem (h : SC B w x s S) {i : Nat} (hi : i < S.L.length) : ∃ g c d, w.cell? ⟨x, 3, none⟩ = some (.slice (some ⟨g, 0, none⟩) S.L.length c) ∧ w.cell? ⟨g, i * 2, none⟩ = some (.int .i64 S.L[i].1) ∧ w.cell? ⟨g, i * 2 + 1, none⟩ = some (.pointer (some ⟨d, 0, none⟩)) := by
  obtain ⟨sv, lv, L, R, h1, h2, h3⟩ := h
  have hl : L.length = S.L.length := by rw [← h2, vw_len]
  have hiL : i < L.length := by omega
  have hc := h1.ln.cells.2.2.2.1
  obtain ⟨g, c, rfl, q0, q1, _⟩ := h1.elem rfl hiL
  rw [hl] at hc
  refine ⟨g, c, _, hc, ?_, q1⟩
  rw [q0]
  simp only [← h2, vw, List.getElem_map]

theorem made_sc (h : SC B w x s S) (hl : 1 ≤ S.L.length) : Calls Tryz.prog 45 #[.pointer (some ⟨x, 0, none⟩)] w fun e w' => e = .returned (.bool true) ∧ w = w' := by
  obtain ⟨_, _, _, ⟨ao, c, c3⟩, _, _⟩ := h.cells
  have hl' : (0 : Int) < (S.L.length : Int) := by omega
  generalize S.L.length = n at c3 hl'
  clear h
  go_enter Tryz.func45, Tryz.ntmps45
  go_wp2
  go_ret
  exact ⟨ret_bool (decide_eq_true (by omega)), rfl⟩
theorem rows_sc (h : SC B w x s S) (hl : 1 ≤ S.L.length) : Calls Tryz.prog 36 #[.pointer (some ⟨x, 0, none⟩)] w fun e w' => e = .returned (.int .i64 S.L.length) ∧ w = w' := by
  have hm := Lib.hid (made_sc h hl)
  obtain ⟨_, _, _, ⟨ao, c, c3⟩, _, _⟩ := h.cells
  generalize S.L.length = n at c3 ⊢
  clear h
  go_enter Tryz.func36, Tryz.ntmps36
  go_wp2_with ((go_at_call 45; (with_reducible refine (hm.out).mono ?_); rintro e w' ⟨rfl, rfl⟩))
  go_ret
  exact ⟨rfl, rfl⟩
theorem cols_sc (h : SC B w x s S) (hl : 1 ≤ S.L.length) : Calls Tryz.prog 37 #[.pointer (some ⟨x, 0, none⟩)] w fun e w' => e = .returned (.int .i64 S.cols) ∧ w = w' := by
  have hm := Lib.hid (made_sc h hl)
  obtain ⟨_, _, c2, _, _, _⟩ := h.cells
  generalize S.cols = n at c2 ⊢
  clear h
  go_enter Tryz.func37, Tryz.ntmps37
  go_wp2_with ((go_at_call 45; (with_reducible refine (hm.out).mono ?_); rintro e w' ⟨rfl, rfl⟩))
  go_ret
  exact ⟨rfl, rfl⟩
theorem margins_sc (h : SC B w x s S) (hl : 1 ≤ S.L.length) : Calls Tryz.prog 35 #[.pointer (some ⟨x, 0, none⟩)] w fun e w' => e = .returned (.tuple #[.int .i64 S.top, .int .i64 S.bot]) ∧ Below w.heap.size w w' := by
  have hm := Lib.hid (made_sc h hl)
  obtain ⟨_, _, _, _, c4, c5⟩ := h.cells
  generalize S.top = t at c4 ⊢
  generalize S.bot = b at c5 ⊢
  clear h
  go_enter Tryz.func35, Tryz.ntmps35
  go_wp2_with ((go_at_call 45; (with_reducible refine (hm.out).mono ?_); rintro e w' ⟨rfl, rfl⟩))
  go_quiet (fail)
  go_wp2
  go_ret2
  exact ⟨rfl, below_dr (Below.refl _ _) _⟩
theorem has_sc (h : SC B w x s S) (hl : 1 ≤ S.L.length) (i : Int) : Calls Tryz.prog 56 #[.pointer (some ⟨x, 0, none⟩), .int .i64 i] w fun e w' => e = .returned (.bool (decide (0 ≤ i ∧ i < S.L.length))) ∧ w = w' := by
  have hm := Lib.hid (rows_sc h hl)
  obtain ⟨b, hb⟩ : ∃ b, b = decide (0 ≤ i ∧ i < (S.L.length : Int)) := ⟨_, rfl⟩
  rw [← hb]
  replace hb := Lib.hid hb
  clear h
  by_cases h0 : 0 ≤ i
  · go_enter Tryz.func56, Tryz.ntmps56
    go_wp2_with ((go_at_call 36; (with_reducible refine (hm.out).mono ?_); rintro e w' ⟨rfl, rfl⟩))
    go_ret
    exact ⟨ret_bool (by rw [hb.out, Bool.eq_iff_iff]; simp; omega), rfl⟩
  · have h1 : decide (0 ≤ i) = false := decide_eq_false h0
    go_enter Tryz.func56, Tryz.ntmps56
    go_wp2_with ((go_at_call 36; (with_reducible refine (hm.out).mono ?_); rintro e w' ⟨rfl, rfl⟩))
    go_ret
    exact ⟨ret_bool (by rw [hb.out]; symm; exact decide_eq_false (by omega)), rfl⟩
theorem within_sc (h : SC B w x s S) (at' : Int) : Calls Tryz.prog 53 #[.pointer (some ⟨x, 0, none⟩), .int .i64 at'] w fun e w' => e = .returned (.bool (decide ((S.top : Int) ≤ at' ∧ at' ≤ S.bot))) ∧ Below w.heap.size w w' := by
  obtain ⟨_, _, _, _, c4, c5⟩ := h.cells
  obtain ⟨b, hb⟩ : ∃ b, b = decide ((S.top : Int) ≤ at' ∧ at' ≤ S.bot) := ⟨_, rfl⟩
  rw [← hb]
  generalize S.top = t at c4 hb
  generalize S.bot = bo at c5 hb
  replace hb := Lib.hid hb
  clear h
  by_cases h0 : (t : Int) ≤ at'
  · go_enter Tryz.func53, Tryz.ntmps53
    go_wp2
    try go_quiet (fail)
    try go_wp2
    go_ret
    exact ⟨ret_bool (by rw [hb.out, Bool.eq_iff_iff]; simp; omega), by first | exact Below.refl _ _ | exact below_dr (Below.refl _ _) _⟩
  · have h1 : decide ((t : Int) ≤ at') = false := decide_eq_false h0
    go_enter Tryz.func53, Tryz.ntmps53
    go_wp2
    try go_quiet (fail)
    try go_wp2
    go_ret
    exact ⟨ret_bool (by rw [hb.out]; symm; exact decide_eq_false (by omega)), by first | exact Below.refl _ _ | exact below_dr (Below.refl _ _) _⟩
theorem id_sc (h : SC B w x s S) (hl : 1 ≤ S.L.length) (i : Int) : Calls Tryz.prog 40 #[.pointer (some ⟨x, 0, none⟩), .int .i64 i] w fun e w' => e = .returned (.int .i64 (idAt S.L i)) ∧ w = w' := by
  have hm := has_sc h hl i
  by_cases hi : 0 ≤ i ∧ i < S.L.length
  · obtain ⟨k, rfl⟩ : ∃ k : Nat, i = k := ⟨i.toNat, by omega⟩
    have hk : k < S.L.length := by omega
    obtain ⟨g, c, d, c3, q0, q1⟩ := h.elem hk
    rw [idAt_in hk]
    rw [decide_eq_true hi] at hm
    have hkI : (k : Int) < (S.L.length : Int) := by omega
    generalize S.L[k].1 = y at q0 ⊢
    generalize S.L.length = n at c3 hkI
    replace hm := Lib.hid hm
    clear h hi hk hl
    go_enter Tryz.func40, Tryz.ntmps40
    go_wp2_with ((go_at_call 56; (with_reducible refine (hm.out).mono ?_); rintro e w' ⟨rfl, rfl⟩))
    go_ret
    exact ⟨rfl, rfl⟩
  · rw [decide_eq_false hi] at hm
    have h0 : idAt S.L i = 0 := by unfold idAt; rw [if_neg hi]
    rw [h0]
    replace hm := Lib.hid hm
    clear h hi hl h0
    go_enter Tryz.func40, Tryz.ntmps40
    go_wp2_with ((go_at_call 56; (with_reducible refine (hm.out).mono ?_); rintro e w' ⟨rfl, rfl⟩))
    go_ret
    exact ⟨rfl, rfl⟩
/-- The row at d is the i-th one's. -/
def RowAt (B : Nat) (w : World) (x s : Nat) (S : Scr) (i d : Nat) : Prop :=
  ∃ sv lv L R, MidX B w x s S.nx S.most S.kp S.cols sv lv S.top S.bot L.length (fl lineC L) L R ∧ vw L = S.L ∧ vw R = S.R ∧ ∃ e, L[i]? = some e ∧ e.d = d
theorem row_no (h : SC B w x s S) (hl : 1 ≤ S.L.length) (i : Int) (hi : ¬ (0 ≤ i ∧ i < S.L.length)) : Calls Tryz.prog 32 #[.pointer (some ⟨x, 0, none⟩), .int .i64 i] w fun e w' => e = .returned (.pointer none) ∧ w = w' := by
  have hm := has_sc h hl i
  rw [decide_eq_false hi] at hm
  replace hm := Lib.hid hm
  clear h hi hl
  go_enter Tryz.func32, Tryz.ntmps32
  go_wp2_with ((go_at_call 56; (with_reducible refine (hm.out).mono ?_); rintro e w' ⟨rfl, rfl⟩))
  go_ret
  exact ⟨rfl, rfl⟩
theorem row_yes (h : SC B w x s S) (hl : 1 ≤ S.L.length) (i : Nat) (hi : i < S.L.length) : Calls Tryz.prog 32 #[.pointer (some ⟨x, 0, none⟩), .int .i64 i] w fun e w' => (∃ d, e = .returned (.pointer (some ⟨d, 0, none⟩)) ∧ RowAt B w x s S i d) ∧ w = w' := by
  have hm := has_sc h hl i
  rw [decide_eq_true (by omega)] at hm
  obtain ⟨sv, lv, L, R, h1, h2, h3⟩ := h
  have hll : L.length = S.L.length := by rw [← h2, vw_len]
  have hiL : i < L.length := by omega
  have hc := h1.ln.cells.2.2.2.1
  have hat : RowAt B w x s S i L[i].d := ⟨sv, lv, L, R, h1, h2, h3, L[i], List.getElem?_eq_getElem hiL, rfl⟩
  obtain ⟨g, c, rfl, q0, q1, hrw⟩ := h1.elem rfl hiL
  clear hrw
  have hkI : (i : Int) < (L.length : Int) := by omega
  generalize L[i].d = d at q1 hat
  generalize L.length = n at hc hkI
  replace hm := Lib.hid hm
  replace hat := Lib.hid hat
  clear h1 h2 h3 hi hl hll hiL q0
  go_enter Tryz.func32, Tryz.ntmps32
  go_wp2_with ((go_at_call 56; (with_reducible refine (hm.out).mono ?_); rintro e w' ⟨rfl, rfl⟩))
  go_ret
  exact ⟨⟨d, rfl, hat.out⟩, rfl⟩
end
end Go.Proofs.YtaoegfdaemmogaaGreat.Scn
