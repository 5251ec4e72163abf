/- Part 36 of the proof that the card of EmuNone holds. -/
import Derived.Test.YtkjpjegmanpbfaaGreatDoorPN35
set_option maxHeartbeats 16000000
set_option maxRecDepth 100000
namespace Go.Proofs.YtkjpjegmanpbfaaGreatDoor.Emu
open Go Go.RowKit Go.Proofs.YtkjpjegmanpbfaaGreatDoor.Com Go.Proofs.YtkjpjegmanpbfaaGreatDoor.Rw Go.Proofs.YtkjpjegmanpbfaaGreatDoor.Lns Go.Proofs.YtkjpjegmanpbfaaGreatDoor.Scn
section
variable {Z Z1 : Zn} {w w' : World} {t x s : Nat} {S : Scr} {T : Ter} {P : Pt} {v : Value} {l : List Int}
theorem way_f1 (h : TMx Z w t T P) (ok : Ok T) (hj : T.jr.length ≤ 90000) (hnx : T.nx ≤ 990000) (n : Nat) (hn2 : n ≤ 2) (h4 : T.m.a4 = true) (h10 : T.c.pend = true) : Calls Tryz.prog 57 #[.pointer (some ⟨t, 0, none⟩), .int .i64 n] w (Does Z w t (tellFeed (feed (setCol T 0)) true)) := by
 obtain ⟨Z1, hf⟩ := h.focus
 have s0 := fun k : Eqt.Ext w => (h.below k.below).s0
 have c9 := fun k : Eqt.Ext w => (h.below k.below).c9
 have hsh := Lib.hid (fun k : Eqt.Ext w => shown_any (h.below k.below))
 have hco := Lib.hid (fun k : Eqt.Ext w => cols_sc (hf.sc.below k.below) ok.fit.len)
 have hcol := ok.col
 have hc5 := ok.fit.c5
 have hw : IntKind.i64.wrap ((T.c.col : Int) + (n : Int)) = (T.c.col : Int) + (n : Int) := IntWalk.i64_in _ (by omega)
 have hd : ∀ b, tight T n = b → decide ((T.vis.cols : Int) < (T.c.col : Int) + (n : Int)) = b := fun b hb => by rw [← hb]; unfold tight; rw [decide_eq_decide]; omega
 have hW : Hid (∀ w9, Below w.heap.size w w9 → w9.cell? ⟨t, 4, none⟩ = some (.bool true) ∧ w9.cell? ⟨t, 10, none⟩ = some (.bool true) ∧ w9.cell? ⟨t, 9, none⟩ = some (.int .i64 T.c.col) ∧ w9.frozen? ⟨t, 9, none⟩ = false ∧ TM Z (w9.setCell ⟨t, 9, none⟩ (.int .i64 0)) t (setCol T 0) ∧ Scn.Fr Z TT w9 (w9.setCell ⟨t, 9, none⟩ (.int .i64 0))) := Lib.hid fun w9 hb => ⟨(by have := (h.below hb).c4; rw [h4] at this; exact this), (by have := (h.below hb).c10; rw [h10] at this; exact this), (h.below hb).c9, (h.below hb).free 9, ((h.below hb).setCol 0).1.tm, ((h.below hb).setCol 0).2⟩
 obtain ⟨bt, hbt⟩ : ∃ b, tight T n = b := ⟨_, rfl⟩
 have hd2 := hd _ hbt
 clear hbt
 have ok0 := ok.setCol ok.fit.c1
 have hp := Lib.hid (fun w1 (h1 : TM Z w1 t (setCol T 0)) => feed_any h1 ok0 hnx)
 have ht := Lib.hid (fun w1 (h1 : TM Z w1 t (feed (setCol T 0))) => tellFeed_any h1 ok0.feed (by rw [feed_jr]; exact hj) true)
 generalize feed (setCol T 0) = T1 at hp ht ⊢
 generalize tellFeed T1 true = T2 at ht ⊢
 generalize P.h T.other = hh at s0 hsh
 generalize P.x T.other = xx at s0 hco
 generalize T.vis.cols = cols at hco hd2 hc5 hcol
 generalize T.c.col = col at c9 hw hd2 hcol hW
 clear h ok hj hnx hf hd ok0
 go_enter Tryz.func57, Tryz.ntmps57
 go_wp2
 refine Eqt.region_ext (by kernel_rfl) (by kernel_rfl) ?_
 repeat (go_big_quiet_step (first
  | (go_at_call 36; exact Eqt.q_ext_same (hsh.out _))
  | (go_at_call 56; exact Eqt.q_ext_same (hco.out _))))
 refine wpQuiet_nil ?_
 intro w9 hw9
 obtain ⟨k9, rfl⟩ := hw9
 have hb9 := k9.below
 generalize k9.w = w9 at hb9 ⊢
 obtain ⟨k4, k10, k9, f9, hT9, hf9⟩ := hW.out _ hb9
 go_wp2_with (first
  | (go_at_call 108; (with_reducible refine (hp.out _ hT9).mono ?_); rintro e w1 ⟨⟨v1, rfl⟩, h1, hf1⟩)
  | (go_at_call 109; (with_reducible refine (ht.out _ h1).mono ?_); rintro e w2 ⟨⟨v2, rfl⟩, h2, hf2⟩))
 go_end0
 exact ⟨⟨_, rfl⟩, h2, (((fr_below hb9).trans hf9).trans hf1).trans hf2⟩
theorem way_f2 (h : TMx Z w t T P) (ok : Ok T) (hj : T.jr.length ≤ 90000) (hnx : T.nx ≤ 990000) (n : Nat) (hn2 : n ≤ 2) (h4 : T.m.a4 = true) (h10 : T.c.pend = false) (htt : tight T n = true) : Calls Tryz.prog 57 #[.pointer (some ⟨t, 0, none⟩), .int .i64 n] w (Does Z w t (tellFeed (feed (setCol T 0)) true)) := by
 obtain ⟨Z1, hf⟩ := h.focus
 have s0 := fun k : Eqt.Ext w => (h.below k.below).s0
 have c9 := fun k : Eqt.Ext w => (h.below k.below).c9
 have hsh := Lib.hid (fun k : Eqt.Ext w => shown_any (h.below k.below))
 have hco := Lib.hid (fun k : Eqt.Ext w => cols_sc (hf.sc.below k.below) ok.fit.len)
 have hcol := ok.col
 have hc5 := ok.fit.c5
 have hw : IntKind.i64.wrap ((T.c.col : Int) + (n : Int)) = (T.c.col : Int) + (n : Int) := IntWalk.i64_in _ (by omega)
 have hd : ∀ b, tight T n = b → decide ((T.vis.cols : Int) < (T.c.col : Int) + (n : Int)) = b := fun b hb => by rw [← hb]; unfold tight; rw [decide_eq_decide]; omega
 have hW : Hid (∀ w9, Below w.heap.size w w9 → w9.cell? ⟨t, 4, none⟩ = some (.bool true) ∧ w9.cell? ⟨t, 10, none⟩ = some (.bool false) ∧ w9.cell? ⟨t, 9, none⟩ = some (.int .i64 T.c.col) ∧ w9.frozen? ⟨t, 9, none⟩ = false ∧ TM Z (w9.setCell ⟨t, 9, none⟩ (.int .i64 0)) t (setCol T 0) ∧ Scn.Fr Z TT w9 (w9.setCell ⟨t, 9, none⟩ (.int .i64 0))) := Lib.hid fun w9 hb => ⟨(by have := (h.below hb).c4; rw [h4] at this; exact this), (by have := (h.below hb).c10; rw [h10] at this; exact this), (h.below hb).c9, (h.below hb).free 9, ((h.below hb).setCol 0).1.tm, ((h.below hb).setCol 0).2⟩
 have hd2 := hd _ htt
 have ok0 := ok.setCol ok.fit.c1
 have hp := Lib.hid (fun w1 (h1 : TM Z w1 t (setCol T 0)) => feed_any h1 ok0 hnx)
 have ht := Lib.hid (fun w1 (h1 : TM Z w1 t (feed (setCol T 0))) => tellFeed_any h1 ok0.feed (by rw [feed_jr]; exact hj) true)
 generalize feed (setCol T 0) = T1 at hp ht ⊢
 generalize tellFeed T1 true = T2 at ht ⊢
 generalize P.h T.other = hh at s0 hsh
 generalize P.x T.other = xx at s0 hco
 generalize T.vis.cols = cols at hco hd2 hc5 hcol
 generalize T.c.col = col at c9 hw hd2 hcol hW
 clear h ok hj hnx hf hd ok0
 go_enter Tryz.func57, Tryz.ntmps57
 go_wp2
 refine Eqt.region_ext (by kernel_rfl) (by kernel_rfl) ?_
 repeat (go_big_quiet_step (first
  | (go_at_call 36; exact Eqt.q_ext_same (hsh.out _))
  | (go_at_call 56; exact Eqt.q_ext_same (hco.out _))))
 refine wpQuiet_nil ?_
 intro w9 hw9
 obtain ⟨k9, rfl⟩ := hw9
 have hb9 := k9.below
 generalize k9.w = w9 at hb9 ⊢
 obtain ⟨k4, k10, k9, f9, hT9, hf9⟩ := hW.out _ hb9
 go_wp2_with (first
  | (go_at_call 108; (with_reducible refine (hp.out _ hT9).mono ?_); rintro e w1 ⟨⟨v1, rfl⟩, h1, hf1⟩)
  | (go_at_call 109; (with_reducible refine (ht.out _ h1).mono ?_); rintro e w2 ⟨⟨v2, rfl⟩, h2, hf2⟩))
 go_end0
 exact ⟨⟨_, rfl⟩, h2, (((fr_below hb9).trans hf9).trans hf1).trans hf2⟩
theorem way_s1 (h : TMx Z w t T P) (ok : Ok T) (_hj : T.jr.length ≤ 90000) (_hnx : T.nx ≤ 990000) (n : Nat) (hn2 : n ≤ 2) (h4 : T.m.a4 = true) (h10 : T.c.pend = false) (htt : tight T n = false) : Calls Tryz.prog 57 #[.pointer (some ⟨t, 0, none⟩), .int .i64 n] w (Does Z w t T) := by
 obtain ⟨Z1, hf⟩ := h.focus
 have s0 := fun k : Eqt.Ext w => (h.below k.below).s0
 have c9 := fun k : Eqt.Ext w => (h.below k.below).c9
 have hsh := Lib.hid (fun k : Eqt.Ext w => shown_any (h.below k.below))
 have hco := Lib.hid (fun k : Eqt.Ext w => cols_sc (hf.sc.below k.below) ok.fit.len)
 have hcol := ok.col
 have hc5 := ok.fit.c5
 have hw : IntKind.i64.wrap ((T.c.col : Int) + (n : Int)) = (T.c.col : Int) + (n : Int) := IntWalk.i64_in _ (by omega)
 have hd : ∀ b, tight T n = b → decide ((T.vis.cols : Int) < (T.c.col : Int) + (n : Int)) = b := fun b hb => by rw [← hb]; unfold tight; rw [decide_eq_decide]; omega
 have hW : Hid (∀ w9, Below w.heap.size w w9 → w9.cell? ⟨t, 4, none⟩ = some (.bool true) ∧ w9.cell? ⟨t, 10, none⟩ = some (.bool false) ∧ TM Z w9 t T) := Lib.hid fun w9 hb => ⟨(by have := (h.below hb).c4; rw [h4] at this; exact this), (by have := (h.below hb).c10; rw [h10] at this; exact this), (h.below hb).tm⟩
 have hd2 := hd _ htt
 generalize P.h T.other = hh at s0 hsh
 generalize P.x T.other = xx at s0 hco
 generalize T.vis.cols = cols at hco hd2 hc5 hcol
 generalize T.c.col = col at c9 hw hd2 hcol
 clear h ok _hj _hnx hf hd
 go_enter Tryz.func57, Tryz.ntmps57
 go_wp2
 refine Eqt.region_ext (by kernel_rfl) (by kernel_rfl) ?_
 repeat (go_big_quiet_step (first
  | (go_at_call 36; exact Eqt.q_ext_same (hsh.out _))
  | (go_at_call 56; exact Eqt.q_ext_same (hco.out _))))
 refine wpQuiet_nil ?_
 intro w9 hw9
 obtain ⟨k9, rfl⟩ := hw9
 have hb9 := k9.below
 generalize k9.w = w9 at hb9 ⊢
 obtain ⟨k4, k10, hT9⟩ := hW.out _ hb9
 go_wp2
 go_end0
 exact ⟨⟨_, rfl⟩, hT9, fr_below hb9⟩
theorem way_s2 (h : TMx Z w t T P) (ok : Ok T) (_hj : T.jr.length ≤ 90000) (_hnx : T.nx ≤ 990000) (n : Nat) (hn2 : n ≤ 2) (h4 : T.m.a4 = false) (htt : tight T n = false) : Calls Tryz.prog 57 #[.pointer (some ⟨t, 0, none⟩), .int .i64 n] w (Does Z w t T) := by
 obtain ⟨Z1, hf⟩ := h.focus
 have s0 := fun k : Eqt.Ext w => (h.below k.below).s0
 have c9 := fun k : Eqt.Ext w => (h.below k.below).c9
 have hsh := Lib.hid (fun k : Eqt.Ext w => shown_any (h.below k.below))
 have hco := Lib.hid (fun k : Eqt.Ext w => cols_sc (hf.sc.below k.below) ok.fit.len)
 have hcol := ok.col
 have hc5 := ok.fit.c5
 have hw : IntKind.i64.wrap ((T.c.col : Int) + (n : Int)) = (T.c.col : Int) + (n : Int) := IntWalk.i64_in _ (by omega)
 have hd : ∀ b, tight T n = b → decide ((T.vis.cols : Int) < (T.c.col : Int) + (n : Int)) = b := fun b hb => by rw [← hb]; unfold tight; rw [decide_eq_decide]; omega
 have hW : Hid (∀ w9, Below w.heap.size w w9 → w9.cell? ⟨t, 4, none⟩ = some (.bool false) ∧ TM Z w9 t T) := Lib.hid fun w9 hb => ⟨(by have := (h.below hb).c4; rw [h4] at this; exact this), (h.below hb).tm⟩
 have hd2 := hd _ htt
 generalize P.h T.other = hh at s0 hsh
 generalize P.x T.other = xx at s0 hco
 generalize T.vis.cols = cols at hco hd2 hc5 hcol
 generalize T.c.col = col at c9 hw hd2 hcol
 clear h ok _hj _hnx hf hd
 go_enter Tryz.func57, Tryz.ntmps57
 go_wp2
 refine Eqt.region_ext (by kernel_rfl) (by kernel_rfl) ?_
 repeat (go_big_quiet_step (first
  | (go_at_call 36; exact Eqt.q_ext_same (hsh.out _))
  | (go_at_call 56; exact Eqt.q_ext_same (hco.out _))))
 refine wpQuiet_nil ?_
 intro w9 hw9
 obtain ⟨k9, rfl⟩ := hw9
 have hb9 := k9.below
 generalize k9.w = w9 at hb9 ⊢
 obtain ⟨k4, hT9⟩ := hW.out _ hb9
 go_wp2
 go_end0
 exact ⟨⟨_, rfl⟩, hT9, fr_below hb9⟩
theorem way_b (h : TMx Z w t T P) (ok : Ok T) (_hj : T.jr.length ≤ 90000) (_hnx : T.nx ≤ 990000) (n : Nat) (hn2 : n ≤ 2) (h4 : T.m.a4 = false) (htt : tight T n = true) (hc1 : 1 ≤ T.c.col) : Calls Tryz.prog 57 #[.pointer (some ⟨t, 0, none⟩), .int .i64 n] w (Does Z w t (setCol T (T.c.col - 1))) := by
 obtain ⟨Z1, hf⟩ := h.focus
 have s0 := fun k : Eqt.Ext w => (h.below k.below).s0
 have c9 := fun k : Eqt.Ext w => (h.below k.below).c9
 have hsh := Lib.hid (fun k : Eqt.Ext w => shown_any (h.below k.below))
 have hco := Lib.hid (fun k : Eqt.Ext w => cols_sc (hf.sc.below k.below) ok.fit.len)
 have hcol := ok.col
 have hc5 := ok.fit.c5
 have hw : IntKind.i64.wrap ((T.c.col : Int) + (n : Int)) = (T.c.col : Int) + (n : Int) := IntWalk.i64_in _ (by omega)
 have hd : ∀ b, tight T n = b → decide ((T.vis.cols : Int) < (T.c.col : Int) + (n : Int)) = b := fun b hb => by rw [← hb]; unfold tight; rw [decide_eq_decide]; omega
 have hW : Hid (∀ w9, Below w.heap.size w w9 → w9.cell? ⟨t, 4, none⟩ = some (.bool false) ∧ w9.cell? ⟨t, 9, none⟩ = some (.int .i64 T.c.col) ∧ w9.frozen? ⟨t, 9, none⟩ = false ∧ TM Z (w9.setCell ⟨t, 9, none⟩ (.int .i64 ((T.c.col : Int) - 1))) t (setCol T (T.c.col - 1)) ∧ Scn.Fr Z TT w9 (w9.setCell ⟨t, 9, none⟩ (.int .i64 ((T.c.col : Int) - 1)))) := Lib.hid fun w9 hb => by
  have q := (h.below hb).setCol (T.c.col - 1)
  rw [show ((T.c.col - 1 : Nat) : Int) = (T.c.col : Int) - 1 by omega] at q
  exact ⟨(by have := (h.below hb).c4; rw [h4] at this; exact this), (h.below hb).c9, (h.below hb).free 9, q.1.tm, q.2⟩
 have hd2 := hd _ htt
 have hw2 : IntKind.i64.wrap ((T.c.col : Int) - 1) = (T.c.col : Int) - 1 := IntWalk.i64_in _ (by omega)
 generalize setCol T (T.c.col - 1) = T2 at hW ⊢
 generalize P.h T.other = hh at s0 hsh
 generalize P.x T.other = xx at s0 hco
 generalize T.vis.cols = cols at hco hd2 hc5 hcol
 generalize T.c.col = col at c9 hw hd2 hcol hW hw2
 clear h ok _hj _hnx hf hd
 go_enter Tryz.func57, Tryz.ntmps57
 go_wp2
 refine Eqt.region_ext (by kernel_rfl) (by kernel_rfl) ?_
 repeat (go_big_quiet_step (first
  | (go_at_call 36; exact Eqt.q_ext_same (hsh.out _))
  | (go_at_call 56; exact Eqt.q_ext_same (hco.out _))))
 refine wpQuiet_nil ?_
 intro w9 hw9
 obtain ⟨k9, rfl⟩ := hw9
 have hb9 := k9.below
 generalize k9.w = w9 at hb9 ⊢
 obtain ⟨k4, k9, f9, hT9, hf9⟩ := hW.out _ hb9
 go_wp2
 go_end0
 exact ⟨⟨_, rfl⟩, hT9, (fr_below hb9).trans hf9⟩
theorem makeWay_any (h : TM Z w t T) (ok : Ok T) (hj : T.jr.length ≤ 90000) (hnx : T.nx ≤ 990000) (n : Nat) (hn2 : n ≤ 2) (hnc : n ≤ T.vis.cols) : Calls Tryz.prog 57 #[.pointer (some ⟨t, 0, none⟩), .int .i64 n] w (Does Z w t (makeWay T n)) := by
 obtain ⟨P, h⟩ := h
 unfold makeWay
 cases h4 : T.m.a4 with
 | true =>
  cases h10 : T.c.pend with
  | true => exact way_f1 h ok hj hnx n hn2 h4 h10
  | false =>
   cases ht : tight T n with
   | true => exact way_f2 h ok hj hnx n hn2 h4 h10 ht
   | false => exact way_s1 h ok hj hnx n hn2 h4 h10 ht
 | false =>
  cases ht : tight T n with
  | true =>
   have hc : 1 ≤ T.c.col := by
    have := of_decide_eq_true ht
    omega
   exact way_b h ok hj hnx n hn2 h4 ht hc
  | false => exact way_s2 h ok hj hnx n hn2 h4 ht
theorem Ok.makeWay (h : Ok T) (n : Nat) : Ok (makeWay T n) := by
 unfold Emu.makeWay
 split
 ·exact ((h.setCol h.fit.c1).feed).tellFeed true
 ·split
  ·exact h.setCol (by have := h.col; omega)
  ·exact h
end
end Go.Proofs.YtkjpjegmanpbfaaGreatDoor.Emu
