/- Part 27 of the proof that the card of EmuNone holds. -/
import Derived.BigRegion
import Derived.Test.YtkjpjegmanpbfaaGreatDoorPN26
set_option maxHeartbeats 16000000
set_option maxRecDepth 100000
namespace Go.Proofs.YtkjpjegmanpbfaaGreatDoor.Emu
open Go Go.RowKit Go.Proofs.YtkjpjegmanpbfaaGreatDoor.Com Go.Proofs.YtkjpjegmanpbfaaGreatDoor.Rw Go.Proofs.YtkjpjegmanpbfaaGreatDoor.Lns Go.Proofs.YtkjpjegmanpbfaaGreatDoor.Scn
section
variable {Z Z1 : Zn} {w w' : World} {t x s : Nat} {S : Scr} {T : Ter} {P : Pt} {v : Value} {l : List Int}
theorem Ok.restored (h : Ok T) : Ok (restored T) := ⟨h.fit, h.fitm, h.rows, h.cols, h.sv.1, h.sv.2, h.sv, h.svm, h.tn, h.alt⟩
def restored0 (T : Ter) : Ter := { T with c := T.sh.sv.c, p := T.sh.sv.p, m := { T.m with a3 := T.sh.sv.org } }
def restW (w : World) (t : Nat) (T : Ter) : World := ((((((((((w.setCell ⟨t, 8, none⟩ (.int .i64 T.sh.sv.c.row)).setCell ⟨t, 9, none⟩ (.int .i64 T.sh.sv.c.col)).setCell ⟨t, 10, none⟩ (.bool T.sh.sv.c.pend)).setCell ⟨t, 11, none⟩ (.int .u32 T.sh.sv.p.a.f)).setCell ⟨t, 12, none⟩ (.int .u32 T.sh.sv.p.a.b)).setCell ⟨t, 13, none⟩ (.int .u16 T.sh.sv.p.a.g)).setCell ⟨t, 14, none⟩ (.int .u8 T.sh.sv.p.g0)).setCell ⟨t, 15, none⟩ (.int .u8 T.sh.sv.p.g1)).setCell ⟨t, 16, none⟩ (.int .i64 (whI T.sh.sv.p.wh))).setCell ⟨t, 3, none⟩ (.bool T.sh.sv.org))
theorem TMx.restored0 (h : TMx Z w t T P) : TMx Z (restW w t T).drew t (restored0 T) P ∧ Scn.Fr Z TT w (restW w t T).drew := by
 have e : (((((((((((terA T P).setIfInBounds 8 (.int .i64 T.sh.sv.c.row)).setIfInBounds 9 (.int .i64 T.sh.sv.c.col)).setIfInBounds 10 (.bool T.sh.sv.c.pend)).setIfInBounds 11 (.int .u32 T.sh.sv.p.a.f)).setIfInBounds 12 (.int .u32 T.sh.sv.p.a.b)).setIfInBounds 13 (.int .u16 T.sh.sv.p.a.g)).setIfInBounds 14 (.int .u8 T.sh.sv.p.g0)).setIfInBounds 15 (.int .u8 T.sh.sv.p.g1)).setIfInBounds 16 (.int .i64 (whI T.sh.sv.p.wh))).setIfInBounds 3 (.bool T.sh.sv.org)) = terA (Emu.restored0 T) P := by kernel_rfl
 have hb : Block (restW w t T) t 88 (((((((((((terA T P).setIfInBounds 8 (.int .i64 T.sh.sv.c.row)).setIfInBounds 9 (.int .i64 T.sh.sv.c.col)).setIfInBounds 10 (.bool T.sh.sv.c.pend)).setIfInBounds 11 (.int .u32 T.sh.sv.p.a.f)).setIfInBounds 12 (.int .u32 T.sh.sv.p.a.b)).setIfInBounds 13 (.int .u16 T.sh.sv.p.a.g)).setIfInBounds 14 (.int .u8 T.sh.sv.p.g0)).setIfInBounds 15 (.int .u8 T.sh.sv.p.g1)).setIfInBounds 16 (.int .i64 (whI T.sh.sv.p.wh))).setIfInBounds 3 (.bool T.sh.sv.org)) := ((((((((((h.blk).set 8 _).set 9 _).set 10 _).set 11 _).set 12 _).set 13 _).set 14 _).set 15 _).set 16 _).set 3 _
 rw [e] at hb
 obtain ⟨h1, hf⟩ := h.turn (w' := restW w t T) (m := { T.m with a3 := T.sh.sv.org }) (c := T.sh.sv.c) (p := T.sh.sv.p) (n := T.prints) (e := T.last) (((((((((((Only.refl _ _).trans (Only.setCell _ ⟨t, 8, none⟩ _)).trans (Only.setCell _ ⟨t, 9, none⟩ _)).trans (Only.setCell _ ⟨t, 10, none⟩ _)).trans (Only.setCell _ ⟨t, 11, none⟩ _)).trans (Only.setCell _ ⟨t, 12, none⟩ _)).trans (Only.setCell _ ⟨t, 13, none⟩ _)).trans (Only.setCell _ ⟨t, 14, none⟩ _)).trans (Only.setCell _ ⟨t, 15, none⟩ _)).trans (Only.setCell _ ⟨t, 16, none⟩ _)).trans (Only.setCell _ ⟨t, 3, none⟩ _)) hb
 exact ⟨h1.drew 1, hf.trans (Scn.Fr.of_below (below_dr (Below.refl _ _) 1))⟩
theorem TMx.setPend (h : TMx Z w t T P) (b : Bool) : TMx Z (w.setCell ⟨t, 10, none⟩ (.bool b)) t { T with c := { T.c with pend := b } } P ∧ Scn.Fr Z TT w (w.setCell ⟨t, 10, none⟩ (.bool b)) :=
 h.turn (m := T.m) (c := { T.c with pend := b }) (p := T.p) (n := T.prints) (e := T.last) (Only.setCell w ⟨t, 10, none⟩ _) (h.blk.set 10 _)
theorem restore_any (h : TM Z w t T) (ok : Ok T) (hj : T.jr.length ≤ 90000) : Calls Tryz.prog 71 #[.pointer (some ⟨t, 0, none⟩)] w (Does Z w t (restore T)) := by
 show Calls _ _ _ _ (Does Z w t (tellOther (restored T)))
 obtain ⟨T2, hT2⟩ : ∃ T2, T2 = restored T := ⟨_, rfl⟩
 rw [← hT2]
 replace hT2 := Lib.hid hT2
 obtain ⟨P, h⟩ := h
 have hsh := Lib.hid (shown_any h)
 have d1 := h.s1
 have d2 := h.s2
 have d3 := h.s3
 have d4 := h.s4
 have d5 := h.s5
 have d6 := h.s6
 have d7 := h.s7
 have d8 := h.s8
 have d9 := h.s9
 have d10 := h.s10
 have c3 := h.c3
 have f3 := h.free 3
 have c8 := h.c8
 have f8 := h.free 8
 have c9 := h.c9
 have f9 := h.free 9
 have c10 := h.c10
 have f10 := h.free 10
 have c11 := h.c11
 have f11 := h.free 11
 have c12 := h.c12
 have f12 := h.free 12
 have c13 := h.c13
 have f13 := h.free 13
 have c14 := h.c14
 have f14 := h.free 14
 have c15 := h.c15
 have f15 := h.free 15
 have c16 := h.c16
 have f16 := h.free 16
 generalize hhe : P.h T.other = hh at hsh d1 d2 d3 d4 d5 d6 d7 d8 d9 d10
 have hne : hh ≠ t := fun e => absurd (Typ.inj (Block.typ h.sheet) (by rw [hhe, e]; exact Block.typ h.blk)) (by decide)
 replace hhe := Lib.hid hhe
 go_enter Tryz.func71, Tryz.ntmps71
 go_wp2_with (first
  | (go_at_call 36; (with_reducible refine (hsh.out).mono ?_); rintro e w1 ⟨rfl, rfl⟩))
 go_region
 obtain ⟨h6, hf6⟩ := h.restored0
 change Exit.then _ _ _ _ (restW w t T).drew
 generalize (restW w t T).drew = w6 at h6 hf6 ⊢
 clear hsh d1 d2 d3 d4 d5 d6 d7 d8 d9 d10 c3 c8 c9 c10 c11 c12 c13 c14 c15 c16 f3 f8 f9 f10 f11 f12 f13 f14 f15 f16
 have ok6 : Ok (restored T) := ok.restored
 have hvis : (restored0 T).vis = T.vis := rfl
 have hjr : (restored T).jr = T.jr := rfl
 have e10 := fun k : Eqt.Ext w6 => (h6.below k.below).c10
 have e9 := fun k : Eqt.Ext w6 => (h6.below k.below).c9
 have es := fun k : Eqt.Ext w6 => (h6.below k.below).s0
 obtain ⟨Z1, hfo⟩ := h6.focus
 have hco := Lib.hid (fun k : Eqt.Ext w6 => cols_sc (hfo.sc.below k.below) ok.fit.len)
 have hp : ∀ b, b = (restored T).c.pend → Hid (∀ w1 (hb : Below w6.heap.size w6 w1), TMx Z (w1.setCell ⟨t, 10, none⟩ (.bool b)) t (restored T) P ∧ Scn.Fr Z TT w1 (w1.setCell ⟨t, 10, none⟩ (.bool b))) := fun b hb => Lib.hid fun w1 hb1 => by
  subst hb
  exact (h6.below hb1).setPend _
 have f10 := fun w1 (hb : Below w6.heap.size w6 w1) => (h6.below hb).free 10
 have g10 := fun w1 (hb : Below w6.heap.size w6 w1) => (h6.below hb).c10
 have ht := Lib.hid (fun w1 (h1 : TM Z w1 t (restored T)) => tellOther_any h1 ok6 hj)
 have hcol := ok.sv.2
 have hc5 := ok.fit.c5
 have hc1 := ok.fit.c1
 have hpe : (restored T).c.pend = (T.sh.sv.c.pend && decide (T.sh.sv.c.col + 1 = T.vis.cols)) := rfl
 rw [hpe] at hp
 rw [← hT2.out] at hp ht
 simp only [restored0, Ter.sh] at e9 e10 g10 es hpe
 rw [hvis] at hco
 change ∀ k : Eqt.Ext w6, k.w.cell? ⟨t, 9, none⟩ = some (.int .i64 T.sh.sv.c.col) at e9
 change ∀ k : Eqt.Ext w6, k.w.cell? ⟨t, 10, none⟩ = some (.bool T.sh.sv.c.pend) at e10
 change ∀ k : Eqt.Ext w6, k.w.cell? ⟨P.h T.other, 0, none⟩ = some (.pointer (some ⟨P.x T.other, 0, none⟩)) at es
 change ∀ w1, Below w6.heap.size w6 w1 → w1.cell? ⟨t, 10, none⟩ = some (.bool T.sh.sv.c.pend) at g10
 rw [hhe.out] at es
 have hco' : Hid (∀ k : Eqt.Ext w6, Calls Tryz.prog 56 #[.pointer (some ⟨P.x T.other, 0, none⟩)] k.w fun e w' => e = .returned (.int .i64 T.vis.cols) ∧ k.w = w') := hco
 generalize T.sh.sv.c.pend = pe at e10 g10 hp
 generalize T.sh.sv.c.col = col at e9 hp hcol
 generalize T.vis.cols = cols at hco' hp hcol hc5 hc1
 generalize P.x T.other = xx at es hco'
 have hw : IntKind.i64.wrap ((cols : Int) - 1) = (cols : Int) - 1 := IntWalk.i64_in _ (by omega)
 have hd : ∀ b, b = decide (col + 1 = cols) → decide ((col : Int) = (cols : Int) - 1) = b ∧ ((col : Int) == (cols : Int) - 1) = b := fun b hb => by
  have : decide ((col : Int) = (cols : Int) - 1) = b := by
   rw [hb, decide_eq_decide]
   omega
  exact ⟨this, by rw [← this]; rfl⟩
 clear h h6 hfo ok ok6 hco hvis hjr hpe
 go_wp2
 cases pe
 ·have hp2 := hp false rfl
  clear hp hd
  refine Eqt.region_ext_tail 23 (by kernel_rfl) (by kernel_rfl) ?_
  simp only [List.take_succ_cons, List.take_zero, List.drop_succ_cons, List.drop_zero]
  repeat (go_big_quiet_step (fail))
  refine wpQuiet_nil ?_
  intro w9 hw9
  obtain ⟨k9, rfl⟩ := hw9
  have hb9 := k9.below
  generalize k9.w = w9 at hb9 ⊢
  have q1 := f10 _ hb9
  have q2 := g10 _ hb9
  obtain ⟨h7, hf7⟩ := hp2.out _ hb9
  go_wp2_with (first
   | (go_at_call 90; (with_reducible refine (ht.out _ h7.tm).mono ?_); rintro e w8 ⟨⟨v8, rfl⟩, h8, hf8⟩))
  go_end0
  exact ⟨⟨_, rfl⟩, h8, ((hf6.trans (fr_below hb9)).trans hf7).trans hf8⟩
 ·obtain ⟨b, hb⟩ : ∃ b, b = decide (col + 1 = cols) := ⟨_, rfl⟩
  have hp2 := hp b (by rw [Bool.true_and]; exact hb)
  obtain ⟨hd2, hd3⟩ := hd b hb
  clear hp hd hb
  refine Eqt.region_ext_tail 23 (by kernel_rfl) (by kernel_rfl) ?_
  simp only [List.take_succ_cons, List.take_zero, List.drop_succ_cons, List.drop_zero]
  repeat (go_big_quiet_step (first
   | (go_at_call 56; exact Eqt.q_ext_same (hco'.out _))))
  refine wpQuiet_nil ?_
  intro w9 hw9
  obtain ⟨k9, rfl⟩ := hw9
  have hb9 := k9.below
  generalize k9.w = w9 at hb9 ⊢
  have q1 := f10 _ hb9
  have q2 := g10 _ hb9
  obtain ⟨h7, hf7⟩ := hp2.out _ hb9
  go_wp2_with (first
   | (go_at_call 90; (with_reducible refine (ht.out _ h7.tm).mono ?_); rintro e w8 ⟨⟨v8, rfl⟩, h8, hf8⟩))
  go_end0
  exact ⟨⟨_, rfl⟩, h8, ((hf6.trans (fr_below hb9)).trans hf7).trans hf8⟩
end
end Go.Proofs.YtkjpjegmanpbfaaGreatDoor.Emu
