/- Part 26 of the proof that the card of EmuNone holds. -/
import Derived.Test.YtkjpjegmanpbfaaGreatDoorPN25
set_option maxHeartbeats 16000000
set_option maxRecDepth 100000
namespace Go.Proofs.YtkjpjegmanpbfaaGreatDoor.Emu
open Go Go.Proofs.YtkjpjegmanpbfaaGreatDoor.Rw Go.Proofs.YtkjpjegmanpbfaaGreatDoor.Scn
section
variable {T : Ter} {S : Scr}
theorem vis_put (hm : S.most = T.most) (hk : S.kp = T.other.isNone) : (T.putVis S).vis = S := by
 obtain ⟨m, c, p, nx, most, R, main, other, tn, tf, pr, la, jr, rp⟩ := T
 obtain ⟨snx, smost, skp, sc, st, sb, sL, sR⟩ := S
 simp only at hm hk
 subst hm hk
 cases other <;> rfl
theorem put_c (T : Ter) (S : Scr) : (T.putVis S).c = T.c := by unfold Ter.putVis; split <;> rfl
theorem put_p (T : Ter) (S : Scr) : (T.putVis S).p = T.p := by unfold Ter.putVis; split <;> rfl
theorem put_m (T : Ter) (S : Scr) : (T.putVis S).m = T.m := by unfold Ter.putVis; split <;> rfl
theorem put_jr (T : Ter) (S : Scr) : (T.putVis S).jr = T.jr := by unfold Ter.putVis; split <;> rfl
theorem put_rp (T : Ter) (S : Scr) : (T.putVis S).rp = T.rp := by unfold Ter.putVis; split <;> rfl
theorem put_nx (T : Ter) (S : Scr) : (T.putVis S).nx = S.nx := by unfold Ter.putVis; split <;> rfl
theorem put_most (T : Ter) (S : Scr) : (T.putVis S).most = T.most := by unfold Ter.putVis; split <;> rfl
theorem put_prints (T : Ter) (S : Scr) : (T.putVis S).prints = T.prints := by unfold Ter.putVis; split <;> rfl
theorem put_isNone (T : Ter) (S : Scr) : (T.putVis S).other.isNone = T.other.isNone := by
 unfold Ter.putVis
 split <;> simp [*]
theorem put_put (T : Ter) (S S' : Scr) : (T.putVis S).putVis S' = T.putVis S' := by
 obtain ⟨m, c, p, nx, most, R, main, other, tn, tf, pr, la, jr, rp⟩ := T
 cases other <;> rfl
theorem fit_nx {S : Scr} (h : Fit S) {n : Nat} (hn : S.nx ≤ n) (R : List Ln) : Fit { S with nx := n, R := R } :=
 ⟨h.len, h.len5, h.bot, h.top, h.c1, h.c5, h.wid, fun p hp => ⟨(h.ids p hp).1, by have := (h.ids p hp).2; show p.1 < (n : Int); omega⟩, Nat.le_trans h.pos hn⟩
theorem Ok.putVis (h : Ok T) (hm : S.most = T.most) (hk : S.kp = T.other.isNone) (hF : Fit S) (hl : S.L.length = T.vis.L.length) (hc : S.cols = T.vis.cols) (hn : T.nx ≤ S.nx) : Ok (T.putVis S) := by
 obtain ⟨h1, h2, h3, h4, h5, h6, h8, h9, h10, h11⟩ := h
 obtain ⟨m, c, p, nx, most, R, main, other, tn, tf, pr, la, jr, rp⟩ := T
 obtain ⟨snx, smost, skp, sc, st, sb, sL, sR⟩ := S
 simp only at hm hk hl hc hn
 subst hm hk
 cases other with
 | none =>
  simp only [Ter.vis, Ter.sh, Sh.scr, Ter.mscr] at h1 h2 h3 h4 h5 h6 h8 h9 h10 hl hc
  subst hc
  exact ⟨hF, hF, rfl, rfl, by simpa [Ter.putVis, Ter.vis, Ter.sh, Sh.scr, Sh.of, hl] using h5, by simpa [Ter.putVis, Ter.vis, Ter.sh, Sh.scr, Sh.of] using h6,
   by simpa [Ter.putVis, Ter.vis, Ter.sh, Sh.scr, Sh.of, hl] using h8, by simpa [Ter.putVis, Ter.vis, Ter.sh, Sh.scr, Sh.of, hl] using h9, by simpa [Ter.putVis, Ter.vis, Ter.sh, Sh.scr, Sh.of] using h10, h11⟩
 | some o =>
  simp only [Ter.vis, Ter.sh, Sh.scr, Ter.mscr] at h1 h2 h3 h4 h5 h6 h8 h9 h10 hl hc
  subst hc
  exact ⟨hF, fit_nx h2 hn sR, by simpa [Ter.putVis, Ter.vis, Ter.sh, Sh.scr, Sh.of, hl] using h3, by simpa [Ter.putVis, Ter.vis, Ter.sh, Sh.scr, Sh.of] using h4, by simpa [Ter.putVis, Ter.vis, Ter.sh, Sh.scr, Sh.of, hl] using h5, by simpa [Ter.putVis, Ter.vis, Ter.sh, Sh.scr, Sh.of] using h6,
   by simpa [Ter.putVis, Ter.vis, Ter.sh, Sh.scr, Sh.of, hl] using h8, h9, by simpa [Ter.putVis, Ter.vis, Ter.sh, Sh.scr, Sh.of] using h10, h11⟩
theorem upS_len {S : Scr} (h : Fit S) {frm : Nat} (hf : frm ≤ S.bot) (n : Int) (a : At) (b : Bool) : (upS S frm n a b).L.length = S.L.length := by
 unfold upS
 have := held_leN n (S.bot + 1 - frm)
 have := h.bot
 rw [chg_len (by omega)]
 omega
theorem downS_len {S : Scr} (h : Fit S) {tp : Nat} (hf : tp ≤ S.bot) (n : Int) (a : At) : (downS S tp n a).L.length = S.L.length := by
 unfold downS
 have := held_leN n (S.bot + 1 - tp)
 have := h.bot
 rw [chg_len (by omega)]
 omega
theorem Ok.up (h : Ok T) {frm : Nat} (hf : frm ≤ T.vis.bot) (n : Int) (a : At) (b : Bool) : Ok (T.putVis (upS T.vis frm n a b)) :=
 h.putVis rfl rfl (h.fit.up hf n a b) (upS_len h.fit hf n a b) rfl (Nat.le_add_right _ _)
theorem Ok.upT (h : Ok T) (n : Int) (a : At) : Ok (T.putVis (upT T.vis n a)) := h.up h.fit.top n a _
theorem Ok.down (h : Ok T) {tp : Nat} (hf : tp ≤ T.vis.bot) (n : Int) (a : At) : Ok (T.putVis (downS T.vis tp n a)) :=
 h.putVis rfl rfl (h.fit.down hf n a) (downS_len h.fit hf n a) rfl (Nat.le_add_right _ _)
theorem Ok.setCol (h : Ok T) {n : Nat} (hn : n < T.vis.cols) : Ok (setCol T n) := ⟨h.fit, h.fitm, h.rows, h.cols, h.row, hn, h.sv, h.svm, h.tn, h.alt⟩
end
end Go.Proofs.YtkjpjegmanpbfaaGreatDoor.Emu
namespace Go.Proofs.YtkjpjegmanpbfaaGreatDoor.Emu
open Go Go.RowKit Go.Proofs.YtkjpjegmanpbfaaGreatDoor.Com Go.Proofs.YtkjpjegmanpbfaaGreatDoor.Rw Go.Proofs.YtkjpjegmanpbfaaGreatDoor.Lns Go.Proofs.YtkjpjegmanpbfaaGreatDoor.Scn
section
variable {Z Z1 : Zn} {w w' : World} {t x s : Nat} {S : Scr} {T : Ter} {P : Pt} {v : Value} {l : List Int}
theorem up_any (h : SC Z1 w x s S) (hF : Fit S) (n : Int) (hnx : S.nx ≤ 990000) (a : At) :
  Calls Tryz.prog 161 #[.pointer (some ⟨x, 0, none⟩), .int .i64 n, .agg #[.int .u32 a.f, .int .u32 a.b, .int .u16 a.g]] w (DidV Z1 w x s (upT S n a) 0) := by
 unfold upT
 by_cases hk : S.kp = true ∧ S.top = 0
 ·rw [hk.1, decide_eq_true hk.2]
  exact Up_keep h hF n (by omega) a hk
 ·have hb : (S.kp && decide (S.top = 0)) = false := by
   rcases hq : S.kp with _ | _
   ·rfl
   ·simp only [Bool.true_and, decide_eq_false_iff_not]
    exact fun h0 => hk ⟨hq, h0⟩
  rw [hb]
  refine Up_forget h hF n (by omega) a ?_
  rcases hq : S.kp with _ | _
  ·exact .inl rfl
  ·exact .inr fun h0 => hk ⟨hq, h0⟩
theorem TMx.setCol (h : TMx Z w t T P) (n : Nat) : TMx Z (w.setCell ⟨t, 9, none⟩ (.int .i64 n)) t (setCol T n) P ∧ Scn.Fr Z TT w (w.setCell ⟨t, 9, none⟩ (.int .i64 n)) :=
 h.turn (m := T.m) (c := { T.c with col := n }) (p := T.p) (n := T.prints) (e := T.last) (Only.setCell w ⟨t, 9, none⟩ _) (h.blk.set 9 _)
theorem TMx.setWh (h : TMx Z w t T P) (b : Bool) : TMx Z (w.setCell ⟨t, 16, none⟩ (.int .i64 (whI b))) t (setWh T b) P ∧ Scn.Fr Z TT w (w.setCell ⟨t, 16, none⟩ (.int .i64 (whI b))) :=
 h.turn (m := T.m) (c := T.c) (p := { T.p with wh := b }) (n := T.prints) (e := T.last) (Only.setCell w ⟨t, 16, none⟩ _) (h.blk.set 16 _)
theorem feed_any (h : TM Z w t T) (ok : Ok T) (hnx : T.nx ≤ 990000) : Calls Tryz.prog 108 #[.pointer (some ⟨t, 0, none⟩)] w (Does Z w t (feed T)) := by
 obtain ⟨P, h⟩ := h
 have c8 := h.c8
 have hs := h.s0
 have hsh := Lib.hid (shown_any h)
 obtain ⟨Z1, hf⟩ := h.focus
 have hm := Lib.hid (margins_q hf.sc ok.fit.len)
 unfold feed
 by_cases hc : T.c.row = T.vis.bot
 ·rw [if_pos hc]
  have hd : decide ((T.c.row : Int) = (T.vis.bot : Int)) = true := decide_eq_true (by omega)
  have hd2 : decide (T.c.row = T.vis.bot) = true := decide_eq_true hc
  have hup := Lib.hid (fun w1 (hb : Below w.heap.size w w1) => up_any (hf.sc.below hb) ok.fit 1 hnx T.p.a)
  have hbk := Lib.hid (fun w1 w2 (hb : Below w.heap.size w w1) (hs2 : SC Z1 w2 (P.x T.other) P.s (upT T.vis 1 T.p.a)) (hf2 : Scn.Fr Z1 PT w1 w2) => hf.back w2 _ hs2 rfl rfl ((Scn.Fr.of_below hb).trans hf2))
  have hpl := Lib.hid (fun w2 (h2 : TMx Z w2 t (T.putVis (upT T.vis 1 T.p.a)) P) => place_any h2 (ok.upT 1 T.p.a) T.c.row T.c.col)
  have ce := Lib.hid (fun w1 (hb : Below w.heap.size w w1) (k : Eqt.Ext w1) => And.intro ((h.below hb).below k.below).s0 (And.intro ((h.below hb).below k.below).c11 (And.intro ((h.below hb).below k.below).c12 ((h.below hb).below k.below).c13)))
  have c2 := Lib.hid (fun w2 (h2 : TMx Z w2 t (T.putVis (upT T.vis 1 T.p.a)) P) (k : Eqt.Ext w2) => And.intro (put_c T (upT T.vis 1 T.p.a) ▸ (h2.below k.below).c8) (put_c T (upT T.vis 1 T.p.a) ▸ (h2.below k.below).c9))
  have kp := Lib.hid (fun w2 w3 (h2 : TMx Z w2 t (T.putVis (upT T.vis 1 T.p.a)) P) (hb : Below w2.heap.size w2 w3) => h2.below hb)
  generalize T.putVis (upT T.vis 1 T.p.a) = T1 at hbk hpl c2 kp ⊢
  generalize upT T.vis 1 T.p.a = S1 at hup hbk
  generalize P.h T.other = hh at hs hsh ce
  generalize P.x T.other = xx at hs hm hup hbk ce
  generalize T.vis.bot = bot at hm hd hd2 hc
  generalize T.vis.top = top at hm
  subst hc
  generalize T.c.row = row at c8 hd hd2 hm hpl c2 ⊢
  generalize T.c.col = col at hpl c2 ⊢
  generalize T.p.a = a at hup ce
  obtain ⟨af, ab, ag⟩ := a
  simp only at hup ce
  clear h hf ok
  go_enter Tryz.func108, Tryz.ntmps108
  go_wp2_with (first
   | (go_at_call 36; (with_reducible refine (hsh.out).mono ?_); rintro e w1 ⟨rfl, rfl⟩)
   | (go_at_call 42; (with_reducible refine (hm.out).mono ?_); rintro e w1 ⟨rfl, q, rfl⟩))
  have hbq := below_dr (Below.refl w.heap.size w) q
  have k0 := fun k => (ce.out _ hbq k).1
  have k1 := fun k => (ce.out _ hbq k).2.1
  have k2 := fun k => (ce.out _ hbq k).2.2.1
  have k3 := fun k => (ce.out _ hbq k).2.2.2
  clear c8 hs ce hsh hm
  generalize w.drewN q = wq at hbq k0 k1 k2 k3 ⊢
  refine Eqt.region_ext_tail 9 (by kernel_rfl) (by kernel_rfl) ?_
  simp only [List.take_succ_cons, List.take_zero, List.drop_succ_cons, List.drop_zero]
  repeat (go_big_quiet_step (fail))
  refine wpQuiet_nil ?_
  intro w9 hw9
  obtain ⟨k9, rfl⟩ := hw9
  have hb9 := k9.below
  generalize k9.w = w9 at hb9 ⊢
  go_wp2_with (first
   | (go_at_call 161; (with_reducible refine (hup.out _ (below_next hbq hb9)).mono ?_); rintro e w2 ⟨rfl, hs2, hf2⟩))
  obtain ⟨h2, hf3⟩ := hbk.out _ _ (below_next hbq hb9) hs2 hf2
  have c8 := fun k => (c2.out _ h2 k).1
  have c9 := fun k => (c2.out _ h2 k).2
  have hfr := (Scn.Fr.of_below (B := Z) (ts := TT) (Below.refl w.heap.size w)).trans hf3
  clear k0 k1 k2 k3 hs2 hf2 hbk hup c2 hf3 hb9 hbq
  refine Eqt.region_ext_tail 11 (by kernel_rfl) (by kernel_rfl) ?_
  simp only [List.take_succ_cons, List.take_zero, List.drop_succ_cons, List.drop_zero]
  repeat (go_big_quiet_step (fail))
  refine wpQuiet_nil ?_
  intro w9 hw9
  obtain ⟨k9, rfl⟩ := hw9
  have hb9 := k9.below
  generalize k9.w = w9 at hb9 ⊢
  go_wp2_with (first
   | (go_at_call 89; (with_reducible refine (hpl.out _ (kp.out _ _ h2 hb9)).mono ?_); rintro e w3 ⟨⟨v3, rfl⟩, h3, hf3⟩))
  go_end0
  exact ⟨⟨_, rfl⟩, h3.tm, (hfr.trans (Scn.Fr.of_below hb9)).trans hf3⟩
 ·rw [if_neg hc]
  have hd : decide ((T.c.row : Int) = (T.vis.bot : Int)) = false := decide_eq_false (by omega)
  have hd2 : decide (T.c.row = T.vis.bot) = false := decide_eq_false hc
  have hw : IntKind.i64.wrap ((T.c.row : Int) + 1) = (T.c.row : Int) + 1 := IntWalk.i64_in _ (by have := ok.row; have := ok.fit.len5; omega)
  have hpl := Lib.hid (fun w1 (hb : Below w.heap.size w w1) => place_any (h.below hb) ok ((T.c.row : Int) + 1) T.c.col)
  have ce := Lib.hid (fun w1 (hb : Below w.heap.size w w1) (k : Eqt.Ext w1) => And.intro ((h.below hb).below k.below).c8 ((h.below hb).below k.below).c9)
  generalize place T ((T.c.row : Int) + 1) T.c.col = T1 at hpl ⊢
  generalize P.h T.other = hh at hs hsh
  generalize P.x T.other = xx at hs hm
  generalize T.vis.bot = bot at hm hd hd2 hc
  generalize T.vis.top = top at hm
  generalize T.c.row = row at c8 hd hd2 hpl ce hw hc
  generalize T.c.col = col at hpl ce
  clear h hf ok
  go_enter Tryz.func108, Tryz.ntmps108
  go_wp2_with (first
   | (go_at_call 36; (with_reducible refine (hsh.out).mono ?_); rintro e w1 ⟨rfl, rfl⟩)
   | (go_at_call 42; (with_reducible refine (hm.out).mono ?_); rintro e w1 ⟨rfl, q, rfl⟩))
  have hbq := below_dr (Below.refl w.heap.size w) q
  have k0 := fun k => (ce.out _ hbq k).1
  have k1 := fun k => (ce.out _ hbq k).2
  clear c8 hs ce hsh hm
  generalize w.drewN q = wq at hbq k0 k1 ⊢
  refine Eqt.region_ext_tail 12 (by kernel_rfl) (by kernel_rfl) ?_
  simp only [List.take_succ_cons, List.take_zero, List.drop_succ_cons, List.drop_zero]
  repeat (go_big_quiet_step (fail))
  refine wpQuiet_nil ?_
  intro w9 hw9
  obtain ⟨k9, rfl⟩ := hw9
  have hb9 := k9.below
  generalize k9.w = w9 at hb9 ⊢
  go_wp2_with (first
   | (go_at_call 89; (with_reducible refine (hpl.out _ (below_next hbq hb9)).mono ?_); rintro e w3 ⟨⟨v3, rfl⟩, h3, hf3⟩))
  go_end0
  exact ⟨⟨_, rfl⟩, h3.tm, (Scn.Fr.of_below (below_next hbq hb9)).trans hf3⟩
end
section
variable {Z Z1 : Zn} {w w' : World} {t x s : Nat} {S : Scr} {T : Ter} {P : Pt} {v : Value} {l : List Int}
theorem fr_below {B : Zn} {ts : List TypeId} (hb : Below w.heap.size w w') : Scn.Fr B ts w w' := Scn.Fr.of_below hb
theorem tellFeed_any (h : TM Z w t T) (ok : Ok T) (hj : T.jr.length ≤ 90000) (wrap : Bool) : Calls Tryz.prog 109 #[.pointer (some ⟨t, 0, none⟩), .bool wrap] w (Does Z w t (tellFeed T wrap)) := by
 obtain ⟨P, h⟩ := h
 obtain ⟨Z1, hf⟩ := h.focus
 obtain ⟨d, hd⟩ := rowAt_of hf.sc ok.row
 have hh : Hid (Calls Tryz.prog 105 #[.pointer (some ⟨t, 0, none⟩), .int .u8 3] w fun e w' => e = .returned (.agg #[.int .u8 3, .int .u64 0, .int .i64 (idAt T.vis.L T.c.row), .int .i64 T.c.col, .bool false, .int .i32 0, .bool false, .bool false, .bool false, .bool false]) ∧ Below w.heap.size w w') := Lib.hid (here_any h ok 3)
 have hl := Lib.hid (fun w1 (hb : Below w.heap.size w w1) => line_any (h.below hb) ok (rowAt_below hd hb))
 have hbl := Lib.hid (fun w1 (hb : Below w.heap.size w w1) => blank_row (rowAt_below hd hb) 0)
 have ht : Hid (∀ w1 (hb : Below w.heap.size w w1), Calls Tryz.prog 155 #[.pointer (some ⟨t, 0, none⟩), .agg #[.int .u8 3, .int .u64 0, .int .i64 (idAt T.vis.L T.c.row), .int .i64 T.c.col, .bool false, .int .i32 0, .bool false, .bool false, .bool (blankF (line T) 0), .bool wrap]] w1 fun r w' => (∃ v, r = .returned v) ∧ (∃ jv, TMx Z w' t (tellFeed T wrap) { P with jv := jv }) ∧ Scn.Fr Z TT w1 w') :=
  Lib.hid (fun w1 hb => tell_any (h.below hb) hj { here T 3 with fr := blankF (line T) 0, wr := wrap })
 rw [line_is] at ht
 generalize tellFeed T wrap = T1 at ht ⊢
 generalize blankF (lineOf T.vis T.c.row) 0 = bl at hbl ht
 generalize idAt T.vis.L T.c.row = y at hh ht
 generalize T.c.col = col at hh ht
 clear h hf ok hd hj
 go_enter Tryz.func109, Tryz.ntmps109
 go_wp2_with (first
  | (go_at_call 105; (with_reducible refine (hh.out).mono ?_); rintro e w1 ⟨rfl, hb1⟩))
 have hbn := below_next hb1 (below_new w1 (.cells #[.int .u8 3, .int .u64 0, .int .i64 y, .int .i64 col, .bool false, .int .i32 0, .bool false, .bool false, .bool false, .bool false] 86))
 have hbx := Block.made w1 86 #[.int .u8 3, .int .u64 0, .int .i64 y, .int .i64 col, .bool false, .int .i32 0, .bool false, .bool false, .bool false, .bool false]
 have hbl1 := hb1.size
 generalize w1.alloc (.cells #[.int .u8 3, .int .u64 0, .int .i64 y, .int .i64 col, .bool false, .int .i32 0, .bool false, .bool false, .bool false, .bool false] 86) = w2 at hbn hbx ⊢
 generalize w1.heap.size = b at hbx hbl1 ⊢
 have hbx' := Lib.hid (fun w' (hb : Below w2.heap.size w2 w') => Block.only hbx (Only.of_below hb []) (by simp))
 clear hh hb1
 go_wp2_with (first
  | (go_at_call 102; (with_reducible refine (hl.out _ hbn).mono ?_); rintro e w3 ⟨rfl, q, rfl⟩)
  | (go_at_call 110; (with_reducible refine (hbl.out _ (below_dr hbn q)).mono ?_); rintro e w4 ⟨rfl, hb4⟩; have hb2 := below_next (below_dr (Below.refl w2.heap.size w2) q) hb4; have hx := hbx'.out _ hb2; have x0 := hx.cell 0 rfl; have x1 := hx.cell 1 rfl; have x2 := hx.cell 2 rfl; have x3 := hx.cell 3 rfl; have x4 := hx.cell 4 rfl; have x5 := hx.cell 5 rfl; have x6 := hx.cell 6 rfl; have x7 := hx.cell 7 rfl; have x8 := hx.cell 8 rfl; have x9 := hx.cell 9 rfl; have f8 := hx.free 8; have f9 := hx.free 9; have hbf := (below_next hbn hb2).trans (((Only.setCell w4 ⟨b, 8, none⟩ (.bool bl)).trans (Only.setCell _ ⟨b, 9, none⟩ (.bool wrap))).below (below_next hbn hb2).size (by simpa using hbl1)))
  | (go_at_call 155; (with_reducible refine (ht.out _ hbf).mono ?_); rintro e w5 ⟨⟨v5, rfl⟩, ⟨jv, h5⟩, hf5⟩))
 go_end0
 exact ⟨⟨_, rfl⟩, h5.tm, (fr_below hbf).trans hf5⟩
theorem stepBack_any (h : TM Z w t T) (ok : Ok T) (hj : T.jr.length ≤ 90000) : Calls Tryz.prog 59 #[.pointer (some ⟨t, 0, none⟩)] w (Does Z w t (stepBack T)) := by
 obtain ⟨P, h⟩ := h
 have c8 := fun k : Eqt.Ext w => (h.below k.below).c8
 have c9 := fun k : Eqt.Ext w => (h.below k.below).c9
 have hw : IntKind.i64.wrap ((T.c.col : Int) - 1) = (T.c.col : Int) - 1 := IntWalk.i64_in _ (by have := ok.col; have := ok.fit.c5; omega)
 have hm := Lib.hid (fun w1 (hb : Below w.heap.size w w1) => move_any (h.below hb).tm ok hj T.c.row ((T.c.col : Int) - 1))
 unfold stepBack
 generalize move T T.c.row ((T.c.col : Int) - 1) = T1 at hm ⊢
 generalize T.c.row = row at c8 hm
 generalize T.c.col = col at c9 hm hw
 clear h ok hj
 go_enter Tryz.func59, Tryz.ntmps59
 go_wp2
 refine Eqt.region_ext_tail 12 (by kernel_rfl) (by kernel_rfl) ?_
 simp only [List.take_succ_cons, List.take_zero, List.drop_succ_cons, List.drop_zero]
 repeat (go_big_quiet_step (fail))
 refine wpQuiet_nil ?_
 intro w9 hw9
 obtain ⟨k9, rfl⟩ := hw9
 have hb9 := k9.below
 generalize k9.w = w9 at hb9 ⊢
 go_wp2_with (first
  | (go_at_call 40; (with_reducible refine (hm.out _ hb9).mono ?_); rintro e w5 ⟨⟨v5, rfl⟩, h5, hf5⟩))
 go_end0
 exact ⟨⟨_, rfl⟩, h5, (fr_below hb9).trans hf5⟩
theorem lineBegin_any (h : TM Z w t T) (ok : Ok T) (hj : T.jr.length ≤ 90000) : Calls Tryz.prog 62 #[.pointer (some ⟨t, 0, none⟩)] w (Does Z w t (lineBegin T)) := by
 obtain ⟨P, h⟩ := h
 have c8 := h.c8
 have hp := Lib.hid (place_any h ok T.c.row 0)
 have ht := Lib.hid (fun w1 (h1 : TM Z w1 t (place T T.c.row 0)) => tellStraight_any h1 (ok.place T.c.row 0) hj)
 unfold lineBegin
 generalize place T T.c.row 0 = T1 at hp ht ⊢
 generalize T.c.row = row at c8 hp
 clear h ok hj
 go_enter Tryz.func62, Tryz.ntmps62
 go_wp2_with (first
  | (go_at_call 89; (with_reducible refine (hp.out).mono ?_); rintro e w1 ⟨⟨v1, rfl⟩, h1, hf1⟩)
  | (go_at_call 114; (with_reducible refine (ht.out _ h1.tm).mono ?_); rintro e w2 ⟨⟨v2, rfl⟩, h2, hf2⟩))
 go_end0
 exact ⟨⟨_, rfl⟩, h2, hf1.trans hf2⟩
theorem firstSet_any (h : TM Z w t T) : Calls Tryz.prog 64 #[.pointer (some ⟨t, 0, none⟩)] w (Does Z w t (setWh T false)) := by
 obtain ⟨P, h⟩ := h
 have c16 := h.c16
 have f16 := h.free 16
 have hr := Lib.hid (h.setWh false)
 unfold whI at hr
 simp only [Bool.false_eq_true, if_false] at hr
 clear h
 go_enter Tryz.func64, Tryz.ntmps64
 go_wp2
 go_end0
 exact ⟨⟨_, rfl⟩, hr.out.1.tm, hr.out.2⟩
theorem secondSet_any (h : TM Z w t T) : Calls Tryz.prog 63 #[.pointer (some ⟨t, 0, none⟩)] w (Does Z w t (setWh T true)) := by
 obtain ⟨P, h⟩ := h
 have c16 := h.c16
 have f16 := h.free 16
 have hr := Lib.hid (h.setWh true)
 unfold whI at hr
 simp only [if_true] at hr
 clear h
 go_enter Tryz.func63, Tryz.ntmps63
 go_wp2
 go_end0
 exact ⟨⟨_, rfl⟩, hr.out.1.tm, hr.out.2⟩
theorem Ok.feed (h : Ok T) : Ok (feed T) := by
 unfold Emu.feed
 split
 ·exact (h.upT _ _).place _ _
 ·exact h.place _ _
theorem feed_jr (T : Ter) : (feed T).jr = T.jr := by
 unfold feed
 split
 ·exact put_jr _ _
 ·rfl
theorem rowDown_any (h : TM Z w t T) (ok : Ok T) (hj : T.jr.length ≤ 90000) (hnx : T.nx ≤ 990000) : Calls Tryz.prog 65 #[.pointer (some ⟨t, 0, none⟩)] w (Does Z w t (rowDown T)) := by
 have hp := Lib.hid (feed_any h ok hnx)
 have ht := Lib.hid (fun w1 (h1 : TM Z w1 t (feed T)) => tellOther_any h1 ok.feed (by rw [feed_jr]; exact hj))
 unfold rowDown
 generalize feed T = T1 at hp ht ⊢
 clear h ok hj
 go_enter Tryz.func65, Tryz.ntmps65
 go_wp2_with (first
  | (go_at_call 108; (with_reducible refine (hp.out).mono ?_); rintro e w1 ⟨⟨v1, rfl⟩, h1, hf1⟩)
  | (go_at_call 90; (with_reducible refine (ht.out _ h1).mono ?_); rintro e w2 ⟨⟨v2, rfl⟩, h2, hf2⟩))
 go_end0
 exact ⟨⟨_, rfl⟩, h2, hf1.trans hf2⟩
theorem nextLine_any (h : TM Z w t T) (ok : Ok T) (hj : T.jr.length ≤ 90000) (hnx : T.nx ≤ 990000) : Calls Tryz.prog 66 #[.pointer (some ⟨t, 0, none⟩)] w (Does Z w t (nextLine T)) := by
 obtain ⟨P, h⟩ := h
 have c9 := h.c9
 have f9 := h.free 9
 obtain ⟨h1, hf1⟩ := h.setCol 0
 rw [show ((0 : Nat) : Int) = 0 from rfl] at h1 hf1
 have hp := Lib.hid (rowDown_any h1.tm (ok.setCol ok.fit.c1) hj hnx)
 unfold nextLine
 clear h ok hj h1
 go_enter Tryz.func66, Tryz.ntmps66
 go_wp2_with (first
  | (go_at_call 65; (with_reducible refine (hp.out).mono ?_); rintro e w1 ⟨⟨v1, rfl⟩, h2, hf2⟩))
 go_end0
 exact ⟨⟨_, rfl⟩, h2, hf1.trans hf2⟩
theorem newLine_any (h : TM Z w t T) (ok : Ok T) (hj : T.jr.length ≤ 90000) (hnx : T.nx ≤ 990000) : Calls Tryz.prog 61 #[.pointer (some ⟨t, 0, none⟩)] w (Does Z w t (newLine T)) := by
 obtain ⟨P, h⟩ := h
 have c1 := h.c1
 have c9 := h.c9
 have f9 := h.free 9
 unfold newLine
 generalize T.m.a1 = nl at c1 ⊢
 cases nl
 ·simp only [Bool.false_eq_true, if_false]
  have hp := Lib.hid (feed_any h.tm ok hnx)
  have ht := Lib.hid (fun w1 (h1 : TM Z w1 t (feed T)) => tellFeed_any h1 ok.feed (by rw [feed_jr]; exact hj) false)
  generalize feed T = T1 at hp ht ⊢
  clear h ok hj
  go_enter Tryz.func61, Tryz.ntmps61
  go_wp2_with (first
   | (go_at_call 108; (with_reducible refine (hp.out).mono ?_); rintro e w1 ⟨⟨v1, rfl⟩, h1, hf1⟩)
   | (go_at_call 109; (with_reducible refine (ht.out _ h1).mono ?_); rintro e w2 ⟨⟨v2, rfl⟩, h2, hf2⟩))
  go_end0
  exact ⟨⟨_, rfl⟩, h2, hf1.trans hf2⟩
 ·simp only [if_true]
  obtain ⟨h0, hf0⟩ := h.setCol 0
  rw [show ((0 : Nat) : Int) = 0 from rfl] at h0 hf0
  have ok0 := ok.setCol ok.fit.c1
  have hp := Lib.hid (feed_any h0.tm ok0 hnx)
  have ht := Lib.hid (fun w1 (h1 : TM Z w1 t (feed (setCol T 0))) => tellFeed_any h1 ok0.feed (by rw [feed_jr]; exact hj) false)
  generalize feed (setCol T 0) = T1 at hp ht ⊢
  clear h ok hj h0 ok0
  go_enter Tryz.func61, Tryz.ntmps61
  go_wp2_with (first
   | (go_at_call 108; (with_reducible refine (hp.out).mono ?_); rintro e w1 ⟨⟨v1, rfl⟩, h1, hf1⟩)
   | (go_at_call 109; (with_reducible refine (ht.out _ h1).mono ?_); rintro e w2 ⟨⟨v2, rfl⟩, h2, hf2⟩))
  go_end0
  exact ⟨⟨_, rfl⟩, h2, (hf0.trans hf1).trans hf2⟩
end
section
variable {Z Z1 : Zn} {w w' : World} {t x s : Nat} {S : Scr} {T : Ter} {P : Pt} {v : Value} {l : List Int}
theorem TMx.tabbed (h : TMx Z w t T P) {n : Nat} {f : Nat → Bool} (ho : Only [P.tb] w w') (ht : Tbs.TabsIn w' P.tb n f) : TMx Z w' t { T with tn := n, tf := f } P ∧ Scn.Fr Z TT w w' := by
 have tt : Typ w P.tb 147 := Block.typ h.tabs
 have hf : Scn.Fr Z [147] w w' := Scn.Fr.of_only ho fun k hk _ => by
  obtain rfl : k = P.tb := by simpa using hk
  exact ⟨h.zb, _, by simp, tt⟩
 have keep : ∀ {k : Nat} {ty : TypeId}, Typ w k ty → ty ≠ 147 → w'.heap[k]? = w.heap[k]? := fun hk hty => ho.block _ (typ_lt hk) (not_in1 hk tt hty)
 have same : ∀ {k : Nat} {ty : TypeId} {cs : Array Value}, Block w k ty cs → ty ≠ 147 → Block w' k ty cs := fun hb hty => (keep (Block.typ hb) hty).trans hb
 exact ⟨⟨same h.blk (by decide), same h.main (by decide), fun o ho => ⟨same (h.aside o ho).1 (by decide), (h.aside o ho).2⟩, h.scr.fr hf (by unfold NoPT; decide), ht,
  owns_heap h.jr (fun g hg => keep (owns_typ h.jr g hg) (by decide)), row_heap h.rp (fun g hg => keep (row_typ h.rp g hg) (by decide)), h.zt, h.zm, h.zb, h.zj, h.zr, fun k hk => h.up k (Nat.le_trans hf.size hk), h.low, h.tbl.fr hf h.low⟩,
  hf.mono (by simp [TT])⟩
theorem TMx.saved (h : TMx Z w t T P) {sv : Sav} (ho : Only [P.h T.other] w w') (hb : Block w' (P.h T.other) 100 (shA (P.x T.other) sv)) : TMx Z w' t (T.putSv sv) P ∧ Scn.Fr Z TT w w' := by
 have tt := Block.typ h.sheet
 have hz : Z (P.h T.other) := by
  unfold Pt.h
  rcases hoo : T.other with _ | o
  ·exact h.zm
  ·exact (h.aside o hoo).2.2
 have hf : Scn.Fr Z [100] w w' := Scn.Fr.of_only ho fun k hk _ => by
  obtain rfl : k = P.h T.other := by simpa using hk
  exact ⟨hz, _, by simp, tt⟩
 have keep : ∀ {k : Nat} {ty : TypeId}, Typ w k ty → ty ≠ 100 → w'.heap[k]? = w.heap[k]? := fun hk hty => ho.block _ (typ_lt hk) (not_in1 hk tt hty)
 have same : ∀ {k : Nat} {ty : TypeId} {cs : Array Value}, Block w k ty cs → ty ≠ 100 → Block w' k ty cs := fun hb hty => (keep (Block.typ hb) hty).trans hb
 have hscr := h.scr.fr hf (by unfold NoPT; decide)
 have hblk := same h.blk (by decide)
 refine ⟨?_, hf.mono (by simp [TT])⟩
 have hj := owns_heap (w' := w') h.jr (fun g hg => keep (owns_typ h.jr g hg) (by decide))
 have hr := row_heap (w' := w') h.rp (fun g hg => keep (row_typ h.rp g hg) (by decide))
 have ht := same h.tabs (by decide)
 have hup : ∀ k, w'.heap.size ≤ k → Z k := fun k hk => h.up k (Nat.le_trans hf.size hk)
 have htb := h.tbl.fr hf h.low
 have hmain := h.main
 have has := h.aside
 unfold Scrs at hscr
 unfold Pt.h Pt.x at hb
 unfold Pt.h at ho
 rcases hoo : T.other with _ | o
 ·rw [hoo] at hscr hb ho
  rw [show T.putSv sv = { T with main := { T.main with sv := sv } } from by unfold Ter.putSv; rw [hoo]]
  refine ⟨hblk, hb, fun o ho => (by rw [hoo] at ho; cases ho), ?_, ht, hj, hr, h.zt, h.zm, h.zb, h.zj, h.zr, hup, h.low, htb⟩
  unfold Scrs
  rw [hoo]
  simpa [Ter.vis, Ter.sh, Sh.scr, hoo] using hscr
 ·rw [hoo] at hscr hb ho
  rw [show T.putSv sv = { T with other := some { o with sv := sv } } from by unfold Ter.putSv; rw [hoo]]
  obtain ⟨a1, a2, a3⟩ := has o hoo
  have hm' : Block w' P.hm 100 (shA P.xm T.main.sv) := hmain.only ho (by simpa using a2.symm)
  have hA : terA { T with other := some { o with sv := sv } } P = terA T P := by unfold terA; rw [hoo]; rfl
  refine ⟨by rw [hA]; exact hblk, hm', fun o2 ho2 => ?_, ?_, ht, hj, hr, h.zt, h.zm, h.zb, h.zj, h.zr, hup, h.low, htb⟩
  ·simp only [Option.some.injEq] at ho2
   subst ho2
   exact ⟨hb, a2, a3⟩
  ·unfold Scrs
   simpa [Ter.vis, Ter.mscr, Ter.sh, Sh.scr, hoo] using hscr
theorem setTab_any (h : TM Z w t T) (ok : Ok T) : Calls Tryz.prog 67 #[.pointer (some ⟨t, 0, none⟩)] w (Does Z w t (setTab T)) := by
 obtain ⟨P, h⟩ := h
 have c9 := fun k : Eqt.Ext w => (h.below k.below).c9
 have c20 := fun k : Eqt.Ext w => (h.below k.below).c20
 have hn5 : T.tn ≤ 512 := by have := ok.tn; have := ok.fit.c5; omega
 have hs := Lib.hid (fun w1 (hb : Below w.heap.size w w1) => Tbs.set_ok (h.below hb).tabs hn5 T.c.col (by have := ok.tn; have := ok.col; omega))
 have hr := Lib.hid (fun w1 w2 (hb : Below w.heap.size w w1) => (h.below hb).tabbed (w' := w2) (n := T.tn) (f := Tbs.putF T.tf T.c.col true))
 unfold setTab
 generalize T.c.col = col at c9 hs hr ⊢
 clear h ok
 go_enter Tryz.func67, Tryz.ntmps67
 go_wp2
 refine Eqt.region_ext_tail 9 (by kernel_rfl) (by kernel_rfl) ?_
 simp only [List.take_succ_cons, List.take_zero, List.drop_succ_cons, List.drop_zero]
 repeat (go_big_quiet_step (fail))
 refine wpQuiet_nil ?_
 intro w9 hw9
 obtain ⟨k9, rfl⟩ := hw9
 have hb9 := k9.below
 generalize k9.w = w9 at hb9 ⊢
 go_wp2_with (first
  | (go_at_call 115; (with_reducible refine (hs.out _ hb9).mono ?_); rintro e w5 ⟨rfl, ht5, ho5⟩))
 obtain ⟨h6, hf6⟩ := hr.out _ _ hb9 ho5 ht5
 go_end0
 exact ⟨⟨_, rfl⟩, h6.tm, (fr_below hb9).trans hf6⟩
theorem save_any (h : TM Z w t T) : Calls Tryz.prog 70 #[.pointer (some ⟨t, 0, none⟩)] w (Does Z w t (save T)) := by
 obtain ⟨P, h⟩ := h
 have hsh := Lib.hid (fun k : Eqt.Ext w => shown_any (h.below k.below))
 have c3 := fun k : Eqt.Ext w => (h.below k.below).c3
 have c8 := fun k : Eqt.Ext w => (h.below k.below).c8
 have c9 := fun k : Eqt.Ext w => (h.below k.below).c9
 have c10 := fun k : Eqt.Ext w => (h.below k.below).c10
 have c11 := fun k : Eqt.Ext w => (h.below k.below).c11
 have c12 := fun k : Eqt.Ext w => (h.below k.below).c12
 have c13 := fun k : Eqt.Ext w => (h.below k.below).c13
 have c14 := fun k : Eqt.Ext w => (h.below k.below).c14
 have c15 := fun k : Eqt.Ext w => (h.below k.below).c15
 have c16 := fun k : Eqt.Ext w => (h.below k.below).c16
 have hbl := Lib.hid (fun w1 (hb : Below w.heap.size w w1) => (h.below hb).sheet)
 have hr := Lib.hid (fun w1 w2 (hb : Below w.heap.size w w1) => (h.below hb).saved (w' := w2) (sv := ⟨T.c, T.p, T.m.a3⟩))
 unfold save
 generalize P.h T.other = hh at hsh hbl hr
 generalize P.x T.other = xx at hbl hr
 clear h
 go_enter Tryz.func70, Tryz.ntmps70
 go_wp2
 refine Eqt.region_ext_tail 18 (by kernel_rfl) (by kernel_rfl) ?_
 simp only [List.take_succ_cons, List.take_zero, List.drop_succ_cons, List.drop_zero]
 repeat (go_big_quiet_step (first
  | (go_at_call 36; exact Eqt.q_ext_same (hsh.out _))))
 refine wpQuiet_nil ?_
 intro w9 hw9
 obtain ⟨k9, rfl⟩ := hw9
 have hb9 := k9.below
 generalize k9.w = w9 at hb9 ⊢
 go_wp2_with (first
  | (with_reducible show wpList _ _ _ (⟨none, .store _ (.tmp 19) _, _, _, _, _⟩ :: _) _ _; go_must (refine wpList_storeAt rfl _ (.tmp 19) (.tmp 17) rfl (hbl.out _ hb9) (savL ⟨T.c, T.p, T.m.a3⟩).toArray rfl rfl (by simp [shA, savL]) (by kernel_rfl) (by simp [savL, Value.oneCell']) ?_); intro w5 hb5 ho5))
 obtain ⟨h6, hf6⟩ := hr.out _ _ hb9 ho5 hb5
 go_end0
 exact ⟨⟨_, rfl⟩, h6.tm, (fr_below hb9).trans hf6⟩
end
end Go.Proofs.YtkjpjegmanpbfaaGreatDoor.Emu
