/- Part 46 of the proof that the card of EmuNone holds. -/
import Derived.Test.YtkjpjegmanpbfaaGreatDoorPN42
import Derived.Test.YtkjpjegmanpbfaaGreatDoorPN22
import Derived.RegionTactic
import Derived.BigRegion
import Derived.Test.YtkjpjegmanpbfaaGreatDoorPN01
import Derived.Test.YtkjpjegmanpbfaaGreatDoorPN06
import Derived.Test.YtkjpjegmanpbfaaGreatDoorPN07
set_option maxHeartbeats 16000000
set_option maxRecDepth 100000
namespace Go.Proofs.YtkjpjegmanpbfaaGreatDoor.Emu
open Go Go.Proofs.YtkjpjegmanpbfaaGreatDoor.Rw Go.Proofs.YtkjpjegmanpbfaaGreatDoor.Scn
structure Gw (T T' : Ter) (j n r p : Nat) : Prop where
 ok : Ok T'
 len : T'.vis.L.length = T.vis.L.length
 cols : T'.vis.cols = T.vis.cols
 nx : T.nx ≤ T'.nx ∧ T'.nx ≤ T.nx + n * T.vis.L.length
 jr : T'.jr.length ≤ T.jr.length + j
 rp : T'.rp.length ≤ T.rp.length + r
 pr : T'.prints ≤ T.prints + p
section
variable {T T' T1 : Ter} {j n r p j' n' r' p' : Nat}
theorem Gw.refl (h : Ok T) : Gw T T 0 0 0 0 := ⟨h, rfl, rfl, ⟨Nat.le_refl _, by omega⟩, Nat.le_refl _, Nat.le_refl _, Nat.le_refl _⟩
theorem Gw.trans (h : Gw T T1 j n r p) (g : Gw T1 T' j' n' r' p') : Gw T T' (j + j') (n + n') (r + r') (p + p') := by
 have h1 := h.nx
 have g1 := g.nx
 rw [h.len] at g1
 have h2 := h.jr; have g2 := g.jr; have h3 := h.rp; have g3 := g.rp; have h4 := h.pr; have g4 := g.pr
 exact ⟨g.ok, g.len.trans h.len, g.cols.trans h.cols, ⟨by omega, by rw [Nat.add_mul]; omega⟩, by omega, by omega, by omega⟩
theorem Gw.mono (h : Gw T T' j n r p) (hj : j ≤ j') (hn : n ≤ n') (hr : r ≤ r') (hp : p ≤ p') : Gw T T' j' n' r' p' := by
 have h1 := h.nx
 have h5 := Nat.mul_le_mul_right T.vis.L.length hn
 have h2 := h.jr; have h3 := h.rp; have h4 := h.pr
 exact ⟨h.ok, h.len, h.cols, ⟨h1.1, by omega⟩, by omega, by omega, by omega⟩
theorem gw_tell (h : Ok T) (e : Ev) : Gw T (tell T e) 1 0 0 0 := ⟨h.tell e, rfl, rfl, ⟨Nat.le_refl _, Nat.le_add_right _ _⟩, by show (T.jr ++ [e]).length ≤ _; simp, Nat.le_refl _, Nat.le_refl _⟩
theorem gw_place (h : Ok T) (y x : Int) : Gw T (place T y x) 0 0 0 0 := ⟨h.place y x, rfl, rfl, ⟨Nat.le_refl _, Nat.le_add_right _ _⟩, Nat.le_refl _, Nat.le_refl _, Nat.le_refl _⟩
theorem gw_move (h : Ok T) (y x : Int) : Gw T (move T y x) 1 0 0 0 := ((gw_place h y x).trans (gw_tell (h.place y x) _)).mono (Nat.le_refl _) (Nat.le_refl _) (Nat.le_refl _) (Nat.le_refl _)
theorem gw_other (h : Ok T) : Gw T (tellOther T) 1 0 0 0 := gw_tell h _
theorem gw_col (h : Ok T) {x : Nat} (hx : x < T.vis.cols) : Gw T (setCol T x) 0 0 0 0 := ⟨h.setCol hx, rfl, rfl, ⟨Nat.le_refl _, Nat.le_add_right _ _⟩, Nat.le_refl _, Nat.le_refl _, Nat.le_refl _⟩
theorem gw_put {S : Scr} (hO : Ok (T.putVis S)) (hm : S.most = T.most) (hk : S.kp = T.other.isNone) (hl : S.L.length = T.vis.L.length) (hc : S.cols = T.vis.cols) {n : Nat} (hn : T.nx ≤ S.nx ∧ S.nx ≤ T.nx + n * T.vis.L.length) : Gw T (T.putVis S) 0 n 0 0 := by
 refine ⟨hO, by rw [vis_put hm hk]; exact hl, by rw [vis_put hm hk]; exact hc, by rw [put_nx]; exact hn, by rw [put_jr]; exact Nat.le_refl _, by rw [put_rp]; exact Nat.le_refl _, by rw [put_prints]; exact Nat.le_refl _⟩
theorem gw_up (h : Ok T) {frm : Nat} (hf : frm ≤ T.vis.bot) (k : Int) (a : At) (b : Bool) : Gw T (T.putVis (upS T.vis frm k a b)) 0 1 0 0 := by
 refine gw_put (h.up hf k a b) rfl rfl (upS_len h.fit hf k a b) rfl ⟨Nat.le_add_right _ _, ?_⟩
 have h1 := held_leN k (T.vis.bot + 1 - frm)
 have h2 := h.fit.bot
 show T.nx + heldF k (T.vis.bot + 1 - frm) ≤ _
 omega
theorem gw_down (h : Ok T) {tp : Nat} (hf : tp ≤ T.vis.bot) (k : Int) (a : At) : Gw T (T.putVis (downS T.vis tp k a)) 0 1 0 0 := by
 refine gw_put (h.down hf k a) rfl rfl (downS_len h.fit hf k a) rfl ⟨Nat.le_add_right _ _, ?_⟩
 have h1 := held_leN k (T.vis.bot + 1 - tp)
 have h2 := h.fit.bot
 show T.nx + heldF k (T.vis.bot + 1 - tp) ≤ _
 omega
theorem gw_line (h : Ok T) {l : List Cel} (hl : l.length = (line T).length) : Gw T (putLine T l) 0 0 0 0 :=
 gw_put (h.putLine hl) rfl rfl (putAt_len _ _ _) rfl ⟨Nat.le_refl _, by show T.nx ≤ _; omega⟩
theorem gw_feed (h : Ok T) : Gw T (feed T) 0 1 0 0 := by
 unfold feed
 split
 ·exact ((gw_up h h.fit.top 1 T.p.a _).trans (gw_place (h.upT _ _) _ _)).mono (Nat.le_refl _) (Nat.le_refl _) (Nat.le_refl _) (Nat.le_refl _)
 ·exact (gw_place h _ _).mono (Nat.le_refl _) (by omega) (Nat.le_refl _) (Nat.le_refl _)
theorem gw_tellFeed (h : Ok T) (b : Bool) : Gw T (tellFeed T b) 1 0 0 0 := gw_tell h _
theorem gw_way (h : Ok T) (w : Nat) : Gw T (makeWay T w) 1 1 0 0 := by
 unfold makeWay
 split
 ·have h1 := h.setCol h.fit.c1
  exact (((gw_col h h.fit.c1).trans (gw_feed h1)).trans (gw_tellFeed h1.feed true)).mono (Nat.le_refl _) (Nat.le_refl _) (Nat.le_refl _) (Nat.le_refl _)
 ·split
  ·exact (gw_col h (by have := h.col; omega)).mono (by omega) (by omega) (Nat.le_refl _) (Nat.le_refl _)
  ·exact (Gw.refl h).mono (by omega) (by omega) (Nat.le_refl _) (Nat.le_refl _)
theorem gw_rune (h : Ok T) (e : Ev) (x : Int) : Gw T (tellRune T e x) 1 0 0 1 :=
 ⟨⟨h.fit, h.fitm, h.rows, h.cols, h.row, h.col, h.sv, h.svm, h.tn, h.alt⟩, rfl, rfl, ⟨Nat.le_refl _, Nat.le_add_right _ _⟩, by show (T.jr ++ [_]).length ≤ _; simp, Nat.le_refl _, Nat.le_refl _⟩
theorem gw_cur (h : Gw T T1 j n r p) (pd : Bool) : Gw T { T1 with c := { T1.c with pend := pd } } j n r p :=
 ⟨⟨h.ok.fit, h.ok.fitm, h.ok.rows, h.ok.cols, h.ok.row, h.ok.col, h.ok.sv, h.ok.svm, h.ok.tn, h.ok.alt⟩, h.len, h.cols, h.nx, h.jr, h.rp, h.pr⟩
theorem gw_join (h : Ok T) (x : Int) : Gw T (joinT T x) 1 0 0 1 := by
 unfold joinT
 split
 ·have h1 := fun c => gw_line h (Rw.joiL_len (line T) c x)
  exact ((h1 _).trans (gw_rune (h1 _).ok _ x)).mono (Nat.le_refl _) (Nat.le_refl _) (Nat.le_refl _) (Nat.le_refl _)
 ·exact (Gw.refl h).mono (by omega) (Nat.le_refl _) (Nat.le_refl _) (by omega)
theorem gw_putT (h : Ok T) (x : Int) (w : Nat) : Gw T (putT T x w) 1 0 0 1 := by
 have h1 := gw_line h (putCells_len T x w)
 have h2 := h1.trans (gw_rune h1.ok (putEv T w) x)
 have h3 := h2.trans (gw_place h2.ok (tellRune (putLine T (putCells T x w)) (putEv T w) x).c.row (T.c.col + w : Nat))
 exact gw_cur (h3.mono (Nat.le_refl _) (Nat.le_refl _) (Nat.le_refl _) (Nat.le_refl _)) _
theorem gw_print (h : Ok T) (x : Int) : Gw T (printT T x) 2 1 0 1 := by
 unfold printT
 generalize Cht.charsetF (if T.p.wh then T.p.g1 else T.p.g0) x = c
 simp only
 split
 ·exact (gw_join h _).mono (by omega) (by omega) (Nat.le_refl _) (Nat.le_refl _)
 ·split
  ·exact ((gw_way h _).trans (gw_putT (gw_way h _).ok _ _)).mono (Nat.le_refl _) (Nat.le_refl _) (Nat.le_refl _) (Nat.le_refl _)
  ·exact ((gw_way h _).trans (gw_putT (gw_way h _).ok _ _)).mono (Nat.le_refl _) (Nat.le_refl _) (Nat.le_refl _) (Nat.le_refl _)
theorem gw_same (h' : Ok T') (hv : T'.vis.L.length = T.vis.L.length) (hc : T'.vis.cols = T.vis.cols) (hn : T'.nx = T.nx) (hj : T'.jr = T.jr) (hr : T'.rp = T.rp) (hp : T'.prints = T.prints) : Gw T T' 0 0 0 0 :=
 ⟨h', hv, hc, by rw [hn]; exact ⟨Nat.le_refl _, Nat.le_add_right _ _⟩, by rw [hj]; exact Nat.le_refl _, by rw [hr]; exact Nat.le_refl _, by rw [hp]; exact Nat.le_refl _⟩
theorem Ok.pen (h : Ok T) (q : Pen) : Ok { T with p := q } := ⟨h.fit, h.fitm, h.rows, h.cols, h.row, h.col, h.sv, h.svm, h.tn, h.alt⟩
theorem Ok.tabF (h : Ok T) (f : Nat → Bool) : Ok { T with tf := f } := ⟨h.fit, h.fitm, h.rows, h.cols, h.row, h.col, h.sv, h.svm, h.tn, h.alt⟩
theorem gw_pen (h : Ok T) (q : Pen) : Gw T { T with p := q } 0 0 0 0 := gw_same (h.pen q) rfl rfl rfl rfl rfl rfl
theorem gw_tabF (h : Ok T) (f : Nat → Bool) : Gw T { T with tf := f } 0 0 0 0 := gw_same (h.tabF f) rfl rfl rfl rfl rfl rfl
theorem gw_rowDown (h : Ok T) : Gw T (rowDown T) 1 1 0 0 := ((gw_feed h).trans (gw_other h.feed)).mono (Nat.le_refl _) (Nat.le_refl _) (Nat.le_refl _) (Nat.le_refl _)
theorem gw_nextLine (h : Ok T) : Gw T (nextLine T) 1 1 0 0 := ((gw_col h h.fit.c1).trans (gw_rowDown (h.setCol h.fit.c1))).mono (Nat.le_refl _) (Nat.le_refl _) (Nat.le_refl _) (Nat.le_refl _)
theorem gw_rowUp (h : Ok T) : Gw T (rowUp T) 1 1 0 0 := by
 unfold rowUp
 split
 ·have h1 := gw_down h h.fit.top 1 T.p.a
  exact (h1.trans (gw_move h1.ok _ _)).mono (Nat.le_refl _) (Nat.le_refl _) (Nat.le_refl _) (Nat.le_refl _)
 ·exact (gw_move h _ _).mono (Nat.le_refl _) (by omega) (Nat.le_refl _) (Nat.le_refl _)
theorem gw_newLine (h : Ok T) : Gw T (newLine T) 1 1 0 0 := by
 unfold newLine
 split
 ·have h1 := h.setCol h.fit.c1
  exact (((gw_col h h.fit.c1).trans (gw_feed h1)).trans (gw_tellFeed h1.feed false)).mono (Nat.le_refl _) (Nat.le_refl _) (Nat.le_refl _) (Nat.le_refl _)
 ·exact ((gw_feed h).trans (gw_tellFeed h.feed false)).mono (Nat.le_refl _) (Nat.le_refl _) (Nat.le_refl _) (Nat.le_refl _)
theorem gw_straight (h : Ok T) (y x : Int) : Gw T (tellStraight (place T y x)) 1 0 0 0 := ((gw_place h y x).trans (gw_tell (h.place y x) _)).mono (Nat.le_refl _) (Nat.le_refl _) (Nat.le_refl _) (Nat.le_refl _)
theorem gw_control (h : Ok T) (x : Int) : Gw T (control T x) 1 1 0 0 := by
 unfold control
 split
 ·exact (gw_move h _ _).mono (Nat.le_refl _) (by omega) (Nat.le_refl _) (Nat.le_refl _)
 split
 ·exact (gw_straight h _ _).mono (Nat.le_refl _) (by omega) (Nat.le_refl _) (Nat.le_refl _)
 split
 ·exact gw_newLine h
 split
 ·exact (gw_straight h _ _).mono (Nat.le_refl _) (by omega) (Nat.le_refl _) (Nat.le_refl _)
 split
 ·exact (gw_pen h _).mono (by omega) (by omega) (Nat.le_refl _) (Nat.le_refl _)
 split
 ·exact (gw_pen h _).mono (by omega) (by omega) (Nat.le_refl _) (Nat.le_refl _)
 split
 ·exact gw_rowDown h
 split
 ·exact gw_nextLine h
 split
 ·exact (gw_tabF h _).mono (by omega) (by omega) (Nat.le_refl _) (Nat.le_refl _)
 split
 ·exact gw_rowUp h
 ·exact (Gw.refl h).mono (by omega) (by omega) (Nat.le_refl _) (Nat.le_refl _)
theorem gw_save (h : Ok T) : Gw T (save T) 0 0 0 0 := by
 refine gw_same h.save ?_ ?_ ?_ ?_ ?_ ?_
 all_goals
  unfold save Ter.putSv
  rcases ho : T.other with _ | o <;> simp [Ter.vis, Ter.sh, Sh.scr, ho]
theorem gw_restore (h : Ok T) : Gw T (restore T) 1 0 0 0 := ((gw_same (T := T) h.restored rfl rfl rfl rfl rfl rfl).trans (gw_other h.restored)).mono (Nat.le_refl _) (Nat.le_refl _) (Nat.le_refl _) (Nat.le_refl _)
theorem begin_len (T : Ter) (rows cols : Nat) : (begin' T rows cols).vis.L.length = rows := freshS_len _ _ _ _
theorem gw_reset (h : Ok T) : Gw T (reset T) 1 1 0 0 := by
 have hO : Ok (begin' T T.vis.L.length T.vis.cols) := Ok.begin (show 1 ≤ T.nx from h.fit.pos) h.fit.len h.fit.len5 h.fit.c1 h.fit.c5
 have h1 : Gw T (begin' T T.vis.L.length T.vis.cols) 0 1 0 0 := ⟨hO, begin_len _ _ _, rfl, ⟨Nat.le_add_right _ _, by show T.nx + _ ≤ _; omega⟩, Nat.le_refl _, Nat.le_refl _, Nat.le_refl _⟩
 exact (h1.trans (gw_tell hO _)).mono (Nat.le_refl _) (Nat.le_refl _) (Nat.le_refl _) (Nat.le_refl _)
theorem gw_choose (h : Ok T) (x : AcT) : Gw T (choose T x) 0 0 0 0 := by
 unfold choose
 split
 ·split
  ·unfold setG
   split
   ·exact gw_pen h _
   ·exact gw_pen h _
  ·exact Gw.refl h
 ·exact Gw.refl h
theorem gw_escape (h : Ok T) (x : AcT) : Gw T (escape T x) 1 1 0 0 := by
 unfold escape
 split
 ·split
  ·exact (gw_save h).mono (by omega) (by omega) (Nat.le_refl _) (Nat.le_refl _)
  split
  ·exact (gw_restore h).mono (Nat.le_refl _) (by omega) (Nat.le_refl _) (Nat.le_refl _)
  split
  ·exact gw_rowDown h
  split
  ·exact gw_nextLine h
  split
  ·exact (gw_tabF h _).mono (by omega) (by omega) (Nat.le_refl _) (Nat.le_refl _)
  split
  ·exact gw_rowUp h
  split
  ·exact gw_reset h
  ·exact (Gw.refl h).mono (by omega) (by omega) (Nat.le_refl _) (Nat.le_refl _)
 ·exact (gw_choose h x).mono (by omega) (by omega) (Nat.le_refl _) (Nat.le_refl _)
theorem dg_len : ∀ (k n : Nat), n < 10 ^ (k + 1) → (Kys.dgF (n : Int)).length ≤ k + 1 := by
 intro k
 induction k with
 | zero =>
  intro n hn
  rw [Kys.dg_small (by omega)]
  simp
 | succ k ih =>
  intro n hn
  by_cases h : n < 10
  ·rw [Kys.dg_small h]
   simp
  ·have h2 : n / 10 < 10 ^ (k + 1) := Nat.div_lt_of_lt_mul (by rw [Nat.pow_succ] at hn; omega)
   rw [Kys.dg_big (by omega), List.length_append, List.length_singleton]
   have := ih _ h2
   omega
theorem gw_erase (h : Ok T) (f u : Nat) : Gw T (eraseRows T f u) 0 0 0 0 :=
 gw_put (h.era f u) rfl rfl (eraRows_len _ _ _ _ _) rfl ⟨Nat.le_refl _, by show T.nx ≤ _; omega⟩
theorem gw_eraseIn (h : Ok T) (f u : Int) : Gw T (eraseIn T f u) 1 0 0 0 := by
 have h1 := gw_line h (eraL_len (line T) f u T.p.a)
 exact (h1.trans (gw_other h1.ok)).mono (Nat.le_refl _) (Nat.le_refl _) (Nat.le_refl _) (Nat.le_refl _)
theorem gw_eraseLine (h : Ok T) (k : Int) : Gw T (eraseLine T k) 1 0 0 0 := by
 unfold eraseLine
 split
 ·exact gw_eraseIn h _ _
 split
 ·exact gw_eraseIn h _ _
 split
 ·exact gw_eraseIn h _ _
 ·exact (Gw.refl h).mono (by omega) (Nat.le_refl _) (Nat.le_refl _) (Nat.le_refl _)
theorem gw_noBack (h : Ok T) : Gw T (noBack T) 0 0 0 0 := gw_same h.noBack rfl rfl rfl rfl rfl rfl
theorem gw_eraseScr (h : Ok T) (k : Int) : Gw T (eraseScr T k) 1 0 0 0 := by
 unfold eraseScr
 split
 ·exact ((gw_erase h _ _).trans (gw_eraseLine (gw_erase h _ _).ok _)).mono (Nat.le_refl _) (Nat.le_refl _) (Nat.le_refl _) (Nat.le_refl _)
 split
 ·exact ((gw_erase h _ _).trans (gw_eraseLine (gw_erase h _ _).ok _)).mono (Nat.le_refl _) (Nat.le_refl _) (Nat.le_refl _) (Nat.le_refl _)
 split
 ·exact ((gw_erase h _ _).trans (gw_eraseLine (gw_erase h _ _).ok _)).mono (Nat.le_refl _) (Nat.le_refl _) (Nat.le_refl _) (Nat.le_refl _)
 split
 ·exact ((gw_noBack h).trans (gw_eraseLine (gw_noBack h).ok _)).mono (Nat.le_refl _) (Nat.le_refl _) (Nat.le_refl _) (Nat.le_refl _)
 ·exact gw_eraseLine h _
theorem gw_insC (h : Ok T) (l : List Int) : Gw T (insertCells T l) 1 0 0 0 := by
 have h1 := gw_line h (inL_len (line T) T.c.col (countN l 0) T.p.a)
 exact (h1.trans (gw_other h1.ok)).mono (Nat.le_refl _) (Nat.le_refl _) (Nat.le_refl _) (Nat.le_refl _)
theorem gw_delC (h : Ok T) (l : List Int) : Gw T (deleteCells T l) 1 0 0 0 := by
 have h1 := gw_line h (deL_len (line T) T.c.col (countN l 0) T.p.a)
 exact (h1.trans (gw_other h1.ok)).mono (Nat.le_refl _) (Nat.le_refl _) (Nat.le_refl _) (Nat.le_refl _)
theorem gw_insL (h : Ok T) (l : List Int) : Gw T (insertLines T l) 1 1 0 0 := by
 unfold insertLines
 split
 ·next hw =>
  have h1 := gw_down h hw.2 (countN l 0) T.p.a
  exact (h1.trans (gw_move h1.ok _ _)).mono (Nat.le_refl _) (Nat.le_refl _) (Nat.le_refl _) (Nat.le_refl _)
 ·exact (Gw.refl h).mono (by omega) (by omega) (Nat.le_refl _) (Nat.le_refl _)
theorem gw_delL (h : Ok T) (l : List Int) : Gw T (deleteLines T l) 1 1 0 0 := by
 unfold deleteLines
 split
 ·next hw =>
  have h1 := gw_up h hw.2 (countN l 0) T.p.a false
  exact (h1.trans (gw_move h1.ok _ _)).mono (Nat.le_refl _) (Nat.le_refl _) (Nat.le_refl _) (Nat.le_refl _)
 ·exact (Gw.refl h).mono (by omega) (by omega) (Nat.le_refl _) (Nat.le_refl _)
theorem gw_scrU (h : Ok T) (l : List Int) : Gw T (scrollUp T l) 1 1 0 0 := by
 have h1 := gw_up h h.fit.top (countN l 0) T.p.a (T.vis.kp && decide (T.vis.top = 0))
 exact (h1.trans (gw_other h1.ok)).mono (Nat.le_refl _) (Nat.le_refl _) (Nat.le_refl _) (Nat.le_refl _)
theorem gw_scrD (h : Ok T) (l : List Int) : Gw T (scrollDown T l) 1 1 0 0 := by
 have h1 := gw_down h h.fit.top (countN l 0) T.p.a
 exact (h1.trans (gw_other h1.ok)).mono (Nat.le_refl _) (Nat.le_refl _) (Nat.le_refl _) (Nat.le_refl _)
theorem gw_marg (h : Ok T) (l : List Int) : Gw T (setMargins T l) 1 0 0 0 := by
 unfold setMargins
 split
 ·next hw =>
  have hl := h.fit.len
  have hb : (margB T l).toNat < T.vis.L.length ∧ 0 ≤ margB T l := by
   unfold margB
   split <;> omega
  have h1 := h.marg hb.1 (a := (countN l 0 - 1).toNat) (by omega)
  have h2 : Gw T (T.putVis { T.vis with top := (countN l 0 - 1).toNat, bot := (margB T l).toNat }) 0 0 0 0 := gw_put h1 rfl rfl rfl rfl ⟨Nat.le_refl _, by show T.nx ≤ _; omega⟩
  exact (h2.trans (gw_move h2.ok _ _)).mono (Nat.le_refl _) (Nat.le_refl _) (Nat.le_refl _) (Nat.le_refl _)
 ·exact (Gw.refl h).mono (by omega) (Nat.le_refl _) (Nat.le_refl _) (Nat.le_refl _)
theorem gw_tabs (h : Ok T) (l : List Int) : Gw T (clearTabs T l) 0 0 0 0 := by
 unfold clearTabs
 split
 ·exact gw_tabF h _
 split
 ·exact gw_tabF h _
 ·exact Gw.refl h
theorem gw_modes (h : Ok T) (l : List Int) (on : Bool) : Gw T (setModes T l on) 0 0 0 0 := by
 unfold setModes
 induction l generalizing T with
 | nil => exact Gw.refl h
 | cons a l ih =>
  have h1 := h.putM (clampN a) on
  have h2 : Gw T (putM T false on (clampN a)) 0 0 0 0 := gw_same h1 rfl rfl rfl rfl rfl rfl
  exact (h2.trans (ih h1)).mono (Nat.le_refl _) (Nat.le_refl _) (Nat.le_refl _) (Nat.le_refl _)
theorem gw_reply (h : Ok T) (b : List Int) {r : Nat} (hb : b.length ≤ r) : Gw T (reply T b) 0 0 r 0 :=
 ⟨⟨h.fit, h.fitm, h.rows, h.cols, h.row, h.col, h.sv, h.svm, h.tn, h.alt⟩, rfl, rfl, ⟨Nat.le_refl _, Nat.le_add_right _ _⟩, Nat.le_refl _, by show (T.rp ++ b).length ≤ _; simp; omega, Nat.le_refl _⟩
theorem cur_len {a b : Int} (ha : a < 1000) (hb : b < 1000) : (Kys.curF a b).length ≤ 20 := by
 have hm : ∀ x : Int, x < 1000 → (Kys.dgF (Kys.mx x)).length ≤ 3 := fun x hx => by
  have h1 : 0 ≤ Kys.mx x ∧ Kys.mx x < 1000 := by
   unfold Kys.mx
   split <;> omega
  have := dg_len 2 (Kys.mx x).toNat (by omega)
  rwa [show ((Kys.mx x).toNat : Int) = Kys.mx x by omega] at this
 have h1 := hm a ha
 have h2 := hm b hb
 simp only [Kys.curF, Kys.ctlF, Kys.numsF, Kys.tailF, List.length_append, List.length_cons, List.length_nil]
 omega
theorem gw_report (h : Ok T) (l : List Int) : Gw T (report T l) 0 0 20 0 := by
 unfold report
 split
 ·exact gw_reply h _ (by decide)
 split
 ·refine gw_reply h _ (cur_len ?_ ?_)
  ·have h1 := h.row
   have h2 := h.fit.len5
   have h3 : 0 ≤ counted T 1 := by
    unfold counted
    split <;> omega
   omega
  ·have h1 := h.col
   have h2 := h.fit.c5
   omega
 ·exact (Gw.refl h).mono (Nat.le_refl _) (Nat.le_refl _) (by omega) (Nat.le_refl _)
theorem gw_device (h : Ok T) (l : List Int) : Gw T (device T l) 0 0 20 0 := by
 unfold device
 split
 ·exact gw_reply h _ (by decide)
 ·exact (Gw.refl h).mono (Nat.le_refl _) (Nat.le_refl _) (by omega) (Nat.le_refl _)
theorem gw_ite {c : Prop} [Decidable c] {A B : Ter} (ha : c → Gw T A j n r p) (hb : ¬ c → Gw T B j n r p) : Gw T (if c then A else B) j n r p := by
 split
 ·next hc => exact ha hc
 ·next hc => exact hb hc
theorem gw_plain (h : Ok T) (f : Int) (l : List Int) : Gw T (plain T f l) 1 1 20 0 := by
 unfold plain
 have mv : ∀ y x, Gw T (move T y x) 1 1 20 0 := fun y x => (gw_move h y x).mono (Nat.le_refl _) (by omega) (by omega) (Nat.le_refl _)
 have m1 : ∀ {T'}, Gw T T' 1 0 0 0 → Gw T T' 1 1 20 0 := fun g => g.mono (Nat.le_refl _) (by omega) (by omega) (Nat.le_refl _)
 have m2 : ∀ {T'}, Gw T T' 1 1 0 0 → Gw T T' 1 1 20 0 := fun g => g.mono (Nat.le_refl _) (Nat.le_refl _) (by omega) (Nat.le_refl _)
 have m0 : ∀ {T'}, Gw T T' 0 0 0 0 → Gw T T' 1 1 20 0 := fun g => g.mono (by omega) (by omega) (by omega) (Nat.le_refl _)
 have mr : ∀ {T'}, Gw T T' 0 0 20 0 → Gw T T' 1 1 20 0 := fun g => g.mono (by omega) (by omega) (Nat.le_refl _) (Nat.le_refl _)
 refine gw_ite (fun _ => mv _ _) (fun _ => ?_)
 refine gw_ite (fun _ => mv _ _) (fun _ => ?_)
 refine gw_ite (fun _ => mv _ _) (fun _ => ?_)
 refine gw_ite (fun _ => mv _ _) (fun _ => ?_)
 refine gw_ite (fun _ => mv _ _) (fun _ => ?_)
 refine gw_ite (fun _ => mv _ _) (fun _ => ?_)
 refine gw_ite (fun _ => mv _ _) (fun _ => ?_)
 refine gw_ite (fun _ => mv _ _) (fun _ => ?_)
 refine gw_ite (fun _ => mv _ _) (fun _ => ?_)
 refine gw_ite (fun _ => mv _ _) (fun _ => ?_)
 refine gw_ite (fun _ => mv _ _) (fun _ => ?_)
 refine gw_ite (fun _ => m1 (gw_eraseScr h _)) (fun _ => ?_)
 refine gw_ite (fun _ => m1 (gw_eraseLine h _)) (fun _ => ?_)
 refine gw_ite (fun _ => m1 (gw_eraseIn h _ _)) (fun _ => ?_)
 refine gw_ite (fun _ => m1 (gw_insC h _)) (fun _ => ?_)
 refine gw_ite (fun _ => m1 (gw_delC h _)) (fun _ => ?_)
 refine gw_ite (fun _ => m2 (gw_insL h _)) (fun _ => ?_)
 refine gw_ite (fun _ => m2 (gw_delL h _)) (fun _ => ?_)
 refine gw_ite (fun _ => m2 (gw_scrU h _)) (fun _ => ?_)
 refine gw_ite (fun _ => m2 (gw_scrD h _)) (fun _ => ?_)
 refine gw_ite (fun _ => m1 (gw_marg h _)) (fun _ => ?_)
 refine gw_ite (fun _ => m0 (gw_tabs h _)) (fun _ => ?_)
 refine gw_ite (fun _ => m0 (gw_pen h _)) (fun _ => ?_)
 refine gw_ite (fun _ => m0 (gw_modes h _ _)) (fun _ => ?_)
 refine gw_ite (fun _ => m0 (gw_modes h _ _)) (fun _ => ?_)
 refine gw_ite (fun _ => mr (gw_report h _)) (fun _ => ?_)
 refine gw_ite (fun _ => mr (gw_device h _)) (fun _ => ?_)
 exact m0 (Gw.refl h)
theorem gw_setOther (h : Ok T) (on : Bool) : Gw T (setOther T on) 1 1 0 0 := by
 have hO := h.setOther on
 unfold setOther at hO ⊢
 split
 ·exact (Gw.refl h).mono (by omega) (by omega) (Nat.le_refl _) (Nat.le_refl _)
 ·next hne =>
  have hrows := h.rows
  have hcols := h.cols
  cases on
  ·have h1 : Gw T (showMain (Emu.setAlt T false)) 0 0 0 0 := gw_same h.showMain hrows hcols rfl rfl rfl rfl
   exact (h1.trans (gw_move h1.ok _ _)).mono (Nat.le_refl _) (by omega) (Nat.le_refl _) (Nat.le_refl _)
  ·have h1 : Gw T (showOther (Emu.setAlt T true)) 0 1 0 0 := by
    refine ⟨h.showOther, ?_, hcols, ⟨Nat.le_add_right _ _, ?_⟩, Nat.le_refl _, Nat.le_refl _, Nat.le_refl _⟩
    ·show (freshS _ _ _ _).length = _
     rw [freshS_len]
     exact hrows
    ·show T.nx + T.main.L.length ≤ _
     omega
   exact (h1.trans (gw_move h1.ok _ _)).mono (Nat.le_refl _) (Nat.le_refl _) (Nat.le_refl _) (Nat.le_refl _)
theorem gw_priv1 (h : Ok T) (x : Int) (on : Bool) : Gw T (priv1 T x on) 2 1 0 0 := by
 unfold priv1
 split
 ·have h1 : Gw T (setOrg T on) 0 0 0 0 := gw_same (h.setOrg on) rfl rfl rfl rfl rfl rfl
  exact (h1.trans (gw_move h1.ok _ _)).mono (by omega) (by omega) (Nat.le_refl _) (Nat.le_refl _)
 split
 ·exact (gw_setOther h on).mono (by omega) (Nat.le_refl _) (Nat.le_refl _) (Nat.le_refl _)
 split
 ·unfold setSaved
  split
  ·exact (gw_save h).mono (by omega) (by omega) (Nat.le_refl _) (Nat.le_refl _)
  ·exact (gw_restore h).mono (by omega) (by omega) (Nat.le_refl _) (Nat.le_refl _)
 split
 ·unfold setOtherSaved
  split
  ·exact (Gw.refl h).mono (by omega) (by omega) (Nat.le_refl _) (Nat.le_refl _)
  split
  ·exact ((gw_save h).trans (gw_setOther h.save true)).mono (by omega) (by omega) (Nat.le_refl _) (Nat.le_refl _)
  ·exact ((gw_setOther h false).trans (gw_restore (gw_setOther h false).ok)).mono (by omega) (by omega) (Nat.le_refl _) (Nat.le_refl _)
 ·next h1 h2 h3 h4 =>
  have hO := (grow_1 h x on).ok
  unfold priv1 at hO
  rw [if_neg h1, if_neg h2, if_neg h3, if_neg h4] at hO
  exact (gw_same (T := T) hO rfl rfl rfl rfl rfl rfl).mono (by omega) (by omega) (Nat.le_refl _) (Nat.le_refl _)
theorem gw_privates (h : Ok T) (l : List Int) (on : Bool) : Gw T (privates T l on) (2 * l.length) l.length 0 0 := by
 unfold privates
 induction l generalizing T with
 | nil => exact Gw.refl h
 | cons a l ih =>
  have h1 := gw_priv1 h (clampN a) on
  exact (h1.trans (ih h1.ok)).mono (by simp; omega) (by simp; omega) (Nat.le_refl _) (Nat.le_refl _)
theorem gw_do (h : Ok T) (x : AcT) : Gw T (doT T x) (2 * x.params.length + 2) (x.params.length + 1) 20 1 := by
 unfold doT
 split
 ·exact (gw_print h _).mono (by omega) (by omega) (by omega) (Nat.le_refl _)
 split
 ·exact (gw_control h _).mono (by omega) (by omega) (by omega) (by omega)
 split
 ·exact (gw_escape h _).mono (by omega) (by omega) (by omega) (by omega)
 split
 ·unfold sequence
  split
  ·split
   ·exact (gw_plain h _ _).mono (by omega) (by omega) (by omega) (by omega)
   split
   ·split
    ·exact (gw_privates h _ _).mono (by omega) (by omega) (by omega) (by omega)
    split
    ·exact (gw_privates h _ _).mono (by omega) (by omega) (by omega) (by omega)
    ·exact (Gw.refl h).mono (by omega) (by omega) (by omega) (by omega)
   ·exact (Gw.refl h).mono (by omega) (by omega) (by omega) (by omega)
  ·exact (Gw.refl h).mono (by omega) (by omega) (by omega) (by omega)
 ·exact (Gw.refl h).mono (by omega) (by omega) (by omega) (by omega)
end
def prA (r : Int) : AcT := ⟨1, r, 0, [], [], 0, []⟩
def csA (pr : Int) (p : List Int) (f : Int) : AcT := ⟨4, 0, pr, p, [], f, []⟩
def k0 : Ter := newT 2 4 5
def k4 : Ter := doT (doT (doT (doT k0 (prA 97)) (prA 98)) (prA 99)) (prA 100)
def k5 : Ter := doT (doT k4 (prA 101)) (csA 0 [6] 110)
def k5r : Ter := { k5 with rp := [] }
def k5j : Ter := { k5r with jr := [] }
def k6 : Ter := doT k5j (csA 63 [1049] 104)
def k7 : Ter := doT k6 (csA 63 [1049] 108)
def kl2 : List Ln := [(1, [⟨97, [], 0, zeroAt⟩, ⟨98, [], 0, zeroAt⟩, ⟨99, [], 0, zeroAt⟩, ⟨100, [], 0, zeroAt⟩]), (2, [⟨101, [], 0, zeroAt⟩, ⟨32, [], 0, zeroAt⟩, ⟨32, [], 0, zeroAt⟩, ⟨32, [], 0, zeroAt⟩])]
theorem k5_L : k5.vis.L = kl2 := by kernel_rfl
theorem k5_rp : k5.rp = [27, 91, 50, 59, 50, 82] := by kernel_rfl
theorem k7_L : k7.vis.L = kl2 := by kernel_rfl
theorem k7_cols : k7.vis.cols = k5.vis.cols := by kernel_rfl
theorem kl2_four : ∀ p ∈ kl2, ∀ c ∈ p.2, c.m.length ≤ 4 := by decide
end Go.Proofs.YtkjpjegmanpbfaaGreatDoor.Emu
namespace Go.Proofs.YtkjpjegmanpbfaaGreatDoor.Rw
open Go Go.RowKit Go.Proofs.YtkjpjegmanpbfaaGreatDoor.Com
structure SameSt (w wr : World) (C C' : Array Value) (ao ao' : Option Addr) (m : List Int) : Prop where
 b1 : Block wr w.heap.size 64 C
 b2 : Block wr (w.heap.size + 1) 64 C'
 n1 : Nums wr w.heap.size .i32 ao m
 n2 : Nums wr w.heap.size .i32 ao' m
 below : Below w.heap.size w wr
theorem SameSt.drawn {w wr : World} {C C' : Array Value} {ao ao' : Option Addr} {m : List Int} (h : SameSt w wr C C' ao ao' m) (q : Nat) : SameSt w (wr.drewN q) C C' ao ao' m := by
 have ho := Only.drewN [] wr q
 exact ⟨h.b1.only ho (by simp), h.b2.only ho (by simp), h.n1.only ho h.below.size (by simp), h.n2.only ho h.below.size (by simp), h.below.trans (ho.below h.below.size (by simp))⟩
theorem SameSt.start {w : World} {C C' : Array Value} {ao ao' : Option Addr} {m : List Int} (h1 : Nums w w.heap.size .i32 ao m) (h2 : Nums w w.heap.size .i32 ao' m) : SameSt w ((w.alloc (.cells C 64)).alloc (.cells C' 64)) C C' ao ao' m := by
 refine ⟨(Block.made w _ _).alloc _, ?_, (h1.alloc (Nat.le_refl _) _).alloc (by simp) _, (h2.alloc (Nat.le_refl _) _).alloc (by simp) _, ((Below.refl _ _).alloc (Nat.le_refl _) _).alloc (by simp) _⟩
 have := Block.made (w.alloc (.cells C 64)) 64 C'
 simpa using this
theorem samecell_any {B B' : Nat} (c : Cel) (v v' : Value) (w : World) (h : Own w B 21 .i32 v c.m) (h' : Own w B' 21 .i32 v' c.m) (hm : c.m.length ≤ 4) : Calls Tryz.prog 41 #[.agg (apiC c v).toArray, .agg (apiC c v').toArray] w fun e w' => e = .returned (.bool true) ∧ Below w.heap.size w w' := by
 obtain ⟨ao, cp, rfl, hc1, hc2, hnums⟩ := h.shape
 obtain ⟨ao', cp', rfl, hc1', hc2', hnums'⟩ := h'.shape
 obtain ⟨r, m, wd, ⟨af, ab, ag⟩⟩ := c
 simp only at hm hnums hnums' hc1 hc1' ⊢
 have hC : ∀ ao cp, (apiC ⟨r, m, wd, ⟨af, ab, ag⟩⟩ (.slice ao m.length cp)).toArray = #[.int .i32 r, .slice ao m.length cp, .int .u8 wd, .int .u32 af, .int .u32 ab, .int .u16 ag] := fun _ _ => rfl
 rw [hC, hC]
 clear hC h h'
 obtain ⟨n, hn⟩ : ∃ n, n = m.length := ⟨_, rfl⟩
 rw [← hn] at hm hc1 hc1' ⊢
 have hst := Lib.hid (SameSt.start (C := #[.int .i32 r, .slice ao n cp, .int .u8 wd, .int .u32 af, .int .u32 ab, .int .u16 ag]) (C' := #[.int .i32 r, .slice ao' n cp', .int .u8 wd, .int .u32 af, .int .u32 ab, .int .u16 ag]) hnums hnums')
 replace hn := Lib.hid hn
 clear hnums hnums'
 go_enter Tryz.func41, Tryz.ntmps41
 go_wp2
 go_loopw [5] (fun i wr => ∃ k : Nat, k ≤ n ∧ i = .int .i64 k ∧ Hid (SameSt w wr #[.int .i32 r, .slice ao n cp, .int .u8 wd, .int .u32 af, .int .u32 ab, .int .u16 ag] #[.int .i32 r, .slice ao' n cp', .int .u8 wd, .int .u32 af, .int .u32 ab, .int .u16 ag] ao ao' m)) (fun i _ => n - (intOf i).toNat)
 case atStart => exact ⟨0, Nat.zero_le _, rfl, hst⟩
 case round =>
  obtain ⟨k, hk, rfl, hR⟩ := hrel
  have hR := hR.out
  have c1 := hR.b1.cell 1 rfl
  have c2 := hR.b2.cell 1 rfl
  by_cases hlt : k < n
  ·have hkm : k < m.length := by rw [← hn.out]; exact hlt
   obtain ⟨ad, rfl, _, hx⟩ := hR.n1.at hkm
   obtain ⟨ad', rfl, _, hx'⟩ := hR.n2.at hkm
   generalize m[k] = y at hx hx'
   have hnx := Lib.hid (fun q => hR.drawn q)
   have hki : (k : Int) < (n : Int) := by omega
   clear hR hst
   go_wp2
   go_region
   go_wp2
   go_roundw
   case rel => exact ⟨k + 1, by omega, by go_num, Lib.hid (hnx.out 1)⟩
   case measure => simp [intOf]; omega
  ·obtain rfl : k = n := by omega
   have hb := Lib.hid hR.below
   clear hR hst
   go_wp2
   go_ret
   exact ⟨rfl, hb.out⟩
theorem api6 {B : Nat} {w : World} {g n cap : Nat} {ps : List (Cel × Value)} (h : Api B w (.slice (some ⟨g, 0, none⟩) n cap) ps) {i : Nat} (hi : i < ps.length) : w.cell? ⟨g, i * 6, none⟩ = some (.int .i32 ps[i].1.r) ∧ w.cell? ⟨g, i * 6 + 1, none⟩ = some ps[i].2 ∧ w.cell? ⟨g, i * 6 + 2, none⟩ = some (.int .u8 ps[i].1.wide) ∧ w.cell? ⟨g, i * 6 + 3, none⟩ = some (.int .u32 ps[i].1.a.f) ∧ w.cell? ⟨g, i * 6 + 4, none⟩ = some (.int .u32 ps[i].1.a.b) ∧ w.cell? ⟨g, i * 6 + 5, none⟩ = some (.int .u16 ps[i].1.a.g) := by
 have hl := h.load hi
 have e := fun j v hj => by have := hl j v hj; rw [Addr.add_lit] at this; exact this
 exact ⟨e 0 _ rfl, e 1 _ rfl, e 2 _ rfl, e 3 _ rfl, e 4 _ rfl, e 5 _ rfl⟩
theorem same_any {B B' : Nat} {w : World} {g g' n cap cap' : Nat} {ps ps' : List (Cel × Value)} (hA : Api B w (.slice (some ⟨g, 0, none⟩) n cap) ps) (hA' : Api B' w (.slice (some ⟨g', 0, none⟩) n cap') ps') (hl : ps.length = n) (hc : ps'.map (·.1) = ps.map (·.1)) (h5 : n ≤ 512) (h4 : ∀ p ∈ ps, p.1.m.length ≤ 4) :
  Calls Tryz.prog 27 #[.slice (some ⟨g, 0, none⟩) n cap, .slice (some ⟨g', 0, none⟩) n cap'] w fun e w' => e = .returned (.bool true) ∧ Below w.heap.size w w' := by
 have hl' : ps'.length = n := by have := congrArg List.length hc; simpa [hl] using this
 replace hA := Lib.hid hA
 replace hA' := Lib.hid hA'
 replace hc := Lib.hid hc
 replace h4 := Lib.hid h4
 go_enter Tryz.func27, Tryz.ntmps27
 go_wp2
 go_loopw [5] (fun i wr => ∃ k : Nat, k ≤ n ∧ i = .int .i64 k ∧ Hid (Below w.heap.size w wr)) (fun i _ => n - (intOf i).toNat)
 case atStart => exact ⟨0, Nat.zero_le _, rfl, Lib.hid (Below.refl _ _)⟩
 case round =>
  obtain ⟨k, hk, rfl, hR⟩ := hrel
  have hB := hR.out
  by_cases hlt : k < n
  ·have hkp : k < ps.length := by omega
   have hkp' : k < ps'.length := by omega
   have he : ps'[k].1 = ps[k].1 := by
    have := congrArg (fun l => l[k]?) hc.out
    simpa [hkp, hkp'] using this
   have hS := fun w' (hb : Below wr.heap.size wr w') => And.intro (api6 ((hA.out.below hB).below hb) hkp) (api6 ((hA'.out.below hB).below hb) hkp')
   have hcall := fun w' (hb : Below wr.heap.size wr w') (h'' : Own w' B' 21 .i32 ps'[k].2 ps[k].1.m) => samecell_any ps[k].1 ps[k].2 ps'[k].2 w' (((hA.out.below hB).below hb).comb _ (List.getElem_mem hkp)) h'' (h4.out _ (List.getElem_mem hkp))
   have ho := fun w' (hb : Below wr.heap.size wr w') => ((hA'.out.below hB).below hb).comb _ (List.getElem_mem hkp')
   rw [he] at ho
   have hcall2 := fun w' (hb : Below wr.heap.size wr w') => hcall w' hb (ho w' hb)
   simp only [he] at hS
   have hv1 := Own.one (ho wr (Below.refl _ _))
   have hv2 := Own.one ((hA.out.below hB).comb _ (List.getElem_mem hkp))
   clear hcall ho he
   generalize ps[k] = q at hS hcall2 hv2
   generalize ps'[k].2 = v' at hS hcall2 hv1
   obtain ⟨⟨r, m, wd, ⟨af, ab, ag⟩⟩, v⟩ := q
   have hC : ∀ v, (apiC ⟨r, m, wd, ⟨af, ab, ag⟩⟩ v).toArray = #[.int .i32 r, v, .int .u8 wd, .int .u32 af, .int .u32 ab, .int .u16 ag] := fun _ => rfl
   simp only [hC] at hS hcall2 hv2
   clear hC
   have hnx := Lib.hid (fun w' (hb : Below wr.heap.size wr w') => below_next hB hb)
   replace hS := Lib.hid hS
   replace hcall2 := Lib.hid hcall2
   replace hkp := Lib.hid hkp
   replace hkp' := Lib.hid hkp'
   have hki : (k : Int) < (n : Int) := by omega
   have hdr : Below wr.heap.size wr wr.drew := below_dr (a := wr) (b := wr) (Below.refl wr.heap.size wr) 1
   replace hdr := Lib.hid hdr
   clear hR hB
   go_wp2
   go_region_held3 (fun w' => (w'.cell? ⟨g, k * 6, none⟩ = some (.int .i32 r) ∧ w'.cell? ⟨g, k * 6 + 1, none⟩ = some v ∧ w'.cell? ⟨g, k * 6 + 2, none⟩ = some (.int .u8 wd) ∧ w'.cell? ⟨g, k * 6 + 3, none⟩ = some (.int .u32 af) ∧ w'.cell? ⟨g, k * 6 + 4, none⟩ = some (.int .u32 ab) ∧ w'.cell? ⟨g, k * 6 + 5, none⟩ = some (.int .u16 ag)) ∧ w'.cell? ⟨g', k * 6, none⟩ = some (.int .i32 r) ∧ w'.cell? ⟨g', k * 6 + 1, none⟩ = some v' ∧ w'.cell? ⟨g', k * 6 + 2, none⟩ = some (.int .u8 wd) ∧ w'.cell? ⟨g', k * 6 + 3, none⟩ = some (.int .u32 af) ∧ w'.cell? ⟨g', k * 6 + 4, none⟩ = some (.int .u32 ab) ∧ w'.cell? ⟨g', k * 6 + 5, none⟩ = some (.int .u16 ag))
    (first | exact hS.out _ (Below.refl _ _) | exact hS.out _ hdr.out | exact hS.out _ (below_next hdr.out hb6) | go_keep)
    (first
     | (go_at_call 41; with_reducible refine (hcall2.out _ ?_).mono ?_; exact hdr.out; rintro e w6 ⟨rfl, hb6⟩))
   have hn6 := Lib.hid (hnx.out _ (below_next hdr.out hb6))
   clear hb6
   go_wp2
   go_roundw
   case rel => exact ⟨k + 1, by omega, by go_num, hn6⟩
   case measure => simp [intOf]; omega
  ·obtain rfl : k = n := by omega
   have hb := Lib.hid hB
   clear hR hB
   go_wp2
   go_ret
   exact ⟨rfl, hb.out⟩
end Go.Proofs.YtkjpjegmanpbfaaGreatDoor.Rw
