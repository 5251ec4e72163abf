/- Part 44 of the proof that the card of EmuAside holds. -/
import Derived.Test.YtkjpjegmanpbfaaGreatDoorPA39
set_option maxHeartbeats 16000000
set_option maxRecDepth 100000
namespace Go.Proofs.YtkjpjegmanpbfaaGreatDoor.Emu
open Go Rw Scn
structure Gw (T T':Ter) (j n r p:Nat):Prop where
 ok:Ok T'
 len:T'.vis.L.length=T.vis.L.length
 cols:T'.vis.cols=T.vis.cols
 nx:T.nx<=T'.nx/\T'.nx<=T.nx+n*T.vis.L.length
 jr:T'.jr.length<=T.jr.length+j
 rp:T'.rp.length<=T.rp.length+r
 pr:T'.prints<=T.prints+p
section
variable {T T' T1:Ter} {j n r p j' n' r' p':Nat}
theorem Gw.refl (h:Ok T):Gw T T 0 0 0 0:=⟨h,rfl,rfl,⟨J5 _,by omega⟩,J5 _,J5 _,J5 _⟩
theorem Gw.trans (h:Gw T T1 j n r p) (g:Gw T1 T' j' n' r' p'):Gw T T' (j+j') (n+n') (r+r') (p+p'):=by
 have h1:=h.nx
 have g1:=g.nx
 rw [h.len] at g1
 have h2:=h.jr;have g2:=g.jr;have h3:=h.rp;have g3:=g.rp;have h4:=h.pr;have g4:=g.pr
 exact ⟨g.ok,g.len.trans h.len,g.cols.trans h.cols,⟨by omega,by rw [Nat.add_mul];omega⟩,by omega,by omega,by omega⟩
theorem Gw.mono (h:Gw T T' j n r p) (hj:j<=j') (hn:n<=n') (hr:r<=r') (hp:p<=p'):Gw T T' j' n' r' p':=by
 have h1:=h.nx
 have h5:=Nat.mul_le_mul_right T.vis.L.length hn
 have h2:=h.jr;have h3:=h.rp;have h4:=h.pr
 exact ⟨h.ok,h.len,h.cols,⟨h1.1,by omega⟩,by omega,by omega,by omega⟩
theorem Bd0 (h:Ok T) (e:Ev):Gw T (tell T e) 1 0 0 0:=⟨h.tell e,rfl,rfl,⟨J5 _,Nat.le_add_right _ _⟩,by show (T.jr++[e]).length<=_;simp,J5 _,J5 _⟩
theorem Av6 (h:Ok T) (y x:Int):Gw T (place T y x) 0 0 0 0:=⟨h.place y x,rfl,rfl,⟨J5 _,Nat.le_add_right _ _⟩,J5 _,J5 _,J5 _⟩
theorem Al7 (h:Ok T) (y x:Int):Gw T (move T y x) 1 0 0 0:=((Av6 h y x).trans (Bd0 (h.place y x) _)).mono (J5 _) (J5 _) (J5 _) (J5 _)
theorem An0 (h:Ok T):Gw T (tellOther T) 1 0 0 0:=Bd0 h _
theorem Bv4 (h:Ok T) {x:Nat} (hx:x<T.vis.cols):Gw T (setCol T x) 0 0 0 0:=⟨h.setCol hx,rfl,rfl,⟨J5 _,Nat.le_add_right _ _⟩,J5 _,J5 _,J5 _⟩
theorem Bo0 {S:Scr} (hO:Ok (T.putVis S)) (hm:S.most=T.most) (hk:S.kp=T.other.isNone) (hl:S.L.length=T.vis.L.length) (hc:S.cols=T.vis.cols) {n:Nat} (hn:T.nx<=S.nx/\S.nx<=T.nx+n*T.vis.L.length):Gw T (T.putVis S) 0 n 0 0:=by
 refine ⟨hO,by rw [Bt5 hm hk];exact hl,by rw [Bt5 hm hk];exact hc,by rw [put_nx];exact hn,by rw [Ae6];exact J5 _,by rw [put_rp];exact J5 _,by rw [Ae8];exact J5 _⟩
theorem Cl9 (h:Ok T) {frm:Nat} (hf:frm<=T.vis.bot) (k:Int) (a:At) (b:Bool):Gw T (T.putVis (upS T.vis frm k a b)) 0 1 0 0:=by
 refine Bo0 (h.up hf k a b) rfl rfl (Ch6 h.fit hf k a b) rfl ⟨Nat.le_add_right _ _,?_⟩
 have h1:=Ak2 k (T.vis.bot+1 - frm)
 have h2:=h.fit.bot
 show T.nx+Ab1 k (T.vis.bot+1 - frm)<=_
 omega
theorem Bs0 (h:Ok T) {tp:Nat} (hf:tp<=T.vis.bot) (k:Int) (a:At):Gw T (T.putVis (Ag6 T.vis tp k a)) 0 1 0 0:=by
 refine Bo0 (h.down hf k a) rfl rfl (Bn0 h.fit hf k a) rfl ⟨Nat.le_add_right _ _,?_⟩
 have h1:=Ak2 k (T.vis.bot+1 - tp)
 have h2:=h.fit.bot
 show T.nx+Ab1 k (T.vis.bot+1 - tp)<=_
 omega
theorem Bc6 (h:Ok T) {l:List Cel} (hl:l.length=(line T).length):Gw T (putLine T l) 0 0 0 0 :=
 Bo0 (h.putLine hl) rfl rfl (Be1 _ _ _) rfl ⟨J5 _,by show T.nx<=_;omega⟩
theorem Bj2 (h:Ok T):Gw T (feed T) 0 1 0 0:=by
 unfold feed
 split
 ·exact ((Cl9 h h.fit.top 1 T.p.a _).trans (Av6 (h.upT _ _) _ _)).mono (J5 _) (J5 _) (J5 _) (J5 _)
 ·exact (Av6 h _ _).mono (J5 _) (by omega) (J5 _) (J5 _)
theorem As7 (h:Ok T) (b:Bool):Gw T (tellFeed T b) 1 0 0 0:=Bd0 h _
theorem Bf7 (h:Ok T) (w:Nat):Gw T (makeWay T w) 1 1 0 0:=by
 unfold makeWay
 split
 ·have h1:=h.setCol h.fit.c1
  exact (((Bv4 h h.fit.c1).trans (Bj2 h1)).trans (As7 h1.feed true)).mono (J5 _) (J5 _) (J5 _) (J5 _)
 ·split
  ·exact (Bv4 h (by have:=h.col;omega)).mono (by omega) (by omega) (J5 _) (J5 _)
  ·exact (Gw.refl h).mono (by omega) (by omega) (J5 _) (J5 _)
theorem Cd4 (h:Ok T) (e:Ev) (x:Int):Gw T (tellRune T e x) 1 0 0 1 :=
 ⟨⟨h.fit,h.fitm,h.rows,h.cols,h.row,h.col,h.sv,h.svm,h.tn,h.alt⟩,rfl,rfl,⟨J5 _,Nat.le_add_right _ _⟩,by show (T.jr++[_]).length<=_;simp,J5 _,J5 _⟩
theorem gw_cur (h:Gw T T1 j n r p) (pd:Bool):Gw T { T1 with c:={ T1.c with pend:=pd } } j n r p :=
 ⟨⟨h.ok.fit,h.ok.fitm,h.ok.rows,h.ok.cols,h.ok.row,h.ok.col,h.ok.sv,h.ok.svm,h.ok.tn,h.ok.alt⟩,h.len,h.cols,h.nx,h.jr,h.rp,h.pr⟩
theorem gw_join (h:Ok T) (x:Int):Gw T (Ay1 T x) 1 0 0 1:=by
 unfold Ay1
 split
 ·have h1:=fun c=>Bc6 h (Rw.joiL_len (line T) c x)
  exact ((h1 _).trans (Cd4 (h1 _).ok _ x)).mono (J5 _) (J5 _) (J5 _) (J5 _)
 ·exact (Gw.refl h).mono (by omega) (J5 _) (J5 _) (by omega)
theorem Cd3 (h:Ok T) (x:Int) (w:Nat):Gw T (putT T x w) 1 0 0 1:=by
 have h1:=Bc6 h (putCells_len T x w)
 have h2:=h1.trans (Cd4 h1.ok (Ac2 T w) x)
 have h3:=h2.trans (Av6 h2.ok (tellRune (putLine T (Aa3 T x w)) (Ac2 T w) x).c.row (T.c.col+w:Nat))
 exact gw_cur (h3.mono (J5 _) (J5 _) (J5 _) (J5 _)) _
theorem gw_print (h:Ok T) (x:Int):Gw T (As3 T x) 2 1 0 1:=by
 unfold As3
 generalize Cht.charsetF (if T.p.wh then T.p.g1 else T.p.g0) x=c
 simp only
 split
 ·exact (gw_join h _).mono (by omega) (by omega) (J5 _) (J5 _)
 ·split
  ·exact ((Bf7 h _).trans (Cd3 (Bf7 h _).ok _ _)).mono (J5 _) (J5 _) (J5 _) (J5 _)
  ·exact ((Bf7 h _).trans (Cd3 (Bf7 h _).ok _ _)).mono (J5 _) (J5 _) (J5 _) (J5 _)
theorem An1 (h':Ok T') (hv:T'.vis.L.length=T.vis.L.length) (hc:T'.vis.cols=T.vis.cols) (hn:T'.nx=T.nx) (hj:T'.jr=T.jr) (hr:T'.rp=T.rp) (hp:T'.prints=T.prints):Gw T T' 0 0 0 0 :=
 ⟨h',hv,hc,by rw [hn];exact ⟨J5 _,Nat.le_add_right _ _⟩,by rw [hj];exact J5 _,by rw [hr];exact J5 _,by rw [hp];exact J5 _⟩
theorem Ok.pen (h:Ok T) (q:Pen):Ok { T with p:=q }:=⟨h.fit,h.fitm,h.rows,h.cols,h.row,h.col,h.sv,h.svm,h.tn,h.alt⟩
theorem Ok.tabF (h:Ok T) (f:Nat->Bool):Ok { T with tf:=f }:=⟨h.fit,h.fitm,h.rows,h.cols,h.row,h.col,h.sv,h.svm,h.tn,h.alt⟩
theorem Bn9 (h:Ok T) (q:Pen):Gw T { T with p:=q } 0 0 0 0:=An1 (h.pen q) rfl rfl rfl rfl rfl rfl
theorem Bj4 (h:Ok T) (f:Nat->Bool):Gw T { T with tf:=f } 0 0 0 0:=An1 (h.tabF f) rfl rfl rfl rfl rfl rfl
theorem Ax8 (h:Ok T):Gw T (rowDown T) 1 1 0 0:=((Bj2 h).trans (An0 h.feed)).mono (J5 _) (J5 _) (J5 _) (J5 _)
theorem Bc7 (h:Ok T):Gw T (nextLine T) 1 1 0 0:=((Bv4 h h.fit.c1).trans (Ax8 (h.setCol h.fit.c1))).mono (J5 _) (J5 _) (J5 _) (J5 _)
theorem Bv6 (h:Ok T):Gw T (rowUp T) 1 1 0 0:=by
 unfold rowUp
 split
 ·have h1:=Bs0 h h.fit.top 1 T.p.a
  exact (h1.trans (Al7 h1.ok _ _)).mono (J5 _) (J5 _) (J5 _) (J5 _)
 ·exact (Al7 h _ _).mono (J5 _) (by omega) (J5 _) (J5 _)
theorem gw_newLine (h:Ok T):Gw T (newLine T) 1 1 0 0:=by
 unfold newLine
 split
 ·have h1:=h.setCol h.fit.c1
  exact (((Bv4 h h.fit.c1).trans (Bj2 h1)).trans (As7 h1.feed false)).mono (J5 _) (J5 _) (J5 _) (J5 _)
 ·exact ((Bj2 h).trans (As7 h.feed false)).mono (J5 _) (J5 _) (J5 _) (J5 _)
theorem Bc9 (h:Ok T) (y x:Int):Gw T (tellStraight (place T y x)) 1 0 0 0:=((Av6 h y x).trans (Bd0 (h.place y x) _)).mono (J5 _) (J5 _) (J5 _) (J5 _)
theorem gw_control (h:Ok T) (x:Int):Gw T (control T x) 1 1 0 0:=by
 unfold control
 split
 ·exact (Al7 h _ _).mono (J5 _) (by omega) (J5 _) (J5 _)
 split
 ·exact (Bc9 h _ _).mono (J5 _) (by omega) (J5 _) (J5 _)
 split
 ·exact gw_newLine h
 split
 ·exact (Bc9 h _ _).mono (J5 _) (by omega) (J5 _) (J5 _)
 split
 ·exact (Bn9 h _).mono (by omega) (by omega) (J5 _) (J5 _)
 split
 ·exact (Bn9 h _).mono (by omega) (by omega) (J5 _) (J5 _)
 split
 ·exact Ax8 h
 split
 ·exact Bc7 h
 split
 ·exact (Bj4 h _).mono (by omega) (by omega) (J5 _) (J5 _)
 split
 ·exact Bv6 h
 ·exact (Gw.refl h).mono (by omega) (by omega) (J5 _) (J5 _)
theorem Bs1 (h:Ok T):Gw T (save T) 0 0 0 0:=by
 refine An1 h.save ?_ ?_ ?_ ?_ ?_ ?_
 all_goals
  unfold save Ter.putSv
  rcases ho:T.other with _|o<;>simp [Ter.vis,Ter.sh,Sh.scr,ho]
theorem Ax7 (h:Ok T):Gw T (restore T) 1 0 0 0:=((An1 (T:=T) h.restored rfl rfl rfl rfl rfl rfl).trans (An0 h.restored)).mono (J5 _) (J5 _) (J5 _) (J5 _)
theorem begin_len (T:Ter) (rows cols:Nat):(Aj1 T rows cols).vis.L.length=rows:=Ag0 _ _ _ _
theorem gw_reset (h:Ok T):Gw T (reset T) 1 1 0 0:=by
 have hO:Ok (Aj1 T T.vis.L.length T.vis.cols):=Ok.begin (show 1<=T.nx from h.fit.pos) h.fit.len h.fit.len5 h.fit.c1 h.fit.c5
 have h1:Gw T (Aj1 T T.vis.L.length T.vis.cols) 0 1 0 0:=⟨hO,begin_len _ _ _,rfl,⟨Nat.le_add_right _ _,by show T.nx+_<=_;omega⟩,J5 _,J5 _,J5 _⟩
 exact (h1.trans (Bd0 hO _)).mono (J5 _) (J5 _) (J5 _) (J5 _)
theorem gw_choose (h:Ok T) (x:AcT):Gw T (choose T x) 0 0 0 0:=by
 unfold choose
 split
 ·split
  ·unfold setG
   split
   ·exact Bn9 h _
   ·exact Bn9 h _
  ·exact Gw.refl h
 ·exact Gw.refl h
theorem gw_escape (h:Ok T) (x:AcT):Gw T (escape T x) 1 1 0 0:=by
 unfold escape
 split
 ·split
  ·exact (Bs1 h).mono (by omega) (by omega) (J5 _) (J5 _)
  split
  ·exact (Ax7 h).mono (J5 _) (by omega) (J5 _) (J5 _)
  split
  ·exact Ax8 h
  split
  ·exact Bc7 h
  split
  ·exact (Bj4 h _).mono (by omega) (by omega) (J5 _) (J5 _)
  split
  ·exact Bv6 h
  split
  ·exact gw_reset h
  ·exact (Gw.refl h).mono (by omega) (by omega) (J5 _) (J5 _)
 ·exact (gw_choose h x).mono (by omega) (by omega) (J5 _) (J5 _)
theorem dg_len:∀ (k n:Nat),n<10 ^ (k+1)->(Kys.dgF (n:Int)).length<=k+1:=by
 intro k
 induction k with
 |zero =>
  intro n hn
  rw [Kys.dg_small (by omega)]
  simp
 |succ k ih =>
  intro n hn
  by_cases h:n<10
  ·rw [Kys.dg_small h]
   simp
  ·have h2:n / 10<10 ^ (k+1):=Nat.div_lt_of_lt_mul (by rw [Nat.pow_succ] at hn;omega)
   rw [Kys.dg_big (by omega),List.length_append,List.length_singleton]
   have:=ih _ h2
   omega
theorem Aq7 (h:Ok T) (f u:Nat):Gw T (eraseRows T f u) 0 0 0 0 :=
 Bo0 (h.era f u) rfl rfl (Ae2 _ _ _ _ _) rfl ⟨J5 _,by show T.nx<=_;omega⟩
theorem Aq8 (h:Ok T) (f u:Int):Gw T (Am8 T f u) 1 0 0 0:=by
 have h1:=Bc6 h (Av0 (line T) f u T.p.a)
 exact (h1.trans (An0 h1.ok)).mono (J5 _) (J5 _) (J5 _) (J5 _)
theorem Ah2 (h:Ok T) (k:Int):Gw T (eraseLine T k) 1 0 0 0:=by
 unfold eraseLine
 split
 ·exact Aq8 h _ _
 split
 ·exact Aq8 h _ _
 split
 ·exact Aq8 h _ _
 ·exact (Gw.refl h).mono (by omega) (J5 _) (J5 _) (J5 _)
theorem Bn8 (h:Ok T):Gw T (noBack T) 0 0 0 0:=An1 h.noBack rfl rfl rfl rfl rfl rfl
theorem gw_eraseScr (h:Ok T) (k:Int):Gw T (Ak9 T k) 1 0 0 0:=by
 unfold Ak9
 split
 ·exact ((Aq7 h _ _).trans (Ah2 (Aq7 h _ _).ok _)).mono (J5 _) (J5 _) (J5 _) (J5 _)
 split
 ·exact ((Aq7 h _ _).trans (Ah2 (Aq7 h _ _).ok _)).mono (J5 _) (J5 _) (J5 _) (J5 _)
 split
 ·exact ((Aq7 h _ _).trans (Ah2 (Aq7 h _ _).ok _)).mono (J5 _) (J5 _) (J5 _) (J5 _)
 split
 ·exact ((Bn8 h).trans (Ah2 (Bn8 h).ok _)).mono (J5 _) (J5 _) (J5 _) (J5 _)
 ·exact Ah2 h _
theorem gw_insC (h:Ok T) (l:List Int):Gw T (insertCells T l) 1 0 0 0:=by
 have h1:=Bc6 h (Bd3 (line T) T.c.col (Aa2 l 0) T.p.a)
 exact (h1.trans (An0 h1.ok)).mono (J5 _) (J5 _) (J5 _) (J5 _)
theorem gw_delC (h:Ok T) (l:List Int):Gw T (deleteCells T l) 1 0 0 0:=by
 have h1:=Bc6 h (Cc2 (line T) T.c.col (Aa2 l 0) T.p.a)
 exact (h1.trans (An0 h1.ok)).mono (J5 _) (J5 _) (J5 _) (J5 _)
theorem gw_insL (h:Ok T) (l:List Int):Gw T (insertLines T l) 1 1 0 0:=by
 unfold insertLines
 split
 ·next hw =>
  have h1:=Bs0 h hw.2 (Aa2 l 0) T.p.a
  exact (h1.trans (Al7 h1.ok _ _)).mono (J5 _) (J5 _) (J5 _) (J5 _)
 ·exact (Gw.refl h).mono (by omega) (by omega) (J5 _) (J5 _)
theorem gw_delL (h:Ok T) (l:List Int):Gw T (deleteLines T l) 1 1 0 0:=by
 unfold deleteLines
 split
 ·next hw =>
  have h1:=Cl9 h hw.2 (Aa2 l 0) T.p.a false
  exact (h1.trans (Al7 h1.ok _ _)).mono (J5 _) (J5 _) (J5 _) (J5 _)
 ·exact (Gw.refl h).mono (by omega) (by omega) (J5 _) (J5 _)
theorem gw_scrU (h:Ok T) (l:List Int):Gw T (scrollUp T l) 1 1 0 0:=by
 have h1:=Cl9 h h.fit.top (Aa2 l 0) T.p.a (T.vis.kp && decide (T.vis.top=0))
 exact (h1.trans (An0 h1.ok)).mono (J5 _) (J5 _) (J5 _) (J5 _)
theorem gw_scrD (h:Ok T) (l:List Int):Gw T (scrollDown T l) 1 1 0 0:=by
 have h1:=Bs0 h h.fit.top (Aa2 l 0) T.p.a
 exact (h1.trans (An0 h1.ok)).mono (J5 _) (J5 _) (J5 _) (J5 _)
theorem gw_marg (h:Ok T) (l:List Int):Gw T (setMargins T l) 1 0 0 0:=by
 unfold setMargins
 split
 ·next hw =>
  have hl:=h.fit.len
  have hb:(Ba0 T l).toNat<T.vis.L.length/\0<=Ba0 T l:=by
   unfold Ba0
   split<;>omega
  have h1:=h.marg hb.1 (a:=(Aa2 l 0 - 1).toNat) (by omega)
  have h2:Gw T (T.putVis { T.vis with top:=(Aa2 l 0 - 1).toNat,bot:=(Ba0 T l).toNat }) 0 0 0 0:=Bo0 h1 rfl rfl rfl rfl ⟨J5 _,by show T.nx<=_;omega⟩
  exact (h2.trans (Al7 h2.ok _ _)).mono (J5 _) (J5 _) (J5 _) (J5 _)
 ·exact (Gw.refl h).mono (by omega) (J5 _) (J5 _) (J5 _)
theorem gw_tabs (h:Ok T) (l:List Int):Gw T (clearTabs T l) 0 0 0 0:=by
 unfold clearTabs
 split
 ·exact Bj4 h _
 split
 ·exact Bj4 h _
 ·exact Gw.refl h
theorem Bv5 (h:Ok T) (l:List Int) (on:Bool):Gw T (setModes T l on) 0 0 0 0:=by
 unfold setModes
 induction l generalizing T with
 |nil=>exact Gw.refl h
 |cons a l ih =>
  have h1:=h.putM (Ak3 a) on
  have h2:Gw T (putM T false on (Ak3 a)) 0 0 0 0:=An1 h1 rfl rfl rfl rfl rfl rfl
  exact (h2.trans (ih h1)).mono (J5 _) (J5 _) (J5 _) (J5 _)
theorem Bj3 (h:Ok T) (b:List Int) {r:Nat} (hb:b.length<=r):Gw T (reply T b) 0 0 r 0 :=
 ⟨⟨h.fit,h.fitm,h.rows,h.cols,h.row,h.col,h.sv,h.svm,h.tn,h.alt⟩,rfl,rfl,⟨J5 _,Nat.le_add_right _ _⟩,J5 _,by show (T.rp++b).length<=_;simp;omega,J5 _⟩
theorem cur_len {a b:Int} (ha:a<1000) (hb:b<1000):(Kys.curF a b).length<=20:=by
 have hm:∀ x:Int,x<1000->(Kys.dgF (Kys.mx x)).length<=3:=fun x hx=>by
  have h1:0<=Kys.mx x/\Kys.mx x<1000:=by
   unfold Kys.mx
   split<;>omega
  have:=dg_len 2 (Kys.mx x).toNat (by omega)
  rwa [show ((Kys.mx x).toNat:Int)=Kys.mx x by omega] at this
 have h1:=hm a ha
 have h2:=hm b hb
 simp only [Kys.curF,Kys.ctlF,Kys.numsF,Kys.tailF,List.length_append,List.length_cons,List.length_nil]
 omega
theorem gw_report (h:Ok T) (l:List Int):Gw T (report T l) 0 0 20 0:=by
 unfold report
 split
 ·exact Bj3 h _ (by decide)
 split
 ·refine Bj3 h _ (cur_len ?_ ?_)
  ·have h1:=h.row
   have h2:=h.fit.len5
   have h3:0<=counted T 1:=by
    unfold counted
    split<;>omega
   omega
  ·have h1:=h.col
   have h2:=h.fit.c5
   omega
 ·exact (Gw.refl h).mono (J5 _) (J5 _) (by omega) (J5 _)
theorem gw_device (h:Ok T) (l:List Int):Gw T (device T l) 0 0 20 0:=by
 unfold device
 split
 ·exact Bj3 h _ (by decide)
 ·exact (Gw.refl h).mono (J5 _) (J5 _) (by omega) (J5 _)
theorem Ad8 {c:Prop} [Decidable c] {A B:Ter} (ha:c->Gw T A j n r p) (hb:¬ c->Gw T B j n r p):Gw T (if c then A else B) j n r p:=by
 split
 ·next hc=>exact ha hc
 ·next hc=>exact hb hc
theorem gw_plain (h:Ok T) (f:Int) (l:List Int):Gw T (plain T f l) 1 1 20 0:=by
 unfold plain
 have mv:∀ y x,Gw T (move T y x) 1 1 20 0:=fun y x=>(Al7 h y x).mono (J5 _) (by omega) (by omega) (J5 _)
 have m1:∀ {T'},Gw T T' 1 0 0 0->Gw T T' 1 1 20 0:=fun g=>g.mono (J5 _) (by omega) (by omega) (J5 _)
 have m2:∀ {T'},Gw T T' 1 1 0 0->Gw T T' 1 1 20 0:=fun g=>g.mono (J5 _) (J5 _) (by omega) (J5 _)
 have m0:∀ {T'},Gw T T' 0 0 0 0->Gw T T' 1 1 20 0:=fun g=>g.mono (by omega) (by omega) (by omega) (J5 _)
 have mr:∀ {T'},Gw T T' 0 0 20 0->Gw T T' 1 1 20 0:=fun g=>g.mono (by omega) (by omega) (J5 _) (J5 _)
 refine Ad8 (fun _=>mv _ _) (fun _=>?_)
 refine Ad8 (fun _=>mv _ _) (fun _=>?_)
 refine Ad8 (fun _=>mv _ _) (fun _=>?_)
 refine Ad8 (fun _=>mv _ _) (fun _=>?_)
 refine Ad8 (fun _=>mv _ _) (fun _=>?_)
 refine Ad8 (fun _=>mv _ _) (fun _=>?_)
 refine Ad8 (fun _=>mv _ _) (fun _=>?_)
 refine Ad8 (fun _=>mv _ _) (fun _=>?_)
 refine Ad8 (fun _=>mv _ _) (fun _=>?_)
 refine Ad8 (fun _=>mv _ _) (fun _=>?_)
 refine Ad8 (fun _=>mv _ _) (fun _=>?_)
 refine Ad8 (fun _=>m1 (gw_eraseScr h _)) (fun _=>?_)
 refine Ad8 (fun _=>m1 (Ah2 h _)) (fun _=>?_)
 refine Ad8 (fun _=>m1 (Aq8 h _ _)) (fun _=>?_)
 refine Ad8 (fun _=>m1 (gw_insC h _)) (fun _=>?_)
 refine Ad8 (fun _=>m1 (gw_delC h _)) (fun _=>?_)
 refine Ad8 (fun _=>m2 (gw_insL h _)) (fun _=>?_)
 refine Ad8 (fun _=>m2 (gw_delL h _)) (fun _=>?_)
 refine Ad8 (fun _=>m2 (gw_scrU h _)) (fun _=>?_)
 refine Ad8 (fun _=>m2 (gw_scrD h _)) (fun _=>?_)
 refine Ad8 (fun _=>m1 (gw_marg h _)) (fun _=>?_)
 refine Ad8 (fun _=>m0 (gw_tabs h _)) (fun _=>?_)
 refine Ad8 (fun _=>m0 (Bn9 h _)) (fun _=>?_)
 refine Ad8 (fun _=>m0 (Bv5 h _ _)) (fun _=>?_)
 refine Ad8 (fun _=>m0 (Bv5 h _ _)) (fun _=>?_)
 refine Ad8 (fun _=>mr (gw_report h _)) (fun _=>?_)
 refine Ad8 (fun _=>mr (gw_device h _)) (fun _=>?_)
 exact m0 (Gw.refl h)
theorem An2 (h:Ok T) (on:Bool):Gw T (setOther T on) 1 1 0 0:=by
 have hO:=h.setOther on
 unfold setOther at hO |-
 split
 ·exact (Gw.refl h).mono (by omega) (by omega) (J5 _) (J5 _)
 ·next hne =>
  have hrows:=h.rows
  have hcols:=h.cols
  cases on
  ·have h1:Gw T (showMain (Emu.setAlt T false)) 0 0 0 0:=An1 h.showMain hrows hcols rfl rfl rfl rfl
   exact (h1.trans (Al7 h1.ok _ _)).mono (J5 _) (by omega) (J5 _) (J5 _)
  ·have h1:Gw T (showOther (Emu.setAlt T true)) 0 1 0 0:=by
    refine ⟨h.showOther,?_,hcols,⟨Nat.le_add_right _ _,?_⟩,J5 _,J5 _,J5 _⟩
    ·show (Ad2 _ _ _ _).length=_
     rw [Ag0]
     exact hrows
    ·show T.nx+T.main.L.length<=_
     omega
   exact (h1.trans (Al7 h1.ok _ _)).mono (J5 _) (J5 _) (J5 _) (J5 _)
theorem gw_priv1 (h:Ok T) (x:Int) (on:Bool):Gw T (Ao6 T x on) 2 1 0 0:=by
 unfold Ao6
 split
 ·have h1:Gw T (setOrg T on) 0 0 0 0:=An1 (h.setOrg on) rfl rfl rfl rfl rfl rfl
  exact (h1.trans (Al7 h1.ok _ _)).mono (by omega) (by omega) (J5 _) (J5 _)
 split
 ·exact (An2 h on).mono (by omega) (J5 _) (J5 _) (J5 _)
 split
 ·unfold setSaved
  split
  ·exact (Bs1 h).mono (by omega) (by omega) (J5 _) (J5 _)
  ·exact (Ax7 h).mono (by omega) (by omega) (J5 _) (J5 _)
 split
 ·unfold setOtherSaved
  split
  ·exact (Gw.refl h).mono (by omega) (by omega) (J5 _) (J5 _)
  split
  ·exact ((Bs1 h).trans (An2 h.save true)).mono (by omega) (by omega) (J5 _) (J5 _)
  ·exact ((An2 h false).trans (Ax7 (An2 h false).ok)).mono (by omega) (by omega) (J5 _) (J5 _)
 ·next h1 h2 h3 h4 =>
  have hO:=(Cj3 h x on).ok
  unfold Ao6 at hO
  rw [if_neg h1,if_neg h2,if_neg h3,if_neg h4] at hO
  exact (An1 (T:=T) hO rfl rfl rfl rfl rfl rfl).mono (by omega) (by omega) (J5 _) (J5 _)
theorem Bc8 (h:Ok T) (l:List Int) (on:Bool):Gw T (Ac1 T l on) (2*l.length) l.length 0 0:=by
 unfold Ac1
 induction l generalizing T with
 |nil=>exact Gw.refl h
 |cons a l ih =>
  have h1:=gw_priv1 h (Ak3 a) on
  exact (h1.trans (ih h1.ok)).mono (by simp;omega) (by simp;omega) (J5 _) (J5 _)
theorem Cd2 (h:Ok T) (x:AcT):Gw T (doT T x) (2*x.params.length+2) (x.params.length+1) 20 1:=by
 unfold doT
 split
 ·exact (gw_print h _).mono (by omega) (by omega) (by omega) (J5 _)
 split
 ·exact (gw_control h _).mono (by omega) (by omega) (by omega) (by omega)
 split
 ·exact (gw_escape h _).mono (by omega) (by omega) (by omega) (by omega)
 split
 ·unfold sequence
  split
  ·split
   ·exact (gw_plain h _ _).mono (by omega) (by omega) (by omega) (by omega)
   split
   ·split
    ·exact (Bc8 h _ _).mono (by omega) (by omega) (by omega) (by omega)
    split
    ·exact (Bc8 h _ _).mono (by omega) (by omega) (by omega) (by omega)
    ·exact (Gw.refl h).mono (by omega) (by omega) (by omega) (by omega)
   ·exact (Gw.refl h).mono (by omega) (by omega) (by omega) (by omega)
  ·exact (Gw.refl h).mono (by omega) (by omega) (by omega) (by omega)
 ·exact (Gw.refl h).mono (by omega) (by omega) (by omega) (by omega)
end
def prA (r:Int):AcT:=⟨1,r,0,[],[],0,[]⟩
def csA (pr:Int) (p:List Int) (f:Int):AcT:=⟨4,0,pr,p,[],f,[]⟩
def k0:Ter:=newT 2 4 5
def k4:Ter:=doT (doT (doT (doT k0 (prA 97)) (prA 98)) (prA 99)) (prA 100)
def k5:Ter:=doT (doT k4 (prA 101)) (csA 0 [6] 110)
def k5r:Ter:={ k5 with rp:=[] }
def k5j:Ter:={ k5r with jr:=[] }
def k6:Ter:=doT k5j (csA 63 [1049] 104)
def k7:Ter:=doT k6 (csA 63 [1049] 108)
def kl2:List Ln:=[(1,[⟨97,[],0,zeroAt⟩,⟨98,[],0,zeroAt⟩,⟨99,[],0,zeroAt⟩,⟨100,[],0,zeroAt⟩]),(2,[⟨101,[],0,zeroAt⟩,⟨32,[],0,zeroAt⟩,⟨32,[],0,zeroAt⟩,⟨32,[],0,zeroAt⟩])]
theorem k5_L:k5.vis.L=kl2:=by kernel_rfl
theorem k5_rp:k5.rp=[27,91,50,59,50,82]:=by kernel_rfl
theorem k7_L:k7.vis.L=kl2:=by kernel_rfl
theorem k7_cols:k7.vis.cols=k5.vis.cols:=by kernel_rfl
theorem kl2_four:∀ p∈kl2,∀ c∈p.2,c.m.length<=4:=by decide
end Go.Proofs.YtkjpjegmanpbfaaGreatDoor.Emu
namespace Go.Proofs.YtkjpjegmanpbfaaGreatDoor.Rw
open Go RowKit Com
structure SameSt (w wr:World) (C C':Array Value) (ao ao':Option Addr) (m:List Int):Prop where
 b1:Block wr w.heap.size 64 C
 b2:Block wr (w.heap.size+1) 64 C'
 n1:Nums wr w.heap.size .i32 ao m
 n2:Nums wr w.heap.size .i32 ao' m
 below:Below w.heap.size w wr
theorem SameSt.drawn {w wr:World} {C C':Array Value} {ao ao':Option Addr} {m:List Int} (h:SameSt w wr C C' ao ao' m) (q:Nat):SameSt w (wr.drewN q) C C' ao ao' m:=by
 have ho:=Only.drewN [] wr q
 exact ⟨h.b1.only ho (by simp),h.b2.only ho (by simp),h.n1.only ho h.below.size (by simp),h.n2.only ho h.below.size (by simp),h.below.trans (ho.below h.below.size (by simp))⟩
theorem SameSt.start {w:World} {C C':Array Value} {ao ao':Option Addr} {m:List Int} (h1:Nums w w.heap.size .i32 ao m) (h2:Nums w w.heap.size .i32 ao' m):SameSt w ((w.alloc (.cells C 64)).alloc (.cells C' 64)) C C' ao ao' m:=by
 refine ⟨(Block.made w _ _).alloc _,?_,(h1.alloc (J5 _) _).alloc (by simp) _,(h2.alloc (J5 _) _).alloc (by simp) _,((Below.refl _ _).alloc (J5 _) _).alloc (by simp) _⟩
 have:=Block.made (w.alloc (.cells C 64)) 64 C'
 simpa using this
theorem samecell_any {B B':Nat} (c:Cel) (v v':Value) (w:World) (h:Own w B 21 .i32 v c.m) (h':Own w B' 21 .i32 v' c.m) (hm:c.m.length<=4):Calls Tryz.prog 41 #[.agg (apiC c v).toArray,.agg (apiC c v').toArray] w fun e w'=>e=.returned (.bool true)/\Below w.heap.size w w':=by
 obtain ⟨ao,cp,rfl,hc1,hc2,hnums⟩:=h.shape
 obtain ⟨ao',cp',rfl,hc1',hc2',hnums'⟩:=h'.shape
 obtain ⟨r,m,wd,⟨af,ab,ag⟩⟩:=c
 simp only at hm hnums hnums' hc1 hc1' |-
 have hC:∀ ao cp,(apiC ⟨r,m,wd,⟨af,ab,ag⟩⟩ (.slice ao m.length cp)).toArray=#[.int .i32 r,.slice ao m.length cp,.int .u8 wd,.int .u32 af,.int .u32 ab,.int .u16 ag]:=fun _ _=>rfl
 rw [hC,hC]
 clear hC h h'
 obtain ⟨n,hn⟩:∃ n,n=m.length:=⟨_,rfl⟩
 rw [<- hn] at hm hc1 hc1' |-
 have hst:=J0 (SameSt.start (C:=#[.int .i32 r,.slice ao n cp,.int .u8 wd,.int .u32 af,.int .u32 ab,.int .u16 ag]) (C':=#[.int .i32 r,.slice ao' n cp',.int .u8 wd,.int .u32 af,.int .u32 ab,.int .u16 ag]) hnums hnums')
 replace hn:=J0 hn
 clear hnums hnums'
 go_enter Tryz.func41,Tryz.ntmps41
 go_wp2
 go_loopw [5] (fun i wr=>∃ k:Nat,k<=n/\i=.int .i64 k/\Hid (SameSt w wr #[.int .i32 r,.slice ao n cp,.int .u8 wd,.int .u32 af,.int .u32 ab,.int .u16 ag] #[.int .i32 r,.slice ao' n cp',.int .u8 wd,.int .u32 af,.int .u32 ab,.int .u16 ag] ao ao' m)) (fun i _=>n - (intOf i).toNat)
 case atStart=>exact ⟨0,Nat.zero_le _,rfl,hst⟩
 case round =>
  obtain ⟨k,hk,rfl,hR⟩:=hrel
  have hR:=hR.out
  have c1:=hR.b1.cell 1 rfl
  have c2:=hR.b2.cell 1 rfl
  by_cases hlt:k<n
  ·have hkm:k<m.length:=by rw [<- hn.out];exact hlt
   obtain ⟨ad,rfl,_,hx⟩:=hR.n1.at hkm
   obtain ⟨ad',rfl,_,hx'⟩:=hR.n2.at hkm
   generalize m[k]=y at hx hx'
   have hnx:=J0 (fun q=>hR.drawn q)
   have hki:(k:Int)<(n:Int):=by omega
   clear hR hst
   go_wp2
   go_region
   go_wp2
   go_roundw
   case rel=>exact ⟨k+1,by omega,by go_num,J0 (hnx.out 1)⟩
   case measure=>simp [intOf];omega
  ·obtain rfl:k=n:=by omega
   have hb:=J0 hR.below
   clear hR hst
   go_wp2
   go_ret
   exact ⟨rfl,hb.out⟩
theorem api6 {B:Nat} {w:World} {g n cap:Nat} {ps:List (Cel×Value)} (h:Api B w (.slice (some ⟨g,0,none⟩) n cap) ps) {i:Nat} (hi:i<ps.length):w.cell? ⟨g,i*6,none⟩=some (.int .i32 ps[i].1.r)/\w.cell? ⟨g,i*6+1,none⟩=some ps[i].2/\w.cell? ⟨g,i*6+2,none⟩=some (.int .u8 ps[i].1.wide)/\w.cell? ⟨g,i*6+3,none⟩=some (.int .u32 ps[i].1.a.f)/\w.cell? ⟨g,i*6+4,none⟩=some (.int .u32 ps[i].1.a.b)/\w.cell? ⟨g,i*6+5,none⟩=some (.int .u16 ps[i].1.a.g):=by
 have hl:=h.load hi
 have e:=fun j v hj=>by have:=hl j v hj;rw [Addr.add_lit] at this;exact this
 exact ⟨e 0 _ rfl,e 1 _ rfl,e 2 _ rfl,e 3 _ rfl,e 4 _ rfl,e 5 _ rfl⟩
theorem same_any {B B':Nat} {w:World} {g g' n cap cap':Nat} {ps ps':List (Cel×Value)} (hA:Api B w (.slice (some ⟨g,0,none⟩) n cap) ps) (hA':Api B' w (.slice (some ⟨g',0,none⟩) n cap') ps') (hl:ps.length=n) (hc:ps'.map (·.1)=ps.map (·.1)) (h5:n<=512) (h4:∀ p∈ps,p.1.m.length<=4) :
  Calls Tryz.prog 27 #[.slice (some ⟨g,0,none⟩) n cap,.slice (some ⟨g',0,none⟩) n cap'] w fun e w'=>e=.returned (.bool true)/\Below w.heap.size w w':=by
 have hl':ps'.length=n:=by have:=congrArg List.length hc;simpa [hl] using this
 replace hA:=J0 hA
 replace hA':=J0 hA'
 replace hc:=J0 hc
 replace h4:=J0 h4
 go_enter Tryz.func27,Tryz.ntmps27
 go_wp2
 go_loopw [5] (fun i wr=>∃ k:Nat,k<=n/\i=.int .i64 k/\Hid (Below w.heap.size w wr)) (fun i _=>n - (intOf i).toNat)
 case atStart=>exact ⟨0,Nat.zero_le _,rfl,J0 (Below.refl _ _)⟩
 case round =>
  obtain ⟨k,hk,rfl,hR⟩:=hrel
  have hB:=hR.out
  by_cases hlt:k<n
  ·have hkp:k<ps.length:=by omega
   have hkp':k<ps'.length:=by omega
   have he:ps'[k].1=ps[k].1:=by
    have:=congrArg (fun l=>l[k]?) hc.out
    simpa [hkp,hkp'] using this
   have hS:=fun w' (hb:Below wr.heap.size wr w')=>And.intro (api6 ((hA.out.below hB).below hb) hkp) (api6 ((hA'.out.below hB).below hb) hkp')
   have hcall:=fun w' (hb:Below wr.heap.size wr w') (h'':Own w' B' 21 .i32 ps'[k].2 ps[k].1.m)=>samecell_any ps[k].1 ps[k].2 ps'[k].2 w' (((hA.out.below hB).below hb).comb _ (List.getElem_mem hkp)) h'' (h4.out _ (List.getElem_mem hkp))
   have ho:=fun w' (hb:Below wr.heap.size wr w')=>((hA'.out.below hB).below hb).comb _ (List.getElem_mem hkp')
   rw [he] at ho
   have hcall2:=fun w' (hb:Below wr.heap.size wr w')=>hcall w' hb (ho w' hb)
   simp only [he] at hS
   have hv1:=Own.one (ho wr (Below.refl _ _))
   have hv2:=Own.one ((hA.out.below hB).comb _ (List.getElem_mem hkp))
   clear hcall ho he
   generalize ps[k]=q at hS hcall2 hv2
   generalize ps'[k].2=v' at hS hcall2 hv1
   obtain ⟨⟨r,m,wd,⟨af,ab,ag⟩⟩,v⟩:=q
   have hC:∀ v,(apiC ⟨r,m,wd,⟨af,ab,ag⟩⟩ v).toArray=#[.int .i32 r,v,.int .u8 wd,.int .u32 af,.int .u32 ab,.int .u16 ag]:=fun _=>rfl
   simp only [hC] at hS hcall2 hv2
   clear hC
   have hnx:=J0 (fun w' (hb:Below wr.heap.size wr w')=>Aa0 hB hb)
   replace hS:=J0 hS
   replace hcall2:=J0 hcall2
   replace hkp:=J0 hkp
   replace hkp':=J0 hkp'
   have hki:(k:Int)<(n:Int):=by omega
   have hdr:Below wr.heap.size wr wr.drew:=Aa4 (a:=wr) (b:=wr) (Below.refl wr.heap.size wr) 1
   replace hdr:=J0 hdr
   clear hR hB
   go_wp2
   go_region_held3 (fun w'=>(w'.cell? ⟨g,k*6,none⟩=some (.int .i32 r)/\w'.cell? ⟨g,k*6+1,none⟩=some v/\w'.cell? ⟨g,k*6+2,none⟩=some (.int .u8 wd)/\w'.cell? ⟨g,k*6+3,none⟩=some (.int .u32 af)/\w'.cell? ⟨g,k*6+4,none⟩=some (.int .u32 ab)/\w'.cell? ⟨g,k*6+5,none⟩=some (.int .u16 ag))/\w'.cell? ⟨g',k*6,none⟩=some (.int .i32 r)/\w'.cell? ⟨g',k*6+1,none⟩=some v'/\w'.cell? ⟨g',k*6+2,none⟩=some (.int .u8 wd)/\w'.cell? ⟨g',k*6+3,none⟩=some (.int .u32 af)/\w'.cell? ⟨g',k*6+4,none⟩=some (.int .u32 ab)/\w'.cell? ⟨g',k*6+5,none⟩=some (.int .u16 ag))
    (first|exact hS.out _ (Below.refl _ _)|exact hS.out _ hdr.out|exact hS.out _ (Aa0 hdr.out hb6)|go_keep)
    (first
     |(go_at_call 41;with_reducible refine (hcall2.out _ ?_).mono ?_;exact hdr.out;rintro e w6 ⟨rfl,hb6⟩))
   have hn6:=J0 (hnx.out _ (Aa0 hdr.out hb6))
   clear hb6
   go_wp2
   go_roundw
   case rel=>exact ⟨k+1,by omega,by go_num,hn6⟩
   case measure=>simp [intOf];omega
  ·obtain rfl:k=n:=by omega
   have hb:=J0 hB
   clear hR hB
   go_wp2
   go_ret
   exact ⟨rfl,hb.out⟩
