/- Part 42 of HostSplits. -/
import Derived.Test.YtecnpoigegiooaaGreatDoorP41
set_option maxHeartbeats 16000000
set_option maxRecDepth 100000
namespace Go.Proofs.YtecnpoigegiooaaGreatDoor.Emu
open Go Rw Scn
structure Gw (T T':Ter) (j n r p:Nat):Prop where
 ok:Ok T'
 len:T'.vis.L.length=T.vis.L.length
 cols:T'.vis.cols=T.vis.cols
 nx:T.nx<=T'.nx/\T'.nx<=T.nx+n*T.vis.L.length
 jr:T'.jr.length<=T.jr.length+j
 rp:T'.rp.length<=T.rp.length+r
 pr:T'.prints<=T.prints+p
section
variable {T T' T1:Ter}{j n r p j' n' r' p':Nat}
theorem Gw.refl (h:Ok T):Gw T T 0 0 0 0:=⟨h,rfl,rfl,⟨J5 _,by omega⟩,J5 _,J5 _,J5 _⟩
theorem Gw.trans (h:Gw T T1 j n r p) (g:Gw T1 T' j' n' r' p'):Gw T T' (j+j') (n+n') (r+r') (p+p'):=by
 have h1:=h.nx
 have g1:=g.nx
 rw[h.len] at g1
 have h2:=h.jr;have g2:=g.jr;have h3:=h.rp;have g3:=g.rp;have h4:=h.pr;have g4:=g.pr
 exact⟨g.ok,g.len.trans h.len,g.cols.trans h.cols,⟨by omega,by rw[Nat.add_mul];omega⟩,by omega,by omega,by omega⟩
theorem Gw.mono (h:Gw T T' j n r p) (hj:j<=j') (hn:n<=n') (hr:r<=r') (hp:p<=p'):Gw T T' j' n' r' p':=by
 have h1:=h.nx
 have h5:=Nat.mul_le_mul_right T.vis.L.length hn
 have h2:=h.jr;have h3:=h.rp;have h4:=h.pr
 exact⟨h.ok,h.len,h.cols,⟨h1.1,by omega⟩,by omega,by omega,by omega⟩
theorem Bf6 (h:Ok T) (e:Ev):Gw T (tell T e) 1 0 0 0:=⟨h.tell e,rfl,rfl,⟨J5 _,Nat.le_add_right _ _⟩,by show (T.jr++[e]).length<=_;simp,J5 _,J5 _⟩
theorem Aw2 (h:Ok T) (y x:Int):Gw T (place T y x) 0 0 0 0:=⟨h.place y x,rfl,rfl,⟨J5 _,Nat.le_add_right _ _⟩,J5 _,J5 _,J5 _⟩
theorem Am9 (h:Ok T) (y x:Int):Gw T (move T y x) 1 0 0 0:=((Aw2 h y x).trans (Bf6 (h.place y x) _)).mono (J5 _) (J5 _) (J5 _) (J5 _)
theorem Ao0 (h:Ok T):Gw T (tellOther T) 1 0 0 0:=Bf6 h _
theorem Bz7 (h:Ok T) {x:Nat} (hx:x<T.vis.cols):Gw T (setCol T x) 0 0 0 0:=⟨h.setCol hx,rfl,rfl,⟨J5 _,Nat.le_add_right _ _⟩,J5 _,J5 _,J5 _⟩
theorem Bs7 {S:Scr} (hO:Ok (T.putVis S)) (hm:S.most=T.most) (hk:S.kp=T.other.isNone) (hl:S.L.length=T.vis.L.length) (hc:S.cols=T.vis.cols) {n:Nat} (hn:T.nx<=S.nx/\S.nx<=T.nx+n*T.vis.L.length):Gw T (T.putVis S) 0 n 0 0:=by
 refine⟨hO,by rw[Bx8 hm hk];exact hl,by rw[Bx8 hm hk];exact hc,by rw[put_nx];exact hn,by rw[Ag2];exact J5 _,by rw[put_rp];exact J5 _,by rw[Ak4];exact J5 _⟩
theorem Cs7 (h:Ok T) {frm:Nat} (hf:frm<=T.vis.bot) (k:Int) (a:At) (b:Bool):Gw T (T.putVis (upS T.vis frm k a b)) 0 1 0 0:=by
 refine Bs7 (h.up hf k a b) rfl rfl (Cn9 h.fit hf k a b) rfl ⟨Nat.le_add_right _ _,?_⟩
 have h1:=Al7 k (T.vis.bot+1 - frm)
 have h2:=h.fit.bot
 show T.nx+Ab0 k (T.vis.bot+1 - frm)<=_
 omega
theorem Bw3 (h:Ok T) {tp:Nat} (hf:tp<=T.vis.bot) (k:Int) (a:At):Gw T (T.putVis (Ag0 T.vis tp k a)) 0 1 0 0:=by
 refine Bs7 (h.down hf k a) rfl rfl (Br8 h.fit hf k a) rfl ⟨Nat.le_add_right _ _,?_⟩
 have h1:=Al7 k (T.vis.bot+1 - tp)
 have h2:=h.fit.bot
 show T.nx+Ab0 k (T.vis.bot+1 - tp)<=_
 omega
theorem Bf2 (h:Ok T) {l:List Cel} (hl:l.length=(line T).length):Gw T (putLine T l) 0 0 0 0 :=
 Bs7 (h.putLine hl) rfl rfl (Bg9 _ _ _) rfl ⟨J5 _,by show T.nx<=_;omega⟩
theorem Bn9 (h:Ok T):Gw T (feed T) 0 1 0 0:=by
 unfold feed
 split
 ·exact((Cs7 h h.fit.top 1 T.p.a _).trans (Aw2 (h.upT _ _) _ _)).mono (J5 _) (J5 _) (J5 _) (J5 _)
 ·exact(Aw2 h _ _).mono (J5 _) (by omega) (J5 _) (J5 _)
theorem At0 (h:Ok T) (b:Bool):Gw T (tellFeed T b) 1 0 0 0:=Bf6 h _
theorem Ca0 (h:Ok T) (w:Nat):Gw T (makeWay T w) 1 1 0 0:=by
 unfold makeWay
 split
 ·have h1:=h.setCol h.fit.c1
  exact(((Bz7 h h.fit.c1).trans (Bn9 h1)).trans (At0 h1.feed true)).mono (J5 _) (J5 _) (J5 _) (J5 _)
 ·split
  ·exact(Bz7 h (by have:=h.col;omega)).mono (by omega) (by omega) (J5 _) (J5 _)
  ·exact(Gw.refl h).mono (by omega) (by omega) (J5 _) (J5 _)
theorem Ci0 (h:Ok T) (e:Ev) (x:Int):Gw T (tellRune T e x) 1 0 0 1 :=
 ⟨⟨h.fit,h.fitm,h.rows,h.cols,h.row,h.col,h.sv,h.svm,h.tn,h.alt⟩,rfl,rfl,⟨J5 _,Nat.le_add_right _ _⟩,by show (T.jr++[_]).length<=_;simp,J5 _,J5 _⟩
theorem gw_cur (h:Gw T T1 j n r p) (pd:Bool):Gw T { T1 with c:={ T1.c with pend:=pd } } j n r p :=
 ⟨⟨h.ok.fit,h.ok.fitm,h.ok.rows,h.ok.cols,h.ok.row,h.ok.col,h.ok.sv,h.ok.svm,h.ok.tn,h.ok.alt⟩,h.len,h.cols,h.nx,h.jr,h.rp,h.pr⟩
theorem gw_join (h:Ok T) (x:Int):Gw T (Bc5 T x) 1 0 0 1:=by
 unfold Bc5
 split
 ·have h1:=fun c=>Bf2 h (Rw.joiL_len (line T) c x)
  exact((h1 _).trans (Ci0 (h1 _).ok _ x)).mono (J5 _) (J5 _) (J5 _) (J5 _)
 ·exact(Gw.refl h).mono (by omega) (J5 _) (J5 _) (by omega)
theorem Ch9 (h:Ok T) (x:Int) (w:Nat):Gw T (putT T x w) 1 0 0 1:=by
 have h1:=Bf2 h (putCells_len T x w)
 have h2:=h1.trans (Ci0 h1.ok (Ag1 T w) x)
 have h3:=h2.trans (Aw2 h2.ok (tellRune (putLine T (Aa6 T x w)) (Ag1 T w) x).c.row (T.c.col+w:Nat))
 exact gw_cur (h3.mono (J5 _) (J5 _) (J5 _) (J5 _)) _
theorem gw_print (h:Ok T) (x:Int):Gw T (Bb9 T x) 2 1 0 1:=by
 unfold Bb9
 generalize Cht.charsetF (if T.p.wh then T.p.g1 else T.p.g0) x=c
 simp only
 split
 ·exact(gw_join h _).mono (by omega) (by omega) (J5 _) (J5 _)
 ·split
  ·exact((Ca0 h _).trans (Ch9 (Ca0 h _).ok _ _)).mono (J5 _) (J5 _) (J5 _) (J5 _)
  ·exact((Ca0 h _).trans (Ch9 (Ca0 h _).ok _ _)).mono (J5 _) (J5 _) (J5 _) (J5 _)
theorem Ao1 (h':Ok T') (hv:T'.vis.L.length=T.vis.L.length) (hc:T'.vis.cols=T.vis.cols) (hn:T'.nx=T.nx) (hj:T'.jr=T.jr) (hr:T'.rp=T.rp) (hp:T'.prints=T.prints):Gw T T' 0 0 0 0 :=
 ⟨h',hv,hc,by rw[hn];exact⟨J5 _,Nat.le_add_right _ _⟩,by rw[hj];exact J5 _,by rw[hr];exact J5 _,by rw[hp];exact J5 _⟩
theorem Ok.pen (h:Ok T) (q:Pen):Ok { T with p:=q }:=⟨h.fit,h.fitm,h.rows,h.cols,h.row,h.col,h.sv,h.svm,h.tn,h.alt⟩
theorem Ok.tabF (h:Ok T) (f:Nat->Bool):Ok { T with tf:=f }:=⟨h.fit,h.fitm,h.rows,h.cols,h.row,h.col,h.sv,h.svm,h.tn,h.alt⟩
theorem Bs6 (h:Ok T) (q:Pen):Gw T { T with p:=q } 0 0 0 0:=Ao1 (h.pen q) rfl rfl rfl rfl rfl rfl
theorem Bo1 (h:Ok T) (f:Nat->Bool):Gw T { T with tf:=f } 0 0 0 0:=Ao1 (h.tabF f) rfl rfl rfl rfl rfl rfl
theorem Az9 (h:Ok T):Gw T (rowDown T) 1 1 0 0:=((Bn9 h).trans (Ao0 h.feed)).mono (J5 _) (J5 _) (J5 _) (J5 _)
theorem Bf3 (h:Ok T):Gw T (nextLine T) 1 1 0 0:=((Bz7 h h.fit.c1).trans (Az9 (h.setCol h.fit.c1))).mono (J5 _) (J5 _) (J5 _) (J5 _)
theorem Bz9 (h:Ok T):Gw T (rowUp T) 1 1 0 0:=by
 unfold rowUp
 split
 ·have h1:=Bw3 h h.fit.top 1 T.p.a
  exact(h1.trans (Am9 h1.ok _ _)).mono (J5 _) (J5 _) (J5 _) (J5 _)
 ·exact(Am9 h _ _).mono (J5 _) (by omega) (J5 _) (J5 _)
theorem gw_newLine (h:Ok T):Gw T (newLine T) 1 1 0 0:=by
 unfold newLine
 split
 ·have h1:=h.setCol h.fit.c1
  exact(((Bz7 h h.fit.c1).trans (Bn9 h1)).trans (At0 h1.feed false)).mono (J5 _) (J5 _) (J5 _) (J5 _)
 ·exact((Bn9 h).trans (At0 h.feed false)).mono (J5 _) (J5 _) (J5 _) (J5 _)
theorem Bf5 (h:Ok T) (y x:Int):Gw T (tellStraight (place T y x)) 1 0 0 0:=((Aw2 h y x).trans (Bf6 (h.place y x) _)).mono (J5 _) (J5 _) (J5 _) (J5 _)
theorem gw_control (h:Ok T) (x:Int):Gw T (control T x) 1 1 0 0:=by
 unfold control
 split
 ·exact(Am9 h _ _).mono (J5 _) (by omega) (J5 _) (J5 _)
 split
 ·exact(Bf5 h _ _).mono (J5 _) (by omega) (J5 _) (J5 _)
 split
 ·exact gw_newLine h
 split
 ·exact(Bf5 h _ _).mono (J5 _) (by omega) (J5 _) (J5 _)
 split
 ·exact(Bs6 h _).mono (by omega) (by omega) (J5 _) (J5 _)
 split
 ·exact(Bs6 h _).mono (by omega) (by omega) (J5 _) (J5 _)
 split
 ·exact Az9 h
 split
 ·exact Bf3 h
 split
 ·exact(Bo1 h _).mono (by omega) (by omega) (J5 _) (J5 _)
 split
 ·exact Bz9 h
 ·exact(Gw.refl h).mono (by omega) (by omega) (J5 _) (J5 _)
theorem Bw4 (h:Ok T):Gw T (save T) 0 0 0 0:=by
 refine Ao1 h.save ?_ ?_ ?_ ?_ ?_ ?_
 all_goals
  unfold save Ter.putSv
  rcases ho:T.other with _|o<;>simp[Ter.vis,Ter.sh,Sh.scr,ho]
theorem Az8 (h:Ok T):Gw T (restore T) 1 0 0 0:=((Ao1 (T:=T) h.restored rfl rfl rfl rfl rfl rfl).trans (Ao0 h.restored)).mono (J5 _) (J5 _) (J5 _) (J5 _)
theorem Be0 (T:Ter) (rows cols:Nat):(Ag7 T rows cols).vis.L.length=rows:=Af2 _ _ _ _
theorem gw_reset (h:Ok T):Gw T (reset T) 1 1 0 0:=by
 have hO:Ok (Ag7 T T.vis.L.length T.vis.cols):=Ok.begin (show 1<=T.nx from h.fit.pos) h.fit.len h.fit.len5 h.fit.c1 h.fit.c5
 have h1:Gw T (Ag7 T T.vis.L.length T.vis.cols) 0 1 0 0:=⟨hO,Be0 _ _ _,rfl,⟨Nat.le_add_right _ _,by show T.nx+_<=_;omega⟩,J5 _,J5 _,J5 _⟩
 exact(h1.trans (Bf6 hO _)).mono (J5 _) (J5 _) (J5 _) (J5 _)
theorem gw_choose (h:Ok T) (x:AcT):Gw T (choose T x) 0 0 0 0:=by
 unfold choose
 split
 ·split
  ·unfold setG
   split
   ·exact Bs6 h _
   ·exact Bs6 h _
  ·exact Gw.refl h
 ·exact Gw.refl h
theorem gw_escape (h:Ok T) (x:AcT):Gw T (escape T x) 1 1 0 0:=by
 unfold escape
 split
 ·split
  ·exact(Bw4 h).mono (by omega) (by omega) (J5 _) (J5 _)
  split
  ·exact(Az8 h).mono (J5 _) (by omega) (J5 _) (J5 _)
  split
  ·exact Az9 h
  split
  ·exact Bf3 h
  split
  ·exact(Bo1 h _).mono (by omega) (by omega) (J5 _) (J5 _)
  split
  ·exact Bz9 h
  split
  ·exact gw_reset h
  ·exact(Gw.refl h).mono (by omega) (by omega) (J5 _) (J5 _)
 ·exact(gw_choose h x).mono (by omega) (by omega) (J5 _) (J5 _)
theorem dg_len:∀(k n:Nat),n<10 ^ (k+1)->(Kys.dgF (n:Int)).length<=k+1:=by
 intro k
 induction k with
 |zero =>
  intro n hn
  rw[Kys.dg_small (by omega)]
  simp
 |succ k ih =>
  intro n hn
  by_cases h:n<10
  ·rw[Kys.dg_small h]
   simp
  ·have h2:n / 10<10 ^ (k+1):=Nat.div_lt_of_lt_mul (by rw[Nat.pow_succ] at hn;omega)
   rw[Kys.dg_big (by omega),List.length_append,List.length_singleton]
   have:=ih _ h2
   omega
theorem Ar0 (h:Ok T) (f u:Nat):Gw T (eraseRows T f u) 0 0 0 0 :=
 Bs7 (h.era f u) rfl rfl (Ae2 _ _ _ _ _) rfl ⟨J5 _,by show T.nx<=_;omega⟩
theorem Ar1 (h:Ok T) (f u:Int):Gw T (An7 T f u) 1 0 0 0:=by
 have h1:=Bf2 h (Av6 (line T) f u T.p.a)
 exact(h1.trans (Ao0 h1.ok)).mono (J5 _) (J5 _) (J5 _) (J5 _)
theorem Ag8 (h:Ok T) (k:Int):Gw T (eraseLine T k) 1 0 0 0:=by
 unfold eraseLine
 split
 ·exact Ar1 h _ _
 split
 ·exact Ar1 h _ _
 split
 ·exact Ar1 h _ _
 ·exact(Gw.refl h).mono (by omega) (J5 _) (J5 _) (J5 _)
theorem Bs5 (h:Ok T):Gw T (noBack T) 0 0 0 0:=Ao1 h.noBack rfl rfl rfl rfl rfl rfl
theorem gw_eraseScr (h:Ok T) (k:Int):Gw T (Al6 T k) 1 0 0 0:=by
 unfold Al6
 split
 ·exact((Ar0 h _ _).trans (Ag8 (Ar0 h _ _).ok _)).mono (J5 _) (J5 _) (J5 _) (J5 _)
 split
 ·exact((Ar0 h _ _).trans (Ag8 (Ar0 h _ _).ok _)).mono (J5 _) (J5 _) (J5 _) (J5 _)
 split
 ·exact((Ar0 h _ _).trans (Ag8 (Ar0 h _ _).ok _)).mono (J5 _) (J5 _) (J5 _) (J5 _)
 split
 ·exact((Bs5 h).trans (Ag8 (Bs5 h).ok _)).mono (J5 _) (J5 _) (J5 _) (J5 _)
 ·exact Ag8 h _
theorem gw_insC (h:Ok T) (l:List Int):Gw T (insertCells T l) 1 0 0 0:=by
 have h1:=Bf2 h (Bo3 (line T) T.c.col (Aa2 l 0) T.p.a)
 exact(h1.trans (Ao0 h1.ok)).mono (J5 _) (J5 _) (J5 _) (J5 _)
theorem gw_delC (h:Ok T) (l:List Int):Gw T (deleteCells T l) 1 0 0 0:=by
 have h1:=Bf2 h (Cg8 (line T) T.c.col (Aa2 l 0) T.p.a)
 exact(h1.trans (Ao0 h1.ok)).mono (J5 _) (J5 _) (J5 _) (J5 _)
theorem gw_insL (h:Ok T) (l:List Int):Gw T (insertLines T l) 1 1 0 0:=by
 unfold insertLines
 split
 ·next hw =>
  have h1:=Bw3 h hw.2 (Aa2 l 0) T.p.a
  exact(h1.trans (Am9 h1.ok _ _)).mono (J5 _) (J5 _) (J5 _) (J5 _)
 ·exact(Gw.refl h).mono (by omega) (by omega) (J5 _) (J5 _)
theorem gw_delL (h:Ok T) (l:List Int):Gw T (deleteLines T l) 1 1 0 0:=by
 unfold deleteLines
 split
 ·next hw =>
  have h1:=Cs7 h hw.2 (Aa2 l 0) T.p.a false
  exact(h1.trans (Am9 h1.ok _ _)).mono (J5 _) (J5 _) (J5 _) (J5 _)
 ·exact(Gw.refl h).mono (by omega) (by omega) (J5 _) (J5 _)
theorem gw_scrU (h:Ok T) (l:List Int):Gw T (scrollUp T l) 1 1 0 0:=by
 have h1:=Cs7 h h.fit.top (Aa2 l 0) T.p.a (T.vis.kp && decide (T.vis.top=0))
 exact(h1.trans (Ao0 h1.ok)).mono (J5 _) (J5 _) (J5 _) (J5 _)
theorem gw_scrD (h:Ok T) (l:List Int):Gw T (scrollDown T l) 1 1 0 0:=by
 have h1:=Bw3 h h.fit.top (Aa2 l 0) T.p.a
 exact(h1.trans (Ao0 h1.ok)).mono (J5 _) (J5 _) (J5 _) (J5 _)
theorem gw_marg (h:Ok T) (l:List Int):Gw T (setMargins T l) 1 0 0 0:=by
 unfold setMargins
 split
 ·next hw =>
  have hl:=h.fit.len
  have hb:(Bc6 T l).toNat<T.vis.L.length/\0<=Bc6 T l:=by
   unfold Bc6
   split<;>omega
  have h1:=h.marg hb.1 (a:=(Aa2 l 0 - 1).toNat) (by omega)
  have h2:Gw T (T.putVis { T.vis with top:=(Aa2 l 0 - 1).toNat,bot:=(Bc6 T l).toNat }) 0 0 0 0:=Bs7 h1 rfl rfl rfl rfl ⟨J5 _,by show T.nx<=_;omega⟩
  exact(h2.trans (Am9 h2.ok _ _)).mono (J5 _) (J5 _) (J5 _) (J5 _)
 ·exact(Gw.refl h).mono (by omega) (J5 _) (J5 _) (J5 _)
theorem gw_tabs (h:Ok T) (l:List Int):Gw T (clearTabs T l) 0 0 0 0:=by
 unfold clearTabs
 split
 ·exact Bo1 h _
 split
 ·exact Bo1 h _
 ·exact Gw.refl h
theorem Bz8 (h:Ok T) (l:List Int) (on:Bool):Gw T (setModes T l on) 0 0 0 0:=by
 unfold setModes
 induction l generalizing T with
 |nil=>exact Gw.refl h
 |cons a l ih =>
  have h1:=h.putM (Aj4 a) on
  have h2:Gw T (putM T false on (Aj4 a)) 0 0 0 0:=Ao1 h1 rfl rfl rfl rfl rfl rfl
  exact(h2.trans (ih h1)).mono (J5 _) (J5 _) (J5 _) (J5 _)
theorem Bo0 (h:Ok T) (b:List Int) {r:Nat} (hb:b.length<=r):Gw T (reply T b) 0 0 r 0 :=
 ⟨⟨h.fit,h.fitm,h.rows,h.cols,h.row,h.col,h.sv,h.svm,h.tn,h.alt⟩,rfl,rfl,⟨J5 _,Nat.le_add_right _ _⟩,J5 _,by show (T.rp++b).length<=_;simp;omega,J5 _⟩
theorem cur_len {a b:Int} (ha:a<1000) (hb:b<1000):(Kys.curF a b).length<=20:=by
 have hm:∀x:Int,x<1000->(Kys.dgF (Kys.mx x)).length<=3:=fun x hx=>by
  have h1:0<=Kys.mx x/\Kys.mx x<1000:=by
   unfold Kys.mx
   split<;>omega
  have:=dg_len 2 (Kys.mx x).toNat (by omega)
  rwa [show ((Kys.mx x).toNat:Int)=Kys.mx x by omega] at this
 have h1:=hm a ha
 have h2:=hm b hb
 simp only[Kys.curF,Kys.ctlF,Kys.numsF,Kys.tailF,List.length_append,List.length_cons,List.length_nil]
 omega
theorem gw_report (h:Ok T) (l:List Int):Gw T (report T l) 0 0 20 0:=by
 unfold report
 split
 ·exact Bo0 h _ (by decide)
 split
 ·refine Bo0 h _ (cur_len ?_ ?_)
  ·have h1:=h.row
   have h2:=h.fit.len5
   have h3:0<=counted T 1:=by
    unfold counted
    split<;>omega
   omega
  ·have h1:=h.col
   have h2:=h.fit.c5
   omega
 ·exact(Gw.refl h).mono (J5 _) (J5 _) (by omega) (J5 _)
theorem gw_device (h:Ok T) (l:List Int):Gw T (device T l) 0 0 20 0:=by
 unfold device
 split
 ·exact Bo0 h _ (by decide)
 ·exact(Gw.refl h).mono (J5 _) (J5 _) (by omega) (J5 _)
theorem Ad8 {c:Prop} [Decidable c] {A B:Ter} (ha:c->Gw T A j n r p) (hb:¬c->Gw T B j n r p):Gw T (if c then A else B) j n r p:=by
 split
 ·next hc=>exact ha hc
 ·next hc=>exact hb hc
theorem gw_plain (h:Ok T) (f:Int) (l:List Int):Gw T (plain T f l) 1 1 20 0:=by
 unfold plain
 have mv:∀y x,Gw T (move T y x) 1 1 20 0:=fun y x=>(Am9 h y x).mono (J5 _) (by omega) (by omega) (J5 _)
 have m1:∀ {T'},Gw T T' 1 0 0 0->Gw T T' 1 1 20 0:=fun g=>g.mono (J5 _) (by omega) (by omega) (J5 _)
 have m2:∀ {T'},Gw T T' 1 1 0 0->Gw T T' 1 1 20 0:=fun g=>g.mono (J5 _) (J5 _) (by omega) (J5 _)
 have m0:∀ {T'},Gw T T' 0 0 0 0->Gw T T' 1 1 20 0:=fun g=>g.mono (by omega) (by omega) (by omega) (J5 _)
 have mr:∀ {T'},Gw T T' 0 0 20 0->Gw T T' 1 1 20 0:=fun g=>g.mono (by omega) (by omega) (J5 _) (J5 _)
 refine Ad8 (fun _=>mv _ _) (fun _=>?_)
 refine Ad8 (fun _=>mv _ _) (fun _=>?_)
 refine Ad8 (fun _=>mv _ _) (fun _=>?_)
 refine Ad8 (fun _=>mv _ _) (fun _=>?_)
 refine Ad8 (fun _=>mv _ _) (fun _=>?_)
 refine Ad8 (fun _=>mv _ _) (fun _=>?_)
 refine Ad8 (fun _=>mv _ _) (fun _=>?_)
 refine Ad8 (fun _=>mv _ _) (fun _=>?_)
 refine Ad8 (fun _=>mv _ _) (fun _=>?_)
 refine Ad8 (fun _=>mv _ _) (fun _=>?_)
 refine Ad8 (fun _=>mv _ _) (fun _=>?_)
 refine Ad8 (fun _=>m1 (gw_eraseScr h _)) (fun _=>?_)
 refine Ad8 (fun _=>m1 (Ag8 h _)) (fun _=>?_)
 refine Ad8 (fun _=>m1 (Ar1 h _ _)) (fun _=>?_)
 refine Ad8 (fun _=>m1 (gw_insC h _)) (fun _=>?_)
 refine Ad8 (fun _=>m1 (gw_delC h _)) (fun _=>?_)
 refine Ad8 (fun _=>m2 (gw_insL h _)) (fun _=>?_)
 refine Ad8 (fun _=>m2 (gw_delL h _)) (fun _=>?_)
 refine Ad8 (fun _=>m2 (gw_scrU h _)) (fun _=>?_)
 refine Ad8 (fun _=>m2 (gw_scrD h _)) (fun _=>?_)
 refine Ad8 (fun _=>m1 (gw_marg h _)) (fun _=>?_)
 refine Ad8 (fun _=>m0 (gw_tabs h _)) (fun _=>?_)
 refine Ad8 (fun _=>m0 (Bs6 h _)) (fun _=>?_)
 refine Ad8 (fun _=>m0 (Bz8 h _ _)) (fun _=>?_)
 refine Ad8 (fun _=>m0 (Bz8 h _ _)) (fun _=>?_)
 refine Ad8 (fun _=>mr (gw_report h _)) (fun _=>?_)
 refine Ad8 (fun _=>mr (gw_device h _)) (fun _=>?_)
 exact m0 (Gw.refl h)
theorem Ao2 (h:Ok T) (on:Bool):Gw T (setOther T on) 1 1 0 0:=by
 have hO:=h.setOther on
 unfold setOther at hO |-
 split
 ·exact(Gw.refl h).mono (by omega) (by omega) (J5 _) (J5 _)
 ·next hne =>
  have hrows:=h.rows
  have hcols:=h.cols
  cases on
  ·have h1:Gw T (showMain (Emu.setAlt T false)) 0 0 0 0:=Ao1 h.showMain hrows hcols rfl rfl rfl rfl
   exact(h1.trans (Am9 h1.ok _ _)).mono (J5 _) (by omega) (J5 _) (J5 _)
  ·have h1:Gw T (showOther (Emu.setAlt T true)) 0 1 0 0:=by
    refine⟨h.showOther,?_,hcols,⟨Nat.le_add_right _ _,?_⟩,J5 _,J5 _,J5 _⟩
    ·show (Ae9 _ _ _ _).length=_
     rw[Af2]
     exact hrows
    ·show T.nx+T.main.L.length<=_
     omega
   exact(h1.trans (Am9 h1.ok _ _)).mono (J5 _) (J5 _) (J5 _) (J5 _)
theorem gw_priv1 (h:Ok T) (x:Int) (on:Bool):Gw T (Bg8 T x on) 2 1 0 0:=by
 unfold Bg8
 split
 ·have h1:Gw T (setOrg T on) 0 0 0 0:=Ao1 (h.setOrg on) rfl rfl rfl rfl rfl rfl
  exact(h1.trans (Am9 h1.ok _ _)).mono (by omega) (by omega) (J5 _) (J5 _)
 split
 ·exact(Ao2 h on).mono (by omega) (J5 _) (J5 _) (J5 _)
 split
 ·unfold setSaved
  split
  ·exact(Bw4 h).mono (by omega) (by omega) (J5 _) (J5 _)
  ·exact(Az8 h).mono (by omega) (by omega) (J5 _) (J5 _)
 split
 ·unfold setOtherSaved
  split
  ·exact(Gw.refl h).mono (by omega) (by omega) (J5 _) (J5 _)
  split
  ·exact((Bw4 h).trans (Ao2 h.save true)).mono (by omega) (by omega) (J5 _) (J5 _)
  ·exact((Ao2 h false).trans (Az8 (Ao2 h false).ok)).mono (by omega) (by omega) (J5 _) (J5 _)
 ·next h1 h2 h3 h4 =>
  have hO:=(Cq1 h x on).ok
  unfold Bg8 at hO
  rw[if_neg h1,if_neg h2,if_neg h3,if_neg h4] at hO
  exact(Ao1 (T:=T) hO rfl rfl rfl rfl rfl rfl).mono (by omega) (by omega) (J5 _) (J5 _)
theorem Bf4 (h:Ok T) (l:List Int) (on:Bool):Gw T (Ac2 T l on) (2*l.length) l.length 0 0:=by
 unfold Ac2
 induction l generalizing T with
 |nil=>exact Gw.refl h
 |cons a l ih =>
  have h1:=gw_priv1 h (Aj4 a) on
  exact(h1.trans (ih h1.ok)).mono (by simp;omega) (by simp;omega) (J5 _) (J5 _)
theorem Ct6 (h:Ok T) (x:AcT):Gw T (doT T x) (2*x.params.length+2) (x.params.length+1) 20 1:=by
 unfold doT
 split
 ·exact(gw_print h _).mono (by omega) (by omega) (by omega) (J5 _)
 split
 ·exact(gw_control h _).mono (by omega) (by omega) (by omega) (by omega)
 split
 ·exact(gw_escape h _).mono (by omega) (by omega) (by omega) (by omega)
 split
 ·unfold sequence
  split
  ·split
   ·exact(gw_plain h _ _).mono (by omega) (by omega) (by omega) (by omega)
   split
   ·split
    ·exact(Bf4 h _ _).mono (by omega) (by omega) (by omega) (by omega)
    split
    ·exact(Bf4 h _ _).mono (by omega) (by omega) (by omega) (by omega)
    ·exact(Gw.refl h).mono (by omega) (by omega) (by omega) (by omega)
   ·exact(Gw.refl h).mono (by omega) (by omega) (by omega) (by omega)
  ·exact(Gw.refl h).mono (by omega) (by omega) (by omega) (by omega)
 ·exact(Gw.refl h).mono (by omega) (by omega) (by omega) (by omega)
end
end Go.Proofs.YtecnpoigegiooaaGreatDoor.Emu
namespace Go.Proofs.YtecnpoigegiooaaGreatDoor.Hos
open Go Com Emu
structure Hst where
 dec:Utf.Dec
 ps:Prs.PS
 T:Ter
 sent:List Int
def toX (A:Prs.Act):AcT:=⟨A.kind,A.R,A.priv,A.params,A.inter,A.final,A.text⟩
def As5 (T:Ter) (As:List Prs.Act):Ter:=As.foldl (fun T A=>doT T (toX A)) T
structure Tri where
 dec:Utf.Dec
 ps:Prs.PS
 T:Ter
def Tri.rune (X:Tri) (r:Int):Tri:=⟨X.dec,(Prs.feedF X.ps r).2,As5 X.T (Prs.feedF X.ps r).1⟩
def Tri.runes (X:Tri) (l:List Int):Tri:=l.foldl Tri.rune X
def Tri.byte (X:Tri) (x:Int):Tri:=Tri.runes ⟨(Utf.takeF X.dec x).1,X.ps,X.T⟩ (Utf.takeF X.dec x).2
def Tri.hand (X:Tri) (b:List Int):Tri:=b.foldl Tri.byte X
def Hst.tri (H:Hst):Tri:=⟨H.dec,H.ps,H.T⟩
def Hst.bytes (H:Hst) (b:List Int):Hst :=
 ⟨(H.tri.hand b).dec,(H.tri.hand b).ps,{ { (H.tri.hand b).T with rp:=[] } with jr:=[] },H.sent++(H.tri.hand b).T.rp⟩
def Hst.told (H:Hst) (b:List Int):List Ev:=(H.tri.hand b).T.jr
theorem acts_snoc (T:Ter) (As:List Prs.Act) (A:Prs.Act):As5 T (As++[A])=doT (As5 T As) (toX A):=by simp[As5]
theorem actsT_take {T:Ter} {As:List Prs.Act} {k:Nat} (hk:k<As.length):As5 T (As.take (k+1))=doT (As5 T (As.take k)) (toX As[k]):=by
 rw[List.take_succ_eq_append_getElem hk,acts_snoc]
theorem runes_take {X:Tri} {l:List Int} {k:Nat} (hk:k<l.length):X.runes (l.take (k+1))=(X.runes (l.take k)).rune l[k]:=by
 rw[List.take_succ_eq_append_getElem hk]
 unfold Tri.runes
 rw[List.foldl_append]
 rfl
theorem hand_take {X:Tri} {l:List Int} {k:Nat} (hk:k<l.length):X.hand (l.take (k+1))=(X.hand (l.take k)).byte l[k]:=by
 rw[List.take_succ_eq_append_getElem hk]
 unfold Tri.hand
 rw[List.foldl_append]
 rfl
theorem Ca1 (X:Tri) (a b:List Int):X.hand (a++b)=(X.hand a).hand b:=by simp[Tri.hand]
structure Rh (c N J R P:Nat) (T:Ter):Prop where
 ok:Ok T
 len:T.vis.L.length<=24
 cols:T.vis.cols<=c
 nx:T.nx<=N
 jr:T.jr.length<=J
 rp:T.rp.length<=R
 pr:T.prints<=P
section
variable {c N J R P N' J' R' P':Nat}{T:Ter}{A:Prs.Act}
theorem Rh.mono (h:Rh c N J R P T) (h1:N<=N') (h2:J<=J') (h3:R<=R') (h4:P<=P'):Rh c N' J' R' P' T:=by
 obtain⟨a,b,b2,c,d,e,f⟩:=h
 exact⟨a,b,b2,by omega,by omega,by omega,by omega⟩
theorem Rh.act (h:Rh c N J R P T) (hA:ActW A):Rh c (N+1000) (J+100) (R+20) (P+1) (doT T (toX A)):=by
 obtain⟨a,b,b2,c,d,e,f⟩:=h
 have g:=Ct6 a (toX A)
 have gn:=g.nx
 have gl:=g.len
 have hf:(toX A).params.length<=32:=hA.few
 have g5:((toX A).params.length+1)*T.vis.L.length<=33*24:=Nat.mul_le_mul (by omega) b
 have gj:=g.jr
 have gr:=g.rp
 have gp:=g.pr
 have gc:=g.cols
 exact⟨g.ok,by omega,by omega,by omega,by omega,by omega,by omega⟩
theorem Rh.roomy (h:Rh c N J R P T) (hA:ActW A) (hN:N<=9000000000) (hJ:J<=80000000) (hR:R<=9000000000) (hP:P<=9000000):Emu.Roomy T (toX A):=by
 obtain⟨a,b,b2,c,d,e,f⟩:=h
 have hf:(toX A).params.length<=32:=hA.few
 have hr:=a.rows
 exact⟨by omega,by omega,by omega,by omega,by rw[hr];omega⟩
theorem Rh.acts {As:List Prs.Act}:∀ {N J R P:Nat} {T:Ter},Rh c N J R P T->(∀A∈As,ActW A)->Rh c (N+1000*As.length) (J+100*As.length) (R+20*As.length) (P+As.length) (As5 T As):=by
 induction As with
 |nil=>exact fun h _=>h.mono (by omega) (by omega) (by omega) (by omega)
 |cons A As ih =>
  intro N J R P T h ht
  have h1:=ih (h.act (ht A (by simp))) (fun o' ho=>ht o' (by simp[ho]))
  exact h1.mono (by simp;omega) (by simp;omega) (by simp;omega) (by simp;omega)
end
structure Tr (c N J R P:Nat) (X:Tri):Prop where
 dec:X.dec.Ok
 ps:PSW X.ps
 rh:Rh c N J R P X.T
section
variable {c N J R P N' J' R' P':Nat}{X:Tri}
theorem Tr.mono (h:Tr c N J R P X) (h1:N<=N') (h2:J<=J') (h3:R<=R') (h4:P<=P'):Tr c N' J' R' P' X:=⟨h.dec,h.ps,h.rh.mono h1 h2 h3 h4⟩
theorem Tr.rune (h:Tr c N J R P X) (r:Int):Tr c (N+2000) (J+200) (R+40) (P+2) (X.rune r):=by
 obtain⟨g1,g2,g3⟩:=h.ps.feed r
 exact⟨h.dec,g1,(h.rh.acts g2).mono (by omega) (by omega) (by omega) (by omega)⟩
theorem Tr.runes {l:List Int}:∀ {N J R P:Nat} {X:Tri},Tr c N J R P X->Tr c (N+2000*l.length) (J+200*l.length) (R+40*l.length) (P+2*l.length) (X.runes l):=by
 induction l with
 |nil=>exact fun h=>h.mono (by omega) (by omega) (by omega) (by omega)
 |cons r l ih =>
  intro N J R P X h
  exact(ih (h.rune r)).mono (by simp;omega) (by simp;omega) (by simp;omega) (by simp;omega)
theorem Tr.byte (h:Tr c N J R P X) {x:Int} (hx:Utf.IsByte x):Tr c (N+4000) (J+400) (R+80) (P+4) (X.byte x):=by
 have h1:Tr c N J R P ⟨(Utf.takeF X.dec x).1,X.ps,X.T⟩:=⟨Utf.take_ok h.dec hx,h.ps,h.rh⟩
 have h2:=Utf.take_len X.dec x
 exact(Tr.runes (l:=(Utf.takeF X.dec x).2) h1).mono (by omega) (by omega) (by omega) (by omega)
theorem Tr.hand {b:List Int}:∀ {N J R P:Nat} {X:Tri},Tr c N J R P X->Utf.Bytes b->Tr c (N+4000*b.length) (J+400*b.length) (R+80*b.length) (P+4*b.length) (X.hand b):=by
 induction b with
 |nil=>exact fun h _=>h.mono (by omega) (by omega) (by omega) (by omega)
 |cons x b ih =>
  intro N J R P X h hb
  exact(ih (h.byte (hb x (by simp))) (fun y hy=>hb y (by simp[hy]))).mono (by simp;omega) (by simp;omega) (by simp;omega) (by simp;omega)
end
end Go.Proofs.YtecnpoigegiooaaGreatDoor.Hos
namespace Go.Proofs.YtecnpoigegiooaaGreatDoor.Emu
open Go RowKit Com Rw Lns Scn
section
variable {w w':World}
def Cs2 (most:Nat):Ter:=⟨Mds.none0,cur0,pen0,1,most,[],⟨0,0,0,[],sav0⟩,none,0,fun _=>false,0,ev0,[],[]⟩
def Bi1 (s:Nat):Array Value:=#[.bool false,.bool false,.bool false,.bool false,.bool false,.bool false,.bool false,.bool false,.int .i64 0,.int .i64 0,.bool false,.int .u32 0,.int .u32 0,.int .u16 0,.int .u8 0,.int .u8 0,.int .i64 0,.pointer (some ⟨s,0,none⟩),.pointer none,.pointer none,.pointer none,.int .u64 0,
 .int .u8 0,.int .u64 0,.int .i64 0,.int .i64 0,.bool false,.int .i32 0,.bool false,.bool false,.bool false,.bool false,.slice none 0 0,.slice none 0 0]
theorem Cd3 (s most:Nat):Bi1 s=terB (Cs2 most) s (.pointer none) (.pointer none) (.pointer none) (.slice none 0 0) (.slice none 0 0):=by kernel_rfl
theorem sx_zero {B s nx most:Nat} {sv:Value} {R:List En} (h:SX B w s nx most sv R):SX 0 w s nx most sv R:=by
 obtain⟨⟨o,P,h0,hR⟩,hg⟩:=h
 refine⟨⟨o,P,⟨h0.blk,⟨h0.own.1,?_⟩,h0.le,h0.old,h0.olt,h0.most,h0.pos,h0.small,Nat.zero_le _⟩,hR⟩,fun e he=>?_⟩
 ·rcases h0.own.2 with h2|⟨g,cap,cur,e,_,r⟩
  ·exact .inl h2
  ·exact .inr ⟨g,cap,cur,e,Nat.zero_le _,r⟩
 ·obtain⟨g1,_,_,g4⟩:=hg e he
  exact⟨g1,Nat.zero_le _,Nat.zero_le _,g4⟩
theorem begin_no {t s:Nat} (rows cols:Int) (c17:w.cell? ⟨t,17,none⟩=some (.pointer (some ⟨s,0,none⟩))) (hno:¬(1<=rows/\rows<=512)\/¬(1<=cols/\cols<=512)):Calls Tryz.prog 35 #[.pointer (some ⟨t,0,none⟩),.int .i64 rows,.int .i64 cols] w fun e w'=>e=.returned (.int .i64 2)/\w=w':=by
 have hn:=J0 (snew_no rows cols (some ⟨s,0,none⟩) true w (hno.imp id .inl))
 clear hno
 go_enter Tryz.func35,Tryz.ntmps35
 go_wp2_with ((go_at_call 54;(with_reducible refine(hn.out).mono ?_);rintro e w1 ⟨rfl,rfl⟩))
 go_ret
 exact⟨rfl,rfl⟩
theorem tnew_back (rows cols most:Int) (h:most<0\/10000<most) (w:World):Calls Tryz.prog 18 #[.int .i64 rows,.int .i64 cols,.int .i64 most] w fun e w'=>e=.returned (.tuple #[.pointer none,.int .i64 2])/\Below w.heap.size w w':=by
 have hn:=J0 (Lns.new_no most h w)
 go_enter Tryz.func18,Tryz.ntmps18
 go_wp2_with ((go_at_call 34;(with_reducible refine(hn.out).mono ?_);rintro e w1 ⟨rfl,rfl⟩))
 go_ret2
 exact⟨rfl,Below.refl _ _⟩
theorem tnew_size (rows cols:Int) (most:Nat) (hm:most<=10000) (hno:¬(1<=rows/\rows<=512)\/¬(1<=cols/\cols<=512)) (w:World):Calls Tryz.prog 18 #[.int .i64 rows,.int .i64 cols,.int .i64 most] w fun e w'=>e=.returned (.tuple #[.pointer none,.int .i64 2])/\Below w.heap.size w w':=by
 have hln:=J0 (new_yes most hm w)
 have hbg:Hid (∀w1:World,Calls Tryz.prog 35 #[.pointer (some ⟨w1.heap.size,0,none⟩),.int .i64 rows,.int .i64 cols] (w1.alloc (.cells (Bi1 w.heap.size) 102)) fun e w'=>e=.returned (.int .i64 2)/\w1.alloc (.cells (Bi1 w.heap.size) 102)=w'):=J0 fun w1 =>
  begin_no rows cols ((Block.made w1 102 (Bi1 w.heap.size)).cell 17 rfl) hno
 simp only[Bi1] at hbg
 clear hno
 go_enter Tryz.func18,Tryz.ntmps18
 go_wp2_with (first
  |(go_at_call 34;(with_reducible refine(hln.out).mono ?_);rintro e w1 ⟨rfl,_,hb1⟩)
  |(go_at_call 35;(with_reducible refine(hbg.out _).mono ?_);rintro e w3 ⟨rfl,rfl⟩))
 go_ret2
 exact⟨rfl,Aa0 hb1 (Aa1 w1 _)⟩
end
structure TV (Z:Zn) (w:World) (d t:Nat) (T:Ter):Prop where
 blk:Block w d 105 #[.pointer (some ⟨t,0,none⟩)]
 tm:TM Z w t T
section
variable {Z:Zn}{w w':World}{d t:Nat}{T:Ter}{x:AcT}{pa ia ta:Option Addr}{pn pc ic tn tc:Nat}
theorem TV.below (h:TV Z w d t T) (hb:Below w.heap.size w w'):TV Z w' d t T:=⟨Block.only h.blk (Only.of_below hb []) (by simp),h.tm.below hb⟩
theorem TV.turn {T':Ter} (h:TV Z w d t T) (h1:TM Z w' t T') (hf:Scn.Fr Z TT w w'):TV Z w' d t T':=⟨Scn.Block.fr h.blk hf (.inl (by decide)),h1⟩
theorem isMade_yes (h:TV Z w d t T):Calls Tryz.prog 49 #[.pointer (some ⟨d,0,none⟩)] w fun e w'=>e=.returned (.bool true)/\w=w':=by
 have c0:=h.blk.cell 0 (v:=.pointer (some ⟨t,0,none⟩)) rfl
 clear h
 go_enter Tryz.func49,Tryz.ntmps49
 go_wp2
 go_ret
 exact⟨rfl,rfl⟩
theorem tdo_any (h:TV Z w d t T) (ok:Ok T) (hw:Wf x) (hR:Roomy T x) (hp:NA Z w (.slice pa pn pc) x.params) (hra:RA Z w ia x.inter):Calls Tryz.prog 37 #[.pointer (some ⟨d,0,none⟩),.agg #[.int .u8 x.kind,.int .i32 x.r,.int .i32 x.priv,.slice pa pn pc,.slice ia x.inter.length ic,.int .i32 x.fin,.slice ta tn tc]] w fun e w'=>e=.returned (.int .i64 0)/\TV Z w' d t (doT T x)/\Scn.Fr Z TT w w':=by
 have hbn:=Aa1 w (.cells #[.int .u8 x.kind,.int .i32 x.r,.int .i32 x.priv,.slice pa pn pc,.slice ia x.inter.length ic,.int .i32 x.fin,.slice ta tn tc] 151)
 have hbx:=Block.made w 151 #[.int .u8 x.kind,.int .i32 x.r,.int .i32 x.priv,.slice pa pn pc,.slice ia x.inter.length ic,.int .i32 x.fin,.slice ta tn tc]
 have hm:=J0 (isMade_yes (h.below hbn))
 have hdo:=J0 (fun w1 (hb:Below w.heap.size w w1)=>do_any (pa:=pa) (pn:=pn) (pc:=pc) (ia:=ia) (ic:=ic) (ta:=ta) (tn:=tn) (tc:=tc) (h.below hb).tm ok hw hR (hp.below hb) (hra.below hb))
 have hcd:=J0 (fun w1 (hb:Below w.heap.size w w1)=>(h.below hb).blk.cell 0 (v:=.pointer (some ⟨t,0,none⟩)) rfl)
 have hend:=J0 (fun w1 w2 (hb:Below w.heap.size w w1) (h2:TM Z w2 t (doT T x)) (hf:Scn.Fr Z TT w1 w2)=>(⟨(h.below hb).turn h2 hf,(Scn.Fr.of_below hb).trans hf⟩:TV Z w2 d t (doT T x)/\Scn.Fr Z TT w w2))
 generalize doT T x=T2 at hdo hend |-
 generalize x.inter.length=im at *
 generalize x.fin=f at *
 generalize x.r=r at *
 generalize x.priv=pr at *
 generalize x.kind=k at *
 clear h ok hw hR hp hra
 go_enter Tryz.func37,Tryz.ntmps37
 go_upto_region 1 with (fail)
 generalize w.alloc (.cells #[.int .u8 k,.int .i32 r,.int .i32 pr,.slice pa pn pc,.slice ia im ic,.int .i32 f,.slice ta tn tc] 151)=w0 at hbn hbx hm |-
 have hxk:=fun k':Eqt.Ext w0=>Block.only hbx (Only.of_below k'.below []) (by simp)
 have x0:=fun k':Eqt.Ext w0=>(hxk k').cell 0 (v:=.int .u8 k) rfl
 have x1:=fun k':Eqt.Ext w0=>(hxk k').cell 1 (v:=.int .i32 r) rfl
 have x2:=fun k':Eqt.Ext w0=>(hxk k').cell 2 (v:=.int .i32 pr) rfl
 have x3:=fun k':Eqt.Ext w0=>(hxk k').cell 3 (v:=.slice pa pn pc) rfl
 have x4:=fun k':Eqt.Ext w0=>(hxk k').cell 4 (v:=.slice ia im ic) rfl
 have x5:=fun k':Eqt.Ext w0=>(hxk k').cell 5 (v:=.int .i32 f) rfl
 have x6:=fun k':Eqt.Ext w0=>(hxk k').cell 6 (v:=.slice ta tn tc) rfl
 have cd:=fun k':Eqt.Ext w0=>hcd.out _ (Aa0 hbn k'.below)
 clear hbx hxk
 go_wp2_with ((go_at_call 49;(with_reducible refine(hm.out).mono ?_);rintro e w1 ⟨rfl,rfl⟩))
 refine Eqt.region_ext_tail 5 (by kernel_rfl) (by kernel_rfl) ?_
 simp only[List.take_succ_cons,List.take_zero,List.drop_succ_cons,List.drop_zero]
 repeat (go_big_quiet_step (fail))
 refine wpQuiet_nil ?_
 intro w9 hw9
 obtain⟨k9,rfl⟩:=hw9
 have hb9:=k9.below
 generalize k9.w=w9 at hb9 |-
 have hb:=Aa0 hbn hb9
 go_wp2_with ((go_at_call 60;(with_reducible refine(hdo.out _ hb).mono ?_);rintro e w3 ⟨⟨v3,rfl⟩,h3,hf3⟩))
 go_ret
 exact⟨rfl,hend.out _ _ hb h3 hf3⟩
theorem tprints_any (h:TV Z w d t T):Calls Tryz.prog 33 #[.pointer (some ⟨d,0,none⟩)] w fun e w'=>e=.returned (.int .u64 T.prints)/\w=w':=by
 have hm:=J0 (isMade_yes h)
 have c0:=h.blk.cell 0 (v:=.pointer (some ⟨t,0,none⟩)) rfl
 obtain⟨P,hT⟩:=h.tm
 have c21:=hT.c21
 clear h hT
 go_enter Tryz.func33,Tryz.ntmps33
 go_wp2_with ((go_at_call 49;(with_reducible refine(hm.out).mono ?_);rintro e w1 ⟨rfl,rfl⟩))
 go_ret
 exact⟨rfl,rfl⟩
end
