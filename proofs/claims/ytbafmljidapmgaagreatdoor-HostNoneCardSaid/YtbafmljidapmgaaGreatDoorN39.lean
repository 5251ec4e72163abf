/- Part 39 of the proof that the card of HostNone holds. -/
import Derived.Test.YtbafmljidapmgaaGreatDoorN38
set_option maxHeartbeats 16000000
set_option maxRecDepth 100000
namespace Go.Proofs.YtbafmljidapmgaaGreatDoor.Emu
open Go RowKit Com Rw Lns Scn
section
variable {Z Z1:Zn} {w w':World} {t s d b:Nat} {x:AcT} {S:Scr} {T:Ter} {P:Pt} {v:Value} {l:List Int} {pa ia ta:Option Addr} {pn pc im ic tn tc:Nat} {k r pr f:Int}
theorem neq_kin (f:FuncId) (w:World):(binOp .neq 274 (.func (.func f) #[] #[]) .nilFunc).run Tryz.prog w=.ok (.bool true) w:=by kernel_rfl
theorem neqn_kin (w:World):(binOp .neq 274 .nilFunc .nilFunc).run Tryz.prog w=.ok (.bool false) w:=by kernel_rfl
def kinL:List Ent:=[(1,.func (.func 201) #[] #[]),(2,.func (.func 202) #[] #[]),(3,.func (.func 203) #[] #[]),(4,.func (.func 204) #[] #[])]
theorem kinL_none {n:Int} (h0:n≠1) (h1:n≠2) (h2:n≠3) (h3:n≠4):findM kinL n=none:=by
 simp [kinL,findM,h0,h1,h2,h3]
structure Roomy (T:Ter) (x:AcT):Prop where
 jr:T.jr.length<=88000000
 pr:T.prints<=9990000000
 rp:T.rp.length<=10000000000
 par:x.params.length<=100
 nx:T.nx+100*T.main.L.length<=9900000000
structure Wf (x:AcT):Prop where
 kind:(Lit.int .u8 x.kind).wf=true
 r:(Lit.int .i32 x.r).wf=true
 fin:(Lit.int .i32 x.fin).wf=true
 inter:Fits .i32 x.inter
theorem Bc1 (h:Roomy T x):T.nx<=9900000000:=by have:=h.nx;omega
theorem roomy_par (h:Roomy T x):T.nx+x.params.length*T.main.L.length<=9900000000:=by
 have:=h.nx
 have:=Nat.mul_le_mul_right T.main.L.length h.par
 omega
theorem esc_any (h:TM Z w t T) (ok:Ok T) (hw:Wf x) (hR:Roomy T x) (hra:RA Z w ia x.inter):Calls Tryz.prog 203 #[.pointer (some ⟨t,0,none⟩),.agg #[.int .u8 x.kind,.int .i32 x.r,.int .i32 x.priv,.slice pa pn pc,.slice ia x.inter.length ic,.int .i32 x.fin,.slice ta tn tc]] w (Does Z w t (escape T x)):=by
 have hj:=hR.jr
 by_cases hi:x.inter=[]
 ·have e:escape T x=escF T x.fin:=by unfold escape;rw [if_pos hi];rfl
  rw [e,hi]
  exact escape_go h ok (by omega) (Bc1 hR) hw.fin
 ·have e:escape T x=choF T x.inter x.fin:=by unfold escape;rw [if_neg hi];rfl
  rw [e]
  obtain ⟨P,h⟩:=h
  exact esc_inter h hi hra hw.inter hw.fin
theorem seq_any (h:TM Z w t T) (ok:Ok T) (hw:Wf x) (hR:Roomy T x) (hp:NA Z w (.slice pa pn pc) x.params):Calls Tryz.prog 204 #[.pointer (some ⟨t,0,none⟩),.agg #[.int .u8 x.kind,.int .i32 x.r,.int .i32 x.priv,.slice pa pn pc,.slice ia x.inter.length ic,.int .i32 x.fin,.slice ta tn tc]] w (Does Z w t (sequence T x)):=by
 have hj:=hR.jr
 have hpar:=hR.par
 unfold sequence
 by_cases hi:x.inter=[]
 ·rw [if_pos hi,hi]
  by_cases h0:x.priv=0
  ·rw [if_pos h0,h0]
   exact seq_plain h ok (by omega) (Bc1 hR) hR.rp hp hw.fin
  ·rw [if_neg h0]
   by_cases h1:x.priv=63
   ·rw [if_pos h1,h1]
    exact seq_priv h ok (by omega) (roomy_par hR) hp hw.fin
   ·rw [if_neg h1]
    obtain ⟨P,h⟩:=h
    exact seq_other h h0 h1 hw.fin
 ·rw [if_neg hi]
  obtain ⟨P,h⟩:=h
  exact seq_inter h (List.length_pos_iff.2 hi)
theorem do_any (h:TM Z w t T) (ok:Ok T) (hw:Wf x) (hR:Roomy T x) (hp:NA Z w (.slice pa pn pc) x.params) (hra:RA Z w ia x.inter):Calls Tryz.prog 123 #[.pointer (some ⟨t,0,none⟩),.agg #[.int .u8 x.kind,.int .i32 x.r,.int .i32 x.priv,.slice pa pn pc,.slice ia x.inter.length ic,.int .i32 x.fin,.slice ta tn tc]] w (Does Z w t (doT T x)):=by
 obtain ⟨T2,hT2⟩:∃ T2,T2=doT T x:=⟨_,rfl⟩
 rw [<- hT2]
 replace hT2:=J0 hT2
 have hbn:=Aa1 w (.cells #[.int .u8 x.kind,.int .i32 x.r,.int .i32 x.priv,.slice pa pn pc,.slice ia x.inter.length ic,.int .i32 x.fin,.slice ta tn tc] 112)
 have hbx:=Block.made w 112 #[.int .u8 x.kind,.int .i32 x.r,.int .i32 x.priv,.slice pa pn pc,.slice ia x.inter.length ic,.int .i32 x.fin,.slice ta tn tc]
 have hmm:=@run_makeMap Tryz.prog
 have hneq:=neq_kin
 have hneqn:=neqn_kin
 go_enter Tryz.func123,Tryz.ntmps123
 go_upto_region 1 with (fail)
 generalize w.alloc (.cells #[.int .u8 x.kind,.int .i32 x.r,.int .i32 x.priv,.slice pa pn pc,.slice ia x.inter.length ic,.int .i32 x.fin,.slice ta tn tc] 112)=w0 at hbn hbx |-
 have hmp:=MpN.made w0 .u8
 have hbm:=Aa1 w0 (.map #[] 0)
 have hsz:(w0.alloc (.map #[] 0)).heap.size=w0.heap.size+1:=by simp
 go_upto_region 2 with (refine Am1 Ch1 hmp ?_ ?_ ?_;rfl;decide;clear hmp;intro wn hmp hon;replace hbm:=hbm.trans (hon.below hbm.size (by simp));clear hon)
 change MpN _ _ _ kinL at hmp
 clear hsz
 have hx9:=Block.only hbx (Only.of_below hbm []) (by simp)
 have x0:=hx9.cell 0 (v:=.int .u8 x.kind) rfl
 have x1:=hx9.cell 1 (v:=.int .i32 x.r) rfl
 have x2:=hx9.cell 2 (v:=.int .i32 x.priv) rfl
 have x3:=hx9.cell 3 (v:=.slice pa pn pc) rfl
 have x4:=hx9.cell 4 (v:=.slice ia x.inter.length ic) rfl
 have x5:=hx9.cell 5 (v:=.int .i32 x.fin) rfl
 have x6:=hx9.cell 6 (v:=.slice ta tn tc) rfl
 have hlk0:=(Bq6 Ch1 hmp x.kind hw.kind).1
 have hb:=Aa0 hbn hbm
 have hT:=h.below hb
 have hf0:Scn.Fr Z TT w wn:=Scn.Fr.of_below hb
 have hp9:=hp.below hb
 have hra9:=hra.below hb
 have hj:=hR.jr
 have hpr:=hR.pr
 clear hmp hbm hbn hbx hmm h hb hx9 hp hra
 by_cases e0:x.kind=1
 ·have hc:=print_any (k:=x.kind) (r:=x.r) (pr:=x.priv) (pa:=pa) (pn:=pn) (pc:=pc) (ia:=ia) (im:=x.inter.length) (ic:=ic) (f:=x.fin) (ta:=ta) (tn:=tn) (tc:=tc) hT ok (by omega) (by omega) (Bc1 hR)
  rw [show Bi6 T x.r=doT T x by simp [doT,e0],<- hT2.out,e0] at hc
  rw [e0] at hlk0 x0
  have hlk:(Instr.lookup 275 (.map (some w0.heap.size)) (.int .u8 1) false).run Tryz.prog wn=.ok (.func (.func 201) #[] #[]) wn:=hlk0
  replace hc:=J0 hc
  generalize x.inter.length=im at *
  generalize x.fin=f at *
  generalize x.r=r at *
  generalize x.priv=pr at *
  clear hT2 hT ok hlk0 hw hR hp9 hra9 hj hpr e0
  go_wp2_with (first
   |(go_at_call 201;(with_reducible refine (hc.out).mono ?_);rintro e w3 ⟨⟨v3,rfl⟩,h3,hf3⟩))
  go_end0
  exact ⟨⟨_,rfl⟩,h3,hf0.trans hf3⟩
 by_cases e1:x.kind=2
 ·have hc:=control_go (k:=x.kind) (r:=x.r) (pr:=x.priv) (pa:=pa) (pn:=pn) (pc:=pc) (ia:=ia) (im:=x.inter.length) (ic:=ic) (f:=x.fin) (ta:=ta) (tn:=tn) (tc:=tc) hT ok (by omega) (Bc1 hR) hw.r
  rw [show control T x.r=doT T x by simp [doT,e1],<- hT2.out,e1] at hc
  rw [e1] at hlk0 x0
  have hlk:(Instr.lookup 275 (.map (some w0.heap.size)) (.int .u8 2) false).run Tryz.prog wn=.ok (.func (.func 202) #[] #[]) wn:=hlk0
  replace hc:=J0 hc
  generalize x.inter.length=im at *
  generalize x.fin=f at *
  generalize x.r=r at *
  generalize x.priv=pr at *
  clear hT2 hT ok hlk0 hw hR hp9 hra9 hj hpr e1 e0
  go_wp2_with (first
   |(go_at_call 202;(with_reducible refine (hc.out).mono ?_);rintro e w3 ⟨⟨v3,rfl⟩,h3,hf3⟩))
  go_end0
  exact ⟨⟨_,rfl⟩,h3,hf0.trans hf3⟩
 by_cases e2:x.kind=3
 ·have hc:=esc_any (pa:=pa) (pn:=pn) (pc:=pc) (ia:=ia) (ic:=ic) (ta:=ta) (tn:=tn) (tc:=tc) hT ok hw hR hra9
  rw [show escape T x=doT T x by simp [doT,e2],<- hT2.out,e2] at hc
  rw [e2] at hlk0 x0
  have hlk:(Instr.lookup 275 (.map (some w0.heap.size)) (.int .u8 3) false).run Tryz.prog wn=.ok (.func (.func 203) #[] #[]) wn:=hlk0
  replace hc:=J0 hc
  generalize x.inter.length=im at *
  generalize x.fin=f at *
  generalize x.r=r at *
  generalize x.priv=pr at *
  clear hT2 hT ok hlk0 hw hR hp9 hra9 hj hpr e2 e0 e1
  go_wp2_with (first
   |(go_at_call 203;(with_reducible refine (hc.out).mono ?_);rintro e w3 ⟨⟨v3,rfl⟩,h3,hf3⟩))
  go_end0
  exact ⟨⟨_,rfl⟩,h3,hf0.trans hf3⟩
 by_cases e3:x.kind=4
 ·have hc:=seq_any (pa:=pa) (pn:=pn) (pc:=pc) (ia:=ia) (ic:=ic) (ta:=ta) (tn:=tn) (tc:=tc) hT ok hw hR hp9
  rw [show sequence T x=doT T x by simp [doT,e3],<- hT2.out,e3] at hc
  rw [e3] at hlk0 x0
  have hlk:(Instr.lookup 275 (.map (some w0.heap.size)) (.int .u8 4) false).run Tryz.prog wn=.ok (.func (.func 204) #[] #[]) wn:=hlk0
  replace hc:=J0 hc
  generalize x.inter.length=im at *
  generalize x.fin=f at *
  generalize x.r=r at *
  generalize x.priv=pr at *
  clear hT2 hT ok hlk0 hw hR hp9 hra9 hj hpr e3 e0 e1 e2
  go_wp2_with (first
   |(go_at_call 204;(with_reducible refine (hc.out).mono ?_);rintro e w3 ⟨⟨v3,rfl⟩,h3,hf3⟩))
  go_end0
  exact ⟨⟨_,rfl⟩,h3,hf0.trans hf3⟩
 have he:T2=T:=by rw [hT2.out];simp [doT,e0,e1,e2,e3]
 subst he
 have hlk:(Instr.lookup 275 (.map (some w0.heap.size)) (.int .u8 x.kind) false).run Tryz.prog wn=.ok .nilFunc wn:=by
  rw [hlk0,kinL_none e0 e1 e2 e3]
  rfl
 clear hT2 ok hlk0 hw hR hp9 hra9 hj hpr e0 e1 e2 e3
 generalize x.inter.length=im at *
 generalize x.kind=k at *
 go_wp2
 go_end0
 exact ⟨⟨_,rfl⟩,hT,hf0⟩
end
end Go.Proofs.YtbafmljidapmgaaGreatDoor.Emu
namespace Go.Proofs.YtbafmljidapmgaaGreatDoor.Emu
open Go Rw Scn
structure Gw (T T':Ter) (j n r p:Nat):Prop where
 ok:Ok T'
 len:T'.vis.L.length=T.vis.L.length
 cols:T'.vis.cols=T.vis.cols
 nx:T.nx<=T'.nx/\T'.nx<=T.nx+n*T.vis.L.length
 jr:T'.jr.length<=T.jr.length+j
 rp:T'.rp.length<=T.rp.length+r
 pr:T'.prints<=T.prints+p
section
variable {T T' T1:Ter} {j n r p j' n' r' p':Nat}
theorem Gw.refl (h:Ok T):Gw T T 0 0 0 0:=⟨h,rfl,rfl,⟨J5 _,by omega⟩,J5 _,J5 _,J5 _⟩
theorem Gw.trans (h:Gw T T1 j n r p) (g:Gw T1 T' j' n' r' p'):Gw T T' (j+j') (n+n') (r+r') (p+p'):=by
 have h1:=h.nx
 have g1:=g.nx
 rw [h.len] at g1
 have h2:=h.jr;have g2:=g.jr;have h3:=h.rp;have g3:=g.rp;have h4:=h.pr;have g4:=g.pr
 exact ⟨g.ok,g.len.trans h.len,g.cols.trans h.cols,⟨by omega,by rw [Nat.add_mul];omega⟩,by omega,by omega,by omega⟩
theorem Gw.mono (h:Gw T T' j n r p) (hj:j<=j') (hn:n<=n') (hr:r<=r') (hp:p<=p'):Gw T T' j' n' r' p':=by
 have h1:=h.nx
 have h5:=Nat.mul_le_mul_right T.vis.L.length hn
 have h2:=h.jr;have h3:=h.rp;have h4:=h.pr
 exact ⟨h.ok,h.len,h.cols,⟨h1.1,by omega⟩,by omega,by omega,by omega⟩
theorem Be7 (h:Ok T) (e:Ev):Gw T (tell T e) 1 0 0 0:=⟨h.tell e,rfl,rfl,⟨J5 _,Nat.le_add_right _ _⟩,by show (T.jr++[e]).length<=_;simp,J5 _,J5 _⟩
theorem Av6 (h:Ok T) (y x:Int):Gw T (place T y x) 0 0 0 0:=⟨h.place y x,rfl,rfl,⟨J5 _,Nat.le_add_right _ _⟩,J5 _,J5 _,J5 _⟩
theorem Am4 (h:Ok T) (y x:Int):Gw T (move T y x) 1 0 0 0:=((Av6 h y x).trans (Be7 (h.place y x) _)).mono (J5 _) (J5 _) (J5 _) (J5 _)
theorem An8 (h:Ok T):Gw T (tellOther T) 1 0 0 0:=Be7 h _
theorem Bx4 (h:Ok T) {x:Nat} (hx:x<T.vis.cols):Gw T (setCol T x) 0 0 0 0:=⟨h.setCol hx,rfl,rfl,⟨J5 _,Nat.le_add_right _ _⟩,J5 _,J5 _,J5 _⟩
theorem Bp9 {S:Scr} (hO:Ok (T.putVis S)) (hm:S.most=T.most) (hk:S.kp=T.other.isNone) (hl:S.L.length=T.vis.L.length) (hc:S.cols=T.vis.cols) {n:Nat} (hn:T.nx<=S.nx/\S.nx<=T.nx+n*T.vis.L.length):Gw T (T.putVis S) 0 n 0 0:=by
 refine ⟨hO,by rw [Bv3 hm hk];exact hl,by rw [Bv3 hm hk];exact hc,by rw [put_nx];exact hn,by rw [Ae9];exact J5 _,by rw [put_rp];exact J5 _,by rw [Af1];exact J5 _⟩
theorem Cp5 (h:Ok T) {frm:Nat} (hf:frm<=T.vis.bot) (k:Int) (a:At) (b:Bool):Gw T (T.putVis (upS T.vis frm k a b)) 0 1 0 0:=by
 refine Bp9 (h.up hf k a b) rfl rfl (Ck7 h.fit hf k a b) rfl ⟨Nat.le_add_right _ _,?_⟩
 have h1:=Ak2 k (T.vis.bot+1 - frm)
 have h2:=h.fit.bot
 show T.nx+Ab1 k (T.vis.bot+1 - frm)<=_
 omega
theorem Bt9 (h:Ok T) {tp:Nat} (hf:tp<=T.vis.bot) (k:Int) (a:At):Gw T (T.putVis (Ag4 T.vis tp k a)) 0 1 0 0:=by
 refine Bp9 (h.down hf k a) rfl rfl (Bo9 h.fit hf k a) rfl ⟨Nat.le_add_right _ _,?_⟩
 have h1:=Ak2 k (T.vis.bot+1 - tp)
 have h2:=h.fit.bot
 show T.nx+Ab1 k (T.vis.bot+1 - tp)<=_
 omega
theorem Be3 (h:Ok T) {l:List Cel} (hl:l.length=(line T).length):Gw T (putLine T l) 0 0 0 0 :=
 Bp9 (h.putLine hl) rfl rfl (Bf9 _ _ _) rfl ⟨J5 _,by show T.nx<=_;omega⟩
theorem Bl6 (h:Ok T):Gw T (feed T) 0 1 0 0:=by
 unfold feed
 split
 ·exact ((Cp5 h h.fit.top 1 T.p.a _).trans (Av6 (h.upT _ _) _ _)).mono (J5 _) (J5 _) (J5 _) (J5 _)
 ·exact (Av6 h _ _).mono (J5 _) (by omega) (J5 _) (J5 _)
theorem As9 (h:Ok T) (b:Bool):Gw T (tellFeed T b) 1 0 0 0:=Be7 h _
theorem Bx7 (h:Ok T) (w:Nat):Gw T (makeWay T w) 1 1 0 0:=by
 unfold makeWay
 split
 ·have h1:=h.setCol h.fit.c1
  exact (((Bx4 h h.fit.c1).trans (Bl6 h1)).trans (As9 h1.feed true)).mono (J5 _) (J5 _) (J5 _) (J5 _)
 ·split
  ·exact (Bx4 h (by have:=h.col;omega)).mono (by omega) (by omega) (J5 _) (J5 _)
  ·exact (Gw.refl h).mono (by omega) (by omega) (J5 _) (J5 _)
theorem Cf5 (h:Ok T) (e:Ev) (x:Int):Gw T (tellRune T e x) 1 0 0 1 :=
 ⟨⟨h.fit,h.fitm,h.rows,h.cols,h.row,h.col,h.sv,h.svm,h.tn,h.alt⟩,rfl,rfl,⟨J5 _,Nat.le_add_right _ _⟩,by show (T.jr++[_]).length<=_;simp,J5 _,J5 _⟩
theorem gw_cur (h:Gw T T1 j n r p) (pd:Bool):Gw T { T1 with c:={ T1.c with pend:=pd } } j n r p :=
 ⟨⟨h.ok.fit,h.ok.fitm,h.ok.rows,h.ok.cols,h.ok.row,h.ok.col,h.ok.sv,h.ok.svm,h.ok.tn,h.ok.alt⟩,h.len,h.cols,h.nx,h.jr,h.rp,h.pr⟩
theorem gw_join (h:Ok T) (x:Int):Gw T (Bm0 T x) 1 0 0 1:=by
 unfold Bm0
 split
 ·have h1:=fun c=>Be3 h (Rw.joiL_len (line T) c x)
  exact ((h1 _).trans (Cf5 (h1 _).ok _ x)).mono (J5 _) (J5 _) (J5 _) (J5 _)
 ·exact (Gw.refl h).mono (by omega) (J5 _) (J5 _) (by omega)
theorem Cf4 (h:Ok T) (x:Int) (w:Nat):Gw T (putT T x w) 1 0 0 1:=by
 have h1:=Be3 h (putCells_len T x w)
 have h2:=h1.trans (Cf5 h1.ok (Ac3 T w) x)
 have h3:=h2.trans (Av6 h2.ok (tellRune (putLine T (Aa3 T x w)) (Ac3 T w) x).c.row (T.c.col+w:Nat))
 exact gw_cur (h3.mono (J5 _) (J5 _) (J5 _) (J5 _)) _
theorem gw_print (h:Ok T) (x:Int):Gw T (Bi6 T x) 2 1 0 1:=by
 unfold Bi6
 generalize Cht.charsetF (if T.p.wh then T.p.g1 else T.p.g0) x=c
 simp only
 split
 ·exact (gw_join h _).mono (by omega) (by omega) (J5 _) (J5 _)
 ·split
  ·exact ((Bx7 h _).trans (Cf4 (Bx7 h _).ok _ _)).mono (J5 _) (J5 _) (J5 _) (J5 _)
  ·exact ((Bx7 h _).trans (Cf4 (Bx7 h _).ok _ _)).mono (J5 _) (J5 _) (J5 _) (J5 _)
theorem An9 (h':Ok T') (hv:T'.vis.L.length=T.vis.L.length) (hc:T'.vis.cols=T.vis.cols) (hn:T'.nx=T.nx) (hj:T'.jr=T.jr) (hr:T'.rp=T.rp) (hp:T'.prints=T.prints):Gw T T' 0 0 0 0 :=
 ⟨h',hv,hc,by rw [hn];exact ⟨J5 _,Nat.le_add_right _ _⟩,by rw [hj];exact J5 _,by rw [hr];exact J5 _,by rw [hp];exact J5 _⟩
theorem Ok.pen (h:Ok T) (q:Pen):Ok { T with p:=q }:=⟨h.fit,h.fitm,h.rows,h.cols,h.row,h.col,h.sv,h.svm,h.tn,h.alt⟩
theorem Ok.tabF (h:Ok T) (f:Nat->Bool):Ok { T with tf:=f }:=⟨h.fit,h.fitm,h.rows,h.cols,h.row,h.col,h.sv,h.svm,h.tn,h.alt⟩
theorem Bp8 (h:Ok T) (q:Pen):Gw T { T with p:=q } 0 0 0 0:=An9 (h.pen q) rfl rfl rfl rfl rfl rfl
theorem Bl8 (h:Ok T) (f:Nat->Bool):Gw T { T with tf:=f } 0 0 0 0:=An9 (h.tabF f) rfl rfl rfl rfl rfl rfl
theorem Az0 (h:Ok T):Gw T (rowDown T) 1 1 0 0:=((Bl6 h).trans (An8 h.feed)).mono (J5 _) (J5 _) (J5 _) (J5 _)
theorem Be4 (h:Ok T):Gw T (nextLine T) 1 1 0 0:=((Bx4 h h.fit.c1).trans (Az0 (h.setCol h.fit.c1))).mono (J5 _) (J5 _) (J5 _) (J5 _)
theorem Bx6 (h:Ok T):Gw T (rowUp T) 1 1 0 0:=by
 unfold rowUp
 split
 ·have h1:=Bt9 h h.fit.top 1 T.p.a
  exact (h1.trans (Am4 h1.ok _ _)).mono (J5 _) (J5 _) (J5 _) (J5 _)
 ·exact (Am4 h _ _).mono (J5 _) (by omega) (J5 _) (J5 _)
theorem gw_newLine (h:Ok T):Gw T (newLine T) 1 1 0 0:=by
 unfold newLine
 split
 ·have h1:=h.setCol h.fit.c1
  exact (((Bx4 h h.fit.c1).trans (Bl6 h1)).trans (As9 h1.feed false)).mono (J5 _) (J5 _) (J5 _) (J5 _)
 ·exact ((Bl6 h).trans (As9 h.feed false)).mono (J5 _) (J5 _) (J5 _) (J5 _)
theorem Be6 (h:Ok T) (y x:Int):Gw T (tellStraight (place T y x)) 1 0 0 0:=((Av6 h y x).trans (Be7 (h.place y x) _)).mono (J5 _) (J5 _) (J5 _) (J5 _)
theorem gw_control (h:Ok T) (x:Int):Gw T (control T x) 1 1 0 0:=by
 unfold control
 split
 ·exact (Am4 h _ _).mono (J5 _) (by omega) (J5 _) (J5 _)
 split
 ·exact (Be6 h _ _).mono (J5 _) (by omega) (J5 _) (J5 _)
 split
 ·exact gw_newLine h
 split
 ·exact (Be6 h _ _).mono (J5 _) (by omega) (J5 _) (J5 _)
 split
 ·exact (Bp8 h _).mono (by omega) (by omega) (J5 _) (J5 _)
 split
 ·exact (Bp8 h _).mono (by omega) (by omega) (J5 _) (J5 _)
 split
 ·exact Az0 h
 split
 ·exact Be4 h
 split
 ·exact (Bl8 h _).mono (by omega) (by omega) (J5 _) (J5 _)
 split
 ·exact Bx6 h
 ·exact (Gw.refl h).mono (by omega) (by omega) (J5 _) (J5 _)
theorem Bu0 (h:Ok T):Gw T (save T) 0 0 0 0:=by
 refine An9 h.save ?_ ?_ ?_ ?_ ?_ ?_
 all_goals
  unfold save Ter.putSv
  rcases ho:T.other with _|o<;>simp [Ter.vis,Ter.sh,Sh.scr,ho]
theorem Ay9 (h:Ok T):Gw T (restore T) 1 0 0 0:=((An9 (T:=T) h.restored rfl rfl rfl rfl rfl rfl).trans (An8 h.restored)).mono (J5 _) (J5 _) (J5 _) (J5 _)
theorem Bd0 (T:Ter) (rows cols:Nat):(Aj0 T rows cols).vis.L.length=rows:=Af8 _ _ _ _
theorem gw_reset (h:Ok T):Gw T (reset T) 1 1 0 0:=by
 have hO:Ok (Aj0 T T.vis.L.length T.vis.cols):=Ok.begin (show 1<=T.nx from h.fit.pos) h.fit.len h.fit.len5 h.fit.c1 h.fit.c5
 have h1:Gw T (Aj0 T T.vis.L.length T.vis.cols) 0 1 0 0:=⟨hO,Bd0 _ _ _,rfl,⟨Nat.le_add_right _ _,by show T.nx+_<=_;omega⟩,J5 _,J5 _,J5 _⟩
 exact (h1.trans (Be7 hO _)).mono (J5 _) (J5 _) (J5 _) (J5 _)
theorem gw_choose (h:Ok T) (x:AcT):Gw T (choose T x) 0 0 0 0:=by
 unfold choose
 split
 ·split
  ·unfold setG
   split
   ·exact Bp8 h _
   ·exact Bp8 h _
  ·exact Gw.refl h
 ·exact Gw.refl h
theorem gw_escape (h:Ok T) (x:AcT):Gw T (escape T x) 1 1 0 0:=by
 unfold escape
 split
 ·split
  ·exact (Bu0 h).mono (by omega) (by omega) (J5 _) (J5 _)
  split
  ·exact (Ay9 h).mono (J5 _) (by omega) (J5 _) (J5 _)
  split
  ·exact Az0 h
  split
  ·exact Be4 h
  split
  ·exact (Bl8 h _).mono (by omega) (by omega) (J5 _) (J5 _)
  split
  ·exact Bx6 h
  split
  ·exact gw_reset h
  ·exact (Gw.refl h).mono (by omega) (by omega) (J5 _) (J5 _)
 ·exact (gw_choose h x).mono (by omega) (by omega) (J5 _) (J5 _)
theorem dg_len:∀ (k n:Nat),n<10 ^ (k+1)->(Kys.dgF (n:Int)).length<=k+1:=by
 intro k
 induction k with
 |zero =>
  intro n hn
  rw [Kys.dg_small (by omega)]
  simp
 |succ k ih =>
  intro n hn
  by_cases h:n<10
  ·rw [Kys.dg_small h]
   simp
  ·have h2:n / 10<10 ^ (k+1):=Nat.div_lt_of_lt_mul (by rw [Nat.pow_succ] at hn;omega)
   rw [Kys.dg_big (by omega),List.length_append,List.length_singleton]
   have:=ih _ h2
   omega
theorem Aq8 (h:Ok T) (f u:Nat):Gw T (eraseRows T f u) 0 0 0 0 :=
 Bp9 (h.era f u) rfl rfl (Ae5 _ _ _ _ _) rfl ⟨J5 _,by show T.nx<=_;omega⟩
theorem Aq9 (h:Ok T) (f u:Int):Gw T (As8 T f u) 1 0 0 0:=by
 have h1:=Be3 h (Av0 (line T) f u T.p.a)
 exact (h1.trans (An8 h1.ok)).mono (J5 _) (J5 _) (J5 _) (J5 _)
theorem Ah3 (h:Ok T) (k:Int):Gw T (eraseLine T k) 1 0 0 0:=by
 unfold eraseLine
 split
 ·exact Aq9 h _ _
 split
 ·exact Aq9 h _ _
 split
 ·exact Aq9 h _ _
 ·exact (Gw.refl h).mono (by omega) (J5 _) (J5 _) (J5 _)
theorem Bp7 (h:Ok T):Gw T (noBack T) 0 0 0 0:=An9 h.noBack rfl rfl rfl rfl rfl rfl
theorem gw_eraseScr (h:Ok T) (k:Int):Gw T (Aq5 T k) 1 0 0 0:=by
 unfold Aq5
 split
 ·exact ((Aq8 h _ _).trans (Ah3 (Aq8 h _ _).ok _)).mono (J5 _) (J5 _) (J5 _) (J5 _)
 split
 ·exact ((Aq8 h _ _).trans (Ah3 (Aq8 h _ _).ok _)).mono (J5 _) (J5 _) (J5 _) (J5 _)
 split
 ·exact ((Aq8 h _ _).trans (Ah3 (Aq8 h _ _).ok _)).mono (J5 _) (J5 _) (J5 _) (J5 _)
 split
 ·exact ((Bp7 h).trans (Ah3 (Bp7 h).ok _)).mono (J5 _) (J5 _) (J5 _) (J5 _)
 ·exact Ah3 h _
theorem gw_insC (h:Ok T) (l:List Int):Gw T (insertCells T l) 1 0 0 0:=by
 have h1:=Be3 h (Bf0 (line T) T.c.col (Aa2 l 0) T.p.a)
 exact (h1.trans (An8 h1.ok)).mono (J5 _) (J5 _) (J5 _) (J5 _)
theorem gw_delC (h:Ok T) (l:List Int):Gw T (deleteCells T l) 1 0 0 0:=by
 have h1:=Be3 h (Ce4 (line T) T.c.col (Aa2 l 0) T.p.a)
 exact (h1.trans (An8 h1.ok)).mono (J5 _) (J5 _) (J5 _) (J5 _)
theorem gw_insL (h:Ok T) (l:List Int):Gw T (insertLines T l) 1 1 0 0:=by
 unfold insertLines
 split
 ·next hw =>
  have h1:=Bt9 h hw.2 (Aa2 l 0) T.p.a
  exact (h1.trans (Am4 h1.ok _ _)).mono (J5 _) (J5 _) (J5 _) (J5 _)
 ·exact (Gw.refl h).mono (by omega) (by omega) (J5 _) (J5 _)
theorem gw_delL (h:Ok T) (l:List Int):Gw T (deleteLines T l) 1 1 0 0:=by
 unfold deleteLines
 split
 ·next hw =>
  have h1:=Cp5 h hw.2 (Aa2 l 0) T.p.a false
  exact (h1.trans (Am4 h1.ok _ _)).mono (J5 _) (J5 _) (J5 _) (J5 _)
 ·exact (Gw.refl h).mono (by omega) (by omega) (J5 _) (J5 _)
theorem gw_scrU (h:Ok T) (l:List Int):Gw T (scrollUp T l) 1 1 0 0:=by
 have h1:=Cp5 h h.fit.top (Aa2 l 0) T.p.a (T.vis.kp && decide (T.vis.top=0))
 exact (h1.trans (An8 h1.ok)).mono (J5 _) (J5 _) (J5 _) (J5 _)
theorem gw_scrD (h:Ok T) (l:List Int):Gw T (scrollDown T l) 1 1 0 0:=by
 have h1:=Bt9 h h.fit.top (Aa2 l 0) T.p.a
 exact (h1.trans (An8 h1.ok)).mono (J5 _) (J5 _) (J5 _) (J5 _)
theorem gw_marg (h:Ok T) (l:List Int):Gw T (setMargins T l) 1 0 0 0:=by
 unfold setMargins
 split
 ·next hw =>
  have hl:=h.fit.len
  have hb:(Bb1 T l).toNat<T.vis.L.length/\0<=Bb1 T l:=by
   unfold Bb1
   split<;>omega
  have h1:=h.marg hb.1 (a:=(Aa2 l 0 - 1).toNat) (by omega)
  have h2:Gw T (T.putVis { T.vis with top:=(Aa2 l 0 - 1).toNat,bot:=(Bb1 T l).toNat }) 0 0 0 0:=Bp9 h1 rfl rfl rfl rfl ⟨J5 _,by show T.nx<=_;omega⟩
  exact (h2.trans (Am4 h2.ok _ _)).mono (J5 _) (J5 _) (J5 _) (J5 _)
 ·exact (Gw.refl h).mono (by omega) (J5 _) (J5 _) (J5 _)
theorem gw_tabs (h:Ok T) (l:List Int):Gw T (clearTabs T l) 0 0 0 0:=by
 unfold clearTabs
 split
 ·exact Bl8 h _
 split
 ·exact Bl8 h _
 ·exact Gw.refl h
theorem Bx5 (h:Ok T) (l:List Int) (on:Bool):Gw T (setModes T l on) 0 0 0 0:=by
 unfold setModes
 induction l generalizing T with
 |nil=>exact Gw.refl h
 |cons a l ih =>
  have h1:=h.putM (Al4 a) on
  have h2:Gw T (putM T false on (Al4 a)) 0 0 0 0:=An9 h1 rfl rfl rfl rfl rfl rfl
  exact (h2.trans (ih h1)).mono (J5 _) (J5 _) (J5 _) (J5 _)
theorem Bl7 (h:Ok T) (b:List Int) {r:Nat} (hb:b.length<=r):Gw T (reply T b) 0 0 r 0 :=
 ⟨⟨h.fit,h.fitm,h.rows,h.cols,h.row,h.col,h.sv,h.svm,h.tn,h.alt⟩,rfl,rfl,⟨J5 _,Nat.le_add_right _ _⟩,J5 _,by show (T.rp++b).length<=_;simp;omega,J5 _⟩
theorem cur_len {a b:Int} (ha:a<1000) (hb:b<1000):(Kys.curF a b).length<=20:=by
 have hm:∀ x:Int,x<1000->(Kys.dgF (Kys.mx x)).length<=3:=fun x hx=>by
  have h1:0<=Kys.mx x/\Kys.mx x<1000:=by
   unfold Kys.mx
   split<;>omega
  have:=dg_len 2 (Kys.mx x).toNat (by omega)
  rwa [show ((Kys.mx x).toNat:Int)=Kys.mx x by omega] at this
 have h1:=hm a ha
 have h2:=hm b hb
 simp only [Kys.curF,Kys.ctlF,Kys.numsF,Kys.tailF,List.length_append,List.length_cons,List.length_nil]
 omega
theorem gw_report (h:Ok T) (l:List Int):Gw T (report T l) 0 0 20 0:=by
 unfold report
 split
 ·exact Bl7 h _ (by decide)
 split
 ·refine Bl7 h _ (cur_len ?_ ?_)
  ·have h1:=h.row
   have h2:=h.fit.len5
   have h3:0<=counted T 1:=by
    unfold counted
    split<;>omega
   omega
  ·have h1:=h.col
   have h2:=h.fit.c5
   omega
 ·exact (Gw.refl h).mono (J5 _) (J5 _) (by omega) (J5 _)
theorem gw_device (h:Ok T) (l:List Int):Gw T (device T l) 0 0 20 0:=by
 unfold device
 split
 ·exact Bl7 h _ (by decide)
 ·exact (Gw.refl h).mono (J5 _) (J5 _) (by omega) (J5 _)
theorem Ae0 {c:Prop} [Decidable c] {A B:Ter} (ha:c->Gw T A j n r p) (hb:¬ c->Gw T B j n r p):Gw T (if c then A else B) j n r p:=by
 split
 ·next hc=>exact ha hc
 ·next hc=>exact hb hc
theorem gw_plain (h:Ok T) (f:Int) (l:List Int):Gw T (plain T f l) 1 1 20 0:=by
 unfold plain
 have mv:∀ y x,Gw T (move T y x) 1 1 20 0:=fun y x=>(Am4 h y x).mono (J5 _) (by omega) (by omega) (J5 _)
 have m1:∀ {T'},Gw T T' 1 0 0 0->Gw T T' 1 1 20 0:=fun g=>g.mono (J5 _) (by omega) (by omega) (J5 _)
 have m2:∀ {T'},Gw T T' 1 1 0 0->Gw T T' 1 1 20 0:=fun g=>g.mono (J5 _) (J5 _) (by omega) (J5 _)
 have m0:∀ {T'},Gw T T' 0 0 0 0->Gw T T' 1 1 20 0:=fun g=>g.mono (by omega) (by omega) (by omega) (J5 _)
 have mr:∀ {T'},Gw T T' 0 0 20 0->Gw T T' 1 1 20 0:=fun g=>g.mono (by omega) (by omega) (J5 _) (J5 _)
 refine Ae0 (fun _=>mv _ _) (fun _=>?_)
 refine Ae0 (fun _=>mv _ _) (fun _=>?_)
 refine Ae0 (fun _=>mv _ _) (fun _=>?_)
 refine Ae0 (fun _=>mv _ _) (fun _=>?_)
 refine Ae0 (fun _=>mv _ _) (fun _=>?_)
 refine Ae0 (fun _=>mv _ _) (fun _=>?_)
 refine Ae0 (fun _=>mv _ _) (fun _=>?_)
 refine Ae0 (fun _=>mv _ _) (fun _=>?_)
 refine Ae0 (fun _=>mv _ _) (fun _=>?_)
 refine Ae0 (fun _=>mv _ _) (fun _=>?_)
 refine Ae0 (fun _=>mv _ _) (fun _=>?_)
 refine Ae0 (fun _=>m1 (gw_eraseScr h _)) (fun _=>?_)
 refine Ae0 (fun _=>m1 (Ah3 h _)) (fun _=>?_)
 refine Ae0 (fun _=>m1 (Aq9 h _ _)) (fun _=>?_)
 refine Ae0 (fun _=>m1 (gw_insC h _)) (fun _=>?_)
 refine Ae0 (fun _=>m1 (gw_delC h _)) (fun _=>?_)
 refine Ae0 (fun _=>m2 (gw_insL h _)) (fun _=>?_)
 refine Ae0 (fun _=>m2 (gw_delL h _)) (fun _=>?_)
 refine Ae0 (fun _=>m2 (gw_scrU h _)) (fun _=>?_)
 refine Ae0 (fun _=>m2 (gw_scrD h _)) (fun _=>?_)
 refine Ae0 (fun _=>m1 (gw_marg h _)) (fun _=>?_)
 refine Ae0 (fun _=>m0 (gw_tabs h _)) (fun _=>?_)
 refine Ae0 (fun _=>m0 (Bp8 h _)) (fun _=>?_)
 refine Ae0 (fun _=>m0 (Bx5 h _ _)) (fun _=>?_)
 refine Ae0 (fun _=>m0 (Bx5 h _ _)) (fun _=>?_)
 refine Ae0 (fun _=>mr (gw_report h _)) (fun _=>?_)
 refine Ae0 (fun _=>mr (gw_device h _)) (fun _=>?_)
 exact m0 (Gw.refl h)
theorem Ao0 (h:Ok T) (on:Bool):Gw T (setOther T on) 1 1 0 0:=by
 have hO:=h.setOther on
 unfold setOther at hO |-
 split
 ·exact (Gw.refl h).mono (by omega) (by omega) (J5 _) (J5 _)
 ·next hne =>
  have hrows:=h.rows
  have hcols:=h.cols
  cases on
  ·have h1:Gw T (showMain (Emu.setAlt T false)) 0 0 0 0:=An9 h.showMain hrows hcols rfl rfl rfl rfl
   exact (h1.trans (Am4 h1.ok _ _)).mono (J5 _) (by omega) (J5 _) (J5 _)
  ·have h1:Gw T (showOther (Emu.setAlt T true)) 0 1 0 0:=by
    refine ⟨h.showOther,?_,hcols,⟨Nat.le_add_right _ _,?_⟩,J5 _,J5 _,J5 _⟩
    ·show (Ad4 _ _ _ _).length=_
     rw [Af8]
     exact hrows
    ·show T.nx+T.main.L.length<=_
     omega
   exact (h1.trans (Am4 h1.ok _ _)).mono (J5 _) (J5 _) (J5 _) (J5 _)
theorem gw_priv1 (h:Ok T) (x:Int) (on:Bool):Gw T (Ax0 T x on) 2 1 0 0:=by
 unfold Ax0
 split
 ·have h1:Gw T (setOrg T on) 0 0 0 0:=An9 (h.setOrg on) rfl rfl rfl rfl rfl rfl
  exact (h1.trans (Am4 h1.ok _ _)).mono (by omega) (by omega) (J5 _) (J5 _)
 split
 ·exact (Ao0 h on).mono (by omega) (J5 _) (J5 _) (J5 _)
 split
 ·unfold setSaved
  split
  ·exact (Bu0 h).mono (by omega) (by omega) (J5 _) (J5 _)
  ·exact (Ay9 h).mono (by omega) (by omega) (J5 _) (J5 _)
 split
 ·unfold setOtherSaved
  split
  ·exact (Gw.refl h).mono (by omega) (by omega) (J5 _) (J5 _)
  split
  ·exact ((Bu0 h).trans (Ao0 h.save true)).mono (by omega) (by omega) (J5 _) (J5 _)
  ·exact ((Ao0 h false).trans (Ay9 (Ao0 h false).ok)).mono (by omega) (by omega) (J5 _) (J5 _)
 ·next h1 h2 h3 h4 =>
  have hO:=(Cn0 h x on).ok
  unfold Ax0 at hO
  rw [if_neg h1,if_neg h2,if_neg h3,if_neg h4] at hO
  exact (An9 (T:=T) hO rfl rfl rfl rfl rfl rfl).mono (by omega) (by omega) (J5 _) (J5 _)
theorem Be5 (h:Ok T) (l:List Int) (on:Bool):Gw T (Ac1 T l on) (2*l.length) l.length 0 0:=by
 unfold Ac1
 induction l generalizing T with
 |nil=>exact Gw.refl h
 |cons a l ih =>
  have h1:=gw_priv1 h (Al4 a) on
  exact (h1.trans (ih h1.ok)).mono (by simp;omega) (by simp;omega) (J5 _) (J5 _)
theorem Cq6 (h:Ok T) (x:AcT):Gw T (doT T x) (2*x.params.length+2) (x.params.length+1) 20 1:=by
 unfold doT
 split
 ·exact (gw_print h _).mono (by omega) (by omega) (by omega) (J5 _)
 split
 ·exact (gw_control h _).mono (by omega) (by omega) (by omega) (by omega)
 split
 ·exact (gw_escape h _).mono (by omega) (by omega) (by omega) (by omega)
 split
 ·unfold sequence
  split
  ·split
   ·exact (gw_plain h _ _).mono (by omega) (by omega) (by omega) (by omega)
   split
   ·split
    ·exact (Be5 h _ _).mono (by omega) (by omega) (by omega) (by omega)
    split
    ·exact (Be5 h _ _).mono (by omega) (by omega) (by omega) (by omega)
    ·exact (Gw.refl h).mono (by omega) (by omega) (by omega) (by omega)
   ·exact (Gw.refl h).mono (by omega) (by omega) (by omega) (by omega)
  ·exact (Gw.refl h).mono (by omega) (by omega) (by omega) (by omega)
 ·exact (Gw.refl h).mono (by omega) (by omega) (by omega) (by omega)
end
end Go.Proofs.YtbafmljidapmgaaGreatDoor.Emu
namespace Go.Proofs.YtbafmljidapmgaaGreatDoor.Hos
open Go Com Emu
structure Hst where
 dec:Utf.Dec
 ps:Prs.PS
 T:Ter
 sent:List Int
def toX (A:Prs.Act):AcT:=⟨A.kind,A.R,A.priv,A.params,A.inter,A.final,A.text⟩
def Bc5 (T:Ter) (As:List Prs.Act):Ter:=As.foldl (fun T A=>doT T (toX A)) T
structure Tri where
 dec:Utf.Dec
 ps:Prs.PS
 T:Ter
def Tri.rune (X:Tri) (r:Int):Tri:=⟨X.dec,(Prs.feedF X.ps r).2,Bc5 X.T (Prs.feedF X.ps r).1⟩
def Tri.runes (X:Tri) (l:List Int):Tri:=l.foldl Tri.rune X
def Tri.byte (X:Tri) (x:Int):Tri:=Tri.runes ⟨(Utf.takeF X.dec x).1,X.ps,X.T⟩ (Utf.takeF X.dec x).2
def Tri.hand (X:Tri) (b:List Int):Tri:=b.foldl Tri.byte X
def Hst.tri (H:Hst):Tri:=⟨H.dec,H.ps,H.T⟩
def Hst.bytes (H:Hst) (b:List Int):Hst :=
 ⟨(H.tri.hand b).dec,(H.tri.hand b).ps,{ { (H.tri.hand b).T with rp:=[] } with jr:=[] },H.sent++(H.tri.hand b).T.rp⟩
def Hst.told (H:Hst) (b:List Int):List Ev:=(H.tri.hand b).T.jr
theorem acts_snoc (T:Ter) (As:List Prs.Act) (A:Prs.Act):Bc5 T (As++[A])=doT (Bc5 T As) (toX A):=by simp [Bc5]
theorem actsT_take {T:Ter} {As:List Prs.Act} {k:Nat} (hk:k<As.length):Bc5 T (As.take (k+1))=doT (Bc5 T (As.take k)) (toX As[k]):=by
 rw [List.take_succ_eq_append_getElem hk,acts_snoc]
theorem runes_take {X:Tri} {l:List Int} {k:Nat} (hk:k<l.length):X.runes (l.take (k+1))=(X.runes (l.take k)).rune l[k]:=by
 rw [List.take_succ_eq_append_getElem hk]
 unfold Tri.runes
 rw [List.foldl_append]
 rfl
theorem hand_take {X:Tri} {l:List Int} {k:Nat} (hk:k<l.length):X.hand (l.take (k+1))=(X.hand (l.take k)).byte l[k]:=by
 rw [List.take_succ_eq_append_getElem hk]
 unfold Tri.hand
 rw [List.foldl_append]
 rfl
structure Rh (c N J R P:Nat) (T:Ter):Prop where
 ok:Ok T
 len:T.vis.L.length<=24
 cols:T.vis.cols<=c
 nx:T.nx<=N
 jr:T.jr.length<=J
 rp:T.rp.length<=R
 pr:T.prints<=P
section
variable {c N J R P N' J' R' P':Nat} {T:Ter} {A:Prs.Act}
theorem Rh.mono (h:Rh c N J R P T) (h1:N<=N') (h2:J<=J') (h3:R<=R') (h4:P<=P'):Rh c N' J' R' P' T:=by
 obtain ⟨a,b,b2,c,d,e,f⟩:=h
 exact ⟨a,b,b2,by omega,by omega,by omega,by omega⟩
theorem Rh.act (h:Rh c N J R P T) (hA:ActW A):Rh c (N+1000) (J+100) (R+20) (P+1) (doT T (toX A)):=by
 obtain ⟨a,b,b2,c,d,e,f⟩:=h
 have g:=Cq6 a (toX A)
 have gn:=g.nx
 have gl:=g.len
 have hf:(toX A).params.length<=32:=hA.few
 have g5:((toX A).params.length+1)*T.vis.L.length<=33*24:=Nat.mul_le_mul (by omega) b
 have gj:=g.jr
 have gr:=g.rp
 have gp:=g.pr
 have gc:=g.cols
 exact ⟨g.ok,by omega,by omega,by omega,by omega,by omega,by omega⟩
theorem Rh.roomy (h:Rh c N J R P T) (hA:ActW A) (hN:N<=9000000000) (hJ:J<=80000000) (hR:R<=9000000000) (hP:P<=9000000):Emu.Roomy T (toX A):=by
 obtain ⟨a,b,b2,c,d,e,f⟩:=h
 have hf:(toX A).params.length<=32:=hA.few
 have hr:=a.rows
 exact ⟨by omega,by omega,by omega,by omega,by rw [hr];omega⟩
theorem Rh.acts {As:List Prs.Act}:∀ {N J R P:Nat} {T:Ter},Rh c N J R P T->(∀ A∈As,ActW A)->Rh c (N+1000*As.length) (J+100*As.length) (R+20*As.length) (P+As.length) (Bc5 T As):=by
 induction As with
 |nil=>exact fun h _=>h.mono (by omega) (by omega) (by omega) (by omega)
 |cons A As ih =>
  intro N J R P T h ht
  have h1:=ih (h.act (ht A (by simp))) (fun o' ho=>ht o' (by simp [ho]))
  exact h1.mono (by simp;omega) (by simp;omega) (by simp;omega) (by simp;omega)
end
structure Tr (c N J R P:Nat) (X:Tri):Prop where
 dec:X.dec.Ok
 ps:PSW X.ps
 rh:Rh c N J R P X.T
section
variable {c N J R P N' J' R' P':Nat} {X:Tri}
theorem Tr.mono (h:Tr c N J R P X) (h1:N<=N') (h2:J<=J') (h3:R<=R') (h4:P<=P'):Tr c N' J' R' P' X:=⟨h.dec,h.ps,h.rh.mono h1 h2 h3 h4⟩
theorem Tr.rune (h:Tr c N J R P X) (r:Int):Tr c (N+2000) (J+200) (R+40) (P+2) (X.rune r):=by
 obtain ⟨g1,g2,g3⟩:=h.ps.feed r
 exact ⟨h.dec,g1,(h.rh.acts g2).mono (by omega) (by omega) (by omega) (by omega)⟩
theorem Tr.runes {l:List Int}:∀ {N J R P:Nat} {X:Tri},Tr c N J R P X->Tr c (N+2000*l.length) (J+200*l.length) (R+40*l.length) (P+2*l.length) (X.runes l):=by
 induction l with
 |nil=>exact fun h=>h.mono (by omega) (by omega) (by omega) (by omega)
 |cons r l ih =>
  intro N J R P X h
  exact (ih (h.rune r)).mono (by simp;omega) (by simp;omega) (by simp;omega) (by simp;omega)
theorem Tr.byte (h:Tr c N J R P X) {x:Int} (hx:Utf.IsByte x):Tr c (N+4000) (J+400) (R+80) (P+4) (X.byte x):=by
 have h1:Tr c N J R P ⟨(Utf.takeF X.dec x).1,X.ps,X.T⟩:=⟨Utf.take_ok h.dec hx,h.ps,h.rh⟩
 have h2:=Utf.take_len X.dec x
 exact (Tr.runes (l:=(Utf.takeF X.dec x).2) h1).mono (by omega) (by omega) (by omega) (by omega)
theorem Tr.hand {b:List Int}:∀ {N J R P:Nat} {X:Tri},Tr c N J R P X->Utf.Bytes b->Tr c (N+4000*b.length) (J+400*b.length) (R+80*b.length) (P+4*b.length) (X.hand b):=by
 induction b with
 |nil=>exact fun h _=>h.mono (by omega) (by omega) (by omega) (by omega)
 |cons x b ih =>
  intro N J R P X h hb
  exact (ih (h.byte (hb x (by simp))) (fun y hy=>hb y (by simp [hy]))).mono (by simp;omega) (by simp;omega) (by simp;omega) (by simp;omega)
end
