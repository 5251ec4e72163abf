/- Part 38 of HostKeys. -/
import Derived.Test.YtecnpoigegiooaaGreatDoorW37
set_option maxHeartbeats 16000000
set_option maxRecDepth 100000
namespace Go.Proofs.YtecnpoigegiooaaGreatDoor.Emu
open Go.Proofs.Tryz
open Go RowKit Com Rw Lns Scn
section
variable {Z Z1:Zn}{w w':World}{t x s d b:Nat}{S:Scr}{T:Ter}{P:Pt}{v:Value}{l:List Int}{pa ia ta:Option Addr}{pn pc im ic tn tc:Nat}{k r pr f:Int}
theorem Bzf(ad:Addr):ad.add 0=ad:=by cases ad;rfl
theorem Bwi(h:TMx Z w t T P)(hl:l≠[])(hra:RA Z w ia l)(hfi:Fits .i32 l)(hff:(Lit.int .i32 f).wf=true):Calls prog 137 #[.pointer (some ⟨t,0,none⟩),.agg #[.int .u8 k,.int .i32 r,.int .i32 pr,.slice pa pn pc,.slice ia l.length ic,.int .i32 f,.slice ta tn tc]] w (A7 Z w t (Ade T l f)):=by
 obtain⟨r0,q,rfl⟩:∃r0 q,l=r0::q:=by
  cases l with
  |nil=>exact absurd rfl hl
  |cons r0 q=>exact⟨r0,q,rfl⟩
 obtain⟨ad,rfl,_,_⟩:=hra 0 r0 rfl
 have hx:∀w1,Below w.heap.size w w1->w1.cell? ad=some (.int .i32 r0):=fun w1 hb=>by
  obtain⟨ad',e,_,hc⟩:=(hra.below hb) 0 r0 rfl
  obtain rfl:ad=ad':=by simpa using e
  rw[Bzf]at hc
  exact hc
 have hr0:(Lit.int .i32 r0).wf=true:=hfi r0 (by simp)
 refine Calls.mono (Bzn h r0 hr0 hff (by simp) hx) fun e w' hd=>?_
 by_cases hq:(r0::q).length=1
 ·rw[if_pos hq]at hd
  obtain rfl:q=[]:=by cases q with|nil=>rfl|cons=>simp at hq
  exact hd
 ·rw[if_neg hq]at hd
  rw[Bzm hq]
  exact hd
theorem Ccd(h:TMx Z w t T P)(him:1<=im):Calls prog 93 #[.pointer (some ⟨t,0,none⟩),.agg #[.int .u8 k,.int .i32 r,.int .i32 pr,.slice pa pn pc,.slice ia im ic,.int .i32 f,.slice ta tn tc]] w (A7 Z w t T):=by
 have hbn:=A3 w (.cells #[.int .u8 k,.int .i32 r,.int .i32 pr,.slice pa pn pc,.slice ia im ic,.int .i32 f,.slice ta tn tc] 151)
 have hbx:=Block.made w 151 #[.int .u8 k,.int .i32 r,.int .i32 pr,.slice pa pn pc,.slice ia im ic,.int .i32 f,.slice ta tn tc]
 have hip:(0:Int)<(im:Int):=by omega
 have hip2:0<im:=him
 have hT:=h.below hbn
 clear h
 go_enter func93,ntmps93
 go_upto_region 1 with(fail)
 generalize w.alloc (.cells #[.int .u8 k,.int .i32 r,.int .i32 pr,.slice pa pn pc,.slice ia im ic,.int .i32 f,.slice ta tn tc] 151)=w0 at hbn hbx hT |-
 have x4:=hbx.cell 4 (v:=.slice ia im ic) rfl
 clear hbx
 go_wp2
 go_end0
 exact⟨⟨_,rfl⟩,hT.tm,I8 hbn⟩
theorem Cac(h:TMx Z w t T P)(hl:l≠[])(hra:RA Z w ia l)(hfi:Fits .i32 l)(hff:(Lit.int .i32 f).wf=true):Calls prog 92 #[.pointer (some ⟨t,0,none⟩),.agg #[.int .u8 k,.int .i32 r,.int .i32 pr,.slice pa pn pc,.slice ia l.length ic,.int .i32 f,.slice ta tn tc]] w (A7 Z w t (Ade T l f)):=by
 have hbn:=A3 w (.cells #[.int .u8 k,.int .i32 r,.int .i32 pr,.slice pa pn pc,.slice ia l.length ic,.int .i32 f,.slice ta tn tc] 151)
 have hbx:=Block.made w 151 #[.int .u8 k,.int .i32 r,.int .i32 pr,.slice pa pn pc,.slice ia l.length ic,.int .i32 f,.slice ta tn tc]
 have him:1<=l.length:=List.length_pos_iff.2 hl
 have hip:(0:Int)<(l.length:Int):=by omega
 have hch:=J0 (Bwi (k:=k) (r:=r) (pr:=pr) (pa:=pa) (pn:=pn) (pc:=pc) (ic:=ic) (ta:=ta) (tn:=tn) (tc:=tc) (h.below hbn) hl (hra.below hbn) hfi hff)
 generalize Ade T l f=T2 at hch |-
 generalize l.length=im at *
 clear h hra hfi hl
 go_enter func92,ntmps92
 go_upto_region 1 with(fail)
 generalize w.alloc (.cells #[.int .u8 k,.int .i32 r,.int .i32 pr,.slice pa pn pc,.slice ia im ic,.int .i32 f,.slice ta tn tc] 151)=w0 at hbn hbx hch |-
 have x0:=hbx.cell 0 (v:=.int .u8 k) rfl
 have x1:=hbx.cell 1 (v:=.int .i32 r) rfl
 have x2:=hbx.cell 2 (v:=.int .i32 pr) rfl
 have x3:=hbx.cell 3 (v:=.slice pa pn pc) rfl
 have x4:=hbx.cell 4 (v:=.slice ia im ic) rfl
 have x5:=hbx.cell 5 (v:=.int .i32 f) rfl
 have x6:=hbx.cell 6 (v:=.slice ta tn tc) rfl
 clear hbx
 go_wp2_with (first
  |(go_at_call 137;(with_reducible refine(hch.out).mono ?_);rintro e w3 ⟨⟨v3,rfl⟩,h3,hf3⟩))
 go_end0
 exact⟨⟨_,rfl⟩,h3,(I8 hbn).trans hf3⟩
theorem look_nil(n:Int)(hwf:(Lit.int .i32 n).wf=true)(w:World):(Instr.lookup 209 (.map none) (.int .i32 n) false).run prog w=.ok .nilFunc w:=by
 have hz:(zeroValue 211).run prog w=.ok .nilFunc w:=Aif.zero w
 obtain⟨k,hk⟩:=Aif.key n hwf
 rcases Aif.law.find w hk ([]:List MapEntry) (by simp)with⟨h1,-⟩|⟨j,e0,h1,h2,-⟩
 ·simp[Instr.lookup,run_underlying Aif.und,Aif.law.check w _ hk,h1,hz,Result.andThen]
 ·simp at h2
theorem Cce(h:TMx Z w t T P)(h0:pr≠0)(h1:pr≠63)(hff:(Lit.int .i32 f).wf=true):Calls prog 93 #[.pointer (some ⟨t,0,none⟩),.agg #[.int .u8 k,.int .i32 r,.int .i32 pr,.slice pa pn pc,.slice ia 0 ic,.int .i32 f,.slice ta tn tc]] w (A7 Z w t T):=by
 have hbn:=A3 w (.cells #[.int .u8 k,.int .i32 r,.int .i32 pr,.slice pa pn pc,.slice ia 0 ic,.int .i32 f,.slice ta tn tc] 151)
 have hbx:=Block.made w 151 #[.int .u8 k,.int .i32 r,.int .i32 pr,.slice pa pn pc,.slice ia 0 ic,.int .i32 f,.slice ta tn tc]
 have hd0:(pr==0)=false:=by simpa using h0
 have he0:decide (pr=0)=false:=decide_eq_false h0
 have hd1:(pr==63)=false:=by simpa using h1
 have he1:decide (pr=63)=false:=decide_eq_false h1
 have Anu:=Bax
 have hT:=h.below hbn
 clear h
 go_enter func93,ntmps93
 go_upto_region 1 with(fail)
 generalize w.alloc (.cells #[.int .u8 k,.int .i32 r,.int .i32 pr,.slice pa pn pc,.slice ia 0 ic,.int .i32 f,.slice ta tn tc] 151)=w0 at hbn hbx hT |-
 have x4:=hbx.cell 4 (v:=.slice ia 0 ic) rfl
 have x2:=hbx.cell 2 (v:=.int .i32 pr) rfl
 have x5:=hbx.cell 5 (v:=.int .i32 f) rfl
 have hlk:=look_nil f hff w0
 clear hbx
 go_wp2
 go_end0
 exact⟨⟨_,rfl⟩,hT.tm,I8 hbn⟩
end
section
variable {Z Z1:Zn}{w w':World}{t s d b:Nat}{x:AcT}{S:Scr}{T:Ter}{P:Pt}{v:Value}{l:List Int}{pa ia ta:Option Addr}{pn pc im ic tn tc:Nat}{k r pr f:Int}
theorem Cld(f:FuncId)(w:World):(binOp .neq 183 (.func (.func f) #[] #[]) .nilFunc).run prog w=.ok (.bool true) w:=by kernel_rfl
theorem Cgg(w:World):(binOp .neq 183 .nilFunc .nilFunc).run prog w=.ok (.bool false) w:=by kernel_rfl
def Bek:List Ent:=[(1,.func (.func 90) #[] #[]),(2,.func (.func 91) #[] #[]),(3,.func (.func 92) #[] #[]),(4,.func (.func 93) #[] #[])]
theorem Caz{n:Int}(h0:n≠1)(h1:n≠2)(h2:n≠3)(h3:n≠4):H8 Bek n=none:=by
 simp[Bek,H8,h0,h1,h2,h3]
structure Roomy(T:Ter)(x:AcT):Prop where
 jr:T.jr.length<=88000000
 pr:T.C5<=9990000000
 rp:T.rp.length<=10000000000
 par:x.params.length<=100
 nx:T.nx+100*T.main.L.length<=9900000000
structure Wf(x:AcT):Prop where
 kind:(Lit.int .u8 x.kind).wf=true
 r:(Lit.int .i32 x.r).wf=true
 fin:(Lit.int .i32 x.fin).wf=true
 inter:Fits .i32 x.inter
theorem Ava(h:Roomy T x):T.nx<=9900000000:=by have:=h.nx;omega
theorem Cbx(h:Roomy T x):T.nx+x.params.length*T.main.L.length<=9900000000:=by
 have:=h.nx
 have:=Nat.mul_le_mul_right T.main.L.length h.par
 omega
theorem Cjo(h:TM Z w t T)(ok:Ok T)(hw:Wf x)(hR:Roomy T x)(hra:RA Z w ia x.inter):Calls prog 92 #[.pointer (some ⟨t,0,none⟩),.agg #[.int .u8 x.kind,.int .i32 x.r,.int .i32 x.L7,.slice pa pn pc,.slice ia x.inter.length ic,.int .i32 x.fin,.slice ta tn tc]] w (A7 Z w t (escape T x)):=by
 have hj:=hR.jr
 by_cases hi:x.inter=[]
 ·have e:escape T x=W0 T x.fin:=by unfold escape;rw[if_pos hi];rfl
  rw[e,hi]
  exact Cad h ok (by omega) (Ava hR) hw.fin
 ·have e:escape T x=Ade T x.inter x.fin:=by unfold escape;rw[if_neg hi];rfl
  rw[e]
  obtain⟨P,h⟩:=h
  exact Cac h hi hra hw.inter hw.fin
theorem Cmc(h:TM Z w t T)(ok:Ok T)(hw:Wf x)(hR:Roomy T x)(hp:NA Z w (.slice pa pn pc) x.params):Calls prog 93 #[.pointer (some ⟨t,0,none⟩),.agg #[.int .u8 x.kind,.int .i32 x.r,.int .i32 x.L7,.slice pa pn pc,.slice ia x.inter.length ic,.int .i32 x.fin,.slice ta tn tc]] w (A7 Z w t (sequence T x)):=by
 have hj:=hR.jr
 have hpar:=hR.par
 unfold sequence
 by_cases hi:x.inter=[]
 ·rw[if_pos hi,hi]
  by_cases h0:x.L7=0
  ·rw[if_pos h0,h0]
   exact Ccf h ok (by omega) (Ava hR) hR.rp hp hw.fin
  ·rw[if_neg h0]
   by_cases h1:x.L7=63
   ·rw[if_pos h1,h1]
    exact Chq h ok (by omega) (Cbx hR) hp hw.fin
   ·rw[if_neg h1]
    obtain⟨P,h⟩:=h
    exact Cce h h0 h1 hw.fin
 ·rw[if_neg hi]
  obtain⟨P,h⟩:=h
  exact Ccd h (List.length_pos_iff.2 hi)
theorem Cof(h:TM Z w t T)(ok:Ok T)(hw:Wf x)(hR:Roomy T x)(hp:NA Z w (.slice pa pn pc) x.params)(hra:RA Z w ia x.inter):Calls prog 60 #[.pointer (some ⟨t,0,none⟩),.agg #[.int .u8 x.kind,.int .i32 x.r,.int .i32 x.L7,.slice pa pn pc,.slice ia x.inter.length ic,.int .i32 x.fin,.slice ta tn tc]] w (A7 Z w t (doT T x)):=by
 obtain⟨T2,hT2⟩:∃T2,T2=doT T x:=⟨_,rfl⟩
 rw[<- hT2]
 replace hT2:=J0 hT2
 have hbn:=A3 w (.cells #[.int .u8 x.kind,.int .i32 x.r,.int .i32 x.L7,.slice pa pn pc,.slice ia x.inter.length ic,.int .i32 x.fin,.slice ta tn tc] 151)
 have hbx:=Block.made w 151 #[.int .u8 x.kind,.int .i32 x.r,.int .i32 x.L7,.slice pa pn pc,.slice ia x.inter.length ic,.int .i32 x.fin,.slice ta tn tc]
 have hmm:=@run_makeMap prog
 have Asp:=Cld
 have Anu:=Cgg
 go_enter func60,ntmps60
 go_upto_region 1 with(fail)
 generalize w.alloc (.cells #[.int .u8 x.kind,.int .i32 x.r,.int .i32 x.L7,.slice pa pn pc,.slice ia x.inter.length ic,.int .i32 x.fin,.slice ta tn tc] 151)=w0 at hbn hbx |-
 have hmp:=MpN.made w0 .u8
 have hbm:=A3 w0 (.map #[] 0)
 have hsz:(w0.alloc (.map #[] 0)).heap.size=w0.heap.size+1:=by simp
 go_upto_region 2 with(refine Ajm Bma hmp ?_ ?_ ?_;rfl;decide;clear hmp;intro wn hmp hon;replace hbm:=hbm.trans (hon.below hbm.size (by simp));clear hon)
 change MpN _ _ _ Bek at hmp
 clear hsz
 have hx9:=Block.only hbx (A0.A1 hbm []) (by simp)
 have x0:=hx9.cell 0 (v:=.int .u8 x.kind) rfl
 have x1:=hx9.cell 1 (v:=.int .i32 x.r) rfl
 have x2:=hx9.cell 2 (v:=.int .i32 x.L7) rfl
 have x3:=hx9.cell 3 (v:=.slice pa pn pc) rfl
 have x4:=hx9.cell 4 (v:=.slice ia x.inter.length ic) rfl
 have x5:=hx9.cell 5 (v:=.int .i32 x.fin) rfl
 have x6:=hx9.cell 6 (v:=.slice ta tn tc) rfl
 have F3:=(Akb Bma hmp x.kind hw.kind).1
 have hb:=A2 hbn hbm
 have hT:=h.below hb
 have hf0:Scn.Fr Z TT w wn:=Scn.Fr.A1 hb
 have hp9:=hp.below hb
 have Aov:=hra.below hb
 have hj:=hR.jr
 have hpr:=hR.pr
 clear hmp hbm hbn hbx hmm h hb hx9 hp hra
 by_cases e0:x.kind=1
 ·have hc:=Cbq (k:=x.kind) (r:=x.r) (pr:=x.L7) (pa:=pa) (pn:=pn) (pc:=pc) (ia:=ia) (im:=x.inter.length) (ic:=ic) (f:=x.fin) (ta:=ta) (tn:=tn) (tc:=tc) hT ok (by omega) (by omega) (Ava hR)
  rw[show Anq T x.r=doT T x by simp[doT,e0],<- hT2.out,e0]at hc
  rw[e0]at F3 x0
  have hlk:(Instr.lookup 184 (.map (some w0.heap.size)) (.int .u8 1) false).run prog wn=.ok (.func (.func 90) #[] #[]) wn:=F3
  replace hc:=J0 hc
  generalize x.inter.length=im at *
  generalize x.fin=f at *
  generalize x.r=r at *
  generalize x.L7=pr at *
  clear hT2 hT ok F3 hw hR hp9 Aov hj hpr e0
  go_wp2_with (first
   |(go_at_call 90;(with_reducible refine(hc.out).mono ?_);rintro e w3 ⟨⟨v3,rfl⟩,h3,hf3⟩))
  go_end0
  exact⟨⟨_,rfl⟩,h3,hf0.trans hf3⟩
 by_cases e1:x.kind=2
 ·have hc:=Bwk (k:=x.kind) (r:=x.r) (pr:=x.L7) (pa:=pa) (pn:=pn) (pc:=pc) (ia:=ia) (im:=x.inter.length) (ic:=ic) (f:=x.fin) (ta:=ta) (tn:=tn) (tc:=tc) hT ok (by omega) (Ava hR) hw.r
  rw[show control T x.r=doT T x by simp[doT,e1],<- hT2.out,e1]at hc
  rw[e1]at F3 x0
  have hlk:(Instr.lookup 184 (.map (some w0.heap.size)) (.int .u8 2) false).run prog wn=.ok (.func (.func 91) #[] #[]) wn:=F3
  replace hc:=J0 hc
  generalize x.inter.length=im at *
  generalize x.fin=f at *
  generalize x.r=r at *
  generalize x.L7=pr at *
  clear hT2 hT ok F3 hw hR hp9 Aov hj hpr e1 e0
  go_wp2_with (first
   |(go_at_call 91;(with_reducible refine(hc.out).mono ?_);rintro e w3 ⟨⟨v3,rfl⟩,h3,hf3⟩))
  go_end0
  exact⟨⟨_,rfl⟩,h3,hf0.trans hf3⟩
 by_cases e2:x.kind=3
 ·have hc:=Cjo (pa:=pa) (pn:=pn) (pc:=pc) (ia:=ia) (ic:=ic) (ta:=ta) (tn:=tn) (tc:=tc) hT ok hw hR Aov
  rw[show escape T x=doT T x by simp[doT,e2],<- hT2.out,e2]at hc
  rw[e2]at F3 x0
  have hlk:(Instr.lookup 184 (.map (some w0.heap.size)) (.int .u8 3) false).run prog wn=.ok (.func (.func 92) #[] #[]) wn:=F3
  replace hc:=J0 hc
  generalize x.inter.length=im at *
  generalize x.fin=f at *
  generalize x.r=r at *
  generalize x.L7=pr at *
  clear hT2 hT ok F3 hw hR hp9 Aov hj hpr e2 e0 e1
  go_wp2_with (first
   |(go_at_call 92;(with_reducible refine(hc.out).mono ?_);rintro e w3 ⟨⟨v3,rfl⟩,h3,hf3⟩))
  go_end0
  exact⟨⟨_,rfl⟩,h3,hf0.trans hf3⟩
 by_cases e3:x.kind=4
 ·have hc:=Cmc (pa:=pa) (pn:=pn) (pc:=pc) (ia:=ia) (ic:=ic) (ta:=ta) (tn:=tn) (tc:=tc) hT ok hw hR hp9
  rw[show sequence T x=doT T x by simp[doT,e3],<- hT2.out,e3]at hc
  rw[e3]at F3 x0
  have hlk:(Instr.lookup 184 (.map (some w0.heap.size)) (.int .u8 4) false).run prog wn=.ok (.func (.func 93) #[] #[]) wn:=F3
  replace hc:=J0 hc
  generalize x.inter.length=im at *
  generalize x.fin=f at *
  generalize x.r=r at *
  generalize x.L7=pr at *
  clear hT2 hT ok F3 hw hR hp9 Aov hj hpr e3 e0 e1 e2
  go_wp2_with (first
   |(go_at_call 93;(with_reducible refine(hc.out).mono ?_);rintro e w3 ⟨⟨v3,rfl⟩,h3,hf3⟩))
  go_end0
  exact⟨⟨_,rfl⟩,h3,hf0.trans hf3⟩
 have he:T2=T:=by rw[hT2.out];simp[doT,e0,e1,e2,e3]
 subst he
 have hlk:(Instr.lookup 184 (.map (some w0.heap.size)) (.int .u8 x.kind) false).run prog wn=.ok .nilFunc wn:=by
  rw[F3,Caz e0 e1 e2 e3]
  rfl
 clear hT2 ok F3 hw hR hp9 Aov hj hpr e0 e1 e2 e3
 generalize x.inter.length=im at *
 generalize x.kind=k at *
 go_wp2
 go_end0
 exact⟨⟨_,rfl⟩,hT,hf0⟩
end
end Go.Proofs.YtecnpoigegiooaaGreatDoor.Emu
namespace Go.Proofs.YtecnpoigegiooaaGreatDoor.Emu
open Go.Proofs.Tryz
open Go Rw Scn
structure Gw(T T':Ter)(j n r p:Nat):Prop where
 ok:Ok T'
 len:T'.vis.L.length=T.vis.L.length
 cols:T'.vis.cols=T.vis.cols
 nx:T.nx<=T'.nx/\T'.nx<=T.nx+n*T.vis.L.length
 jr:T'.jr.length<=T.jr.length+j
 rp:T'.rp.length<=T.rp.length+r
 pr:T'.C5<=T.C5+p
section
variable {T T' T1:Ter}{j n r p j' n' r' p':Nat}
theorem Gw.refl(h:Ok T):Gw T T 0 0 0 0:=⟨h,rfl,rfl,⟨J5 _,by omega⟩,J5 _,J5 _,J5 _⟩
theorem Gw.trans(h:Gw T T1 j n r p)(g:Gw T1 T' j' n' r' p'):Gw T T' (j+j') (n+n') (r+r') (p+p'):=by
 have h1:=h.nx
 have g1:=g.nx
 rw[h.len]at g1
 have h2:=h.jr;have g2:=g.jr;have h3:=h.rp;have g3:=g.rp;have h4:=h.pr;have g4:=g.pr
 exact⟨g.ok,g.len.trans h.len,g.cols.trans h.cols,⟨by omega,by rw[Nat.add_mul];omega⟩,by omega,by omega,by omega⟩
theorem Gw.mono(h:Gw T T' j n r p)(hj:j<=j')(hn:n<=n')(hr:r<=r')(hp:p<=p'):Gw T T' j' n' r' p':=by
 have h1:=h.nx
 have h5:=Nat.mul_le_mul_right T.vis.L.length hn
 have h2:=h.jr;have h3:=h.rp;have h4:=h.pr
 exact⟨h.ok,h.len,h.cols,⟨h1.1,by omega⟩,by omega,by omega,by omega⟩
theorem Aqi(h:Ok T)(e:Ev):Gw T (tell T e) 1 0 0 0:=⟨h.tell e,rfl,rfl,⟨J5 _,Nat.le_add_right _ _⟩,by show(T.jr++[e]).length<=_;simp,J5 _,J5 _⟩
theorem Apq(h:Ok T)(y x:Int):Gw T (place T y x) 0 0 0 0:=⟨h.place y x,rfl,rfl,⟨J5 _,Nat.le_add_right _ _⟩,J5 _,J5 _,J5 _⟩
theorem Afy(h:Ok T)(y x:Int):Gw T (move T y x) 1 0 0 0:=((Apq h y x).trans (Aqi (h.place y x) _)).mono (J5 _) (J5 _) (J5 _) (J5 _)
theorem Akw(h:Ok T):Gw T (U7 T) 1 0 0 0:=Aqi h _
theorem Awb(h:Ok T){x:Nat}(hx:x<T.vis.cols):Gw T (F8 T x) 0 0 0 0:=⟨h.F8 hx,rfl,rfl,⟨J5 _,Nat.le_add_right _ _⟩,J5 _,J5 _,J5 _⟩
theorem Aqv{S:Scr}(hO:Ok (T.C2 S))(hm:S.most=T.most)(hk:S.kp=T.other.isNone)(hl:S.L.length=T.vis.L.length)(hc:S.cols=T.vis.cols){n:Nat}(hn:T.nx<=S.nx/\S.nx<=T.nx+n*T.vis.L.length):Gw T (T.C2 S) 0 n 0 0:=by
 refine⟨hO,by rw[Bbz hm hk];exact hl,by rw[Bbz hm hk];exact hc,by rw[Cpp];exact hn,by rw[V7];exact J5 _,by rw[Cpq];exact J5 _,by rw[Ams];exact J5 _⟩
theorem Bda(h:Ok T){frm:Nat}(hf:frm<=T.vis.bot)(k:Int)(a:At)(b:Bool):Gw T (T.C2 (upS T.vis frm k a b)) 0 1 0 0:=by
 refine Aqv (h.up hf k a b) rfl rfl (Bnj h.fit hf k a b) rfl ⟨Nat.le_add_right _ _,?_⟩
 have h1:=Aje k (T.vis.bot+1-frm)
 have h2:=h.fit.bot
 show T.nx+A9 k (T.vis.bot+1-frm)<=_
 omega
theorem Bbi(h:Ok T){tp:Nat}(hf:tp<=T.vis.bot)(k:Int)(a:At):Gw T (T.C2 (L3 T.vis tp k a)) 0 1 0 0:=by
 refine Aqv (h.down hf k a) rfl rfl (Bhp h.fit hf k a) rfl ⟨Nat.le_add_right _ _,?_⟩
 have h1:=Aje k (T.vis.bot+1-tp)
 have h2:=h.fit.bot
 show T.nx+A9 k (T.vis.bot+1-tp)<=_
 omega
theorem Aqh(h:Ok T){l:List Cel}(hl:l.length=(line T).length):Gw T (C1 T l) 0 0 0 0 :=
 Aqv (h.C1 hl) rfl rfl (Bad _ _ _) rfl ⟨J5 _,by show T.nx<=_;omega⟩
theorem Avp(h:Ok T):Gw T (feed T) 0 1 0 0:=by
 unfold feed
 split
 ·exact((Bda h h.fit.top 1 T.p.a _).trans (Apq (h.upT _ _) _ _)).mono (J5 _) (J5 _) (J5 _) (J5 _)
 ·exact(Apq h _ _).mono (J5 _) (by omega) (J5 _) (J5 _)
theorem Aym(h:Ok T)(b:Bool):Gw T (Acn T b) 1 0 0 0:=Aqi h _
theorem Awc(h:Ok T)(w:Nat):Gw T (M5 T w) 1 1 0 0:=by
 unfold M5
 split
 ·have h1:=h.F8 h.fit.c1
  exact(((Awb h h.fit.c1).trans (Avp h1)).trans (Aym h1.feed true)).mono (J5 _) (J5 _) (J5 _) (J5 _)
 ·split
  ·exact(Awb h (by have:=h.col;omega)).mono (by omega) (by omega) (J5 _) (J5 _)
  ·exact(Gw.refl h).mono (by omega) (by omega) (J5 _) (J5 _)
theorem Bln(h:Ok T)(e:Ev)(x:Int):Gw T (I1 T e x) 1 0 0 1 :=
 ⟨⟨h.fit,h.U6,h.rows,h.cols,h.row,h.col,h.sv,h.svm,h.tn,h.alt⟩,rfl,rfl,⟨J5 _,Nat.le_add_right _ _⟩,by show(T.jr++[_]).length<=_;simp,J5 _,J5 _⟩
theorem Col(h:Gw T T1 j n r p)(pd:Bool):Gw T { T1 with c:={ T1.c with F6:=pd } } j n r p :=
 ⟨⟨h.ok.fit,h.ok.U6,h.ok.rows,h.ok.cols,h.ok.row,h.ok.col,h.ok.sv,h.ok.svm,h.ok.tn,h.ok.alt⟩,h.len,h.cols,h.nx,h.jr,h.rp,h.pr⟩
theorem Ckk(h:Ok T)(x:Int):Gw T (Alp T x) 1 0 0 1:=by
 unfold Alp
 split
 ·have h1:=fun c=>Aqh h (Rw.Auy (line T) c x)
  exact((h1 _).trans (Bln (h1 _).ok _ x)).mono (J5 _) (J5 _) (J5 _) (J5 _)
 ·exact(Gw.refl h).mono (by omega) (J5 _) (J5 _) (by omega)
theorem Blm(h:Ok T)(x:Int)(w:Nat):Gw T (Z7 T x w) 1 0 0 1:=by
 have h1:=Aqh h (Bto T x w)
 have h2:=h1.trans (Bln h1.ok (M7 T w) x)
 have h3:=h2.trans (Apq h2.ok (I1 (C1 T (Aa0 T x w)) (M7 T w) x).c.row (T.c.col+w:Nat))
 exact Col (h3.mono (J5 _) (J5 _) (J5 _) (J5 _)) _
theorem Cfc(h:Ok T)(x:Int):Gw T (Anq T x) 2 1 0 1:=by
 unfold Anq
 generalize Cht.H5 (if T.p.wh then T.p.g1 else T.p.g0) x=c
 simp only
 split
 ·exact(Ckk h _).mono (by omega) (by omega) (J5 _) (J5 _)
 ·split
  ·exact((Awc h _).trans (Blm (Awc h _).ok _ _)).mono (J5 _) (J5 _) (J5 _) (J5 _)
  ·exact((Awc h _).trans (Blm (Awc h _).ok _ _)).mono (J5 _) (J5 _) (J5 _) (J5 _)
theorem Ahl(h':Ok T')(hv:T'.vis.L.length=T.vis.L.length)(hc:T'.vis.cols=T.vis.cols)(hn:T'.nx=T.nx)(hj:T'.jr=T.jr)(hr:T'.rp=T.rp)(hp:T'.C5=T.C5):Gw T T' 0 0 0 0 :=
 ⟨h',hv,hc,by rw[hn];exact⟨J5 _,Nat.le_add_right _ _⟩,by rw[hj];exact J5 _,by rw[hr];exact J5 _,by rw[hp];exact J5 _⟩
theorem Ok.pen(h:Ok T)(q:Pen):Ok { T with p:=q }:=⟨h.fit,h.U6,h.rows,h.cols,h.row,h.col,h.sv,h.svm,h.tn,h.alt⟩
theorem Ok.Cvj(h:Ok T)(f:Nat->Bool):Ok { T with tf:=f }:=⟨h.fit,h.U6,h.rows,h.cols,h.row,h.col,h.sv,h.svm,h.tn,h.alt⟩
theorem Aqu(h:Ok T)(q:Pen):Gw T { T with p:=q } 0 0 0 0:=Ahl (h.pen q) rfl rfl rfl rfl rfl rfl
theorem Avq(h:Ok T)(f:Nat->Bool):Gw T { T with tf:=f } 0 0 0 0:=Ahl (h.Cvj f) rfl rfl rfl rfl rfl rfl
theorem Aze(h:Ok T):Gw T (Aho T) 1 1 0 0:=((Avp h).trans (Akw h.feed)).mono (J5 _) (J5 _) (J5 _) (J5 _)
theorem Bfq(h:Ok T):Gw T (Aji T) 1 1 0 0:=((Awb h h.fit.c1).trans (Aze (h.F8 h.fit.c1))).mono (J5 _) (J5 _) (J5 _) (J5 _)
theorem Bjk(h:Ok T):Gw T (Aii T) 1 1 0 0:=by
 unfold Aii
 split
 ·have h1:=Bbi h h.fit.top 1 T.p.a
  exact(h1.trans (Afy h1.ok _ _)).mono (J5 _) (J5 _) (J5 _) (J5 _)
 ·exact(Afy h _ _).mono (J5 _) (by omega) (J5 _) (J5 _)
theorem Bxr(h:Ok T):Gw T (Ajo T) 1 1 0 0:=by
 unfold Ajo
 split
 ·have h1:=h.F8 h.fit.c1
  exact(((Awb h h.fit.c1).trans (Avp h1)).trans (Aym h1.feed false)).mono (J5 _) (J5 _) (J5 _) (J5 _)
 ·exact((Avp h).trans (Aym h.feed false)).mono (J5 _) (J5 _) (J5 _) (J5 _)
theorem Bfs(h:Ok T)(y x:Int):Gw T (Apd (place T y x)) 1 0 0 0:=((Apq h y x).trans (Aqi (h.place y x) _)).mono (J5 _) (J5 _) (J5 _) (J5 _)
theorem Bxq(h:Ok T)(x:Int):Gw T (control T x) 1 1 0 0:=by
 unfold control
 split
 ·exact(Afy h _ _).mono (J5 _) (by omega) (J5 _) (J5 _)
 split
 ·exact(Bfs h _ _).mono (J5 _) (by omega) (J5 _) (J5 _)
 split
 ·exact Bxr h
 split
 ·exact(Bfs h _ _).mono (J5 _) (by omega) (J5 _) (J5 _)
 split
 ·exact(Aqu h _).mono (by omega) (by omega) (J5 _) (J5 _)
 split
 ·exact(Aqu h _).mono (by omega) (by omega) (J5 _) (J5 _)
 split
 ·exact Aze h
 split
 ·exact Bfq h
 split
 ·exact(Avq h _).mono (by omega) (by omega) (J5 _) (J5 _)
 split
 ·exact Bjk h
 ·exact(Gw.refl h).mono (by omega) (by omega) (J5 _) (J5 _)
theorem Bbj(h:Ok T):Gw T (save T) 0 0 0 0:=by
 refine Ahl h.save ?_ ?_ ?_ ?_ ?_ ?_
 all_goals
  unfold save Ter.Acz
  rcases ho:T.other with _|o<;>simp[Ter.vis,Ter.sh,Sh.scr,ho]
theorem Azd(h:Ok T):Gw T (restore T) 1 0 0 0:=((Ahl (T:=T) h.Z8 rfl rfl rfl rfl rfl rfl).trans (Akw h.Z8)).mono (J5 _) (J5 _) (J5 _) (J5 _)
theorem Azp(T:Ter)(rows cols:Nat):(Y6 T rows cols).vis.L.length=rows:=Agy _ _ _ _
theorem Cfe(h:Ok T):Gw T (reset T) 1 1 0 0:=by
 have hO:Ok (Y6 T T.vis.L.length T.vis.cols):=Ok.begin (show 1<=T.nx from h.fit.pos) h.fit.len h.fit.G8 h.fit.c1 h.fit.c5
 have h1:Gw T (Y6 T T.vis.L.length T.vis.cols) 0 1 0 0:=⟨hO,Azp _ _ _,rfl,⟨Nat.le_add_right _ _,by show T.nx+_<=_;omega⟩,J5 _,J5 _,J5 _⟩
 exact(h1.trans (Aqi hO _)).mono (J5 _) (J5 _) (J5 _) (J5 _)
theorem Cam(h:Ok T)(x:AcT):Gw T (choose T x) 0 0 0 0:=by
 unfold choose
 split
 ·split
  ·unfold Akl
   split
   ·exact Aqu h _
   ·exact Aqu h _
  ·exact Gw.refl h
 ·exact Gw.refl h
theorem Cap(h:Ok T)(x:AcT):Gw T (escape T x) 1 1 0 0:=by
 unfold escape
 split
 ·split
  ·exact(Bbj h).mono (by omega) (by omega) (J5 _) (J5 _)
  split
  ·exact(Azd h).mono (J5 _) (by omega) (J5 _) (J5 _)
  split
  ·exact Aze h
  split
  ·exact Bfq h
  split
  ·exact(Avq h _).mono (by omega) (by omega) (J5 _) (J5 _)
  split
  ·exact Bjk h
  split
  ·exact Cfe h
  ·exact(Gw.refl h).mono (by omega) (by omega) (J5 _) (J5 _)
 ·exact(Cam h x).mono (by omega) (by omega) (J5 _) (J5 _)
theorem Ajp:∀(k n:Nat),n<10^(k+1)->(Kys.dgF (n:Int)).length<=k+1:=by
 intro k
 induction k with
 |zero =>
  intro n hn
  rw[Kys.Afu (by omega)]
  simp
 |succ k ih =>
  intro n hn
  by_cases h:n<10
  ·rw[Kys.Afu h]
   simp
  ·have h2:n/10<10^(k+1):=Nat.div_lt_of_lt_mul (by rw[Nat.pow_succ]at hn;omega)
   rw[Kys.Ann (by omega),List.length_append,List.length_singleton]
   have:=ih _ h2
   omega
theorem Anb(h:Ok T)(f u:Nat):Gw T (I6 T f u) 0 0 0 0 :=
 Aqv (h.era f u) rfl rfl (Agx _ _ _ _ _) rfl ⟨J5 _,by show T.nx<=_;omega⟩
theorem Atv(h:Ok T)(f u:Int):Gw T (Akz T f u) 1 0 0 0:=by
 have h1:=Aqh h (Apo (line T) f u T.p.a)
 exact(h1.trans (Akw h1.ok)).mono (J5 _) (J5 _) (J5 _) (J5 _)
theorem Amk(h:Ok T)(k:Int):Gw T (Ado T k) 1 0 0 0:=by
 unfold Ado
 split
 ·exact Atv h _ _
 split
 ·exact Atv h _ _
 split
 ·exact Atv h _ _
 ·exact(Gw.refl h).mono (by omega) (J5 _) (J5 _) (J5 _)
theorem Bhw(h:Ok T):Gw T (Adz T) 0 0 0 0:=Ahl h.Adz rfl rfl rfl rfl rfl rfl
theorem Buz(h:Ok T)(k:Int):Gw T (Ana T k) 1 0 0 0:=by
 unfold Ana
 split
 ·exact((Anb h _ _).trans (Amk (Anb h _ _).ok _)).mono (J5 _) (J5 _) (J5 _) (J5 _)
 split
 ·exact((Anb h _ _).trans (Amk (Anb h _ _).ok _)).mono (J5 _) (J5 _) (J5 _) (J5 _)
 split
 ·exact((Anb h _ _).trans (Amk (Anb h _ _).ok _)).mono (J5 _) (J5 _) (J5 _) (J5 _)
 split
 ·exact((Bhw h).trans (Amk (Bhw h).ok _)).mono (J5 _) (J5 _) (J5 _) (J5 _)
 ·exact Amk h _
theorem Cki(h:Ok T)(l:List Int):Gw T (Atn T l) 1 0 0 0:=by
 have h1:=Aqh h (Avr (line T) T.c.col (A5 l 0) T.p.a)
 exact(h1.trans (Akw h1.ok)).mono (J5 _) (J5 _) (J5 _) (J5 _)
theorem Ckg(h:Ok T)(l:List Int):Gw T (Atl T l) 1 0 0 0:=by
 have h1:=Aqh h (Blf (line T) T.c.col (A5 l 0) T.p.a)
 exact(h1.trans (Akw h1.ok)).mono (J5 _) (J5 _) (J5 _) (J5 _)
theorem Ckj(h:Ok T)(l:List Int):Gw T (Amm T l) 1 1 0 0:=by
 unfold Amm
 split
 ·next hw =>
  have h1:=Bbi h hw.2 (A5 l 0) T.p.a
  exact(h1.trans (Afy h1.ok _ _)).mono (J5 _) (J5 _) (J5 _) (J5 _)
 ·exact(Gw.refl h).mono (by omega) (by omega) (J5 _) (J5 _)
theorem Ckh(h:Ok T)(l:List Int):Gw T (Aml T l) 1 1 0 0:=by
 unfold Aml
 split
 ·next hw =>
  have h1:=Bda h hw.2 (A5 l 0) T.p.a false
  exact(h1.trans (Afy h1.ok _ _)).mono (J5 _) (J5 _) (J5 _) (J5 _)
 ·exact(Gw.refl h).mono (by omega) (by omega) (J5 _) (J5 _)
theorem Ckn(h:Ok T)(l:List Int):Gw T (Apx T l) 1 1 0 0:=by
 have h1:=Bda h h.fit.top (A5 l 0) T.p.a (T.vis.kp&&decide (T.vis.top=0))
 exact(h1.trans (Akw h1.ok)).mono (J5 _) (J5 _) (J5 _) (J5 _)
theorem Ckm(h:Ok T)(l:List Int):Gw T (Apg T l) 1 1 0 0:=by
 have h1:=Bbi h h.fit.top (A5 l 0) T.p.a
 exact(h1.trans (Akw h1.ok)).mono (J5 _) (J5 _) (J5 _) (J5 _)
theorem Ckl(h:Ok T)(l:List Int):Gw T (Amu T l) 1 0 0 0:=by
 unfold Amu
 split
 ·next hw =>
  have hl:=h.fit.len
  have hb:(Agg T l).toNat<T.vis.L.length/\0<=Agg T l:=by
   unfold Agg
   split<;>omega
  have h1:=h.Brq hb.1 (a:=(A5 l 0-1).toNat) (by omega)
  have h2:Gw T (T.C2 { T.vis with top:=(A5 l 0-1).toNat,bot:=(Agg T l).toNat }) 0 0 0 0:=Aqv h1 rfl rfl rfl rfl ⟨J5 _,by show T.nx<=_;omega⟩
  exact(h2.trans (Afy h2.ok _ _)).mono (J5 _) (J5 _) (J5 _) (J5 _)
 ·exact(Gw.refl h).mono (by omega) (J5 _) (J5 _) (J5 _)
theorem Cko(h:Ok T)(l:List Int):Gw T (Amv T l) 0 0 0 0:=by
 unfold Amv
 split
 ·exact Avq h _
 split
 ·exact Avq h _
 ·exact Gw.refl h
theorem Bjj(h:Ok T)(l:List Int)(on:Bool):Gw T (W9 T l on) 0 0 0 0:=by
 unfold W9
 induction l generalizing T with
 |nil=>exact Gw.refl h
 |cons a l ih =>
  have h1:=h.Aiw (Abs a) on
  have h2:Gw T (Aiw T false on (Abs a)) 0 0 0 0:=Ahl h1 rfl rfl rfl rfl rfl rfl
  exact(h2.trans (ih h1)).mono (J5 _) (J5 _) (J5 _) (J5 _)
theorem Bas(h:Ok T)(b:List Int){r:Nat}(hb:b.length<=r):Gw T (Agi T b) 0 0 r 0 :=
 ⟨⟨h.fit,h.U6,h.rows,h.cols,h.row,h.col,h.sv,h.svm,h.tn,h.alt⟩,rfl,rfl,⟨J5 _,Nat.le_add_right _ _⟩,J5 _,by show(T.rp++b).length<=_;simp;omega,J5 _⟩
theorem Cji{a b:Int}(ha:a<1000)(hb:b<1000):(Kys.Afg a b).length<=20:=by
 have hm:∀x:Int,x<1000->(Kys.dgF (Kys.mx x)).length<=3:=fun x hx=>by
  have h1:0<=Kys.mx x/\Kys.mx x<1000:=by
   unfold Kys.mx
   split<;>omega
  have:=Ajp 2 (Kys.mx x).toNat (by omega)
  rwa [show((Kys.mx x).toNat:Int)=Kys.mx x by omega]at this
 have h1:=hm a ha
 have h2:=hm b hb
 simp only[Kys.Afg,Kys.P2,Kys.S8,Kys.Aby,List.length_append,List.length_cons,List.length_nil]
 omega
theorem Caq(h:Ok T)(l:List Int):Gw T (report T l) 0 0 20 0:=by
 unfold report
 split
 ·exact Bas h _ (by decide)
 split
 ·refine Bas h _ (Cji ?_ ?_)
  ·have h1:=h.row
   have h2:=h.fit.G8
   have h3:0<=N4 T 1:=by
    unfold N4
    split<;>omega
   omega
  ·have h1:=h.col
   have h2:=h.fit.c5
   omega
 ·exact(Gw.refl h).mono (J5 _) (J5 _) (by omega) (J5 _)
theorem Cao(h:Ok T)(l:List Int):Gw T (device T l) 0 0 20 0:=by
 unfold device
 split
 ·exact Bas h _ (by decide)
 ·exact(Gw.refl h).mono (J5 _) (J5 _) (by omega) (J5 _)
theorem O1{c:Prop} [Decidable c] {A B:Ter} (ha:c->Gw T A j n r p) (hb:¬c->Gw T B j n r p):Gw T (if c then A else B) j n r p:=by
 split
 ·next hc=>exact ha hc
 ·next hc=>exact hb hc
theorem Cfb(h:Ok T)(f:Int)(l:List Int):Gw T (plain T f l) 1 1 20 0:=by
 unfold plain
 have mv:∀y x,Gw T (move T y x) 1 1 20 0:=fun y x=>(Afy h y x).mono (J5 _) (by omega) (by omega) (J5 _)
 have m1:∀ {T'},Gw T T' 1 0 0 0->Gw T T' 1 1 20 0:=fun g=>g.mono (J5 _) (by omega) (by omega) (J5 _)
 have m2:∀ {T'},Gw T T' 1 1 0 0->Gw T T' 1 1 20 0:=fun g=>g.mono (J5 _) (J5 _) (by omega) (J5 _)
 have m0:∀ {T'},Gw T T' 0 0 0 0->Gw T T' 1 1 20 0:=fun g=>g.mono (by omega) (by omega) (by omega) (J5 _)
 have mr:∀ {T'},Gw T T' 0 0 20 0->Gw T T' 1 1 20 0:=fun g=>g.mono (by omega) (by omega) (J5 _) (J5 _)
 refine O1 (fun _=>mv _ _) (fun _=>?_)
 refine O1 (fun _=>mv _ _) (fun _=>?_)
 refine O1 (fun _=>mv _ _) (fun _=>?_)
 refine O1 (fun _=>mv _ _) (fun _=>?_)
 refine O1 (fun _=>mv _ _) (fun _=>?_)
 refine O1 (fun _=>mv _ _) (fun _=>?_)
 refine O1 (fun _=>mv _ _) (fun _=>?_)
 refine O1 (fun _=>mv _ _) (fun _=>?_)
 refine O1 (fun _=>mv _ _) (fun _=>?_)
 refine O1 (fun _=>mv _ _) (fun _=>?_)
 refine O1 (fun _=>mv _ _) (fun _=>?_)
 refine O1 (fun _=>m1 (Buz h _)) (fun _=>?_)
 refine O1 (fun _=>m1 (Amk h _)) (fun _=>?_)
 refine O1 (fun _=>m1 (Atv h _ _)) (fun _=>?_)
 refine O1 (fun _=>m1 (Cki h _)) (fun _=>?_)
 refine O1 (fun _=>m1 (Ckg h _)) (fun _=>?_)
 refine O1 (fun _=>m2 (Ckj h _)) (fun _=>?_)
 refine O1 (fun _=>m2 (Ckh h _)) (fun _=>?_)
 refine O1 (fun _=>m2 (Ckn h _)) (fun _=>?_)
 refine O1 (fun _=>m2 (Ckm h _)) (fun _=>?_)
 refine O1 (fun _=>m1 (Ckl h _)) (fun _=>?_)
 refine O1 (fun _=>m0 (Cko h _)) (fun _=>?_)
 refine O1 (fun _=>m0 (Aqu h _)) (fun _=>?_)
 refine O1 (fun _=>m0 (Bjj h _ _)) (fun _=>?_)
 refine O1 (fun _=>m0 (Bjj h _ _)) (fun _=>?_)
 refine O1 (fun _=>mr (Caq h _)) (fun _=>?_)
 refine O1 (fun _=>mr (Cao h _)) (fun _=>?_)
 exact m0 (Gw.refl h)
theorem Atm(h:Ok T)(on:Bool):Gw T (Q9 T on) 1 1 0 0:=by
 have hO:=h.Q9 on
 unfold Q9 at hO |-
 split
 ·exact(Gw.refl h).mono (by omega) (by omega) (J5 _) (J5 _)
 ·next hne =>
  have Anw:=h.rows
  have Bpb:=h.cols
  cases on
  ·have h1:Gw T (Abm (Emu.O9 T false)) 0 0 0 0:=Ahl h.Abm Anw Bpb rfl rfl rfl rfl
   exact(h1.trans (Afy h1.ok _ _)).mono (J5 _) (by omega) (J5 _) (J5 _)
  ·have h1:Gw T (W7 (Emu.O9 T true)) 0 1 0 0:=by
    refine⟨h.W7,?_,Bpb,⟨Nat.le_add_right _ _,?_⟩,J5 _,J5 _,J5 _⟩
    ·show(R5 _ _ _ _).length=_
     rw[Agy]
     exact Anw
    ·show T.nx+T.main.L.length<=_
     omega
   exact(h1.trans (Afy h1.ok _ _)).mono (J5 _) (J5 _) (J5 _) (J5 _)
theorem Cfd(h:Ok T)(x:Int)(on:Bool):Gw T (Aig T x on) 2 1 0 0:=by
 unfold Aig
 split
 ·have h1:Gw T (Aev T on) 0 0 0 0:=Ahl (h.Aev on) rfl rfl rfl rfl rfl rfl
  exact(h1.trans (Afy h1.ok _ _)).mono (by omega) (by omega) (J5 _) (J5 _)
 split
 ·exact(Atm h on).mono (by omega) (J5 _) (J5 _) (J5 _)
 split
 ·unfold Apy
  split
  ·exact(Bbj h).mono (by omega) (by omega) (J5 _) (J5 _)
  ·exact(Azd h).mono (by omega) (by omega) (J5 _) (J5 _)
 split
 ·unfold Apb
  split
  ·exact(Gw.refl h).mono (by omega) (by omega) (J5 _) (J5 _)
  split
  ·exact((Bbj h).trans (Atm h.save true)).mono (by omega) (by omega) (J5 _) (J5 _)
  ·exact((Atm h false).trans (Azd (Atm h false).ok)).mono (by omega) (by omega) (J5 _) (J5 _)
 ·next h1 h2 h3 h4 =>
  have hO:=(Bnz h x on).ok
  unfold Aig at hO
  rw[if_neg h1,if_neg h2,if_neg h3,if_neg h4]at hO
  exact(Ahl (T:=T) hO rfl rfl rfl rfl rfl rfl).mono (by omega) (by omega) (J5 _) (J5 _)
theorem Bfr(h:Ok T)(l:List Int)(on:Bool):Gw T (S7 T l on) (2*l.length) l.length 0 0:=by
 unfold S7
 induction l generalizing T with
 |nil=>exact Gw.refl h
 |cons a l ih =>
  have h1:=Cfd h (Abs a) on
  exact(h1.trans (ih h1.ok)).mono (by simp;omega) (by simp;omega) (J5 _) (J5 _)
theorem Boz(h:Ok T)(x:AcT):Gw T (doT T x) (2*x.params.length+2) (x.params.length+1) 20 1:=by
 unfold doT
 split
 ·exact(Cfc h _).mono (by omega) (by omega) (by omega) (J5 _)
 split
 ·exact(Bxq h _).mono (by omega) (by omega) (by omega) (by omega)
 split
 ·exact(Cap h _).mono (by omega) (by omega) (by omega) (by omega)
 split
 ·unfold sequence
  split
  ·split
   ·exact(Cfb h _ _).mono (by omega) (by omega) (by omega) (by omega)
   split
   ·split
    ·exact(Bfr h _ _).mono (by omega) (by omega) (by omega) (by omega)
    split
    ·exact(Bfr h _ _).mono (by omega) (by omega) (by omega) (by omega)
    ·exact(Gw.refl h).mono (by omega) (by omega) (by omega) (by omega)
   ·exact(Gw.refl h).mono (by omega) (by omega) (by omega) (by omega)
  ·exact(Gw.refl h).mono (by omega) (by omega) (by omega) (by omega)
 ·exact(Gw.refl h).mono (by omega) (by omega) (by omega) (by omega)
end
