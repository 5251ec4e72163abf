/- Part 31 of HostKeys. -/
import Derived.Test.YtecnpoigegiooaaGreatDoorW30
set_option maxHeartbeats 16000000
set_option maxRecDepth 100000
namespace Go.Proofs.YtecnpoigegiooaaGreatDoor.Emu
open Go.Proofs.Tryz
open Go RowKit Com Rw Lns Scn
section
variable {Z Z1:Zn}{w w':World}{t x s:Nat}{S:Scr}{T:Ter}{P:Pt}{v:Value}{l:List Int}{f j:Nat}
theorem Agx(L:List Ln)(f u cols:Nat)(a:At):(Aep L f u cols a).length=L.length:=by simp[Aep]
theorem Bum(L:List Ln)(f cols:Nat)(a:At):Aep L f f cols a=L:=by
 apply List.ext_getElem (Agx _ _ _ _ _)
 intro i h1 h2
 simp only[Aep,List.getElem_mapIdx]
 rw[if_neg (by omega)]
theorem Bxb(L:List Ln)(f u cols:Nat)(a:At){i:Nat}(h:i<L.length)(hn:¬(f<=i/\i<u)):(Aep L f u cols a)[i]?=some L[i]:=by
 rw[List.getElem?_eq_getElem (by rw[Agx];exact h)]
 simp only[Aep,List.getElem_mapIdx]
 rw[if_neg hn]
def S9(S:Scr)(f u:Nat)(a:At):Scr:={ S with L:=Aep S.L f u S.cols a }
theorem Ceb(S:Scr)(f:Nat)(a:At):S9 S f f a=S:=by unfold S9;rw[Bum]
theorem Caa(S:Scr){f j:Nat}(a:At)(hf:f<=j)(hj:j<S.L.length):Aa2 (S9 S f j a) j (M0 (C8 (S9 S f j a) j) 0 S.cols a)=S9 S f (j+1) a:=by
 have hl:C8 (S9 S f j a) j=S.L[j].2:=by
  unfold C8 S9
  rw[Bxb _ _ _ _ _ hj (by omega)]
  rfl
 rw[hl]
 unfold Aa2 S9
 simp only
 congr 1
 apply List.ext_getElem (by simp[Agx])
 intro i h1 h2
 rw[List.getElem_modify]
 simp only[Aep,List.getElem_mapIdx]
 by_cases e:j=i
 ·subst e
  rw[if_pos rfl,if_pos (show f<=j/\j<j+1 by omega),if_neg (show ¬(f<=j/\j<j)by omega)]
 ·rw[if_neg e]
  by_cases hi:f<=i/\i<j
  ·rw[if_pos hi,if_pos (by omega)]
  ·rw[if_neg hi,if_neg (by omega)]
theorem Cej(h:Fit S)(f u:Nat)(a:At):Fit (S9 S f u a):=by
 have hm:∀p∈(S9 S f u a).L,∃q∈S.L,p.1=q.1/\p.2.length=q.2.length:=fun p hp=>by
  obtain⟨i,hi,e⟩:=List.mem_iff_getElem.1 hp
  have hi':i<S.L.length:=by simpa[S9,Agx]using hi
  refine⟨S.L[i],List.getElem_mem hi',?_⟩
  simp only[S9,Aep,List.getElem_mapIdx]at e
  split at e
  ·rw[<- e];exact⟨rfl,Apo _ _ _ _⟩
  ·rw[<- e];exact⟨rfl,rfl⟩
 have hl:(S9 S f u a).L.length=S.L.length:=Agx _ _ _ _ _
 refine⟨by rw[hl];exact h.len,by rw[hl];exact h.G8,by rw[hl];exact h.bot,h.top,h.c1,h.c5,fun p hp=>?_,fun p hp=>?_,h.pos⟩
 ·obtain⟨q,hq,_,e⟩:=hm p hp
  rw[e];exact h.wid q hq
 ·obtain⟨q,hq,e,_⟩:=hm p hp
  rw[e];exact h.ids q hq
theorem Ok.era(h:Ok T)(f u:Nat):Ok (I6 T f u):=h.C2 rfl rfl (Cej h.fit f u T.p.a) (Agx _ _ _ _ _) rfl (J5 _)
theorem Bqa(T:Ter)(S:Scr)(P:Pt):P.x (T.C2 S).other=P.x T.other:=by
 obtain⟨m,c,p,nx,most,R,main,other,tn,tf,pr,la,jr,rp⟩:=T
 cases other<;>rfl
theorem Csq(T:Ter)(S:Scr)(P:Pt):P.h (T.C2 S).other=P.h T.other:=by
 obtain⟨m,c,p,nx,most,R,main,other,tn,tf,pr,la,jr,rp⟩:=T
 cases other<;>rfl
theorem Bfe(T:Ter)(f u:Nat):I6 T f u=T.C2 (S9 T.vis f u T.p.a):=rfl
theorem Cec(h:TMx Z w t (I6 T f j) P)(hf:f<=j)(hj:j<T.vis.L.length):∃Z1 d,G3 Z1 w (P.x T.other) P.s (S9 T.vis f j T.p.a) j d/\SC Z1 w (P.x T.other) P.s (S9 T.vis f j T.p.a) /\
  ∀w1 w2,Below w.heap.size w w1->G3 Z1 w2 (P.x T.other) P.s (Aa2 (S9 T.vis f j T.p.a) j (M0 (C8 (S9 T.vis f j T.p.a) j) 0 T.vis.cols T.p.a)) j d->Scn.Fr Z1 PT w1 w2->TMx Z w2 t (I6 T f (j+1)) P/\Scn.Fr Z TT w w2:=by
 obtain⟨Z1,hfo⟩:=h.focus
 have hv:(I6 T f j).vis=S9 T.vis f j T.p.a:=Bbz rfl rfl
 have hx:P.x (I6 T f j).other=P.x T.other:=Bqa _ _ _
 have hsc:=hfo.sc
 rw[hv,hx]at hsc
 obtain⟨d,hd⟩:=Adr hsc (i:=j) (by show j<(Aep _ _ _ _ _).length;rw[Agx];exact hj)
 refine⟨Z1,d,hd,hsc,fun w1 w2 hb h2 hf2=>?_⟩
 rw[Caa _ _ hf hj]at h2
 have h3:=Ajk h2
 rw[<- hx]at h3
 have:=hfo.back w2 _ h3 (by show T.most=_;exact(Cha _ _).symm) (by show T.other.isNone=_;exact(Byh _ _).symm) ((Scn.Fr.A1 hb).trans hf2)
 rw[Bfe,Clr]at this
 exact this
theorem Bet(h:TM Z w t T)(ok:Ok T)(f u:Nat)(hfu:f<=u)(hu:u<=T.vis.L.length):Calls prog 242 #[.pointer (some ⟨t,0,none⟩),.int .i64 f,.int .i64 u] w (A7 Z w t (I6 T f u)):=by
 obtain⟨P,h⟩:=h
 have hsh:=J0 (I7 h)
 have hl5:=ok.fit.G8
 have hl1:=ok.fit.len
 have hst:I6 T f f=T:=by rw[Bfe,Ceb,Ayk]
 obtain⟨hh,hhe⟩:∃hh,hh=P.h T.other:=⟨_,rfl⟩
 rw[<- hhe]at hsh
 obtain⟨xx,hxe⟩:∃xx,xx=P.x T.other:=⟨_,rfl⟩
 obtain⟨a,hae⟩:∃a,a=T.p.a:=⟨_,rfl⟩
 obtain⟨cols,hce⟩:∃c,c=T.vis.cols:=⟨_,rfl⟩
 have hsp:=fun j w1 (h1:TMx Z w1 t (I6 T f j) P) (hf:f<=j) (hj:j<T.vis.L.length)=>Cec h1 hf hj
 have hpc:∀j,(I6 T f j).p=T.p:=fun j=>Bpy _ _
 have hpo:∀j,P.h (I6 T f j).other=P.h T.other:=fun j=>Csq _ _ _
 have hpx:∀j,P.x (I6 T f j).other=P.x T.other:=fun j=>Bqa _ _ _
 have F2:=fun j w1 (h1:TMx Z w1 t (I6 T f j) P)=>And.intro (hxe▸hhe▸hpo j▸hpx j▸h1.s0) (And.intro (hae▸hpc j▸h1.c11) (And.intro (hae▸hpc j▸h1.c12) (hae▸hpc j▸h1.c13)))
 rw[<- hxe,<- hae,<- hce]at hsp
 replace hsp:=J0 hsp
 replace F2:=J0 F2
 have hls:∀j,(S9 T.vis f j a).L.length=T.vis.L.length:=fun j=>Agx _ _ _ _ _
 have hlc:∀j,(S9 T.vis f j a).cols=cols:=fun j=>hce.symm
 generalize Anw:T.vis.L.length=rows at *
 replace Anw:=J0 Anw
 replace h:Hid (TMx Z w t (I6 T f f) P):=J0 (by rw[hst];exact h)
 replace hls:=J0 hls
 replace hlc:=J0 hlc
 generalize S9 T.vis f=E at *
 obtain⟨R,hR⟩:∃R,R=I6 T f:=⟨_,rfl⟩
 rw[<- hR]at h hsp F2 |-
 clear ok hhe hxe hce hpc hpo hpx hst Anw hR
 obtain⟨af,ab,ag⟩:=a
 simp only at F2
 clear hae
 go_enter func242,ntmps242
 go_wp2_with (first
  |(go_at_call 68;(with_reducible refine(hsh.out).mono ?_);rintro e w1 ⟨rfl,rfl⟩))
 go_loopw [7] (fun iv wr=>∃j:Nat,f<=j/\j<=u/\iv=.int .i64 j/\Hid (TMx Z wr t (R j) P/\Scn.Fr Z TT w wr)) (fun iv _=>u-(intOf iv).toNat)
 case atStart=>exact⟨f,J5 _,hfu,rfl,J0 ⟨h.out,Scn.Fr.refl _ _ _⟩⟩
 case round =>
  obtain⟨j,hj0,hj,rfl,hRr⟩:=hrel
  obtain⟨hM,hfr⟩:=hRr.out
  clear hRr
  by_cases hlt:j<u
  ·have hjI:(j:Int)<(u:Int):=by omega
   obtain⟨Z1,d,hd,hsc,hbk⟩:=hsp.out j wr hM hj0 (by omega)
   have s0:=fun k:Eqt.Ext wr=>(F2.out j _ (hM.below k.below)).1
   have c11:=fun k:Eqt.Ext wr=>(F2.out j _ (hM.below k.below)).2.1
   have c12:=fun k:Eqt.Ext wr=>(F2.out j _ (hM.below k.below)).2.2.1
   have c13:=fun k:Eqt.Ext wr=>(F2.out j _ (hM.below k.below)).2.2.2
   have hrw:=J0 (fun k:Eqt.Ext wr=>Bqb (O0 hd k.below) (by rw[hls.out];exact hl1) (by rw[hls.out];omega))
   have hco:=fun k:Eqt.Ext wr=>Aco (hsc.below k.below) (by rw[hls.out];exact hl1)
   simp only[hlc.out]at hco
   replace hco:=J0 hco
   have he:=J0 (fun w1 (hb:Below wr.heap.size wr w1)=>Azt (O0 hd hb) 0 cols ⟨af,ab,ag⟩)
   replace hbk:=J0 (fun w1 w2 hb h2 hf2=>(⟨(hbk w1 w2 hb h2 hf2).1,hfr.trans (hbk w1 w2 hb h2 hf2).2⟩:TMx Z w2 t (R (j+1)) P/\Scn.Fr Z TT w w2))
   generalize Aa2 (E j ⟨af,ab,ag⟩) j (M0 (C8 (E j ⟨af,ab,ag⟩) j) 0 cols ⟨af,ab,ag⟩)=S1 at he hbk
   clear hM hfr hd hsc h hsh hsp F2 hls hlc
   go_wp2
   refine Eqt.H4 16 (by kernel_rfl) (by kernel_rfl) ?_
   simp only[List.take_succ_cons,List.take_zero,List.drop_succ_cons,List.drop_zero]
   repeat (go_big_quiet_step (first
    |(go_at_call 71;exact Eqt.H7 (hrw.out _))
    |(go_at_call 124;exact Eqt.H7 (hco.out _))))
   refine wpQuiet_nil ?_
   intro w9 hw9
   obtain⟨k9,rfl⟩:=hw9
   have hb9:=k9.below
   generalize k9.w=w9 at hb9 |-
   go_wp2_with (first
    |(go_at_call 148;(with_reducible refine(he.out _ hb9).mono ?_);rintro e w2 ⟨rfl,h2,hf2⟩))
   have A4:=J0 (hbk.out _ _ hb9 h2 hf2)
   clear h2 hf2
   go_roundw
   case rel=>exact⟨j+1,by omega,by omega,by go_num,A4⟩
   case measure=>simp[intOf];omega
  ·obtain rfl:j=u:=by omega
   have hno:decide ((j:Int)<(j:Int))=false:=by simp
   have A4:=J0 (And.intro hM hfr)
   clear hM hfr h hsh hsp F2 hls hlc
   go_wp2
   go_end0
   exact⟨⟨_,rfl⟩,A4.out.1.tm,A4.out.2⟩
end
section
variable {Z Z1:Zn}{w w':World}{t x s:Nat}{S:Scr}{T:Ter}{P:Pt}{v:Value}{l:List Int}{f j:Nat}
theorem Bkf(h:SC Z1 w x s S):Calls prog 55 #[.pointer (some ⟨s,0,none⟩)] w fun e w'=>e=.returned (.int .i64 0)/\SC Z1 w' x s { S with R:=[] }/\Scn.Fr Z1 PT w w':=by
 obtain⟨sv,lv,L,R,h1,h2,h3⟩:=h
 refine(Byp h1.ln.st).mono fun e w' ⟨he,hx,ho⟩=>⟨he,?_,?_⟩
 ·have hno:∀ {k:Nat} {t:TypeId},Typ w k t->136≠t->k∉[s]:=fun {k t} ht n1 hm=>by
   obtain rfl:k=s:=by simpa using hm
   exact n1 (Typ.inj h1.ln.st.typ ht)
  have M3:∀f:En->Nat,((L++R).map f).Nodup->((L++[]).map f).Nodup:=fun f hn=>hn.sublist ((List.Sublist.append (List.Sublist.refl L) (List.nil_sublist R)).map f)
  refine⟨.slice none 0 0,lv,L,[],⟨⟨h1.ln.blk.only ho (hno h1.ln.typ (by decide)),Aen h1.ln.own ho (fun g hg=>hno (h1.ln.Q2 g hg).2.2 (by decide)),hx,fun g _ hg=>(by cases hg),⟨h1.ln.lo.x,h1.ln.lo.s,h1.ln.lo.l,fun g hg=>(by cases hg),fun e he=>(by cases he),fun k hk=>h1.ln.lo.up k (Nat.le_trans ho.size hk)⟩,h1.ln.small⟩,
   fun e he=>(h1.rows e he).only ho (hno (h1.rows e he).typ.1 (by decide)) (hno (h1.rows e he).typ.2 (by decide)),h1.zr,M3 _ h1.dd,M3 _ h1.gg⟩,h2,rfl⟩
 ·refine Scn.Fr.I9 ho fun k hk _=>?_
  obtain rfl:k=s:=by simpa using hk
  exact⟨h1.ln.lo.s,_,by simp[PT],h1.ln.st.typ⟩
theorem Bii(T:Ter):T.C2 { T.vis with R:=[] }=Adz T:=by
 obtain⟨m,c,p,nx,most,R,main,other,tn,tf,pr,la,jr,rp⟩:=T
 cases other<;>rfl
theorem Ok.Adz(h:Ok T):Ok (Adz T):=by
 rw[<- Bii]
 exact h.C2 rfl rfl ⟨h.fit.len,h.fit.G8,h.fit.bot,h.fit.top,h.fit.c1,h.fit.c5,h.fit.wid,h.fit.ids,h.fit.pos⟩ rfl rfl (J5 _)
theorem Bep(h:TM Z w t T)(ok:Ok T)(u:Nat)(hu:u<=T.vis.L.length):Calls prog 242 #[.pointer (some ⟨t,0,none⟩),.int .i64 0,.int .i64 u] w (A7 Z w t (I6 T 0 u)):=Bet h ok 0 u (Nat.zero_le _) hu
theorem Cdr(h:TM Z w t T):∃P,TMx Z w t T P/\Calls prog 55 #[.pointer (some ⟨P.s,0,none⟩)] w fun e w'=>e=.returned (.int .i64 0)/\TM Z w' t (Adz T)/\Scn.Fr Z TT w w':=by
 obtain⟨P,h⟩:=h
 obtain⟨Z1,hf⟩:=h.focus
 refine⟨P,h,(Bkf hf.sc).mono fun e w' ⟨he,h2,hf2⟩=>?_⟩
 obtain⟨h3,hf3⟩:=hf.back w' _ h2 rfl rfl hf2
 rw[Bii]at h3
 exact⟨he,h3.tm,hf3⟩
theorem Bxc(h:TMx Z w t T P)(ok:Ok T)(hj:T.jr.length<=90000000)(hp:NA Z w v l)(h0:atN l 0=0):Calls prog 190 #[.pointer (some ⟨t,0,none⟩),v] w (A7 Z w t (Ado (I6 T (T.c.row+1) T.vis.L.length) (atN l 0))):=by
 obtain⟨Z1,hf⟩:=h.focus
 have s0:=h.s0
 have c8:=h.c8
 have c17:=h.c17
 have hlen:=ok.fit.len
 have hl5:=ok.fit.G8
 have A6:=ok.row
 have hsh:=J0 (I7 h)
 have hro:=J0 (Adx hf.sc ok.fit.len)
 have ha:=J0 (Afw hp)
 have he:=J0 (Bet h.tm ok (T.c.row+1) T.vis.L.length (by have:=ok.row;omega) (J5 _))
 have hel:=J0 (fun w2 (h2:TM Z w2 t (I6 T (T.c.row+1) T.vis.L.length)) (hf2:Scn.Fr Z TT w w2)=>Ami h2 (ok.era _ _) (by rw[show(I6 T (T.c.row+1) T.vis.L.length).jr=T.jr from V7 _ _];exact hj) (hp.fr hf2))
 have hw:IntKind.i64.wrap ((T.c.row:Int)+1)=((T.c.row+1:Nat):Int):=IntWalk.i64_in _ (by omega)
 rw[h0]at ha hel |-
 generalize (I6 T (T.c.row+1) T.vis.L.length)=T1 at hel he |-
 generalize T.vis.L.length=rows at *
 generalize P.h T.other=hh at s0 hsh
 generalize P.x T.other=xx at s0 hro
 generalize hr1:T.c.row+1=row1 at *
 replace hr1:=J0 hr1
 generalize T.c.row=row at *
 clear h ok hj hp hf
 go_enter func190,ntmps190
 go_wp2_with (first
  |(go_at_call 68;(with_reducible refine(hsh.out).mono ?_);rintro e w1 ⟨rfl,rfl⟩)
  |(go_at_call 70;(with_reducible refine(hro.out).mono ?_);rintro e w1 ⟨rfl,rfl⟩)
  |(go_at_call 241;(with_reducible refine(ha.out).mono ?_);rintro e w1 ⟨rfl,rfl⟩)
  |(go_at_call 242;(with_reducible refine(he.out).mono ?_);rintro e w2 ⟨⟨v2,rfl⟩,h2,hf2⟩))
 go_wp2_with (first
  |(go_at_call 191;(with_reducible refine(hel.out _ h2 hf2).mono ?_);rintro e w4 ⟨⟨v4,rfl⟩,h4,hf4⟩))
 go_end0
 exact⟨⟨_,rfl⟩,h4,hf2.trans hf4⟩
theorem Bxd(h:TMx Z w t T P)(ok:Ok T)(hj:T.jr.length<=90000000)(hp:NA Z w v l)(h0:atN l 0=1):Calls prog 190 #[.pointer (some ⟨t,0,none⟩),v] w (A7 Z w t (Ado (I6 T 0 T.c.row) (atN l 0))):=by
 obtain⟨Z1,hf⟩:=h.focus
 have s0:=h.s0
 have c8:=h.c8
 have c17:=h.c17
 have hlen:=ok.fit.len
 have hl5:=ok.fit.G8
 have A6:=ok.row
 have hsh:=J0 (I7 h)
 have hro:=J0 (Adx hf.sc ok.fit.len)
 have ha:=J0 (Afw hp)
 have he:=J0 (Bep h.tm ok T.c.row (by have:=ok.row;omega))
 have hel:=J0 (fun w2 (h2:TM Z w2 t (I6 T 0 T.c.row)) (hf2:Scn.Fr Z TT w w2)=>Ami h2 (ok.era _ _) (by rw[show(I6 T 0 T.c.row).jr=T.jr from V7 _ _];exact hj) (hp.fr hf2))
 have hw:IntKind.i64.wrap ((T.c.row:Int)+1)=((T.c.row+1:Nat):Int):=IntWalk.i64_in _ (by omega)
 rw[h0]at ha hel |-
 generalize (I6 T 0 T.c.row)=T1 at hel he |-
 generalize T.vis.L.length=rows at *
 generalize P.h T.other=hh at s0 hsh
 generalize P.x T.other=xx at s0 hro
 generalize T.c.row=row at *
 clear h ok hj hp hf
 go_enter func190,ntmps190
 go_wp2_with (first
  |(go_at_call 68;(with_reducible refine(hsh.out).mono ?_);rintro e w1 ⟨rfl,rfl⟩)
  |(go_at_call 70;(with_reducible refine(hro.out).mono ?_);rintro e w1 ⟨rfl,rfl⟩)
  |(go_at_call 241;(with_reducible refine(ha.out).mono ?_);rintro e w1 ⟨rfl,rfl⟩)
  |(go_at_call 242;(with_reducible refine(he.out).mono ?_);rintro e w2 ⟨⟨v2,rfl⟩,h2,hf2⟩))
 go_wp2_with (first
  |(go_at_call 191;(with_reducible refine(hel.out _ h2 hf2).mono ?_);rintro e w4 ⟨⟨v4,rfl⟩,h4,hf4⟩))
 go_end0
 exact⟨⟨_,rfl⟩,h4,hf2.trans hf4⟩
theorem Bxe(h:TMx Z w t T P)(ok:Ok T)(hj:T.jr.length<=90000000)(hp:NA Z w v l)(h0:atN l 0=2):Calls prog 190 #[.pointer (some ⟨t,0,none⟩),v] w (A7 Z w t (Ado (I6 T 0 T.vis.L.length) (atN l 0))):=by
 obtain⟨Z1,hf⟩:=h.focus
 have s0:=h.s0
 have c8:=h.c8
 have c17:=h.c17
 have hlen:=ok.fit.len
 have hl5:=ok.fit.G8
 have A6:=ok.row
 have hsh:=J0 (I7 h)
 have hro:=J0 (Adx hf.sc ok.fit.len)
 have ha:=J0 (Afw hp)
 have he:=J0 (Bep h.tm ok T.vis.L.length (J5 _))
 have hel:=J0 (fun w2 (h2:TM Z w2 t (I6 T 0 T.vis.L.length)) (hf2:Scn.Fr Z TT w w2)=>Ami h2 (ok.era _ _) (by rw[show(I6 T 0 T.vis.L.length).jr=T.jr from V7 _ _];exact hj) (hp.fr hf2))
 have hw:IntKind.i64.wrap ((T.c.row:Int)+1)=((T.c.row+1:Nat):Int):=IntWalk.i64_in _ (by omega)
 rw[h0]at ha hel |-
 generalize (I6 T 0 T.vis.L.length)=T1 at hel he |-
 generalize T.vis.L.length=rows at *
 generalize P.h T.other=hh at s0 hsh
 generalize P.x T.other=xx at s0 hro
 generalize T.c.row=row at *
 clear h ok hj hp hf
 go_enter func190,ntmps190
 go_wp2_with (first
  |(go_at_call 68;(with_reducible refine(hsh.out).mono ?_);rintro e w1 ⟨rfl,rfl⟩)
  |(go_at_call 70;(with_reducible refine(hro.out).mono ?_);rintro e w1 ⟨rfl,rfl⟩)
  |(go_at_call 241;(with_reducible refine(ha.out).mono ?_);rintro e w1 ⟨rfl,rfl⟩)
  |(go_at_call 242;(with_reducible refine(he.out).mono ?_);rintro e w2 ⟨⟨v2,rfl⟩,h2,hf2⟩))
 go_wp2_with (first
  |(go_at_call 191;(with_reducible refine(hel.out _ h2 hf2).mono ?_);rintro e w4 ⟨⟨v4,rfl⟩,h4,hf4⟩))
 go_end0
 exact⟨⟨_,rfl⟩,h4,hf2.trans hf4⟩
theorem Bxf(h:TMx Z w t T P)(ok:Ok T)(hj:T.jr.length<=90000000)(hp:NA Z w v l)(h0:atN l 0=3):Calls prog 190 #[.pointer (some ⟨t,0,none⟩),v] w (A7 Z w t (Ado (Adz T) (atN l 0))):=by
 obtain⟨P,h,hcl⟩:=Cdr h.tm
 obtain⟨Z1,hf⟩:=h.focus
 have s0:=h.s0
 have c8:=h.c8
 have c17:=h.c17
 have hlen:=ok.fit.len
 have hl5:=ok.fit.G8
 have A6:=ok.row
 have hsh:=J0 (I7 h)
 have hro:=J0 (Adx hf.sc ok.fit.len)
 have ha:=J0 (Afw hp)
 have he:=J0 (hcl)
 have hel:=J0 (fun w2 (h2:TM Z w2 t (Adz T)) (hf2:Scn.Fr Z TT w w2)=>Ami h2 (ok.Adz) (by rw[show(Adz T).jr=T.jr from rfl];exact hj) (hp.fr hf2))
 have hw:IntKind.i64.wrap ((T.c.row:Int)+1)=((T.c.row+1:Nat):Int):=IntWalk.i64_in _ (by omega)
 rw[h0]at ha hel |-
 generalize (Adz T)=T1 at hel he |-
 generalize T.vis.L.length=rows at *
 generalize P.h T.other=hh at s0 hsh
 generalize P.x T.other=xx at s0 hro
 generalize T.c.row=row at *
 clear h ok hj hp hf
 go_enter func190,ntmps190
 go_wp2_with (first
  |(go_at_call 68;(with_reducible refine(hsh.out).mono ?_);rintro e w1 ⟨rfl,rfl⟩)
  |(go_at_call 70;(with_reducible refine(hro.out).mono ?_);rintro e w1 ⟨rfl,rfl⟩)
  |(go_at_call 241;(with_reducible refine(ha.out).mono ?_);rintro e w1 ⟨rfl,rfl⟩)
  |(go_at_call 55;(with_reducible refine(he.out).mono ?_);rintro e w2 ⟨rfl,h2,hf2⟩))
 go_wp2_with (first
  |(go_at_call 191;(with_reducible refine(hel.out _ h2 hf2).mono ?_);rintro e w4 ⟨⟨v4,rfl⟩,h4,hf4⟩))
 go_end0
 exact⟨⟨_,rfl⟩,h4,hf2.trans hf4⟩
theorem Bxg(h:TMx Z w t T P)(ok:Ok T)(hj:T.jr.length<=90000000)(hp:NA Z w v l)(h0:atN l 0≠0)(h1:atN l 0≠1)(h2:atN l 0≠2)(h3:atN l 0≠3):Calls prog 190 #[.pointer (some ⟨t,0,none⟩),v] w (A7 Z w t (Ado T (atN l 0))):=by
 obtain⟨Z1,hf⟩:=h.focus
 have s0:=h.s0
 have c8:=h.c8
 have c17:=h.c17
 have hlen:=ok.fit.len
 have hl5:=ok.fit.G8
 have A6:=ok.row
 have hsh:=J0 (I7 h)
 have hro:=J0 (Adx hf.sc ok.fit.len)
 have ha:=J0 (Afw hp)
 have hel:=J0 (fun w2 (h2:TM Z w2 t T) (hf2:Scn.Fr Z TT w w2)=>Ami h2 (ok) (by rw[show T.jr=T.jr from rfl];exact hj) (hp.fr hf2))
 have hw:IntKind.i64.wrap ((T.c.row:Int)+1)=((T.c.row+1:Nat):Int):=IntWalk.i64_in _ (by omega)
 have hd0:(atN l 0==0)=false:=by simpa using h0
 have he0:decide (atN l 0=0)=false:=decide_eq_false h0
 have hd1:(atN l 0==1)=false:=by simpa using h1
 have he1:decide (atN l 0=1)=false:=decide_eq_false h1
 have hd2:(atN l 0==2)=false:=by simpa using h2
 have he2:decide (atN l 0=2)=false:=decide_eq_false h2
 have hd3:(atN l 0==3)=false:=by simpa using h3
 have he3:decide (atN l 0=3)=false:=decide_eq_false h3
 have A4:=h.tm
 generalize T.vis.L.length=rows at *
 generalize P.h T.other=hh at s0 hsh
 generalize P.x T.other=xx at s0 hro
 generalize atN l 0=n at *
 clear hw
 clear h ok hj hp hf
 go_enter func190,ntmps190
 go_wp2_with (first
  |(go_at_call 68;(with_reducible refine(hsh.out).mono ?_);rintro e w1 ⟨rfl,rfl⟩)
  |(go_at_call 70;(with_reducible refine(hro.out).mono ?_);rintro e w1 ⟨rfl,rfl⟩)
  |(go_at_call 241;(with_reducible refine(ha.out).mono ?_);rintro e w1 ⟨rfl,rfl⟩)
  |(go_at_call 191;(with_reducible refine(hel.out _ A4 (Scn.Fr.refl _ _ _)).mono ?_);rintro e w4 ⟨⟨v4,rfl⟩,h4,hf4⟩))
 go_end0
 exact⟨⟨_,rfl⟩,h4,hf4⟩
theorem Btc(h:TM Z w t T)(ok:Ok T)(hj:T.jr.length<=90000000)(hp:NA Z w v l):Calls prog 190 #[.pointer (some ⟨t,0,none⟩),v] w (A7 Z w t (Ana T (atN l 0))):=by
 obtain⟨P,h⟩:=h
 unfold Ana
 split
 ·exact Bxc h ok hj hp (by assumption)
 ·split
  ·exact Bxd h ok hj hp (by assumption)
  ·split
   ·exact Bxe h ok hj hp (by assumption)
   ·split
    ·exact Bxf h ok hj hp (by assumption)
    ·exact Bxg h ok hj hp (by assumption) (by assumption) (by assumption) (by assumption)
end
end Go.Proofs.YtecnpoigegiooaaGreatDoor.Emu
namespace Go.Proofs.YtecnpoigegiooaaGreatDoor.Emu
open Go.Proofs.Tryz
open Go RowKit Com
open Go.Maps (Keyed int_keyed keyOf_int_mk)
open Go.ChangeMaps (setBlock heap_setBlock_same heap_setBlock_other)
structure MT(Tm Tk Tv:TypeId)(kd:IntKind)(z:Value):Prop where
 und:prog.underlying Tm=some (.map Tk Tv)
 law:Keyed prog Tk
 key:∀n,(Lit.int kd n).wf=true->∃k,keyOf prog Tk (.int kd n)=some k
 zero:∀w,(zeroValue Tv).run prog w=.ok z w
abbrev Ent:=Int×Value
def Aae(kd:IntKind):Nat->List Ent->List MapEntry
 |_,[]=>[]
 |i,e::r=>⟨.int kd e.1,e.2,i⟩::Aae kd (i+1) r
section
variable {Tm Tk Tv:TypeId}{kd:IntKind}{z:Value}{w w':World}{b:Nat}{l:List Ent}
theorem Bxa(i:Nat)(l:List Ent)(e:Ent):Aae kd i (l++[e])=Aae kd i l++[⟨.int kd e.1,e.2,i+l.length⟩]:=by
 induction l generalizing i with
 |nil=>rfl
 |cons x r ih =>
  simp only[List.cons_append,Aae,ih,List.length_cons]
  rw[Nat.add_right_comm,Nat.add_assoc]
theorem Azs{i:Nat}{l:List Ent}{y:MapEntry}(h:y∈Aae kd i l):∃e∈l,y.key=.int kd e.1/\y.val=e.2:=by
 induction l generalizing i with
 |nil=>simp[Aae]at h
 |cons x r ih =>
  rcases List.mem_cons.1 h with rfl|h
  ·exact⟨x,List.mem_cons_self,rfl,rfl⟩
  ·obtain⟨e,he,h2⟩:=ih h
   exact⟨e,List.mem_cons_of_mem _ he,h2⟩
theorem Cbe{i:Nat}{l:List Ent}{e:Ent}(h:e∈l):∃y∈Aae kd i l,y.key=.int kd e.1:=by
 induction l generalizing i with
 |nil=>simp at h
 |cons x r ih =>
  rcases List.mem_cons.1 h with rfl|h
  ·exact⟨_,List.mem_cons_self,rfl⟩
  ·obtain⟨y,hy,h2⟩:=ih (i:=i+1) h
   exact⟨y,List.mem_cons_of_mem _ hy,h2⟩
structure MpN(w:World)(b:Nat)(kd:IntKind)(l:List Ent):Prop where
 blk:w.heap[b]?=some (.map (Aae kd 0 l).toArray l.length)
 Axj:∀e∈l,(Lit.int kd e.1).wf=true
 nd:(l.map (·.1)).Nodup
theorem MpN.lt(h:MpN w b kd l):b<w.heap.size:=(Array.getElem?_eq_some_iff.1 h.blk).1
theorem MpN.made(w:World)(kd:IntKind):MpN (w.alloc (.map #[] 0)) w.heap.size kd []:=⟨heap_alloc_new w _,by simp,by simp⟩
theorem MpN.below(h:MpN w b kd l)(hb:Below w.heap.size w w'):MpN w' b kd l:=⟨(hb.block b h.lt).trans h.blk,h.Axj,h.nd⟩
theorem Blw{n k:Int}(h:Value.int kd n=.int kd k):n=k:=by simpa using h
theorem Bpr(M:MT Tm Tk Tv kd z)(h:MpN w b kd l):∀y∈(Aae kd 0 l).toArray.toList,∃k,keyOf prog Tk y.key=some k:=by
 intro y hy
 obtain⟨e,he,hk,-⟩:=Azs (by simpa using hy)
 rw[hk]
 exact M.key _ (h.Axj e he)
theorem Cgx(M:MT Tm Tk Tv kd z)(h:MpN w b kd l)(n:Int)(v:Value)(hw:(Lit.int kd n).wf=true)(hne:n∉l.map (·.1)) :
  ∃w',(Instr.mapUpdate Tm (.map (some b)) (.int kd n) v).run prog w=.ok () w'/\MpN w' b kd (l++[(n,v)])/\A0 [b] w w':=by
 obtain⟨k,hk⟩:=M.key n hw
 refine⟨setBlock w b (.map ((Aae kd 0 l).toArray.push ⟨.int kd n,v,l.length⟩) (l.length+1)),?_,⟨?_,?_,?_⟩,?_⟩
 ·rcases M.law.find w hk (Aae kd 0 l).toArray.toList (Bpr M h)with⟨h1,-⟩|⟨j,e0,h1,h2,h3⟩
  ·have h1':(Instr.findKey Tk (.int kd n) (Aae kd 0 l)).run prog w=.ok none w:=by simpa using h1
   simp[Instr.mapUpdate,run_underlying M.und,MapKept.run_getObj_map h.blk,M.law.check w false hk,h1',MapKept.run_setObj_map _ h.blk,Result.andThen,setBlock]
  ·exfalso
   obtain⟨e,he,hke,-⟩:=Azs (by simpa using List.mem_of_getElem? h2)
   exact hne (List.mem_map.2 ⟨e,he,Blw (hke.symm.trans h3)⟩)
 ·rw[heap_setBlock_same h.blk (.map ((Aae kd 0 l).toArray.push ⟨.int kd n,v,l.length⟩) (l.length+1)),Bxa]
  simp
 ·intro e he
  rcases List.mem_append.1 he with he|he
  ·exact h.Axj e he
  ·obtain rfl:e=(n,v):=by simpa using he
   exact hw
 ·rw[List.map_append,List.nodup_append]
  refine⟨h.nd,by simp,fun a ha b hb=>?_⟩
  obtain rfl:b=n:=by simpa using hb
  rintro rfl
  exact hne ha
 ·exact⟨rfl,rfl,rfl,by simp[setBlock],fun i _ hi=>heap_setBlock_other h.blk _ (by simpa using hi)⟩
def H8:List Ent->Int->Option Value
 |[],_=>none
 |e::r,n=>if n=e.1 then some e.2 else H8 r n
theorem Bxj{l:List Ent}{n:Int}(h:∀e∈l,e.1≠n):H8 l n=none:=by
 induction l with
 |nil=>rfl
 |cons x r ih =>
  unfold H8
  rw[if_neg (fun e=>h x List.mem_cons_self e.symm),ih fun e he=>h e (List.mem_cons_of_mem _ he)]
theorem Cah{l:List Ent}{e:Ent}(h:e∈l)(hn:(l.map (·.1)).Nodup):H8 l e.1=some e.2:=by
 induction l with
 |nil=>simp at h
 |cons x r ih =>
  rw[List.map_cons,List.nodup_cons]at hn
  unfold H8
  rcases List.mem_cons.1 h with rfl|h
  ·rw[if_pos rfl]
  ·rw[if_neg (fun e1=>hn.1 (List.mem_map.2 ⟨e,h,e1⟩)),ih h hn.2]
theorem Akb(M:MT Tm Tk Tv kd z)(h:MpN w b kd l)(n:Int)(hw:(Lit.int kd n).wf=true) :
  (Instr.lookup Tm (.map (some b)) (.int kd n) false).run prog w=.ok ((H8 l n).getD z) w /\
  (Instr.lookup Tm (.map (some b)) (.int kd n) true).run prog w=.ok (.tuple #[(H8 l n).getD z,.bool (H8 l n).isSome]) w:=by
 obtain⟨k,hk⟩:=M.key n hw
 rcases M.law.find w hk (Aae kd 0 l).toArray.toList (Bpr M h)with⟨h1,h2⟩|⟨j,e0,h1,h2,h3⟩
 ·have h1':(Instr.findKey Tk (.int kd n) (Aae kd 0 l)).run prog w=.ok none w:=by simpa using h1
  have hf:H8 l n=none:=Bxj fun e he hen=>by
   obtain⟨y,hy,hky⟩:=Cbe (kd:=kd) (i:=0) he
   rw[hen]at hky
   exact h2 y (by simpa using hy) hky
  rw[hf]
  constructor<;>simp[Instr.lookup,run_underlying M.und,MapKept.run_getObj_map h.blk,M.law.check w _ hk,h1',M.zero,Result.andThen]
 ·have h1':(Instr.findKey Tk (.int kd n) (Aae kd 0 l)).run prog w=.ok (some (j,e0.val)) w:=by simpa using h1
  obtain⟨e,he,hke,hv⟩:=Azs (by simpa using List.mem_of_getElem? h2)
  obtain rfl:e.1=n:=Blw (hke.symm.trans h3)
  have hf:H8 l e.1=some e.2:=Cah he h.nd
  rw[hf]
  constructor<;>simp[Instr.lookup,run_underlying M.und,MapKept.run_getObj_map h.blk,M.law.check w _ hk,h1',hv,Result.andThen]
theorem Cnd{P:Program}{o:Oper}{a:Act}{next:Act->World->Prop}{Q:Exit->Act->World->Prop}{r:Result Unit}(h:r=.ok () w')(hK:next (a.put o.dst undef) w') :
  Oper.upon P o a next Q (r.andThen fun _ w'=>.ok .skip w'):=by
 subst h
 exact hK
theorem Ajm{o:Oper}{a:Act}{next:Act->World->Prop}{Q:Exit->Act->World->Prop}{n:Int}{v:Value}(M:MT Tm Tk Tv kd z)(h:MpN w b kd l)(hw:(Lit.int kd n).wf=true)(hne:n∉l.map (·.1))
  (hK:∀w',MpN w' b kd (l++[(n,v)])->A0 [b] w w'->next (a.put o.dst undef) w') :
  Oper.upon prog o a next Q (((Instr.mapUpdate Tm (.map (some b)) (.int kd n) v).run prog w).andThen fun _ w'=>.ok .skip w'):=by
 refine(Cgx M h n v hw hne).elim fun w' h=>?_
 exact Cnd h.1 (hK w' h.2.1 h.2.2)
end
theorem Bma:MT 184 5 183 .u8 .nilFunc :=
 ⟨underlying184,int_keyed underlying5,fun n hw=>⟨_,keyOf_int_mk underlying5 hw⟩,fun w=>by exact zeroValue183 w⟩
theorem Awz:MT 208 21 207 .i32 .nilFunc :=
 ⟨underlying208,int_keyed underlying21,fun n hw=>⟨_,keyOf_int_mk underlying21 hw⟩,fun w=>by exact zeroValue207 w⟩
theorem Aif:MT 209 21 211 .i32 .nilFunc :=
 ⟨underlying209,int_keyed underlying21,fun n hw=>⟨_,keyOf_int_mk underlying21 hw⟩,fun w=>by exact zeroValue211 w⟩
theorem Bog:MT 290 3 289 .i64 .nilFunc :=
 ⟨underlying290,int_keyed underlying3,fun n hw=>⟨_,keyOf_int_mk underlying3 hw⟩,fun w=>by exact zeroValue289 w⟩
theorem Bmb:MT 242 21 3 .i32 (.int .i64 0) :=
 ⟨underlying242,int_keyed underlying21,fun n hw=>⟨_,keyOf_int_mk underlying21 hw⟩,fun w=>by exact zeroValue3 w⟩
theorem Boh:MT 243 21 5 .i32 (.int .u8 0) :=
 ⟨underlying243,int_keyed underlying21,fun n hw=>⟨_,keyOf_int_mk underlying21 hw⟩,fun w=>by exact zeroValue5 w⟩
end Go.Proofs.YtecnpoigegiooaaGreatDoor.Emu
namespace Go.Proofs.YtecnpoigegiooaaGreatDoor.Emu
open Go.Proofs.Tryz
open Go RowKit Com Rw Lns Scn
section
variable {Z Z1:Zn}{w w':World}{t x s:Nat}{S:Scr}{T:Ter}{P:Pt}{v:Value}{l:List Int}
theorem Ok.Aiw(h:Ok T)(n:Int)(on:Bool):Ok (Aiw T false on n):=by
 refine⟨h.fit,h.U6,h.rows,h.cols,h.row,h.col,h.sv,h.svm,h.tn,?_⟩
 show T.other.isSome=(T.m.put false n on).a6
 rw[h.alt]
 unfold Mds.Md.put Mds.spot
 simp only[Bool.false_eq_true,if_false]
 split
 ·rfl
 ·split<;>rfl
theorem Bbe(l:List Int)(i:Nat):(Lit.int .i64 (atN l i)).wf=true:=WalkArith.wf_i64 (by have:=Awr l i;omega)
def mdW(w:World)(t:Nat)(m:Mds.Md):World:=((((((((w.setCell ⟨t,0,none⟩ (.bool m.a0)).setCell ⟨t,1,none⟩ (.bool m.a1)).setCell ⟨t,2,none⟩ (.bool m.a2)).setCell ⟨t,3,none⟩ (.bool m.a3)).setCell ⟨t,4,none⟩ (.bool m.a4)).setCell ⟨t,5,none⟩ (.bool m.a5)).setCell ⟨t,6,none⟩ (.bool m.a6)).setCell ⟨t,7,none⟩ (.bool m.a7))
theorem TMx.Axb(h:TMx Z w t T P)(m:Mds.Md):TMx Z (mdW w t m) t { T with m:=m } P/\Scn.Fr Z TT w (mdW w t m):=by
 have e:((((((((S6 T P).setIfInBounds 0 (.bool m.a0)).setIfInBounds 1 (.bool m.a1)).setIfInBounds 2 (.bool m.a2)).setIfInBounds 3 (.bool m.a3)).setIfInBounds 4 (.bool m.a4)).setIfInBounds 5 (.bool m.a5)).setIfInBounds 6 (.bool m.a6)).setIfInBounds 7 (.bool m.a7)=S6 { T with m:=m } P:=by kernel_rfl
 have hb:Block (mdW w t m) t 102 (((((((((S6 T P).setIfInBounds 0 (.bool m.a0)).setIfInBounds 1 (.bool m.a1)).setIfInBounds 2 (.bool m.a2)).setIfInBounds 3 (.bool m.a3)).setIfInBounds 4 (.bool m.a4)).setIfInBounds 5 (.bool m.a5)).setIfInBounds 6 (.bool m.a6)).setIfInBounds 7 (.bool m.a7)):=(((((((h.blk.set 0 _).set 1 _).set 2 _).set 3 _).set 4 _).set 5 _).set 6 _).set 7 _
 rw[e]at hb
 exact h.G9 (w':=mdW w t m) (m:=m) (c:=T.c) (p:=T.p) (n:=T.C5) (e:=T.last) ((((((((A0.setCell w ⟨t,0,none⟩ _).trans (A0.setCell _ ⟨t,1,none⟩ _)).trans (A0.setCell _ ⟨t,2,none⟩ _)).trans (A0.setCell _ ⟨t,3,none⟩ _)).trans (A0.setCell _ ⟨t,4,none⟩ _)).trans (A0.setCell _ ⟨t,5,none⟩ _)).trans (A0.setCell _ ⟨t,6,none⟩ _)).trans (A0.setCell _ ⟨t,7,none⟩ _)) hb
theorem TMx.md8(h:TMx Z w t T P):w.cell? ⟨t,0,none⟩=some (.bool T.m.a0)/\w.cell? ⟨t,1,none⟩=some (.bool T.m.a1)/\w.cell? ⟨t,2,none⟩=some (.bool T.m.a2)/\w.cell? ⟨t,3,none⟩=some (.bool T.m.a3)/\w.cell? ⟨t,4,none⟩=some (.bool T.m.a4)/\w.cell? ⟨t,5,none⟩=some (.bool T.m.a5)/\w.cell? ⟨t,6,none⟩=some (.bool T.m.a6)/\w.cell? ⟨t,7,none⟩=some (.bool T.m.a7):=⟨h.c0,h.c1,h.c2,h.c3,h.c4,h.c5,h.c6,h.c7⟩
theorem Bgo(T:Ter)(l:List Int)(on:Bool){j:Nat}(hj:j<l.length):W9 T (l.take (j+1)) on=Aiw (W9 T (l.take j) on) false on (atN l j):=by
 unfold W9
 have ht:l.take (j+1)=l.take j++[l[j]]:=by rw[List.take_add_one,List.getElem?_eq_getElem hj];rfl
 rw[ht,List.foldl_append]
 simp only[List.foldl_cons,List.foldl_nil]
 rw[show atN l j=Abs l[j]by unfold atN;rw[List.getElem?_eq_getElem hj]]
theorem Bfk(h:TM Z w t T)(hp:NA Z w v l)(on:Bool):Calls prog 252 #[.pointer (some ⟨t,0,none⟩),v,.bool on] w (A7 Z w t (W9 T l on)):=by
 have hlen:=hp
 obtain⟨ao,cp,rfl,hl2,hl3,_,_⟩:=hlen
 have F2:=J0 (fun j (hj:j<l.length) w1 (h1:TM Z w1 t (W9 T (l.take j) on)) (hf:Scn.Fr Z TT w w1)=>And.intro h1 (And.intro (Bgo T l on hj) (hp.fr hf)))
 have hst:W9 T (l.take 0) on=T:=rfl
 obtain⟨R,hR⟩:∃R:Nat->Ter,R=fun j=>W9 T (l.take j) on:=⟨_,rfl⟩
 have Aka:W9 T l on=R l.length:=by rw[hR];simp
 have U2:∀j,j<l.length->R (j+1)=Aiw (R j) false on (atN l j):=fun j hj=>by rw[hR];exact Bgo T l on hj
 have h0:TM Z w t (R 0):=by rw[hR];exact h
 rw[Aka]
 replace U2:=J0 U2
 replace h0:=J0 h0
 have hfp:=J0 (fun w1 (hf:Scn.Fr Z TT w w1)=>hp.fr hf)
 clear F2 hst Aka hR h hp
 obtain⟨n,hn⟩:∃n,n=l.length:=⟨_,rfl⟩
 rw[<- hn]at hl2 U2 hfp |-
 have hn9:n<=9223372036854775807:=by unfold maxLen at hl3;omega
 replace hn:=J0 hn
 go_enter func252,ntmps252
 go_wp2
 go_loopw [9] (fun iv wr=>∃j:Nat,j<=n/\iv=.int .i64 j/\Hid (TM Z wr t (R j)/\Scn.Fr Z TT w wr)) (fun iv _=>n-(intOf iv).toNat)
 case atStart=>exact⟨0,Nat.zero_le _,rfl,J0 ⟨h0.out,Scn.Fr.refl _ _ _⟩⟩
 case round =>
  obtain⟨j,hj,rfl,hRr⟩:=hrel
  obtain⟨⟨P,hM⟩,hfr⟩:=hRr.out
  clear hRr
  by_cases hlt:j<n
  ·have hjI:(j:Int)<(n:Int):=by omega
   have c0:=hM.c0
   have c1:=hM.c1
   have c2:=hM.c2
   have c3:=hM.c3
   have c4:=hM.c4
   have c5:=hM.c5
   have c6:=hM.c6
   have c7:=hM.c7
   have hna:=hfp.out _ hfr
   have hat:=J0 (Aqs (hna.below (C7 (Below.refl _ _) 1)) j)
   change Hid (Calls _ _ _ wr.drew _)at hat
   have E1:=J0 (fun w1:World=>Mds.Ald (R j).m false (atN l j) (Bbe l j) on w1)
   have hb:=J0 (fun w1 (hb:Below wr.heap.size wr w1)=>And.intro (hM.below hb).free (hM.below hb).md8)
   have A4:=J0 (fun w1 (hb:Below wr.heap.size wr w1)=>(⟨by rw[U2.out j hlt];exact((hM.below hb).Axb ((R j).m.put false (atN l j) on)).1.tm,(hfr.trans (Scn.Fr.A1 hb)).trans ((hM.below hb).Axb _).2⟩:TM Z (mdW w1 t ((R j).m.put false (atN l j) on)) t (R (j+1))/\Scn.Fr Z TT w (mdW w1 t ((R j).m.put false (atN l j) on))))
   change Hid (∀w1:World,Calls prog 276 #[.agg #[.bool (R j).m.a0,.bool (R j).m.a1,.bool (R j).m.a2,.bool (R j).m.a3,.bool (R j).m.a4,.bool (R j).m.a5,.bool (R j).m.a6,.bool (R j).m.a7],.bool false,.int .i64 (atN l j),.bool on] w1 fun e w'=>e=.returned (.tuple #[.agg (Mds.mA ((R j).m.put false (atN l j) on)),.bool (Mds.known false (atN l j))])/\Below w1.heap.size w1 w')at E1
   generalize (R j).m.put false (atN l j) on=m1 at E1 A4
   generalize Mds.known false (atN l j)=kk at E1
   generalize atN l j=nn at hat E1
   generalize (R j).m=m0 at c0 c1 c2 c3 c4 c5 c6 c7 E1 hb
   obtain⟨a0,a1,a2,a3,a4,a5,a6,a7⟩:=m0
   obtain⟨b0,b1,b2,b3,b4,b5,b6,b7⟩:=m1
   simp only[Mds.mA]at c0 c1 c2 c3 c4 c5 c6 c7 E1 hb
   have hd0:Below wr.heap.size wr wr.drew:=C7 (Below.refl _ _) 1
   clear hM hfr h0 hfp U2 hna
   go_wp2
   go_region_law (first
    |(go_simp;(go_at_call 241;(with_reducible refine(hat.out).mono ?_);rintro e w1 ⟨rfl,rfl⟩))
    |(go_simp;go_at_call 276;(with_reducible refine(E1.out _).mono ?_);rintro e w1 ⟨rfl,hb8⟩;have hb9:=A2 hd0 hb8;obtain⟨hf,d0,d1,d2,d3,d4,d5,d6,d7⟩:=hb.out _ hb9;have f0:=hf 0;have f1:=hf 1;have f2:=hf 2;have f3:=hf 3;have f4:=hf 4;have f5:=hf 5;have f6:=hf 6;have f7:=hf 7))
   all_goals
    have hr2:=A4.out _ hb9
    simp only[mdW]at hr2
    generalize ((((((((w1.setCell ⟨t,0,none⟩ (.bool b0)).setCell ⟨t,1,none⟩ (.bool b1)).setCell ⟨t,2,none⟩ (.bool b2)).setCell ⟨t,3,none⟩ (.bool b3)).setCell ⟨t,4,none⟩ (.bool b4)).setCell ⟨t,5,none⟩ (.bool b5)).setCell ⟨t,6,none⟩ (.bool b6)).setCell ⟨t,7,none⟩ (.bool b7))=w5 at hr2 |-
    replace hr2:=J0 hr2
    clear c0 c1 c2 c3 c4 c5 c6 c7 d0 d1 d2 d3 d4 d5 d6 d7 f0 f1 f2 f3 f4 f5 f6 f7 hb9 hb8 hf A4 hb E1 hat
    go_wp2
    go_roundw
    case rel=>exact⟨j+1,by omega,by go_num,hr2⟩
    case measure=>simp[intOf];omega
  ·obtain rfl:j=n:=by omega
   have hno:decide ((j:Int)<(j:Int))=false:=by simp
   have A4:=J0 (And.intro hM.tm hfr)
   clear hM hfr h0 hfp U2
   go_wp2
   go_end0
   exact⟨⟨_,rfl⟩,A4.out⟩
theorem Bve(h:TM Z w t T)(hp:NA Z w v l):Calls prog 202 #[.pointer (some ⟨t,0,none⟩),v] w (A7 Z w t (W9 T l true)):=by
 have hs:=J0 (Bfk h hp true)
 generalize W9 T l true=T1 at hs |-
 clear h hp
 go_enter func202,ntmps202
 go_wp2_with (first
  |(go_at_call 252;(with_reducible refine(hs.out).mono ?_);rintro e w4 ⟨⟨v4,rfl⟩,h4,hf4⟩))
 go_end0
 exact⟨⟨_,rfl⟩,h4,hf4⟩
theorem Btm(h:TM Z w t T)(hp:NA Z w v l):Calls prog 203 #[.pointer (some ⟨t,0,none⟩),v] w (A7 Z w t (W9 T l false)):=by
 have hs:=J0 (Bfk h hp false)
 generalize W9 T l false=T1 at hs |-
 clear h hp
 go_enter func203,ntmps203
 go_wp2_with (first
  |(go_at_call 252;(with_reducible refine(hs.out).mono ?_);rintro e w4 ⟨⟨v4,rfl⟩,h4,hf4⟩))
 go_end0
 exact⟨⟨_,rfl⟩,h4,hf4⟩
end
