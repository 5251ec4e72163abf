/- Part 49 of the proof that the card of EmuAside holds. -/
import Derived.Test.YtkjpjegmanpbfaaGreatDoorPA48
set_option maxHeartbeats 16000000
set_option maxRecDepth 100000
namespace Go.Proofs.YtkjpjegmanpbfaaGreatDoor.Emu
open Go RowKit Com Rw Lns Scn
section
variable {W w w':World}
theorem new_not (_:Tbl W) (r c b:Int) (h:¬ (Ag9 r c/\0<=b/\b<=10000)):Calls Tryz.prog 18 #[.int .i64 r,.int .i64 c,.int .i64 b] W fun e w'=>e=.returned (.tuple #[.pointer none,.int .i64 2])/\Below W.heap.size W w':=by
 by_cases hb:0<=b/\b<=10000
 ·obtain ⟨b,rfl⟩:=Int.eq_ofNat_of_zero_le hb.1
  refine tnew_size r c b (by omega) ?_ W
  by_cases h1:1<=r/\r<=512
  ·exact .inr fun h2=>h ⟨⟨h1,h2⟩,hb⟩
  ·exact .inl h1
 ·exact tnew_back r c b (by omega) W
theorem rm_new {r c b:Nat} (h1:1<=r) (h2:r<=12) (h3:1<=c) (h4:c<=512):Rm 0 (newT r c b):=by
 have hv:(newT r c b).vis.L.length=r:=Ag0 _ _ _ _
 refine ⟨Ck2 r c b h1 (by omega) h3 h4,by omega,?_,J5 _,J5 _,J5 _⟩
 show 1+r<=_
 omega
theorem Bq7 {r c b:Int} {os:List OpA} (h:Ca5 r c b os=true):r<=12/\c<=24/\b<=20/\os.length<=120/\os.all Aj4=true:=by
 unfold Ca5 at h
 simp only [Bool.and_eq_true,Bool.not_eq_true',Bool.or_eq_false_iff,decide_eq_false_iff_not] at h
 obtain ⟨⟨h1,h2,h3,h4⟩,h5⟩:=h
 exact ⟨by omega,by omega,by omega,by omega,h5⟩
theorem field6 (a0 a1 a2 a3 a4 a5 a6 a7:Value) (w:World):(Instr.field 46 (.agg #[a0,a1,a2,a3,a4,a5,a6,a7]) 6).run Tryz.prog w=.ok a6 w:=by kernel_rfl
theorem aside_no (r c b:Int) (al:Option Addr) (nl cl:Nat) (am:Option Addr) (nm cm:Nat) (hT:Tbl W) (hno:¬ (Ag9 r c/\0<=b/\b<=10000)):Calls Tryz.prog 5 #[.int .i64 r,.int .i64 c,.int .i64 b,.slice al nl cl,.slice am nm cm] W fun e w'=>e=.returned (.bool true)/\Below W.heap.size W w':=by
 have hkn:=J0 (fun w1 (hb:Below W.heap.size W w1)=>Bo3 (hT.below hb))
 have hnew:=J0 (new_not hT r c b hno)
 clear hT hno
 go_enter Tryz.func5,Tryz.ntmps5
 go_wp2_with (first|(go_at_call 18;(with_reducible refine (hnew.out).mono ?_);rintro e w1 ⟨rfl,hb1⟩)|(go_at_call 8;(with_reducible refine (hkn.out _ hb1).mono ?_);rintro e w2 ⟨rfl,hb2⟩))
 go_ret
 exact ⟨rfl,Aa0 hb1 hb2⟩
theorem aside_yes (r c b:Nat) (al:Option Addr) (cl:Nat) (l:List OpA) (am:Option Addr) (cm:Nat) (m:List OpA) (hT:Tbl W) (hr1:1<=r) (hr5:r<=512) (hc1:1<=c) (hc5:c<=512) (hb5:b<=10000) {nl nm:Nat} (hnle:l.length=nl) (hnme:m.length=nm) (hnl:Bi0 W al l) (hfl:∀ o∈l,OpIn W o) (hnm:Bi0 W am m) (hfm:∀ o∈m,OpIn W o):Calls Tryz.prog 5 #[.int .i64 r,.int .i64 c,.int .i64 b,.slice al nl cl,.slice am nm cm] W fun e w'=>e=.returned (.bool true)/\Below W.heap.size W w':=by
 have hkn:=J0 (fun w1 (hb:Below W.heap.size W w1)=>Bo3 (hT.below hb))
 have hnew:=J0 (Cj6 hT r c b hr1 hr5 hc1 hc5 hb5)
 have htl:=J0 (fun w1 (hb:Below W.heap.size W w1)=>By8 (wr:=w1) r c b (cp:=cl) hnl hnle hb)
 have htm:=J0 (fun w1 (hb:Below W.heap.size W w1)=>By8 (wr:=w1) r c b (cp:=cm) hnm hnme hb)
 have hopm:Hid (∀ k (hk:k<m.length),∃ ad,am=some ad/\∀ w',Below W.heap.size W w'->∀ j v,(opV m[k])[j]?=some v->w'.cell? ((ad.add (k*10)).add j)=some v):=J0 fun k hk=>Bd8 hnm hk
 have hdl:=J0 (fun Z wr d t T n (h:TZ Z W wr d t T) (hR:Rm n T) (ht:l.all Aj4=true) (h5:n+l.length<=500)=>Ce4 (cp:=cl) h hR hnl hfl ht h5 hnle)
 have hrm:=J0 (fun h=>rm_new (b:=b) hr1 h hc1 hc5)
 replace hnle:=J0 hnle
 replace hnme:=J0 hnme
 have hnmm:=J0 hnm
 have hfmm:=J0 hfm
 clear hT hnl hfl hnm hfm hr5 hb5
 go_enter Tryz.func5,Tryz.ntmps5
 go_upto_region 2 with ((go_at_call 18;(with_reducible refine (hnew.out).mono ?_);rintro e w1 ⟨d,t,rfl,hK,hb1⟩))
 have htl1:=J0 (htl.out _ hb1)
 cases hyl:Ca5 r c b l with
 |false =>
  rw [hyl] at htl1
  clear hyl hK
  go_wp2_with (first|(go_at_call 19;(with_reducible refine (htl1.out).mono ?_);rintro e w2 ⟨rfl,hb2⟩)|(go_at_call 8;(with_reducible refine (hkn.out _ (Aa0 hb1 hb2)).mono ?_);rintro e w3 ⟨rfl,hb3⟩))
  go_ret
  exact ⟨rfl,Aa0 (Aa0 hb1 hb2) hb3⟩
 |true =>
 rw [hyl] at htl1
 have htm1:=J0 (fun w2 (hb2:Below w1.heap.size w1 w2)=>htm.out _ (Aa0 hb1 hb2))
 cases hym:Ca5 r c b m with
 |false =>
  rw [hym] at htm1
  clear hyl hym hK
  go_wp2_with (first|(go_at_call 19;(with_reducible refine (htl1.out).mono ?_);rintro e w2 ⟨rfl,hb2⟩)|(go_at_call 19;(with_reducible refine (htm1.out _ hb2).mono ?_);rintro e w3 ⟨rfl,hb3⟩)|(go_at_call 8;(with_reducible refine (hkn.out _ (Aa0 (Aa0 hb1 hb2) hb3)).mono ?_);rintro e w4 ⟨rfl,hb4⟩))
  go_ret
  exact ⟨rfl,Aa0 (Aa0 (Aa0 hb1 hb2) hb3) hb4⟩
 |true =>
 rw [hym] at htm1
 obtain ⟨hr12,_,_,hl5,hla⟩:=Bq7 hyl
 obtain ⟨_,_,_,hm5,hma⟩:=Bq7 hym
 clear hyl hym
 go_upto_region 4 with (first|(go_at_call 19;(with_reducible refine (htl1.out).mono ?_);rintro e w2 ⟨rfl,hb2⟩)|(go_at_call 19;(with_reducible refine (htm1.out _ hb2).mono ?_);rintro e w3 ⟨rfl,hb3⟩))
 have hK3:=J0 ((hK.on hb2).on hb3)
 clear htl1 htm1 hK hb1 hb2 hb3 hnew htl htm
 rw [hnle.out] at hl5
 rw [hnme.out] at hm5
 have hst:Hid (Below w3.heap.size w3 w3/\∀ o∈m.take 0,o.size=false/\stays o.x.kind o.x.priv o.x.fin):=J0 ⟨Below.refl _ _,fun o ho=>by simp at ho⟩
 go_wp2
 go_loopw [56] (fun i wr=>∃ k:Nat,k<=nm/\i=.int .i64 k/\Hid (Below w3.heap.size w3 wr/\∀ o∈m.take k,o.size=false/\stays o.x.kind o.x.priv o.x.fin)) (fun i _=>nm - (intOf i).toNat)
 case atStart=>exact ⟨0,Nat.zero_le _,rfl,hst⟩
 case round =>
  obtain ⟨k,hk,rfl,hQ⟩:=hrel
  clear hst
  by_cases hlt:k<nm
  ·have hkI:(k:Int)<(nm:Int):=by omega
   have hko:k<m.length:=by rw [hnme.out];exact hlt
   obtain ⟨hb3,hal⟩:=hQ.out
   have hbW:=(hK3.out.on hb3).below
   obtain ⟨ad,rfl,hcl⟩:=hopm.out k hko
   have hyes:Hid (m[k].size=false->stays m[k].x.kind m[k].x.priv m[k].x.fin->∀ o∈m.take (k+1),o.size=false/\stays o.x.kind o.x.priv o.x.fin):=J0 fun h1 h2 o ho=>by
    rw [List.take_add_one,List.getElem?_eq_getElem hko] at ho
    rcases List.mem_append.1 ho with ho|ho
    ·exact hal o ho
    ·obtain rfl:o=m[k]:=by simpa using ho
     exact ⟨h1,h2⟩
   have hnm5:nm<=120:=by omega
   clear hal hQ hopm hdl hrm hla hma hnmm hfmm
   generalize m[k]=o at hcl hyes
   have x0:∀ (j:Nat) (v:Value),([.int .u8 o.x.kind,.int .i32 o.x.r,.int .i32 o.x.priv,.slice o.q.pa o.x.params.length o.q.pc,.slice o.q.ia o.x.inter.length o.q.ic,.int .i32 o.x.fin,.slice o.q.ta o.x.text.length o.q.tc]:List Value)[j]?=some v->wr.cell? ((ad.add (k*10)).add j)=some v:=fun j v hj=>by
    refine hcl wr hbW j v ?_
    show (acV o.x o.q++_)[j]?=_
    exact (List.getElem?_append_left (List.getElem?_eq_some_iff.1 hj).1).trans hj
   obtain ⟨x,q,sz,rr,cc⟩:=o
   obtain ⟨kd,rv,pr,lp,li,f,lt⟩:=x
   obtain ⟨pa,pc,ia,ic,ta,tc⟩:=q
   simp only at x0 hyes
   generalize lp.length=pn at x0
   generalize li.length=im at x0
   generalize lt.length=tn at x0
   go_upto_region 8 with ((with_reducible show wpList _ _ _ (⟨some 63,.load _ (.tmp 62),_,_,_,_⟩::_) _ _;go_must (refine Rw.wpList_loadAt rfl 25 (.tmp 62) rfl (ad.add (k*10)) rfl [.int .u8 kd,.int .i32 rv,.int .i32 pr,.slice pa pn pc,.slice ia im ic,.int .i32 f,.slice ta tn tc] _ x0 Tryz.underlying25 rfl (by kernel_rfl) ?_)))
   have hbn:=Aa1 wr (.cells #[.int .u8 kd,.int .i32 rv,.int .i32 pr,.slice pa pn pc,.slice ia im ic,.int .i32 f,.slice ta tn tc] 25)
   have hbx:=Block.made wr 25 #[.int .u8 kd,.int .i32 rv,.int .i32 pr,.slice pa pn pc,.slice ia im ic,.int .i32 f,.slice ta tn tc]
   have x7:(wr.alloc (.cells #[.int .u8 kd,.int .i32 rv,.int .i32 pr,.slice pa pn pc,.slice ia im ic,.int .i32 f,.slice ta tn tc] 25)).cell? ⟨(ad.add (k*10)).block,(ad.add (k*10)).off+7,none⟩=some (.bool sz):=hcl _ (Aa0 hbW hbn) 7 _ rfl
   have hb5:=Aa0 hbW hbn
   have y0:=hbx.cell 0 (v:=.int .u8 kd) rfl
   have y2:=hbx.cell 2 (v:=.int .i32 pr) rfl
   have y5:=hbx.cell 5 (v:=.int .i32 f) rfl
   have hB3:=Aa0 hb3 hbn
   generalize wr.heap.size=bx at hbx y0 y2 y5 |-
   generalize wr.alloc (.cells #[.int .u8 kd,.int .i32 rv,.int .i32 pr,.slice pa pn pc,.slice ia im ic,.int .i32 f,.slice ta tn tc] 25)=w5 at hbn hbx x7 hb5 y0 y2 y5 hB3 |-
   clear hbn hbx x0 hcl hb3 hbW hK3
   cases sz with
   |true =>
    have hst2:=J0 (trivial)
    clear hyes hst2
    go_wp2_with ((go_at_call 8;(with_reducible refine (hkn.out _ hb5).mono ?_);rintro e w6 ⟨rfl,hb6⟩))
    go_ret
    exact ⟨rfl,Aa0 hb5 hb6⟩
   |false =>
    have hst2:Hid (stays kd pr f->Below w3.heap.size w3 w5/\∀ o∈m.take (k+1),o.size=false/\stays o.x.kind o.x.priv o.x.fin):=J0 fun h=>⟨hB3,hyes.out rfl h⟩
    by_cases nkd3:kd=3
    ·subst nkd3
     by_cases nf99:f=99
     ·subst nf99
      clear hyes hst2
      go_wp2_with ((go_at_call 8;(with_reducible refine (hkn.out _ hb5).mono ?_);rintro e w6 ⟨rfl,hb6⟩))
      go_ret
      exact ⟨rfl,Aa0 hb5 hb6⟩
     ·have ef99:decide (f=99)=false:=decide_eq_false nf99
      have gf99:(f == 99)=false:=beq_eq_false_iff_ne.2 nf99
      have hst3:=J0 (hst2.out (by unfold stays;omega))
      clear hyes hst2
      go_wp2
      go_roundw
      case rel=>exact ⟨k+1,by omega,by go_num,hst3⟩
      case measure=>simp [intOf];omega
    ·have ekd3:decide (kd=3)=false:=decide_eq_false nkd3
     have gkd3:(kd == 3)=false:=beq_eq_false_iff_ne.2 nkd3
     by_cases nkd4:kd=4
     ·subst nkd4
      by_cases npr:pr=0
      ·subst npr
       by_cases nf74:f=74
       ·subst nf74
        clear hyes hst2
        go_wp2_with ((go_at_call 8;(with_reducible refine (hkn.out _ hb5).mono ?_);rintro e w6 ⟨rfl,hb6⟩))
        go_ret
        exact ⟨rfl,Aa0 hb5 hb6⟩
       ·have ef74:decide (f=74)=false:=decide_eq_false nf74
        have gf74:(f == 74)=false:=beq_eq_false_iff_ne.2 nf74
        have hst3:=J0 (hst2.out (by unfold stays;omega))
        clear hyes hst2
        go_wp2
        go_roundw
        case rel=>exact ⟨k+1,by omega,by go_num,hst3⟩
        case measure=>simp [intOf];omega
      ·have epr:(pr != 0)=true:=by simpa using npr
       by_cases nf104:f=104
       ·subst nf104
        clear hyes hst2
        go_wp2_with ((go_at_call 8;(with_reducible refine (hkn.out _ hb5).mono ?_);rintro e w6 ⟨rfl,hb6⟩))
        go_ret
        exact ⟨rfl,Aa0 hb5 hb6⟩
       ·have ef104:decide (f=104)=false:=decide_eq_false nf104
        have gf104:(f == 104)=false:=beq_eq_false_iff_ne.2 nf104
        by_cases nf108:f=108
        ·subst nf108
         clear hyes hst2
         go_wp2_with ((go_at_call 8;(with_reducible refine (hkn.out _ hb5).mono ?_);rintro e w6 ⟨rfl,hb6⟩))
         go_ret
         exact ⟨rfl,Aa0 hb5 hb6⟩
        ·have ef108:decide (f=108)=false:=decide_eq_false nf108
         have gf108:(f == 108)=false:=beq_eq_false_iff_ne.2 nf108
         by_cases nf74:f=74
         ·subst nf74
          clear hyes hst2
          go_wp2_with ((go_at_call 8;(with_reducible refine (hkn.out _ hb5).mono ?_);rintro e w6 ⟨rfl,hb6⟩))
          go_ret
          exact ⟨rfl,Aa0 hb5 hb6⟩
         ·have ef74:decide (f=74)=false:=decide_eq_false nf74
          have gf74:(f == 74)=false:=beq_eq_false_iff_ne.2 nf74
          have hst3:=J0 (hst2.out (by unfold stays;omega))
          clear hyes hst2
          go_wp2
          go_roundw
          case rel=>exact ⟨k+1,by omega,by go_num,hst3⟩
          case measure=>simp [intOf];omega
     ·have ekd4:decide (kd=4)=false:=decide_eq_false nkd4
      have gkd4:(kd == 4)=false:=beq_eq_false_iff_ne.2 nkd4
      have hst3:=J0 (hst2.out (by unfold stays;omega))
      clear hyes hst2
      go_wp2
      go_roundw
      case rel=>exact ⟨k+1,by omega,by go_num,hst3⟩
      case measure=>simp [intOf];omega
  ·obtain rfl:k=nm:=by omega
   obtain ⟨hb3,hal⟩:=hQ.out
   have hK4:=J0 (hK3.out.on hb3)
   rw [List.take_of_length_le (by rw [hnme.out];exact J5 _)] at hal
   replace hal:=J0 hal
   clear hQ hK3 hb3 hopm
   have hdo1:=J0 (hdl.out _ _ d t _ 0 hK4.out.tz (hrm.out (by omega)) hla (by rw [hnle.out];omega))
   have hpd0:Pd (newT r c b):=fun h9=>by cases h9
   have hpd:=J0 (pd_run l hpd0 (hrm.out (by omega)).ok)
   have hRk:Hid (Rm nl (runT (newT r c b) l)):=J0 (by
    have h:=(hrm.out (by omega)).run (os:=l) fun o ho=>List.all_eq_true.1 hla o ho
    rw [Nat.zero_add,hnle.out] at h
    exact h)
   generalize runT (newT r c b) l=T at hdo1 hpd hRk
   generalize hZe:(fun k=>W.heap.size<=k)=Z at hdo1
   have hmod:=J0 (fun w5 (h5:TZ Z W w5 d t T)=>tmodes_any h5.tv)
   have hfm:∀ w,(Instr.field 46 (.agg (Mds.mA T.m)) 6).run Tryz.prog w=.ok (.bool T.m.a6) w:=fun w=>field6 _ _ _ _ _ _ _ _ w
   clear hdl hrm hla hpd0 hZe hK4
   cases h6:T.m.a6 with
   |true =>
    rw [h6] at hfm
    clear h6 hal hma hpd hRk hnmm hfmm
    generalize Mds.mA T.m=mA at hmod hfm
    go_wp2_with (first|(go_at_call 20;(with_reducible refine (hdo1.out).mono ?_);rintro e w5 ⟨rfl,hT5,_,_⟩)|(go_at_call 13;(with_reducible refine (hmod.out _ hT5).mono ?_);rintro e w6 ⟨rfl,hb6⟩;have hb56:=hb6;replace hT5:=hT5.on hb6;clear hb6)|(go_at_call 8;(with_reducible refine (hkn.out _ hT5.below).mono ?_);rintro e w7 ⟨rfl,hb7⟩))
    go_ret
    exact ⟨rfl,Aa0 hT5.below hb7⟩
   |false =>
    rw [h6] at hfm
    obtain ⟨T1,T2,T3,h3,kon,kdo,koff,kg0,kg3,kb0,kb3⟩:=aside_kit (Z:=Z) (d:=d) (t:=t) (cm:=cm) hpd.out hRk.out (by omega) h6 hnmm.out hfmm.out hma hal.out hnme.out hm5
    have hn5:=hRk.out.ok.fit.len5
    have hc5:=hRk.out.ok.fit.c5
    generalize T.vis.L.length=n at kg0 kg3 hn5
    generalize T.vis.cols=cols at kg0 kg3 hc5
    generalize T.vis.L=L at kg0 kg3
    generalize T.c.row=row at kg0 kg3
    generalize T.c.col=col at kg0 kg3
    generalize T.c.pend=pn at kg0 kg3
    generalize T.vis.top=tp at kg0 kg3
    generalize T.vis.bot=bt at kg0 kg3
    generalize T.p.a.f=f at kg0 kg3
    generalize T.p.a.b=b' at kg0 kg3
    generalize T.p.a.g=g at kg0 kg3
    generalize T.R.length=rn at kb0 kb3
    generalize T.R=R at kb0 kb3
    generalize (!T.m.a5)=h0 at kg0
    replace kon:=J0 (fun w1 g c (h:TZ Z W w1 d t T) hb hc=>kon w1 g c h hb hc)
    replace kdo:=J0 (fun w1 (h:TZ Z W w1 d t T1)=>kdo w1 h)
    replace koff:=J0 (fun w1 g c (h:TZ Z W w1 d t T2) hb hc=>koff w1 g c h hb hc)
    replace kg0:=J0 (fun w1 (h:TZ Z W w1 d t T)=>kg0 w1 h)
    replace kg3:=J0 (fun w1 (h:TZ Z W w1 d t T3)=>kg3 w1 h)
    replace kb0:=J0 (fun w1 (h:TZ Z W w1 d t T)=>kb0 w1 h)
    replace kb3:=J0 (fun w1 (h:TZ Z W w1 d t T3)=>kb3 w1 h)
    clear hpd hal hma hnmm hfmm hRk
    go_upto_region 13 with (first|(go_at_call 20;(with_reducible refine (hdo1.out).mono ?_);rintro e w5 ⟨rfl,hT5,_,_⟩)|(go_at_call 13;(with_reducible refine (hmod.out _ hT5).mono ?_);rintro e w6 ⟨rfl,hb6⟩;replace hT5:=hT5.on hb6;clear hb6))
    clear hdo1 hmod hfm h6
    generalize Mds.mA T.m=mA
    go_upto_region 14 with (first|(go_at_call 12;(with_reducible refine (kg0.out _ hT5).mono ?_);rintro e w7 ⟨g1,c1,g2,c2,rs,rfl,hg,hb7⟩;replace hT5:=hT5.on hb7)|(go_at_call 14;(with_reducible refine (kb0.out _ hT5).mono ?_);rintro e w8 ⟨ba,bc,hs,rfl,hB,hrn,hb8⟩;replace hT5:=hT5.on hb8;replace hg:=hg.below hb8))
    have hbn:=Aa1 w8 (.cells #[.slice (some ⟨g1,0,none⟩) n c1,.slice (some ⟨g2,0,none⟩) n c2,.int .i64 row,.int .i64 col,.bool pn,.bool h0,.bool true,.int .i64 tp,.int .i64 bt,.int .u32 f,.int .u32 b',.int .u16 g] 43)
    have hbx:=Block.made w8 43 #[.slice (some ⟨g1,0,none⟩) n c1,.slice (some ⟨g2,0,none⟩) n c2,.int .i64 row,.int .i64 col,.bool pn,.bool h0,.bool true,.int .i64 tp,.int .i64 bt,.int .u32 f,.int .u32 b',.int .u16 g]
    replace hT5:=hT5.on hbn
    replace hg:=hg.below hbn
    replace hB:=hB.below hbn
    generalize w8.heap.size=bg at hbx |-
    generalize w8.alloc (.cells #[.slice (some ⟨g1,0,none⟩) n c1,.slice (some ⟨g2,0,none⟩) n c2,.int .i64 row,.int .i64 col,.bool pn,.bool h0,.bool true,.int .i64 tp,.int .i64 bt,.int .u32 f,.int .u32 b',.int .u16 g] 43)=w9 at hbx hT5 hg hB |-
    clear hbn kg0 kb0 hb7 hb8
    replace hrn:=J0 hrn
    replace hT5:=J0 hT5
    replace hg:=J0 hg
    replace hB:=J0 hB
    replace hbx:=J0 hbx
    go_upto_region 15 with (fail)
    have hb1:=Aa1 w9 (.cells #[.int .i64 1049] 3)
    have hi1:=Block.made w9 3 #[.int .i64 1049]
    have hb2:=Aa1 (w9.alloc (.cells #[.int .i64 1049] 3)) (.cells #[.int .u8 4,.int .i32 0,.int .i32 63,.slice (some ⟨w9.heap.size,0,none⟩) 1 1,.slice none 0 0,.int .i32 104,.slice none 0 0] 25)
    have hx1:=Block.made (w9.alloc (.cells #[.int .i64 1049] 3)) 25 #[.int .u8 4,.int .i32 0,.int .i32 63,.slice (some ⟨w9.heap.size,0,none⟩) 1 1,.slice none 0 0,.int .i32 104,.slice none 0 0]
    replace hi1:=Block.only hi1 (Only.of_below hb2 []) (by simp)
    replace hb2:=Aa0 hb1 hb2
    rw [World.size_alloc] at hx1
    generalize (w9.alloc (.cells #[.int .i64 1049] 3)).alloc (.cells #[.int .u8 4,.int .i32 0,.int .i32 63,.slice (some ⟨w9.heap.size,0,none⟩) 1 1,.slice none 0 0,.int .i32 104,.slice none 0 0] 25)=w10 at hi1 hb2 hx1 |-
    generalize w9.heap.size+1=b1 at hx1 |-
    obtain ⟨gi,hgi⟩:∃ gi,gi=w9.heap.size:=⟨_,rfl⟩
    rw [<- hgi] at hi1 hx1 |-
    replace hgi:=J0 hgi
    replace hb2:=J0 hb2
    have x0:=hx1.cell 0 (v:=.int .u8 4) rfl
    have x1:=hx1.cell 1 (v:=.int .i32 0) rfl
    have x2:=hx1.cell 2 (v:=.int .i32 63) rfl
    have x3:=hx1.cell 3 (v:=.slice (some ⟨gi,0,none⟩) 1 1) rfl
    have x4:=hx1.cell 4 (v:=.slice none 0 0) rfl
    have x5:=hx1.cell 5 (v:=.int .i32 104) rfl
    have x6:=hx1.cell 6 (v:=.slice none 0 0) rfl
    go_upto_region 16 with (fail)
    have hb3:=Aa1 w10 (.cells #[.int .u8 4,.int .i32 0,.int .i32 63,.slice (some ⟨gi,0,none⟩) 1 1,.slice none 0 0,.int .i32 104,.slice none 0 0] 25)
    have hx2:=Block.made w10 25 #[.int .u8 4,.int .i32 0,.int .i32 63,.slice (some ⟨gi,0,none⟩) 1 1,.slice none 0 0,.int .i32 104,.slice none 0 0]
    have hlo2:w9.heap.size<=w10.heap.size:=hb2.out.size
    have hlt1:=hx1.lt
    have hlti:=hi1.lt
    replace hi1:=Block.only hi1 (Only.of_below hb3 []) (by simp)
    replace hx1:=Block.only hx1 (Only.of_below hb3 []) (by simp)
    have hne:b1≠w10.heap.size:=fun e=>absurd hlt1 (by omega)
    have hnei:gi≠w10.heap.size:=fun e=>absurd hlti (by omega)
    replace hb3:=Aa0 hb2.out hb3
    clear hlt1 hlti
    generalize w10.alloc (.cells #[.int .u8 4,.int .i32 0,.int .i32 63,.slice (some ⟨gi,0,none⟩) 1 1,.slice none 0 0,.int .i32 104,.slice none 0 0] 25)=w11 at hi1 hb3 hx1 hx2 |-
    generalize w10.heap.size=b2 at hx2 hlo2 hne hnei |-
    clear x0 x1 x2 x3 x4 x5 x6
    have fz:=hx2.free 5
    have x5:=hx2.cell 5 (v:=.int .i32 104) rfl
    go_upto_region 17 with (fail)
    have ho:=Only.setCell w11 ⟨b2,5,none⟩ (.int .i32 108)
    have hx2':Block (w11.setCell ⟨b2,5,none⟩ (.int .i32 108)) b2 25 #[.int .u8 4,.int .i32 0,.int .i32 63,.slice (some ⟨gi,0,none⟩) 1 1,.slice none 0 0,.int .i32 108,.slice none 0 0]:=hx2.set 5 _
    replace hi1:=Block.only hi1 ho (by simpa using hnei)
    replace hx1:=Block.only hx1 ho (by simpa using hne)
    replace hb3:=hb3.trans (ho.below hb3.size fun k hk=>by obtain rfl:k=b2:=(by simpa using hk);exact hlo2)
    clear hx2 ho fz x5
    generalize w11.setCell ⟨b2,5,none⟩ (.int .i32 108)=w12 at hi1 hb3 hx1 hx2' |-
    have x0:=hx1.cell 0 (v:=.int .u8 4) rfl
    have x1:=hx1.cell 1 (v:=.int .i32 0) rfl
    have x2:=hx1.cell 2 (v:=.int .i32 63) rfl
    have x3:=hx1.cell 3 (v:=.slice (some ⟨gi,0,none⟩) 1 1) rfl
    have x4:=hx1.cell 4 (v:=.slice none 0 0) rfl
    have x5:=hx1.cell 5 (v:=.int .i32 104) rfl
    have x6:=hx1.cell 6 (v:=.slice none 0 0) rfl
    have hT12:=J0 (hT5.out.on hb3)
    have hg12:=J0 (hg.out.below hb3)
    have hB12:=J0 (hB.out.below hb3)
    have hbx12:=J0 (Block.only hbx.out (Only.of_below hb3 []) (by simp))
    replace hi1:=J0 hi1
    replace hx2:=J0 hx2'
    clear hx1 hx2' hlo2 hne hnei hT5 hg hB hbx hb2 hb1 hb3
    have hone:1<=1/\1<=maxLen:=by simp [maxLen]
    go_upto_region 19 with (first|(go_at_call 9;(with_reducible refine (kon.out _ _ _ hT12.out hi1.out hone).mono ?_);rintro e w13 ⟨rfl,hT13,hf13⟩)|(go_at_call 20;(with_reducible refine (kdo.out _ hT13).mono ?_);rintro e w14 ⟨rfl,hT14,hf14⟩;have hi14:=Rw.Block.fr (Rw.Block.fr hi1.out (Aj9 hf13) (.inl (by decide))) (Aj9 hf14) (.inl (by decide));have hx14:=Rw.Block.fr (Rw.Block.fr hx2.out (Aj9 hf13) (.inl (by decide))) (Aj9 hf14) (.inl (by decide));have z0:=hx14.cell 0 (v:=.int .u8 4) rfl;have z1:=hx14.cell 1 (v:=.int .i32 0) rfl;have z2:=hx14.cell 2 (v:=.int .i32 63) rfl;have z3:=hx14.cell 3 (v:=.slice (some ⟨gi,0,none⟩) 1 1) rfl;have z4:=hx14.cell 4 (v:=.slice none 0 0) rfl;have z5:=hx14.cell 5 (v:=.int .i32 108) rfl;have z6:=hx14.cell 6 (v:=.slice none 0 0) rfl)|(go_at_call 9;(with_reducible refine (koff.out _ _ _ hT14 hi14 hone).mono ?_);rintro e w15 ⟨rfl,hT15,hf15⟩))
    have hg15:=((hg12.out.fr (Aj9 hf13)).fr (Aj9 hf14)).fr (Aj9 hf15)
    have hB15:=((hB12.out.fr (Aj9 hf13)).fr (Aj9 hf14)).fr (Aj9 hf15)
    have hbx15:=Rw.Block.fr (Rw.Block.fr (Rw.Block.fr hbx12.out (Aj9 hf13) (.inl (by decide))) (Aj9 hf14) (.inl (by decide))) (Aj9 hf15) (.inl (by decide))
    clear hg12 hB12 hbx12 hf13 hf14 hf15 hT12 hT13 hT14 hi1 hi14 hx2 hx14 kon kdo koff x0 x1 x2 x3 x4 x5 x6 z0 z1 z2 z3 z4 z5 z6
    replace hg15:=J0 hg15
    replace hB15:=J0 hB15
    replace hbx15:=J0 hbx15
    go_upto_region 20 with (first|(go_at_call 12;(with_reducible refine (kg3.out _ hT15).mono ?_);rintro e w16 ⟨g3,c3,g4,c4,rs3,rfl,hg3,hb16⟩;replace hT15:=hT15.on hb16)|(go_at_call 14;(with_reducible refine (kb3.out _ hT15).mono ?_);rintro e w17 ⟨ba3,bc3,hs3,rfl,hB3,_,hb17⟩;replace hT15:=hT15.on hb17))
    have hbn:=Aa1 w17 (.cells #[.slice (some ⟨g3,0,none⟩) n c3,.slice (some ⟨g4,0,none⟩) n c4,.int .i64 row,.int .i64 col,.bool pn,.bool h3,.bool true,.int .i64 tp,.int .i64 bt,.int .u32 f,.int .u32 b',.int .u16 g] 43)
    have hbx3:=Block.made w17 43 #[.slice (some ⟨g3,0,none⟩) n c3,.slice (some ⟨g4,0,none⟩) n c4,.int .i64 row,.int .i64 col,.bool pn,.bool h3,.bool true,.int .i64 tp,.int .i64 bt,.int .u32 f,.int .u32 b',.int .u16 g]
    have hbt:=Aa0 (Aa0 hb16 hb17) hbn
    replace hT15:=hT15.on hbn
    replace hg3:=(hg3.below hb17).below hbn
    replace hB3:=hB3.below hbn
    have hg0:=hg15.out.below hbt
    have hB0:=hB15.out.below hbt
    have hbx0:=Block.only hbx15.out (Only.of_below hbt []) (by simp)
    generalize w17.heap.size=bg3 at hbx3 |-
    generalize w17.alloc (.cells #[.slice (some ⟨g3,0,none⟩) n c3,.slice (some ⟨g4,0,none⟩) n c4,.int .i64 row,.int .i64 col,.bool pn,.bool h3,.bool true,.int .i64 tp,.int .i64 bt,.int .u32 f,.int .u32 b',.int .u16 g] 43)=w19 at hbx3 hT15 hg3 hB3 hg0 hB0 hbx0 |-
    have hbW:=J0 hT15.below
    clear hbn hbt kg3 kb3 hb16 hb17 hg15 hB15 hbx15 hT15
    have hall:=J0 (fun w1 (hb:Below w19.heap.size w19 w1)=>And.intro (hg0.below hb) (And.intro (hg3.below hb) (And.intro (hB0.below hb) (And.intro (hB3.below hb) (And.intro (Block.only hbx0 (Only.of_below hb []) (by simp)) (Block.only hbx3 (Only.of_below hb []) (by simp)))))))
    clear hg0 hg3 hB0 hB3 hbx0 hbx3
    obtain ⟨_,_,_,_,hq0,hq3⟩:=hall.out _ (Below.refl _ _)
    have y0:=hq0.cell 0 (v:=.slice (some ⟨g1,0,none⟩) n c1) rfl
    have y3:=hq3.cell 0 (v:=.slice (some ⟨g3,0,none⟩) n c3) rfl
    have y6:=hq3.cell 6 (v:=.bool true) rfl
    have zr:((rn:Int) != (rn:Int))=false:=by simp
    have zn:((n:Int) != (n:Int))=false:=by simp
    clear hq0 hq3
    go_wp2
    clear y0 y3 y6
    go_loopw [170] (fun i wr=>∃ k:Nat,k<=rn/\i=.int .i64 k/\Hid (Below w19.heap.size w19 wr)) (fun i _=>rn - (intOf i).toNat)
    case atStart=>exact ⟨0,Nat.zero_le _,rfl,J0 (Below.refl _ _)⟩
    case round =>
     obtain ⟨k,hk,rfl,hQ⟩:=hrel
     obtain ⟨_,_,hqB,hqB3,hq0,hq3⟩:=hall.out _ hQ.out
     by_cases hlt:k<rn
     ·have hkI:(k:Int)<(rn:Int):=by omega
      have hkm:IntKind.i64.wrap ((k:Int)+1)=(k:Int)+1:=IntWalk.i64_in _ (by have h:=hrn.out;unfold maxLen at h;omega)
      obtain ⟨ga,rfl,xa⟩:=hqB.at hlt
      obtain ⟨gb,rfl,xb⟩:=hqB3.at hlt
      generalize (R[k]'(by rw [hqB.len];exact hlt)).1=y at xa xb
      have zy:(y != y)=false:=by simp
      clear hqB hqB3 hq0 hq3
      go_upto_region 25 with (fail)
      go_quiet (fail)
      go_wp2
      go_roundw
      case rel=>exact ⟨k+1,by omega,by go_num,J0 (Aa4 hQ.out _)⟩
      case measure=>simp [intOf];omega
     ·obtain rfl:k=rn:=by omega
      have y0:=hq0.cell 0 (v:=.slice (some ⟨g1,0,none⟩) n c1) rfl
      clear hqB hqB3 hq0 hq3
      go_wp2
      clear y0
      go_loopw [188] (fun i wr=>∃ k:Nat,k<=n/\i=.int .i64 k/\Hid (Below w19.heap.size w19 wr)) (fun i _=>n - (intOf i).toNat)
      case atStart=>exact ⟨0,Nat.zero_le _,rfl,hQ⟩
      case round =>
       clear hQ
       obtain ⟨i,hi,rfl,hQ⟩:=hrel
       obtain ⟨hqg,hqg3,_,_,hq0,hq3⟩:=hall.out _ hQ.out
       have y0:=hq0.cell 0 (v:=.slice (some ⟨g1,0,none⟩) n c1) rfl
       have y3:=hq3.cell 0 (v:=.slice (some ⟨g3,0,none⟩) n c3) rfl
       have y1:=hq0.cell 1 (v:=.slice (some ⟨g2,0,none⟩) n c2) rfl
       have y4:=hq3.cell 1 (v:=.slice (some ⟨g4,0,none⟩) n c4) rfl
       by_cases hlt2:i<n
       ·have hiI:(i:Int)<(n:Int):=by omega
        obtain ⟨xr,q0,q1,-⟩:=hqg.row hlt2
        obtain ⟨xr3,q3,q4,-⟩:=hqg3.row hlt2
        generalize (L[i]'(by rw [hqg.llen];exact hlt2)).1=y at q1 q4
        have zy:(y != y)=false:=by simp
        have zc:((cols:Int) != (cols:Int))=false:=by simp
        clear hqg hqg3 hq0 hq3
        go_upto_region 31 with (fail)
        go_quiet (fail)
        go_wp2
        clear y0 y3 y1 y4 q0 q1 q3 q4 zy zc
        go_loopw [223] (fun i wr=>∃ j:Nat,j<=cols/\i=.int .i64 j/\Hid (Below w19.heap.size w19 wr)) (fun i _=>cols - (intOf i).toNat)
        case atStart=>exact ⟨0,Nat.zero_le _,rfl,J0 (Aa4 hQ.out _)⟩
        case round =>
         clear hQ
         obtain ⟨j,hj,rfl,hQ⟩:=hrel
         obtain ⟨hqg,hqg3,_,_,hq0,hq3⟩:=hall.out _ hQ.out
         have y0:=hq0.cell 0 (v:=.slice (some ⟨g1,0,none⟩) n c1) rfl
         have y3:=hq3.cell 0 (v:=.slice (some ⟨g3,0,none⟩) n c3) rfl
         by_cases hlt3:j<cols
         ·have hjI:(j:Int)<(cols:Int):=by omega
          obtain ⟨xr,q0,-,p0⟩:=hqg.row hlt2
          obtain ⟨xr3,q3,-,p3⟩:=hqg3.row hlt2
          obtain ⟨m0,-,m3,m4,m5,-⟩:=p0 j hlt3
          obtain ⟨v0,-,v3,v4,v5,-⟩:=p3 j hlt3
          generalize ((L[i]'(by rw [hqg.llen];exact hlt2)).2[j]'(by rw [hqg.wid _ (List.getElem_mem _)];exact hlt3))=ce at m0 m3 m4 m5 v0 v3 v4 v5
          have z1:(ce.r != ce.r)=false:=by simp
          have z2:(ce.a.f != ce.a.f)=false:=by simp
          have z3:(ce.a.b != ce.a.b)=false:=by simp
          have z4:(ce.a.g != ce.a.g)=false:=by simp
          clear p0 p3 hqg hqg3 hq0 hq3
          go_upto_region 36 with (fail)
          go_quiet (fail)
          go_wp2
          go_roundw
          case rel=>exact ⟨j+1,by omega,by go_num,J0 (Aa4 hQ.out _)⟩
          case measure=>simp [intOf];omega
         ·obtain rfl:j=cols:=by omega
          clear hqg hqg3 hq0 hq3 y0 y3
          go_wp2
          go_roundw
          case rel=>exact ⟨i+1,by omega,by go_num,hQ⟩
          case measure=>simp [intOf];omega
       ·obtain rfl:i=n:=by omega
        clear hqg hqg3 y0 y3 y1 y4
        have y2:=hq0.cell 2 (v:=.int .i64 row) rfl
        have y3:=hq0.cell 3 (v:=.int .i64 col) rfl
        have y4:=hq0.cell 4 (v:=.bool pn) rfl
        have y7:=hq0.cell 7 (v:=.int .i64 tp) rfl
        have y8:=hq0.cell 8 (v:=.int .i64 bt) rfl
        have y9:=hq0.cell 9 (v:=.int .u32 f) rfl
        have y10:=hq0.cell 10 (v:=.int .u32 b') rfl
        have y11:=hq0.cell 11 (v:=.int .u16 g) rfl
        have x2:=hq3.cell 2 (v:=.int .i64 row) rfl
        have x3:=hq3.cell 3 (v:=.int .i64 col) rfl
        have x4:=hq3.cell 4 (v:=.bool pn) rfl
        have x7:=hq3.cell 7 (v:=.int .i64 tp) rfl
        have x8:=hq3.cell 8 (v:=.int .i64 bt) rfl
        have x9:=hq3.cell 9 (v:=.int .u32 f) rfl
        have x10:=hq3.cell 10 (v:=.int .u32 b') rfl
        have x11:=hq3.cell 11 (v:=.int .u16 g) rfl
        have hbq:=Aa0 hbW.out hQ.out
        clear hq0 hq3 hall
        go_wp2_with ((go_at_call 8;(with_reducible refine (hkn.out _ hbq).mono ?_);rintro e w20 ⟨rfl,hb20⟩))
        go_ret
        exact ⟨rfl,Aa0 hbq hb20⟩
theorem aside_law (r:Int) (_:(Lit.int .i64 r).wf=true) (c:Int) (_:(Lit.int .i64 c).wf=true) (b:Int) (_:(Lit.int .i64 b).wf=true) (al:Option Addr) (cl:Nat) (l:List OpA) (_:l.length<=cl) (_:cl<=maxLen) (am:Option Addr) (cm:Nat) (m:List OpA) (_:m.length<=cm) (_:cm<=maxLen) (W:World) (hT:Tbl W) (hl:Bi0 W al l) (fl:∀ o∈l,OpIn W o) (hm:Bi0 W am m) (fm:∀ o∈m,OpIn W o):Calls Tryz.prog 5 #[.int .i64 r,.int .i64 c,.int .i64 b,.slice al l.length cl,.slice am m.length cm] W fun e w'=>e=.returned (.bool true)/\Below W.heap.size W w':=by
 by_cases h:Ag9 r c/\0<=b/\b<=10000
 ·obtain ⟨⟨⟨h1,h2⟩,h3,h4⟩,h5,h6⟩:=h
  obtain ⟨r,rfl⟩:=Int.eq_ofNat_of_zero_le (show 0<=r by omega)
  obtain ⟨c,rfl⟩:=Int.eq_ofNat_of_zero_le (show 0<=c by omega)
  obtain ⟨b,rfl⟩:=Int.eq_ofNat_of_zero_le h5
  exact aside_yes r c b al cl l am cm m hT (by omega) (by omega) (by omega) (by omega) (by omega) rfl rfl hl fl hm fm
 ·exact aside_no r c b al _ cl am _ cm hT h
end
