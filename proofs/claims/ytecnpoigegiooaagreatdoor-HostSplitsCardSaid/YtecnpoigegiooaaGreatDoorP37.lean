/- Part 37 of HostSplits. -/
import Derived.Shelf.Abstract
import Derived.Test.YtecnpoigegiooaaGreatDoorP36
set_option maxHeartbeats 16000000
set_option maxRecDepth 100000
namespace Go.Proofs.YtecnpoigegiooaaGreatDoor.Emu
open Go RowKit Com Rw Lns Scn
section
variable {Z Z1:Zn}{w w':World}{t x s:Nat}{S:Scr}{T:Ter}{P:Pt}{v:Value}{l:List Int}{kd:IntKind}{b:Nat}{m:List Ent}
theorem MpN.fr {B:Zn} {ts:List TypeId} (h:MpN w b kd m) (hf:Scn.Fr B ts w w'):MpN w' b kd m :=
 ⟨(hf.block b h.lt (.inr fun t' _ hT=>by obtain⟨cs,fz,hT⟩:=hT;rw[h.blk] at hT;cases hT)).trans h.blk,h.fine,h.nd⟩
structure Grow (T T':Ter):Prop where
 ok:Ok T'
 len:T'.main.L.length=T.main.L.length
 nx:T'.nx<=T.nx+T.main.L.length
 jr:T'.jr.length<=T.jr.length+2
theorem Az7 (ok:Ok T) (on:Bool):Grow T (setOther T on):=by
 refine⟨ok.setOther on,?_,?_,by have:=Ao5 T on;omega⟩
 ·unfold setOther
  split
  ·rfl
  ·cases on<;>rfl
 ·unfold setOther
  split
  ·omega
  ·cases on
   ·exact Nat.le_add_right _ _
   ·exact J5 _
theorem Cr6 (T:Ter) (s:Sav):(T.putSv s).main.L.length=T.main.L.length:=by unfold Ter.putSv;split<;>rfl
theorem Cq1 (ok:Ok T) (n:Int) (on:Bool):Grow T (Bg8 T n on):=by
 unfold Bg8
 split
 ·exact⟨(ok.setOrg on).move _ _,rfl,Nat.le_add_right _ _,by show (T.jr++[_]).length<=_;simp⟩
 ·split
  ·exact Az7 ok on
  ·split
   ·unfold setSaved
    split
    ·exact⟨ok.save,Cr6 _ _,by rw[show (save T).nx=T.nx from Bg5 _ _];omega,by rw[show (save T).jr=T.jr from Bg2 _ _];omega⟩
    ·exact⟨ok.restored.tellOther,rfl,Nat.le_add_right _ _,by show (T.jr++[_]).length<=_;simp⟩
   ·split
    ·unfold setOtherSaved
     split
     ·exact⟨ok,rfl,Nat.le_add_right _ _,by omega⟩
     ·split
      ·have g:=Az7 ok.save true
       have e1:(save T).main.L.length=T.main.L.length:=Cr6 _ _
       have e2:(save T).nx=T.nx:=Bg5 _ _
       have e3:(save T).jr=T.jr:=Bg2 _ _
       exact⟨g.ok,g.len.trans e1,by have:=g.nx;omega,by have:=Ao5 (save T) true;rw[e3] at this;omega⟩
      ·have g:=Az7 ok false
       exact⟨g.ok.restored.tellOther,g.len,g.nx,by have:=Ao5 T false;show ((setOther T false).jr++[_]).length<=_;simp;omega⟩
    ·rename_i h1 h2 h3 h4
     refine⟨⟨ok.fit,ok.fitm,ok.rows,ok.cols,ok.row,ok.col,ok.sv,ok.svm,ok.tn,?_⟩,rfl,Nat.le_add_right _ _,Nat.le_add_right _ _⟩
     show T.other.isSome=(T.m.put true n on).a6
     rw[ok.alt]
     have hs:Mds.spot true n≠6:=by
      unfold Mds.spot
      simp only[if_true]
      repeat' split
      all_goals first|omega|decide
     have hle:=Mds.spot_le true n
     unfold Mds.Md.put
     generalize Mds.spot true n=k at hs hle
     rcases Mds.small hle with rfl|rfl|rfl|rfl|rfl|rfl|rfl|rfl|rfl
     all_goals first|rfl|omega
theorem Bu8 (T:Ter) (l:List Int) (on:Bool) {j:Nat} (hj:j<l.length):Ac2 T (l.take (j+1)) on=Bg8 (Ac2 T (l.take j) on) (atN l j) on:=by
 unfold Ac2
 have ht:l.take (j+1)=l.take j++[l[j]]:=by rw[List.take_add_one,List.getElem?_eq_getElem hj];rfl
 rw[ht,List.foldl_append]
 simp only[List.foldl_cons,List.foldl_nil]
 rw[show atN l j=Aj4 l[j] by unfold atN;rw[List.getElem?_eq_getElem hj]]
theorem priv_grow (ok:Ok T) (l:List Int) (on:Bool):∀j,j<=l.length->Ok (Ac2 T (l.take j) on)/\(Ac2 T (l.take j) on).main.L.length=T.main.L.length/\(Ac2 T (l.take j) on).nx<=T.nx+j*T.main.L.length/\(Ac2 T (l.take j) on).jr.length<=T.jr.length+j*2:=by
 intro j
 induction j with
 |zero=>exact fun _=>⟨ok,rfl,by show T.nx<=_;omega,by show T.jr.length<=_;omega⟩
 |succ j ih =>
  intro hj
  obtain⟨h1,h2,h3,h4⟩:=ih (by omega)
  rw[Bu8 T l on hj]
  have g:=Cq1 h1 (atN l j) on
  refine⟨g.ok,g.len.trans h2,?_,?_⟩
  ·have:=g.nx
   rw[h2] at this
   rw[Nat.succ_mul]
   omega
  ·have:=g.jr
   omega
theorem neq_fn (f:FuncId) (w:World):(binOp .neq 289 (.func (.func f) #[] #[]) .nilFunc).run Tryz.prog w=.ok (.bool true) w:=by kernel_rfl
theorem neq_nil (w:World):(binOp .neq 289 .nilFunc .nilFunc).run Tryz.prog w=.ok (.bool false) w:=by kernel_rfl
def Ce3:List Ent:=[(6,.func (.func 277) #[] #[]),(47,.func (.func 278) #[] #[]),(1047,.func (.func 278) #[] #[]),(1048,.func (.func 279) #[] #[]),(1049,.func (.func 280) #[] #[])]
theorem more_none {n:Int} (h0:n≠6) (h1:n≠47) (h2:n≠1047) (h3:n≠1048) (h4:n≠1049):findM Ce3 n=none:=by
 simp[Ce3,findM,h0,h1,h2,h3,h4]
theorem Aq3 (h:TM Z w t T) (ok:Ok T) (hj9:T.jr.length+l.length*2<=89000000) (hnx:T.nx+l.length*T.main.L.length<=9900000000) (hp:NA Z w v l) (on:Bool):Calls Tryz.prog 257 #[.pointer (some ⟨t,0,none⟩),v,.bool on] w (Does Z w t (Ac2 T l on)):=by
 have hlen:=hp
 obtain⟨ao,cp,rfl,hl2,hl3,_,_⟩:=hlen
 have hgr:=priv_grow ok l on
 have hstep':=fun j (hj:j<l.length)=>Bu8 T l on hj
 obtain⟨R,hR⟩:∃R:Nat->Ter,R=fun j=>Ac2 T (l.take j) on:=⟨_,rfl⟩
 have hlast:Ac2 T l on=R l.length:=by rw[hR];simp
 have hstep:∀j,j<l.length->R (j+1)=Bg8 (R j) (atN l j) on:=fun j hj=>by rw[hR];exact hstep' j hj
 have hgo:∀j,j<=l.length->Ok (R j)/\(R j).nx<=9900000000/\(R j).jr.length<=89000000:=fun j hj=>by
  rw[hR]
  obtain⟨q1,q2,q3,q4⟩:=hgr j hj
  have:=Nat.mul_le_mul_right T.main.L.length hj
  exact⟨q1,Nat.le_trans q3 (by omega),Nat.le_trans q4 (by omega)⟩
 have h0:TM Z w t (R 0):=by rw[hR];exact h
 rw[hlast]
 replace hstep:=J0 hstep
 replace hgo:=J0 hgo
 replace h0:=J0 h0
 have hfp:=J0 (fun w1 (hf:Scn.Fr Z TT w w1)=>hp.fr hf)
 clear hstep' hgr hlast hR h hp ok hj9 hnx
 obtain⟨n,hn⟩:∃n,n=l.length:=⟨_,rfl⟩
 rw[<- hn] at hl2 hstep hfp hgo |-
 have hn9:n<=9223372036854775807:=by unfold maxLen at hl3;omega
 replace hn:=J0 hn
 have hmm:=@run_makeMap Tryz.prog
 have hneq:=neq_fn
 have hneqn:=neq_nil
 have hmp:=MpN.made w .i64
 have hbm:=Aa1 w (.map #[] 0)
 have hsz:(w.alloc (.map #[] 0)).heap.size=w.heap.size+1:=by simp
 go_enter Tryz.func257,Tryz.ntmps257
 go_upto_region 1 with (refine Am6 Cq7 hmp ?_ ?_ ?_;rfl;decide;clear hmp;intro wn hmp hon;replace hbm:=hbm.trans (hon.below hbm.size (by simp));clear hon)
 change MpN _ _ _ Ce3 at hmp
 have hf0:Scn.Fr Z TT w _:=Scn.Fr.of_below hbm
 replace hmp:=J0 hmp
 replace hf0:=J0 hf0
 replace h0:=J0 (h0.out.below hbm)
 replace hbm:=J0 hbm
 clear hsz
 go_wp2
 go_loopw [14] (fun iv wr=>∃j:Nat,j<=n/\iv=.int .i64 j/\Hid (TM Z wr t (R j)/\Scn.Fr Z TT w wr/\MpN wr w.heap.size .i64 Ce3)) (fun iv _=>n - (intOf iv).toNat)
 case atStart=>exact⟨0,Nat.zero_le _,rfl,J0 ⟨h0.out,hf0.out,hmp.out⟩⟩
 case round =>
  obtain⟨j,hj,rfl,hRr⟩:=hrel
  obtain⟨hM,hfr,hmr⟩:=hRr.out
  clear hRr h0 hf0 hmp hbm
  by_cases hlt:j<n
  ·have hjI:(j:Int)<(n:Int):=by omega
   obtain⟨hok,hnx,hjr⟩:=hgo.out j hj
   have hna:=hfp.out _ hfr
   have hat:=J0 (Br1 hna j)
   have hlk0:=(Bt5 Cq7 hmr (atN l j) (Bq5 l j)).1
   have hst:=hstep.out j hlt
   have hnext:=J0 (fun w1 (h1:TM Z w1 t (R (j+1))) (hf1:Scn.Fr Z TT wr w1)=>(⟨h1,hfr.trans hf1,hmr.fr hf1⟩:TM Z w1 t (R (j+1))/\Scn.Fr Z TT w w1/\MpN w1 w.heap.size .i64 Ce3))
   have hjr9:(R j).jr.length<=90000000:=by omega
   obtain⟨P,hM⟩:=hM
   have hd:(∃F,findM Ce3 (atN l j)=some (.func (.func F) #[] #[])/\(∀a w,(callFunc F a).run Tryz.prog w=.ok (.enter F a) w)/\Calls Tryz.prog F #[.pointer (some ⟨t,0,none⟩),.bool on] wr (Does Z wr t (R (j+1))))\/(atN l j≠6/\atN l j≠47/\atN l j≠1047/\atN l j≠1048/\atN l j≠1049):=by
    rw[hst]
    by_cases e0:atN l j=6
    ·rw[e0];exact .inl ⟨_,rfl,enters_of Tryz.func277 (by kernel_rfl) rfl,setOrigin_any hM.tm hok hjr9 on⟩
    by_cases e1:atN l j=47
    ·rw[e1];exact .inl ⟨_,rfl,enters_of Tryz.func278 (by kernel_rfl) rfl,Am3 hM.tm hok hjr9 hnx on⟩
    by_cases e2:atN l j=1047
    ·rw[e2];exact .inl ⟨_,rfl,enters_of Tryz.func278 (by kernel_rfl) rfl,Am3 hM.tm hok hjr9 hnx on⟩
    by_cases e3:atN l j=1048
    ·rw[e3];exact .inl ⟨_,rfl,enters_of Tryz.func279 (by kernel_rfl) rfl,setSaved_any hM.tm hok hjr9 on⟩
    by_cases e4:atN l j=1049
    ·rw[e4];exact .inl ⟨_,rfl,enters_of Tryz.func280 (by kernel_rfl) rfl,setOtherSaved_any hM.tm hok hjr hnx on⟩
    exact .inr ⟨e0,e1,e2,e3,e4⟩
   rcases hd with ⟨F,hF,hE,hcall⟩|⟨e0,e1,e2,e3,e4⟩
   ·rw[hF] at hlk0
    have hlk:(Instr.lookup 290 (.map (some w.heap.size)) (.int .i64 (atN l j)) false).run Tryz.prog wr=.ok (.func (.func F) #[] #[]) wr:=hlk0
    replace hcall:=J0 hcall
    clear hM hfr hmr hok hnx hjr hna hlk0 hst hjr9 hgo hstep hfp hF
    generalize atN l j=nn at hat hlk
    go_wp2_with (first
     |(go_at_call 241;(with_reducible refine(hat.out).mono ?_);rintro e w1 ⟨rfl,rfl⟩)
     |((with_reducible refine(hcall.out).mono ?_);rintro e w3 ⟨⟨v3,rfl⟩,h3,hf3⟩))
    have hr2:=J0 (hnext.out _ h3 hf3)
    clear h3 hf3
    go_roundw
    case rel=>exact⟨j+1,by omega,by go_num,hr2⟩
    case measure=>simp[intOf];omega
   have c0:=hM.c0
   have c1:=hM.c1
   have c2:=hM.c2
   have c3:=hM.c3
   have c4:=hM.c4
   have c5:=hM.c5
   have c6:=hM.c6
   have c7:=hM.c7
   have hput:=J0 (Mds.put_any (R j).m true (atN l j) (Bq5 l j) on wr)
   have hlk:(Instr.lookup 290 (.map (some w.heap.size)) (.int .i64 (atN l j)) false).run Tryz.prog wr=.ok .nilFunc wr:=by
    rw[hlk0,more_none e0 e1 e2 e3 e4]
    rfl
   have hp1:R (j+1)=putM (R j) true on (atN l j):=by
    rw[hst]
    unfold Bg8
    rw[if_neg e0,if_neg (by omega),if_neg e3,if_neg e4]
   have hb:=J0 (fun w1 (hb:Below wr.heap.size wr w1)=>And.intro (hM.below hb).free (hM.below hb).md8)
   have hres:=J0 (fun w1 (hb:Below wr.heap.size wr w1)=>hnext.out (mdW w1 t ((R j).m.put true (atN l j) on)) (by rw[hp1];exact((hM.below hb).setMd ((R j).m.put true (atN l j) on)).1.tm) ((Scn.Fr.of_below hb).trans ((hM.below hb).setMd _).2))
   change Hid (Calls Tryz.prog 276 #[.agg #[.bool (R j).m.a0,.bool (R j).m.a1,.bool (R j).m.a2,.bool (R j).m.a3,.bool (R j).m.a4,.bool (R j).m.a5,.bool (R j).m.a6,.bool (R j).m.a7],.bool true,.int .i64 (atN l j),.bool on] wr fun e w'=>e=.returned (.tuple #[.agg (Mds.mA ((R j).m.put true (atN l j) on)),.bool (Mds.known true (atN l j))])/\Below wr.heap.size wr w') at hput
   generalize (R j).m.put true (atN l j) on=m1 at hput hres
   generalize Mds.known true (atN l j)=kk at hput
   clear hM hfr hmr hok hnx hjr hna hlk0 hst hjr9 hgo hstep hfp hp1 hnext e0 e1 e2 e3 e4
   generalize atN l j=nn at hat hput hlk
   generalize (R j).m=m0 at c0 c1 c2 c3 c4 c5 c6 c7 hput hb
   obtain⟨a0,a1,a2,a3,a4,a5,a6,a7⟩:=m0
   obtain⟨b0,b1,b2,b3,b4,b5,b6,b7⟩:=m1
   simp only[Mds.mA] at c0 c1 c2 c3 c4 c5 c6 c7 hput hb
   go_wp2_with (first
    |(go_at_call 241;(with_reducible refine(hat.out).mono ?_);rintro e w1 ⟨rfl,rfl⟩)
    |(go_at_call 276;(with_reducible refine hput.out.mono ?_);rintro e w1 ⟨rfl,hb9⟩;obtain⟨hf,d0,d1,d2,d3,d4,d5,d6,d7⟩:=hb.out _ hb9;have f0:=hf 0;have f1:=hf 1;have f2:=hf 2;have f3:=hf 3;have f4:=hf 4;have f5:=hf 5;have f6:=hf 6;have f7:=hf 7))
   have hr2:=hres.out _ hb9
   simp only[mdW] at hr2
   replace hr2:=J0 hr2
   go_roundw
   case rel=>exact⟨j+1,by omega,by go_num,hr2⟩
   case measure=>simp[intOf];omega
  ·obtain rfl:j=n:=by omega
   have hno:decide ((j:Int)<(j:Int))=false:=by simp
   have hres:=J0 (And.intro hM hfr)
   clear hM hfr hfp hstep hgo hmr
   go_wp2
   go_end0
   exact⟨⟨_,rfl⟩,hres.out⟩
theorem privatesOn_any (h:TM Z w t T) (ok:Ok T) (hj9:T.jr.length+l.length*2<=89000000) (hnx:T.nx+l.length*T.main.L.length<=9900000000) (hp:NA Z w v l):Calls Tryz.prog 206 #[.pointer (some ⟨t,0,none⟩),v] w (Does Z w t (Ac2 T l true)):=by
 have hs:=J0 (Aq3 h ok hj9 hnx hp true)
 generalize Ac2 T l true=T1 at hs |-
 clear h hp ok hj9 hnx
 go_enter Tryz.func206,Tryz.ntmps206
 go_wp2_with (first
  |(go_at_call 257;(with_reducible refine(hs.out).mono ?_);rintro e w4 ⟨⟨v4,rfl⟩,h4,hf4⟩))
 go_end0
 exact⟨⟨_,rfl⟩,h4,hf4⟩
theorem privatesOff_any (h:TM Z w t T) (ok:Ok T) (hj9:T.jr.length+l.length*2<=89000000) (hnx:T.nx+l.length*T.main.L.length<=9900000000) (hp:NA Z w v l):Calls Tryz.prog 207 #[.pointer (some ⟨t,0,none⟩),v] w (Does Z w t (Ac2 T l false)):=by
 have hs:=J0 (Aq3 h ok hj9 hnx hp false)
 generalize Ac2 T l false=T1 at hs |-
 clear h hp ok hj9 hnx
 go_enter Tryz.func207,Tryz.ntmps207
 go_wp2_with (first
  |(go_at_call 257;(with_reducible refine(hs.out).mono ?_);rintro e w4 ⟨⟨v4,rfl⟩,h4,hf4⟩))
 go_end0
 exact⟨⟨_,rfl⟩,h4,hf4⟩
end
theorem Ci3:(Tryz.prog.info? 58).map (·.size)=some 1:=by kernel_rfl
theorem infoI32:(Tryz.prog.info? 21).map (·.size)=some 1:=by kernel_rfl
theorem Ca3:(Tryz.prog.info? 4).map (·.size)=some 1:=by kernel_rfl
theorem By9 (e:Ev):(evA e).size=10:=rfl
theorem Bn2 {w:World} {b:Nat} {e:Ev} (h:Block w b 73 (evA e)):w.heap[b]?=some (.cells (evA e) 73 (0,0)):=h
section
variable {Z Z1:Zn}{w w':World}{t x s:Nat}{S:Scr}{T:Ter}{P:Pt}{v:Value}{l:List Int}
theorem Am5 (h:TMx Z w t T P) (hj:T.jr.length<=90000000) (hpr:T.prints<=10000000000) (e:Ev) (r:Int):Calls Tryz.prog 165 #[.pointer (some ⟨t,0,none⟩),.agg (evA e),.int .i32 r] w fun x w'=>(∃v,x=.returned v)/\TM Z w' t (tellRune T e r)/\Scn.Fr Z TT w w':=by
 have hbn:=Aa1 w (.cells (evA e) 73)
 have hbx:Block (w.alloc (.cells (evA e) 73)) w.heap.size 73 (evA e):=Block.made w 73 (evA e)
 have hne:w.heap.size∉[t]:=by have:=h.blk.lt;simp;omega
 have k21:=(h.below hbn).c21
 have hs:=J0 (fun w1 (hb:Below w.heap.size w w1)=>And.intro (h.below hb).c21 (h.below hb).blk)
 have hfin:Hid (∀w1 w2,Below w.heap.size w w1->Block w2 t 102 ((terA T P).toList.take 21++[Value.int .u64 (T.prints+1:Nat)]++(terA T P).toList.drop (21+1)).toArray->Only [t] w1 w2->(∃P',TMx Z w2 t { T with prints:=T.prints+1 } P')/\Scn.Fr Z TT w w2):=J0 fun w1 w2 hb hB ho=>by
  obtain⟨q1,q2⟩:=(h.below hb).turn (m:=T.m) (c:=T.c) (p:=T.p) (n:=T.prints+1) (e:=T.last) ho hB
  exact⟨⟨P,q1⟩,(Scn.Fr.of_below hb).trans q2⟩
 have htl:Hid (∀w2,(∃P',TMx Z w2 t { T with prints:=T.prints+1 } P')->Calls Tryz.prog 222 #[.pointer (some ⟨t,0,none⟩),.agg (evA { e with ix:=T.prints,r:=r })] w2 (Does Z w2 t (tellRune T e r))):=J0 fun w2 ⟨P',h2⟩=>(Ay5 h2 hj { e with ix:=T.prints,r:=r }).mono fun x w' ⟨he,⟨jv,h3⟩,hf⟩=>⟨he,h3.tm,hf⟩
 have hsz:(terA T P).size=34:=rfl
 have hw:IntKind.u64.wrap ((T.prints:Int)+1)=((T.prints+1:Nat):Int):=IntWalk.u64_in _ (by omega)
 have hea:(((evA e).toList.take 1++[Value.int .u64 T.prints]++(evA e).toList.drop (1+1)).toArray.toList.take 5++[Value.int .i32 r]++((evA e).toList.take 1++[Value.int .u64 T.prints]++(evA e).toList.drop (1+1)).toArray.toList.drop (5+1)).toArray=evA { e with ix:=T.prints,r:=r }:=rfl
 replace hea:=J0 hea
 generalize hpn:T.prints=pr at *
 clear h hj hpr
 go_enter Tryz.func165,Tryz.ntmps165
 go_wp2_with (first
  |(with_reducible refine J8 11 ?_;go_must (refine Aa5 rfl _ (.tmp 11) (.tmp 9) rfl hbx (.int .u64 pr) rfl rfl (by rw[By9];omega) Ci3 rfl ?_);intro w1 hd1 ho1;have hb1:=hbn.trans (ho1.below hbn.size (by simp)))
  |(with_reducible refine J8 12 ?_;go_must (refine Aa5 rfl _ (.tmp 12) (.tmp 10) rfl hd1 (.int .i32 r) rfl rfl (by simp[By9]) infoI32 rfl ?_);intro w2 hd2 ho2;have hb2:=hb1.trans (ho2.below (Nat.le_trans hbn.size ho1.size) (by simp));obtain⟨c21,hB2⟩:=hs.out _ hb2)
  |(with_reducible refine J8 19 ?_;go_must (refine Aa5 rfl _ (.tmp 19) (.tmp 17) rfl hB2 (.int .u64 (pr+1:Nat)) rfl rfl (by rw[hsz];omega) Ci3 rfl ?_);intro w3 hd3 ho3;obtain⟨h3,hf3⟩:=hfin.out _ _ hb2 hd3 ho3;have hx3:=hd2.only ho3 hne;go_must (rw[hea.out] at hx3))
  |(with_reducible refine J9 21 4 ?_;go_must (refine wpList_load_row rfl _ (.tmp 4) rfl w.heap.size rfl _ (evA { e with ix:=pr,r:=r }) (0,0) _ (Bn2 hx3) Tryz.underlying73 rfl (Aw0 _) ?_))
  |(go_at_call 222;(with_reducible refine(htl.out _ h3).mono ?_);rintro e w4 ⟨⟨v4,rfl⟩,h4,hf4⟩))
 go_end0
 exact⟨⟨_,rfl⟩,h4,hf3.trans hf4⟩
theorem Bk0 (e:Ev) (line col:Int) (w:World):Calls Tryz.prog 164 #[.agg (evA e),.int .i64 line,.int .i64 col] w fun x w'=>x=.returned (.bool (isRuneAt e line col))/\Below w.heap.size w w':=by
 have hbn:=Aa1 w (.cells (evA e) 73)
 have hbx:Block (w.alloc (.cells (evA e) 73)) w.heap.size 73 (evA e):=Block.made w 73 (evA e)
 obtain⟨x0,_,x2,x3,_⟩:=EvB.cells hbx
 obtain⟨ek,eix,el,ec,ew,er,ebl,ela,efr,ewr⟩:=e
 unfold isRuneAt
 simp only[evA] at hbn hbx x0 x2 x3 |-
 clear hbx
 by_cases h1:ek=1
 ·have d1:(ek == 1)=true:=by simpa using h1
  have e1:decide (ek=1)=true:=decide_eq_true h1
  by_cases hl:el=line
  ·by_cases hc:ec=col
   ·have d3:(el == line)=true:=by simpa using hl
    have e3:decide (el=line)=true:=decide_eq_true hl
    have d4:(ec == col)=true:=by simpa using hc
    have e4:decide (ec=col)=true:=decide_eq_true hc
    rw[d1,d3,d4]
    go_enter Tryz.func164,Tryz.ntmps164
    go_wp2
    go_ret
    exact⟨rfl,Aa1 w _⟩
   ·have d3:(el == line)=true:=by simpa using hl
    have e3:decide (el=line)=true:=decide_eq_true hl
    have d4:(ec == col)=false:=by simpa using hc
    have e4:decide (ec=col)=false:=decide_eq_false hc
    rw[d1,d3,d4]
    go_enter Tryz.func164,Tryz.ntmps164
    go_wp2
    go_ret
    exact⟨rfl,Aa1 w _⟩
  ·have d3:(el == line)=false:=by simpa using hl
   have e3:decide (el=line)=false:=decide_eq_false hl
   rw[d1,d3]
   go_enter Tryz.func164,Tryz.ntmps164
   go_wp2
   go_ret
   exact⟨rfl,Aa1 w _⟩
 ·have d1:(ek == 1)=false:=by simpa using h1
  have e1:decide (ek=1)=false:=decide_eq_false h1
  by_cases h2:ek=2
  ·have d2:(ek == 2)=true:=by simpa using h2
   have e2:decide (ek=2)=true:=decide_eq_true h2
   by_cases hl:el=line
   ·by_cases hc:ec=col
    ·have d3:(el == line)=true:=by simpa using hl
     have e3:decide (el=line)=true:=decide_eq_true hl
     have d4:(ec == col)=true:=by simpa using hc
     have e4:decide (ec=col)=true:=decide_eq_true hc
     rw[d1,d2,d3,d4]
     go_enter Tryz.func164,Tryz.ntmps164
     go_wp2
     go_ret
     exact⟨rfl,Aa1 w _⟩
    ·have d3:(el == line)=true:=by simpa using hl
     have e3:decide (el=line)=true:=decide_eq_true hl
     have d4:(ec == col)=false:=by simpa using hc
     have e4:decide (ec=col)=false:=decide_eq_false hc
     rw[d1,d2,d3,d4]
     go_enter Tryz.func164,Tryz.ntmps164
     go_wp2
     go_ret
     exact⟨rfl,Aa1 w _⟩
   ·have d3:(el == line)=false:=by simpa using hl
    have e3:decide (el=line)=false:=decide_eq_false hl
    rw[d1,d2,d3]
    go_enter Tryz.func164,Tryz.ntmps164
    go_wp2
    go_ret
    exact⟨rfl,Aa1 w _⟩
  ·have d2:(ek == 2)=false:=by simpa using h2
   have e2:decide (ek=2)=false:=decide_eq_false h2
   rw[d1,d2]
   go_enter Tryz.func164,Tryz.ntmps164
   go_wp2
   go_ret
   exact⟨rfl,Aa1 w _⟩
end
section
variable {Z Z1:Zn}{w w':World}{t x s:Nat}{S:Scr}{T:Ter}{P:Pt}{v:Value}{l:List Int}
theorem way_f1 (h:TMx Z w t T P) (ok:Ok T) (hj:T.jr.length<=90000000) (hnx:T.nx<=9900000000) (n:Nat) (hn2:n<=2) (h4:T.m.a4=true) (h10:T.c.pend=true):Calls Tryz.prog 125 #[.pointer (some ⟨t,0,none⟩),.int .i64 n] w (Does Z w t (tellFeed (feed (setCol T 0)) true)):=by
 obtain⟨Z1,hf⟩:=h.focus
 have s0:=fun k:Eqt.Ext w=>(h.below k.below).s0
 have c9:=fun k:Eqt.Ext w=>(h.below k.below).c9
 have hsh:=J0 (fun k:Eqt.Ext w=>Aa8 (h.below k.below))
 have hco:=J0 (fun k:Eqt.Ext w=>Ai2 (hf.sc.below k.below) ok.fit.len)
 have hcol:=ok.col
 have hc5:=ok.fit.c5
 have hw:IntKind.i64.wrap ((T.c.col:Int)+(n:Int))=(T.c.col:Int)+(n:Int):=IntWalk.i64_in _ (by omega)
 have hd:∀b,Ao6 T n=b->decide ((T.vis.cols:Int)<(T.c.col:Int)+(n:Int))=b:=fun b hb=>by rw[<- hb];unfold Ao6;rw[decide_eq_decide];omega
 have hW:Hid (∀w9,Below w.heap.size w w9->w9.cell? ⟨t,4,none⟩=some (.bool true)/\w9.cell? ⟨t,10,none⟩=some (.bool true)/\w9.cell? ⟨t,9,none⟩=some (.int .i64 T.c.col)/\w9.frozen? ⟨t,9,none⟩=false/\TM Z (w9.setCell ⟨t,9,none⟩ (.int .i64 0)) t (setCol T 0)/\Scn.Fr Z TT w9 (w9.setCell ⟨t,9,none⟩ (.int .i64 0))):=J0 fun w9 hb=>⟨(by have:=(h.below hb).c4;rw[h4] at this;exact this),(by have:=(h.below hb).c10;rw[h10] at this;exact this),(h.below hb).c9,(h.below hb).free 9,((h.below hb).setCol 0).1.tm,((h.below hb).setCol 0).2⟩
 obtain⟨bt,hbt⟩:∃b,Ao6 T n=b:=⟨_,rfl⟩
 have hd2:=hd _ hbt
 clear hbt
 have ok0:=ok.setCol ok.fit.c1
 have hp:=J0 (fun w1 (h1:TM Z w1 t (setCol T 0))=>feed_any h1 ok0 hnx)
 have ht:=J0 (fun w1 (h1:TM Z w1 t (feed (setCol T 0)))=>Am4 h1 ok0.feed (by rw[Az5];exact hj) true)
 generalize feed (setCol T 0)=T1 at hp ht |-
 generalize tellFeed T1 true=T2 at ht |-
 generalize P.h T.other=hh at s0 hsh
 generalize P.x T.other=xx at s0 hco
 generalize T.vis.cols=cols at hco hd2 hc5 hcol
 generalize T.c.col=col at c9 hw hd2 hcol hW
 clear h ok hj hnx hf hd ok0
 go_enter Tryz.func125,Tryz.ntmps125
 go_wp2
 refine Eqt.region_ext (by kernel_rfl) (by kernel_rfl) ?_
 repeat (go_big_quiet_step (first
  |(go_at_call 68;exact Eqt.q_ext_same (hsh.out _))
  |(go_at_call 124;exact Eqt.q_ext_same (hco.out _))))
 refine wpQuiet_nil ?_
 intro w9 hw9
 obtain⟨k9,rfl⟩:=hw9
 have hb9:=k9.below
 generalize k9.w=w9 at hb9 |-
 obtain⟨k4,k10,k9,f9,hT9,hf9⟩:=hW.out _ hb9
 go_wp2_with (first
  |(go_at_call 166;(with_reducible refine(hp.out _ hT9).mono ?_);rintro e w1 ⟨⟨v1,rfl⟩,h1,hf1⟩)
  |(go_at_call 167;(with_reducible refine(ht.out _ h1).mono ?_);rintro e w2 ⟨⟨v2,rfl⟩,h2,hf2⟩))
 go_end0
 exact⟨⟨_,rfl⟩,h2,(((Aa9 hb9).trans hf9).trans hf1).trans hf2⟩
theorem way_f2 (h:TMx Z w t T P) (ok:Ok T) (hj:T.jr.length<=90000000) (hnx:T.nx<=9900000000) (n:Nat) (hn2:n<=2) (h4:T.m.a4=true) (h10:T.c.pend=false) (htt:Ao6 T n=true):Calls Tryz.prog 125 #[.pointer (some ⟨t,0,none⟩),.int .i64 n] w (Does Z w t (tellFeed (feed (setCol T 0)) true)):=by
 obtain⟨Z1,hf⟩:=h.focus
 have s0:=fun k:Eqt.Ext w=>(h.below k.below).s0
 have c9:=fun k:Eqt.Ext w=>(h.below k.below).c9
 have hsh:=J0 (fun k:Eqt.Ext w=>Aa8 (h.below k.below))
 have hco:=J0 (fun k:Eqt.Ext w=>Ai2 (hf.sc.below k.below) ok.fit.len)
 have hcol:=ok.col
 have hc5:=ok.fit.c5
 have hw:IntKind.i64.wrap ((T.c.col:Int)+(n:Int))=(T.c.col:Int)+(n:Int):=IntWalk.i64_in _ (by omega)
 have hd:∀b,Ao6 T n=b->decide ((T.vis.cols:Int)<(T.c.col:Int)+(n:Int))=b:=fun b hb=>by rw[<- hb];unfold Ao6;rw[decide_eq_decide];omega
 have hW:Hid (∀w9,Below w.heap.size w w9->w9.cell? ⟨t,4,none⟩=some (.bool true)/\w9.cell? ⟨t,10,none⟩=some (.bool false)/\w9.cell? ⟨t,9,none⟩=some (.int .i64 T.c.col)/\w9.frozen? ⟨t,9,none⟩=false/\TM Z (w9.setCell ⟨t,9,none⟩ (.int .i64 0)) t (setCol T 0)/\Scn.Fr Z TT w9 (w9.setCell ⟨t,9,none⟩ (.int .i64 0))):=J0 fun w9 hb=>⟨(by have:=(h.below hb).c4;rw[h4] at this;exact this),(by have:=(h.below hb).c10;rw[h10] at this;exact this),(h.below hb).c9,(h.below hb).free 9,((h.below hb).setCol 0).1.tm,((h.below hb).setCol 0).2⟩
 have hd2:=hd _ htt
 have ok0:=ok.setCol ok.fit.c1
 have hp:=J0 (fun w1 (h1:TM Z w1 t (setCol T 0))=>feed_any h1 ok0 hnx)
 have ht:=J0 (fun w1 (h1:TM Z w1 t (feed (setCol T 0)))=>Am4 h1 ok0.feed (by rw[Az5];exact hj) true)
 generalize feed (setCol T 0)=T1 at hp ht |-
 generalize tellFeed T1 true=T2 at ht |-
 generalize P.h T.other=hh at s0 hsh
 generalize P.x T.other=xx at s0 hco
 generalize T.vis.cols=cols at hco hd2 hc5 hcol
 generalize T.c.col=col at c9 hw hd2 hcol hW
 clear h ok hj hnx hf hd ok0
 go_enter Tryz.func125,Tryz.ntmps125
 go_wp2
 refine Eqt.region_ext (by kernel_rfl) (by kernel_rfl) ?_
 repeat (go_big_quiet_step (first
  |(go_at_call 68;exact Eqt.q_ext_same (hsh.out _))
  |(go_at_call 124;exact Eqt.q_ext_same (hco.out _))))
 refine wpQuiet_nil ?_
 intro w9 hw9
 obtain⟨k9,rfl⟩:=hw9
 have hb9:=k9.below
 generalize k9.w=w9 at hb9 |-
 obtain⟨k4,k10,k9,f9,hT9,hf9⟩:=hW.out _ hb9
 go_wp2_with (first
  |(go_at_call 166;(with_reducible refine(hp.out _ hT9).mono ?_);rintro e w1 ⟨⟨v1,rfl⟩,h1,hf1⟩)
  |(go_at_call 167;(with_reducible refine(ht.out _ h1).mono ?_);rintro e w2 ⟨⟨v2,rfl⟩,h2,hf2⟩))
 go_end0
 exact⟨⟨_,rfl⟩,h2,(((Aa9 hb9).trans hf9).trans hf1).trans hf2⟩
theorem way_s1 (h:TMx Z w t T P) (ok:Ok T) (_hj:T.jr.length<=90000000) (_hnx:T.nx<=9900000000) (n:Nat) (hn2:n<=2) (h4:T.m.a4=true) (h10:T.c.pend=false) (htt:Ao6 T n=false):Calls Tryz.prog 125 #[.pointer (some ⟨t,0,none⟩),.int .i64 n] w (Does Z w t T):=by
 obtain⟨Z1,hf⟩:=h.focus
 have s0:=fun k:Eqt.Ext w=>(h.below k.below).s0
 have c9:=fun k:Eqt.Ext w=>(h.below k.below).c9
 have hsh:=J0 (fun k:Eqt.Ext w=>Aa8 (h.below k.below))
 have hco:=J0 (fun k:Eqt.Ext w=>Ai2 (hf.sc.below k.below) ok.fit.len)
 have hcol:=ok.col
 have hc5:=ok.fit.c5
 have hw:IntKind.i64.wrap ((T.c.col:Int)+(n:Int))=(T.c.col:Int)+(n:Int):=IntWalk.i64_in _ (by omega)
 have hd:∀b,Ao6 T n=b->decide ((T.vis.cols:Int)<(T.c.col:Int)+(n:Int))=b:=fun b hb=>by rw[<- hb];unfold Ao6;rw[decide_eq_decide];omega
 have hW:Hid (∀w9,Below w.heap.size w w9->w9.cell? ⟨t,4,none⟩=some (.bool true)/\w9.cell? ⟨t,10,none⟩=some (.bool false)/\TM Z w9 t T):=J0 fun w9 hb=>⟨(by have:=(h.below hb).c4;rw[h4] at this;exact this),(by have:=(h.below hb).c10;rw[h10] at this;exact this),(h.below hb).tm⟩
 have hd2:=hd _ htt
 generalize P.h T.other=hh at s0 hsh
 generalize P.x T.other=xx at s0 hco
 generalize T.vis.cols=cols at hco hd2 hc5 hcol
 generalize T.c.col=col at c9 hw hd2 hcol
 clear h ok _hj _hnx hf hd
 go_enter Tryz.func125,Tryz.ntmps125
 go_wp2
 refine Eqt.region_ext (by kernel_rfl) (by kernel_rfl) ?_
 repeat (go_big_quiet_step (first
  |(go_at_call 68;exact Eqt.q_ext_same (hsh.out _))
  |(go_at_call 124;exact Eqt.q_ext_same (hco.out _))))
 refine wpQuiet_nil ?_
 intro w9 hw9
 obtain⟨k9,rfl⟩:=hw9
 have hb9:=k9.below
 generalize k9.w=w9 at hb9 |-
 obtain⟨k4,k10,hT9⟩:=hW.out _ hb9
 go_wp2
 go_end0
 exact⟨⟨_,rfl⟩,hT9,Aa9 hb9⟩
theorem way_s2 (h:TMx Z w t T P) (ok:Ok T) (_hj:T.jr.length<=90000000) (_hnx:T.nx<=9900000000) (n:Nat) (hn2:n<=2) (h4:T.m.a4=false) (htt:Ao6 T n=false):Calls Tryz.prog 125 #[.pointer (some ⟨t,0,none⟩),.int .i64 n] w (Does Z w t T):=by
 obtain⟨Z1,hf⟩:=h.focus
 have s0:=fun k:Eqt.Ext w=>(h.below k.below).s0
 have c9:=fun k:Eqt.Ext w=>(h.below k.below).c9
 have hsh:=J0 (fun k:Eqt.Ext w=>Aa8 (h.below k.below))
 have hco:=J0 (fun k:Eqt.Ext w=>Ai2 (hf.sc.below k.below) ok.fit.len)
 have hcol:=ok.col
 have hc5:=ok.fit.c5
 have hw:IntKind.i64.wrap ((T.c.col:Int)+(n:Int))=(T.c.col:Int)+(n:Int):=IntWalk.i64_in _ (by omega)
 have hd:∀b,Ao6 T n=b->decide ((T.vis.cols:Int)<(T.c.col:Int)+(n:Int))=b:=fun b hb=>by rw[<- hb];unfold Ao6;rw[decide_eq_decide];omega
 have hW:Hid (∀w9,Below w.heap.size w w9->w9.cell? ⟨t,4,none⟩=some (.bool false)/\TM Z w9 t T):=J0 fun w9 hb=>⟨(by have:=(h.below hb).c4;rw[h4] at this;exact this),(h.below hb).tm⟩
 have hd2:=hd _ htt
 generalize P.h T.other=hh at s0 hsh
 generalize P.x T.other=xx at s0 hco
 generalize T.vis.cols=cols at hco hd2 hc5 hcol
 generalize T.c.col=col at c9 hw hd2 hcol
 clear h ok _hj _hnx hf hd
 go_enter Tryz.func125,Tryz.ntmps125
 go_wp2
 refine Eqt.region_ext (by kernel_rfl) (by kernel_rfl) ?_
 repeat (go_big_quiet_step (first
  |(go_at_call 68;exact Eqt.q_ext_same (hsh.out _))
  |(go_at_call 124;exact Eqt.q_ext_same (hco.out _))))
 refine wpQuiet_nil ?_
 intro w9 hw9
 obtain⟨k9,rfl⟩:=hw9
 have hb9:=k9.below
 generalize k9.w=w9 at hb9 |-
 obtain⟨k4,hT9⟩:=hW.out _ hb9
 go_wp2
 go_end0
 exact⟨⟨_,rfl⟩,hT9,Aa9 hb9⟩
theorem way_b (h:TMx Z w t T P) (ok:Ok T) (_hj:T.jr.length<=90000000) (_hnx:T.nx<=9900000000) (n:Nat) (hn2:n<=2) (h4:T.m.a4=false) (htt:Ao6 T n=true) (hc1:1<=T.c.col):Calls Tryz.prog 125 #[.pointer (some ⟨t,0,none⟩),.int .i64 n] w (Does Z w t (setCol T (T.c.col - 1))):=by
 obtain⟨Z1,hf⟩:=h.focus
 have s0:=fun k:Eqt.Ext w=>(h.below k.below).s0
 have c9:=fun k:Eqt.Ext w=>(h.below k.below).c9
 have hsh:=J0 (fun k:Eqt.Ext w=>Aa8 (h.below k.below))
 have hco:=J0 (fun k:Eqt.Ext w=>Ai2 (hf.sc.below k.below) ok.fit.len)
 have hcol:=ok.col
 have hc5:=ok.fit.c5
 have hw:IntKind.i64.wrap ((T.c.col:Int)+(n:Int))=(T.c.col:Int)+(n:Int):=IntWalk.i64_in _ (by omega)
 have hd:∀b,Ao6 T n=b->decide ((T.vis.cols:Int)<(T.c.col:Int)+(n:Int))=b:=fun b hb=>by rw[<- hb];unfold Ao6;rw[decide_eq_decide];omega
 have hW:Hid (∀w9,Below w.heap.size w w9->w9.cell? ⟨t,4,none⟩=some (.bool false)/\w9.cell? ⟨t,9,none⟩=some (.int .i64 T.c.col)/\w9.frozen? ⟨t,9,none⟩=false/\TM Z (w9.setCell ⟨t,9,none⟩ (.int .i64 ((T.c.col:Int) - 1))) t (setCol T (T.c.col - 1))/\Scn.Fr Z TT w9 (w9.setCell ⟨t,9,none⟩ (.int .i64 ((T.c.col:Int) - 1)))):=J0 fun w9 hb=>by
  have q:=(h.below hb).setCol (T.c.col - 1)
  rw[show ((T.c.col - 1:Nat):Int)=(T.c.col:Int) - 1 by omega] at q
  exact⟨(by have:=(h.below hb).c4;rw[h4] at this;exact this),(h.below hb).c9,(h.below hb).free 9,q.1.tm,q.2⟩
 have hd2:=hd _ htt
 have hw2:IntKind.i64.wrap ((T.c.col:Int) - 1)=(T.c.col:Int) - 1:=IntWalk.i64_in _ (by omega)
 generalize setCol T (T.c.col - 1)=T2 at hW |-
 generalize P.h T.other=hh at s0 hsh
 generalize P.x T.other=xx at s0 hco
 generalize T.vis.cols=cols at hco hd2 hc5 hcol
 generalize T.c.col=col at c9 hw hd2 hcol hW hw2
 clear h ok _hj _hnx hf hd
 go_enter Tryz.func125,Tryz.ntmps125
 go_wp2
 refine Eqt.region_ext (by kernel_rfl) (by kernel_rfl) ?_
 repeat (go_big_quiet_step (first
  |(go_at_call 68;exact Eqt.q_ext_same (hsh.out _))
  |(go_at_call 124;exact Eqt.q_ext_same (hco.out _))))
 refine wpQuiet_nil ?_
 intro w9 hw9
 obtain⟨k9,rfl⟩:=hw9
 have hb9:=k9.below
 generalize k9.w=w9 at hb9 |-
 obtain⟨k4,k9,f9,hT9,hf9⟩:=hW.out _ hb9
 go_wp2
 go_end0
 exact⟨⟨_,rfl⟩,hT9,(Aa9 hb9).trans hf9⟩
theorem Bg4 (h:TM Z w t T) (ok:Ok T) (hj:T.jr.length<=90000000) (hnx:T.nx<=9900000000) (n:Nat) (hn2:n<=2) (hnc:n<=T.vis.cols):Calls Tryz.prog 125 #[.pointer (some ⟨t,0,none⟩),.int .i64 n] w (Does Z w t (makeWay T n)):=by
 obtain⟨P,h⟩:=h
 unfold makeWay
 cases h4:T.m.a4 with
 |true =>
  cases h10:T.c.pend with
  |true=>exact way_f1 h ok hj hnx n hn2 h4 h10
  |false =>
   cases ht:Ao6 T n with
   |true=>exact way_f2 h ok hj hnx n hn2 h4 h10 ht
   |false=>exact way_s1 h ok hj hnx n hn2 h4 h10 ht
 |false =>
  cases ht:Ao6 T n with
  |true =>
   have hc:1<=T.c.col:=by
    have:=of_decide_eq_true ht
    omega
   exact way_b h ok hj hnx n hn2 h4 ht hc
  |false=>exact way_s2 h ok hj hnx n hn2 h4 ht
theorem Ok.makeWay (h:Ok T) (n:Nat):Ok (makeWay T n):=by
 unfold Emu.makeWay
 split
 ·exact((h.setCol h.fit.c1).feed).tellFeed true
 ·split
  ·exact h.setCol (by have:=h.col;omega)
  ·exact h
end
