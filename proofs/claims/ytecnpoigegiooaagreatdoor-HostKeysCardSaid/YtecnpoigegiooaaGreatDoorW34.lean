/- Part 34 of HostKeys. -/
import Derived.Test.YtecnpoigegiooaaGreatDoorW33
set_option maxHeartbeats 16000000
set_option maxRecDepth 100000
namespace Go.Proofs.YtecnpoigegiooaaGreatDoor.Emu
open Go.Proofs.Tryz
open Go RowKit Com Rw Lns Scn
theorem Blq:(prog.info? 58).map (·.size)=some 1:=by kernel_rfl
theorem Ckt:(prog.info? 21).map (·.size)=some 1:=by kernel_rfl
theorem Awf:(prog.info? 4).map (·.size)=some 1:=by kernel_rfl
theorem Bjb(e:Ev):(evA e).size=10:=rfl
theorem Baq{w:World}{b:Nat}{e:Ev}(h:Block w b 73 (evA e)):w.heap[b]?=some (.cells (evA e) 73 (0,0)):=h
section
variable {Z Z1:Zn}{w w':World}{t x s:Nat}{S:Scr}{T:Ter}{P:Pt}{v:Value}{l:List Int}
theorem Atj(h:TMx Z w t T P)(hj:T.jr.length<=90000000)(hpr:T.C5<=10000000000)(e:Ev)(r:Int):Calls prog 165 #[.pointer (some ⟨t,0,none⟩),.agg (evA e),.int .i32 r] w fun x w'=>(∃v,x=.returned v)/\TM Z w' t (I1 T e r)/\Scn.Fr Z TT w w':=by
 have hbn:=A3 w (.cells (evA e) 73)
 have hbx:Block (w.alloc (.cells (evA e) 73)) w.heap.size 73 (evA e):=Block.made w 73 (evA e)
 have hne:w.heap.size∉[t]:=by have:=h.blk.lt;simp;omega
 have k21:=(h.below hbn).c21
 have hs:=J0 (fun w1 (hb:Below w.heap.size w w1)=>And.intro (h.below hb).c21 (h.below hb).blk)
 have C3:Hid (∀w1 w2,Below w.heap.size w w1->Block w2 t 102 ((S6 T P).toList.take 21++[Value.int .u64 (T.C5+1:Nat)]++(S6 T P).toList.drop (21+1)).toArray->A0 [t] w1 w2->(∃P',TMx Z w2 t { T with C5:=T.C5+1 } P')/\Scn.Fr Z TT w w2):=J0 fun w1 w2 hb hB ho=>by
  obtain⟨q1,q2⟩:=(h.below hb).G9 (m:=T.m) (c:=T.c) (p:=T.p) (n:=T.C5+1) (e:=T.last) ho hB
  exact⟨⟨P,q1⟩,(Scn.Fr.A1 hb).trans q2⟩
 have htl:Hid (∀w2,(∃P',TMx Z w2 t { T with C5:=T.C5+1 } P')->Calls prog 222 #[.pointer (some ⟨t,0,none⟩),.agg (evA { e with ix:=T.C5,r:=r })] w2 (A7 Z w2 t (I1 T e r))):=J0 fun w2 ⟨P',h2⟩=>(Aqb h2 hj { e with ix:=T.C5,r:=r }).mono fun x w' ⟨he,⟨jv,h3⟩,hf⟩=>⟨he,h3.tm,hf⟩
 have hsz:(S6 T P).size=34:=rfl
 have hw:IntKind.u64.wrap ((T.C5:Int)+1)=((T.C5+1:Nat):Int):=IntWalk.u64_in _ (by omega)
 have hea:(((evA e).toList.take 1++[Value.int .u64 T.C5]++(evA e).toList.drop (1+1)).toArray.toList.take 5++[Value.int .i32 r]++((evA e).toList.take 1++[Value.int .u64 T.C5]++(evA e).toList.drop (1+1)).toArray.toList.drop (5+1)).toArray=evA { e with ix:=T.C5,r:=r }:=rfl
 replace hea:=J0 hea
 generalize hpn:T.C5=pr at *
 clear h hj hpr
 go_enter func165,ntmps165
 go_wp2_with (first
  |(with_reducible refine J8 11 ?_;go_must(refine N9 rfl _ (.tmp 11) (.tmp 9) rfl hbx (.int .u64 pr) rfl rfl (by rw[Bjb];omega) Blq rfl ?_);intro w1 hd1 ho1;have hb1:=hbn.trans (ho1.below hbn.size (by simp)))
  |(with_reducible refine J8 12 ?_;go_must(refine N9 rfl _ (.tmp 12) (.tmp 10) rfl hd1 (.int .i32 r) rfl rfl (by simp[Bjb]) Ckt rfl ?_);intro w2 hd2 ho2;have hb2:=hb1.trans (ho2.below (Nat.le_trans hbn.size ho1.size) (by simp));obtain⟨c21,hB2⟩:=hs.out _ hb2)
  |(with_reducible refine J8 19 ?_;go_must(refine N9 rfl _ (.tmp 19) (.tmp 17) rfl hB2 (.int .u64 (pr+1:Nat)) rfl rfl (by rw[hsz];omega) Blq rfl ?_);intro w3 hd3 ho3;obtain⟨h3,hf3⟩:=C3.out _ _ hb2 hd3 ho3;have hx3:=hd2.only ho3 hne;go_must(rw[hea.out]at hx3))
  |(with_reducible refine J9 21 4 ?_;go_must(refine wpList_load_row rfl _ (.tmp 4) rfl w.heap.size rfl _ (evA { e with ix:=pr,r:=r }) (0,0) _ (Baq hx3) underlying73 rfl (Aht _) ?_))
  |(go_at_call 222;(with_reducible refine(htl.out _ h3).mono ?_);rintro e w4 ⟨⟨v4,rfl⟩,h4,hf4⟩))
 go_end0
 exact⟨⟨_,rfl⟩,h4,hf3.trans hf4⟩
theorem Bgl(e:Ev)(line col:Int)(w:World):Calls prog 164 #[.agg (evA e),.int .i64 line,.int .i64 col] w fun x w'=>x=.returned (.bool (Acl e line col))/\Below w.heap.size w w':=by
 have hbn:=A3 w (.cells (evA e) 73)
 have hbx:Block (w.alloc (.cells (evA e) 73)) w.heap.size 73 (evA e):=Block.made w 73 (evA e)
 obtain⟨x0,_,x2,x3,_⟩:=EvB.cells hbx
 obtain⟨ek,eix,el,ec,ew,er,ebl,ela,efr,ewr⟩:=e
 unfold Acl
 simp only[evA]at hbn hbx x0 x2 x3 |-
 clear hbx
 by_cases h1:ek=1
 ·have d1:(ek==1)=true:=by simpa using h1
  have e1:decide (ek=1)=true:=decide_eq_true h1
  by_cases hl:el=line
  ·by_cases hc:ec=col
   ·have d3:(el==line)=true:=by simpa using hl
    have e3:decide (el=line)=true:=decide_eq_true hl
    have d4:(ec==col)=true:=by simpa using hc
    have e4:decide (ec=col)=true:=decide_eq_true hc
    rw[d1,d3,d4]
    go_enter func164,ntmps164
    go_wp2
    go_ret
    exact⟨rfl,A3 w _⟩
   ·have d3:(el==line)=true:=by simpa using hl
    have e3:decide (el=line)=true:=decide_eq_true hl
    have d4:(ec==col)=false:=by simpa using hc
    have e4:decide (ec=col)=false:=decide_eq_false hc
    rw[d1,d3,d4]
    go_enter func164,ntmps164
    go_wp2
    go_ret
    exact⟨rfl,A3 w _⟩
  ·have d3:(el==line)=false:=by simpa using hl
   have e3:decide (el=line)=false:=decide_eq_false hl
   rw[d1,d3]
   go_enter func164,ntmps164
   go_wp2
   go_ret
   exact⟨rfl,A3 w _⟩
 ·have d1:(ek==1)=false:=by simpa using h1
  have e1:decide (ek=1)=false:=decide_eq_false h1
  by_cases h2:ek=2
  ·have d2:(ek==2)=true:=by simpa using h2
   have e2:decide (ek=2)=true:=decide_eq_true h2
   by_cases hl:el=line
   ·by_cases hc:ec=col
    ·have d3:(el==line)=true:=by simpa using hl
     have e3:decide (el=line)=true:=decide_eq_true hl
     have d4:(ec==col)=true:=by simpa using hc
     have e4:decide (ec=col)=true:=decide_eq_true hc
     rw[d1,d2,d3,d4]
     go_enter func164,ntmps164
     go_wp2
     go_ret
     exact⟨rfl,A3 w _⟩
    ·have d3:(el==line)=true:=by simpa using hl
     have e3:decide (el=line)=true:=decide_eq_true hl
     have d4:(ec==col)=false:=by simpa using hc
     have e4:decide (ec=col)=false:=decide_eq_false hc
     rw[d1,d2,d3,d4]
     go_enter func164,ntmps164
     go_wp2
     go_ret
     exact⟨rfl,A3 w _⟩
   ·have d3:(el==line)=false:=by simpa using hl
    have e3:decide (el=line)=false:=decide_eq_false hl
    rw[d1,d2,d3]
    go_enter func164,ntmps164
    go_wp2
    go_ret
    exact⟨rfl,A3 w _⟩
  ·have d2:(ek==2)=false:=by simpa using h2
   have e2:decide (ek=2)=false:=decide_eq_false h2
   rw[d1,d2]
   go_enter func164,ntmps164
   go_wp2
   go_ret
   exact⟨rfl,A3 w _⟩
end
section
variable {Z Z1:Zn}{w w':World}{t x s:Nat}{S:Scr}{T:Ter}{P:Pt}{v:Value}{l:List Int}
theorem Cqi(h:TMx Z w t T P)(ok:Ok T)(hj:T.jr.length<=90000000)(hnx:T.nx<=9900000000)(n:Nat)(hn2:n<=2)(h4:T.m.a4=true)(h10:T.c.F6=true):Calls prog 125 #[.pointer (some ⟨t,0,none⟩),.int .i64 n] w (A7 Z w t (Acn (feed (F8 T 0)) true)):=by
 obtain⟨Z1,hf⟩:=h.focus
 have s0:=fun k:Eqt.Ext w=>(h.below k.below).s0
 have c9:=fun k:Eqt.Ext w=>(h.below k.below).c9
 have hsh:=J0 (fun k:Eqt.Ext w=>I7 (h.below k.below))
 have hco:=J0 (fun k:Eqt.Ext w=>Aco (hf.sc.below k.below) ok.fit.len)
 have F5:=ok.col
 have hc5:=ok.fit.c5
 have hw:IntKind.i64.wrap ((T.c.col:Int)+(n:Int))=(T.c.col:Int)+(n:Int):=IntWalk.i64_in _ (by omega)
 have hd:∀b,Aa6 T n=b->decide ((T.vis.cols:Int)<(T.c.col:Int)+(n:Int))=b:=fun b hb=>by rw[<- hb];unfold Aa6;rw[decide_eq_decide];omega
 have hW:Hid (∀w9,Below w.heap.size w w9->w9.cell? ⟨t,4,none⟩=some (.bool true)/\w9.cell? ⟨t,10,none⟩=some (.bool true)/\w9.cell? ⟨t,9,none⟩=some (.int .i64 T.c.col)/\w9.frozen? ⟨t,9,none⟩=false/\TM Z (w9.setCell ⟨t,9,none⟩ (.int .i64 0)) t (F8 T 0)/\Scn.Fr Z TT w9 (w9.setCell ⟨t,9,none⟩ (.int .i64 0))):=J0 fun w9 hb=>⟨(by have:=(h.below hb).c4;rw[h4]at this;exact this),(by have:=(h.below hb).c10;rw[h10]at this;exact this),(h.below hb).c9,(h.below hb).free 9,((h.below hb).F8 0).1.tm,((h.below hb).F8 0).2⟩
 obtain⟨bt,hbt⟩:∃b,Aa6 T n=b:=⟨_,rfl⟩
 have hd2:=hd _ hbt
 clear hbt
 have ok0:=ok.F8 ok.fit.c1
 have hp:=J0 (fun w1 (h1:TM Z w1 t (F8 T 0))=>Ahj h1 ok0 hnx)
 have ht:=J0 (fun w1 (h1:TM Z w1 t (feed (F8 T 0)))=>Ati h1 ok0.feed (by rw[Ani];exact hj) true)
 generalize feed (F8 T 0)=T1 at hp ht |-
 generalize Acn T1 true=T2 at ht |-
 generalize P.h T.other=hh at s0 hsh
 generalize P.x T.other=xx at s0 hco
 generalize T.vis.cols=cols at hco hd2 hc5 F5
 generalize T.c.col=col at c9 hw hd2 F5 hW
 clear h ok hj hnx hf hd ok0
 go_enter func125,ntmps125
 go_wp2
 refine Eqt.Aja (by kernel_rfl) (by kernel_rfl) ?_
 repeat (go_big_quiet_step (first
  |(go_at_call 68;exact Eqt.H7 (hsh.out _))
  |(go_at_call 124;exact Eqt.H7 (hco.out _))))
 refine wpQuiet_nil ?_
 intro w9 hw9
 obtain⟨k9,rfl⟩:=hw9
 have hb9:=k9.below
 generalize k9.w=w9 at hb9 |-
 obtain⟨k4,k10,k9,f9,hT9,hf9⟩:=hW.out _ hb9
 go_wp2_with (first
  |(go_at_call 166;(with_reducible refine(hp.out _ hT9).mono ?_);rintro e w1 ⟨⟨v1,rfl⟩,h1,hf1⟩)
  |(go_at_call 167;(with_reducible refine(ht.out _ h1).mono ?_);rintro e w2 ⟨⟨v2,rfl⟩,h2,hf2⟩))
 go_end0
 exact⟨⟨_,rfl⟩,h2,(((I8 hb9).trans hf9).trans hf1).trans hf2⟩
theorem Cqj(h:TMx Z w t T P)(ok:Ok T)(hj:T.jr.length<=90000000)(hnx:T.nx<=9900000000)(n:Nat)(hn2:n<=2)(h4:T.m.a4=true)(h10:T.c.F6=false)(htt:Aa6 T n=true):Calls prog 125 #[.pointer (some ⟨t,0,none⟩),.int .i64 n] w (A7 Z w t (Acn (feed (F8 T 0)) true)):=by
 obtain⟨Z1,hf⟩:=h.focus
 have s0:=fun k:Eqt.Ext w=>(h.below k.below).s0
 have c9:=fun k:Eqt.Ext w=>(h.below k.below).c9
 have hsh:=J0 (fun k:Eqt.Ext w=>I7 (h.below k.below))
 have hco:=J0 (fun k:Eqt.Ext w=>Aco (hf.sc.below k.below) ok.fit.len)
 have F5:=ok.col
 have hc5:=ok.fit.c5
 have hw:IntKind.i64.wrap ((T.c.col:Int)+(n:Int))=(T.c.col:Int)+(n:Int):=IntWalk.i64_in _ (by omega)
 have hd:∀b,Aa6 T n=b->decide ((T.vis.cols:Int)<(T.c.col:Int)+(n:Int))=b:=fun b hb=>by rw[<- hb];unfold Aa6;rw[decide_eq_decide];omega
 have hW:Hid (∀w9,Below w.heap.size w w9->w9.cell? ⟨t,4,none⟩=some (.bool true)/\w9.cell? ⟨t,10,none⟩=some (.bool false)/\w9.cell? ⟨t,9,none⟩=some (.int .i64 T.c.col)/\w9.frozen? ⟨t,9,none⟩=false/\TM Z (w9.setCell ⟨t,9,none⟩ (.int .i64 0)) t (F8 T 0)/\Scn.Fr Z TT w9 (w9.setCell ⟨t,9,none⟩ (.int .i64 0))):=J0 fun w9 hb=>⟨(by have:=(h.below hb).c4;rw[h4]at this;exact this),(by have:=(h.below hb).c10;rw[h10]at this;exact this),(h.below hb).c9,(h.below hb).free 9,((h.below hb).F8 0).1.tm,((h.below hb).F8 0).2⟩
 have hd2:=hd _ htt
 have ok0:=ok.F8 ok.fit.c1
 have hp:=J0 (fun w1 (h1:TM Z w1 t (F8 T 0))=>Ahj h1 ok0 hnx)
 have ht:=J0 (fun w1 (h1:TM Z w1 t (feed (F8 T 0)))=>Ati h1 ok0.feed (by rw[Ani];exact hj) true)
 generalize feed (F8 T 0)=T1 at hp ht |-
 generalize Acn T1 true=T2 at ht |-
 generalize P.h T.other=hh at s0 hsh
 generalize P.x T.other=xx at s0 hco
 generalize T.vis.cols=cols at hco hd2 hc5 F5
 generalize T.c.col=col at c9 hw hd2 F5 hW
 clear h ok hj hnx hf hd ok0
 go_enter func125,ntmps125
 go_wp2
 refine Eqt.Aja (by kernel_rfl) (by kernel_rfl) ?_
 repeat (go_big_quiet_step (first
  |(go_at_call 68;exact Eqt.H7 (hsh.out _))
  |(go_at_call 124;exact Eqt.H7 (hco.out _))))
 refine wpQuiet_nil ?_
 intro w9 hw9
 obtain⟨k9,rfl⟩:=hw9
 have hb9:=k9.below
 generalize k9.w=w9 at hb9 |-
 obtain⟨k4,k10,k9,f9,hT9,hf9⟩:=hW.out _ hb9
 go_wp2_with (first
  |(go_at_call 166;(with_reducible refine(hp.out _ hT9).mono ?_);rintro e w1 ⟨⟨v1,rfl⟩,h1,hf1⟩)
  |(go_at_call 167;(with_reducible refine(ht.out _ h1).mono ?_);rintro e w2 ⟨⟨v2,rfl⟩,h2,hf2⟩))
 go_end0
 exact⟨⟨_,rfl⟩,h2,(((I8 hb9).trans hf9).trans hf1).trans hf2⟩
theorem Cqk(h:TMx Z w t T P)(ok:Ok T)(_hj:T.jr.length<=90000000)(_hnx:T.nx<=9900000000)(n:Nat)(hn2:n<=2)(h4:T.m.a4=true)(h10:T.c.F6=false)(htt:Aa6 T n=false):Calls prog 125 #[.pointer (some ⟨t,0,none⟩),.int .i64 n] w (A7 Z w t T):=by
 obtain⟨Z1,hf⟩:=h.focus
 have s0:=fun k:Eqt.Ext w=>(h.below k.below).s0
 have c9:=fun k:Eqt.Ext w=>(h.below k.below).c9
 have hsh:=J0 (fun k:Eqt.Ext w=>I7 (h.below k.below))
 have hco:=J0 (fun k:Eqt.Ext w=>Aco (hf.sc.below k.below) ok.fit.len)
 have F5:=ok.col
 have hc5:=ok.fit.c5
 have hw:IntKind.i64.wrap ((T.c.col:Int)+(n:Int))=(T.c.col:Int)+(n:Int):=IntWalk.i64_in _ (by omega)
 have hd:∀b,Aa6 T n=b->decide ((T.vis.cols:Int)<(T.c.col:Int)+(n:Int))=b:=fun b hb=>by rw[<- hb];unfold Aa6;rw[decide_eq_decide];omega
 have hW:Hid (∀w9,Below w.heap.size w w9->w9.cell? ⟨t,4,none⟩=some (.bool true)/\w9.cell? ⟨t,10,none⟩=some (.bool false)/\TM Z w9 t T):=J0 fun w9 hb=>⟨(by have:=(h.below hb).c4;rw[h4]at this;exact this),(by have:=(h.below hb).c10;rw[h10]at this;exact this),(h.below hb).tm⟩
 have hd2:=hd _ htt
 generalize P.h T.other=hh at s0 hsh
 generalize P.x T.other=xx at s0 hco
 generalize T.vis.cols=cols at hco hd2 hc5 F5
 generalize T.c.col=col at c9 hw hd2 F5
 clear h ok _hj _hnx hf hd
 go_enter func125,ntmps125
 go_wp2
 refine Eqt.Aja (by kernel_rfl) (by kernel_rfl) ?_
 repeat (go_big_quiet_step (first
  |(go_at_call 68;exact Eqt.H7 (hsh.out _))
  |(go_at_call 124;exact Eqt.H7 (hco.out _))))
 refine wpQuiet_nil ?_
 intro w9 hw9
 obtain⟨k9,rfl⟩:=hw9
 have hb9:=k9.below
 generalize k9.w=w9 at hb9 |-
 obtain⟨k4,k10,hT9⟩:=hW.out _ hb9
 go_wp2
 go_end0
 exact⟨⟨_,rfl⟩,hT9,I8 hb9⟩
theorem Cql(h:TMx Z w t T P)(ok:Ok T)(_hj:T.jr.length<=90000000)(_hnx:T.nx<=9900000000)(n:Nat)(hn2:n<=2)(h4:T.m.a4=false)(htt:Aa6 T n=false):Calls prog 125 #[.pointer (some ⟨t,0,none⟩),.int .i64 n] w (A7 Z w t T):=by
 obtain⟨Z1,hf⟩:=h.focus
 have s0:=fun k:Eqt.Ext w=>(h.below k.below).s0
 have c9:=fun k:Eqt.Ext w=>(h.below k.below).c9
 have hsh:=J0 (fun k:Eqt.Ext w=>I7 (h.below k.below))
 have hco:=J0 (fun k:Eqt.Ext w=>Aco (hf.sc.below k.below) ok.fit.len)
 have F5:=ok.col
 have hc5:=ok.fit.c5
 have hw:IntKind.i64.wrap ((T.c.col:Int)+(n:Int))=(T.c.col:Int)+(n:Int):=IntWalk.i64_in _ (by omega)
 have hd:∀b,Aa6 T n=b->decide ((T.vis.cols:Int)<(T.c.col:Int)+(n:Int))=b:=fun b hb=>by rw[<- hb];unfold Aa6;rw[decide_eq_decide];omega
 have hW:Hid (∀w9,Below w.heap.size w w9->w9.cell? ⟨t,4,none⟩=some (.bool false)/\TM Z w9 t T):=J0 fun w9 hb=>⟨(by have:=(h.below hb).c4;rw[h4]at this;exact this),(h.below hb).tm⟩
 have hd2:=hd _ htt
 generalize P.h T.other=hh at s0 hsh
 generalize P.x T.other=xx at s0 hco
 generalize T.vis.cols=cols at hco hd2 hc5 F5
 generalize T.c.col=col at c9 hw hd2 F5
 clear h ok _hj _hnx hf hd
 go_enter func125,ntmps125
 go_wp2
 refine Eqt.Aja (by kernel_rfl) (by kernel_rfl) ?_
 repeat (go_big_quiet_step (first
  |(go_at_call 68;exact Eqt.H7 (hsh.out _))
  |(go_at_call 124;exact Eqt.H7 (hco.out _))))
 refine wpQuiet_nil ?_
 intro w9 hw9
 obtain⟨k9,rfl⟩:=hw9
 have hb9:=k9.below
 generalize k9.w=w9 at hb9 |-
 obtain⟨k4,hT9⟩:=hW.out _ hb9
 go_wp2
 go_end0
 exact⟨⟨_,rfl⟩,hT9,I8 hb9⟩
theorem Csz(h:TMx Z w t T P)(ok:Ok T)(_hj:T.jr.length<=90000000)(_hnx:T.nx<=9900000000)(n:Nat)(hn2:n<=2)(h4:T.m.a4=false)(htt:Aa6 T n=true)(hc1:1<=T.c.col):Calls prog 125 #[.pointer (some ⟨t,0,none⟩),.int .i64 n] w (A7 Z w t (F8 T (T.c.col-1))):=by
 obtain⟨Z1,hf⟩:=h.focus
 have s0:=fun k:Eqt.Ext w=>(h.below k.below).s0
 have c9:=fun k:Eqt.Ext w=>(h.below k.below).c9
 have hsh:=J0 (fun k:Eqt.Ext w=>I7 (h.below k.below))
 have hco:=J0 (fun k:Eqt.Ext w=>Aco (hf.sc.below k.below) ok.fit.len)
 have F5:=ok.col
 have hc5:=ok.fit.c5
 have hw:IntKind.i64.wrap ((T.c.col:Int)+(n:Int))=(T.c.col:Int)+(n:Int):=IntWalk.i64_in _ (by omega)
 have hd:∀b,Aa6 T n=b->decide ((T.vis.cols:Int)<(T.c.col:Int)+(n:Int))=b:=fun b hb=>by rw[<- hb];unfold Aa6;rw[decide_eq_decide];omega
 have hW:Hid (∀w9,Below w.heap.size w w9->w9.cell? ⟨t,4,none⟩=some (.bool false)/\w9.cell? ⟨t,9,none⟩=some (.int .i64 T.c.col)/\w9.frozen? ⟨t,9,none⟩=false/\TM Z (w9.setCell ⟨t,9,none⟩ (.int .i64 ((T.c.col:Int)-1))) t (F8 T (T.c.col-1))/\Scn.Fr Z TT w9 (w9.setCell ⟨t,9,none⟩ (.int .i64 ((T.c.col:Int)-1)))):=J0 fun w9 hb=>by
  have q:=(h.below hb).F8 (T.c.col-1)
  rw[show((T.c.col-1:Nat):Int)=(T.c.col:Int)-1 by omega]at q
  exact⟨(by have:=(h.below hb).c4;rw[h4]at this;exact this),(h.below hb).c9,(h.below hb).free 9,q.1.tm,q.2⟩
 have hd2:=hd _ htt
 have hw2:IntKind.i64.wrap ((T.c.col:Int)-1)=(T.c.col:Int)-1:=IntWalk.i64_in _ (by omega)
 generalize F8 T (T.c.col-1)=T2 at hW |-
 generalize P.h T.other=hh at s0 hsh
 generalize P.x T.other=xx at s0 hco
 generalize T.vis.cols=cols at hco hd2 hc5 F5
 generalize T.c.col=col at c9 hw hd2 F5 hW hw2
 clear h ok _hj _hnx hf hd
 go_enter func125,ntmps125
 go_wp2
 refine Eqt.Aja (by kernel_rfl) (by kernel_rfl) ?_
 repeat (go_big_quiet_step (first
  |(go_at_call 68;exact Eqt.H7 (hsh.out _))
  |(go_at_call 124;exact Eqt.H7 (hco.out _))))
 refine wpQuiet_nil ?_
 intro w9 hw9
 obtain⟨k9,rfl⟩:=hw9
 have hb9:=k9.below
 generalize k9.w=w9 at hb9 |-
 obtain⟨k4,k9,f9,hT9,hf9⟩:=hW.out _ hb9
 go_wp2
 go_end0
 exact⟨⟨_,rfl⟩,hT9,(I8 hb9).trans hf9⟩
theorem Bft(h:TM Z w t T)(ok:Ok T)(hj:T.jr.length<=90000000)(hnx:T.nx<=9900000000)(n:Nat)(hn2:n<=2)(hnc:n<=T.vis.cols):Calls prog 125 #[.pointer (some ⟨t,0,none⟩),.int .i64 n] w (A7 Z w t (M5 T n)):=by
 obtain⟨P,h⟩:=h
 unfold M5
 cases h4:T.m.a4 with
 |true =>
  cases h10:T.c.F6 with
  |true=>exact Cqi h ok hj hnx n hn2 h4 h10
  |false =>
   cases ht:Aa6 T n with
   |true=>exact Cqj h ok hj hnx n hn2 h4 h10 ht
   |false=>exact Cqk h ok hj hnx n hn2 h4 h10 ht
 |false =>
  cases ht:Aa6 T n with
  |true =>
   have hc:1<=T.c.col:=by
    have:=of_decide_eq_true ht
    omega
   exact Csz h ok hj hnx n hn2 h4 ht hc
  |false=>exact Cql h ok hj hnx n hn2 h4 ht
theorem Ok.M5(h:Ok T)(n:Nat):Ok (M5 T n):=by
 unfold Emu.M5
 split
 ·exact((h.F8 h.fit.c1).feed).Acn true
 ·split
  ·exact h.F8 (by have:=h.col;omega)
  ·exact h
end
