/- Part 30 of HostSplits. -/
import Derived.Test.YtecnpoigegiooaaGreatDoorP29
set_option maxHeartbeats 16000000
set_option maxRecDepth 100000
namespace Go.Proofs.YtecnpoigegiooaaGreatDoor.Emu
open Go RowKit Com Rw Lns Scn
section
variable {Z Z1:Zn}{w w':World}{t x s:Nat}{S:Scr}{T:Ter}{P:Pt}{v:Value}{l:List Int}
theorem Ab5 (h:NA Z w v l):Calls Tryz.prog 237 #[v,.int .i64 0] w fun e w'=>e=.returned (.int .i64 (Aa2 l 0))/\w=w':=Ad5 h 0
theorem count1_any (h:NA Z w v l):Calls Tryz.prog 237 #[v,.int .i64 1] w fun e w'=>e=.returned (.int .i64 (Aa2 l 1))/\w=w':=Ad5 h 1
theorem Am7 (h:NA Z w v l):Calls Tryz.prog 241 #[v,.int .i64 0] w fun e w'=>e=.returned (.int .i64 (atN l 0))/\w=w':=Br1 h 0
theorem Az1 (h:NA Z w v l):Calls Tryz.prog 241 #[v,.int .i64 1] w fun e w'=>e=.returned (.int .i64 (atN l 1))/\w=w':=Br1 h 1
theorem goUp_any (h:TM Z w t T) (ok:Ok T) (hj:T.jr.length<=90000000) (hp:NA Z w v l):Calls Tryz.prog 179 #[.pointer (some ⟨t,0,none⟩),v] w (Does Z w t (goUp T l)):=by
 obtain⟨P,h⟩:=h
 have hn:=Ac4 l 0
 have hrow:T.c.row<512:=by have:=ok.row;have:=ok.fit.len5;omega
 have hcol:T.c.col<512:=by have:=ok.col;have:=ok.fit.c5;omega
 have c9:=fun k:Eqt.Ext w=>(h.below k.below).c9
 have hc:=J0 (fun k:Eqt.Ext w=>Ab5 (hp.below k.below))
 have ha:=J0 (fun k:Eqt.Ext w=>Br0 (h.below k.below) ok (Aa2 l 0) (by omega))
 have hm:=J0 (fun w1 (hb:Below w.heap.size w w1)=>Ac9 (h.below hb).tm ok hj (above T (Aa2 l 0)) T.c.col)
 show Calls _ _ _ _ (Does Z w t (move T (above T (Aa2 l 0)) T.c.col))
 generalize move T (above T (Aa2 l 0)) T.c.col=T1 at hm |-
 generalize above T (Aa2 l 0)=y at ha hm
 generalize Aa2 l 0=n at hc ha hn
 generalize T.c.col=col at c9 hm hcol
 clear h ok hj hp hrow hcol hn
 go_enter Tryz.func179,Tryz.ntmps179
 go_wp2
 refine Eqt.region_ext_tail 10 (by kernel_rfl) (by kernel_rfl) ?_
 simp only[List.take_succ_cons,List.take_zero,List.drop_succ_cons,List.drop_zero]
 repeat (go_big_quiet_step (first
  |(go_at_call 237;exact Eqt.q_ext_same (hc.out _))
  |(go_at_call 236;exact Eqt.q_ext_asks (ha.out _))))
 refine wpQuiet_nil ?_
 intro w9 hw9
 obtain⟨k9,rfl⟩:=hw9
 have hb9:=k9.below
 generalize k9.w=w9 at hb9 |-
 go_wp2_with (first
  |(go_at_call 172;(with_reducible refine(hm.out _ hb9).mono ?_);rintro e w5 ⟨⟨v5,rfl⟩,h5,hf5⟩))
 go_end0
 exact⟨⟨_,rfl⟩,h5,(Aa9 hb9).trans hf5⟩
theorem goDown_any (h:TM Z w t T) (ok:Ok T) (hj:T.jr.length<=90000000) (hp:NA Z w v l):Calls Tryz.prog 180 #[.pointer (some ⟨t,0,none⟩),v] w (Does Z w t (goDown T l)):=by
 obtain⟨P,h⟩:=h
 have hn:=Ac4 l 0
 have hrow:T.c.row<512:=by have:=ok.row;have:=ok.fit.len5;omega
 have hcol:T.c.col<512:=by have:=ok.col;have:=ok.fit.c5;omega
 have c9:=fun k:Eqt.Ext w=>(h.below k.below).c9
 have hc:=J0 (fun k:Eqt.Ext w=>Ab5 (hp.below k.below))
 have ha:=J0 (fun k:Eqt.Ext w=>Av2 (h.below k.below) ok (Aa2 l 0) (by omega))
 have hm:=J0 (fun w1 (hb:Below w.heap.size w w1)=>Ac9 (h.below hb).tm ok hj (below T (Aa2 l 0)) T.c.col)
 show Calls _ _ _ _ (Does Z w t (move T (below T (Aa2 l 0)) T.c.col))
 generalize move T (below T (Aa2 l 0)) T.c.col=T1 at hm |-
 generalize below T (Aa2 l 0)=y at ha hm
 generalize Aa2 l 0=n at hc ha hn
 generalize T.c.col=col at c9 hm hcol
 clear h ok hj hp hrow hcol hn
 go_enter Tryz.func180,Tryz.ntmps180
 go_wp2
 refine Eqt.region_ext_tail 10 (by kernel_rfl) (by kernel_rfl) ?_
 simp only[List.take_succ_cons,List.take_zero,List.drop_succ_cons,List.drop_zero]
 repeat (go_big_quiet_step (first
  |(go_at_call 237;exact Eqt.q_ext_same (hc.out _))
  |(go_at_call 238;exact Eqt.q_ext_asks (ha.out _))))
 refine wpQuiet_nil ?_
 intro w9 hw9
 obtain⟨k9,rfl⟩:=hw9
 have hb9:=k9.below
 generalize k9.w=w9 at hb9 |-
 go_wp2_with (first
  |(go_at_call 172;(with_reducible refine(hm.out _ hb9).mono ?_);rintro e w5 ⟨⟨v5,rfl⟩,h5,hf5⟩))
 go_end0
 exact⟨⟨_,rfl⟩,h5,(Aa9 hb9).trans hf5⟩
theorem Bn8 (h:TM Z w t T) (ok:Ok T) (hj:T.jr.length<=90000000) (hp:NA Z w v l):Calls Tryz.prog 181 #[.pointer (some ⟨t,0,none⟩),v] w (Does Z w t (goOn T l)):=by
 obtain⟨P,h⟩:=h
 have hn:=Ac4 l 0
 have hrow:T.c.row<512:=by have:=ok.row;have:=ok.fit.len5;omega
 have hcol:T.c.col<512:=by have:=ok.col;have:=ok.fit.c5;omega
 have c8:=fun k:Eqt.Ext w=>(h.below k.below).c8
 have c9:=fun k:Eqt.Ext w=>(h.below k.below).c9
 have hc:=J0 (fun k:Eqt.Ext w=>Ab5 (hp.below k.below))
 have hm:=J0 (fun w1 (hb:Below w.heap.size w w1)=>Ac9 (h.below hb).tm ok hj T.c.row ((T.c.col:Int)+Aa2 l 0))
 have hw:IntKind.i64.wrap ((T.c.col:Int)+Aa2 l 0)=(T.c.col:Int)+Aa2 l 0:=IntWalk.i64_in _ (by omega)
 show Calls _ _ _ _ (Does Z w t (move T T.c.row ((T.c.col:Int)+Aa2 l 0)))
 generalize move T T.c.row ((T.c.col:Int)+Aa2 l 0)=T1 at hm |-
 generalize Aa2 l 0=n at hc hm hw hn
 generalize T.c.col=col at c9 hm hw hcol
 generalize T.c.row=row at c8 hm hrow
 clear h ok hj hp hrow hcol hn
 go_enter Tryz.func181,Tryz.ntmps181
 go_wp2
 refine Eqt.region_ext_tail 14 (by kernel_rfl) (by kernel_rfl) ?_
 simp only[List.take_succ_cons,List.take_zero,List.drop_succ_cons,List.drop_zero]
 repeat (go_big_quiet_step (first
  |(go_at_call 237;exact Eqt.q_ext_same (hc.out _))))
 refine wpQuiet_nil ?_
 intro w9 hw9
 obtain⟨k9,rfl⟩:=hw9
 have hb9:=k9.below
 generalize k9.w=w9 at hb9 |-
 go_wp2_with (first
  |(go_at_call 172;(with_reducible refine(hm.out _ hb9).mono ?_);rintro e w5 ⟨⟨v5,rfl⟩,h5,hf5⟩))
 go_end0
 exact⟨⟨_,rfl⟩,h5,(Aa9 hb9).trans hf5⟩
theorem goBack_any (h:TM Z w t T) (ok:Ok T) (hj:T.jr.length<=90000000) (hp:NA Z w v l):Calls Tryz.prog 182 #[.pointer (some ⟨t,0,none⟩),v] w (Does Z w t (goBack T l)):=by
 obtain⟨P,h⟩:=h
 have hn:=Ac4 l 0
 have hrow:T.c.row<512:=by have:=ok.row;have:=ok.fit.len5;omega
 have hcol:T.c.col<512:=by have:=ok.col;have:=ok.fit.c5;omega
 have c8:=fun k:Eqt.Ext w=>(h.below k.below).c8
 have c9:=fun k:Eqt.Ext w=>(h.below k.below).c9
 have hc:=J0 (fun k:Eqt.Ext w=>Ab5 (hp.below k.below))
 have hm:=J0 (fun w1 (hb:Below w.heap.size w w1)=>Ac9 (h.below hb).tm ok hj T.c.row ((T.c.col:Int) - Aa2 l 0))
 have hw:IntKind.i64.wrap ((T.c.col:Int) - Aa2 l 0)=(T.c.col:Int) - Aa2 l 0:=IntWalk.i64_in _ (by omega)
 show Calls _ _ _ _ (Does Z w t (move T T.c.row ((T.c.col:Int) - Aa2 l 0)))
 generalize move T T.c.row ((T.c.col:Int) - Aa2 l 0)=T1 at hm |-
 generalize Aa2 l 0=n at hc hm hw hn
 generalize T.c.col=col at c9 hm hw hcol
 generalize T.c.row=row at c8 hm hrow
 clear h ok hj hp hrow hcol hn
 go_enter Tryz.func182,Tryz.ntmps182
 go_wp2
 refine Eqt.region_ext_tail 14 (by kernel_rfl) (by kernel_rfl) ?_
 simp only[List.take_succ_cons,List.take_zero,List.drop_succ_cons,List.drop_zero]
 repeat (go_big_quiet_step (first
  |(go_at_call 237;exact Eqt.q_ext_same (hc.out _))))
 refine wpQuiet_nil ?_
 intro w9 hw9
 obtain⟨k9,rfl⟩:=hw9
 have hb9:=k9.below
 generalize k9.w=w9 at hb9 |-
 go_wp2_with (first
  |(go_at_call 172;(with_reducible refine(hm.out _ hb9).mono ?_);rintro e w5 ⟨⟨v5,rfl⟩,h5,hf5⟩))
 go_end0
 exact⟨⟨_,rfl⟩,h5,(Aa9 hb9).trans hf5⟩
theorem goDownB_any (h:TM Z w t T) (ok:Ok T) (hj:T.jr.length<=90000000) (hp:NA Z w v l):Calls Tryz.prog 183 #[.pointer (some ⟨t,0,none⟩),v] w (Does Z w t (Bw2 T l)):=by
 obtain⟨P,h⟩:=h
 have hn:=Ac4 l 0
 have hrow:T.c.row<512:=by have:=ok.row;have:=ok.fit.len5;omega
 have hcol:T.c.col<512:=by have:=ok.col;have:=ok.fit.c5;omega
 have hc:=J0 (Ab5 hp)
 have ha:=J0 (Av2 h ok (Aa2 l 0) (by omega))
 have hm:=J0 (fun w1 (hb:Below w.heap.size w w1)=>Ac9 (h.below hb).tm ok hj (below T (Aa2 l 0)) 0)
 show Calls _ _ _ _ (Does Z w t (move T (below T (Aa2 l 0)) 0))
 generalize move T (below T (Aa2 l 0)) 0=T1 at hm |-
 generalize below T (Aa2 l 0)=y at ha hm
 generalize Aa2 l 0=n at hc ha hn
 clear h ok hj hp hrow hcol hn
 go_enter Tryz.func183,Tryz.ntmps183
 go_wp2_with (first
  |(go_at_call 237;(with_reducible refine(hc.out).mono ?_);rintro e w1 ⟨rfl,rfl⟩)
  |(go_at_call 238;(with_reducible refine ha.out.mono ?_);rintro e w1 ⟨rfl,q,rfl⟩;have hb9:Below w.heap.size w (w.drewN q):=Aa4 (Below.refl _ _) q)
  |(go_at_call 172;(with_reducible refine(hm.out _ hb9).mono ?_);rintro e w5 ⟨⟨v5,rfl⟩,h5,hf5⟩))
 go_end0
 exact⟨⟨_,rfl⟩,h5,(Aa9 hb9).trans hf5⟩
theorem goUpB_any (h:TM Z w t T) (ok:Ok T) (hj:T.jr.length<=90000000) (hp:NA Z w v l):Calls Tryz.prog 184 #[.pointer (some ⟨t,0,none⟩),v] w (Does Z w t (Cs5 T l)):=by
 obtain⟨P,h⟩:=h
 have hn:=Ac4 l 0
 have hrow:T.c.row<512:=by have:=ok.row;have:=ok.fit.len5;omega
 have hcol:T.c.col<512:=by have:=ok.col;have:=ok.fit.c5;omega
 have hc:=J0 (Ab5 hp)
 have ha:=J0 (Br0 h ok (Aa2 l 0) (by omega))
 have hm:=J0 (fun w1 (hb:Below w.heap.size w w1)=>Ac9 (h.below hb).tm ok hj (above T (Aa2 l 0)) 0)
 show Calls _ _ _ _ (Does Z w t (move T (above T (Aa2 l 0)) 0))
 generalize move T (above T (Aa2 l 0)) 0=T1 at hm |-
 generalize above T (Aa2 l 0)=y at ha hm
 generalize Aa2 l 0=n at hc ha hn
 clear h ok hj hp hrow hcol hn
 go_enter Tryz.func184,Tryz.ntmps184
 go_wp2_with (first
  |(go_at_call 237;(with_reducible refine(hc.out).mono ?_);rintro e w1 ⟨rfl,rfl⟩)
  |(go_at_call 236;(with_reducible refine ha.out.mono ?_);rintro e w1 ⟨rfl,q,rfl⟩;have hb9:Below w.heap.size w (w.drewN q):=Aa4 (Below.refl _ _) q)
  |(go_at_call 172;(with_reducible refine(hm.out _ hb9).mono ?_);rintro e w5 ⟨⟨v5,rfl⟩,h5,hf5⟩))
 go_end0
 exact⟨⟨_,rfl⟩,h5,(Aa9 hb9).trans hf5⟩
theorem Bv6 (h:TM Z w t T) (ok:Ok T) (hj:T.jr.length<=90000000) (hp:NA Z w v l):Calls Tryz.prog 185 #[.pointer (some ⟨t,0,none⟩),v] w (Does Z w t (toCol T l)):=by
 obtain⟨P,h⟩:=h
 have hn:=Ac4 l 0
 have hrow:T.c.row<512:=by have:=ok.row;have:=ok.fit.len5;omega
 have hcol:T.c.col<512:=by have:=ok.col;have:=ok.fit.c5;omega
 have c8:=fun k:Eqt.Ext w=>(h.below k.below).c8
 have hc:=J0 (fun k:Eqt.Ext w=>Ab5 (hp.below k.below))
 have hm:=J0 (fun w1 (hb:Below w.heap.size w w1)=>Ac9 (h.below hb).tm ok hj T.c.row (Aa2 l 0 - 1))
 have hw:IntKind.i64.wrap (Aa2 l 0 - 1)=Aa2 l 0 - 1:=IntWalk.i64_in _ (by omega)
 show Calls _ _ _ _ (Does Z w t (move T T.c.row (Aa2 l 0 - 1)))
 generalize move T T.c.row (Aa2 l 0 - 1)=T1 at hm |-
 generalize Aa2 l 0=n at hc hm hw hn
 generalize T.c.row=row at c8 hm hrow
 clear h ok hj hp hrow hcol hn
 go_enter Tryz.func185,Tryz.ntmps185
 go_wp2
 refine Eqt.region_ext_tail 9 (by kernel_rfl) (by kernel_rfl) ?_
 simp only[List.take_succ_cons,List.take_zero,List.drop_succ_cons,List.drop_zero]
 repeat (go_big_quiet_step (first
  |(go_at_call 237;exact Eqt.q_ext_same (hc.out _))))
 refine wpQuiet_nil ?_
 intro w9 hw9
 obtain⟨k9,rfl⟩:=hw9
 have hb9:=k9.below
 generalize k9.w=w9 at hb9 |-
 go_wp2_with (first
  |(go_at_call 172;(with_reducible refine(hm.out _ hb9).mono ?_);rintro e w5 ⟨⟨v5,rfl⟩,h5,hf5⟩))
 go_end0
 exact⟨⟨_,rfl⟩,h5,(Aa9 hb9).trans hf5⟩
theorem Bi2 (h:TM Z w t T) (ok:Ok T) (hj:T.jr.length<=90000000) (hp:NA Z w v l):Calls Tryz.prog 186 #[.pointer (some ⟨t,0,none⟩),v] w (Does Z w t (toPlace T l)):=by
 obtain⟨P,h⟩:=h
 have hn:=Ac4 l 0
 have hrow:T.c.row<512:=by have:=ok.row;have:=ok.fit.len5;omega
 have hcol:T.c.col<512:=by have:=ok.col;have:=ok.fit.c5;omega
 have hc:=J0 (Ab5 hp)
 have hn1:=Ac4 l 1
 have hc1:=J0 (fun w1 (hb:Below w.heap.size w w1)=>count1_any (hp.below hb))
 have ha:=J0 (An6 h ok (Aa2 l 0) (by omega))
 have hm:=J0 (fun w1 (hb:Below w.heap.size w w1)=>Ac9 (h.below hb).tm ok hj (counted T (Aa2 l 0)) (Aa2 l 1 - 1))
 have hw:IntKind.i64.wrap (Aa2 l 1 - 1)=Aa2 l 1 - 1:=IntWalk.i64_in _ (by omega)
 show Calls _ _ _ _ (Does Z w t (move T (counted T (Aa2 l 0)) (Aa2 l 1 - 1)))
 generalize move T (counted T (Aa2 l 0)) (Aa2 l 1 - 1)=T1 at hm |-
 generalize counted T (Aa2 l 0)=y at ha hm
 generalize Aa2 l 0=n at hc ha hn
 generalize Aa2 l 1=n1 at hc1 hm hw hn1
 clear hn1
 clear h ok hj hp hrow hcol hn
 go_enter Tryz.func186,Tryz.ntmps186
 go_wp2_with (first
  |(go_at_call 237;(with_reducible refine(hc.out).mono ?_);rintro e w1 ⟨rfl,rfl⟩)
  |(go_at_call 239;(with_reducible refine ha.out.mono ?_);rintro e w1 ⟨rfl,q,rfl⟩;have hb9:Below w.heap.size w (w.drewN q):=Aa4 (Below.refl _ _) q)
  |(go_at_call 237;(with_reducible refine(hc1.out _ hb9).mono ?_);rintro e w2 ⟨rfl,rfl⟩)
  |(go_at_call 172;(with_reducible refine(hm.out _ hb9).mono ?_);rintro e w5 ⟨⟨v5,rfl⟩,h5,hf5⟩))
 go_end0
 exact⟨⟨_,rfl⟩,h5,(Aa9 hb9).trans hf5⟩
theorem toRow_any (h:TM Z w t T) (ok:Ok T) (hj:T.jr.length<=90000000) (hp:NA Z w v l):Calls Tryz.prog 187 #[.pointer (some ⟨t,0,none⟩),v] w (Does Z w t (toRow T l)):=by
 obtain⟨P,h⟩:=h
 have hn:=Ac4 l 0
 have hrow:T.c.row<512:=by have:=ok.row;have:=ok.fit.len5;omega
 have hcol:T.c.col<512:=by have:=ok.col;have:=ok.fit.c5;omega
 have c9:=fun k:Eqt.Ext w=>(h.below k.below).c9
 have hc:=J0 (fun k:Eqt.Ext w=>Ab5 (hp.below k.below))
 have ha:=J0 (fun k:Eqt.Ext w=>An6 (h.below k.below) ok (Aa2 l 0) (by omega))
 have hm:=J0 (fun w1 (hb:Below w.heap.size w w1)=>Ac9 (h.below hb).tm ok hj (counted T (Aa2 l 0)) T.c.col)
 show Calls _ _ _ _ (Does Z w t (move T (counted T (Aa2 l 0)) T.c.col))
 generalize move T (counted T (Aa2 l 0)) T.c.col=T1 at hm |-
 generalize counted T (Aa2 l 0)=y at ha hm
 generalize Aa2 l 0=n at hc ha hn
 generalize T.c.col=col at c9 hm hcol
 clear h ok hj hp hrow hcol hn
 go_enter Tryz.func187,Tryz.ntmps187
 go_wp2
 refine Eqt.region_ext_tail 10 (by kernel_rfl) (by kernel_rfl) ?_
 simp only[List.take_succ_cons,List.take_zero,List.drop_succ_cons,List.drop_zero]
 repeat (go_big_quiet_step (first
  |(go_at_call 237;exact Eqt.q_ext_same (hc.out _))
  |(go_at_call 239;exact Eqt.q_ext_asks (ha.out _))))
 refine wpQuiet_nil ?_
 intro w9 hw9
 obtain⟨k9,rfl⟩:=hw9
 have hb9:=k9.below
 generalize k9.w=w9 at hb9 |-
 go_wp2_with (first
  |(go_at_call 172;(with_reducible refine(hm.out _ hb9).mono ?_);rintro e w5 ⟨⟨v5,rfl⟩,h5,hf5⟩))
 go_end0
 exact⟨⟨_,rfl⟩,h5,(Aa9 hb9).trans hf5⟩
theorem tabsOn_any (h:TM Z w t T) (ok:Ok T) (hj:T.jr.length<=90000000) (hp:NA Z w v l):Calls Tryz.prog 188 #[.pointer (some ⟨t,0,none⟩),v] w (Does Z w t (tabsOn T l)):=by
 obtain⟨P,h⟩:=h
 have hn:=Ac4 l 0
 have hrow:T.c.row<512:=by have:=ok.row;have:=ok.fit.len5;omega
 have hcol:T.c.col<512:=by have:=ok.col;have:=ok.fit.c5;omega
 have c8:=fun k:Eqt.Ext w=>(h.below k.below).c8
 have c9:=fun k:Eqt.Ext w=>(h.below k.below).c9
 have c20:=fun k:Eqt.Ext w=>(h.below k.below).c20
 have hc:=J0 (fun k:Eqt.Ext w=>Ab5 (hp.below k.below))
 have hx:=J0 (fun k:Eqt.Ext w=>Tbs.next_any (h.below k.below).tabs (by have:=ok.tn;have:=ok.fit.c1;omega) (by have:=ok.tn;have:=ok.fit.c5;omega) T.c.col (Aa2 l 0) (h.tbl.below k.below).tbs)
 have hm:=J0 (fun w1 (hb:Below w.heap.size w w1)=>Ac9 (h.below hb).tm ok hj T.c.row (Tbs.nextF T.tn T.tf T.c.col (Aa2 l 0)))
 show Calls _ _ _ _ (Does Z w t (move T T.c.row (Tbs.nextF T.tn T.tf T.c.col (Aa2 l 0))))
 generalize move T T.c.row (Tbs.nextF T.tn T.tf T.c.col (Aa2 l 0))=T1 at hm |-
 generalize Tbs.nextF T.tn T.tf T.c.col (Aa2 l 0)=y at hx hm
 generalize Aa2 l 0=n at hc hx hn
 generalize T.c.col=col at c9 hx hcol
 generalize T.c.row=row at c8 hm hrow
 clear h ok hj hp hrow hcol hn
 go_enter Tryz.func188,Tryz.ntmps188
 go_wp2
 refine Eqt.region_ext_tail 18 (by kernel_rfl) (by kernel_rfl) ?_
 simp only[List.take_succ_cons,List.take_zero,List.drop_succ_cons,List.drop_zero]
 repeat (go_big_quiet_step (first
  |(go_at_call 237;exact Eqt.q_ext_same (hc.out _))
  |(go_at_call 173;exact Eqt.q_ext (hx.out _))))
 refine wpQuiet_nil ?_
 intro w9 hw9
 obtain⟨k9,rfl⟩:=hw9
 have hb9:=k9.below
 generalize k9.w=w9 at hb9 |-
 go_wp2_with (first
  |(go_at_call 172;(with_reducible refine(hm.out _ hb9).mono ?_);rintro e w5 ⟨⟨v5,rfl⟩,h5,hf5⟩))
 go_end0
 exact⟨⟨_,rfl⟩,h5,(Aa9 hb9).trans hf5⟩
theorem tabsBack_any (h:TM Z w t T) (ok:Ok T) (hj:T.jr.length<=90000000) (hp:NA Z w v l):Calls Tryz.prog 189 #[.pointer (some ⟨t,0,none⟩),v] w (Does Z w t (tabsBack T l)):=by
 obtain⟨P,h⟩:=h
 have hn:=Ac4 l 0
 have hrow:T.c.row<512:=by have:=ok.row;have:=ok.fit.len5;omega
 have hcol:T.c.col<512:=by have:=ok.col;have:=ok.fit.c5;omega
 have c8:=fun k:Eqt.Ext w=>(h.below k.below).c8
 have c9:=fun k:Eqt.Ext w=>(h.below k.below).c9
 have c20:=fun k:Eqt.Ext w=>(h.below k.below).c20
 have hc:=J0 (fun k:Eqt.Ext w=>Ab5 (hp.below k.below))
 have hx:=J0 (fun k:Eqt.Ext w=>Tbs.prev_any (h.below k.below).tabs (by have:=ok.tn;have:=ok.fit.c1;omega) (by have:=ok.tn;have:=ok.fit.c5;omega) T.c.col (Aa2 l 0) (h.tbl.below k.below).tbs)
 have hm:=J0 (fun w1 (hb:Below w.heap.size w w1)=>Ac9 (h.below hb).tm ok hj T.c.row (Tbs.prevF T.tn T.tf T.c.col (Aa2 l 0)))
 show Calls _ _ _ _ (Does Z w t (move T T.c.row (Tbs.prevF T.tn T.tf T.c.col (Aa2 l 0))))
 generalize move T T.c.row (Tbs.prevF T.tn T.tf T.c.col (Aa2 l 0))=T1 at hm |-
 generalize Tbs.prevF T.tn T.tf T.c.col (Aa2 l 0)=y at hx hm
 generalize Aa2 l 0=n at hc hx hn
 generalize T.c.col=col at c9 hx hcol
 generalize T.c.row=row at c8 hm hrow
 clear h ok hj hp hrow hcol hn
 go_enter Tryz.func189,Tryz.ntmps189
 go_wp2
 refine Eqt.region_ext_tail 18 (by kernel_rfl) (by kernel_rfl) ?_
 simp only[List.take_succ_cons,List.take_zero,List.drop_succ_cons,List.drop_zero]
 repeat (go_big_quiet_step (first
  |(go_at_call 237;exact Eqt.q_ext_same (hc.out _))
  |(go_at_call 240;exact Eqt.q_ext (hx.out _))))
 refine wpQuiet_nil ?_
 intro w9 hw9
 obtain⟨k9,rfl⟩:=hw9
 have hb9:=k9.below
 generalize k9.w=w9 at hb9 |-
 go_wp2_with (first
  |(go_at_call 172;(with_reducible refine(hm.out _ hb9).mono ?_);rintro e w5 ⟨⟨v5,rfl⟩,h5,hf5⟩))
 go_end0
 exact⟨⟨_,rfl⟩,h5,(Aa9 hb9).trans hf5⟩
theorem Bv1 (h:TM Z w t T) (ok:Ok T) (hj:T.jr.length<=90000000) (hnx:T.nx<=9900000000):Calls Tryz.prog 136 #[.pointer (some ⟨t,0,none⟩)] w (Does Z w t (rowUp T)):=by
 obtain⟨P,h⟩:=h
 have c8:=h.c8
 have hs:=h.s0
 have hsh:=J0 (Aa8 h)
 obtain⟨Z1,hf⟩:=h.focus
 have hm:=J0 (An1 hf.sc ok.fit.len)
 unfold rowUp
 by_cases hc:T.c.row=T.vis.top
 ·rw[if_pos hc]
  have hd:decide ((T.c.row:Int)=(T.vis.top:Int))=true:=decide_eq_true (by omega)
  have hd2:decide (T.c.row=T.vis.top)=true:=decide_eq_true hc
  have hup:=J0 (fun w1 (hb:Below w.heap.size w w1)=>Cf2 (hf.sc.below hb) ok.fit 1 (by show T.nx+512<=10000000000;omega) T.p.a)
  have hbk:=J0 (fun w1 w2 (hb:Below w.heap.size w w1) (hs2:SC Z1 w2 (P.x T.other) P.s (Ag0 T.vis T.vis.top 1 T.p.a)) (hf2:Scn.Fr Z1 PT w1 w2)=>hf.back w2 _ hs2 rfl rfl ((Scn.Fr.of_below hb).trans hf2))
  have hpl:=J0 (fun w2 (h2:TMx Z w2 t (T.putVis (Ag0 T.vis T.vis.top 1 T.p.a)) P)=>Ac9 h2.tm (ok.down ok.fit.top 1 T.p.a) (by rw[Ag2];exact hj) T.c.row T.c.col)
  have ce:=J0 (fun w1 (hb:Below w.heap.size w w1) (k:Eqt.Ext w1)=>And.intro ((h.below hb).below k.below).s0 (And.intro ((h.below hb).below k.below).c11 (And.intro ((h.below hb).below k.below).c12 ((h.below hb).below k.below).c13)))
  have c2:=J0 (fun w2 (h2:TMx Z w2 t (T.putVis (Ag0 T.vis T.vis.top 1 T.p.a)) P) (k:Eqt.Ext w2)=>And.intro (Bp4 T (Ag0 T.vis T.vis.top 1 T.p.a)▸(h2.below k.below).c8) (Bp4 T (Ag0 T.vis T.vis.top 1 T.p.a)▸(h2.below k.below).c9))
  have kp:=J0 (fun w2 w3 (h2:TMx Z w2 t (T.putVis (Ag0 T.vis T.vis.top 1 T.p.a)) P) (hb:Below w2.heap.size w2 w3)=>h2.below hb)
  generalize T.putVis (Ag0 T.vis T.vis.top 1 T.p.a)=T1 at hbk hpl c2 kp |-
  generalize Ag0 T.vis T.vis.top 1 T.p.a=S1 at hup hbk
  generalize P.h T.other=hh at hs hsh ce
  generalize P.x T.other=xx at hs hm hup hbk ce
  generalize T.vis.bot=bot at hm
  generalize T.vis.top=top at hm hd hd2 hc
  subst hc
  generalize T.c.row=row at c8 hd hd2 hm hpl c2 |-
  generalize T.c.col=col at hpl c2 |-
  generalize T.p.a=a at hup ce
  obtain⟨af,ab,ag⟩:=a
  simp only at hup ce
  clear h hf ok
  go_enter Tryz.func136,Tryz.ntmps136
  go_wp2_with (first
   |(go_at_call 68;(with_reducible refine(hsh.out).mono ?_);rintro e w1 ⟨rfl,rfl⟩)
   |(go_at_call 69;(with_reducible refine(hm.out).mono ?_);rintro e w1 ⟨rfl,q,rfl⟩))
  have hbq:=Aa4 (Below.refl w.heap.size w) q
  have k0:=fun k=>(ce.out _ hbq k).1
  have k1:=fun k=>(ce.out _ hbq k).2.1
  have k2:=fun k=>(ce.out _ hbq k).2.2.1
  have k3:=fun k=>(ce.out _ hbq k).2.2.2
  clear c8 hs ce hsh hm
  generalize w.drewN q=wq at hbq k0 k1 k2 k3 |-
  refine Eqt.region_ext_tail 9 (by kernel_rfl) (by kernel_rfl) ?_
  simp only[List.take_succ_cons,List.take_zero,List.drop_succ_cons,List.drop_zero]
  repeat (go_big_quiet_step (fail))
  refine wpQuiet_nil ?_
  intro w9 hw9
  obtain⟨k9,rfl⟩:=hw9
  have hb9:=k9.below
  generalize k9.w=w9 at hb9 |-
  go_wp2_with (first
   |(go_at_call 177;(with_reducible refine(hup.out _ (Aa0 hbq hb9)).mono ?_);rintro e w2 ⟨rfl,hs2,hf2⟩))
  obtain⟨h2,hf3⟩:=hbk.out _ _ (Aa0 hbq hb9) hs2 hf2
  have c8:=fun k=>(c2.out _ h2 k).1
  have c9:=fun k=>(c2.out _ h2 k).2
  have hfr:=(Scn.Fr.of_below (B:=Z) (ts:=TT) (Below.refl w.heap.size w)).trans hf3
  clear k0 k1 k2 k3 hs2 hf2 hbk hup c2 hf3 hb9 hbq
  refine Eqt.region_ext_tail 11 (by kernel_rfl) (by kernel_rfl) ?_
  simp only[List.take_succ_cons,List.take_zero,List.drop_succ_cons,List.drop_zero]
  repeat (go_big_quiet_step (fail))
  refine wpQuiet_nil ?_
  intro w9 hw9
  obtain⟨k9,rfl⟩:=hw9
  have hb9:=k9.below
  generalize k9.w=w9 at hb9 |-
  go_wp2_with (first
   |(go_at_call 172;(with_reducible refine(hpl.out _ (kp.out _ _ h2 hb9)).mono ?_);rintro e w3 ⟨⟨v3,rfl⟩,h3,hf3⟩))
  go_end0
  exact⟨⟨_,rfl⟩,h3,(hfr.trans (Scn.Fr.of_below hb9)).trans hf3⟩
 ·rw[if_neg hc]
  have hd:decide ((T.c.row:Int)=(T.vis.top:Int))=false:=decide_eq_false (by omega)
  have hd2:decide (T.c.row=T.vis.top)=false:=decide_eq_false hc
  have hw:IntKind.i64.wrap ((T.c.row:Int) - 1)=(T.c.row:Int) - 1:=IntWalk.i64_in _ (by have:=ok.row;have:=ok.fit.len5;omega)
  have hpl:=J0 (fun w1 (hb:Below w.heap.size w w1)=>Ac9 (h.below hb).tm ok hj ((T.c.row:Int) - 1) T.c.col)
  have ce:=J0 (fun w1 (hb:Below w.heap.size w w1) (k:Eqt.Ext w1)=>And.intro ((h.below hb).below k.below).c8 ((h.below hb).below k.below).c9)
  generalize move T ((T.c.row:Int) - 1) T.c.col=T1 at hpl |-
  generalize P.h T.other=hh at hs hsh
  generalize P.x T.other=xx at hs hm
  generalize T.vis.bot=bot at hm
  generalize T.vis.top=top at hm hd hd2 hc
  generalize T.c.row=row at c8 hd hd2 hpl ce hw hc
  generalize T.c.col=col at hpl ce
  clear h hf ok
  go_enter Tryz.func136,Tryz.ntmps136
  go_wp2_with (first
   |(go_at_call 68;(with_reducible refine(hsh.out).mono ?_);rintro e w1 ⟨rfl,rfl⟩)
   |(go_at_call 69;(with_reducible refine(hm.out).mono ?_);rintro e w1 ⟨rfl,q,rfl⟩))
  have hbq:=Aa4 (Below.refl w.heap.size w) q
  have k0:=fun k=>(ce.out _ hbq k).1
  have k1:=fun k=>(ce.out _ hbq k).2
  clear c8 hs ce hsh hm
  generalize w.drewN q=wq at hbq k0 k1 |-
  refine Eqt.region_ext_tail 12 (by kernel_rfl) (by kernel_rfl) ?_
  simp only[List.take_succ_cons,List.take_zero,List.drop_succ_cons,List.drop_zero]
  repeat (go_big_quiet_step (fail))
  refine wpQuiet_nil ?_
  intro w9 hw9
  obtain⟨k9,rfl⟩:=hw9
  have hb9:=k9.below
  generalize k9.w=w9 at hb9 |-
  go_wp2_with (first
   |(go_at_call 172;(with_reducible refine(hpl.out _ (Aa0 hbq hb9)).mono ?_);rintro e w3 ⟨⟨v3,rfl⟩,h3,hf3⟩))
  go_end0
  exact⟨⟨_,rfl⟩,h3,(Scn.Fr.of_below (Aa0 hbq hb9)).trans hf3⟩
end
