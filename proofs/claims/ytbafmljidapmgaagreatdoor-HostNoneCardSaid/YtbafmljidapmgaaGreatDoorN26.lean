/- Part 26 of the proof that the card of HostNone holds. -/
import Derived.Test.YtbafmljidapmgaaGreatDoorN25
set_option maxHeartbeats 16000000
set_option maxRecDepth 100000
namespace Go.Proofs.YtbafmljidapmgaaGreatDoor.Emu
open Go RowKit Com Rw Lns Scn
section
variable {Z Z1:Zn} {w w':World} {t x s:Nat} {S:Scr} {T:Ter} {P:Pt} {v:Value} {l:List Int}
theorem Ok.restored (h:Ok T):Ok (restored T):=⟨h.fit,h.fitm,h.rows,h.cols,h.sv.1,h.sv.2,h.sv,h.svm,h.tn,h.alt⟩
def restored0 (T:Ter):Ter:={ T with c:=T.sh.sv.c,p:=T.sh.sv.p,m:={ T.m with a3:=T.sh.sv.org } }
def Cc5 (w:World) (t:Nat) (T:Ter):World:=((((((((((w.setCell ⟨t,8,none⟩ (.int .i64 T.sh.sv.c.row)).setCell ⟨t,9,none⟩ (.int .i64 T.sh.sv.c.col)).setCell ⟨t,10,none⟩ (.bool T.sh.sv.c.pend)).setCell ⟨t,11,none⟩ (.int .u32 T.sh.sv.p.a.f)).setCell ⟨t,12,none⟩ (.int .u32 T.sh.sv.p.a.b)).setCell ⟨t,13,none⟩ (.int .u16 T.sh.sv.p.a.g)).setCell ⟨t,14,none⟩ (.int .u8 T.sh.sv.p.g0)).setCell ⟨t,15,none⟩ (.int .u8 T.sh.sv.p.g1)).setCell ⟨t,16,none⟩ (.int .i64 (whI T.sh.sv.p.wh))).setCell ⟨t,3,none⟩ (.bool T.sh.sv.org))
theorem TMx.restored0 (h:TMx Z w t T P):TMx Z (Cc5 w t T).drew t (restored0 T) P/\Scn.Fr Z TT w (Cc5 w t T).drew:=by
 have e:(((((((((((terA T P).setIfInBounds 8 (.int .i64 T.sh.sv.c.row)).setIfInBounds 9 (.int .i64 T.sh.sv.c.col)).setIfInBounds 10 (.bool T.sh.sv.c.pend)).setIfInBounds 11 (.int .u32 T.sh.sv.p.a.f)).setIfInBounds 12 (.int .u32 T.sh.sv.p.a.b)).setIfInBounds 13 (.int .u16 T.sh.sv.p.a.g)).setIfInBounds 14 (.int .u8 T.sh.sv.p.g0)).setIfInBounds 15 (.int .u8 T.sh.sv.p.g1)).setIfInBounds 16 (.int .i64 (whI T.sh.sv.p.wh))).setIfInBounds 3 (.bool T.sh.sv.org))=terA (Emu.restored0 T) P:=by kernel_rfl
 have hb:Block (Cc5 w t T) t 148 (((((((((((terA T P).setIfInBounds 8 (.int .i64 T.sh.sv.c.row)).setIfInBounds 9 (.int .i64 T.sh.sv.c.col)).setIfInBounds 10 (.bool T.sh.sv.c.pend)).setIfInBounds 11 (.int .u32 T.sh.sv.p.a.f)).setIfInBounds 12 (.int .u32 T.sh.sv.p.a.b)).setIfInBounds 13 (.int .u16 T.sh.sv.p.a.g)).setIfInBounds 14 (.int .u8 T.sh.sv.p.g0)).setIfInBounds 15 (.int .u8 T.sh.sv.p.g1)).setIfInBounds 16 (.int .i64 (whI T.sh.sv.p.wh))).setIfInBounds 3 (.bool T.sh.sv.org)):=((((((((((h.blk).set 8 _).set 9 _).set 10 _).set 11 _).set 12 _).set 13 _).set 14 _).set 15 _).set 16 _).set 3 _
 rw [e] at hb
 obtain ⟨h1,hf⟩:=h.turn (w':=Cc5 w t T) (m:={ T.m with a3:=T.sh.sv.org }) (c:=T.sh.sv.c) (p:=T.sh.sv.p) (n:=T.prints) (e:=T.last) (((((((((((Only.refl _ _).trans (Only.setCell _ ⟨t,8,none⟩ _)).trans (Only.setCell _ ⟨t,9,none⟩ _)).trans (Only.setCell _ ⟨t,10,none⟩ _)).trans (Only.setCell _ ⟨t,11,none⟩ _)).trans (Only.setCell _ ⟨t,12,none⟩ _)).trans (Only.setCell _ ⟨t,13,none⟩ _)).trans (Only.setCell _ ⟨t,14,none⟩ _)).trans (Only.setCell _ ⟨t,15,none⟩ _)).trans (Only.setCell _ ⟨t,16,none⟩ _)).trans (Only.setCell _ ⟨t,3,none⟩ _)) hb
 exact ⟨h1.drew 1,hf.trans (Scn.Fr.of_below (Aa5 (Below.refl _ _) 1))⟩
theorem TMx.setPend (h:TMx Z w t T P) (b:Bool):TMx Z (w.setCell ⟨t,10,none⟩ (.bool b)) t { T with c:={ T.c with pend:=b } } P/\Scn.Fr Z TT w (w.setCell ⟨t,10,none⟩ (.bool b)) :=
 h.turn (m:=T.m) (c:={ T.c with pend:=b }) (p:=T.p) (n:=T.prints) (e:=T.last) (Only.setCell w ⟨t,10,none⟩ _) (h.blk.set 10 _)
theorem At4 (h:TM Z w t T) (ok:Ok T) (hj:T.jr.length<=90000000):Calls Tryz.prog 281 #[.pointer (some ⟨t,0,none⟩)] w (Does Z w t (restore T)):=by
 show Calls _ _ _ _ (Does Z w t (tellOther (restored T)))
 obtain ⟨T2,hT2⟩:∃ T2,T2=restored T:=⟨_,rfl⟩
 rw [<- hT2]
 replace hT2:=J0 hT2
 obtain ⟨P,h⟩:=h
 have hsh:=J0 (Ab0 h)
 have d1:=h.s1
 have d2:=h.s2
 have d3:=h.s3
 have d4:=h.s4
 have d5:=h.s5
 have d6:=h.s6
 have d7:=h.s7
 have d8:=h.s8
 have d9:=h.s9
 have d10:=h.s10
 have c3:=h.c3
 have f3:=h.free 3
 have c8:=h.c8
 have f8:=h.free 8
 have c9:=h.c9
 have f9:=h.free 9
 have c10:=h.c10
 have f10:=h.free 10
 have c11:=h.c11
 have f11:=h.free 11
 have c12:=h.c12
 have f12:=h.free 12
 have c13:=h.c13
 have f13:=h.free 13
 have c14:=h.c14
 have f14:=h.free 14
 have c15:=h.c15
 have f15:=h.free 15
 have c16:=h.c16
 have f16:=h.free 16
 generalize hhe:P.h T.other=hh at hsh d1 d2 d3 d4 d5 d6 d7 d8 d9 d10
 have hne:hh≠t:=fun e=>absurd (Typ.inj (Block.typ h.sheet) (by rw [hhe,e];exact Block.typ h.blk)) (by decide)
 replace hhe:=J0 hhe
 go_enter Tryz.func281,Tryz.ntmps281
 go_wp2_with (first
  |(go_at_call 163;(with_reducible refine (hsh.out).mono ?_);rintro e w1 ⟨rfl,rfl⟩))
 go_region
 obtain ⟨h6,hf6⟩:=h.restored0
 change Exit.then _ _ _ _ (Cc5 w t T).drew
 generalize (Cc5 w t T).drew=w6 at h6 hf6 |-
 clear hsh d1 d2 d3 d4 d5 d6 d7 d8 d9 d10 c3 c8 c9 c10 c11 c12 c13 c14 c15 c16 f3 f8 f9 f10 f11 f12 f13 f14 f15 f16
 have ok6:Ok (restored T):=ok.restored
 have hvis:(restored0 T).vis=T.vis:=rfl
 have hjr:(restored T).jr=T.jr:=rfl
 have e10:=fun k:Eqt.Ext w6=>(h6.below k.below).c10
 have e9:=fun k:Eqt.Ext w6=>(h6.below k.below).c9
 have es:=fun k:Eqt.Ext w6=>(h6.below k.below).s0
 obtain ⟨Z1,hfo⟩:=h6.focus
 have hco:=J0 (fun k:Eqt.Ext w6=>Ah0 (hfo.sc.below k.below) ok.fit.len)
 have hp:∀ b,b=(restored T).c.pend->Hid (∀ w1 (hb:Below w6.heap.size w6 w1),TMx Z (w1.setCell ⟨t,10,none⟩ (.bool b)) t (restored T) P/\Scn.Fr Z TT w1 (w1.setCell ⟨t,10,none⟩ (.bool b))):=fun b hb=>J0 fun w1 hb1=>by
  subst hb
  exact (h6.below hb1).setPend _
 have f10:=fun w1 (hb:Below w6.heap.size w6 w1)=>(h6.below hb).free 10
 have g10:=fun w1 (hb:Below w6.heap.size w6 w1)=>(h6.below hb).c10
 have ht:=J0 (fun w1 (h1:TM Z w1 t (restored T))=>Ac9 h1 ok6 hj)
 have hcol:=ok.sv.2
 have hc5:=ok.fit.c5
 have hc1:=ok.fit.c1
 have hpe:(restored T).c.pend=(T.sh.sv.c.pend && decide (T.sh.sv.c.col+1=T.vis.cols)):=rfl
 rw [hpe] at hp
 rw [<- hT2.out] at hp ht
 simp only [restored0,Ter.sh] at e9 e10 g10 es hpe
 rw [hvis] at hco
 change ∀ k:Eqt.Ext w6,k.w.cell? ⟨t,9,none⟩=some (.int .i64 T.sh.sv.c.col) at e9
 change ∀ k:Eqt.Ext w6,k.w.cell? ⟨t,10,none⟩=some (.bool T.sh.sv.c.pend) at e10
 change ∀ k:Eqt.Ext w6,k.w.cell? ⟨P.h T.other,0,none⟩=some (.pointer (some ⟨P.x T.other,0,none⟩)) at es
 change ∀ w1,Below w6.heap.size w6 w1->w1.cell? ⟨t,10,none⟩=some (.bool T.sh.sv.c.pend) at g10
 rw [hhe.out] at es
 have hco':Hid (∀ k:Eqt.Ext w6,Calls Tryz.prog 232 #[.pointer (some ⟨P.x T.other,0,none⟩)] k.w fun e w'=>e=.returned (.int .i64 T.vis.cols)/\k.w=w'):=hco
 generalize T.sh.sv.c.pend=pe at e10 g10 hp
 generalize T.sh.sv.c.col=col at e9 hp hcol
 generalize T.vis.cols=cols at hco' hp hcol hc5 hc1
 generalize P.x T.other=xx at es hco'
 have hw:IntKind.i64.wrap ((cols:Int) - 1)=(cols:Int) - 1:=IntWalk.i64_in _ (by omega)
 have hd:∀ b,b=decide (col+1=cols)->decide ((col:Int)=(cols:Int) - 1)=b/\((col:Int) == (cols:Int) - 1)=b:=fun b hb=>by
  have:decide ((col:Int)=(cols:Int) - 1)=b:=by
   rw [hb,decide_eq_decide]
   omega
  exact ⟨this,by rw [<- this];rfl⟩
 clear h h6 hfo ok ok6 hco hvis hjr hpe
 go_wp2
 cases pe
 ·have hp2:=hp false rfl
  clear hp hd
  refine Eqt.region_ext_tail 23 (by kernel_rfl) (by kernel_rfl) ?_
  simp only [List.take_succ_cons,List.take_zero,List.drop_succ_cons,List.drop_zero]
  repeat (go_big_quiet_step (fail))
  refine wpQuiet_nil ?_
  intro w9 hw9
  obtain ⟨k9,rfl⟩:=hw9
  have hb9:=k9.below
  generalize k9.w=w9 at hb9 |-
  have q1:=f10 _ hb9
  have q2:=g10 _ hb9
  obtain ⟨h7,hf7⟩:=hp2.out _ hb9
  go_wp2_with (first
   |(go_at_call 237;(with_reducible refine (ht.out _ h7.tm).mono ?_);rintro e w8 ⟨⟨v8,rfl⟩,h8,hf8⟩))
  go_end0
  exact ⟨⟨_,rfl⟩,h8,((hf6.trans (Aa9 hb9)).trans hf7).trans hf8⟩
 ·obtain ⟨b,hb⟩:∃ b,b=decide (col+1=cols):=⟨_,rfl⟩
  have hp2:=hp b (by rw [Bool.true_and];exact hb)
  obtain ⟨hd2,hd3⟩:=hd b hb
  clear hp hd hb
  refine Eqt.region_ext_tail 23 (by kernel_rfl) (by kernel_rfl) ?_
  simp only [List.take_succ_cons,List.take_zero,List.drop_succ_cons,List.drop_zero]
  repeat (go_big_quiet_step (first
   |(go_at_call 232;exact Eqt.q_ext_same (hco'.out _))))
  refine wpQuiet_nil ?_
  intro w9 hw9
  obtain ⟨k9,rfl⟩:=hw9
  have hb9:=k9.below
  generalize k9.w=w9 at hb9 |-
  have q1:=f10 _ hb9
  have q2:=g10 _ hb9
  obtain ⟨h7,hf7⟩:=hp2.out _ hb9
  go_wp2_with (first
   |(go_at_call 237;(with_reducible refine (ht.out _ h7.tm).mono ?_);rintro e w8 ⟨⟨v8,rfl⟩,h8,hf8⟩))
  go_end0
  exact ⟨⟨_,rfl⟩,h8,((hf6.trans (Aa9 hb9)).trans hf7).trans hf8⟩
end
section
variable {Z Z1:Zn} {w w':World} {t x s:Nat} {S:Scr} {T:Ter} {P:Pt} {v:Value} {l:List Int}
theorem Ab3 (h:NA Z w v l):Calls Tryz.prog 376 #[v,.int .i64 0] w fun e w'=>e=.returned (.int .i64 (Aa2 l 0))/\w=w':=Ae8 h 0
theorem count1_any (h:NA Z w v l):Calls Tryz.prog 376 #[v,.int .i64 1] w fun e w'=>e=.returned (.int .i64 (Aa2 l 1))/\w=w':=Ae8 h 1
theorem Am2 (h:NA Z w v l):Calls Tryz.prog 380 #[v,.int .i64 0] w fun e w'=>e=.returned (.int .i64 (atN l 0))/\w=w':=Bo3 h 0
theorem Ay2 (h:NA Z w v l):Calls Tryz.prog 380 #[v,.int .i64 1] w fun e w'=>e=.returned (.int .i64 (atN l 1))/\w=w':=Bo3 h 1
theorem goUp_any (h:TM Z w t T) (ok:Ok T) (hj:T.jr.length<=90000000) (hp:NA Z w v l):Calls Tryz.prog 321 #[.pointer (some ⟨t,0,none⟩),v] w (Does Z w t (goUp T l)):=by
 obtain ⟨P,h⟩:=h
 have hn:=Ac4 l 0
 have hrow:T.c.row<512:=by have:=ok.row;have:=ok.fit.len5;omega
 have hcol:T.c.col<512:=by have:=ok.col;have:=ok.fit.c5;omega
 have c9:=fun k:Eqt.Ext w=>(h.below k.below).c9
 have hc:=J0 (fun k:Eqt.Ext w=>Ab3 (hp.below k.below))
 have ha:=J0 (fun k:Eqt.Ext w=>Bo2 (h.below k.below) ok (Aa2 l 0) (by omega))
 have hm:=J0 (fun w1 (hb:Below w.heap.size w w1)=>Ac8 (h.below hb).tm ok hj (above T (Aa2 l 0)) T.c.col)
 show Calls _ _ _ _ (Does Z w t (move T (above T (Aa2 l 0)) T.c.col))
 generalize move T (above T (Aa2 l 0)) T.c.col=T1 at hm |-
 generalize above T (Aa2 l 0)=y at ha hm
 generalize Aa2 l 0=n at hc ha hn
 generalize T.c.col=col at c9 hm hcol
 clear h ok hj hp hrow hcol hn
 go_enter Tryz.func321,Tryz.ntmps321
 go_wp2
 refine Eqt.region_ext_tail 10 (by kernel_rfl) (by kernel_rfl) ?_
 simp only [List.take_succ_cons,List.take_zero,List.drop_succ_cons,List.drop_zero]
 repeat (go_big_quiet_step (first
  |(go_at_call 376;exact Eqt.q_ext_same (hc.out _))
  |(go_at_call 375;exact Eqt.q_ext_asks (ha.out _))))
 refine wpQuiet_nil ?_
 intro w9 hw9
 obtain ⟨k9,rfl⟩:=hw9
 have hb9:=k9.below
 generalize k9.w=w9 at hb9 |-
 go_wp2_with (first
  |(go_at_call 167;(with_reducible refine (hm.out _ hb9).mono ?_);rintro e w5 ⟨⟨v5,rfl⟩,h5,hf5⟩))
 go_end0
 exact ⟨⟨_,rfl⟩,h5,(Aa9 hb9).trans hf5⟩
theorem goDown_any (h:TM Z w t T) (ok:Ok T) (hj:T.jr.length<=90000000) (hp:NA Z w v l):Calls Tryz.prog 322 #[.pointer (some ⟨t,0,none⟩),v] w (Does Z w t (goDown T l)):=by
 obtain ⟨P,h⟩:=h
 have hn:=Ac4 l 0
 have hrow:T.c.row<512:=by have:=ok.row;have:=ok.fit.len5;omega
 have hcol:T.c.col<512:=by have:=ok.col;have:=ok.fit.c5;omega
 have c9:=fun k:Eqt.Ext w=>(h.below k.below).c9
 have hc:=J0 (fun k:Eqt.Ext w=>Ab3 (hp.below k.below))
 have ha:=J0 (fun k:Eqt.Ext w=>Au6 (h.below k.below) ok (Aa2 l 0) (by omega))
 have hm:=J0 (fun w1 (hb:Below w.heap.size w w1)=>Ac8 (h.below hb).tm ok hj (below T (Aa2 l 0)) T.c.col)
 show Calls _ _ _ _ (Does Z w t (move T (below T (Aa2 l 0)) T.c.col))
 generalize move T (below T (Aa2 l 0)) T.c.col=T1 at hm |-
 generalize below T (Aa2 l 0)=y at ha hm
 generalize Aa2 l 0=n at hc ha hn
 generalize T.c.col=col at c9 hm hcol
 clear h ok hj hp hrow hcol hn
 go_enter Tryz.func322,Tryz.ntmps322
 go_wp2
 refine Eqt.region_ext_tail 10 (by kernel_rfl) (by kernel_rfl) ?_
 simp only [List.take_succ_cons,List.take_zero,List.drop_succ_cons,List.drop_zero]
 repeat (go_big_quiet_step (first
  |(go_at_call 376;exact Eqt.q_ext_same (hc.out _))
  |(go_at_call 377;exact Eqt.q_ext_asks (ha.out _))))
 refine wpQuiet_nil ?_
 intro w9 hw9
 obtain ⟨k9,rfl⟩:=hw9
 have hb9:=k9.below
 generalize k9.w=w9 at hb9 |-
 go_wp2_with (first
  |(go_at_call 167;(with_reducible refine (hm.out _ hb9).mono ?_);rintro e w5 ⟨⟨v5,rfl⟩,h5,hf5⟩))
 go_end0
 exact ⟨⟨_,rfl⟩,h5,(Aa9 hb9).trans hf5⟩
theorem Bl5 (h:TM Z w t T) (ok:Ok T) (hj:T.jr.length<=90000000) (hp:NA Z w v l):Calls Tryz.prog 323 #[.pointer (some ⟨t,0,none⟩),v] w (Does Z w t (goOn T l)):=by
 obtain ⟨P,h⟩:=h
 have hn:=Ac4 l 0
 have hrow:T.c.row<512:=by have:=ok.row;have:=ok.fit.len5;omega
 have hcol:T.c.col<512:=by have:=ok.col;have:=ok.fit.c5;omega
 have c8:=fun k:Eqt.Ext w=>(h.below k.below).c8
 have c9:=fun k:Eqt.Ext w=>(h.below k.below).c9
 have hc:=J0 (fun k:Eqt.Ext w=>Ab3 (hp.below k.below))
 have hm:=J0 (fun w1 (hb:Below w.heap.size w w1)=>Ac8 (h.below hb).tm ok hj T.c.row ((T.c.col:Int)+Aa2 l 0))
 have hw:IntKind.i64.wrap ((T.c.col:Int)+Aa2 l 0)=(T.c.col:Int)+Aa2 l 0:=IntWalk.i64_in _ (by omega)
 show Calls _ _ _ _ (Does Z w t (move T T.c.row ((T.c.col:Int)+Aa2 l 0)))
 generalize move T T.c.row ((T.c.col:Int)+Aa2 l 0)=T1 at hm |-
 generalize Aa2 l 0=n at hc hm hw hn
 generalize T.c.col=col at c9 hm hw hcol
 generalize T.c.row=row at c8 hm hrow
 clear h ok hj hp hrow hcol hn
 go_enter Tryz.func323,Tryz.ntmps323
 go_wp2
 refine Eqt.region_ext_tail 14 (by kernel_rfl) (by kernel_rfl) ?_
 simp only [List.take_succ_cons,List.take_zero,List.drop_succ_cons,List.drop_zero]
 repeat (go_big_quiet_step (first
  |(go_at_call 376;exact Eqt.q_ext_same (hc.out _))))
 refine wpQuiet_nil ?_
 intro w9 hw9
 obtain ⟨k9,rfl⟩:=hw9
 have hb9:=k9.below
 generalize k9.w=w9 at hb9 |-
 go_wp2_with (first
  |(go_at_call 167;(with_reducible refine (hm.out _ hb9).mono ?_);rintro e w5 ⟨⟨v5,rfl⟩,h5,hf5⟩))
 go_end0
 exact ⟨⟨_,rfl⟩,h5,(Aa9 hb9).trans hf5⟩
theorem goBack_any (h:TM Z w t T) (ok:Ok T) (hj:T.jr.length<=90000000) (hp:NA Z w v l):Calls Tryz.prog 324 #[.pointer (some ⟨t,0,none⟩),v] w (Does Z w t (goBack T l)):=by
 obtain ⟨P,h⟩:=h
 have hn:=Ac4 l 0
 have hrow:T.c.row<512:=by have:=ok.row;have:=ok.fit.len5;omega
 have hcol:T.c.col<512:=by have:=ok.col;have:=ok.fit.c5;omega
 have c8:=fun k:Eqt.Ext w=>(h.below k.below).c8
 have c9:=fun k:Eqt.Ext w=>(h.below k.below).c9
 have hc:=J0 (fun k:Eqt.Ext w=>Ab3 (hp.below k.below))
 have hm:=J0 (fun w1 (hb:Below w.heap.size w w1)=>Ac8 (h.below hb).tm ok hj T.c.row ((T.c.col:Int) - Aa2 l 0))
 have hw:IntKind.i64.wrap ((T.c.col:Int) - Aa2 l 0)=(T.c.col:Int) - Aa2 l 0:=IntWalk.i64_in _ (by omega)
 show Calls _ _ _ _ (Does Z w t (move T T.c.row ((T.c.col:Int) - Aa2 l 0)))
 generalize move T T.c.row ((T.c.col:Int) - Aa2 l 0)=T1 at hm |-
 generalize Aa2 l 0=n at hc hm hw hn
 generalize T.c.col=col at c9 hm hw hcol
 generalize T.c.row=row at c8 hm hrow
 clear h ok hj hp hrow hcol hn
 go_enter Tryz.func324,Tryz.ntmps324
 go_wp2
 refine Eqt.region_ext_tail 14 (by kernel_rfl) (by kernel_rfl) ?_
 simp only [List.take_succ_cons,List.take_zero,List.drop_succ_cons,List.drop_zero]
 repeat (go_big_quiet_step (first
  |(go_at_call 376;exact Eqt.q_ext_same (hc.out _))))
 refine wpQuiet_nil ?_
 intro w9 hw9
 obtain ⟨k9,rfl⟩:=hw9
 have hb9:=k9.below
 generalize k9.w=w9 at hb9 |-
 go_wp2_with (first
  |(go_at_call 167;(with_reducible refine (hm.out _ hb9).mono ?_);rintro e w5 ⟨⟨v5,rfl⟩,h5,hf5⟩))
 go_end0
 exact ⟨⟨_,rfl⟩,h5,(Aa9 hb9).trans hf5⟩
theorem goDownB_any (h:TM Z w t T) (ok:Ok T) (hj:T.jr.length<=90000000) (hp:NA Z w v l):Calls Tryz.prog 325 #[.pointer (some ⟨t,0,none⟩),v] w (Does Z w t (Bt8 T l)):=by
 obtain ⟨P,h⟩:=h
 have hn:=Ac4 l 0
 have hrow:T.c.row<512:=by have:=ok.row;have:=ok.fit.len5;omega
 have hcol:T.c.col<512:=by have:=ok.col;have:=ok.fit.c5;omega
 have hc:=J0 (Ab3 hp)
 have ha:=J0 (Au6 h ok (Aa2 l 0) (by omega))
 have hm:=J0 (fun w1 (hb:Below w.heap.size w w1)=>Ac8 (h.below hb).tm ok hj (below T (Aa2 l 0)) 0)
 show Calls _ _ _ _ (Does Z w t (move T (below T (Aa2 l 0)) 0))
 generalize move T (below T (Aa2 l 0)) 0=T1 at hm |-
 generalize below T (Aa2 l 0)=y at ha hm
 generalize Aa2 l 0=n at hc ha hn
 clear h ok hj hp hrow hcol hn
 go_enter Tryz.func325,Tryz.ntmps325
 go_wp2_with (first
  |(go_at_call 376;(with_reducible refine (hc.out).mono ?_);rintro e w1 ⟨rfl,rfl⟩)
  |(go_at_call 377;(with_reducible refine ha.out.mono ?_);rintro e w1 ⟨rfl,q,rfl⟩;have hb9:Below w.heap.size w (w.drewN q):=Aa5 (Below.refl _ _) q)
  |(go_at_call 167;(with_reducible refine (hm.out _ hb9).mono ?_);rintro e w5 ⟨⟨v5,rfl⟩,h5,hf5⟩))
 go_end0
 exact ⟨⟨_,rfl⟩,h5,(Aa9 hb9).trans hf5⟩
theorem goUpB_any (h:TM Z w t T) (ok:Ok T) (hj:T.jr.length<=90000000) (hp:NA Z w v l):Calls Tryz.prog 326 #[.pointer (some ⟨t,0,none⟩),v] w (Does Z w t (Cp4 T l)):=by
 obtain ⟨P,h⟩:=h
 have hn:=Ac4 l 0
 have hrow:T.c.row<512:=by have:=ok.row;have:=ok.fit.len5;omega
 have hcol:T.c.col<512:=by have:=ok.col;have:=ok.fit.c5;omega
 have hc:=J0 (Ab3 hp)
 have ha:=J0 (Bo2 h ok (Aa2 l 0) (by omega))
 have hm:=J0 (fun w1 (hb:Below w.heap.size w w1)=>Ac8 (h.below hb).tm ok hj (above T (Aa2 l 0)) 0)
 show Calls _ _ _ _ (Does Z w t (move T (above T (Aa2 l 0)) 0))
 generalize move T (above T (Aa2 l 0)) 0=T1 at hm |-
 generalize above T (Aa2 l 0)=y at ha hm
 generalize Aa2 l 0=n at hc ha hn
 clear h ok hj hp hrow hcol hn
 go_enter Tryz.func326,Tryz.ntmps326
 go_wp2_with (first
  |(go_at_call 376;(with_reducible refine (hc.out).mono ?_);rintro e w1 ⟨rfl,rfl⟩)
  |(go_at_call 375;(with_reducible refine ha.out.mono ?_);rintro e w1 ⟨rfl,q,rfl⟩;have hb9:Below w.heap.size w (w.drewN q):=Aa5 (Below.refl _ _) q)
  |(go_at_call 167;(with_reducible refine (hm.out _ hb9).mono ?_);rintro e w5 ⟨⟨v5,rfl⟩,h5,hf5⟩))
 go_end0
 exact ⟨⟨_,rfl⟩,h5,(Aa9 hb9).trans hf5⟩
theorem Bs9 (h:TM Z w t T) (ok:Ok T) (hj:T.jr.length<=90000000) (hp:NA Z w v l):Calls Tryz.prog 327 #[.pointer (some ⟨t,0,none⟩),v] w (Does Z w t (toCol T l)):=by
 obtain ⟨P,h⟩:=h
 have hn:=Ac4 l 0
 have hrow:T.c.row<512:=by have:=ok.row;have:=ok.fit.len5;omega
 have hcol:T.c.col<512:=by have:=ok.col;have:=ok.fit.c5;omega
 have c8:=fun k:Eqt.Ext w=>(h.below k.below).c8
 have hc:=J0 (fun k:Eqt.Ext w=>Ab3 (hp.below k.below))
 have hm:=J0 (fun w1 (hb:Below w.heap.size w w1)=>Ac8 (h.below hb).tm ok hj T.c.row (Aa2 l 0 - 1))
 have hw:IntKind.i64.wrap (Aa2 l 0 - 1)=Aa2 l 0 - 1:=IntWalk.i64_in _ (by omega)
 show Calls _ _ _ _ (Does Z w t (move T T.c.row (Aa2 l 0 - 1)))
 generalize move T T.c.row (Aa2 l 0 - 1)=T1 at hm |-
 generalize Aa2 l 0=n at hc hm hw hn
 generalize T.c.row=row at c8 hm hrow
 clear h ok hj hp hrow hcol hn
 go_enter Tryz.func327,Tryz.ntmps327
 go_wp2
 refine Eqt.region_ext_tail 9 (by kernel_rfl) (by kernel_rfl) ?_
 simp only [List.take_succ_cons,List.take_zero,List.drop_succ_cons,List.drop_zero]
 repeat (go_big_quiet_step (first
  |(go_at_call 376;exact Eqt.q_ext_same (hc.out _))))
 refine wpQuiet_nil ?_
 intro w9 hw9
 obtain ⟨k9,rfl⟩:=hw9
 have hb9:=k9.below
 generalize k9.w=w9 at hb9 |-
 go_wp2_with (first
  |(go_at_call 167;(with_reducible refine (hm.out _ hb9).mono ?_);rintro e w5 ⟨⟨v5,rfl⟩,h5,hf5⟩))
 go_end0
 exact ⟨⟨_,rfl⟩,h5,(Aa9 hb9).trans hf5⟩
theorem Bg5 (h:TM Z w t T) (ok:Ok T) (hj:T.jr.length<=90000000) (hp:NA Z w v l):Calls Tryz.prog 328 #[.pointer (some ⟨t,0,none⟩),v] w (Does Z w t (toPlace T l)):=by
 obtain ⟨P,h⟩:=h
 have hn:=Ac4 l 0
 have hrow:T.c.row<512:=by have:=ok.row;have:=ok.fit.len5;omega
 have hcol:T.c.col<512:=by have:=ok.col;have:=ok.fit.c5;omega
 have hc:=J0 (Ab3 hp)
 have hn1:=Ac4 l 1
 have hc1:=J0 (fun w1 (hb:Below w.heap.size w w1)=>count1_any (hp.below hb))
 have ha:=J0 (An5 h ok (Aa2 l 0) (by omega))
 have hm:=J0 (fun w1 (hb:Below w.heap.size w w1)=>Ac8 (h.below hb).tm ok hj (counted T (Aa2 l 0)) (Aa2 l 1 - 1))
 have hw:IntKind.i64.wrap (Aa2 l 1 - 1)=Aa2 l 1 - 1:=IntWalk.i64_in _ (by omega)
 show Calls _ _ _ _ (Does Z w t (move T (counted T (Aa2 l 0)) (Aa2 l 1 - 1)))
 generalize move T (counted T (Aa2 l 0)) (Aa2 l 1 - 1)=T1 at hm |-
 generalize counted T (Aa2 l 0)=y at ha hm
 generalize Aa2 l 0=n at hc ha hn
 generalize Aa2 l 1=n1 at hc1 hm hw hn1
 clear hn1
 clear h ok hj hp hrow hcol hn
 go_enter Tryz.func328,Tryz.ntmps328
 go_wp2_with (first
  |(go_at_call 376;(with_reducible refine (hc.out).mono ?_);rintro e w1 ⟨rfl,rfl⟩)
  |(go_at_call 378;(with_reducible refine ha.out.mono ?_);rintro e w1 ⟨rfl,q,rfl⟩;have hb9:Below w.heap.size w (w.drewN q):=Aa5 (Below.refl _ _) q)
  |(go_at_call 376;(with_reducible refine (hc1.out _ hb9).mono ?_);rintro e w2 ⟨rfl,rfl⟩)
  |(go_at_call 167;(with_reducible refine (hm.out _ hb9).mono ?_);rintro e w5 ⟨⟨v5,rfl⟩,h5,hf5⟩))
 go_end0
 exact ⟨⟨_,rfl⟩,h5,(Aa9 hb9).trans hf5⟩
theorem toRow_any (h:TM Z w t T) (ok:Ok T) (hj:T.jr.length<=90000000) (hp:NA Z w v l):Calls Tryz.prog 329 #[.pointer (some ⟨t,0,none⟩),v] w (Does Z w t (toRow T l)):=by
 obtain ⟨P,h⟩:=h
 have hn:=Ac4 l 0
 have hrow:T.c.row<512:=by have:=ok.row;have:=ok.fit.len5;omega
 have hcol:T.c.col<512:=by have:=ok.col;have:=ok.fit.c5;omega
 have c9:=fun k:Eqt.Ext w=>(h.below k.below).c9
 have hc:=J0 (fun k:Eqt.Ext w=>Ab3 (hp.below k.below))
 have ha:=J0 (fun k:Eqt.Ext w=>An5 (h.below k.below) ok (Aa2 l 0) (by omega))
 have hm:=J0 (fun w1 (hb:Below w.heap.size w w1)=>Ac8 (h.below hb).tm ok hj (counted T (Aa2 l 0)) T.c.col)
 show Calls _ _ _ _ (Does Z w t (move T (counted T (Aa2 l 0)) T.c.col))
 generalize move T (counted T (Aa2 l 0)) T.c.col=T1 at hm |-
 generalize counted T (Aa2 l 0)=y at ha hm
 generalize Aa2 l 0=n at hc ha hn
 generalize T.c.col=col at c9 hm hcol
 clear h ok hj hp hrow hcol hn
 go_enter Tryz.func329,Tryz.ntmps329
 go_wp2
 refine Eqt.region_ext_tail 10 (by kernel_rfl) (by kernel_rfl) ?_
 simp only [List.take_succ_cons,List.take_zero,List.drop_succ_cons,List.drop_zero]
 repeat (go_big_quiet_step (first
  |(go_at_call 376;exact Eqt.q_ext_same (hc.out _))
  |(go_at_call 378;exact Eqt.q_ext_asks (ha.out _))))
 refine wpQuiet_nil ?_
 intro w9 hw9
 obtain ⟨k9,rfl⟩:=hw9
 have hb9:=k9.below
 generalize k9.w=w9 at hb9 |-
 go_wp2_with (first
  |(go_at_call 167;(with_reducible refine (hm.out _ hb9).mono ?_);rintro e w5 ⟨⟨v5,rfl⟩,h5,hf5⟩))
 go_end0
 exact ⟨⟨_,rfl⟩,h5,(Aa9 hb9).trans hf5⟩
theorem tabsOn_any (h:TM Z w t T) (ok:Ok T) (hj:T.jr.length<=90000000) (hp:NA Z w v l):Calls Tryz.prog 330 #[.pointer (some ⟨t,0,none⟩),v] w (Does Z w t (tabsOn T l)):=by
 obtain ⟨P,h⟩:=h
 have hn:=Ac4 l 0
 have hrow:T.c.row<512:=by have:=ok.row;have:=ok.fit.len5;omega
 have hcol:T.c.col<512:=by have:=ok.col;have:=ok.fit.c5;omega
 have c8:=fun k:Eqt.Ext w=>(h.below k.below).c8
 have c9:=fun k:Eqt.Ext w=>(h.below k.below).c9
 have c20:=fun k:Eqt.Ext w=>(h.below k.below).c20
 have hc:=J0 (fun k:Eqt.Ext w=>Ab3 (hp.below k.below))
 have hx:=J0 (fun k:Eqt.Ext w=>Tbs.next_any (h.below k.below).tabs (by have:=ok.tn;have:=ok.fit.c1;omega) (by have:=ok.tn;have:=ok.fit.c5;omega) T.c.col (Aa2 l 0) (h.tbl.below k.below).tbs)
 have hm:=J0 (fun w1 (hb:Below w.heap.size w w1)=>Ac8 (h.below hb).tm ok hj T.c.row (Tbs.nextF T.tn T.tf T.c.col (Aa2 l 0)))
 show Calls _ _ _ _ (Does Z w t (move T T.c.row (Tbs.nextF T.tn T.tf T.c.col (Aa2 l 0))))
 generalize move T T.c.row (Tbs.nextF T.tn T.tf T.c.col (Aa2 l 0))=T1 at hm |-
 generalize Tbs.nextF T.tn T.tf T.c.col (Aa2 l 0)=y at hx hm
 generalize Aa2 l 0=n at hc hx hn
 generalize T.c.col=col at c9 hx hcol
 generalize T.c.row=row at c8 hm hrow
 clear h ok hj hp hrow hcol hn
 go_enter Tryz.func330,Tryz.ntmps330
 go_wp2
 refine Eqt.region_ext_tail 18 (by kernel_rfl) (by kernel_rfl) ?_
 simp only [List.take_succ_cons,List.take_zero,List.drop_succ_cons,List.drop_zero]
 repeat (go_big_quiet_step (first
  |(go_at_call 376;exact Eqt.q_ext_same (hc.out _))
  |(go_at_call 316;exact Eqt.q_ext (hx.out _))))
 refine wpQuiet_nil ?_
 intro w9 hw9
 obtain ⟨k9,rfl⟩:=hw9
 have hb9:=k9.below
 generalize k9.w=w9 at hb9 |-
 go_wp2_with (first
  |(go_at_call 167;(with_reducible refine (hm.out _ hb9).mono ?_);rintro e w5 ⟨⟨v5,rfl⟩,h5,hf5⟩))
 go_end0
 exact ⟨⟨_,rfl⟩,h5,(Aa9 hb9).trans hf5⟩
theorem tabsBack_any (h:TM Z w t T) (ok:Ok T) (hj:T.jr.length<=90000000) (hp:NA Z w v l):Calls Tryz.prog 331 #[.pointer (some ⟨t,0,none⟩),v] w (Does Z w t (tabsBack T l)):=by
 obtain ⟨P,h⟩:=h
 have hn:=Ac4 l 0
 have hrow:T.c.row<512:=by have:=ok.row;have:=ok.fit.len5;omega
 have hcol:T.c.col<512:=by have:=ok.col;have:=ok.fit.c5;omega
 have c8:=fun k:Eqt.Ext w=>(h.below k.below).c8
 have c9:=fun k:Eqt.Ext w=>(h.below k.below).c9
 have c20:=fun k:Eqt.Ext w=>(h.below k.below).c20
 have hc:=J0 (fun k:Eqt.Ext w=>Ab3 (hp.below k.below))
 have hx:=J0 (fun k:Eqt.Ext w=>Tbs.prev_any (h.below k.below).tabs (by have:=ok.tn;have:=ok.fit.c1;omega) (by have:=ok.tn;have:=ok.fit.c5;omega) T.c.col (Aa2 l 0) (h.tbl.below k.below).tbs)
 have hm:=J0 (fun w1 (hb:Below w.heap.size w w1)=>Ac8 (h.below hb).tm ok hj T.c.row (Tbs.prevF T.tn T.tf T.c.col (Aa2 l 0)))
 show Calls _ _ _ _ (Does Z w t (move T T.c.row (Tbs.prevF T.tn T.tf T.c.col (Aa2 l 0))))
 generalize move T T.c.row (Tbs.prevF T.tn T.tf T.c.col (Aa2 l 0))=T1 at hm |-
 generalize Tbs.prevF T.tn T.tf T.c.col (Aa2 l 0)=y at hx hm
 generalize Aa2 l 0=n at hc hx hn
 generalize T.c.col=col at c9 hx hcol
 generalize T.c.row=row at c8 hm hrow
 clear h ok hj hp hrow hcol hn
 go_enter Tryz.func331,Tryz.ntmps331
 go_wp2
 refine Eqt.region_ext_tail 18 (by kernel_rfl) (by kernel_rfl) ?_
 simp only [List.take_succ_cons,List.take_zero,List.drop_succ_cons,List.drop_zero]
 repeat (go_big_quiet_step (first
  |(go_at_call 376;exact Eqt.q_ext_same (hc.out _))
  |(go_at_call 379;exact Eqt.q_ext (hx.out _))))
 refine wpQuiet_nil ?_
 intro w9 hw9
 obtain ⟨k9,rfl⟩:=hw9
 have hb9:=k9.below
 generalize k9.w=w9 at hb9 |-
 go_wp2_with (first
  |(go_at_call 167;(with_reducible refine (hm.out _ hb9).mono ?_);rintro e w5 ⟨⟨v5,rfl⟩,h5,hf5⟩))
 go_end0
 exact ⟨⟨_,rfl⟩,h5,(Aa9 hb9).trans hf5⟩
theorem Bs3 (h:TM Z w t T) (ok:Ok T) (hj:T.jr.length<=90000000) (hnx:T.nx<=9900000000):Calls Tryz.prog 278 #[.pointer (some ⟨t,0,none⟩)] w (Does Z w t (rowUp T)):=by
 obtain ⟨P,h⟩:=h
 have c8:=h.c8
 have hs:=h.s0
 have hsh:=J0 (Ab0 h)
 obtain ⟨Z1,hf⟩:=h.focus
 have hm:=J0 (Am9 hf.sc ok.fit.len)
 unfold rowUp
 by_cases hc:T.c.row=T.vis.top
 ·rw [if_pos hc]
  have hd:decide ((T.c.row:Int)=(T.vis.top:Int))=true:=decide_eq_true (by omega)
  have hd2:decide (T.c.row=T.vis.top)=true:=decide_eq_true hc
  have hup:=J0 (fun w1 (hb:Below w.heap.size w w1)=>Cd1 (hf.sc.below hb) ok.fit 1 (by show T.nx+512<=10000000000;omega) T.p.a)
  have hbk:=J0 (fun w1 w2 (hb:Below w.heap.size w w1) (hs2:SC Z1 w2 (P.x T.other) P.s (Ag4 T.vis T.vis.top 1 T.p.a)) (hf2:Scn.Fr Z1 PT w1 w2)=>hf.back w2 _ hs2 rfl rfl ((Scn.Fr.of_below hb).trans hf2))
  have hpl:=J0 (fun w2 (h2:TMx Z w2 t (T.putVis (Ag4 T.vis T.vis.top 1 T.p.a)) P)=>Ac8 h2.tm (ok.down ok.fit.top 1 T.p.a) (by rw [Ae9];exact hj) T.c.row T.c.col)
  have ce:=J0 (fun w1 (hb:Below w.heap.size w w1) (k:Eqt.Ext w1)=>And.intro ((h.below hb).below k.below).s0 (And.intro ((h.below hb).below k.below).c11 (And.intro ((h.below hb).below k.below).c12 ((h.below hb).below k.below).c13)))
  have c2:=J0 (fun w2 (h2:TMx Z w2 t (T.putVis (Ag4 T.vis T.vis.top 1 T.p.a)) P) (k:Eqt.Ext w2)=>And.intro (Bb2 T (Ag4 T.vis T.vis.top 1 T.p.a)▸(h2.below k.below).c8) (Bb2 T (Ag4 T.vis T.vis.top 1 T.p.a)▸(h2.below k.below).c9))
  have kp:=J0 (fun w2 w3 (h2:TMx Z w2 t (T.putVis (Ag4 T.vis T.vis.top 1 T.p.a)) P) (hb:Below w2.heap.size w2 w3)=>h2.below hb)
  generalize T.putVis (Ag4 T.vis T.vis.top 1 T.p.a)=T1 at hbk hpl c2 kp |-
  generalize Ag4 T.vis T.vis.top 1 T.p.a=S1 at hup hbk
  generalize P.h T.other=hh at hs hsh ce
  generalize P.x T.other=xx at hs hm hup hbk ce
  generalize T.vis.bot=bot at hm
  generalize T.vis.top=top at hm hd hd2 hc
  subst hc
  generalize T.c.row=row at c8 hd hd2 hm hpl c2 |-
  generalize T.c.col=col at hpl c2 |-
  generalize T.p.a=a at hup ce
  obtain ⟨af,ab,ag⟩:=a
  simp only at hup ce
  clear h hf ok
  go_enter Tryz.func278,Tryz.ntmps278
  go_wp2_with (first
   |(go_at_call 163;(with_reducible refine (hsh.out).mono ?_);rintro e w1 ⟨rfl,rfl⟩)
   |(go_at_call 178;(with_reducible refine (hm.out).mono ?_);rintro e w1 ⟨rfl,q,rfl⟩))
  have hbq:=Aa5 (Below.refl w.heap.size w) q
  have k0:=fun k=>(ce.out _ hbq k).1
  have k1:=fun k=>(ce.out _ hbq k).2.1
  have k2:=fun k=>(ce.out _ hbq k).2.2.1
  have k3:=fun k=>(ce.out _ hbq k).2.2.2
  clear c8 hs ce hsh hm
  generalize w.drewN q=wq at hbq k0 k1 k2 k3 |-
  refine Eqt.region_ext_tail 9 (by kernel_rfl) (by kernel_rfl) ?_
  simp only [List.take_succ_cons,List.take_zero,List.drop_succ_cons,List.drop_zero]
  repeat (go_big_quiet_step (fail))
  refine wpQuiet_nil ?_
  intro w9 hw9
  obtain ⟨k9,rfl⟩:=hw9
  have hb9:=k9.below
  generalize k9.w=w9 at hb9 |-
  go_wp2_with (first
   |(go_at_call 319;(with_reducible refine (hup.out _ (Aa0 hbq hb9)).mono ?_);rintro e w2 ⟨rfl,hs2,hf2⟩))
  obtain ⟨h2,hf3⟩:=hbk.out _ _ (Aa0 hbq hb9) hs2 hf2
  have c8:=fun k=>(c2.out _ h2 k).1
  have c9:=fun k=>(c2.out _ h2 k).2
  have hfr:=(Scn.Fr.of_below (B:=Z) (ts:=TT) (Below.refl w.heap.size w)).trans hf3
  clear k0 k1 k2 k3 hs2 hf2 hbk hup c2 hf3 hb9 hbq
  refine Eqt.region_ext_tail 11 (by kernel_rfl) (by kernel_rfl) ?_
  simp only [List.take_succ_cons,List.take_zero,List.drop_succ_cons,List.drop_zero]
  repeat (go_big_quiet_step (fail))
  refine wpQuiet_nil ?_
  intro w9 hw9
  obtain ⟨k9,rfl⟩:=hw9
  have hb9:=k9.below
  generalize k9.w=w9 at hb9 |-
  go_wp2_with (first
   |(go_at_call 167;(with_reducible refine (hpl.out _ (kp.out _ _ h2 hb9)).mono ?_);rintro e w3 ⟨⟨v3,rfl⟩,h3,hf3⟩))
  go_end0
  exact ⟨⟨_,rfl⟩,h3,(hfr.trans (Scn.Fr.of_below hb9)).trans hf3⟩
 ·rw [if_neg hc]
  have hd:decide ((T.c.row:Int)=(T.vis.top:Int))=false:=decide_eq_false (by omega)
  have hd2:decide (T.c.row=T.vis.top)=false:=decide_eq_false hc
  have hw:IntKind.i64.wrap ((T.c.row:Int) - 1)=(T.c.row:Int) - 1:=IntWalk.i64_in _ (by have:=ok.row;have:=ok.fit.len5;omega)
  have hpl:=J0 (fun w1 (hb:Below w.heap.size w w1)=>Ac8 (h.below hb).tm ok hj ((T.c.row:Int) - 1) T.c.col)
  have ce:=J0 (fun w1 (hb:Below w.heap.size w w1) (k:Eqt.Ext w1)=>And.intro ((h.below hb).below k.below).c8 ((h.below hb).below k.below).c9)
  generalize move T ((T.c.row:Int) - 1) T.c.col=T1 at hpl |-
  generalize P.h T.other=hh at hs hsh
  generalize P.x T.other=xx at hs hm
  generalize T.vis.bot=bot at hm
  generalize T.vis.top=top at hm hd hd2 hc
  generalize T.c.row=row at c8 hd hd2 hpl ce hw hc
  generalize T.c.col=col at hpl ce
  clear h hf ok
  go_enter Tryz.func278,Tryz.ntmps278
  go_wp2_with (first
   |(go_at_call 163;(with_reducible refine (hsh.out).mono ?_);rintro e w1 ⟨rfl,rfl⟩)
   |(go_at_call 178;(with_reducible refine (hm.out).mono ?_);rintro e w1 ⟨rfl,q,rfl⟩))
  have hbq:=Aa5 (Below.refl w.heap.size w) q
  have k0:=fun k=>(ce.out _ hbq k).1
  have k1:=fun k=>(ce.out _ hbq k).2
  clear c8 hs ce hsh hm
  generalize w.drewN q=wq at hbq k0 k1 |-
  refine Eqt.region_ext_tail 12 (by kernel_rfl) (by kernel_rfl) ?_
  simp only [List.take_succ_cons,List.take_zero,List.drop_succ_cons,List.drop_zero]
  repeat (go_big_quiet_step (fail))
  refine wpQuiet_nil ?_
  intro w9 hw9
  obtain ⟨k9,rfl⟩:=hw9
  have hb9:=k9.below
  generalize k9.w=w9 at hb9 |-
  go_wp2_with (first
   |(go_at_call 167;(with_reducible refine (hpl.out _ (Aa0 hbq hb9)).mono ?_);rintro e w3 ⟨⟨v3,rfl⟩,h3,hf3⟩))
  go_end0
  exact ⟨⟨_,rfl⟩,h3,(Scn.Fr.of_below (Aa0 hbq hb9)).trans hf3⟩
end
