/- Part 36 of HostKeys. -/
import Derived.Test.YtecnpoigegiooaaGreatDoorW35
set_option maxHeartbeats 16000000
set_option maxRecDepth 100000
namespace Go.Proofs.YtecnpoigegiooaaGreatDoor.Emu
open Go.Proofs.Tryz
open Go RowKit Com Rw Lns Scn
section
variable {Z Z1:Zn}{w w':World}{t x s d b:Nat}{S:Scr}{T:Ter}{P:Pt}{v:Value}{l:List Int}
theorem Brt{w:World}{b c:Nat}{y:Int}{la:Bool}(h:Block w b 73 ((#[.int .u8 2,.int .u64 0,.int .i64 y,.int .i64 c,.bool false,.int .i32 0,.bool false,.bool false,.bool false,.bool false]:Array Value).toList.take 7++[Value.bool la]++(#[.int .u8 2,.int .u64 0,.int .i64 y,.int .i64 c,.bool false,.int .i32 0,.bool false,.bool false,.bool false,.bool false]:Array Value).toList.drop (7+1)).toArray):w.heap[b]?=some (.cells (evA ⟨2,0,y,c,false,0,false,la,false,false⟩) 73 (0,0)):=h
theorem Auy(l:List Cel)(col r:Int):(Q1 l col r).length=l.length:=by
 unfold Q1
 split
 ·unfold Aid
  split
  ·split
   ·simp
   ·rfl
  ·rfl
 ·rfl
theorem Cfl(h:TMx Z w t T P)(ok:Ok T)(r:Int)(h10:T.c.F6=true)(hr:¬(0<=(T.c.col:Int)/\(T.c.col:Int)<((line T).length:Int))):Calls prog 123 #[.pointer (some ⟨t,0,none⟩),.int .i32 r] w (A7 Z w t T):=by
 obtain⟨Z1,hf⟩:=h.focus
 obtain⟨d,hd⟩:=Adr hf.sc ok.row
 have F5:=ok.col
 have hc5:=ok.fit.c5
 have c9:=h.c9
 have c10:=h.c10
 rw[h10]at c10
 have hl:=J0 (Acm h ok hd)
 have hce:Hid (∀w1,Below w.heap.size w w1->Calls prog 161 #[.pointer (some ⟨d,0,none⟩),.int .i64 ((T.c.col:Int))] w1 fun e w'=>e=.returned (.tuple #[.agg #[.int .i32 0,.slice none 0 0,.int .u8 0,.int .u32 0,.int .u32 0,.int .u16 0],.int .i64 6])/\Below w1.heap.size w1 w'):=J0 (fun w1 hb=>Bfm (O0 hd hb) ((T.c.col:Int)) hr)
 have A4:=J0 (fun w1 (hb:Below w.heap.size w w1)=>(h.below hb).tm)
 have hw:IntKind.i64.wrap ((T.c.col:Int)-1)=(T.c.col:Int)-1:=IntWalk.i64_in _ (by omega)
 generalize T.c.col=col at *
 clear h ok hf hd hr F5 hc5
 go_enter func123,ntmps123
 go_wp2_with (first
  |(go_at_call 160;(with_reducible refine(hl.out).mono ?_);rintro e w1 ⟨rfl,hq⟩)
  |(go_at_call 161;have hb1:=Adm (Below.refl w.heap.size w) hq;(with_reducible refine(hce.out _ hb1).mono ?_);rintro e w2 ⟨rfl,hb2⟩))
 have hb3:=A2 (A2 hb1 hb2) (A3 w2 (.cells #[.int .i32 0,.slice none 0 0,.int .u8 0,.int .u32 0,.int .u32 0,.int .u16 0] 57))
 go_end0
 exact⟨⟨_,rfl⟩,A4.out _ hb3,I8 hb3⟩
theorem Cfk(h:TMx Z w t T P)(ok:Ok T)(r:Int)(h10:T.c.F6=false)(hr:¬(0<=(T.c.col:Int)-1/\(T.c.col:Int)-1<((line T).length:Int))):Calls prog 123 #[.pointer (some ⟨t,0,none⟩),.int .i32 r] w (A7 Z w t T):=by
 obtain⟨Z1,hf⟩:=h.focus
 obtain⟨d,hd⟩:=Adr hf.sc ok.row
 have F5:=ok.col
 have hc5:=ok.fit.c5
 have c9:=h.c9
 have c10:=h.c10
 rw[h10]at c10
 have hl:=J0 (Acm h ok hd)
 have hce:Hid (∀w1,Below w.heap.size w w1->Calls prog 161 #[.pointer (some ⟨d,0,none⟩),.int .i64 ((T.c.col:Int)-1)] w1 fun e w'=>e=.returned (.tuple #[.agg #[.int .i32 0,.slice none 0 0,.int .u8 0,.int .u32 0,.int .u32 0,.int .u16 0],.int .i64 6])/\Below w1.heap.size w1 w'):=J0 (fun w1 hb=>Bfm (O0 hd hb) ((T.c.col:Int)-1) hr)
 have A4:=J0 (fun w1 (hb:Below w.heap.size w w1)=>(h.below hb).tm)
 have hw:IntKind.i64.wrap ((T.c.col:Int)-1)=(T.c.col:Int)-1:=IntWalk.i64_in _ (by omega)
 generalize T.c.col=col at *
 clear h ok hf hd hr F5 hc5
 go_enter func123,ntmps123
 go_wp2_with (first
  |(go_at_call 160;(with_reducible refine(hl.out).mono ?_);rintro e w1 ⟨rfl,hq⟩)
  |(go_at_call 161;have hb1:=Adm (Below.refl w.heap.size w) hq;(with_reducible refine(hce.out _ hb1).mono ?_);rintro e w2 ⟨rfl,hb2⟩))
 have hb3:=A2 (A2 hb1 hb2) (A3 w2 (.cells #[.int .i32 0,.slice none 0 0,.int .u8 0,.int .u32 0,.int .u32 0,.int .u16 0] 57))
 go_end0
 exact⟨⟨_,rfl⟩,A4.out _ hb3,I8 hb3⟩
theorem Blu(h:TMx Z w t T P)(ok:Ok T)(hj:T.jr.length<=90000000)(hpr:T.C5<=10000000000)(r:Int)(k:Nat)(hk:k<(C8 T.vis T.c.row).length)(hor:(T.c.F6=true/\k=T.c.col)\/(T.c.F6=false/\k+1=T.c.col))(hwd:(C8 T.vis T.c.row)[k].wide=2):Calls prog 123 #[.pointer (some ⟨t,0,none⟩),.int .i32 r] w (A7 Z w t (Aqm T (k-1) r)):=by
 rcases hor with⟨h10,hkc⟩|⟨h10,hkc⟩
 all_goals
  obtain⟨Z1,hf⟩:=h.focus
  obtain⟨d,hd⟩:=Adr hf.sc ok.row
  have F5:=ok.col
  have hc5:=ok.fit.c5
  have c9:=h.c9
  have c10:=h.c10
  rw[h10]at c10
  have hl:=J0 (fun w1 (hb:Below w.heap.size w w1)=>Acm (h.below hb) ok (O0 hd hb))
  have hce:=J0 (fun w1 (hb:Below w.heap.size w w1)=>Bfc (O0 hd hb) k hk)
 case' _ =>
  have hkI:(T.c.col:Int)=(k:Int):=by omega
  rw[hkI]at c9
 rotate_left
 case' _ =>
  have hkI:IntKind.i64.wrap ((T.c.col:Int)-1)=(k:Int):=by rw[IntWalk.i64_in _ (by omega)];omega
 rotate_left
 all_goals
  have hk1:1<=k:=by
   have hg:=(Byj hd).whole
   have h2:W (C8 T.vis T.c.row) k=2:=(Ain hk).trans hwd
   rcases Nat.eq_zero_or_pos k with e|e
   ·subst e
    exact absurd h2 ((Ahi _).1 hg).1
   ·exact e
  obtain⟨c,hc⟩:∃c,c=k-1:=⟨_,rfl⟩
  rw[<- hc]
  have hkw:IntKind.i64.wrap ((k:Int)-1)=(c:Int):=by rw[IntWalk.i64_in _ (by omega)];omega
  have hjo:Hid (∀w1,Below w.heap.size w w1->Calls prog 162 #[.pointer (some ⟨d,0,none⟩),.int .i64 c,.int .i32 r] w1 fun e w3=>(∃v,e=.returned v)/\TMx Z w3 t (C1 T (Q1 (line T) c r)) P/\Scn.Fr Z TT w w3):=J0 fun w1 hb=>(Bia (O0 hd hb) c r).mono fun e w3 ⟨he,hr,hf3⟩=>⟨⟨_,he⟩,(Amt hf ((Scn.Fr.A1 hb).trans hf3) hr).1.tm,(Amt hf ((Scn.Fr.A1 hb).trans hf3) hr).2⟩
  have N2:Ok (C1 T (Q1 (line T) c r)):=ok.C1 (Auy _ _ _)
  have e2:(C1 T (Q1 (line T) c r)).jr=T.jr:=V7 _ _
  have e3:(C1 T (Q1 (line T) c r)).C5=T.C5:=Ams _ _
  unfold Aqm
  simp only
  generalize C1 T (Q1 (line T) c r)=T1 at *
  have hhe:Hid (∀w3,TMx Z w3 t T1 P->Calls prog 163 #[.pointer (some ⟨t,0,none⟩),.int .u8 2] w3 fun e w'=>e=.returned (.agg #[.int .u8 2,.int .u64 0,.int .i64 (L6 T1.vis.L T1.c.row),.int .i64 T1.c.col,.bool false,.int .i32 0,.bool false,.bool false,.bool false,.bool false])/\Below w3.heap.size w3 w'):=J0 fun w3 h3=>Ajf h3 N2 2
  have hcs:=J0 (fun w3 (h3:TMx Z w3 t T1 P) w4 (hb:Below w3.heap.size w3 w4)=>(⟨(h3.below hb).c22,(h3.below hb).c23,(h3.below hb).c24,(h3.below hb).c25,(h3.below hb).c26,(h3.below hb).c27,(h3.below hb).c28,(h3.below hb).c29,(h3.below hb).c30,(h3.below hb).c31⟩:_/\_/\_/\_/\_/\_/\_/\_/\_/\_))
  have hir:=J0 (fun w1=>Bgl T1.last (L6 T1.vis.L T1.c.row) c w1)
  have htl:=J0 (fun w3 (h3:TMx Z w3 t T1 P) w4 (hb:Below w3.heap.size w3 w4)=>Atj (h3.below hb) (by rw[e2];exact hj) (by rw[e3];exact hpr) { here T1 2 with col:=c,la:=Acl T1.last (here T1 2).line c } r)
  change Hid (∀w3 (h3:TMx Z w3 t T1 P) w4 (hb:Below w3.heap.size w3 w4),Calls prog 165 #[.pointer (some ⟨t,0,none⟩),.agg (evA ⟨2,0,L6 T1.vis.L T1.c.row,c,false,0,false,Acl T1.last (L6 T1.vis.L T1.c.row) c,false,false⟩),.int .i32 r] w4 fun x w'=>(∃v,x=.returned v)/\TM Z w' t (I1 T1 { here T1 2 with col:=c,la:=Acl T1.last (here T1 2).line c } r)/\Scn.Fr Z TT w4 w')at htl
  generalize I1 T1 { here T1 2 with col:=c,la:=Acl T1.last (here T1 2).line c } r=T2 at htl |-
  generalize Acl T1.last (L6 T1.vis.L T1.c.row) c=la at hir htl
  generalize L6 T1.vis.L T1.c.row=y at *
  generalize T1.c.col=col1 at hhe
  generalize T1.last=e0 at hcs hir
  obtain⟨g0,g1,g2,g3,g4,g5,g6,g7,g8,g9⟩:=e0
  simp only[evA]at hcs hir
  generalize (C8 T.vis T.c.row)[k]=cc at hce hwd
  have hwq:(cc.wide==2)=true:=by simpa using hwd
  have hwe:decide (cc.wide=2)=true:=decide_eq_true hwd
 case' _ =>
  generalize T.c.col=col at hkI
 rotate_left
 case' _ =>
  generalize T.c.col=col at *
 rotate_left
 all_goals
  clear h ok hj hpr hf hd hk F5 hc5 N2 e2 e3 h10
  obtain⟨cr,cm,cw,ca⟩:=cc
  simp only at hwd hwq hwe
  clear hwd
  replace hc:=J0 hc
 case' _ =>
  clear hkc hkI
 rotate_left
 case' _ =>
  clear hkc
 rotate_left
 all_goals
  go_enter func123,ntmps123
  go_wp2_with (first
   |(go_at_call 161;(with_reducible refine(hce.out _ hb1).mono ?_);rintro e w2 ⟨v2,rfl,C0,hb2⟩;obtain⟨ao,cp,rfl,_,_,_⟩:=C0.shape;clear C0;have hbc:=A2 hb1 hb2;simp only[I5,R9])
   |(go_at_call 160;(with_reducible refine(hl.out _ (Below.refl _ _)).mono ?_);rintro e w1 ⟨rfl,hq⟩;have hb1:=Adm (Below.refl w.heap.size w) hq)
   |(go_at_call 160;have hbn:=fun o=>A2 hbc (A3 w2 o);(with_reducible refine(hl.out _ (hbn _)).mono ?_);rintro e w5 ⟨rfl,hq5⟩;have hb5:=Adm (hbn _) hq5)
   |(go_at_call 162;(with_reducible refine(hjo.out _ hb5).mono ?_);rintro e w6 ⟨⟨v6,rfl⟩,h6,hf6⟩)
   |(go_at_call 163;(with_reducible refine(hhe.out _ h6).mono ?_);rintro e w7 ⟨rfl,hb7⟩))
  have hbn:=A2 hb7 (A3 w7 (.cells #[.int .u8 2,.int .u64 0,.int .i64 y,.int .i64 c,.bool false,.int .i32 0,.bool false,.bool false,.bool false,.bool false] 73))
  have hbx:=Block.made w7 73 #[.int .u8 2,.int .u64 0,.int .i64 y,.int .i64 c,.bool false,.int .i32 0,.bool false,.bool false,.bool false,.bool false]
  have hsz:w6.heap.size<=w7.heap.size:=hb7.size
  generalize w7.alloc (.cells #[.int .u8 2,.int .u64 0,.int .i64 y,.int .i64 c,.bool false,.int .i32 0,.bool false,.bool false,.bool false,.bool false] 73)=wE at hbn hbx |-
  generalize w7.heap.size=b at hbx hsz |-
  have k22:=fun k:Eqt.Ext wE=>(hcs.out _ h6 _ (A2 hbn k.below)).1
  have k23:=fun k:Eqt.Ext wE=>(hcs.out _ h6 _ (A2 hbn k.below)).2.1
  have k24:=fun k:Eqt.Ext wE=>(hcs.out _ h6 _ (A2 hbn k.below)).2.2.1
  have k25:=fun k:Eqt.Ext wE=>(hcs.out _ h6 _ (A2 hbn k.below)).2.2.2.1
  have k26:=fun k:Eqt.Ext wE=>(hcs.out _ h6 _ (A2 hbn k.below)).2.2.2.2.1
  have k27:=fun k:Eqt.Ext wE=>(hcs.out _ h6 _ (A2 hbn k.below)).2.2.2.2.2.1
  have k28:=fun k:Eqt.Ext wE=>(hcs.out _ h6 _ (A2 hbn k.below)).2.2.2.2.2.2.1
  have k29:=fun k:Eqt.Ext wE=>(hcs.out _ h6 _ (A2 hbn k.below)).2.2.2.2.2.2.2.1
  have k30:=fun k:Eqt.Ext wE=>(hcs.out _ h6 _ (A2 hbn k.below)).2.2.2.2.2.2.2.2.1
  have k31:=fun k:Eqt.Ext wE=>(hcs.out _ h6 _ (A2 hbn k.below)).2.2.2.2.2.2.2.2.2
  have x2:=fun k:Eqt.Ext wE=>(Block.only hbx (A0.A1 k.below []) (by simp)).cell 2 (v:=.int .i64 y) rfl
  clear hl hce hjo hhe hcs hq hq5 hb1 hbc hb2 hb5 hb7
  refine Eqt.H4 9 (by kernel_rfl) (by kernel_rfl) ?_
  simp only[List.take_succ_cons,List.take_zero,List.drop_succ_cons,List.drop_zero]
  repeat (go_big_quiet_step (first
   |(go_at_call 164;exact Eqt.Arp (hir.out _))))
  refine wpQuiet_nil ?_
  intro w9 hw9
  obtain⟨k9,rfl⟩:=hw9
  have hb9:=k9.below
  generalize k9.w=w9 at hb9 |-
  have hx9:=Block.only hbx (A0.A1 hb9 []) (by simp)
  clear k22 k23 k24 k25 k26 k27 k28 k29 k30 k31 x2 hbx hir
  go_wp2_with (first
   |(with_reducible refine J8 55 ?_;go_must(refine N9 rfl _ (.tmp 55) (.tmp 54) rfl hx9 (.bool la) rfl rfl (by simp) Awf rfl ?_);intro w8 hE ho;have hbE:=(A2 hbn hb9).trans (ho.below (A2 hbn hb9).size (by simpa using hsz));have hE7:=Brt hE)
   |(with_reducible refine J9 57 7 ?_;go_must(refine wpList_load_row rfl _ (.tmp 7) rfl b rfl _ (evA ⟨2,0,y,c,false,0,false,la,false,false⟩) (0,0) _ hE7 underlying73 rfl (Aht _) ?_))
   |(go_at_call 165;(with_reducible refine(htl.out _ h6 _ hbE).mono ?_);rintro e wz ⟨⟨vz,rfl⟩,hz,hfz⟩))
  go_end0
  exact⟨⟨_,rfl⟩,hz,(hf6.trans (I8 hbE)).trans hfz⟩
theorem Blt(h:TMx Z w t T P)(ok:Ok T)(hj:T.jr.length<=90000000)(hpr:T.C5<=10000000000)(r:Int)(k:Nat)(hk:k<(C8 T.vis T.c.row).length)(hor:(T.c.F6=true/\k=T.c.col)\/(T.c.F6=false/\k+1=T.c.col))(hwd:(C8 T.vis T.c.row)[k].wide≠2):Calls prog 123 #[.pointer (some ⟨t,0,none⟩),.int .i32 r] w (A7 Z w t (Aqm T k r)):=by
 rcases hor with⟨h10,hkc⟩|⟨h10,hkc⟩
 all_goals
  obtain⟨Z1,hf⟩:=h.focus
  obtain⟨d,hd⟩:=Adr hf.sc ok.row
  have F5:=ok.col
  have hc5:=ok.fit.c5
  have c9:=h.c9
  have c10:=h.c10
  rw[h10]at c10
  have hl:=J0 (fun w1 (hb:Below w.heap.size w w1)=>Acm (h.below hb) ok (O0 hd hb))
  have hce:=J0 (fun w1 (hb:Below w.heap.size w w1)=>Bfc (O0 hd hb) k hk)
 case' _ =>
  have hkI:(T.c.col:Int)=(k:Int):=by omega
  have hw0:IntKind.i64.wrap ((T.c.col:Int)-1)=(T.c.col:Int)-1:=IntWalk.i64_in _ (by omega)
  rw[hkI]at c9 hw0
 rotate_left
 case' _ =>
  have hkI:IntKind.i64.wrap ((T.c.col:Int)-1)=(k:Int):=by rw[IntWalk.i64_in _ (by omega)];omega
 rotate_left
 all_goals
  obtain⟨c,hc⟩:∃c,c=k:=⟨_,rfl⟩
  subst hc
  have hc:True:=trivial
  have hjo:Hid (∀w1,Below w.heap.size w w1->Calls prog 162 #[.pointer (some ⟨d,0,none⟩),.int .i64 c,.int .i32 r] w1 fun e w3=>(∃v,e=.returned v)/\TMx Z w3 t (C1 T (Q1 (line T) c r)) P/\Scn.Fr Z TT w w3):=J0 fun w1 hb=>(Bia (O0 hd hb) c r).mono fun e w3 ⟨he,hr,hf3⟩=>⟨⟨_,he⟩,(Amt hf ((Scn.Fr.A1 hb).trans hf3) hr).1.tm,(Amt hf ((Scn.Fr.A1 hb).trans hf3) hr).2⟩
  have N2:Ok (C1 T (Q1 (line T) c r)):=ok.C1 (Auy _ _ _)
  have e2:(C1 T (Q1 (line T) c r)).jr=T.jr:=V7 _ _
  have e3:(C1 T (Q1 (line T) c r)).C5=T.C5:=Ams _ _
  unfold Aqm
  simp only
  generalize C1 T (Q1 (line T) c r)=T1 at *
  have hhe:Hid (∀w3,TMx Z w3 t T1 P->Calls prog 163 #[.pointer (some ⟨t,0,none⟩),.int .u8 2] w3 fun e w'=>e=.returned (.agg #[.int .u8 2,.int .u64 0,.int .i64 (L6 T1.vis.L T1.c.row),.int .i64 T1.c.col,.bool false,.int .i32 0,.bool false,.bool false,.bool false,.bool false])/\Below w3.heap.size w3 w'):=J0 fun w3 h3=>Ajf h3 N2 2
  have hcs:=J0 (fun w3 (h3:TMx Z w3 t T1 P) w4 (hb:Below w3.heap.size w3 w4)=>(⟨(h3.below hb).c22,(h3.below hb).c23,(h3.below hb).c24,(h3.below hb).c25,(h3.below hb).c26,(h3.below hb).c27,(h3.below hb).c28,(h3.below hb).c29,(h3.below hb).c30,(h3.below hb).c31⟩:_/\_/\_/\_/\_/\_/\_/\_/\_/\_))
  have hir:=J0 (fun w1=>Bgl T1.last (L6 T1.vis.L T1.c.row) c w1)
  have htl:=J0 (fun w3 (h3:TMx Z w3 t T1 P) w4 (hb:Below w3.heap.size w3 w4)=>Atj (h3.below hb) (by rw[e2];exact hj) (by rw[e3];exact hpr) { here T1 2 with col:=c,la:=Acl T1.last (here T1 2).line c } r)
  change Hid (∀w3 (h3:TMx Z w3 t T1 P) w4 (hb:Below w3.heap.size w3 w4),Calls prog 165 #[.pointer (some ⟨t,0,none⟩),.agg (evA ⟨2,0,L6 T1.vis.L T1.c.row,c,false,0,false,Acl T1.last (L6 T1.vis.L T1.c.row) c,false,false⟩),.int .i32 r] w4 fun x w'=>(∃v,x=.returned v)/\TM Z w' t (I1 T1 { here T1 2 with col:=c,la:=Acl T1.last (here T1 2).line c } r)/\Scn.Fr Z TT w4 w')at htl
  generalize I1 T1 { here T1 2 with col:=c,la:=Acl T1.last (here T1 2).line c } r=T2 at htl |-
  generalize Acl T1.last (L6 T1.vis.L T1.c.row) c=la at hir htl
  generalize L6 T1.vis.L T1.c.row=y at *
  generalize T1.c.col=col1 at hhe
  generalize T1.last=e0 at hcs hir
  obtain⟨g0,g1,g2,g3,g4,g5,g6,g7,g8,g9⟩:=e0
  simp only[evA]at hcs hir
  generalize (C8 T.vis T.c.row)[c]=cc at hce hwd
  have hwq:(cc.wide==2)=false:=by simpa using hwd
  have hwe:decide (cc.wide=2)=false:=decide_eq_false hwd
 case' _ =>
  generalize T.c.col=col at hkI
 rotate_left
 case' _ =>
  generalize T.c.col=col at *
 rotate_left
 all_goals
  clear h ok hj hpr hf hd hk F5 hc5 N2 e2 e3 h10
  obtain⟨cr,cm,cw,ca⟩:=cc
  simp only at hwd hwq hwe
  clear hwd
  replace hc:=J0 hc
 case' _ =>
  clear hkc hkI
 rotate_left
 case' _ =>
  clear hkc
 rotate_left
 all_goals
  go_enter func123,ntmps123
  go_wp2_with (first
   |(go_at_call 161;(with_reducible refine(hce.out _ hb1).mono ?_);rintro e w2 ⟨v2,rfl,C0,hb2⟩;obtain⟨ao,cp,rfl,_,_,_⟩:=C0.shape;clear C0;have hbc:=A2 hb1 hb2;simp only[I5,R9])
   |(go_at_call 160;(with_reducible refine(hl.out _ (Below.refl _ _)).mono ?_);rintro e w1 ⟨rfl,hq⟩;have hb1:=Adm (Below.refl w.heap.size w) hq)
   |(go_at_call 160;have hbn:=fun o=>A2 hbc (A3 w2 o);(with_reducible refine(hl.out _ (hbn _)).mono ?_);rintro e w5 ⟨rfl,hq5⟩;have hb5:=Adm (hbn _) hq5)
   |(go_at_call 162;(with_reducible refine(hjo.out _ hb5).mono ?_);rintro e w6 ⟨⟨v6,rfl⟩,h6,hf6⟩)
   |(go_at_call 163;(with_reducible refine(hhe.out _ h6).mono ?_);rintro e w7 ⟨rfl,hb7⟩))
  have hbn:=A2 hb7 (A3 w7 (.cells #[.int .u8 2,.int .u64 0,.int .i64 y,.int .i64 c,.bool false,.int .i32 0,.bool false,.bool false,.bool false,.bool false] 73))
  have hbx:=Block.made w7 73 #[.int .u8 2,.int .u64 0,.int .i64 y,.int .i64 c,.bool false,.int .i32 0,.bool false,.bool false,.bool false,.bool false]
  have hsz:w6.heap.size<=w7.heap.size:=hb7.size
  generalize w7.alloc (.cells #[.int .u8 2,.int .u64 0,.int .i64 y,.int .i64 c,.bool false,.int .i32 0,.bool false,.bool false,.bool false,.bool false] 73)=wE at hbn hbx |-
  generalize w7.heap.size=b at hbx hsz |-
  have k22:=fun k:Eqt.Ext wE=>(hcs.out _ h6 _ (A2 hbn k.below)).1
  have k23:=fun k:Eqt.Ext wE=>(hcs.out _ h6 _ (A2 hbn k.below)).2.1
  have k24:=fun k:Eqt.Ext wE=>(hcs.out _ h6 _ (A2 hbn k.below)).2.2.1
  have k25:=fun k:Eqt.Ext wE=>(hcs.out _ h6 _ (A2 hbn k.below)).2.2.2.1
  have k26:=fun k:Eqt.Ext wE=>(hcs.out _ h6 _ (A2 hbn k.below)).2.2.2.2.1
  have k27:=fun k:Eqt.Ext wE=>(hcs.out _ h6 _ (A2 hbn k.below)).2.2.2.2.2.1
  have k28:=fun k:Eqt.Ext wE=>(hcs.out _ h6 _ (A2 hbn k.below)).2.2.2.2.2.2.1
  have k29:=fun k:Eqt.Ext wE=>(hcs.out _ h6 _ (A2 hbn k.below)).2.2.2.2.2.2.2.1
  have k30:=fun k:Eqt.Ext wE=>(hcs.out _ h6 _ (A2 hbn k.below)).2.2.2.2.2.2.2.2.1
  have k31:=fun k:Eqt.Ext wE=>(hcs.out _ h6 _ (A2 hbn k.below)).2.2.2.2.2.2.2.2.2
  have x2:=fun k:Eqt.Ext wE=>(Block.only hbx (A0.A1 k.below []) (by simp)).cell 2 (v:=.int .i64 y) rfl
  clear hl hce hjo hhe hcs hq hq5 hb1 hbc hb2 hb5 hb7
  refine Eqt.H4 9 (by kernel_rfl) (by kernel_rfl) ?_
  simp only[List.take_succ_cons,List.take_zero,List.drop_succ_cons,List.drop_zero]
  repeat (go_big_quiet_step (first
   |(go_at_call 164;exact Eqt.Arp (hir.out _))))
  refine wpQuiet_nil ?_
  intro w9 hw9
  obtain⟨k9,rfl⟩:=hw9
  have hb9:=k9.below
  generalize k9.w=w9 at hb9 |-
  have hx9:=Block.only hbx (A0.A1 hb9 []) (by simp)
  clear k22 k23 k24 k25 k26 k27 k28 k29 k30 k31 x2 hbx hir
  go_wp2_with (first
   |(with_reducible refine J8 55 ?_;go_must(refine N9 rfl _ (.tmp 55) (.tmp 54) rfl hx9 (.bool la) rfl rfl (by simp) Awf rfl ?_);intro w8 hE ho;have hbE:=(A2 hbn hb9).trans (ho.below (A2 hbn hb9).size (by simpa using hsz));have hE7:=Brt hE)
   |(with_reducible refine J9 57 7 ?_;go_must(refine wpList_load_row rfl _ (.tmp 7) rfl b rfl _ (evA ⟨2,0,y,c,false,0,false,la,false,false⟩) (0,0) _ hE7 underlying73 rfl (Aht _) ?_))
   |(go_at_call 165;(with_reducible refine(htl.out _ h6 _ hbE).mono ?_);rintro e wz ⟨⟨vz,rfl⟩,hz,hfz⟩))
  go_end0
  exact⟨⟨_,rfl⟩,hz,(hf6.trans (I8 hbE)).trans hfz⟩
theorem Cfj(h:TM Z w t T)(ok:Ok T)(hj:T.jr.length<=90000000)(hpr:T.C5<=10000000000)(r:Int):Calls prog 123 #[.pointer (some ⟨t,0,none⟩),.int .i32 r] w (A7 Z w t (Alp T r)):=by
 obtain⟨P,h⟩:=h
 unfold Alp
 cases h10:T.c.F6 with
 |true =>
  have hjc:Ahm T=(T.c.col:Int):=by unfold Ahm;rw[h10];rfl
  rw[hjc]
  split
  ·rename_i hr
   have hk:T.c.col<(C8 T.vis T.c.row).length:=by have:=hr.2;rw[Alb]at this;omega
   rw[Int.toNat_natCast,Alb,Ain hk]
   split
   ·exact Blu h ok hj hpr r T.c.col hk (.inl ⟨h10,rfl⟩) (by assumption)
   ·exact Blt h ok hj hpr r T.c.col hk (.inl ⟨h10,rfl⟩) (by assumption)
  ·exact Cfl h ok r h10 (by assumption)
 |false =>
  have hjc:Ahm T=(T.c.col:Int)-1:=by unfold Ahm;rw[h10];rfl
  rw[hjc]
  split
  ·rename_i hr
   obtain⟨k,hk1⟩:∃k,k+1=T.c.col:=⟨T.c.col-1,by omega⟩
   have hk:k<(C8 T.vis T.c.row).length:=by have:=hr.2;rw[Alb]at this;omega
   rw[show((T.c.col:Int)-1).toNat=k by omega,Alb,Ain hk]
   split
   ·exact Blu h ok hj hpr r k hk (.inr ⟨h10,hk1⟩) (by assumption)
   ·exact Blt h ok hj hpr r k hk (.inr ⟨h10,hk1⟩) (by assumption)
  ·exact Cfk h ok r h10 (by assumption)
end
theorem Auq(r:Int):Cht.L0 r=0\/Cht.L0 r=1\/Cht.L0 r=2:=by
 cases hm:Cht.Ags r with
 |false=>exact .inl (Cht.Bkq hm)
 |true =>
  cases h1:Cht.Acs Cht.Auw r with
  |true=>exact .inl (Cht.Bss h1)
  |false =>
   cases h2:Cht.Acs Cht.marks r with
   |true=>exact .inl (Cht.Byy h2)
   |false =>
    cases h3:Cht.Acs Cht.Axe r with
    |true=>exact .inr (.inr (Cht.Byz hm h3))
    |false=>exact .inr (.inl (Cht.Byx hm h1 h2 h3))
section
variable {Z Z1:Zn}{w w':World}{t x s d b:Nat}{S:Scr}{T:Ter}{P:Pt}{v:Value}{l:List Int}{pa ia ta:Option Addr}{pn pc im ic tn tc:Nat}{k r pr f:Int}
theorem Bgn(T:Ter)(n:Nat):(M5 T n).jr.length<=T.jr.length+1:=by
 unfold M5
 split
 ·show((feed (F8 T 0)).jr++[_]).length<=_
  rw[Ani,List.length_append]
  exact J5 _
 ·split
  ·exact Nat.le_succ _
  ·exact Nat.le_succ _
theorem Bus(T:Ter):(feed T).C5=T.C5:=by
 unfold feed
 split
 ·show(T.C2 _).C5=_
  exact Ams _ _
 ·rfl
theorem Beq(T:Ter)(n:Nat):(M5 T n).C5=T.C5:=by
 unfold M5
 split
 ·show(feed (F8 T 0)).C5=_
  rw[Bus]
  rfl
 ·split<;>rfl
theorem Bms(h:TMx Z w t T P)(ok:Ok T)(hj:T.jr.length<=89000000)(hpr:T.C5<=9990000000){g:Int}(hor:(T.p.wh=false/\g=T.p.g0)\/(T.p.wh=true/\g=T.p.g1))(h0:Cht.L0 (Cht.H5 g r)=0):Calls prog 90 #[.pointer (some ⟨t,0,none⟩),.agg #[.int .u8 k,.int .i32 r,.int .i32 pr,.slice pa pn pc,.slice ia im ic,.int .i32 f,.slice ta tn tc]] w (A7 Z w t (Alp T (Cht.H5 g r))):=by
 rcases hor with⟨hwh,hgq⟩|⟨hwh,hgq⟩
 all_goals
  have hbn:=A3 w (.cells #[.int .u8 k,.int .i32 r,.int .i32 pr,.slice pa pn pc,.slice ia im ic,.int .i32 f,.slice ta tn tc] 151)
  have hbx:=Block.made w 151 #[.int .u8 k,.int .i32 r,.int .i32 pr,.slice pa pn pc,.slice ia im ic,.int .i32 f,.slice ta tn tc]
  have c16:=fun k:Eqt.Ext (w.alloc (.cells #[.int .u8 k,.int .i32 r,.int .i32 pr,.slice pa pn pc,.slice ia im ic,.int .i32 f,.slice ta tn tc] 151))=>((h.below hbn).below k.below).c16
 case' _ =>
  have cg:=fun k:Eqt.Ext (w.alloc (.cells #[.int .u8 k,.int .i32 r,.int .i32 pr,.slice pa pn pc,.slice ia im ic,.int .i32 f,.slice ta tn tc] 151))=>((h.below hbn).below k.below).c14
 rotate_left
 case' _ =>
  have cg:=fun k:Eqt.Ext (w.alloc (.cells #[.int .u8 k,.int .i32 r,.int .i32 pr,.slice pa pn pc,.slice ia im ic,.int .i32 f,.slice ta tn tc] 151))=>((h.below hbn).below k.below).c15
 rotate_left
 all_goals
  simp only[<- hgq]at cg
  clear hgq
  have x1:=fun k:Eqt.Ext (w.alloc (.cells #[.int .u8 k,.int .i32 r,.int .i32 pr,.slice pa pn pc,.slice ia im ic,.int .i32 f,.slice ta tn tc] 151))=>(Block.only hbx (A0.A1 k.below []) (by simp)).cell 1 (v:=.int .i32 r) rfl
  have hch:=J0 (fun k:Eqt.Ext (w.alloc (.cells #[.int .u8 k,.int .i32 r,.int .i32 pr,.slice pa pn pc,.slice ia im ic,.int .i32 f,.slice ta tn tc] 151))=>Cht.Ayl g r k.w (((h.below hbn).below k.below).tbl.cht))
  have hwi:=J0 (fun w1 (hb:Below w.heap.size w w1)=>Cht.Bai (Cht.H5 g r) w1 ((h.below hb).tbl.cht))
  rw[hwh]at c16
 case' _ =>
  simp only[whI,Bool.false_eq_true,if_false]at c16
 rotate_left
 case' _ =>
  simp only[whI,if_true]at c16
 rotate_left
 all_goals
  have hjo:=J0 (fun w1 (hb:Below w.heap.size w w1)=>Cfj (h.below hb).tm ok (by omega) (by omega) (Cht.H5 g r))
  rw[h0]at hwi
  generalize Alp T (Cht.H5 g r)=T2 at hjo |-
  generalize Cht.H5 g r=cr at *
  clear h ok hj hpr hbx hwh h0
  go_enter func90,ntmps90
  go_wp2
  generalize w.alloc (.cells #[.int .u8 k,.int .i32 r,.int .i32 pr,.slice pa pn pc,.slice ia im ic,.int .i32 f,.slice ta tn tc] 151)=w0 at c16 cg x1 hch hbn |-
  refine Eqt.Aja (by kernel_rfl) (by kernel_rfl) ?_
  repeat (go_big_quiet_step (first
   |(go_at_call 121;exact Eqt.H7 (hch.out _))))
  refine wpQuiet_nil ?_
  intro w9 hw9
  obtain⟨k9,rfl⟩:=hw9
  have hb9:=k9.below
  generalize k9.w=w9 at hb9 |-
  have hb:=A2 hbn hb9
  go_wp2_with (first
   |(go_at_call 122;(with_reducible refine(hwi.out _ hb).mono ?_);rintro e w1 ⟨rfl,rfl⟩)
   |(go_at_call 123;(with_reducible refine(hjo.out _ hb).mono ?_);rintro e w2 ⟨⟨v2,rfl⟩,h2,hf2⟩))
  go_end0
  exact⟨⟨_,rfl⟩,h2,(I8 hb).trans hf2⟩
theorem Bmt(h:TMx Z w t T P)(ok:Ok T)(hj:T.jr.length<=89000000)(hpr:T.C5<=9990000000)(hnx:T.nx<=9900000000){g:Int}(hor:(T.p.wh=false/\g=T.p.g0)\/(T.p.wh=true/\g=T.p.g1))(h0:Cht.L0 (Cht.H5 g r)≠0)(h1:¬(T.vis.cols:Int)<Cht.L0 (Cht.H5 g r)):Calls prog 90 #[.pointer (some ⟨t,0,none⟩),.agg #[.int .u8 k,.int .i32 r,.int .i32 pr,.slice pa pn pc,.slice ia im ic,.int .i32 f,.slice ta tn tc]] w (A7 Z w t (Z7 (M5 T (Cht.L0 (Cht.H5 g r)).toNat) (Cht.H5 g r) (Cht.L0 (Cht.H5 g r)).toNat)):=by
 rcases hor with⟨hwh,hgq⟩|⟨hwh,hgq⟩
 all_goals
  have hbn:=A3 w (.cells #[.int .u8 k,.int .i32 r,.int .i32 pr,.slice pa pn pc,.slice ia im ic,.int .i32 f,.slice ta tn tc] 151)
  have hbx:=Block.made w 151 #[.int .u8 k,.int .i32 r,.int .i32 pr,.slice pa pn pc,.slice ia im ic,.int .i32 f,.slice ta tn tc]
  have c16:=fun k:Eqt.Ext (w.alloc (.cells #[.int .u8 k,.int .i32 r,.int .i32 pr,.slice pa pn pc,.slice ia im ic,.int .i32 f,.slice ta tn tc] 151))=>((h.below hbn).below k.below).c16
 case' _ =>
  have cg:=fun k:Eqt.Ext (w.alloc (.cells #[.int .u8 k,.int .i32 r,.int .i32 pr,.slice pa pn pc,.slice ia im ic,.int .i32 f,.slice ta tn tc] 151))=>((h.below hbn).below k.below).c14
 rotate_left
 case' _ =>
  have cg:=fun k:Eqt.Ext (w.alloc (.cells #[.int .u8 k,.int .i32 r,.int .i32 pr,.slice pa pn pc,.slice ia im ic,.int .i32 f,.slice ta tn tc] 151))=>((h.below hbn).below k.below).c15
 rotate_left
 all_goals
  simp only[<- hgq]at cg
  clear hgq
  have x1:=fun k:Eqt.Ext (w.alloc (.cells #[.int .u8 k,.int .i32 r,.int .i32 pr,.slice pa pn pc,.slice ia im ic,.int .i32 f,.slice ta tn tc] 151))=>(Block.only hbx (A0.A1 k.below []) (by simp)).cell 1 (v:=.int .i32 r) rfl
  have hch:=J0 (fun k:Eqt.Ext (w.alloc (.cells #[.int .u8 k,.int .i32 r,.int .i32 pr,.slice pa pn pc,.slice ia im ic,.int .i32 f,.slice ta tn tc] 151))=>Cht.Ayl g r k.w (((h.below hbn).below k.below).tbl.cht))
  have hwi:=J0 (fun w1 (hb:Below w.heap.size w w1)=>Cht.Bai (Cht.H5 g r) w1 ((h.below hb).tbl.cht))
  rw[hwh]at c16
 case' _ =>
  simp only[whI,Bool.false_eq_true,if_false]at c16
 rotate_left
 case' _ =>
  simp only[whI,if_true]at c16
 rotate_left
 all_goals
  obtain⟨Z1,hf⟩:=h.focus
  have hsh:=J0 (fun w1 (hb:Below w.heap.size w w1)=>And.intro (h.below hb).s0 (And.intro (I7 (h.below hb)) (Aco (hf.sc.below hb) ok.fit.len)))
  obtain⟨n,hn⟩:∃n:Nat,Cht.L0 (Cht.H5 g r)=(n:Int):=⟨(Cht.L0 (Cht.H5 g r)).toNat,by have:=Auq (Cht.H5 g r);omega⟩
  have hn2:n<=2:=by have:=Auq (Cht.H5 g r);omega
  rw[hn]at hwi h0 h1
  have hn0:((n:Int)==0)=false:=by simpa using h0
  have he0:decide ((n:Int)=0)=false:=decide_eq_false h0
  have hne:¬n=0:=by omega
  have he2:decide (n=0)=false:=decide_eq_false hne
  have hj1:∀m,(M5 T m).jr.length<=90000000:=fun m=>by have:=Bgn T m;omega
  have hp1:∀m,(M5 T m).C5<=10000000000:=fun m=>by rw[Beq];omega
  rw[hn,Int.toNat_natCast]
  have hd1:decide ((T.vis.cols:Int)<(n:Int))=false:=decide_eq_false h1
  have hd2:decide (T.vis.cols<n)=false:=decide_eq_false (by omega)
  have hd3:¬T.vis.cols<n:=by omega
  have hmk:=J0 (fun w1 (hb:Below w.heap.size w w1)=>Bft (h.below hb).tm ok (by omega) hnx n hn2 (by omega))
  have hpu:=J0 (fun w2 (h2:TM Z w2 t (M5 T n))=>Ald h2 (ok.M5 n) (hj1 n) (hp1 n) (Cht.H5 g r) n hn2)
  generalize Z7 (M5 T n) (Cht.H5 g r) n=T2 at hpu |-
  generalize M5 T n=T1 at hmk hpu
  generalize T.vis.cols=cols at *
  generalize P.h T.other=hh at hsh
  generalize P.x T.other=xx at hsh
  generalize Cht.H5 g r=cr at *
  clear h ok hj hpr hbx hwh hnx hf h0 h1 hn hj1 hp1
  go_enter func90,ntmps90
  go_wp2
  generalize w.alloc (.cells #[.int .u8 k,.int .i32 r,.int .i32 pr,.slice pa pn pc,.slice ia im ic,.int .i32 f,.slice ta tn tc] 151)=w0 at c16 cg x1 hch hbn |-
  refine Eqt.Aja (by kernel_rfl) (by kernel_rfl) ?_
  repeat (go_big_quiet_step (first
   |(go_at_call 121;exact Eqt.H7 (hch.out _))))
  refine wpQuiet_nil ?_
  intro w9 hw9
  obtain⟨k9,rfl⟩:=hw9
  have hb9:=k9.below
  generalize k9.w=w9 at hb9 |-
  have hb:=A2 hbn hb9
  obtain⟨s0,hs1,hs2⟩:=hsh.out _ hb
  replace hs1:=J0 hs1
  replace hs2:=J0 hs2
  go_wp2_with (first
   |(go_at_call 122;(with_reducible refine(hwi.out _ hb).mono ?_);rintro e w1 ⟨rfl,rfl⟩)
   |(go_at_call 68;(with_reducible refine(hs1.out).mono ?_);rintro e w1 ⟨rfl,rfl⟩)
   |(go_at_call 124;(with_reducible refine(hs2.out).mono ?_);rintro e w1 ⟨rfl,rfl⟩)
   |(go_at_call 125;(with_reducible refine(hmk.out _ hb).mono ?_);rintro e w2 ⟨⟨v2,rfl⟩,h2,hf2⟩)
   |(go_at_call 126;(with_reducible refine(hpu.out _ h2).mono ?_);rintro e w3 ⟨⟨v3,rfl⟩,h3,hf3⟩))
  go_end0
  exact⟨⟨_,rfl⟩,h3,((I8 hb).trans hf2).trans hf3⟩
theorem Bmr(h:TMx Z w t T P)(ok:Ok T)(hj:T.jr.length<=89000000)(hpr:T.C5<=9990000000)(hnx:T.nx<=9900000000){g:Int}(hor:(T.p.wh=false/\g=T.p.g0)\/(T.p.wh=true/\g=T.p.g1))(h0:Cht.L0 (Cht.H5 g r)≠0)(h1:(T.vis.cols:Int)<Cht.L0 (Cht.H5 g r)):Calls prog 90 #[.pointer (some ⟨t,0,none⟩),.agg #[.int .u8 k,.int .i32 r,.int .i32 pr,.slice pa pn pc,.slice ia im ic,.int .i32 f,.slice ta tn tc]] w (A7 Z w t (Z7 (M5 T 1) 65533 1)):=by
 rcases hor with⟨hwh,hgq⟩|⟨hwh,hgq⟩
 all_goals
  have hbn:=A3 w (.cells #[.int .u8 k,.int .i32 r,.int .i32 pr,.slice pa pn pc,.slice ia im ic,.int .i32 f,.slice ta tn tc] 151)
  have hbx:=Block.made w 151 #[.int .u8 k,.int .i32 r,.int .i32 pr,.slice pa pn pc,.slice ia im ic,.int .i32 f,.slice ta tn tc]
  have c16:=fun k:Eqt.Ext (w.alloc (.cells #[.int .u8 k,.int .i32 r,.int .i32 pr,.slice pa pn pc,.slice ia im ic,.int .i32 f,.slice ta tn tc] 151))=>((h.below hbn).below k.below).c16
 case' _ =>
  have cg:=fun k:Eqt.Ext (w.alloc (.cells #[.int .u8 k,.int .i32 r,.int .i32 pr,.slice pa pn pc,.slice ia im ic,.int .i32 f,.slice ta tn tc] 151))=>((h.below hbn).below k.below).c14
 rotate_left
 case' _ =>
  have cg:=fun k:Eqt.Ext (w.alloc (.cells #[.int .u8 k,.int .i32 r,.int .i32 pr,.slice pa pn pc,.slice ia im ic,.int .i32 f,.slice ta tn tc] 151))=>((h.below hbn).below k.below).c15
 rotate_left
 all_goals
  simp only[<- hgq]at cg
  clear hgq
  have x1:=fun k:Eqt.Ext (w.alloc (.cells #[.int .u8 k,.int .i32 r,.int .i32 pr,.slice pa pn pc,.slice ia im ic,.int .i32 f,.slice ta tn tc] 151))=>(Block.only hbx (A0.A1 k.below []) (by simp)).cell 1 (v:=.int .i32 r) rfl
  have hch:=J0 (fun k:Eqt.Ext (w.alloc (.cells #[.int .u8 k,.int .i32 r,.int .i32 pr,.slice pa pn pc,.slice ia im ic,.int .i32 f,.slice ta tn tc] 151))=>Cht.Ayl g r k.w (((h.below hbn).below k.below).tbl.cht))
  have hwi:=J0 (fun w1 (hb:Below w.heap.size w w1)=>Cht.Bai (Cht.H5 g r) w1 ((h.below hb).tbl.cht))
  rw[hwh]at c16
 case' _ =>
  simp only[whI,Bool.false_eq_true,if_false]at c16
 rotate_left
 case' _ =>
  simp only[whI,if_true]at c16
 rotate_left
 all_goals
  obtain⟨Z1,hf⟩:=h.focus
  have hsh:=J0 (fun w1 (hb:Below w.heap.size w w1)=>And.intro (h.below hb).s0 (And.intro (I7 (h.below hb)) (Aco (hf.sc.below hb) ok.fit.len)))
  obtain⟨n,hn⟩:∃n:Nat,Cht.L0 (Cht.H5 g r)=(n:Int):=⟨(Cht.L0 (Cht.H5 g r)).toNat,by have:=Auq (Cht.H5 g r);omega⟩
  have hn2:n<=2:=by have:=Auq (Cht.H5 g r);omega
  rw[hn]at hwi h0 h1
  have hn0:((n:Int)==0)=false:=by simpa using h0
  have he0:decide ((n:Int)=0)=false:=decide_eq_false h0
  have hne:¬n=0:=by omega
  have he2:decide (n=0)=false:=decide_eq_false hne
  have hj1:∀m,(M5 T m).jr.length<=90000000:=fun m=>by have:=Bgn T m;omega
  have hp1:∀m,(M5 T m).C5<=10000000000:=fun m=>by rw[Beq];omega
  have hd1:decide ((T.vis.cols:Int)<(n:Int))=true:=decide_eq_true h1
  have hd2:decide (T.vis.cols<n)=true:=decide_eq_true (by omega)
  have hd3:T.vis.cols<n:=by omega
  have hmk:Hid (∀w1,Below w.heap.size w w1->Calls prog 125 #[.pointer (some ⟨t,0,none⟩),.int .i64 1] w1 (A7 Z w1 t (M5 T 1))):=J0 (fun w1 hb=>Bft (h.below hb).tm ok (by omega) hnx 1 (by omega) ok.fit.c1)
  have hpu:Hid (∀w2,TM Z w2 t (M5 T 1)->Calls prog 126 #[.pointer (some ⟨t,0,none⟩),.int .i32 65533,.int .i64 1] w2 (A7 Z w2 t (Z7 (M5 T 1) 65533 1))):=J0 (fun w2 h2=>Ald h2 (ok.M5 1) (hj1 1) (hp1 1) 65533 1 (by omega))
  generalize Z7 (M5 T 1) 65533 1=T2 at hpu |-
  generalize M5 T 1=T1 at hmk hpu
  generalize T.vis.cols=cols at *
  generalize P.h T.other=hh at hsh
  generalize P.x T.other=xx at hsh
  generalize Cht.H5 g r=cr at *
  clear h ok hj hpr hbx hwh hnx hf h0 h1 hn hj1 hp1
  go_enter func90,ntmps90
  go_wp2
  generalize w.alloc (.cells #[.int .u8 k,.int .i32 r,.int .i32 pr,.slice pa pn pc,.slice ia im ic,.int .i32 f,.slice ta tn tc] 151)=w0 at c16 cg x1 hch hbn |-
  refine Eqt.Aja (by kernel_rfl) (by kernel_rfl) ?_
  repeat (go_big_quiet_step (first
   |(go_at_call 121;exact Eqt.H7 (hch.out _))))
  refine wpQuiet_nil ?_
  intro w9 hw9
  obtain⟨k9,rfl⟩:=hw9
  have hb9:=k9.below
  generalize k9.w=w9 at hb9 |-
  have hb:=A2 hbn hb9
  obtain⟨s0,hs1,hs2⟩:=hsh.out _ hb
  replace hs1:=J0 hs1
  replace hs2:=J0 hs2
  go_wp2_with (first
   |(go_at_call 122;(with_reducible refine(hwi.out _ hb).mono ?_);rintro e w1 ⟨rfl,rfl⟩)
   |(go_at_call 68;(with_reducible refine(hs1.out).mono ?_);rintro e w1 ⟨rfl,rfl⟩)
   |(go_at_call 124;(with_reducible refine(hs2.out).mono ?_);rintro e w1 ⟨rfl,rfl⟩)
   |(go_at_call 125;(with_reducible refine(hmk.out _ hb).mono ?_);rintro e w2 ⟨⟨v2,rfl⟩,h2,hf2⟩)
   |(go_at_call 126;(with_reducible refine(hpu.out _ h2).mono ?_);rintro e w3 ⟨⟨v3,rfl⟩,h3,hf3⟩))
  go_end0
  exact⟨⟨_,rfl⟩,h3,((I8 hb).trans hf2).trans hf3⟩
theorem Cbq(h:TM Z w t T)(ok:Ok T)(hj:T.jr.length<=89000000)(hpr:T.C5<=9990000000)(hnx:T.nx<=9900000000):Calls prog 90 #[.pointer (some ⟨t,0,none⟩),.agg #[.int .u8 k,.int .i32 r,.int .i32 pr,.slice pa pn pc,.slice ia im ic,.int .i32 f,.slice ta tn tc]] w (A7 Z w t (Anq T r)):=by
 obtain⟨P,h⟩:=h
 unfold Anq
 cases hwh:T.p.wh with
 |false =>
  simp only[Bool.false_eq_true,if_false]
  split
  ·exact Bms h ok hj hpr (.inl ⟨hwh,rfl⟩) (by assumption)
  ·split
   ·exact Bmr h ok hj hpr hnx (.inl ⟨hwh,rfl⟩) (by assumption) (by assumption)
   ·exact Bmt h ok hj hpr hnx (.inl ⟨hwh,rfl⟩) (by assumption) (by assumption)
 |true =>
  simp only[if_true]
  split
  ·exact Bms h ok hj hpr (.inr ⟨hwh,rfl⟩) (by assumption)
  ·split
   ·exact Bmr h ok hj hpr hnx (.inr ⟨hwh,rfl⟩) (by assumption) (by assumption)
   ·exact Bmt h ok hj hpr hnx (.inr ⟨hwh,rfl⟩) (by assumption) (by assumption)
end
