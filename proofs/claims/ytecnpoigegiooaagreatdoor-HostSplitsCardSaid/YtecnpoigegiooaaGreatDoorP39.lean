/- Part 39 of HostSplits. -/
import Derived.Test.YtecnpoigegiooaaGreatDoorP38
set_option maxHeartbeats 16000000
set_option maxRecDepth 100000
namespace Go.Proofs.YtecnpoigegiooaaGreatDoor.Emu
open Go RowKit Com Rw Lns Scn
section
variable {Z Z1:Zn}{w w':World}{t x s d b:Nat}{S:Scr}{T:Ter}{P:Pt}{v:Value}{l:List Int}
theorem set7 {w:World} {b c:Nat} {y:Int} {la:Bool} (h:Block w b 73 ((#[.int .u8 2,.int .u64 0,.int .i64 y,.int .i64 c,.bool false,.int .i32 0,.bool false,.bool false,.bool false,.bool false]:Array Value).toList.take 7++[Value.bool la]++(#[.int .u8 2,.int .u64 0,.int .i64 y,.int .i64 c,.bool false,.int .i32 0,.bool false,.bool false,.bool false,.bool false]:Array Value).toList.drop (7+1)).toArray):w.heap[b]?=some (.cells (evA ⟨2,0,y,c,false,0,false,la,false,false⟩) 73 (0,0)):=h
theorem joiL_len (l:List Cel) (col r:Int):(joiL l col r).length=l.length:=by
 unfold joiL
 split
 ·unfold Bo4
  split
  ·split
   ·simp
   ·rfl
  ·rfl
 ·rfl
theorem join_nop (h:TMx Z w t T P) (ok:Ok T) (r:Int) (h10:T.c.pend=true) (hr:¬(0<=(T.c.col:Int)/\(T.c.col:Int)<((line T).length:Int))):Calls Tryz.prog 123 #[.pointer (some ⟨t,0,none⟩),.int .i32 r] w (Does Z w t T):=by
 obtain⟨Z1,hf⟩:=h.focus
 obtain⟨d,hd⟩:=Ag4 hf.sc ok.row
 have hcol:=ok.col
 have hc5:=ok.fit.c5
 have c9:=h.c9
 have c10:=h.c10
 rw[h10] at c10
 have hl:=J0 (Af3 h ok hd)
 have hce:Hid (∀w1,Below w.heap.size w w1->Calls Tryz.prog 161 #[.pointer (some ⟨d,0,none⟩),.int .i64 ((T.c.col:Int))] w1 fun e w'=>e=.returned (.tuple #[.agg #[.int .i32 0,.slice none 0 0,.int .u8 0,.int .u32 0,.int .u32 0,.int .u16 0],.int .i64 6])/\Below w1.heap.size w1 w'):=J0 (fun w1 hb=>Be2 (Aa7 hd hb) ((T.c.col:Int)) hr)
 have hres:=J0 (fun w1 (hb:Below w.heap.size w w1)=>(h.below hb).tm)
 have hw:IntKind.i64.wrap ((T.c.col:Int) - 1)=(T.c.col:Int) - 1:=IntWalk.i64_in _ (by omega)
 generalize T.c.col=col at *
 clear h ok hf hd hr hcol hc5
 go_enter Tryz.func123,Tryz.ntmps123
 go_wp2_with (first
  |(go_at_call 160;(with_reducible refine(hl.out).mono ?_);rintro e w1 ⟨rfl,hq⟩)
  |(go_at_call 161;have hb1:=Ad4 (Below.refl w.heap.size w) hq;(with_reducible refine(hce.out _ hb1).mono ?_);rintro e w2 ⟨rfl,hb2⟩))
 have hb3:=Aa0 (Aa0 hb1 hb2) (Aa1 w2 (.cells #[.int .i32 0,.slice none 0 0,.int .u8 0,.int .u32 0,.int .u32 0,.int .u16 0] 57))
 go_end0
 exact⟨⟨_,rfl⟩,hres.out _ hb3,Aa9 hb3⟩
theorem join_non (h:TMx Z w t T P) (ok:Ok T) (r:Int) (h10:T.c.pend=false) (hr:¬(0<=(T.c.col:Int) - 1/\(T.c.col:Int) - 1<((line T).length:Int))):Calls Tryz.prog 123 #[.pointer (some ⟨t,0,none⟩),.int .i32 r] w (Does Z w t T):=by
 obtain⟨Z1,hf⟩:=h.focus
 obtain⟨d,hd⟩:=Ag4 hf.sc ok.row
 have hcol:=ok.col
 have hc5:=ok.fit.c5
 have c9:=h.c9
 have c10:=h.c10
 rw[h10] at c10
 have hl:=J0 (Af3 h ok hd)
 have hce:Hid (∀w1,Below w.heap.size w w1->Calls Tryz.prog 161 #[.pointer (some ⟨d,0,none⟩),.int .i64 ((T.c.col:Int) - 1)] w1 fun e w'=>e=.returned (.tuple #[.agg #[.int .i32 0,.slice none 0 0,.int .u8 0,.int .u32 0,.int .u32 0,.int .u16 0],.int .i64 6])/\Below w1.heap.size w1 w'):=J0 (fun w1 hb=>Be2 (Aa7 hd hb) ((T.c.col:Int) - 1) hr)
 have hres:=J0 (fun w1 (hb:Below w.heap.size w w1)=>(h.below hb).tm)
 have hw:IntKind.i64.wrap ((T.c.col:Int) - 1)=(T.c.col:Int) - 1:=IntWalk.i64_in _ (by omega)
 generalize T.c.col=col at *
 clear h ok hf hd hr hcol hc5
 go_enter Tryz.func123,Tryz.ntmps123
 go_wp2_with (first
  |(go_at_call 160;(with_reducible refine(hl.out).mono ?_);rintro e w1 ⟨rfl,hq⟩)
  |(go_at_call 161;have hb1:=Ad4 (Below.refl w.heap.size w) hq;(with_reducible refine(hce.out _ hb1).mono ?_);rintro e w2 ⟨rfl,hb2⟩))
 have hb3:=Aa0 (Aa0 hb1 hb2) (Aa1 w2 (.cells #[.int .i32 0,.slice none 0 0,.int .u8 0,.int .u32 0,.int .u32 0,.int .u16 0] 57))
 go_end0
 exact⟨⟨_,rfl⟩,hres.out _ hb3,Aa9 hb3⟩
theorem Ci7 (h:TMx Z w t T P) (ok:Ok T) (hj:T.jr.length<=90000000) (hpr:T.prints<=10000000000) (r:Int) (k:Nat) (hk:k<(Ab1 T.vis T.c.row).length) (hor:(T.c.pend=true/\k=T.c.col)\/(T.c.pend=false/\k+1=T.c.col)) (hwd:(Ab1 T.vis T.c.row)[k].wide=2):Calls Tryz.prog 123 #[.pointer (some ⟨t,0,none⟩),.int .i32 r] w (Does Z w t (At4 T (k - 1) r)):=by
 rcases hor with ⟨h10,hkc⟩|⟨h10,hkc⟩
 all_goals
  obtain⟨Z1,hf⟩:=h.focus
  obtain⟨d,hd⟩:=Ag4 hf.sc ok.row
  have hcol:=ok.col
  have hc5:=ok.fit.c5
  have c9:=h.c9
  have c10:=h.c10
  rw[h10] at c10
  have hl:=J0 (fun w1 (hb:Below w.heap.size w w1)=>Af3 (h.below hb) ok (Aa7 hd hb))
  have hce:=J0 (fun w1 (hb:Below w.heap.size w w1)=>Bb1 (Aa7 hd hb) k hk)
 case' _ =>
  have hkI:(T.c.col:Int)=(k:Int):=by omega
  rw[hkI] at c9
 rotate_left
 case' _ =>
  have hkI:IntKind.i64.wrap ((T.c.col:Int) - 1)=(k:Int):=by rw[IntWalk.i64_in _ (by omega)];omega
 rotate_left
 all_goals
  have hk1:1<=k:=by
   have hg:=(rowAt_good hd).whole
   have h2:W (Ab1 T.vis T.c.row) k=2:=(W_at hk).trans hwd
   rcases Nat.eq_zero_or_pos k with e|e
   ·subst e
    exact absurd h2 ((Ah9 _).1 hg).1
   ·exact e
  obtain⟨c,hc⟩:∃c,c=k - 1:=⟨_,rfl⟩
  rw[<- hc]
  have hkw:IntKind.i64.wrap ((k:Int) - 1)=(c:Int):=by rw[IntWalk.i64_in _ (by omega)];omega
  have hjo:Hid (∀w1,Below w.heap.size w w1->Calls Tryz.prog 162 #[.pointer (some ⟨d,0,none⟩),.int .i64 c,.int .i32 r] w1 fun e w3=>(∃v,e=.returned v)/\TMx Z w3 t (putLine T (joiL (line T) c r)) P/\Scn.Fr Z TT w w3):=J0 fun w1 hb=>(Bt2 (Aa7 hd hb) c r).mono fun e w3 ⟨he,hr,hf3⟩=>⟨⟨_,he⟩,(Ak5 hf ((Scn.Fr.of_below hb).trans hf3) hr).1.tm,(Ak5 hf ((Scn.Fr.of_below hb).trans hf3) hr).2⟩
  have hok1:Ok (putLine T (joiL (line T) c r)):=ok.putLine (joiL_len _ _ _)
  have e2:(putLine T (joiL (line T) c r)).jr=T.jr:=Ag2 _ _
  have e3:(putLine T (joiL (line T) c r)).prints=T.prints:=Ak4 _ _
  unfold At4
  simp only
  generalize putLine T (joiL (line T) c r)=T1 at *
  have hhe:Hid (∀w3,TMx Z w3 t T1 P->Calls Tryz.prog 163 #[.pointer (some ⟨t,0,none⟩),.int .u8 2] w3 fun e w'=>e=.returned (.agg #[.int .u8 2,.int .u64 0,.int .i64 (idAt T1.vis.L T1.c.row),.int .i64 T1.c.col,.bool false,.int .i32 0,.bool false,.bool false,.bool false,.bool false])/\Below w3.heap.size w3 w'):=J0 fun w3 h3=>Al8 h3 hok1 2
  have hcs:=J0 (fun w3 (h3:TMx Z w3 t T1 P) w4 (hb:Below w3.heap.size w3 w4)=>(⟨(h3.below hb).c22,(h3.below hb).c23,(h3.below hb).c24,(h3.below hb).c25,(h3.below hb).c26,(h3.below hb).c27,(h3.below hb).c28,(h3.below hb).c29,(h3.below hb).c30,(h3.below hb).c31⟩:_/\_/\_/\_/\_/\_/\_/\_/\_/\_))
  have hir:=J0 (fun w1=>Bk0 T1.last (idAt T1.vis.L T1.c.row) c w1)
  have htl:=J0 (fun w3 (h3:TMx Z w3 t T1 P) w4 (hb:Below w3.heap.size w3 w4)=>Am5 (h3.below hb) (by rw[e2];exact hj) (by rw[e3];exact hpr) { here T1 2 with col:=c,la:=isRuneAt T1.last (here T1 2).line c } r)
  change Hid (∀w3 (h3:TMx Z w3 t T1 P) w4 (hb:Below w3.heap.size w3 w4),Calls Tryz.prog 165 #[.pointer (some ⟨t,0,none⟩),.agg (evA ⟨2,0,idAt T1.vis.L T1.c.row,c,false,0,false,isRuneAt T1.last (idAt T1.vis.L T1.c.row) c,false,false⟩),.int .i32 r] w4 fun x w'=>(∃v,x=.returned v)/\TM Z w' t (tellRune T1 { here T1 2 with col:=c,la:=isRuneAt T1.last (here T1 2).line c } r)/\Scn.Fr Z TT w4 w') at htl
  generalize tellRune T1 { here T1 2 with col:=c,la:=isRuneAt T1.last (here T1 2).line c } r=T2 at htl |-
  generalize isRuneAt T1.last (idAt T1.vis.L T1.c.row) c=la at hir htl
  generalize idAt T1.vis.L T1.c.row=y at *
  generalize T1.c.col=col1 at hhe
  generalize T1.last=e0 at hcs hir
  obtain⟨g0,g1,g2,g3,g4,g5,g6,g7,g8,g9⟩:=e0
  simp only[evA] at hcs hir
  generalize (Ab1 T.vis T.c.row)[k]=cc at hce hwd
  have hwq:(cc.wide == 2)=true:=by simpa using hwd
  have hwe:decide (cc.wide=2)=true:=decide_eq_true hwd
 case' _ =>
  generalize T.c.col=col at hkI
 rotate_left
 case' _ =>
  generalize T.c.col=col at *
 rotate_left
 all_goals
  clear h ok hj hpr hf hd hk hcol hc5 hok1 e2 e3 h10
  obtain⟨cr,cm,cw,ca⟩:=cc
  simp only at hwd hwq hwe
  clear hwd
  replace hc:=J0 hc
 case' _ =>
  clear hkc hkI
 rotate_left
 case' _ =>
  clear hkc
 rotate_left
 all_goals
  go_enter Tryz.func123,Tryz.ntmps123
  go_wp2_with (first
   |(go_at_call 161;(with_reducible refine(hce.out _ hb1).mono ?_);rintro e w2 ⟨v2,rfl,hown,hb2⟩;obtain⟨ao,cp,rfl,_,_,_⟩:=hown.shape;clear hown;have hbc:=Aa0 hb1 hb2;simp only[apiC,attV])
   |(go_at_call 160;(with_reducible refine(hl.out _ (Below.refl _ _)).mono ?_);rintro e w1 ⟨rfl,hq⟩;have hb1:=Ad4 (Below.refl w.heap.size w) hq)
   |(go_at_call 160;have hbn:=fun o=>Aa0 hbc (Aa1 w2 o);(with_reducible refine(hl.out _ (hbn _)).mono ?_);rintro e w5 ⟨rfl,hq5⟩;have hb5:=Ad4 (hbn _) hq5)
   |(go_at_call 162;(with_reducible refine(hjo.out _ hb5).mono ?_);rintro e w6 ⟨⟨v6,rfl⟩,h6,hf6⟩)
   |(go_at_call 163;(with_reducible refine(hhe.out _ h6).mono ?_);rintro e w7 ⟨rfl,hb7⟩))
  have hbn:=Aa0 hb7 (Aa1 w7 (.cells #[.int .u8 2,.int .u64 0,.int .i64 y,.int .i64 c,.bool false,.int .i32 0,.bool false,.bool false,.bool false,.bool false] 73))
  have hbx:=Block.made w7 73 #[.int .u8 2,.int .u64 0,.int .i64 y,.int .i64 c,.bool false,.int .i32 0,.bool false,.bool false,.bool false,.bool false]
  have hsz:w6.heap.size<=w7.heap.size:=hb7.size
  generalize w7.alloc (.cells #[.int .u8 2,.int .u64 0,.int .i64 y,.int .i64 c,.bool false,.int .i32 0,.bool false,.bool false,.bool false,.bool false] 73)=wE at hbn hbx |-
  generalize w7.heap.size=b at hbx hsz |-
  have k22:=fun k:Eqt.Ext wE=>(hcs.out _ h6 _ (Aa0 hbn k.below)).1
  have k23:=fun k:Eqt.Ext wE=>(hcs.out _ h6 _ (Aa0 hbn k.below)).2.1
  have k24:=fun k:Eqt.Ext wE=>(hcs.out _ h6 _ (Aa0 hbn k.below)).2.2.1
  have k25:=fun k:Eqt.Ext wE=>(hcs.out _ h6 _ (Aa0 hbn k.below)).2.2.2.1
  have k26:=fun k:Eqt.Ext wE=>(hcs.out _ h6 _ (Aa0 hbn k.below)).2.2.2.2.1
  have k27:=fun k:Eqt.Ext wE=>(hcs.out _ h6 _ (Aa0 hbn k.below)).2.2.2.2.2.1
  have k28:=fun k:Eqt.Ext wE=>(hcs.out _ h6 _ (Aa0 hbn k.below)).2.2.2.2.2.2.1
  have k29:=fun k:Eqt.Ext wE=>(hcs.out _ h6 _ (Aa0 hbn k.below)).2.2.2.2.2.2.2.1
  have k30:=fun k:Eqt.Ext wE=>(hcs.out _ h6 _ (Aa0 hbn k.below)).2.2.2.2.2.2.2.2.1
  have k31:=fun k:Eqt.Ext wE=>(hcs.out _ h6 _ (Aa0 hbn k.below)).2.2.2.2.2.2.2.2.2
  have x2:=fun k:Eqt.Ext wE=>(Block.only hbx (Only.of_below k.below []) (by simp)).cell 2 (v:=.int .i64 y) rfl
  clear hl hce hjo hhe hcs hq hq5 hb1 hbc hb2 hb5 hb7
  refine Eqt.region_ext_tail 9 (by kernel_rfl) (by kernel_rfl) ?_
  simp only[List.take_succ_cons,List.take_zero,List.drop_succ_cons,List.drop_zero]
  repeat (go_big_quiet_step (first
   |(go_at_call 164;exact Eqt.q_ext (hir.out _))))
  refine wpQuiet_nil ?_
  intro w9 hw9
  obtain⟨k9,rfl⟩:=hw9
  have hb9:=k9.below
  generalize k9.w=w9 at hb9 |-
  have hx9:=Block.only hbx (Only.of_below hb9 []) (by simp)
  clear k22 k23 k24 k25 k26 k27 k28 k29 k30 k31 x2 hbx hir
  go_wp2_with (first
   |(with_reducible refine J8 55 ?_;go_must (refine Aa5 rfl _ (.tmp 55) (.tmp 54) rfl hx9 (.bool la) rfl rfl (by simp) Ca3 rfl ?_);intro w8 hE ho;have hbE:=(Aa0 hbn hb9).trans (ho.below (Aa0 hbn hb9).size (by simpa using hsz));have hE7:=set7 hE)
   |(with_reducible refine J9 57 7 ?_;go_must (refine wpList_load_row rfl _ (.tmp 7) rfl b rfl _ (evA ⟨2,0,y,c,false,0,false,la,false,false⟩) (0,0) _ hE7 Tryz.underlying73 rfl (Aw0 _) ?_))
   |(go_at_call 165;(with_reducible refine(htl.out _ h6 _ hbE).mono ?_);rintro e wz ⟨⟨vz,rfl⟩,hz,hfz⟩))
  go_end0
  exact⟨⟨_,rfl⟩,hz,(hf6.trans (Aa9 hbE)).trans hfz⟩
theorem Ci6 (h:TMx Z w t T P) (ok:Ok T) (hj:T.jr.length<=90000000) (hpr:T.prints<=10000000000) (r:Int) (k:Nat) (hk:k<(Ab1 T.vis T.c.row).length) (hor:(T.c.pend=true/\k=T.c.col)\/(T.c.pend=false/\k+1=T.c.col)) (hwd:(Ab1 T.vis T.c.row)[k].wide≠2):Calls Tryz.prog 123 #[.pointer (some ⟨t,0,none⟩),.int .i32 r] w (Does Z w t (At4 T k r)):=by
 rcases hor with ⟨h10,hkc⟩|⟨h10,hkc⟩
 all_goals
  obtain⟨Z1,hf⟩:=h.focus
  obtain⟨d,hd⟩:=Ag4 hf.sc ok.row
  have hcol:=ok.col
  have hc5:=ok.fit.c5
  have c9:=h.c9
  have c10:=h.c10
  rw[h10] at c10
  have hl:=J0 (fun w1 (hb:Below w.heap.size w w1)=>Af3 (h.below hb) ok (Aa7 hd hb))
  have hce:=J0 (fun w1 (hb:Below w.heap.size w w1)=>Bb1 (Aa7 hd hb) k hk)
 case' _ =>
  have hkI:(T.c.col:Int)=(k:Int):=by omega
  have hw0:IntKind.i64.wrap ((T.c.col:Int) - 1)=(T.c.col:Int) - 1:=IntWalk.i64_in _ (by omega)
  rw[hkI] at c9 hw0
 rotate_left
 case' _ =>
  have hkI:IntKind.i64.wrap ((T.c.col:Int) - 1)=(k:Int):=by rw[IntWalk.i64_in _ (by omega)];omega
 rotate_left
 all_goals
  obtain⟨c,hc⟩:∃c,c=k:=⟨_,rfl⟩
  subst hc
  have hc:True:=trivial
  have hjo:Hid (∀w1,Below w.heap.size w w1->Calls Tryz.prog 162 #[.pointer (some ⟨d,0,none⟩),.int .i64 c,.int .i32 r] w1 fun e w3=>(∃v,e=.returned v)/\TMx Z w3 t (putLine T (joiL (line T) c r)) P/\Scn.Fr Z TT w w3):=J0 fun w1 hb=>(Bt2 (Aa7 hd hb) c r).mono fun e w3 ⟨he,hr,hf3⟩=>⟨⟨_,he⟩,(Ak5 hf ((Scn.Fr.of_below hb).trans hf3) hr).1.tm,(Ak5 hf ((Scn.Fr.of_below hb).trans hf3) hr).2⟩
  have hok1:Ok (putLine T (joiL (line T) c r)):=ok.putLine (joiL_len _ _ _)
  have e2:(putLine T (joiL (line T) c r)).jr=T.jr:=Ag2 _ _
  have e3:(putLine T (joiL (line T) c r)).prints=T.prints:=Ak4 _ _
  unfold At4
  simp only
  generalize putLine T (joiL (line T) c r)=T1 at *
  have hhe:Hid (∀w3,TMx Z w3 t T1 P->Calls Tryz.prog 163 #[.pointer (some ⟨t,0,none⟩),.int .u8 2] w3 fun e w'=>e=.returned (.agg #[.int .u8 2,.int .u64 0,.int .i64 (idAt T1.vis.L T1.c.row),.int .i64 T1.c.col,.bool false,.int .i32 0,.bool false,.bool false,.bool false,.bool false])/\Below w3.heap.size w3 w'):=J0 fun w3 h3=>Al8 h3 hok1 2
  have hcs:=J0 (fun w3 (h3:TMx Z w3 t T1 P) w4 (hb:Below w3.heap.size w3 w4)=>(⟨(h3.below hb).c22,(h3.below hb).c23,(h3.below hb).c24,(h3.below hb).c25,(h3.below hb).c26,(h3.below hb).c27,(h3.below hb).c28,(h3.below hb).c29,(h3.below hb).c30,(h3.below hb).c31⟩:_/\_/\_/\_/\_/\_/\_/\_/\_/\_))
  have hir:=J0 (fun w1=>Bk0 T1.last (idAt T1.vis.L T1.c.row) c w1)
  have htl:=J0 (fun w3 (h3:TMx Z w3 t T1 P) w4 (hb:Below w3.heap.size w3 w4)=>Am5 (h3.below hb) (by rw[e2];exact hj) (by rw[e3];exact hpr) { here T1 2 with col:=c,la:=isRuneAt T1.last (here T1 2).line c } r)
  change Hid (∀w3 (h3:TMx Z w3 t T1 P) w4 (hb:Below w3.heap.size w3 w4),Calls Tryz.prog 165 #[.pointer (some ⟨t,0,none⟩),.agg (evA ⟨2,0,idAt T1.vis.L T1.c.row,c,false,0,false,isRuneAt T1.last (idAt T1.vis.L T1.c.row) c,false,false⟩),.int .i32 r] w4 fun x w'=>(∃v,x=.returned v)/\TM Z w' t (tellRune T1 { here T1 2 with col:=c,la:=isRuneAt T1.last (here T1 2).line c } r)/\Scn.Fr Z TT w4 w') at htl
  generalize tellRune T1 { here T1 2 with col:=c,la:=isRuneAt T1.last (here T1 2).line c } r=T2 at htl |-
  generalize isRuneAt T1.last (idAt T1.vis.L T1.c.row) c=la at hir htl
  generalize idAt T1.vis.L T1.c.row=y at *
  generalize T1.c.col=col1 at hhe
  generalize T1.last=e0 at hcs hir
  obtain⟨g0,g1,g2,g3,g4,g5,g6,g7,g8,g9⟩:=e0
  simp only[evA] at hcs hir
  generalize (Ab1 T.vis T.c.row)[c]=cc at hce hwd
  have hwq:(cc.wide == 2)=false:=by simpa using hwd
  have hwe:decide (cc.wide=2)=false:=decide_eq_false hwd
 case' _ =>
  generalize T.c.col=col at hkI
 rotate_left
 case' _ =>
  generalize T.c.col=col at *
 rotate_left
 all_goals
  clear h ok hj hpr hf hd hk hcol hc5 hok1 e2 e3 h10
  obtain⟨cr,cm,cw,ca⟩:=cc
  simp only at hwd hwq hwe
  clear hwd
  replace hc:=J0 hc
 case' _ =>
  clear hkc hkI
 rotate_left
 case' _ =>
  clear hkc
 rotate_left
 all_goals
  go_enter Tryz.func123,Tryz.ntmps123
  go_wp2_with (first
   |(go_at_call 161;(with_reducible refine(hce.out _ hb1).mono ?_);rintro e w2 ⟨v2,rfl,hown,hb2⟩;obtain⟨ao,cp,rfl,_,_,_⟩:=hown.shape;clear hown;have hbc:=Aa0 hb1 hb2;simp only[apiC,attV])
   |(go_at_call 160;(with_reducible refine(hl.out _ (Below.refl _ _)).mono ?_);rintro e w1 ⟨rfl,hq⟩;have hb1:=Ad4 (Below.refl w.heap.size w) hq)
   |(go_at_call 160;have hbn:=fun o=>Aa0 hbc (Aa1 w2 o);(with_reducible refine(hl.out _ (hbn _)).mono ?_);rintro e w5 ⟨rfl,hq5⟩;have hb5:=Ad4 (hbn _) hq5)
   |(go_at_call 162;(with_reducible refine(hjo.out _ hb5).mono ?_);rintro e w6 ⟨⟨v6,rfl⟩,h6,hf6⟩)
   |(go_at_call 163;(with_reducible refine(hhe.out _ h6).mono ?_);rintro e w7 ⟨rfl,hb7⟩))
  have hbn:=Aa0 hb7 (Aa1 w7 (.cells #[.int .u8 2,.int .u64 0,.int .i64 y,.int .i64 c,.bool false,.int .i32 0,.bool false,.bool false,.bool false,.bool false] 73))
  have hbx:=Block.made w7 73 #[.int .u8 2,.int .u64 0,.int .i64 y,.int .i64 c,.bool false,.int .i32 0,.bool false,.bool false,.bool false,.bool false]
  have hsz:w6.heap.size<=w7.heap.size:=hb7.size
  generalize w7.alloc (.cells #[.int .u8 2,.int .u64 0,.int .i64 y,.int .i64 c,.bool false,.int .i32 0,.bool false,.bool false,.bool false,.bool false] 73)=wE at hbn hbx |-
  generalize w7.heap.size=b at hbx hsz |-
  have k22:=fun k:Eqt.Ext wE=>(hcs.out _ h6 _ (Aa0 hbn k.below)).1
  have k23:=fun k:Eqt.Ext wE=>(hcs.out _ h6 _ (Aa0 hbn k.below)).2.1
  have k24:=fun k:Eqt.Ext wE=>(hcs.out _ h6 _ (Aa0 hbn k.below)).2.2.1
  have k25:=fun k:Eqt.Ext wE=>(hcs.out _ h6 _ (Aa0 hbn k.below)).2.2.2.1
  have k26:=fun k:Eqt.Ext wE=>(hcs.out _ h6 _ (Aa0 hbn k.below)).2.2.2.2.1
  have k27:=fun k:Eqt.Ext wE=>(hcs.out _ h6 _ (Aa0 hbn k.below)).2.2.2.2.2.1
  have k28:=fun k:Eqt.Ext wE=>(hcs.out _ h6 _ (Aa0 hbn k.below)).2.2.2.2.2.2.1
  have k29:=fun k:Eqt.Ext wE=>(hcs.out _ h6 _ (Aa0 hbn k.below)).2.2.2.2.2.2.2.1
  have k30:=fun k:Eqt.Ext wE=>(hcs.out _ h6 _ (Aa0 hbn k.below)).2.2.2.2.2.2.2.2.1
  have k31:=fun k:Eqt.Ext wE=>(hcs.out _ h6 _ (Aa0 hbn k.below)).2.2.2.2.2.2.2.2.2
  have x2:=fun k:Eqt.Ext wE=>(Block.only hbx (Only.of_below k.below []) (by simp)).cell 2 (v:=.int .i64 y) rfl
  clear hl hce hjo hhe hcs hq hq5 hb1 hbc hb2 hb5 hb7
  refine Eqt.region_ext_tail 9 (by kernel_rfl) (by kernel_rfl) ?_
  simp only[List.take_succ_cons,List.take_zero,List.drop_succ_cons,List.drop_zero]
  repeat (go_big_quiet_step (first
   |(go_at_call 164;exact Eqt.q_ext (hir.out _))))
  refine wpQuiet_nil ?_
  intro w9 hw9
  obtain⟨k9,rfl⟩:=hw9
  have hb9:=k9.below
  generalize k9.w=w9 at hb9 |-
  have hx9:=Block.only hbx (Only.of_below hb9 []) (by simp)
  clear k22 k23 k24 k25 k26 k27 k28 k29 k30 k31 x2 hbx hir
  go_wp2_with (first
   |(with_reducible refine J8 55 ?_;go_must (refine Aa5 rfl _ (.tmp 55) (.tmp 54) rfl hx9 (.bool la) rfl rfl (by simp) Ca3 rfl ?_);intro w8 hE ho;have hbE:=(Aa0 hbn hb9).trans (ho.below (Aa0 hbn hb9).size (by simpa using hsz));have hE7:=set7 hE)
   |(with_reducible refine J9 57 7 ?_;go_must (refine wpList_load_row rfl _ (.tmp 7) rfl b rfl _ (evA ⟨2,0,y,c,false,0,false,la,false,false⟩) (0,0) _ hE7 Tryz.underlying73 rfl (Aw0 _) ?_))
   |(go_at_call 165;(with_reducible refine(htl.out _ h6 _ hbE).mono ?_);rintro e wz ⟨⟨vz,rfl⟩,hz,hfz⟩))
  go_end0
  exact⟨⟨_,rfl⟩,hz,(hf6.trans (Aa9 hbE)).trans hfz⟩
theorem join_any (h:TM Z w t T) (ok:Ok T) (hj:T.jr.length<=90000000) (hpr:T.prints<=10000000000) (r:Int):Calls Tryz.prog 123 #[.pointer (some ⟨t,0,none⟩),.int .i32 r] w (Does Z w t (Bc5 T r)):=by
 obtain⟨P,h⟩:=h
 unfold Bc5
 cases h10:T.c.pend with
 |true =>
  have hjc:Ao3 T=(T.c.col:Int):=by unfold Ao3;rw[h10];rfl
  rw[hjc]
  split
  ·rename_i hr
   have hk:T.c.col<(Ab1 T.vis T.c.row).length:=by have:=hr.2;rw[line_is] at this;omega
   rw[Int.toNat_natCast,line_is,W_at hk]
   split
   ·exact Ci7 h ok hj hpr r T.c.col hk (.inl ⟨h10,rfl⟩) (by assumption)
   ·exact Ci6 h ok hj hpr r T.c.col hk (.inl ⟨h10,rfl⟩) (by assumption)
  ·exact join_nop h ok r h10 (by assumption)
 |false =>
  have hjc:Ao3 T=(T.c.col:Int) - 1:=by unfold Ao3;rw[h10];rfl
  rw[hjc]
  split
  ·rename_i hr
   obtain⟨k,hk1⟩:∃k,k+1=T.c.col:=⟨T.c.col - 1,by omega⟩
   have hk:k<(Ab1 T.vis T.c.row).length:=by have:=hr.2;rw[line_is] at this;omega
   rw[show ((T.c.col:Int) - 1).toNat=k by omega,line_is,W_at hk]
   split
   ·exact Ci7 h ok hj hpr r k hk (.inr ⟨h10,hk1⟩) (by assumption)
   ·exact Ci6 h ok hj hpr r k hk (.inr ⟨h10,hk1⟩) (by assumption)
  ·exact join_non h ok r h10 (by assumption)
end
