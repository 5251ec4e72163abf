/- Part 27 of HostKeys. -/
import Derived.Test.YtecnpoigegiooaaGreatDoorW26
set_option maxHeartbeats 16000000
set_option maxRecDepth 100000
namespace Go.Proofs.YtecnpoigegiooaaGreatDoor.Emu
open Go.Proofs.Tryz
open Go RowKit Com Rw Lns Scn
section
variable {Z Z1:Zn}{w w':World}{t x s:Nat}{S:Scr}{T:Ter}{P:Pt}{v:Value}{l:List Int}
theorem Bor(h:SC Z1 w x s S)(hF:Fit S)(n:Int)(hnx:S.nx<=9900000000)(a:At) :
  Calls prog 223 #[.pointer (some ⟨x,0,none⟩),.int .i64 n,.agg #[.int .u32 a.f,.int .u32 a.b,.int .u16 a.g]] w (Aim Z1 w x s (upT S n a) 0):=by
 unfold upT
 by_cases hk:S.kp=true/\S.top=0
 ·rw[hk.1,decide_eq_true hk.2]
  exact Cir h hF n (by omega) a hk
 ·have hb:(S.kp&&decide (S.top=0))=false:=by
   rcases hq:S.kp with _|_
   ·rfl
   ·simp only[Bool.true_and,decide_eq_false_iff_not]
    exact fun h0=>hk ⟨hq,h0⟩
  rw[hb]
  refine Bzc h hF n (by omega) a ?_
  rcases hq:S.kp with _|_
  ·exact .inl rfl
  ·exact .inr fun h0=>hk ⟨hq,h0⟩
theorem TMx.F8(h:TMx Z w t T P)(n:Nat):TMx Z (w.setCell ⟨t,9,none⟩ (.int .i64 n)) t (F8 T n) P/\Scn.Fr Z TT w (w.setCell ⟨t,9,none⟩ (.int .i64 n)) :=
 h.G9 (m:=T.m) (c:={ T.c with col:=n }) (p:=T.p) (n:=T.C5) (e:=T.last) (A0.setCell w ⟨t,9,none⟩ _) (h.blk.set 9 _)
theorem TMx.Agj(h:TMx Z w t T P)(b:Bool):TMx Z (w.setCell ⟨t,16,none⟩ (.int .i64 (whI b))) t (Agj T b) P/\Scn.Fr Z TT w (w.setCell ⟨t,16,none⟩ (.int .i64 (whI b))) :=
 h.G9 (m:=T.m) (c:=T.c) (p:={ T.p with wh:=b }) (n:=T.C5) (e:=T.last) (A0.setCell w ⟨t,16,none⟩ _) (h.blk.set 16 _)
theorem Ahj(h:TM Z w t T)(ok:Ok T)(hnx:T.nx<=9900000000):Calls prog 166 #[.pointer (some ⟨t,0,none⟩)] w (A7 Z w t (feed T)):=by
 obtain⟨P,h⟩:=h
 have c8:=h.c8
 have hs:=h.s0
 have hsh:=J0 (I7 h)
 obtain⟨Z1,hf⟩:=h.focus
 have hm:=J0 (Amx hf.sc ok.fit.len)
 unfold feed
 by_cases hc:T.c.row=T.vis.bot
 ·rw[if_pos hc]
  have hd:decide ((T.c.row:Int)=(T.vis.bot:Int))=true:=decide_eq_true (by omega)
  have hd2:decide (T.c.row=T.vis.bot)=true:=decide_eq_true hc
  have hup:=J0 (fun w1 (hb:Below w.heap.size w w1)=>Bor (hf.sc.below hb) ok.fit 1 hnx T.p.a)
  have hbk:=J0 (fun w1 w2 (hb:Below w.heap.size w w1) (hs2:SC Z1 w2 (P.x T.other) P.s (upT T.vis 1 T.p.a)) (hf2:Scn.Fr Z1 PT w1 w2)=>hf.back w2 _ hs2 rfl rfl ((Scn.Fr.A1 hb).trans hf2))
  have hpl:=J0 (fun w2 (h2:TMx Z w2 t (T.C2 (upT T.vis 1 T.p.a)) P)=>Ahg h2 (ok.upT 1 T.p.a) T.c.row T.c.col)
  have ce:=J0 (fun w1 (hb:Below w.heap.size w w1) (k:Eqt.Ext w1)=>And.intro ((h.below hb).below k.below).s0 (And.intro ((h.below hb).below k.below).c11 (And.intro ((h.below hb).below k.below).c12 ((h.below hb).below k.below).c13)))
  have c2:=J0 (fun w2 (h2:TMx Z w2 t (T.C2 (upT T.vis 1 T.p.a)) P) (k:Eqt.Ext w2)=>And.intro (Aih T (upT T.vis 1 T.p.a)▸(h2.below k.below).c8) (Aih T (upT T.vis 1 T.p.a)▸(h2.below k.below).c9))
  have kp:=J0 (fun w2 w3 (h2:TMx Z w2 t (T.C2 (upT T.vis 1 T.p.a)) P) (hb:Below w2.heap.size w2 w3)=>h2.below hb)
  generalize T.C2 (upT T.vis 1 T.p.a)=T1 at hbk hpl c2 kp |-
  generalize upT T.vis 1 T.p.a=S1 at hup hbk
  generalize P.h T.other=hh at hs hsh ce
  generalize P.x T.other=xx at hs hm hup hbk ce
  generalize T.vis.bot=bot at hm hd hd2 hc
  generalize T.vis.top=top at hm
  subst hc
  generalize T.c.row=row at c8 hd hd2 hm hpl c2 |-
  generalize T.c.col=col at hpl c2 |-
  generalize T.p.a=a at hup ce
  obtain⟨af,ab,ag⟩:=a
  simp only at hup ce
  clear h hf ok
  go_enter func166,ntmps166
  go_wp2_with (first
   |(go_at_call 68;(with_reducible refine(hsh.out).mono ?_);rintro e w1 ⟨rfl,rfl⟩)
   |(go_at_call 69;(with_reducible refine(hm.out).mono ?_);rintro e w1 ⟨rfl,q,rfl⟩))
  have hbq:=C7 (Below.refl w.heap.size w) q
  have k0:=fun k=>(ce.out _ hbq k).1
  have k1:=fun k=>(ce.out _ hbq k).2.1
  have k2:=fun k=>(ce.out _ hbq k).2.2.1
  have k3:=fun k=>(ce.out _ hbq k).2.2.2
  clear c8 hs ce hsh hm
  generalize w.drewN q=wq at hbq k0 k1 k2 k3 |-
  refine Eqt.H4 9 (by kernel_rfl) (by kernel_rfl) ?_
  simp only[List.take_succ_cons,List.take_zero,List.drop_succ_cons,List.drop_zero]
  repeat(go_big_quiet_step(fail))
  refine wpQuiet_nil ?_
  intro w9 hw9
  obtain⟨k9,rfl⟩:=hw9
  have hb9:=k9.below
  generalize k9.w=w9 at hb9 |-
  go_wp2_with (first
   |(go_at_call 223;(with_reducible refine(hup.out _ (A2 hbq hb9)).mono ?_);rintro e w2 ⟨rfl,hs2,hf2⟩))
  obtain⟨h2,hf3⟩:=hbk.out _ _ (A2 hbq hb9) hs2 hf2
  have c8:=fun k=>(c2.out _ h2 k).1
  have c9:=fun k=>(c2.out _ h2 k).2
  have hfr:=(Scn.Fr.A1 (B:=Z) (ts:=TT) (Below.refl w.heap.size w)).trans hf3
  clear k0 k1 k2 k3 hs2 hf2 hbk hup c2 hf3 hb9 hbq
  refine Eqt.H4 11 (by kernel_rfl) (by kernel_rfl) ?_
  simp only[List.take_succ_cons,List.take_zero,List.drop_succ_cons,List.drop_zero]
  repeat(go_big_quiet_step(fail))
  refine wpQuiet_nil ?_
  intro w9 hw9
  obtain⟨k9,rfl⟩:=hw9
  have hb9:=k9.below
  generalize k9.w=w9 at hb9 |-
  go_wp2_with (first
   |(go_at_call 171;(with_reducible refine(hpl.out _ (kp.out _ _ h2 hb9)).mono ?_);rintro e w3 ⟨⟨v3,rfl⟩,h3,hf3⟩))
  go_end0
  exact⟨⟨_,rfl⟩,h3.tm,(hfr.trans (Scn.Fr.A1 hb9)).trans hf3⟩
 ·rw[if_neg hc]
  have hd:decide ((T.c.row:Int)=(T.vis.bot:Int))=false:=decide_eq_false (by omega)
  have hd2:decide (T.c.row=T.vis.bot)=false:=decide_eq_false hc
  have hw:IntKind.i64.wrap ((T.c.row:Int)+1)=(T.c.row:Int)+1:=IntWalk.i64_in _ (by have:=ok.row;have:=ok.fit.G8;omega)
  have hpl:=J0 (fun w1 (hb:Below w.heap.size w w1)=>Ahg (h.below hb) ok ((T.c.row:Int)+1) T.c.col)
  have ce:=J0 (fun w1 (hb:Below w.heap.size w w1) (k:Eqt.Ext w1)=>And.intro ((h.below hb).below k.below).c8 ((h.below hb).below k.below).c9)
  generalize place T ((T.c.row:Int)+1) T.c.col=T1 at hpl |-
  generalize P.h T.other=hh at hs hsh
  generalize P.x T.other=xx at hs hm
  generalize T.vis.bot=bot at hm hd hd2 hc
  generalize T.vis.top=top at hm
  generalize T.c.row=row at c8 hd hd2 hpl ce hw hc
  generalize T.c.col=col at hpl ce
  clear h hf ok
  go_enter func166,ntmps166
  go_wp2_with (first
   |(go_at_call 68;(with_reducible refine(hsh.out).mono ?_);rintro e w1 ⟨rfl,rfl⟩)
   |(go_at_call 69;(with_reducible refine(hm.out).mono ?_);rintro e w1 ⟨rfl,q,rfl⟩))
  have hbq:=C7 (Below.refl w.heap.size w) q
  have k0:=fun k=>(ce.out _ hbq k).1
  have k1:=fun k=>(ce.out _ hbq k).2
  clear c8 hs ce hsh hm
  generalize w.drewN q=wq at hbq k0 k1 |-
  refine Eqt.H4 12 (by kernel_rfl) (by kernel_rfl) ?_
  simp only[List.take_succ_cons,List.take_zero,List.drop_succ_cons,List.drop_zero]
  repeat(go_big_quiet_step(fail))
  refine wpQuiet_nil ?_
  intro w9 hw9
  obtain⟨k9,rfl⟩:=hw9
  have hb9:=k9.below
  generalize k9.w=w9 at hb9 |-
  go_wp2_with (first
   |(go_at_call 171;(with_reducible refine(hpl.out _ (A2 hbq hb9)).mono ?_);rintro e w3 ⟨⟨v3,rfl⟩,h3,hf3⟩))
  go_end0
  exact⟨⟨_,rfl⟩,h3.tm,(Scn.Fr.A1 (A2 hbq hb9)).trans hf3⟩
end
section
variable {Z Z1:Zn}{w w':World}{t x s:Nat}{S:Scr}{T:Ter}{P:Pt}{v:Value}{l:List Int}
theorem I8{B:Zn}{ts:List TypeId}(hb:Below w.heap.size w w'):Scn.Fr B ts w w':=Scn.Fr.A1 hb
theorem Ati(h:TM Z w t T)(ok:Ok T)(hj:T.jr.length<=90000000)(wrap:Bool):Calls prog 167 #[.pointer (some ⟨t,0,none⟩),.bool wrap] w (A7 Z w t (Acn T wrap)):=by
 obtain⟨P,h⟩:=h
 obtain⟨Z1,hf⟩:=h.focus
 obtain⟨d,hd⟩:=Adr hf.sc ok.row
 have hh:Hid (Calls prog 163 #[.pointer (some ⟨t,0,none⟩),.int .u8 3] w fun e w'=>e=.returned (.agg #[.int .u8 3,.int .u64 0,.int .i64 (L6 T.vis.L T.c.row),.int .i64 T.c.col,.bool false,.int .i32 0,.bool false,.bool false,.bool false,.bool false])/\Below w.heap.size w w'):=J0 (Ajf h ok 3)
 have hl:=J0 (fun w1 (hb:Below w.heap.size w w1)=>Acm (h.below hb) ok (O0 hd hb))
 have hbl:=J0 (fun w1 (hb:Below w.heap.size w w1)=>Azq (O0 hd hb) 0)
 have ht:Hid (∀w1 (hb:Below w.heap.size w w1),Calls prog 222 #[.pointer (some ⟨t,0,none⟩),.agg #[.int .u8 3,.int .u64 0,.int .i64 (L6 T.vis.L T.c.row),.int .i64 T.c.col,.bool false,.int .i32 0,.bool false,.bool false,.bool (Aes (line T) 0),.bool wrap]] w1 fun r w'=>(∃v,r=.returned v)/\(∃jv,TMx Z w' t (Acn T wrap) { P with jv:=jv })/\Scn.Fr Z TT w1 w') :=
  J0 (fun w1 hb=>Aqb (h.below hb) hj { here T 3 with fr:=Aes (line T) 0,wr:=wrap })
 rw[Alb]at ht
 generalize Acn T wrap=T1 at ht |-
 generalize Aes (C8 T.vis T.c.row) 0=bl at hbl ht
 generalize L6 T.vis.L T.c.row=y at hh ht
 generalize T.c.col=col at hh ht
 clear h hf ok hd hj
 go_enter func167,ntmps167
 go_wp2_with (first
  |(go_at_call 163;(with_reducible refine(hh.out).mono ?_);rintro e w1 ⟨rfl,hb1⟩))
 have hbn:=A2 hb1 (A3 w1 (.cells #[.int .u8 3,.int .u64 0,.int .i64 y,.int .i64 col,.bool false,.int .i32 0,.bool false,.bool false,.bool false,.bool false] 73))
 have hbx:=Block.made w1 73 #[.int .u8 3,.int .u64 0,.int .i64 y,.int .i64 col,.bool false,.int .i32 0,.bool false,.bool false,.bool false,.bool false]
 have Akd:=hb1.size
 generalize w1.alloc (.cells #[.int .u8 3,.int .u64 0,.int .i64 y,.int .i64 col,.bool false,.int .i32 0,.bool false,.bool false,.bool false,.bool false] 73)=w2 at hbn hbx |-
 generalize w1.heap.size=b at hbx Akd |-
 have hbx':=J0 (fun w' (hb:Below w2.heap.size w2 w')=>Block.only hbx (A0.A1 hb []) (by simp))
 clear hh hb1
 go_wp2_with (first
  |(go_at_call 160;(with_reducible refine(hl.out _ hbn).mono ?_);rintro e w3 ⟨rfl,q,rfl⟩)
  |(go_at_call 168;(with_reducible refine(hbl.out _ (C7 hbn q)).mono ?_);rintro e w4 ⟨rfl,hb4⟩;have hb2:=A2 (C7 (Below.refl w2.heap.size w2) q) hb4;have hx:=hbx'.out _ hb2;have x0:=hx.cell 0 rfl;have x1:=hx.cell 1 rfl;have x2:=hx.cell 2 rfl;have x3:=hx.cell 3 rfl;have x4:=hx.cell 4 rfl;have x5:=hx.cell 5 rfl;have x6:=hx.cell 6 rfl;have x7:=hx.cell 7 rfl;have x8:=hx.cell 8 rfl;have x9:=hx.cell 9 rfl;have f8:=hx.free 8;have f9:=hx.free 9;have hbf:=(A2 hbn hb2).trans (((A0.setCell w4 ⟨b,8,none⟩ (.bool bl)).trans (A0.setCell _ ⟨b,9,none⟩ (.bool wrap))).below (A2 hbn hb2).size (by simpa using Akd)))
  |(go_at_call 222;(with_reducible refine(ht.out _ hbf).mono ?_);rintro e w5 ⟨⟨v5,rfl⟩,⟨jv,h5⟩,hf5⟩))
 go_end0
 exact⟨⟨_,rfl⟩,h5.tm,(I8 hbf).trans hf5⟩
theorem Btw(h:TM Z w t T)(ok:Ok T)(hj:T.jr.length<=90000000):Calls prog 127 #[.pointer (some ⟨t,0,none⟩)] w (A7 Z w t (Avd T)):=by
 obtain⟨P,h⟩:=h
 have c8:=fun k:Eqt.Ext w=>(h.below k.below).c8
 have c9:=fun k:Eqt.Ext w=>(h.below k.below).c9
 have hw:IntKind.i64.wrap ((T.c.col:Int)-1)=(T.c.col:Int)-1:=IntWalk.i64_in _ (by have:=ok.col;have:=ok.fit.c5;omega)
 have hm:=J0 (fun w1 (hb:Below w.heap.size w w1)=>V5 (h.below hb).tm ok hj T.c.row ((T.c.col:Int)-1))
 unfold Avd
 generalize move T T.c.row ((T.c.col:Int)-1)=T1 at hm |-
 generalize T.c.row=row at c8 hm
 generalize T.c.col=col at c9 hm hw
 clear h ok hj
 go_enter func127,ntmps127
 go_wp2
 refine Eqt.H4 12 (by kernel_rfl) (by kernel_rfl) ?_
 simp only[List.take_succ_cons,List.take_zero,List.drop_succ_cons,List.drop_zero]
 repeat(go_big_quiet_step(fail))
 refine wpQuiet_nil ?_
 intro w9 hw9
 obtain⟨k9,rfl⟩:=hw9
 have hb9:=k9.below
 generalize k9.w=w9 at hb9 |-
 go_wp2_with (first
  |(go_at_call 172;(with_reducible refine(hm.out _ hb9).mono ?_);rintro e w5 ⟨⟨v5,rfl⟩,h5,hf5⟩))
 go_end0
 exact⟨⟨_,rfl⟩,h5,(I8 hb9).trans hf5⟩
theorem Bsn(h:TM Z w t T)(ok:Ok T)(hj:T.jr.length<=90000000):Calls prog 130 #[.pointer (some ⟨t,0,none⟩)] w (A7 Z w t (Auh T)):=by
 obtain⟨P,h⟩:=h
 have c8:=h.c8
 have hp:=J0 (Ahg h ok T.c.row 0)
 have ht:=J0 (fun w1 (h1:TM Z w1 t (place T T.c.row 0))=>Ben h1 (ok.place T.c.row 0) hj)
 unfold Auh
 generalize place T T.c.row 0=T1 at hp ht |-
 generalize T.c.row=row at c8 hp
 clear h ok hj
 go_enter func130,ntmps130
 go_wp2_with (first
  |(go_at_call 171;(with_reducible refine(hp.out).mono ?_);rintro e w1 ⟨⟨v1,rfl⟩,h1,hf1⟩)
  |(go_at_call 174;(with_reducible refine(ht.out _ h1.tm).mono ?_);rintro e w2 ⟨⟨v2,rfl⟩,h2,hf2⟩))
 go_end0
 exact⟨⟨_,rfl⟩,h2,hf1.trans hf2⟩
theorem Btd(h:TM Z w t T):Calls prog 132 #[.pointer (some ⟨t,0,none⟩)] w (A7 Z w t (Agj T false)):=by
 obtain⟨P,h⟩:=h
 have c16:=h.c16
 have f16:=h.free 16
 have hr:=J0 (h.Agj false)
 unfold whI at hr
 simp only[Bool.false_eq_true,if_false]at hr
 clear h
 go_enter func132,ntmps132
 go_wp2
 go_end0
 exact⟨⟨_,rfl⟩,hr.out.1.tm,hr.out.2⟩
theorem Bso(h:TM Z w t T):Calls prog 131 #[.pointer (some ⟨t,0,none⟩)] w (A7 Z w t (Agj T true)):=by
 obtain⟨P,h⟩:=h
 have c16:=h.c16
 have f16:=h.free 16
 have hr:=J0 (h.Agj true)
 unfold whI at hr
 simp only[if_true]at hr
 clear h
 go_enter func131,ntmps131
 go_wp2
 go_end0
 exact⟨⟨_,rfl⟩,hr.out.1.tm,hr.out.2⟩
theorem Ok.feed(h:Ok T):Ok (feed T):=by
 unfold Emu.feed
 split
 ·exact(h.upT _ _).place _ _
 ·exact h.place _ _
theorem Ani(T:Ter):(feed T).jr=T.jr:=by
 unfold feed
 split
 ·exact V7 _ _
 ·rfl
theorem Ays(h:TM Z w t T)(ok:Ok T)(hj:T.jr.length<=90000000)(hnx:T.nx<=9900000000):Calls prog 133 #[.pointer (some ⟨t,0,none⟩)] w (A7 Z w t (Aho T)):=by
 have hp:=J0 (Ahj h ok hnx)
 have ht:=J0 (fun w1 (h1:TM Z w1 t (feed T))=>Agw h1 ok.feed (by rw[Ani];exact hj))
 unfold Aho
 generalize feed T=T1 at hp ht |-
 clear h ok hj
 go_enter func133,ntmps133
 go_wp2_with (first
  |(go_at_call 166;(with_reducible refine(hp.out).mono ?_);rintro e w1 ⟨⟨v1,rfl⟩,h1,hf1⟩)
  |(go_at_call 175;(with_reducible refine(ht.out _ h1).mono ?_);rintro e w2 ⟨⟨v2,rfl⟩,h2,hf2⟩))
 go_end0
 exact⟨⟨_,rfl⟩,h2,hf1.trans hf2⟩
theorem Bfh(h:TM Z w t T)(ok:Ok T)(hj:T.jr.length<=90000000)(hnx:T.nx<=9900000000):Calls prog 134 #[.pointer (some ⟨t,0,none⟩)] w (A7 Z w t (Aji T)):=by
 obtain⟨P,h⟩:=h
 have c9:=h.c9
 have f9:=h.free 9
 obtain⟨h1,hf1⟩:=h.F8 0
 rw[show((0:Nat):Int)=0 from rfl]at h1 hf1
 have hp:=J0 (Ays h1.tm (ok.F8 ok.fit.c1) hj hnx)
 unfold Aji
 clear h ok hj h1
 go_enter func134,ntmps134
 go_wp2_with (first
  |(go_at_call 133;(with_reducible refine(hp.out).mono ?_);rintro e w1 ⟨⟨v1,rfl⟩,h2,hf2⟩))
 go_end0
 exact⟨⟨_,rfl⟩,h2,hf1.trans hf2⟩
theorem Ayp(h:TM Z w t T)(ok:Ok T)(hj:T.jr.length<=90000000)(hnx:T.nx<=9900000000):Calls prog 129 #[.pointer (some ⟨t,0,none⟩)] w (A7 Z w t (Ajo T)):=by
 obtain⟨P,h⟩:=h
 have c1:=h.c1
 have c9:=h.c9
 have f9:=h.free 9
 unfold Ajo
 generalize T.m.a1=nl at c1 |-
 cases nl
 ·simp only[Bool.false_eq_true,if_false]
  have hp:=J0 (Ahj h.tm ok hnx)
  have ht:=J0 (fun w1 (h1:TM Z w1 t (feed T))=>Ati h1 ok.feed (by rw[Ani];exact hj) false)
  generalize feed T=T1 at hp ht |-
  clear h ok hj
  go_enter func129,ntmps129
  go_wp2_with (first
   |(go_at_call 166;(with_reducible refine(hp.out).mono ?_);rintro e w1 ⟨⟨v1,rfl⟩,h1,hf1⟩)
   |(go_at_call 167;(with_reducible refine(ht.out _ h1).mono ?_);rintro e w2 ⟨⟨v2,rfl⟩,h2,hf2⟩))
  go_end0
  exact⟨⟨_,rfl⟩,h2,hf1.trans hf2⟩
 ·simp only[if_true]
  obtain⟨h0,hf0⟩:=h.F8 0
  rw[show((0:Nat):Int)=0 from rfl]at h0 hf0
  have ok0:=ok.F8 ok.fit.c1
  have hp:=J0 (Ahj h0.tm ok0 hnx)
  have ht:=J0 (fun w1 (h1:TM Z w1 t (feed (F8 T 0)))=>Ati h1 ok0.feed (by rw[Ani];exact hj) false)
  generalize feed (F8 T 0)=T1 at hp ht |-
  clear h ok hj h0 ok0
  go_enter func129,ntmps129
  go_wp2_with (first
   |(go_at_call 166;(with_reducible refine(hp.out).mono ?_);rintro e w1 ⟨⟨v1,rfl⟩,h1,hf1⟩)
   |(go_at_call 167;(with_reducible refine(ht.out _ h1).mono ?_);rintro e w2 ⟨⟨v2,rfl⟩,h2,hf2⟩))
  go_end0
  exact⟨⟨_,rfl⟩,h2,(hf0.trans hf1).trans hf2⟩
end
section
variable {Z Z1:Zn}{w w':World}{t x s:Nat}{S:Scr}{T:Ter}{P:Pt}{v:Value}{l:List Int}
theorem TMx.Bcr(h:TMx Z w t T P){n:Nat}{f:Nat->Bool}(ho:A0 [P.tb] w w')(ht:Tbs.G2 w' P.tb n f):TMx Z w' t { T with tn:=n,tf:=f } P/\Scn.Fr Z TT w w':=by
 have tt:Typ w P.tb 177:=Block.typ h.V3
 have hf:Scn.Fr Z [177] w w':=Scn.Fr.I9 ho fun k hk _=>by
  obtain rfl:k=P.tb:=by simpa using hk
  exact⟨h.zb,_,by simp,tt⟩
 have E8:∀ {k:Nat} {ty:TypeId},Typ w k ty->ty≠177->w'.heap[k]?=w.heap[k]?:=fun hk hty=>ho.block _ (Aax hk) (V0 hk tt hty)
 have same:∀ {k:Nat} {ty:TypeId} {cs:Array Value},Block w k ty cs->ty≠177->Block w' k ty cs:=fun hb hty=>(E8 (Block.typ hb) hty).trans hb
 exact⟨⟨same h.blk (by decide),same h.main (by decide),fun o ho=>⟨same (h.aside o ho).1 (by decide),(h.aside o ho).2⟩,h.scr.fr hf (by unfold P0;decide),ht,
  V4 h.jr (fun g hg=>E8 (M4 h.jr g hg) (by decide)),W8 h.rp (fun g hg=>E8 (R0 h.rp g hg) (by decide)),h.zt,h.zm,h.zb,h.zj,h.zr,fun k hk=>h.up k (Nat.le_trans hf.size hk),h.low,h.tbl.fr hf h.low⟩,
  hf.mono (by simp[TT])⟩
theorem TMx.saved(h:TMx Z w t T P){sv:Sav}(ho:A0 [P.h T.other] w w')(hb:Block w' (P.h T.other) 143 (shA (P.x T.other) sv)):TMx Z w' t (T.Acz sv) P/\Scn.Fr Z TT w w':=by
 have tt:=Block.typ h.Abx
 have hz:Z (P.h T.other):=by
  unfold Pt.h
  rcases hoo:T.other with _|o
  ·exact h.zm
  ·exact(h.aside o hoo).2.2
 have hf:Scn.Fr Z [143] w w':=Scn.Fr.I9 ho fun k hk _=>by
  obtain rfl:k=P.h T.other:=by simpa using hk
  exact⟨hz,_,by simp,tt⟩
 have E8:∀ {k:Nat} {ty:TypeId},Typ w k ty->ty≠143->w'.heap[k]?=w.heap[k]?:=fun hk hty=>ho.block _ (Aax hk) (V0 hk tt hty)
 have same:∀ {k:Nat} {ty:TypeId} {cs:Array Value},Block w k ty cs->ty≠143->Block w' k ty cs:=fun hb hty=>(E8 (Block.typ hb) hty).trans hb
 have Afm:=h.scr.fr hf (by unfold P0;decide)
 have P6:=same h.blk (by decide)
 refine⟨?_,hf.mono (by simp[TT])⟩
 have hj:=V4 (w':=w') h.jr (fun g hg=>E8 (M4 h.jr g hg) (by decide))
 have hr:=W8 (w':=w') h.rp (fun g hg=>E8 (R0 h.rp g hg) (by decide))
 have ht:=same h.V3 (by decide)
 have hup:∀k,w'.heap.size<=k->Z k:=fun k hk=>h.up k (Nat.le_trans hf.size hk)
 have htb:=h.tbl.fr hf h.low
 have Ant:=h.main
 have has:=h.aside
 unfold Y0 at Afm
 unfold Pt.h Pt.x at hb
 unfold Pt.h at ho
 rcases hoo:T.other with _|o
 ·rw[hoo]at Afm hb ho
  rw[show T.Acz sv={ T with main:={ T.main with sv:=sv } }from by unfold Ter.Acz;rw[hoo]]
  refine⟨P6,hb,fun o ho=>(by rw[hoo]at ho;cases ho),?_,ht,hj,hr,h.zt,h.zm,h.zb,h.zj,h.zr,hup,h.low,htb⟩
  unfold Y0
  rw[hoo]
  simpa[Ter.vis,Ter.sh,Sh.scr,hoo]using Afm
 ·rw[hoo]at Afm hb ho
  rw[show T.Acz sv={ T with other:=some { o with sv:=sv } }from by unfold Ter.Acz;rw[hoo]]
  obtain⟨a1,a2,a3⟩:=has o hoo
  have hm':Block w' P.hm 143 (shA P.xm T.main.sv):=Ant.only ho (by simpa using a2.symm)
  have hA:S6 { T with other:=some { o with sv:=sv } } P=S6 T P:=by unfold S6;rw[hoo];rfl
  refine⟨by rw[hA];exact P6,hm',fun o2 ho2=>?_,?_,ht,hj,hr,h.zt,h.zm,h.zb,h.zj,h.zr,hup,h.low,htb⟩
  ·simp only[Option.some.injEq]at ho2
   subst ho2
   exact⟨hb,a2,a3⟩
  ·unfold Y0
   simpa[Ter.vis,Ter.Afo,Ter.sh,Sh.scr,hoo]using Afm
theorem Bgy(h:TM Z w t T)(ok:Ok T):Calls prog 135 #[.pointer (some ⟨t,0,none⟩)] w (A7 Z w t (Alj T)):=by
 obtain⟨P,h⟩:=h
 have c9:=fun k:Eqt.Ext w=>(h.below k.below).c9
 have c20:=fun k:Eqt.Ext w=>(h.below k.below).c20
 have hn5:T.tn<=512:=by have:=ok.tn;have:=ok.fit.c5;omega
 have hs:=J0 (fun w1 (hb:Below w.heap.size w w1)=>Tbs.Cpv (h.below hb).V3 hn5 T.c.col (by have:=ok.tn;have:=ok.col;omega))
 have hr:=J0 (fun w1 w2 (hb:Below w.heap.size w w1)=>(h.below hb).Bcr (w':=w2) (n:=T.tn) (f:=Tbs.G5 T.tf T.c.col true))
 unfold Alj
 generalize T.c.col=col at c9 hs hr |-
 clear h ok
 go_enter func135,ntmps135
 go_wp2
 refine Eqt.H4 9 (by kernel_rfl) (by kernel_rfl) ?_
 simp only[List.take_succ_cons,List.take_zero,List.drop_succ_cons,List.drop_zero]
 repeat(go_big_quiet_step(fail))
 refine wpQuiet_nil ?_
 intro w9 hw9
 obtain⟨k9,rfl⟩:=hw9
 have hb9:=k9.below
 generalize k9.w=w9 at hb9 |-
 go_wp2_with (first
  |(go_at_call 176;(with_reducible refine(hs.out _ hb9).mono ?_);rintro e w5 ⟨rfl,ht5,ho5⟩))
 obtain⟨h6,hf6⟩:=hr.out _ _ hb9 ho5 ht5
 go_end0
 exact⟨⟨_,rfl⟩,h6.tm,(I8 hb9).trans hf6⟩
theorem Bbb(h:TM Z w t T):Calls prog 138 #[.pointer (some ⟨t,0,none⟩)] w (A7 Z w t (save T)):=by
 obtain⟨P,h⟩:=h
 have hsh:=J0 (fun k:Eqt.Ext w=>I7 (h.below k.below))
 have c3:=fun k:Eqt.Ext w=>(h.below k.below).c3
 have c8:=fun k:Eqt.Ext w=>(h.below k.below).c8
 have c9:=fun k:Eqt.Ext w=>(h.below k.below).c9
 have c10:=fun k:Eqt.Ext w=>(h.below k.below).c10
 have c11:=fun k:Eqt.Ext w=>(h.below k.below).c11
 have c12:=fun k:Eqt.Ext w=>(h.below k.below).c12
 have c13:=fun k:Eqt.Ext w=>(h.below k.below).c13
 have c14:=fun k:Eqt.Ext w=>(h.below k.below).c14
 have c15:=fun k:Eqt.Ext w=>(h.below k.below).c15
 have c16:=fun k:Eqt.Ext w=>(h.below k.below).c16
 have hbl:=J0 (fun w1 (hb:Below w.heap.size w w1)=>(h.below hb).Abx)
 have hr:=J0 (fun w1 w2 (hb:Below w.heap.size w w1)=>(h.below hb).saved (w':=w2) (sv:=⟨T.c,T.p,T.m.a3⟩))
 unfold save
 generalize P.h T.other=hh at hsh hbl hr
 generalize P.x T.other=xx at hbl hr
 clear h
 go_enter func138,ntmps138
 go_wp2
 refine Eqt.H4 18 (by kernel_rfl) (by kernel_rfl) ?_
 simp only[List.take_succ_cons,List.take_zero,List.drop_succ_cons,List.drop_zero]
 repeat (go_big_quiet_step (first
  |(go_at_call 68;exact Eqt.H7 (hsh.out _))))
 refine wpQuiet_nil ?_
 intro w9 hw9
 obtain⟨k9,rfl⟩:=hw9
 have hb9:=k9.below
 generalize k9.w=w9 at hb9 |-
 go_wp2_with (first
  |(with_reducible refine J8 19 ?_;go_must(refine Akm rfl _ (.tmp 19) (.tmp 17) rfl (hbl.out _ hb9) (Bem ⟨T.c,T.p,T.m.a3⟩).toArray rfl rfl (by simp[shA,Bem]) (by kernel_rfl) (by simp[Bem,Value.oneCell']) ?_);intro w5 hb5 ho5))
 obtain⟨h6,hf6⟩:=hr.out _ _ hb9 ho5 hb5
 go_end0
 exact⟨⟨_,rfl⟩,h6.tm,(I8 hb9).trans hf6⟩
end
section
variable {Z Z1:Zn}{w w':World}{t x s:Nat}{S:Scr}{T:Ter}{P:Pt}{v:Value}{l:List Int}
theorem Ok.Z8(h:Ok T):Ok (Z8 T):=⟨h.fit,h.U6,h.rows,h.cols,h.sv.1,h.sv.2,h.sv,h.svm,h.tn,h.alt⟩
def Amy(T:Ter):Ter:={ T with c:=T.sh.sv.c,p:=T.sh.sv.p,m:={ T.m with a3:=T.sh.sv.org } }
def Aoe(w:World)(t:Nat)(T:Ter):World:=((((((((((w.setCell ⟨t,8,none⟩ (.int .i64 T.sh.sv.c.row)).setCell ⟨t,9,none⟩ (.int .i64 T.sh.sv.c.col)).setCell ⟨t,10,none⟩ (.bool T.sh.sv.c.F6)).setCell ⟨t,11,none⟩ (.int .u32 T.sh.sv.p.a.f)).setCell ⟨t,12,none⟩ (.int .u32 T.sh.sv.p.a.b)).setCell ⟨t,13,none⟩ (.int .u16 T.sh.sv.p.a.g)).setCell ⟨t,14,none⟩ (.int .u8 T.sh.sv.p.g0)).setCell ⟨t,15,none⟩ (.int .u8 T.sh.sv.p.g1)).setCell ⟨t,16,none⟩ (.int .i64 (whI T.sh.sv.p.wh))).setCell ⟨t,3,none⟩ (.bool T.sh.sv.org))
theorem TMx.Amy(h:TMx Z w t T P):TMx Z (Aoe w t T).drew t (Amy T) P/\Scn.Fr Z TT w (Aoe w t T).drew:=by
 have e:(((((((((((S6 T P).setIfInBounds 8 (.int .i64 T.sh.sv.c.row)).setIfInBounds 9 (.int .i64 T.sh.sv.c.col)).setIfInBounds 10 (.bool T.sh.sv.c.F6)).setIfInBounds 11 (.int .u32 T.sh.sv.p.a.f)).setIfInBounds 12 (.int .u32 T.sh.sv.p.a.b)).setIfInBounds 13 (.int .u16 T.sh.sv.p.a.g)).setIfInBounds 14 (.int .u8 T.sh.sv.p.g0)).setIfInBounds 15 (.int .u8 T.sh.sv.p.g1)).setIfInBounds 16 (.int .i64 (whI T.sh.sv.p.wh))).setIfInBounds 3 (.bool T.sh.sv.org))=S6 (Emu.Amy T) P:=by kernel_rfl
 have hb:Block (Aoe w t T) t 102 (((((((((((S6 T P).setIfInBounds 8 (.int .i64 T.sh.sv.c.row)).setIfInBounds 9 (.int .i64 T.sh.sv.c.col)).setIfInBounds 10 (.bool T.sh.sv.c.F6)).setIfInBounds 11 (.int .u32 T.sh.sv.p.a.f)).setIfInBounds 12 (.int .u32 T.sh.sv.p.a.b)).setIfInBounds 13 (.int .u16 T.sh.sv.p.a.g)).setIfInBounds 14 (.int .u8 T.sh.sv.p.g0)).setIfInBounds 15 (.int .u8 T.sh.sv.p.g1)).setIfInBounds 16 (.int .i64 (whI T.sh.sv.p.wh))).setIfInBounds 3 (.bool T.sh.sv.org)):=((((((((((h.blk).set 8 _).set 9 _).set 10 _).set 11 _).set 12 _).set 13 _).set 14 _).set 15 _).set 16 _).set 3 _
 rw[e]at hb
 obtain⟨h1,hf⟩:=h.G9 (w':=Aoe w t T) (m:={ T.m with a3:=T.sh.sv.org }) (c:=T.sh.sv.c) (p:=T.sh.sv.p) (n:=T.C5) (e:=T.last) (((((((((((A0.refl _ _).trans (A0.setCell _ ⟨t,8,none⟩ _)).trans (A0.setCell _ ⟨t,9,none⟩ _)).trans (A0.setCell _ ⟨t,10,none⟩ _)).trans (A0.setCell _ ⟨t,11,none⟩ _)).trans (A0.setCell _ ⟨t,12,none⟩ _)).trans (A0.setCell _ ⟨t,13,none⟩ _)).trans (A0.setCell _ ⟨t,14,none⟩ _)).trans (A0.setCell _ ⟨t,15,none⟩ _)).trans (A0.setCell _ ⟨t,16,none⟩ _)).trans (A0.setCell _ ⟨t,3,none⟩ _)) hb
 exact⟨h1.drew 1,hf.trans (Scn.Fr.A1 (C7 (Below.refl _ _) 1))⟩
theorem TMx.Bbx(h:TMx Z w t T P)(b:Bool):TMx Z (w.setCell ⟨t,10,none⟩ (.bool b)) t { T with c:={ T.c with F6:=b } } P/\Scn.Fr Z TT w (w.setCell ⟨t,10,none⟩ (.bool b)) :=
 h.G9 (m:=T.m) (c:={ T.c with F6:=b }) (p:=T.p) (n:=T.C5) (e:=T.last) (A0.setCell w ⟨t,10,none⟩ _) (h.blk.set 10 _)
theorem Ayr(h:TM Z w t T)(ok:Ok T)(hj:T.jr.length<=90000000):Calls prog 139 #[.pointer (some ⟨t,0,none⟩)] w (A7 Z w t (restore T)):=by
 show Calls _ _ _ _ (A7 Z w t (U7 (Z8 T)))
 obtain⟨T2,hT2⟩:∃T2,T2=Z8 T:=⟨_,rfl⟩
 rw[<- hT2]
 replace hT2:=J0 hT2
 obtain⟨P,h⟩:=h
 have hsh:=J0 (I7 h)
 have d1:=h.s1
 have d2:=h.s2
 have d3:=h.s3
 have d4:=h.s4
 have d5:=h.s5
 have d6:=h.s6
 have d7:=h.s7
 have d8:=h.s8
 have d9:=h.s9
 have d10:=h.s10
 have c3:=h.c3
 have f3:=h.free 3
 have c8:=h.c8
 have f8:=h.free 8
 have c9:=h.c9
 have f9:=h.free 9
 have c10:=h.c10
 have f10:=h.free 10
 have c11:=h.c11
 have f11:=h.free 11
 have c12:=h.c12
 have f12:=h.free 12
 have c13:=h.c13
 have f13:=h.free 13
 have c14:=h.c14
 have f14:=h.free 14
 have c15:=h.c15
 have f15:=h.free 15
 have c16:=h.c16
 have f16:=h.free 16
 generalize hhe:P.h T.other=hh at hsh d1 d2 d3 d4 d5 d6 d7 d8 d9 d10
 have hne:hh≠t:=fun e=>absurd (Typ.inj (Block.typ h.Abx) (by rw[hhe,e];exact Block.typ h.blk)) (by decide)
 replace hhe:=J0 hhe
 go_enter func139,ntmps139
 go_wp2_with (first
  |(go_at_call 68;(with_reducible refine(hsh.out).mono ?_);rintro e w1 ⟨rfl,rfl⟩))
 go_region
 obtain⟨h6,hf6⟩:=h.Amy
 change Exit.then _ _ _ _ (Aoe w t T).drew
 generalize (Aoe w t T).drew=w6 at h6 hf6 |-
 clear hsh d1 d2 d3 d4 d5 d6 d7 d8 d9 d10 c3 c8 c9 c10 c11 c12 c13 c14 c15 c16 f3 f8 f9 f10 f11 f12 f13 f14 f15 f16
 have ok6:Ok (Z8 T):=ok.Z8
 have Bro:(Amy T).vis=T.vis:=rfl
 have hjr:(Z8 T).jr=T.jr:=rfl
 have e10:=fun k:Eqt.Ext w6=>(h6.below k.below).c10
 have e9:=fun k:Eqt.Ext w6=>(h6.below k.below).c9
 have es:=fun k:Eqt.Ext w6=>(h6.below k.below).s0
 obtain⟨Z1,hfo⟩:=h6.focus
 have hco:=J0 (fun k:Eqt.Ext w6=>Aco (hfo.sc.below k.below) ok.fit.len)
 have hp:∀b,b=(Z8 T).c.F6->Hid (∀w1 (hb:Below w6.heap.size w6 w1),TMx Z (w1.setCell ⟨t,10,none⟩ (.bool b)) t (Z8 T) P/\Scn.Fr Z TT w1 (w1.setCell ⟨t,10,none⟩ (.bool b))):=fun b hb=>J0 fun w1 hb1=>by
  subst hb
  exact(h6.below hb1).Bbx _
 have f10:=fun w1 (hb:Below w6.heap.size w6 w1)=>(h6.below hb).free 10
 have g10:=fun w1 (hb:Below w6.heap.size w6 w1)=>(h6.below hb).c10
 have ht:=J0 (fun w1 (h1:TM Z w1 t (Z8 T))=>Agw h1 ok6 hj)
 have F5:=ok.sv.2
 have hc5:=ok.fit.c5
 have hc1:=ok.fit.c1
 have hpe:(Z8 T).c.F6=(T.sh.sv.c.F6&&decide (T.sh.sv.c.col+1=T.vis.cols)):=rfl
 rw[hpe]at hp
 rw[<- hT2.out]at hp ht
 simp only[Amy,Ter.sh]at e9 e10 g10 es hpe
 rw[Bro]at hco
 change ∀k:Eqt.Ext w6,k.w.cell? ⟨t,9,none⟩=some (.int .i64 T.sh.sv.c.col)at e9
 change ∀k:Eqt.Ext w6,k.w.cell? ⟨t,10,none⟩=some (.bool T.sh.sv.c.F6)at e10
 change ∀k:Eqt.Ext w6,k.w.cell? ⟨P.h T.other,0,none⟩=some (.pointer (some ⟨P.x T.other,0,none⟩))at es
 change ∀w1,Below w6.heap.size w6 w1->w1.cell? ⟨t,10,none⟩=some (.bool T.sh.sv.c.F6)at g10
 rw[hhe.out]at es
 have hco':Hid (∀k:Eqt.Ext w6,Calls prog 124 #[.pointer (some ⟨P.x T.other,0,none⟩)] k.w fun e w'=>e=.returned (.int .i64 T.vis.cols)/\k.w=w'):=hco
 generalize T.sh.sv.c.F6=pe at e10 g10 hp
 generalize T.sh.sv.c.col=col at e9 hp F5
 generalize T.vis.cols=cols at hco' hp F5 hc5 hc1
 generalize P.x T.other=xx at es hco'
 have hw:IntKind.i64.wrap ((cols:Int)-1)=(cols:Int)-1:=IntWalk.i64_in _ (by omega)
 have hd:∀b,b=decide (col+1=cols)->decide ((col:Int)=(cols:Int)-1)=b/\((col:Int)==(cols:Int)-1)=b:=fun b hb=>by
  have:decide ((col:Int)=(cols:Int)-1)=b:=by
   rw[hb,decide_eq_decide]
   omega
  exact⟨this,by rw[<- this];rfl⟩
 clear h h6 hfo ok ok6 hco Bro hjr hpe
 go_wp2
 cases pe
 ·have hp2:=hp false rfl
  clear hp hd
  refine Eqt.H4 23 (by kernel_rfl) (by kernel_rfl) ?_
  simp only[List.take_succ_cons,List.take_zero,List.drop_succ_cons,List.drop_zero]
  repeat(go_big_quiet_step(fail))
  refine wpQuiet_nil ?_
  intro w9 hw9
  obtain⟨k9,rfl⟩:=hw9
  have hb9:=k9.below
  generalize k9.w=w9 at hb9 |-
  have q1:=f10 _ hb9
  have q2:=g10 _ hb9
  obtain⟨h7,hf7⟩:=hp2.out _ hb9
  go_wp2_with (first
   |(go_at_call 175;(with_reducible refine(ht.out _ h7.tm).mono ?_);rintro e w8 ⟨⟨v8,rfl⟩,h8,hf8⟩))
  go_end0
  exact⟨⟨_,rfl⟩,h8,((hf6.trans (I8 hb9)).trans hf7).trans hf8⟩
 ·obtain⟨b,hb⟩:∃b,b=decide (col+1=cols):=⟨_,rfl⟩
  have hp2:=hp b (by rw[Bool.true_and];exact hb)
  obtain⟨hd2,hd3⟩:=hd b hb
  clear hp hd hb
  refine Eqt.H4 23 (by kernel_rfl) (by kernel_rfl) ?_
  simp only[List.take_succ_cons,List.take_zero,List.drop_succ_cons,List.drop_zero]
  repeat (go_big_quiet_step (first
   |(go_at_call 124;exact Eqt.H7 (hco'.out _))))
  refine wpQuiet_nil ?_
  intro w9 hw9
  obtain⟨k9,rfl⟩:=hw9
  have hb9:=k9.below
  generalize k9.w=w9 at hb9 |-
  have q1:=f10 _ hb9
  have q2:=g10 _ hb9
  obtain⟨h7,hf7⟩:=hp2.out _ hb9
  go_wp2_with (first
   |(go_at_call 175;(with_reducible refine(ht.out _ h7.tm).mono ?_);rintro e w8 ⟨⟨v8,rfl⟩,h8,hf8⟩))
  go_end0
  exact⟨⟨_,rfl⟩,h8,((hf6.trans (I8 hb9)).trans hf7).trans hf8⟩
end
