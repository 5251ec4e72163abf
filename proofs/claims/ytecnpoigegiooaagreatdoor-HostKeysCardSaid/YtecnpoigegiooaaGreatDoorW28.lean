/- Part 28 of HostKeys. -/
import Derived.Test.YtecnpoigegiooaaGreatDoorW27
set_option maxHeartbeats 16000000
set_option maxRecDepth 100000
namespace Go.Proofs.YtecnpoigegiooaaGreatDoor.Emu
open Go.Proofs.Tryz
open Go RowKit Com Rw Lns Scn
section
variable {Z Z1:Zn}{w w':World}{t x s:Nat}{S:Scr}{T:Ter}{P:Pt}{v:Value}{l:List Int}
theorem Aek(h:NA Z w v l):Calls prog 237 #[v,.int .i64 0] w fun e w'=>e=.returned (.int .i64 (A5 l 0))/\w=w':=Abl h 0
theorem Bwm(h:NA Z w v l):Calls prog 237 #[v,.int .i64 1] w fun e w'=>e=.returned (.int .i64 (A5 l 1))/\w=w':=Abl h 1
theorem Afw(h:NA Z w v l):Calls prog 241 #[v,.int .i64 0] w fun e w'=>e=.returned (.int .i64 (atN l 0))/\w=w':=Aqs h 0
theorem Bkx(h:NA Z w v l):Calls prog 241 #[v,.int .i64 1] w fun e w'=>e=.returned (.int .i64 (atN l 1))/\w=w':=Aqs h 1
theorem go8(h:TM Z w t T)(ok:Ok T)(hj:T.jr.length<=90000000)(hp:NA Z w v l) :
  Calls prog 179 #[.pointer (some ⟨t,0,none⟩),v] w (A7 Z w t (goUp T l)) /\
  Calls prog 180 #[.pointer (some ⟨t,0,none⟩),v] w (A7 Z w t (goDown T l)) /\
  Calls prog 181 #[.pointer (some ⟨t,0,none⟩),v] w (A7 Z w t (Asb T l)) /\
  Calls prog 182 #[.pointer (some ⟨t,0,none⟩),v] w (A7 Z w t (Aqt T l)) /\
  Calls prog 185 #[.pointer (some ⟨t,0,none⟩),v] w (A7 Z w t (Aoh T l)) /\
  Calls prog 187 #[.pointer (some ⟨t,0,none⟩),v] w (A7 Z w t (Ars T l)) /\
  Calls prog 188 #[.pointer (some ⟨t,0,none⟩),v] w (A7 Z w t (Aqz T l)) /\
  Calls prog 189 #[.pointer (some ⟨t,0,none⟩),v] w (A7 Z w t (Aqa T l)):=by
 obtain⟨P,h⟩:=h
 have hn:=Ajd l 0
 have A6:T.c.row<512:=by have:=ok.row;have:=ok.fit.G8;omega
 have F5:T.c.col<512:=by have:=ok.col;have:=ok.fit.c5;omega
 have c8:=fun k:Eqt.Ext w=>(h.below k.below).c8
 have c9:=fun k:Eqt.Ext w=>(h.below k.below).c9
 have c20:=fun k:Eqt.Ext w=>(h.below k.below).c20
 have hc:=J0 (fun k:Eqt.Ext w=>Aek (hp.below k.below))
 have ha:=J0 (fun k:Eqt.Ext w=>Bhh (h.below k.below) ok (A5 l 0) (by omega))
 have hd:=J0 (fun k:Eqt.Ext w=>Aue (h.below k.below) ok (A5 l 0) (by omega))
 have hk:=J0 (fun k:Eqt.Ext w=>Atk (h.below k.below) ok (A5 l 0) (by omega))
 have hx:=J0 (fun k:Eqt.Ext w=>Tbs.Anf (h.below k.below).V3 (by have:=ok.tn;have:=ok.fit.c1;omega) (by have:=ok.tn;have:=ok.fit.c5;omega) T.c.col (A5 l 0) (h.tbl.below k.below).tbs)
 have hy:=J0 (fun k:Eqt.Ext w=>Tbs.Cgv (h.below k.below).V3 (by have:=ok.tn;have:=ok.fit.c1;omega) (by have:=ok.tn;have:=ok.fit.c5;omega) T.c.col (A5 l 0) (h.tbl.below k.below).tbs)
 have m0:Hid (∀w1,Below w.heap.size w w1->Calls _ _ _ _ (A7 Z w1 t (goUp T l))):=J0 (fun w1 hb=>V5 (h.below hb).tm ok hj (Ajv T (A5 l 0)) T.c.col)
 have m1:Hid (∀w1,Below w.heap.size w w1->Calls _ _ _ _ (A7 Z w1 t (goDown T l))):=J0 (fun w1 hb=>V5 (h.below hb).tm ok hj (below T (A5 l 0)) T.c.col)
 have m2:Hid (∀w1,Below w.heap.size w w1->Calls _ _ _ _ (A7 Z w1 t (Asb T l))):=J0 (fun w1 hb=>V5 (h.below hb).tm ok hj T.c.row ((T.c.col:Int)+A5 l 0))
 have m3:Hid (∀w1,Below w.heap.size w w1->Calls _ _ _ _ (A7 Z w1 t (Aqt T l))):=J0 (fun w1 hb=>V5 (h.below hb).tm ok hj T.c.row ((T.c.col:Int)-A5 l 0))
 have m4:Hid (∀w1,Below w.heap.size w w1->Calls _ _ _ _ (A7 Z w1 t (Aoh T l))):=J0 (fun w1 hb=>V5 (h.below hb).tm ok hj T.c.row (A5 l 0-1))
 have m5:Hid (∀w1,Below w.heap.size w w1->Calls _ _ _ _ (A7 Z w1 t (Ars T l))):=J0 (fun w1 hb=>V5 (h.below hb).tm ok hj (N4 T (A5 l 0)) T.c.col)
 have m6:Hid (∀w1,Below w.heap.size w w1->Calls _ _ _ _ (A7 Z w1 t (Aqz T l))):=J0 (fun w1 hb=>V5 (h.below hb).tm ok hj T.c.row (Tbs.X8 T.tn T.tf T.c.col (A5 l 0)))
 have m7:Hid (∀w1,Below w.heap.size w w1->Calls _ _ _ _ (A7 Z w1 t (Aqa T l))):=J0 (fun w1 hb=>V5 (h.below hb).tm ok hj T.c.row (Tbs.Arn T.tn T.tf T.c.col (A5 l 0)))
 generalize goUp T l=T0 at m0 |-
 generalize goDown T l=T1 at m1 |-
 generalize Asb T l=T2 at m2 |-
 generalize Aqt T l=T3 at m3 |-
 generalize Aoh T l=T4 at m4 |-
 generalize Ars T l=T5 at m5 |-
 generalize Aqz T l=T6 at m6 |-
 generalize Aqa T l=T7 at m7 |-
 generalize Ajv T (A5 l 0)=ya at ha m0
 generalize below T (A5 l 0)=yb at hd m1
 generalize N4 T (A5 l 0)=yc at hk m5
 generalize Tbs.X8 T.tn T.tf T.c.col (A5 l 0)=yn at hx m6
 generalize Tbs.Arn T.tn T.tf T.c.col (A5 l 0)=yp at hy m7
 generalize A5 l 0=n at hc ha hd hk hx hy hn m2 m3 m4
 generalize T.c.col=col at c9 hx hy F5 m0 m1 m2 m3 m5
 generalize T.c.row=row at c8 A6 m2 m3 m4 m6 m7
 have hw:IntKind.i64.wrap ((col:Int)+n)=(col:Int)+n:=IntWalk.i64_in _ (by omega)
 have hw1:IntKind.i64.wrap ((col:Int)-n)=(col:Int)-n:=IntWalk.i64_in _ (by omega)
 have hw2:IntKind.i64.wrap (n-1)=n-1:=IntWalk.i64_in _ (by omega)
 clear h ok hj hp A6 F5 hn
 refine⟨?_,?_,?_,?_,?_,?_,?_,?_⟩
 all_goals
  first
   |go_enter func179,ntmps179
   |go_enter func180,ntmps180
   |go_enter func181,ntmps181
   |go_enter func182,ntmps182
   |go_enter func185,ntmps185
   |go_enter func187,ntmps187
   |go_enter func188,ntmps188
   |go_enter func189,ntmps189
  go_wp2
  first
   |(refine Eqt.H4 9 (by kernel_rfl) (by kernel_rfl) ?_;simp only[List.take_succ_cons,List.take_zero,List.drop_succ_cons,List.drop_zero];show wpQuiet _ _ _ (fun _=>∀_,_->wpList _ _ _ [_] _ _) _ _)
   |(refine Eqt.H4 10 (by kernel_rfl) (by kernel_rfl) ?_;simp only[List.take_succ_cons,List.take_zero,List.drop_succ_cons,List.drop_zero];show wpQuiet _ _ _ (fun _=>∀_,_->wpList _ _ _ [_] _ _) _ _)
   |(refine Eqt.H4 14 (by kernel_rfl) (by kernel_rfl) ?_;simp only[List.take_succ_cons,List.take_zero,List.drop_succ_cons,List.drop_zero];show wpQuiet _ _ _ (fun _=>∀_,_->wpList _ _ _ [_] _ _) _ _)
   |(refine Eqt.H4 18 (by kernel_rfl) (by kernel_rfl) ?_;simp only[List.take_succ_cons,List.take_zero,List.drop_succ_cons,List.drop_zero];show wpQuiet _ _ _ (fun _=>∀_,_->wpList _ _ _ [_] _ _) _ _)
  repeat (go_big_quiet_step (first
   |(go_at_call 237;exact Eqt.H7 (hc.out _))
   |(go_at_call 236;exact Eqt.Akp (ha.out _))
   |(go_at_call 238;exact Eqt.Akp (hd.out _))
   |(go_at_call 239;exact Eqt.Akp (hk.out _))
   |(go_at_call 173;exact Eqt.Arp (hx.out _))
   |(go_at_call 240;exact Eqt.Arp (hy.out _))))
  refine wpQuiet_nil ?_
  intro w9 hw9
  obtain⟨k9,rfl⟩:=hw9
  have hb9:=k9.below
  generalize k9.w=w9 at hb9 |-
  go_wp2_with (first
   |(go_at_call 172;(with_reducible refine(m0.out _ hb9).mono ?_);rintro e w5 ⟨⟨v5,rfl⟩,h5,hf5⟩)
   |(go_at_call 172;(with_reducible refine(m1.out _ hb9).mono ?_);rintro e w5 ⟨⟨v5,rfl⟩,h5,hf5⟩)
   |(go_at_call 172;(with_reducible refine(m2.out _ hb9).mono ?_);rintro e w5 ⟨⟨v5,rfl⟩,h5,hf5⟩)
   |(go_at_call 172;(with_reducible refine(m3.out _ hb9).mono ?_);rintro e w5 ⟨⟨v5,rfl⟩,h5,hf5⟩)
   |(go_at_call 172;(with_reducible refine(m4.out _ hb9).mono ?_);rintro e w5 ⟨⟨v5,rfl⟩,h5,hf5⟩)
   |(go_at_call 172;(with_reducible refine(m5.out _ hb9).mono ?_);rintro e w5 ⟨⟨v5,rfl⟩,h5,hf5⟩)
   |(go_at_call 172;(with_reducible refine(m6.out _ hb9).mono ?_);rintro e w5 ⟨⟨v5,rfl⟩,h5,hf5⟩)
   |(go_at_call 172;(with_reducible refine(m7.out _ hb9).mono ?_);rintro e w5 ⟨⟨v5,rfl⟩,h5,hf5⟩))
  go_end0
  exact⟨⟨_,rfl⟩,h5,(I8 hb9).trans hf5⟩
theorem go3(h:TM Z w t T)(ok:Ok T)(hj:T.jr.length<=90000000)(hp:NA Z w v l) :
  Calls prog 183 #[.pointer (some ⟨t,0,none⟩),v] w (A7 Z w t (Aqg T l)) /\
  Calls prog 184 #[.pointer (some ⟨t,0,none⟩),v] w (A7 Z w t (Arh T l)) /\
  Calls prog 186 #[.pointer (some ⟨t,0,none⟩),v] w (A7 Z w t (Anm T l)):=by
 obtain⟨P,h⟩:=h
 have hn:=Ajd l 0
 have A6:T.c.row<512:=by have:=ok.row;have:=ok.fit.G8;omega
 have F5:T.c.col<512:=by have:=ok.col;have:=ok.fit.c5;omega
 have hc:=J0 (Aek hp)
 have hn1:=Ajd l 1
 have hc1:=J0 (fun w1 (hb:Below w.heap.size w w1)=>Bwm (hp.below hb))
 have ha:=J0 (Bhh h ok (A5 l 0) (by omega))
 have hd:=J0 (Aue h ok (A5 l 0) (by omega))
 have hk:=J0 (Atk h ok (A5 l 0) (by omega))
 have m0:Hid (∀w1,Below w.heap.size w w1->Calls _ _ _ _ (A7 Z w1 t (Aqg T l))):=J0 (fun w1 hb=>V5 (h.below hb).tm ok hj (below T (A5 l 0)) 0)
 have m1:Hid (∀w1,Below w.heap.size w w1->Calls _ _ _ _ (A7 Z w1 t (Arh T l))):=J0 (fun w1 hb=>V5 (h.below hb).tm ok hj (Ajv T (A5 l 0)) 0)
 have m2:Hid (∀w1,Below w.heap.size w w1->Calls _ _ _ _ (A7 Z w1 t (Anm T l))):=J0 (fun w1 hb=>V5 (h.below hb).tm ok hj (N4 T (A5 l 0)) (A5 l 1-1))
 generalize Aqg T l=T0 at m0 |-
 generalize Arh T l=T1 at m1 |-
 generalize Anm T l=T2 at m2 |-
 generalize Ajv T (A5 l 0)=ya at ha m1
 generalize below T (A5 l 0)=yb at hd m0
 generalize N4 T (A5 l 0)=yc at hk m2
 generalize A5 l 0=n at hc ha hd hk hn
 generalize A5 l 1=n1 at hc1 hn1 m2
 have hw:IntKind.i64.wrap (n1-1)=n1-1:=IntWalk.i64_in _ (by omega)
 clear h ok hj hp A6 F5 hn hn1
 refine⟨?_,?_,?_⟩
 all_goals
  first
   |go_enter func183,ntmps183
   |go_enter func184,ntmps184
   |go_enter func186,ntmps186
  go_wp2_with (first
   |(go_at_call 237;(with_reducible refine(hc.out).mono ?_);rintro e w1 ⟨rfl,rfl⟩)
   |(go_at_call 236;(with_reducible refine ha.out.mono ?_);rintro e w1 ⟨rfl,q,rfl⟩;have hb9:Below w.heap.size w (w.drewN q):=C7 (Below.refl _ _) q)
   |(go_at_call 238;(with_reducible refine hd.out.mono ?_);rintro e w1 ⟨rfl,q,rfl⟩;have hb9:Below w.heap.size w (w.drewN q):=C7 (Below.refl _ _) q)
   |(go_at_call 239;(with_reducible refine hk.out.mono ?_);rintro e w1 ⟨rfl,q,rfl⟩;have hb9:Below w.heap.size w (w.drewN q):=C7 (Below.refl _ _) q)
   |(go_at_call 237;(with_reducible refine(hc1.out _ hb9).mono ?_);rintro e w2 ⟨rfl,rfl⟩)
   |(go_at_call 172;(with_reducible refine(m0.out _ hb9).mono ?_);rintro e w5 ⟨⟨v5,rfl⟩,h5,hf5⟩)
   |(go_at_call 172;(with_reducible refine(m1.out _ hb9).mono ?_);rintro e w5 ⟨⟨v5,rfl⟩,h5,hf5⟩)
   |(go_at_call 172;(with_reducible refine(m2.out _ hb9).mono ?_);rintro e w5 ⟨⟨v5,rfl⟩,h5,hf5⟩))
  go_end0
  exact⟨⟨_,rfl⟩,h5,(I8 hb9).trans hf5⟩
theorem Bip(h:TM Z w t T)(ok:Ok T)(hj:T.jr.length<=90000000)(hnx:T.nx<=9900000000):Calls prog 136 #[.pointer (some ⟨t,0,none⟩)] w (A7 Z w t (Aii T)):=by
 obtain⟨P,h⟩:=h
 have c8:=h.c8
 have hs:=h.s0
 have hsh:=J0 (I7 h)
 obtain⟨Z1,hf⟩:=h.focus
 have hm:=J0 (Amx hf.sc ok.fit.len)
 unfold Aii
 by_cases hc:T.c.row=T.vis.top
 ·rw[if_pos hc]
  have hd:decide ((T.c.row:Int)=(T.vis.top:Int))=true:=decide_eq_true (by omega)
  have hd2:decide (T.c.row=T.vis.top)=true:=decide_eq_true hc
  have hup:=J0 (fun w1 (hb:Below w.heap.size w w1)=>Bkw (hf.sc.below hb) ok.fit 1 (by show T.nx+512<=10000000000;omega) T.p.a)
  have hbk:=J0 (fun w1 w2 (hb:Below w.heap.size w w1) (hs2:SC Z1 w2 (P.x T.other) P.s (L3 T.vis T.vis.top 1 T.p.a)) (hf2:Scn.Fr Z1 PT w1 w2)=>hf.back w2 _ hs2 rfl rfl ((Scn.Fr.A1 hb).trans hf2))
  have hpl:=J0 (fun w2 (h2:TMx Z w2 t (T.C2 (L3 T.vis T.vis.top 1 T.p.a)) P)=>V5 h2.tm (ok.down ok.fit.top 1 T.p.a) (by rw[V7];exact hj) T.c.row T.c.col)
  have ce:=J0 (fun w1 (hb:Below w.heap.size w w1) (k:Eqt.Ext w1)=>And.intro ((h.below hb).below k.below).s0 (And.intro ((h.below hb).below k.below).c11 (And.intro ((h.below hb).below k.below).c12 ((h.below hb).below k.below).c13)))
  have c2:=J0 (fun w2 (h2:TMx Z w2 t (T.C2 (L3 T.vis T.vis.top 1 T.p.a)) P) (k:Eqt.Ext w2)=>And.intro (Aih T (L3 T.vis T.vis.top 1 T.p.a)▸(h2.below k.below).c8) (Aih T (L3 T.vis T.vis.top 1 T.p.a)▸(h2.below k.below).c9))
  have kp:=J0 (fun w2 w3 (h2:TMx Z w2 t (T.C2 (L3 T.vis T.vis.top 1 T.p.a)) P) (hb:Below w2.heap.size w2 w3)=>h2.below hb)
  generalize T.C2 (L3 T.vis T.vis.top 1 T.p.a)=T1 at hbk hpl c2 kp |-
  generalize L3 T.vis T.vis.top 1 T.p.a=S1 at hup hbk
  generalize P.h T.other=hh at hs hsh ce
  generalize P.x T.other=xx at hs hm hup hbk ce
  generalize T.vis.bot=bot at hm
  generalize T.vis.top=top at hm hd hd2 hc
  subst hc
  generalize T.c.row=row at c8 hd hd2 hm hpl c2 |-
  generalize T.c.col=col at hpl c2 |-
  generalize T.p.a=a at hup ce
  obtain⟨af,ab,ag⟩:=a
  simp only at hup ce
  clear h hf ok
  go_enter func136,ntmps136
  go_wp2_with (first
   |(go_at_call 68;(with_reducible refine(hsh.out).mono ?_);rintro e w1 ⟨rfl,rfl⟩)
   |(go_at_call 69;(with_reducible refine(hm.out).mono ?_);rintro e w1 ⟨rfl,q,rfl⟩))
  have hbq:=C7 (Below.refl w.heap.size w) q
  have k0:=fun k=>(ce.out _ hbq k).1
  have k1:=fun k=>(ce.out _ hbq k).2.1
  have k2:=fun k=>(ce.out _ hbq k).2.2.1
  have k3:=fun k=>(ce.out _ hbq k).2.2.2
  clear c8 hs ce hsh hm
  generalize w.drewN q=wq at hbq k0 k1 k2 k3 |-
  refine Eqt.H4 9 (by kernel_rfl) (by kernel_rfl) ?_
  simp only[List.take_succ_cons,List.take_zero,List.drop_succ_cons,List.drop_zero]
  repeat(go_big_quiet_step(fail))
  refine wpQuiet_nil ?_
  intro w9 hw9
  obtain⟨k9,rfl⟩:=hw9
  have hb9:=k9.below
  generalize k9.w=w9 at hb9 |-
  go_wp2_with (first
   |(go_at_call 177;(with_reducible refine(hup.out _ (A2 hbq hb9)).mono ?_);rintro e w2 ⟨rfl,hs2,hf2⟩))
  obtain⟨h2,hf3⟩:=hbk.out _ _ (A2 hbq hb9) hs2 hf2
  have c8:=fun k=>(c2.out _ h2 k).1
  have c9:=fun k=>(c2.out _ h2 k).2
  have hfr:=(Scn.Fr.A1 (B:=Z) (ts:=TT) (Below.refl w.heap.size w)).trans hf3
  clear k0 k1 k2 k3 hs2 hf2 hbk hup c2 hf3 hb9 hbq
  refine Eqt.H4 11 (by kernel_rfl) (by kernel_rfl) ?_
  simp only[List.take_succ_cons,List.take_zero,List.drop_succ_cons,List.drop_zero]
  repeat(go_big_quiet_step(fail))
  refine wpQuiet_nil ?_
  intro w9 hw9
  obtain⟨k9,rfl⟩:=hw9
  have hb9:=k9.below
  generalize k9.w=w9 at hb9 |-
  go_wp2_with (first
   |(go_at_call 172;(with_reducible refine(hpl.out _ (kp.out _ _ h2 hb9)).mono ?_);rintro e w3 ⟨⟨v3,rfl⟩,h3,hf3⟩))
  go_end0
  exact⟨⟨_,rfl⟩,h3,(hfr.trans (Scn.Fr.A1 hb9)).trans hf3⟩
 ·rw[if_neg hc]
  have hd:decide ((T.c.row:Int)=(T.vis.top:Int))=false:=decide_eq_false (by omega)
  have hd2:decide (T.c.row=T.vis.top)=false:=decide_eq_false hc
  have hw:IntKind.i64.wrap ((T.c.row:Int)-1)=(T.c.row:Int)-1:=IntWalk.i64_in _ (by have:=ok.row;have:=ok.fit.G8;omega)
  have hpl:=J0 (fun w1 (hb:Below w.heap.size w w1)=>V5 (h.below hb).tm ok hj ((T.c.row:Int)-1) T.c.col)
  have ce:=J0 (fun w1 (hb:Below w.heap.size w w1) (k:Eqt.Ext w1)=>And.intro ((h.below hb).below k.below).c8 ((h.below hb).below k.below).c9)
  generalize move T ((T.c.row:Int)-1) T.c.col=T1 at hpl |-
  generalize P.h T.other=hh at hs hsh
  generalize P.x T.other=xx at hs hm
  generalize T.vis.bot=bot at hm
  generalize T.vis.top=top at hm hd hd2 hc
  generalize T.c.row=row at c8 hd hd2 hpl ce hw hc
  generalize T.c.col=col at hpl ce
  clear h hf ok
  go_enter func136,ntmps136
  go_wp2_with (first
   |(go_at_call 68;(with_reducible refine(hsh.out).mono ?_);rintro e w1 ⟨rfl,rfl⟩)
   |(go_at_call 69;(with_reducible refine(hm.out).mono ?_);rintro e w1 ⟨rfl,q,rfl⟩))
  have hbq:=C7 (Below.refl w.heap.size w) q
  have k0:=fun k=>(ce.out _ hbq k).1
  have k1:=fun k=>(ce.out _ hbq k).2
  clear c8 hs ce hsh hm
  generalize w.drewN q=wq at hbq k0 k1 |-
  refine Eqt.H4 12 (by kernel_rfl) (by kernel_rfl) ?_
  simp only[List.take_succ_cons,List.take_zero,List.drop_succ_cons,List.drop_zero]
  repeat(go_big_quiet_step(fail))
  refine wpQuiet_nil ?_
  intro w9 hw9
  obtain⟨k9,rfl⟩:=hw9
  have hb9:=k9.below
  generalize k9.w=w9 at hb9 |-
  go_wp2_with (first
   |(go_at_call 172;(with_reducible refine(hpl.out _ (A2 hbq hb9)).mono ?_);rintro e w3 ⟨⟨v3,rfl⟩,h3,hf3⟩))
  go_end0
  exact⟨⟨_,rfl⟩,h3,(Scn.Fr.A1 (A2 hbq hb9)).trans hf3⟩
end
