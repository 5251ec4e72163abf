/- Part 41 of the proof that the card of EmuAside holds. -/
import Derived.Test.YtkjpjegmanpbfaaGreatDoorPA40
set_option maxHeartbeats 16000000
set_option maxRecDepth 100000
namespace Go.Proofs.YtkjpjegmanpbfaaGreatDoor.Emu
open Go RowKit Com Rw Lns Scn
section
variable {Z:Zn} {w w':World} {t:Nat} {T:Ter} {P:Pt} {rows cols:Nat}
theorem Cg6 (h:TMx Z w t T P) (ok:Ok T) (hr1:1<=rows) (hr5:rows<=512) (hc1:1<=cols) (hc5:cols<=512) (hnx:T.nx<=990000) {w1:World} (hb:Below w.heap.size w w1) :
  Calls Tryz.prog 37 #[.pointer (some ⟨P.x T.other,0,none⟩),.int .i64 rows,.int .i64 cols,.int .i64 T.c.row] w1 fun e w2=>e=.returned (.tuple #[.int .i64 ((Ap4 T.c.row rows:Nat):Int),.int .i64 0])/\TMx Z w2 t (T.putVis (resS T.vis rows cols T.c.row)) P/\Scn.Fr Z TT w w2:=by
 obtain ⟨Z1,hf⟩:=(h.below hb).focus
 refine (Scn.res_yes hf.sc ok.fit rows cols T.c.row hr1 hr5 hc1 hc5 ok.row (by have:T.vis.nx=T.nx:=rfl;omega)).mono fun e w2 ⟨he,hS,hfr⟩=>⟨he,?_⟩
 obtain ⟨_,_,hm,hk,_⟩:=Ap8 T.vis rows cols T.c.row
 obtain ⟨q1,q2⟩:=hf.back w2 _ hS hm hk hfr
 exact ⟨q1,(Aa8 hb).trans q2⟩
theorem res_main {o:Sh} (h:TMx Z w t T P) (hoo:T.other=some o) (hF:Fit T.mscr) (hr1:1<=rows) (hr5:rows<=512) (hc1:1<=cols) (hc5:cols<=512) (hnx:T.nx<=999000) {y:Nat} (hy:y<T.main.L.length) {w1:World} (hb:Below w.heap.size w w1) :
  Calls Tryz.prog 37 #[.pointer (some ⟨P.xm,0,none⟩),.int .i64 rows,.int .i64 cols,.int .i64 y] w1 fun e w2=>e=.returned (.tuple #[.int .i64 ((Ap4 y rows:Nat):Int),.int .i64 0]) /\
   TMx Z w2 t { T with nx:=(resS T.mscr rows cols y).nx,R:=(resS T.mscr rows cols y).R,main:=T.main.of (resS T.mscr rows cols y) } P/\Scn.Fr Z TT w w2:=by
 obtain ⟨Z1,_,hS,hback⟩:=(h.below hb).focusMain hoo
 refine (Scn.res_yes hS hF rows cols y hr1 hr5 hc1 hc5 hy (by have:T.mscr.nx=T.nx:=rfl;omega)).mono fun e w2 ⟨he,hS2,hfr⟩=>⟨he,?_⟩
 obtain ⟨_,_,hm,hk,_⟩:=Ap8 T.mscr rows cols y
 obtain ⟨q1,q2⟩:=hback w2 _ hS2 hm hk hfr
 exact ⟨q1,(Aa8 hb).trans q2⟩
theorem Bg0 {T2:Ter} {w2 w5:World} (hS:Szd T T2 rows cols) (hr1:1<=rows) (hc1:1<=cols) (hj:T.jr.length<=90000) (h:TMx Z w5 t { T2 with main:=T2.main.hold,tf:=Tbs.resizeF T.tn cols T.tf,tn:=cols } P) (r c:Int) (_:Below w2.heap.size w2 w5) :
  Calls Tryz.prog 40 #[.pointer (some ⟨t,0,none⟩),.int .i64 r,.int .i64 c] w5 (Does Z w5 t (move { T2 with main:=T2.main.hold,tf:=Tbs.resizeF T.tn cols T.tf,tn:=cols } r c)):=by
 obtain ⟨q1,q2⟩:=hS.ok hr1 hc1 (Tbs.resizeF T.tn cols T.tf) r c
 exact Bw6 h.tm q2 (by show T2.jr.length<=90000;rw [hS.jr];exact hj) r c q1
theorem resize_none (h:TMx Z w t T P) (ok:Ok T) (hoo:T.other=none) (hr1:1<=rows) (hr5:rows<=512) (hc1:1<=cols) (hc5:cols<=512) (hnx:T.nx<=990000) (hj:T.jr.length<=90000):Calls Tryz.prog 26 #[.pointer (some ⟨t,0,none⟩),.int .i64 rows,.int .i64 cols] w fun e w'=>e=.returned (.int .i64 0)/\TM Z w' t (Ae3 T rows cols)/\Scn.Fr Z TT w w':=by
 have c8:=fun k:Eqt.Ext w=>(h.below k.below).c8
 have s0:=fun k:Eqt.Ext w=>(h.below k.below).s0
 have hsh:=J0 (fun k:Eqt.Ext w=>Aa9 (h.below k.below))
 have hrs:Hid (∀ w1,Below w.heap.size w w1->Calls Tryz.prog 37 #[.pointer (some ⟨P.x T.other,0,none⟩),.int .i64 rows,.int .i64 cols,.int .i64 T.c.row] w1 fun e w2=>e=.returned (.tuple #[.int .i64 ((Ap4 T.c.row rows:Nat):Int),.int .i64 0])/\TMx Z w2 t (T.putVis (resS T.vis rows cols T.c.row)) P/\Scn.Fr Z TT w w2):=J0 fun w1 hb=>Cg6 h ok hr1 hr5 hc1 hc5 hnx hb
 have hS:=By5 ok hoo hr1 hr5 hc1 hc5
 have htf:(T.putVis (resS T.vis rows cols T.c.row)).tf=T.tf:=by unfold Ter.putVis;rw [hoo]
 have htn:(T.putVis (resS T.vis rows cols T.c.row)).tn=T.tn:=hS.tn
 have hcc:(T.putVis (resS T.vis rows cols T.c.row)).c=T.c:=by unfold Ter.putVis;rw [hoo]
 have hot:(T.putVis (resS T.vis rows cols T.c.row)).other=none:=by unfold Ter.putVis;rw [hoo]
 have hend:Ae3 T rows cols=move { (T.putVis (resS T.vis rows cols T.c.row)) with main:=(T.putVis (resS T.vis rows cols T.c.row)).main.hold,tf:=Tbs.resizeF T.tn cols T.tf,tn:=cols } (Ap4 T.c.row rows) T.c.col:=by
  unfold Ae3
  simp only [hoo,Option.isSome_none,Bool.false_eq_true,if_false]
 rw [hend]
 have htn1:1<=T.tn:=by rw [ok.tn];exact ok.fit.c1
 have htn5:T.tn<=512:=by rw [ok.tn];exact ok.fit.c5
 generalize T.putVis (resS T.vis rows cols T.c.row)=T1 at hrs hS htf htn hcc hot
 have hho:=J0 (fun w1 (h1:TMx Z w1 t T1 P)=>Bo1 h1 hS.fitm)
 have htb:Hid (∀ w1 (h1:TMx Z w1 t { T1 with main:=T1.main.hold } P),Calls Tryz.prog 39 #[.pointer (some ⟨P.tb,0,none⟩),.int .i64 cols] w1 fun e w2=>e=.returned (.int .i64 0)/\TMx Z w2 t { T1 with main:=T1.main.hold,tf:=Tbs.resizeF T.tn cols T.tf,tn:=cols } P/\Scn.Fr Z TT w1 w2):=J0 fun w1 h1=>by
  have ht:=h1.tabs
  rw [show ({ T1 with main:=T1.main.hold }:Ter).tn=T.tn from htn,show ({ T1 with main:=T1.main.hold }:Ter).tf=T.tf from htf] at ht
  refine (Tbs.resize_any ht htn1 htn5 cols hc1 hc5).mono fun e w2 ⟨he,ht2,ho⟩=>⟨he,?_⟩
  exact h1.tabbed ho ht2
 have hmv:=J0 (fun w5 (h5:TMx Z w5 t { T1 with main:=T1.main.hold,tf:=Tbs.resizeF T.tn cols T.tf,tn:=cols } P) (r c:Int)=>Bg0 (w2:=w5) hS hr1 hc1 hj h5 r c (Below.refl _ _))
 have k18:=fun w1 (h1:TMx Z w1 t T1 P)=>h1.c18
 have k19:=fun w1 (h1:TMx Z w1 t T1 P)=>h1.c19
 have k20:=fun w1 (h1:TMx Z w1 t { T1 with main:=T1.main.hold } P)=>h1.c20
 have m9:∀ w1 (h1:TMx Z w1 t { T1 with main:=T1.main.hold,tf:=Tbs.resizeF T.tn cols T.tf,tn:=cols } P),w1.cell? ⟨t,9,none⟩=some (.int .i64 T.c.col):=fun w1 h1=>by
  have:=h1.c9
  rw [show ({ T1 with main:=T1.main.hold,tf:=Tbs.resizeF T.tn cols T.tf,tn:=cols }:Ter).c=T.c from hcc] at this
  exact this
 rw [hot,show optP none P.ho=.pointer none from rfl] at k19
 generalize ({ T1 with main:=T1.main.hold,tf:=Tbs.resizeF T.tn cols T.tf,tn:=cols }:Ter)=T5 at htb hmv m9 |-
 generalize ({ T1 with main:=T1.main.hold }:Ter)=T4 at hho htb k20
 replace k18:=J0 k18
 replace k19:=J0 k19
 replace k20:=J0 k20
 replace m9:=J0 m9
 generalize P.h T.other=hh at s0 hsh
 generalize P.x T.other=xx at s0 hrs
 generalize Ap4 T.c.row rows=now at hrs
 generalize T.c.row=row at c8 hrs
 generalize T.c.col=col at m9
 clear h ok hS hend hoo hot hcc
 go_enter Tryz.func26,Tryz.ntmps26
 go_wp2
 refine Eqt.region_ext_any 12 #[true,true,true,true,true,true,true,true,true,true,true,true,false,false,false,false,false,false] (by kernel_rfl) (by kernel_rfl) ?_
 simp only [List.take_succ_cons,List.take_zero]
 repeat (go_big_quiet_step (first
  |(go_at_call 36;exact Eqt.q_ext_same (hsh.out _))))
 refine wpQuiet_nil ?_
 intro w9 hw9
 obtain ⟨k9,rfl⟩:=hw9
 have hb9:=k9.below
 generalize k9.w=w9 at hb9 |-
 refine wpAny_ready (rs:=[12]) (by kernel_rfl) (by simp) ?_
 refine AllReady.cons (o:=⟨some 22,.call _,_,_,_,_⟩) rfl (fun K hK=>?_) AllReady.nil
 go_simp
 go_at_call 37
 with_reducible refine (hrs.out _ hb9).mono ?_
 rintro e w1 ⟨rfl,hD1⟩
 refine hK _ _ ?_
 clear hK K
 refine wpAny_take (i:=13) (oi:=⟨some 9,_,_,_,_,_⟩) (v:=.tuple #[.int .i64 now,.int .i64 0]) rfl (by kernel_rfl) (by kernel_rfl) (by kernel_rfl) (fun _ _ _ h=>h) (.inl ⟨by rfl,by intro w;go_simp⟩) ?_
 refine wpAny_take (i:=14) (oi:=⟨some 23,_,_,_,_,_⟩) (v:=.int .i64 now) rfl (by kernel_rfl) (by kernel_rfl) (by kernel_rfl) (fun _ _ _ h=>h) (.inl ⟨by rfl,by intro w;go_simp⟩) ?_
 refine wpAny_take (i:=15) (oi:=⟨some 24,_,_,_,_,_⟩) (v:=.int .i64 0) rfl (by kernel_rfl) (by kernel_rfl) (by kernel_rfl) (fun _ _ _ h=>h) (.inl ⟨by rfl,by intro w;go_simp⟩) ?_
 refine wpAny_take (i:=16) (oi:=⟨some 7,_,_,_,_,_⟩) (v:=.int .i64 now) rfl (by kernel_rfl) (by kernel_rfl) (by kernel_rfl) (fun _ _ _ h=>h) (.inl ⟨by rfl,by intro w;go_simp⟩) ?_
 refine wpAny_take (i:=17) (oi:=⟨some 8,_,_,_,_,_⟩) (v:=.int .i64 0) rfl (by kernel_rfl) (by kernel_rfl) (by kernel_rfl) (fun _ _ _ h=>h) (.inl ⟨by rfl,by intro w;go_simp⟩) ?_
 refine wpAny_done (by kernel_rfl) ?_ _
 dsimp only [Act.put]
 obtain ⟨h1,hf1⟩:=hD1
 have d18:=k18.out _ h1
 have d19:=k19.out _ h1
 clear hb9 hsh hrs c8 s0
 go_wp2_with (first
  |(go_at_call 38;(with_reducible refine (hho.out _ h1).mono ?_);rintro e w2 ⟨⟨v2,rfl⟩,h2,hf2⟩;have d20:=k20.out _ h2)
  |(go_at_call 39;(with_reducible refine (htb.out _ h2).mono ?_);rintro e w3 ⟨rfl,h3,hf3⟩;have d9:=m9.out _ h3)
  |(go_at_call 40;(with_reducible refine (hmv.out _ h3 _ _).mono ?_);rintro e w4 ⟨⟨v4,rfl⟩,h4,hf4⟩))
 go_ret
 exact ⟨rfl,h4,((hf1.trans hf2).trans hf3).trans hf4⟩
theorem resize_some {o:Sh} (h:TMx Z w t T P) (ok:Ok T) (hoo:T.other=some o) (hr1:1<=rows) (hr5:rows<=512) (hc1:1<=cols) (hc5:cols<=512) (hnx:T.nx<=990000) (hj:T.jr.length<=90000):Calls Tryz.prog 26 #[.pointer (some ⟨t,0,none⟩),.int .i64 rows,.int .i64 cols] w fun e w'=>e=.returned (.int .i64 0)/\TM Z w' t (Ae3 T rows cols)/\Scn.Fr Z TT w w':=by
 have c8:=fun k:Eqt.Ext w=>(h.below k.below).c8
 have s0:=fun k:Eqt.Ext w=>(h.below k.below).s0
 have hsh:=J0 (fun k:Eqt.Ext w=>Aa9 (h.below k.below))
 have hrs:Hid (∀ w1,Below w.heap.size w w1->Calls Tryz.prog 37 #[.pointer (some ⟨P.x T.other,0,none⟩),.int .i64 rows,.int .i64 cols,.int .i64 T.c.row] w1 fun e w2=>e=.returned (.tuple #[.int .i64 ((Ap4 T.c.row rows:Nat):Int),.int .i64 0])/\TMx Z w2 t (T.putVis (resS T.vis rows cols T.c.row)) P/\Scn.Fr Z TT w w2):=J0 fun w1 hb=>Cg6 h ok hr1 hr5 hc1 hc5 hnx hb
 obtain ⟨hfm,hma,hot,hn1,hF1,hS⟩:=By6 ok hoo hr1 hr5 hc1 hc5
 have hnx1:(T.putVis (resS T.vis rows cols T.c.row)).nx<=999000:=by
  rw [hn1]
  have:=(Ap8 T.vis rows cols T.c.row).2.1
  have h2:T.vis.nx=T.nx:=rfl
  omega
 have hput:∀ S,(T.putVis S).tf=T.tf/\(T.putVis S).c=T.c:=fun S=>by unfold Ter.putVis;rw [hoo];exact ⟨rfl,rfl⟩
 obtain ⟨htf0,hcc0⟩:=hput (resS T.vis rows cols T.c.row)
 have hv1:(T.putVis (resS T.vis rows cols T.c.row)).vis=resS T.vis rows cols T.c.row:=by
  have hm:(resS T.vis rows cols T.c.row).most=T.most:=rfl
  have hk:(resS T.vis rows cols T.c.row).kp=false:=by show T.other.isNone=false;rw [hoo];rfl
  generalize resS T.vis rows cols T.c.row=S at hm hk
  obtain ⟨nx,most,kp,co,top,bot,L,R⟩:=S
  simp only at hm hk
  subst hm hk
  unfold Ter.putVis
  simp only [hoo]
  rfl
 have hend:Ae3 T rows cols=move { (Ai7 (T.putVis (resS T.vis rows cols T.c.row)) rows cols) with main:=(Ai7 (T.putVis (resS T.vis rows cols T.c.row)) rows cols).main.hold,tf:=Tbs.resizeF T.tn cols T.tf,tn:=cols } (Ap4 T.c.row rows) T.c.col:=by
  unfold Ae3
  simp only [hoo,Option.isSome_some,if_true]
 rw [hend]
 have htn1:1<=T.tn:=by rw [ok.tn];exact ok.fit.c1
 have htn5:T.tn<=512:=by rw [ok.tn];exact ok.fit.c5
 have hsv:T.main.sv.c.row<T.main.L.length:=ok.svm.1
 rw [<- hma] at hsv
 generalize hS0:resS T.vis rows cols T.c.row=S0 at hF1 hot hv1
 rw [hS0] at hrs hfm hma hS hnx1 htf0 hcc0 hsv
 generalize T.putVis S0=T1 at hrs hfm hma hot hS hnx1 htf0 hcc0 hv1 hend hsv |-
 obtain ⟨G,hG⟩:∃ G,G=resS T1.mscr rows cols T1.main.sv.c.row:=⟨_,rfl⟩
 obtain ⟨Ta,hTa⟩:∃ Ta:Ter,Ta={ T1 with nx:=G.nx,R:=G.R,main:=T1.main.of G }:=⟨_,rfl⟩
 obtain ⟨Tb,hTb⟩:∃ Tb:Ter,Tb={ Ta with main:={ Ta.main with sv:={ Ta.main.sv with c:={ Ta.main.sv.c with row:=Ap4 T1.main.sv.c.row rows } } } }:=⟨_,rfl⟩
 have hob:Tb.other=some (o.of S0):=by rw [hTb,hTa];exact hot
 have hTc:Ai7 T1 rows cols={ Tb with other:=some (o.of S0).hold }:=by
  rw [hTb,hTa,hG]
  unfold Ai7
  rw [hot]
  rfl
 have htfc:(Ai7 T1 rows cols).tf=T.tf:=htf0
 have hccc:(Ai7 T1 rows cols).c=T.c:=hcc0
 have hrm:Hid (∀ w1 (h1:TMx Z w1 t T1 P),Calls Tryz.prog 37 #[.pointer (some ⟨P.xm,0,none⟩),.int .i64 rows,.int .i64 cols,.int .i64 T1.main.sv.c.row] w1.drew fun e w2=>e=.returned (.tuple #[.int .i64 ((Ap4 T1.main.sv.c.row rows:Nat):Int),.int .i64 0])/\TMx Z w2 t Ta P/\Scn.Fr Z TT w1 w2):=J0 fun w1 h1=>by
  rw [hTa,hG]
  exact res_main h1 hot hfm hr1 hr5 hc1 hc5 hnx1 hsv (Aa4 (Below.refl _ _) 1)
 have hmb:Ta.main.sv=T1.main.sv:=by rw [hTa];rfl
 have hra:Hid (∀ w2 (h2:TMx Z w2 t Ta P),(w2.cell? ⟨t,18,none⟩=some (.pointer (some ⟨P.hm,0,none⟩))/\w2.cell? ⟨P.hm,0,none⟩=some (.pointer (some ⟨P.xm,0,none⟩)))/\w2.cell? ⟨P.hm,1,none⟩=some (.int .i64 T1.main.sv.c.row)):=J0 fun w2 h2=>⟨⟨h2.c18,h2.main.cell 0 rfl⟩,by rw [<- hmb];exact h2.main.cell 1 rfl⟩
 have hrc:Hid (∀ w2 (h2:TMx Z w2 t T1 P),(w2.cell? ⟨t,18,none⟩=some (.pointer (some ⟨P.hm,0,none⟩))/\w2.cell? ⟨P.hm,0,none⟩=some (.pointer (some ⟨P.xm,0,none⟩)))/\w2.cell? ⟨P.hm,1,none⟩=some (.int .i64 T1.main.sv.c.row)):=J0 fun w2 h2=>⟨⟨h2.c18,h2.main.cell 0 rfl⟩,h2.main.cell 1 rfl⟩
 have hst:Hid (∀ w2 (h2:TMx Z w2 t Ta P),(w2.cell? ⟨P.hm,1,none⟩=some (.int .i64 T1.main.sv.c.row)/\w2.frozen? ⟨P.hm,1,none⟩=false)/\TMx Z (w2.setCell ⟨P.hm,1,none⟩ (.int .i64 ((Ap4 T1.main.sv.c.row rows:Nat):Int))) t Tb P/\Scn.Fr Z TT w2 (w2.setCell ⟨P.hm,1,none⟩ (.int .i64 ((Ap4 T1.main.sv.c.row rows:Nat):Int)))):=J0 fun w2 h2=>by
  refine ⟨⟨(hra.out _ h2).2,h2.main.free 1⟩,?_⟩
  rw [hTb]
  exact h2.savedMain (sv:={ Ta.main.sv with c:={ Ta.main.sv.c with row:=Ap4 T1.main.sv.c.row rows } }) (Only.setCell w2 ⟨P.hm,1,none⟩ _) (h2.main.set 1 _)
 have hfb:Fit Tb.vis:=by
  have h1:=hS.fit
  rw [hTc] at h1
  have e:({ Tb with other:=some (o.of S0).hold }:Ter).vis=Tb.vis:=by unfold Ter.vis Ter.sh;simp only [hob];rfl
  rw [e] at h1
  exact h1
 have hhb:Hid (∀ w3 (h3:TMx Z w3 t Tb P),Calls Tryz.prog 38 #[.pointer (some ⟨P.ho,0,none⟩)] w3 fun e w4=>(∃ v,e=.returned v)/\TMx Z w4 t (Ai7 T1 rows cols) P/\Scn.Fr Z TT w3 w4):=J0 fun w3 h3=>by
  rw [hTc]
  exact hold_other h3 hob hfb
 have j18:=J0 (fun w3 (h3:TMx Z w3 t Tb P)=>h3.c18)
 have j19:Hid (∀ w3 (h3:TMx Z w3 t Tb P),w3.cell? ⟨t,19,none⟩=some (.pointer (some ⟨P.ho,0,none⟩))):=J0 fun w3 h3=>by
  have:=h3.c19
  rw [hob] at this
  exact this
 have l19:Hid (∀ w3 (h3:TMx Z w3 t T1 P),w3.cell? ⟨t,19,none⟩=some (.pointer (some ⟨P.ho,0,none⟩))):=J0 fun w3 h3=>by
  have:=h3.c19
  rw [hot] at this
  exact this
 generalize T1.main.sv.c.row=y at hrm hra hrc hst
 generalize Ap4 y rows=now2 at hrm hst
 clear hS0 hTa hTb hG hmb hfb hma hsv hF1 hv1 hend
 generalize Ai7 T1 rows cols=T2 at hS hhb htfc hccc hTc |-
 clear hTc hob
 have htn:T2.tn=T.tn:=hS.tn
 have hho:=J0 (fun w1 (h1:TMx Z w1 t T2 P)=>Bo1 h1 hS.fitm)
 have htb:Hid (∀ w1 (h1:TMx Z w1 t { T2 with main:=T2.main.hold } P),Calls Tryz.prog 39 #[.pointer (some ⟨P.tb,0,none⟩),.int .i64 cols] w1 fun e w2=>e=.returned (.int .i64 0)/\TMx Z w2 t { T2 with main:=T2.main.hold,tf:=Tbs.resizeF T.tn cols T.tf,tn:=cols } P/\Scn.Fr Z TT w1 w2):=J0 fun w1 h1=>by
  have ht:=h1.tabs
  rw [show ({ T2 with main:=T2.main.hold }:Ter).tn=T.tn from htn,show ({ T2 with main:=T2.main.hold }:Ter).tf=T.tf from htfc] at ht
  refine (Tbs.resize_any ht htn1 htn5 cols hc1 hc5).mono fun e w2 ⟨he,ht2,ho⟩=>⟨he,?_⟩
  exact h1.tabbed ho ht2
 have hmv:=J0 (fun w5 (h5:TMx Z w5 t { T2 with main:=T2.main.hold,tf:=Tbs.resizeF T.tn cols T.tf,tn:=cols } P) (r c:Int)=>Bg0 (w2:=w5) hS hr1 hc1 hj h5 r c (Below.refl _ _))
 have k18:=fun w1 (h1:TMx Z w1 t T2 P)=>h1.c18
 have k20:=fun w1 (h1:TMx Z w1 t { T2 with main:=T2.main.hold } P)=>h1.c20
 have m9:∀ w1 (h1:TMx Z w1 t { T2 with main:=T2.main.hold,tf:=Tbs.resizeF T.tn cols T.tf,tn:=cols } P),w1.cell? ⟨t,9,none⟩=some (.int .i64 T.c.col):=fun w1 h1=>by
  have:=h1.c9
  rw [show ({ T2 with main:=T2.main.hold,tf:=Tbs.resizeF T.tn cols T.tf,tn:=cols }:Ter).c=T.c from hccc] at this
  exact this
 generalize ({ T2 with main:=T2.main.hold,tf:=Tbs.resizeF T.tn cols T.tf,tn:=cols }:Ter)=T5 at htb hmv m9 |-
 generalize ({ T2 with main:=T2.main.hold }:Ter)=T4 at hho htb k20
 replace k18:=J0 k18
 replace k20:=J0 k20
 replace m9:=J0 m9
 generalize P.h T.other=hh at s0 hsh
 generalize P.x T.other=xx at s0 hrs
 generalize Ap4 T.c.row rows=now at hrs
 generalize T.c.row=row at c8 hrs
 generalize T.c.col=col at m9
 generalize P.hm=hm at *
 generalize P.xm=xm at *
 clear h ok hS hoo hot hcc0 htf0 hccc htfc htn hput hfm hn1
 go_enter Tryz.func26,Tryz.ntmps26
 go_wp2
 refine Eqt.region_ext_any 12 #[true,true,true,true,true,true,true,true,true,true,true,true,false,false,false,false,false,false] (by kernel_rfl) (by kernel_rfl) ?_
 simp only [List.take_succ_cons,List.take_zero]
 repeat (go_big_quiet_step (first
  |(go_at_call 36;exact Eqt.q_ext_same (hsh.out _))))
 refine wpQuiet_nil ?_
 intro w9 hw9
 obtain ⟨k9,rfl⟩:=hw9
 have hb9:=k9.below
 generalize k9.w=w9 at hb9 |-
 refine wpAny_ready (rs:=[12]) (by kernel_rfl) (by simp) ?_
 refine AllReady.cons (o:=⟨some 22,.call _,_,_,_,_⟩) rfl (fun K hK=>?_) AllReady.nil
 go_simp
 go_at_call 37
 with_reducible refine (hrs.out _ hb9).mono ?_
 rintro e w1 ⟨rfl,hD1⟩
 refine hK _ _ ?_
 clear hK K
 refine wpAny_take (i:=13) (oi:=⟨some 9,_,_,_,_,_⟩) (v:=.tuple #[.int .i64 now,.int .i64 0]) rfl (by kernel_rfl) (by kernel_rfl) (by kernel_rfl) (fun _ _ _ h=>h) (.inl ⟨by rfl,by intro w;go_simp⟩) ?_
 refine wpAny_take (i:=14) (oi:=⟨some 23,_,_,_,_,_⟩) (v:=.int .i64 now) rfl (by kernel_rfl) (by kernel_rfl) (by kernel_rfl) (fun _ _ _ h=>h) (.inl ⟨by rfl,by intro w;go_simp⟩) ?_
 refine wpAny_take (i:=15) (oi:=⟨some 24,_,_,_,_,_⟩) (v:=.int .i64 0) rfl (by kernel_rfl) (by kernel_rfl) (by kernel_rfl) (fun _ _ _ h=>h) (.inl ⟨by rfl,by intro w;go_simp⟩) ?_
 refine wpAny_take (i:=16) (oi:=⟨some 7,_,_,_,_,_⟩) (v:=.int .i64 now) rfl (by kernel_rfl) (by kernel_rfl) (by kernel_rfl) (fun _ _ _ h=>h) (.inl ⟨by rfl,by intro w;go_simp⟩) ?_
 refine wpAny_take (i:=17) (oi:=⟨some 8,_,_,_,_,_⟩) (v:=.int .i64 0) rfl (by kernel_rfl) (by kernel_rfl) (by kernel_rfl) (fun _ _ _ h=>h) (.inl ⟨by rfl,by intro w;go_simp⟩) ?_
 refine wpAny_done (by kernel_rfl) ?_ _
 dsimp only [Act.put]
 obtain ⟨h1,hf1⟩:=hD1
 have d19:=l19.out _ h1
 clear hb9 hsh hrs c8 s0
 go_upto_region 5 with (fail)
 clear d19
 refine Eqt.region_until (fun w'=>(w'.cell? ⟨t,18,none⟩=some (.pointer (some ⟨hm,0,none⟩))/\w'.cell? ⟨hm,0,none⟩=some (.pointer (some ⟨xm,0,none⟩)))/\w'.cell? ⟨hm,1,none⟩=some (.int .i64 y)) (by kernel_rfl) ?_
 have hH:_:=hrc.out _ (h1.drew 1)
 refine Eqt.K2 0 ⟨some 34,_,_,_,_,_⟩ ?_ rfl (Or.inl ⟨by rfl,?_⟩) (fun _=>hH) ?_
 rotate_left 1
 ·(intro w;go_simp)<;>with_reducible rfl
 try simp only [Act.put,J1,J2,J3]
 refine Eqt.K2 1 ⟨some 35,_,_,_,_,_⟩ ?_ rfl (Or.inl ⟨by rfl,?_⟩) (fun _=>hH) ?_
 rotate_left 1
 ·(intro w;go_simp)<;>with_reducible rfl
 try simp only [Act.put,J1,J2,J3]
 refine Eqt.K2 2 ⟨some 36,_,_,_,_,_⟩ ?_ rfl (Or.inl ⟨by rfl,?_⟩) (fun _=>hH) ?_
 rotate_left 1
 ·(intro w;go_simp)<;>with_reducible rfl
 try simp only [Act.put,J1,J2,J3]
 refine Eqt.K2 4 ⟨some 38,_,_,_,_,_⟩ ?_ rfl (Or.inl ⟨by rfl,?_⟩) (fun _=>hH) ?_
 rotate_left 1
 ·(intro w;go_simp)<;>with_reducible rfl
 try simp only [Act.put,J1,J2,J3]
 refine Eqt.K2 5 ⟨some 39,_,_,_,_,_⟩ ?_ rfl (Or.inl ⟨by rfl,?_⟩) (fun _=>hH) ?_
 rotate_left 1
 ·(intro w;go_simp)<;>with_reducible rfl
 try simp only [Act.put,J1,J2,J3]
 refine Eqt.K2 6 ⟨some 40,_,_,_,_,_⟩ ?_ rfl (Or.inl ⟨by rfl,?_⟩) (fun _=>hH) ?_
 rotate_left 1
 ·(intro w;go_simp)<;>with_reducible rfl
 try simp only [Act.put,J1,J2,J3]
 refine Eqt.K2 11 ⟨some 45,_,_,_,_,_⟩ ?_ rfl (Or.inl ⟨by rfl,?_⟩) (fun _=>hH) ?_
 rotate_left 1
 ·(intro w;go_simp)<;>with_reducible rfl
 try simp only [Act.put,J1,J2,J3]
 refine Eqt.K2 12 ⟨some 46,_,_,_,_,_⟩ ?_ rfl (Or.inl ⟨by rfl,?_⟩) (fun _=>hH) ?_
 rotate_left 1
 ·(intro w;go_simp)<;>with_reducible rfl
 try simp only [Act.put,J1,J2,J3]
 refine Eqt.K2 13 ⟨some 47,_,_,_,_,_⟩ ?_ rfl (Or.inl ⟨by rfl,?_⟩) (fun _=>hH) ?_
 rotate_left 1
 ·(intro w;go_simp)<;>with_reducible rfl
 try simp only [Act.put,J1,J2,J3]
 refine Eqt.K2 14 ⟨some 48,_,_,_,_,_⟩ ?_ rfl (Or.inl ⟨by rfl,?_⟩) (fun _=>hH) ?_
 rotate_left 1
 ·(intro w;go_simp)<;>with_reducible rfl
 try simp only [Act.put,J1,J2,J3]
 refine Eqt.K2 15 ⟨some 49,_,_,_,_,_⟩ ?_ rfl (Or.inl ⟨by rfl,?_⟩) (fun _=>hH) ?_
 rotate_left 1
 ·(intro w;go_simp)<;>with_reducible rfl
 try simp only [Act.put,J1,J2,J3]
 refine Eqt.K1 3 ⟨some 37,_,_,_,_,_⟩ ?_ rfl (Or.inl ⟨by rfl,?_⟩) hH ?_
 rotate_left 1
 ·(intro w hSw;obtain ⟨⟨r1,r2⟩,r3⟩:=hSw;go_simp)<;>with_reducible rfl
 try simp only [Act.put,J1,J2,J3]
 refine Eqt.K1 7 ⟨some 41,_,_,_,_,_⟩ ?_ rfl (Or.inl ⟨by rfl,?_⟩) hH ?_
 rotate_left 1
 ·(intro w hSw;obtain ⟨⟨r1,r2⟩,r3⟩:=hSw;go_simp)<;>with_reducible rfl
 try simp only [Act.put,J1,J2,J3]
 refine Eqt.K2 8 ⟨some 42,_,_,_,_,_⟩ ?_ rfl (Or.inl ⟨by rfl,?_⟩) (fun _=>hH) ?_
 rotate_left 1
 ·(intro w;go_simp)<;>with_reducible rfl
 try simp only [Act.put,J1,J2,J3]
 refine Eqt.K2 9 ⟨some 43,_,_,_,_,_⟩ ?_ rfl (Or.inl ⟨by rfl,?_⟩) (fun _=>hH) ?_
 rotate_left 1
 ·(intro w;go_simp)<;>with_reducible rfl
 try simp only [Act.put,J1,J2,J3]
 refine Eqt.K1 10 ⟨some 44,_,_,_,_,_⟩ ?_ rfl (Or.inl ⟨by rfl,?_⟩) hH ?_
 rotate_left 1
 ·(intro w hSw;obtain ⟨⟨r1,r2⟩,r3⟩:=hSw;go_simp)<;>with_reducible rfl
 try simp only [Act.put,J1,J2,J3]
 refine Eqt.K1 16 ⟨some 50,_,_,_,_,_⟩ ?_ rfl (Or.inl ⟨by rfl,?_⟩) hH ?_
 rotate_left 1
 ·(intro w hSw;obtain ⟨⟨r1,r2⟩,r3⟩:=hSw;go_simp)<;>with_reducible rfl
 try simp only [Act.put,J1,J2,J3]
 refine Eqt.K2 17 ⟨some 51,_,_,_,_,_⟩ ?_ rfl (Or.inl ⟨by rfl,?_⟩) (fun _=>hH) ?_
 rotate_left 1
 ·(intro w;go_simp)<;>with_reducible rfl
 try simp only [Act.put,J1,J2,J3]
 refine Eqt.K2 18 ⟨some 52,_,_,_,_,_⟩ ?_ rfl (Or.inl ⟨by rfl,?_⟩) (fun _=>hH) ?_
 rotate_left 1
 ·(intro w;go_simp)<;>with_reducible rfl
 try simp only [Act.put,J1,J2,J3]
 refine Eqt.K2 19 ⟨some 53,_,_,_,_,_⟩ ?_ rfl (Or.inl ⟨by rfl,?_⟩) (fun _=>hH) ?_
 rotate_left 1
 ·(intro w;go_simp)<;>with_reducible rfl
 try simp only [Act.put,J1,J2,J3]
 refine Eqt.K2 20 ⟨some 54,_,_,_,_,_⟩ ?_ rfl (Or.inl ⟨by rfl,?_⟩) (fun _=>hH) ?_
 rotate_left 1
 ·(intro w;go_simp)<;>with_reducible rfl
 try simp only [Act.put,J1,J2,J3]
 refine Eqt.K1 21 ⟨some 55,_,_,_,_,_⟩ ?_ rfl (Or.inl ⟨by rfl,?_⟩) hH ?_
 rotate_left 1
 ·(intro w hSw;obtain ⟨⟨r1,r2⟩,r3⟩:=hSw;go_simp)<;>with_reducible rfl
 try simp only [Act.put,J1,J2,J3]
 refine Eqt.wpAnyU_one 22 [16,7,3] (o:=⟨some 56,_,_,_,_,_⟩) (by kernel_rfl) rfl (by kernel_rfl) (fun K hK=>?_)
 go_simp
 go_at_call 37
 with_reducible refine (hrm.out _ h1).mono ?_
 rintro e w2 ⟨rfl,h2,hf2⟩
 obtain ⟨⟨p1,g1⟩,hb3⟩:=hst.out _ h2
 have hr2:=hra.out _ h2
 replace hH:=hr2
 refine hK.out _ _ (fun _=>hH) ?_
 clear hK K
 try simp only [Act.put,J1,J2,J3]
 refine Eqt.K2 23 ⟨some 33,_,_,_,_,_⟩ ?_ rfl (Or.inl ⟨by rfl,?_⟩) (fun _=>hH) ?_
 rotate_left 1
 ·(intro w;go_simp)<;>with_reducible rfl
 try simp only [Act.put,J1,J2,J3]
 refine Eqt.K2 24 ⟨some 57,_,_,_,_,_⟩ ?_ rfl (Or.inl ⟨by rfl,?_⟩) (fun _=>hH) ?_
 rotate_left 1
 ·(intro w;go_simp)<;>with_reducible rfl
 try simp only [Act.put,J1,J2,J3]
 refine Eqt.K2 25 ⟨some 58,_,_,_,_,_⟩ ?_ rfl (Or.inl ⟨by rfl,?_⟩) (fun _=>hH) ?_
 rotate_left 1
 ·(intro w;go_simp)<;>with_reducible rfl
 try simp only [Act.put,J1,J2,J3]
 refine Eqt.K2 26 ⟨some 59,_,_,_,_,_⟩ ?_ rfl (Or.inl ⟨by rfl,?_⟩) (fun _=>hH) ?_
 rotate_left 1
 ·(intro w;go_simp)<;>with_reducible rfl
 try simp only [Act.put,J1,J2,J3]
 refine Eqt.K2 27 ⟨some 60,_,_,_,_,_⟩ ?_ rfl (Or.inl ⟨by rfl,?_⟩) (fun _=>hH) ?_
 rotate_left 1
 ·(intro w;go_simp)<;>with_reducible rfl
 try simp only [Act.put,J1,J2,J3]
 refine Eqt.K2 28 ⟨some 61,_,_,_,_,_⟩ ?_ rfl (Or.inl ⟨by rfl,?_⟩) (fun _=>hH) ?_
 rotate_left 1
 ·(intro w;go_simp)<;>with_reducible rfl
 try simp only [Act.put,J1,J2,J3]
 refine Eqt.K2 29 ⟨some 62,_,_,_,_,_⟩ ?_ rfl (Or.inl ⟨by rfl,?_⟩) (fun _=>hH) ?_
 rotate_left 1
 ·(intro w;go_simp)<;>with_reducible rfl
 try simp only [Act.put,J1,J2,J3]
 refine Eqt.wpAnyU_one 30 [] (o:=⟨none,_,_,_,_,_⟩) (by kernel_rfl) rfl (by kernel_rfl) (fun K hK=>?_)
 go_simp
 refine hK.out _ _ (fun h=>absurd rfl h) ?_
 clear hK K
 try simp only [Act.put,J1,J2,J3]
 refine Eqt.wpAnyU_done (by kernel_rfl) ?_ _
 (try dsimp only [Act.put])
 obtain ⟨h3,hf3⟩:=hb3
 clear p1 g1 hr2 h2 h1
 have d18:=j18.out _ h3
 have d19:=j19.out _ h3
 go_wp2_with (first
  |(go_at_call 38;(with_reducible refine (hhb.out _ h3).mono ?_);rintro e w4 ⟨⟨v4,rfl⟩,h4,hf4⟩;clear d18 d19;have d18:=k18.out _ h4)
  |(go_at_call 38;(with_reducible refine (hho.out _ h4).mono ?_);rintro e w5 ⟨⟨v5,rfl⟩,h5,hf5⟩;have d20:=k20.out _ h5)
  |(go_at_call 39;(with_reducible refine (htb.out _ h5).mono ?_);rintro e w6 ⟨rfl,h6,hf6⟩;have d9:=m9.out _ h6)
  |(go_at_call 40;(with_reducible refine (hmv.out _ h6 _ _).mono ?_);rintro e w7 ⟨⟨v7,rfl⟩,h7,hf7⟩))
 go_ret
 exact ⟨rfl,h7,(((((hf1.trans hf2).trans hf3).trans hf4).trans hf5).trans hf6).trans hf7⟩
theorem resize_any (h:TMx Z w t T P) (ok:Ok T) (rows cols:Int) (hnx:T.nx<=990000) (hj:T.jr.length<=90000):Calls Tryz.prog 26 #[.pointer (some ⟨t,0,none⟩),.int .i64 rows,.int .i64 cols] w fun e w'=>e=.returned (.int .i64 (if Ag9 rows cols then 0 else 2))/\TM Z w' t (resizeT T rows cols)/\Scn.Fr Z TT w w':=by
 unfold resizeT
 by_cases hm:Ag9 rows cols
 ·rw [if_pos hm,if_pos hm]
  obtain ⟨⟨a1,a2⟩,b1,b2⟩:=hm
  obtain ⟨r,rfl⟩:=Int.eq_ofNat_of_zero_le (show 0<=rows by omega)
  obtain ⟨c,rfl⟩:=Int.eq_ofNat_of_zero_le (show 0<=cols by omega)
  rcases hoo:T.other with _|o
  ·exact resize_none h ok hoo (by omega) (by omega) (by omega) (by omega) hnx hj
  ·exact resize_some h ok hoo (by omega) (by omega) (by omega) (by omega) hnx hj
 ·rw [if_neg hm,if_neg hm]
  exact resize_no h ok rows cols hm
end
