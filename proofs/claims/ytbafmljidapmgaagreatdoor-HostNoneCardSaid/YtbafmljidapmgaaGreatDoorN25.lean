/- Part 25 of the proof that the card of HostNone holds. -/
import Derived.Test.YtbafmljidapmgaaGreatDoorN24
set_option maxHeartbeats 16000000
set_option maxRecDepth 100000
namespace Go.Proofs.YtbafmljidapmgaaGreatDoor.Emu
open Go RowKit Com Rw Lns Scn
section
variable {Z Z1:Zn} {w w':World} {t:Nat} {T:Ter} {P:Pt} {v:Value} {l:List Int}
theorem Ac9 (h:TM Z w t T) (ok:Ok T) (hj:T.jr.length<=90000000):Calls Tryz.prog 237 #[.pointer (some ⟨t,0,none⟩)] w (Does Z w t (tellOther T)):=by
 obtain ⟨P,h⟩:=h
 have hh:=J0 (Ag9 h ok 4)
 have ht:=J0 (fun w1 (hb:Below w.heap.size w w1)=>Ax8 (h.below hb) hj (here T 4))
 unfold tellOther
 generalize here T 4=e at hh ht |-
 clear h ok
 go_enter Tryz.func237,Tryz.ntmps237
 go_wp2_with (first
  |(go_at_call 290;(with_reducible refine hh.out.mono ?_);rintro e w1 ⟨rfl,hb⟩)
  |(go_at_call 289;(with_reducible refine (ht.out _ hb).mono ?_);rintro e w2 ⟨⟨v2,rfl⟩,⟨jv,hres⟩,hf⟩))
 go_end0
 exact ⟨⟨_,rfl⟩,⟨_,hres⟩,(Scn.Fr.of_below hb).trans hf⟩
theorem Ap0 (h:TM Z w t T) (ok:Ok T) (hj:T.jr.length<=90000000):Calls Tryz.prog 317 #[.pointer (some ⟨t,0,none⟩)] w (Does Z w t (tellStraight T)):=by
 obtain ⟨P,h⟩:=h
 have hh:=J0 (Ag9 h ok 3)
 have ht:=J0 (fun w1 (hb:Below w.heap.size w w1)=>Ax8 (h.below hb) hj (here T 3))
 unfold tellStraight
 generalize here T 3=e at hh ht |-
 clear h ok
 go_enter Tryz.func317,Tryz.ntmps317
 go_wp2_with (first
  |(go_at_call 290;(with_reducible refine hh.out.mono ?_);rintro e w1 ⟨rfl,hb⟩)
  |(go_at_call 289;(with_reducible refine (ht.out _ hb).mono ?_);rintro e w2 ⟨⟨v2,rfl⟩,⟨jv,hres⟩,hf⟩))
 go_end0
 exact ⟨⟨_,rfl⟩,⟨_,hres⟩,(Scn.Fr.of_below hb).trans hf⟩
theorem tellReset_any (h:TM Z w t T) (ok:Ok T) (hj:T.jr.length<=90000000):Calls Tryz.prog 320 #[.pointer (some ⟨t,0,none⟩)] w (Does Z w t (tellReset T)):=by
 obtain ⟨P,h⟩:=h
 have hh:=J0 (Ag9 h ok 5)
 have ht:=J0 (fun w1 (hb:Below w.heap.size w w1)=>Ax8 (h.below hb) hj (here T 5))
 unfold tellReset
 generalize here T 5=e at hh ht |-
 clear h ok
 go_enter Tryz.func320,Tryz.ntmps320
 go_wp2_with (first
  |(go_at_call 290;(with_reducible refine hh.out.mono ?_);rintro e w1 ⟨rfl,hb⟩)
  |(go_at_call 289;(with_reducible refine (ht.out _ hb).mono ?_);rintro e w2 ⟨⟨v2,rfl⟩,⟨jv,hres⟩,hf⟩))
 go_end0
 exact ⟨⟨_,rfl⟩,⟨_,hres⟩,(Scn.Fr.of_below hb).trans hf⟩
theorem move_fit (h:TM Z w t T) (fit:Fit T.vis) (hj:T.jr.length<=90000000) (r c:Int) (ok:Ok (place T r c)):Calls Tryz.prog 167 #[.pointer (some ⟨t,0,none⟩),.int .i64 r,.int .i64 c] w (Does Z w t (move T r c)):=by
 obtain ⟨P,h⟩:=h
 have hp:=J0 (Br7 h fit r c)
 have ht:=J0 (fun w1 (h1:TM Z w1 t (place T r c))=>Ac9 h1 ok hj)
 unfold move
 generalize place T r c=T1 at hp ht |-
 clear h ok fit
 go_enter Tryz.func167,Tryz.ntmps167
 go_wp2_with (first
  |(go_at_call 236;(with_reducible refine hp.out.mono ?_);rintro e w1 ⟨⟨v1,rfl⟩,h1,hf1⟩)
  |(go_at_call 237;(with_reducible refine (ht.out _ h1.tm).mono ?_);rintro e w2 ⟨⟨v2,rfl⟩,hres,hf⟩))
 go_end0
 exact ⟨⟨_,rfl⟩,hres,hf1.trans hf⟩
theorem Ac8 (h:TM Z w t T) (ok:Ok T) (hj:T.jr.length<=90000000) (r c:Int):Calls Tryz.prog 167 #[.pointer (some ⟨t,0,none⟩),.int .i64 r,.int .i64 c] w (Does Z w t (move T r c)):=move_fit h ok.fit hj r c (ok.place r c)
theorem Bl1 {k:Eqt.Ext w} {a:Addr} {v:Value} (h:w.cell? a=some v):k.w.cell? a=some v:=by
 have hlt:=World.block_lt_of_cell? _ _ h
 exact (World.cell?_of_block (w:=w) (k.below.block _ hlt)).trans h
theorem nextTab_any (h:TM Z w t T) (ok:Ok T) (hj:T.jr.length<=90000000):Calls Tryz.prog 270 #[.pointer (some ⟨t,0,none⟩)] w (Does Z w t (nextTab T)):=by
 obtain ⟨P,h⟩:=h
 have c8:=fun k:Eqt.Ext w=>Bl1 (k:=k) h.c8
 have c9:=fun k:Eqt.Ext w=>Bl1 (k:=k) h.c9
 have c20:=fun k:Eqt.Ext w=>Bl1 (k:=k) h.c20
 have hn:=J0 (fun k:Eqt.Ext w=>Tbs.next_any (h.below k.below).tabs (by have:=ok.tn;have:=ok.fit.c1;omega) (by have:=ok.tn;have:=ok.fit.c5;omega) T.c.col 1 (h.tbl.below k.below).tbs)
 have hp:=J0 (fun w1 (hb:Below w.heap.size w w1)=>Ag6 (h.below hb) ok T.c.row (Tbs.nextF T.tn T.tf T.c.col 1))
 have ht:=J0 (fun w1 (h1:TM Z w1 t (place T T.c.row (Tbs.nextF T.tn T.tf T.c.col 1)))=>Ap0 h1 (ok.place _ _) hj)
 unfold nextTab
 generalize Tbs.nextF T.tn T.tf T.c.col 1=y at hn hp ht |-
 generalize place T T.c.row y=T1 at hp ht |-
 generalize T.c.row=row at c8 hp
 generalize T.c.col=col at c9 hn
 clear h ok
 go_enter Tryz.func270,Tryz.ntmps270
 go_wp2
 refine Eqt.region_ext_tail 16 (by kernel_rfl) (by kernel_rfl) ?_
 simp only [List.take_succ_cons,List.take_zero,List.drop_succ_cons,List.drop_zero]
 repeat (go_big_quiet_step (first
  |(go_at_call 316;exact Eqt.q_ext (hn.out _))))
 refine wpQuiet_nil ?_
 intro w9 hw9
 obtain ⟨k9,rfl⟩:=hw9
 have hb9:=k9.below
 generalize k9.w=w9 at hb9 |-
 go_wp2_with (first
  |(go_at_call 236;(with_reducible refine (hp.out _ hb9).mono ?_);rintro e w1 ⟨⟨v1,rfl⟩,h1,hf1⟩)
  |(go_at_call 317;(with_reducible refine (ht.out _ h1.tm).mono ?_);rintro e w2 ⟨⟨v2,rfl⟩,hres,hf⟩))
 go_end0
 exact ⟨⟨_,rfl⟩,hres,((Scn.Fr.of_below hb9).trans hf1).trans hf⟩
end
end Go.Proofs.YtbafmljidapmgaaGreatDoor.Emu
namespace Go.Proofs.YtbafmljidapmgaaGreatDoor.Emu
open Go Rw Scn
section
variable {T:Ter} {S:Scr}
theorem Bv3 (hm:S.most=T.most) (hk:S.kp=T.other.isNone):(T.putVis S).vis=S:=by
 obtain ⟨m,c,p,nx,most,R,main,other,tn,tf,pr,la,jr,rp⟩:=T
 obtain ⟨snx,smost,skp,sc,st,sb,sL,sR⟩:=S
 simp only at hm hk
 subst hm hk
 cases other<;>rfl
theorem Bb2 (T:Ter) (S:Scr):(T.putVis S).c=T.c:=by unfold Ter.putVis;split<;>rfl
theorem Cp6 (T:Ter) (S:Scr):(T.putVis S).p=T.p:=by unfold Ter.putVis;split<;>rfl
theorem Cm0 (T:Ter) (S:Scr):(T.putVis S).m=T.m:=by unfold Ter.putVis;split<;>rfl
theorem Ae9 (T:Ter) (S:Scr):(T.putVis S).jr=T.jr:=by unfold Ter.putVis;split<;>rfl
theorem put_rp (T:Ter) (S:Scr):(T.putVis S).rp=T.rp:=by unfold Ter.putVis;split<;>rfl
theorem put_nx (T:Ter) (S:Scr):(T.putVis S).nx=S.nx:=by unfold Ter.putVis;split<;>rfl
theorem put_most (T:Ter) (S:Scr):(T.putVis S).most=T.most:=by unfold Ter.putVis;split<;>rfl
theorem Af1 (T:Ter) (S:Scr):(T.putVis S).prints=T.prints:=by unfold Ter.putVis;split<;>rfl
theorem put_isNone (T:Ter) (S:Scr):(T.putVis S).other.isNone=T.other.isNone:=by
 unfold Ter.putVis
 split<;>simp [*]
theorem put_put (T:Ter) (S S':Scr):(T.putVis S).putVis S'=T.putVis S':=by
 obtain ⟨m,c,p,nx,most,R,main,other,tn,tf,pr,la,jr,rp⟩:=T
 cases other<;>rfl
theorem Cm9 {S:Scr} (h:Fit S) {n:Nat} (hn:S.nx<=n) (R:List Ln):Fit { S with nx:=n,R:=R } :=
 ⟨h.len,h.len5,h.bot,h.top,h.c1,h.c5,h.wid,fun p hp=>⟨(h.ids p hp).1,by have:=(h.ids p hp).2;show p.1<(n:Int);omega⟩,Nat.le_trans h.pos hn⟩
theorem Ok.putVis (h:Ok T) (hm:S.most=T.most) (hk:S.kp=T.other.isNone) (hF:Fit S) (hl:S.L.length=T.vis.L.length) (hc:S.cols=T.vis.cols) (hn:T.nx<=S.nx):Ok (T.putVis S):=by
 obtain ⟨h1,h2,h3,h4,h5,h6,h8,h9,h10,h11⟩:=h
 obtain ⟨m,c,p,nx,most,R,main,other,tn,tf,pr,la,jr,rp⟩:=T
 obtain ⟨snx,smost,skp,sc,st,sb,sL,sR⟩:=S
 simp only at hm hk hl hc hn
 subst hm hk
 cases other with
 |none =>
  simp only [Ter.vis,Ter.sh,Sh.scr,Ter.mscr] at h1 h2 h3 h4 h5 h6 h8 h9 h10 hl hc
  subst hc
  exact ⟨hF,hF,rfl,rfl,by simpa [Ter.putVis,Ter.vis,Ter.sh,Sh.scr,Sh.of,hl] using h5,by simpa [Ter.putVis,Ter.vis,Ter.sh,Sh.scr,Sh.of] using h6,
   by simpa [Ter.putVis,Ter.vis,Ter.sh,Sh.scr,Sh.of,hl] using h8,by simpa [Ter.putVis,Ter.vis,Ter.sh,Sh.scr,Sh.of,hl] using h9,by simpa [Ter.putVis,Ter.vis,Ter.sh,Sh.scr,Sh.of] using h10,h11⟩
 |some o =>
  simp only [Ter.vis,Ter.sh,Sh.scr,Ter.mscr] at h1 h2 h3 h4 h5 h6 h8 h9 h10 hl hc
  subst hc
  exact ⟨hF,Cm9 h2 hn sR,by simpa [Ter.putVis,Ter.vis,Ter.sh,Sh.scr,Sh.of,hl] using h3,by simpa [Ter.putVis,Ter.vis,Ter.sh,Sh.scr,Sh.of] using h4,by simpa [Ter.putVis,Ter.vis,Ter.sh,Sh.scr,Sh.of,hl] using h5,by simpa [Ter.putVis,Ter.vis,Ter.sh,Sh.scr,Sh.of] using h6,
   by simpa [Ter.putVis,Ter.vis,Ter.sh,Sh.scr,Sh.of,hl] using h8,h9,by simpa [Ter.putVis,Ter.vis,Ter.sh,Sh.scr,Sh.of] using h10,h11⟩
theorem Ck7 {S:Scr} (h:Fit S) {frm:Nat} (hf:frm<=S.bot) (n:Int) (a:At) (b:Bool):(upS S frm n a b).L.length=S.L.length:=by
 unfold upS
 have:=Ak2 n (S.bot+1 - frm)
 have:=h.bot
 rw [Bk8 (by omega)]
 omega
theorem Bo9 {S:Scr} (h:Fit S) {tp:Nat} (hf:tp<=S.bot) (n:Int) (a:At):(Ag4 S tp n a).L.length=S.L.length:=by
 unfold Ag4
 have:=Ak2 n (S.bot+1 - tp)
 have:=h.bot
 rw [Bk8 (by omega)]
 omega
theorem Ok.up (h:Ok T) {frm:Nat} (hf:frm<=T.vis.bot) (n:Int) (a:At) (b:Bool):Ok (T.putVis (upS T.vis frm n a b)) :=
 h.putVis rfl rfl (h.fit.up hf n a b) (Ck7 h.fit hf n a b) rfl (Nat.le_add_right _ _)
theorem Ok.upT (h:Ok T) (n:Int) (a:At):Ok (T.putVis (upT T.vis n a)):=h.up h.fit.top n a _
theorem Ok.down (h:Ok T) {tp:Nat} (hf:tp<=T.vis.bot) (n:Int) (a:At):Ok (T.putVis (Ag4 T.vis tp n a)) :=
 h.putVis rfl rfl (h.fit.down hf n a) (Bo9 h.fit hf n a) rfl (Nat.le_add_right _ _)
theorem Ok.setCol (h:Ok T) {n:Nat} (hn:n<T.vis.cols):Ok (setCol T n):=⟨h.fit,h.fitm,h.rows,h.cols,h.row,hn,h.sv,h.svm,h.tn,h.alt⟩
end
end Go.Proofs.YtbafmljidapmgaaGreatDoor.Emu
namespace Go.Proofs.YtbafmljidapmgaaGreatDoor.Emu
open Go RowKit Com Rw Lns Scn
section
variable {Z Z1:Zn} {w w':World} {t x s:Nat} {S:Scr} {T:Ter} {P:Pt} {v:Value} {l:List Int}
theorem Co8 (h:SC Z1 w x s S) (hF:Fit S) (n:Int) (hnx:S.nx<=9900000000) (a:At) :
  Calls Tryz.prog 365 #[.pointer (some ⟨x,0,none⟩),.int .i64 n,.agg #[.int .u32 a.f,.int .u32 a.b,.int .u16 a.g]] w (DidV Z1 w x s (upT S n a) 0):=by
 unfold upT
 by_cases hk:S.kp=true/\S.top=0
 ·rw [hk.1,decide_eq_true hk.2]
  exact Up_keep h hF n (by omega) a hk
 ·have hb:(S.kp && decide (S.top=0))=false:=by
   rcases hq:S.kp with _|_
   ·rfl
   ·simp only [Bool.true_and,decide_eq_false_iff_not]
    exact fun h0=>hk ⟨hq,h0⟩
  rw [hb]
  refine Up_forget h hF n (by omega) a ?_
  rcases hq:S.kp with _|_
  ·exact .inl rfl
  ·exact .inr fun h0=>hk ⟨hq,h0⟩
theorem TMx.setCol (h:TMx Z w t T P) (n:Nat):TMx Z (w.setCell ⟨t,9,none⟩ (.int .i64 n)) t (setCol T n) P/\Scn.Fr Z TT w (w.setCell ⟨t,9,none⟩ (.int .i64 n)) :=
 h.turn (m:=T.m) (c:={ T.c with col:=n }) (p:=T.p) (n:=T.prints) (e:=T.last) (Only.setCell w ⟨t,9,none⟩ _) (h.blk.set 9 _)
theorem TMx.setWh (h:TMx Z w t T P) (b:Bool):TMx Z (w.setCell ⟨t,16,none⟩ (.int .i64 (whI b))) t (setWh T b) P/\Scn.Fr Z TT w (w.setCell ⟨t,16,none⟩ (.int .i64 (whI b))) :=
 h.turn (m:=T.m) (c:=T.c) (p:={ T.p with wh:=b }) (n:=T.prints) (e:=T.last) (Only.setCell w ⟨t,16,none⟩ _) (h.blk.set 16 _)
theorem feed_any (h:TM Z w t T) (ok:Ok T) (hnx:T.nx<=9900000000):Calls Tryz.prog 311 #[.pointer (some ⟨t,0,none⟩)] w (Does Z w t (feed T)):=by
 obtain ⟨P,h⟩:=h
 have c8:=h.c8
 have hs:=h.s0
 have hsh:=J0 (Ab0 h)
 obtain ⟨Z1,hf⟩:=h.focus
 have hm:=J0 (Am9 hf.sc ok.fit.len)
 unfold feed
 by_cases hc:T.c.row=T.vis.bot
 ·rw [if_pos hc]
  have hd:decide ((T.c.row:Int)=(T.vis.bot:Int))=true:=decide_eq_true (by omega)
  have hd2:decide (T.c.row=T.vis.bot)=true:=decide_eq_true hc
  have hup:=J0 (fun w1 (hb:Below w.heap.size w w1)=>Co8 (hf.sc.below hb) ok.fit 1 hnx T.p.a)
  have hbk:=J0 (fun w1 w2 (hb:Below w.heap.size w w1) (hs2:SC Z1 w2 (P.x T.other) P.s (upT T.vis 1 T.p.a)) (hf2:Scn.Fr Z1 PT w1 w2)=>hf.back w2 _ hs2 rfl rfl ((Scn.Fr.of_below hb).trans hf2))
  have hpl:=J0 (fun w2 (h2:TMx Z w2 t (T.putVis (upT T.vis 1 T.p.a)) P)=>Ag6 h2 (ok.upT 1 T.p.a) T.c.row T.c.col)
  have ce:=J0 (fun w1 (hb:Below w.heap.size w w1) (k:Eqt.Ext w1)=>And.intro ((h.below hb).below k.below).s0 (And.intro ((h.below hb).below k.below).c11 (And.intro ((h.below hb).below k.below).c12 ((h.below hb).below k.below).c13)))
  have c2:=J0 (fun w2 (h2:TMx Z w2 t (T.putVis (upT T.vis 1 T.p.a)) P) (k:Eqt.Ext w2)=>And.intro (Bb2 T (upT T.vis 1 T.p.a)▸(h2.below k.below).c8) (Bb2 T (upT T.vis 1 T.p.a)▸(h2.below k.below).c9))
  have kp:=J0 (fun w2 w3 (h2:TMx Z w2 t (T.putVis (upT T.vis 1 T.p.a)) P) (hb:Below w2.heap.size w2 w3)=>h2.below hb)
  generalize T.putVis (upT T.vis 1 T.p.a)=T1 at hbk hpl c2 kp |-
  generalize upT T.vis 1 T.p.a=S1 at hup hbk
  generalize P.h T.other=hh at hs hsh ce
  generalize P.x T.other=xx at hs hm hup hbk ce
  generalize T.vis.bot=bot at hm hd hd2 hc
  generalize T.vis.top=top at hm
  subst hc
  generalize T.c.row=row at c8 hd hd2 hm hpl c2 |-
  generalize T.c.col=col at hpl c2 |-
  generalize T.p.a=a at hup ce
  obtain ⟨af,ab,ag⟩:=a
  simp only at hup ce
  clear h hf ok
  go_enter Tryz.func311,Tryz.ntmps311
  go_wp2_with (first
   |(go_at_call 163;(with_reducible refine (hsh.out).mono ?_);rintro e w1 ⟨rfl,rfl⟩)
   |(go_at_call 178;(with_reducible refine (hm.out).mono ?_);rintro e w1 ⟨rfl,q,rfl⟩))
  have hbq:=Aa5 (Below.refl w.heap.size w) q
  have k0:=fun k=>(ce.out _ hbq k).1
  have k1:=fun k=>(ce.out _ hbq k).2.1
  have k2:=fun k=>(ce.out _ hbq k).2.2.1
  have k3:=fun k=>(ce.out _ hbq k).2.2.2
  clear c8 hs ce hsh hm
  generalize w.drewN q=wq at hbq k0 k1 k2 k3 |-
  refine Eqt.region_ext_tail 9 (by kernel_rfl) (by kernel_rfl) ?_
  simp only [List.take_succ_cons,List.take_zero,List.drop_succ_cons,List.drop_zero]
  repeat (go_big_quiet_step (fail))
  refine wpQuiet_nil ?_
  intro w9 hw9
  obtain ⟨k9,rfl⟩:=hw9
  have hb9:=k9.below
  generalize k9.w=w9 at hb9 |-
  go_wp2_with (first
   |(go_at_call 365;(with_reducible refine (hup.out _ (Aa0 hbq hb9)).mono ?_);rintro e w2 ⟨rfl,hs2,hf2⟩))
  obtain ⟨h2,hf3⟩:=hbk.out _ _ (Aa0 hbq hb9) hs2 hf2
  have c8:=fun k=>(c2.out _ h2 k).1
  have c9:=fun k=>(c2.out _ h2 k).2
  have hfr:=(Scn.Fr.of_below (B:=Z) (ts:=TT) (Below.refl w.heap.size w)).trans hf3
  clear k0 k1 k2 k3 hs2 hf2 hbk hup c2 hf3 hb9 hbq
  refine Eqt.region_ext_tail 11 (by kernel_rfl) (by kernel_rfl) ?_
  simp only [List.take_succ_cons,List.take_zero,List.drop_succ_cons,List.drop_zero]
  repeat (go_big_quiet_step (fail))
  refine wpQuiet_nil ?_
  intro w9 hw9
  obtain ⟨k9,rfl⟩:=hw9
  have hb9:=k9.below
  generalize k9.w=w9 at hb9 |-
  go_wp2_with (first
   |(go_at_call 236;(with_reducible refine (hpl.out _ (kp.out _ _ h2 hb9)).mono ?_);rintro e w3 ⟨⟨v3,rfl⟩,h3,hf3⟩))
  go_end0
  exact ⟨⟨_,rfl⟩,h3.tm,(hfr.trans (Scn.Fr.of_below hb9)).trans hf3⟩
 ·rw [if_neg hc]
  have hd:decide ((T.c.row:Int)=(T.vis.bot:Int))=false:=decide_eq_false (by omega)
  have hd2:decide (T.c.row=T.vis.bot)=false:=decide_eq_false hc
  have hw:IntKind.i64.wrap ((T.c.row:Int)+1)=(T.c.row:Int)+1:=IntWalk.i64_in _ (by have:=ok.row;have:=ok.fit.len5;omega)
  have hpl:=J0 (fun w1 (hb:Below w.heap.size w w1)=>Ag6 (h.below hb) ok ((T.c.row:Int)+1) T.c.col)
  have ce:=J0 (fun w1 (hb:Below w.heap.size w w1) (k:Eqt.Ext w1)=>And.intro ((h.below hb).below k.below).c8 ((h.below hb).below k.below).c9)
  generalize place T ((T.c.row:Int)+1) T.c.col=T1 at hpl |-
  generalize P.h T.other=hh at hs hsh
  generalize P.x T.other=xx at hs hm
  generalize T.vis.bot=bot at hm hd hd2 hc
  generalize T.vis.top=top at hm
  generalize T.c.row=row at c8 hd hd2 hpl ce hw hc
  generalize T.c.col=col at hpl ce
  clear h hf ok
  go_enter Tryz.func311,Tryz.ntmps311
  go_wp2_with (first
   |(go_at_call 163;(with_reducible refine (hsh.out).mono ?_);rintro e w1 ⟨rfl,rfl⟩)
   |(go_at_call 178;(with_reducible refine (hm.out).mono ?_);rintro e w1 ⟨rfl,q,rfl⟩))
  have hbq:=Aa5 (Below.refl w.heap.size w) q
  have k0:=fun k=>(ce.out _ hbq k).1
  have k1:=fun k=>(ce.out _ hbq k).2
  clear c8 hs ce hsh hm
  generalize w.drewN q=wq at hbq k0 k1 |-
  refine Eqt.region_ext_tail 12 (by kernel_rfl) (by kernel_rfl) ?_
  simp only [List.take_succ_cons,List.take_zero,List.drop_succ_cons,List.drop_zero]
  repeat (go_big_quiet_step (fail))
  refine wpQuiet_nil ?_
  intro w9 hw9
  obtain ⟨k9,rfl⟩:=hw9
  have hb9:=k9.below
  generalize k9.w=w9 at hb9 |-
  go_wp2_with (first
   |(go_at_call 236;(with_reducible refine (hpl.out _ (Aa0 hbq hb9)).mono ?_);rintro e w3 ⟨⟨v3,rfl⟩,h3,hf3⟩))
  go_end0
  exact ⟨⟨_,rfl⟩,h3.tm,(Scn.Fr.of_below (Aa0 hbq hb9)).trans hf3⟩
end
section
variable {Z Z1:Zn} {w w':World} {t x s:Nat} {S:Scr} {T:Ter} {P:Pt} {v:Value} {l:List Int}
theorem Aa9 {B:Zn} {ts:List TypeId} (hb:Below w.heap.size w w'):Scn.Fr B ts w w':=Scn.Fr.of_below hb
theorem Am0 (h:TM Z w t T) (ok:Ok T) (hj:T.jr.length<=90000000) (wrap:Bool):Calls Tryz.prog 312 #[.pointer (some ⟨t,0,none⟩),.bool wrap] w (Does Z w t (tellFeed T wrap)):=by
 obtain ⟨P,h⟩:=h
 obtain ⟨Z1,hf⟩:=h.focus
 obtain ⟨d,hd⟩:=Ad9 hf.sc ok.row
 have hh:Hid (Calls Tryz.prog 290 #[.pointer (some ⟨t,0,none⟩),.int .u8 3] w fun e w'=>e=.returned (.agg #[.int .u8 3,.int .u64 0,.int .i64 (idAt T.vis.L T.c.row),.int .i64 T.c.col,.bool false,.int .i32 0,.bool false,.bool false,.bool false,.bool false])/\Below w.heap.size w w'):=J0 (Ag9 h ok 3)
 have hl:=J0 (fun w1 (hb:Below w.heap.size w w1)=>Ae6 (h.below hb) ok (Aa7 hd hb))
 have hbl:=J0 (fun w1 (hb:Below w.heap.size w w1)=>Ap2 (Aa7 hd hb) 0)
 have ht:Hid (∀ w1 (hb:Below w.heap.size w w1),Calls Tryz.prog 289 #[.pointer (some ⟨t,0,none⟩),.agg #[.int .u8 3,.int .u64 0,.int .i64 (idAt T.vis.L T.c.row),.int .i64 T.c.col,.bool false,.int .i32 0,.bool false,.bool false,.bool (Am6 (line T) 0),.bool wrap]] w1 fun r w'=>(∃ v,r=.returned v)/\(∃ jv,TMx Z w' t (tellFeed T wrap) { P with jv:=jv })/\Scn.Fr Z TT w1 w') :=
  J0 (fun w1 hb=>Ax8 (h.below hb) hj { here T 3 with fr:=Am6 (line T) 0,wr:=wrap })
 rw [line_is] at ht
 generalize tellFeed T wrap=T1 at ht |-
 generalize Am6 (Aa8 T.vis T.c.row) 0=bl at hbl ht
 generalize idAt T.vis.L T.c.row=y at hh ht
 generalize T.c.col=col at hh ht
 clear h hf ok hd hj
 go_enter Tryz.func312,Tryz.ntmps312
 go_wp2_with (first
  |(go_at_call 290;(with_reducible refine (hh.out).mono ?_);rintro e w1 ⟨rfl,hb1⟩))
 have hbn:=Aa0 hb1 (Aa1 w1 (.cells #[.int .u8 3,.int .u64 0,.int .i64 y,.int .i64 col,.bool false,.int .i32 0,.bool false,.bool false,.bool false,.bool false] 72))
 have hbx:=Block.made w1 72 #[.int .u8 3,.int .u64 0,.int .i64 y,.int .i64 col,.bool false,.int .i32 0,.bool false,.bool false,.bool false,.bool false]
 have hbl1:=hb1.size
 generalize w1.alloc (.cells #[.int .u8 3,.int .u64 0,.int .i64 y,.int .i64 col,.bool false,.int .i32 0,.bool false,.bool false,.bool false,.bool false] 72)=w2 at hbn hbx |-
 generalize w1.heap.size=b at hbx hbl1 |-
 have hbx':=J0 (fun w' (hb:Below w2.heap.size w2 w')=>Block.only hbx (Only.of_below hb []) (by simp))
 clear hh hb1
 go_wp2_with (first
  |(go_at_call 306;(with_reducible refine (hl.out _ hbn).mono ?_);rintro e w3 ⟨rfl,q,rfl⟩)
  |(go_at_call 313;(with_reducible refine (hbl.out _ (Aa5 hbn q)).mono ?_);rintro e w4 ⟨rfl,hb4⟩;have hb2:=Aa0 (Aa5 (Below.refl w2.heap.size w2) q) hb4;have hx:=hbx'.out _ hb2;have x0:=hx.cell 0 rfl;have x1:=hx.cell 1 rfl;have x2:=hx.cell 2 rfl;have x3:=hx.cell 3 rfl;have x4:=hx.cell 4 rfl;have x5:=hx.cell 5 rfl;have x6:=hx.cell 6 rfl;have x7:=hx.cell 7 rfl;have x8:=hx.cell 8 rfl;have x9:=hx.cell 9 rfl;have f8:=hx.free 8;have f9:=hx.free 9;have hbf:=(Aa0 hbn hb2).trans (((Only.setCell w4 ⟨b,8,none⟩ (.bool bl)).trans (Only.setCell _ ⟨b,9,none⟩ (.bool wrap))).below (Aa0 hbn hb2).size (by simpa using hbl1)))
  |(go_at_call 289;(with_reducible refine (ht.out _ hbf).mono ?_);rintro e w5 ⟨⟨v5,rfl⟩,⟨jv,h5⟩,hf5⟩))
 go_end0
 exact ⟨⟨_,rfl⟩,h5.tm,(Aa9 hbf).trans hf5⟩
theorem stepBack_any (h:TM Z w t T) (ok:Ok T) (hj:T.jr.length<=90000000):Calls Tryz.prog 269 #[.pointer (some ⟨t,0,none⟩)] w (Does Z w t (stepBack T)):=by
 obtain ⟨P,h⟩:=h
 have c8:=fun k:Eqt.Ext w=>(h.below k.below).c8
 have c9:=fun k:Eqt.Ext w=>(h.below k.below).c9
 have hw:IntKind.i64.wrap ((T.c.col:Int) - 1)=(T.c.col:Int) - 1:=IntWalk.i64_in _ (by have:=ok.col;have:=ok.fit.c5;omega)
 have hm:=J0 (fun w1 (hb:Below w.heap.size w w1)=>Ac8 (h.below hb).tm ok hj T.c.row ((T.c.col:Int) - 1))
 unfold stepBack
 generalize move T T.c.row ((T.c.col:Int) - 1)=T1 at hm |-
 generalize T.c.row=row at c8 hm
 generalize T.c.col=col at c9 hm hw
 clear h ok hj
 go_enter Tryz.func269,Tryz.ntmps269
 go_wp2
 refine Eqt.region_ext_tail 12 (by kernel_rfl) (by kernel_rfl) ?_
 simp only [List.take_succ_cons,List.take_zero,List.drop_succ_cons,List.drop_zero]
 repeat (go_big_quiet_step (fail))
 refine wpQuiet_nil ?_
 intro w9 hw9
 obtain ⟨k9,rfl⟩:=hw9
 have hb9:=k9.below
 generalize k9.w=w9 at hb9 |-
 go_wp2_with (first
  |(go_at_call 167;(with_reducible refine (hm.out _ hb9).mono ?_);rintro e w5 ⟨⟨v5,rfl⟩,h5,hf5⟩))
 go_end0
 exact ⟨⟨_,rfl⟩,h5,(Aa9 hb9).trans hf5⟩
theorem lineBegin_any (h:TM Z w t T) (ok:Ok T) (hj:T.jr.length<=90000000):Calls Tryz.prog 272 #[.pointer (some ⟨t,0,none⟩)] w (Does Z w t (lineBegin T)):=by
 obtain ⟨P,h⟩:=h
 have c8:=h.c8
 have hp:=J0 (Ag6 h ok T.c.row 0)
 have ht:=J0 (fun w1 (h1:TM Z w1 t (place T T.c.row 0))=>Ap0 h1 (ok.place T.c.row 0) hj)
 unfold lineBegin
 generalize place T T.c.row 0=T1 at hp ht |-
 generalize T.c.row=row at c8 hp
 clear h ok hj
 go_enter Tryz.func272,Tryz.ntmps272
 go_wp2_with (first
  |(go_at_call 236;(with_reducible refine (hp.out).mono ?_);rintro e w1 ⟨⟨v1,rfl⟩,h1,hf1⟩)
  |(go_at_call 317;(with_reducible refine (ht.out _ h1.tm).mono ?_);rintro e w2 ⟨⟨v2,rfl⟩,h2,hf2⟩))
 go_end0
 exact ⟨⟨_,rfl⟩,h2,hf1.trans hf2⟩
theorem firstSet_any (h:TM Z w t T):Calls Tryz.prog 274 #[.pointer (some ⟨t,0,none⟩)] w (Does Z w t (setWh T false)):=by
 obtain ⟨P,h⟩:=h
 have c16:=h.c16
 have f16:=h.free 16
 have hr:=J0 (h.setWh false)
 unfold whI at hr
 simp only [Bool.false_eq_true,if_false] at hr
 clear h
 go_enter Tryz.func274,Tryz.ntmps274
 go_wp2
 go_end0
 exact ⟨⟨_,rfl⟩,hr.out.1.tm,hr.out.2⟩
theorem secondSet_any (h:TM Z w t T):Calls Tryz.prog 273 #[.pointer (some ⟨t,0,none⟩)] w (Does Z w t (setWh T true)):=by
 obtain ⟨P,h⟩:=h
 have c16:=h.c16
 have f16:=h.free 16
 have hr:=J0 (h.setWh true)
 unfold whI at hr
 simp only [if_true] at hr
 clear h
 go_enter Tryz.func273,Tryz.ntmps273
 go_wp2
 go_end0
 exact ⟨⟨_,rfl⟩,hr.out.1.tm,hr.out.2⟩
theorem Ok.feed (h:Ok T):Ok (feed T):=by
 unfold Emu.feed
 split
 ·exact (h.upT _ _).place _ _
 ·exact h.place _ _
theorem Ay6 (T:Ter):(feed T).jr=T.jr:=by
 unfold feed
 split
 ·exact Ae9 _ _
 ·rfl
theorem At5 (h:TM Z w t T) (ok:Ok T) (hj:T.jr.length<=90000000) (hnx:T.nx<=9900000000):Calls Tryz.prog 275 #[.pointer (some ⟨t,0,none⟩)] w (Does Z w t (rowDown T)):=by
 have hp:=J0 (feed_any h ok hnx)
 have ht:=J0 (fun w1 (h1:TM Z w1 t (feed T))=>Ac9 h1 ok.feed (by rw [Ay6];exact hj))
 unfold rowDown
 generalize feed T=T1 at hp ht |-
 clear h ok hj
 go_enter Tryz.func275,Tryz.ntmps275
 go_wp2_with (first
  |(go_at_call 311;(with_reducible refine (hp.out).mono ?_);rintro e w1 ⟨⟨v1,rfl⟩,h1,hf1⟩)
  |(go_at_call 237;(with_reducible refine (ht.out _ h1).mono ?_);rintro e w2 ⟨⟨v2,rfl⟩,h2,hf2⟩))
 go_end0
 exact ⟨⟨_,rfl⟩,h2,hf1.trans hf2⟩
theorem Ba7 (h:TM Z w t T) (ok:Ok T) (hj:T.jr.length<=90000000) (hnx:T.nx<=9900000000):Calls Tryz.prog 276 #[.pointer (some ⟨t,0,none⟩)] w (Does Z w t (nextLine T)):=by
 obtain ⟨P,h⟩:=h
 have c9:=h.c9
 have f9:=h.free 9
 obtain ⟨h1,hf1⟩:=h.setCol 0
 rw [show ((0:Nat):Int)=0 from rfl] at h1 hf1
 have hp:=J0 (At5 h1.tm (ok.setCol ok.fit.c1) hj hnx)
 unfold nextLine
 clear h ok hj h1
 go_enter Tryz.func276,Tryz.ntmps276
 go_wp2_with (first
  |(go_at_call 275;(with_reducible refine (hp.out).mono ?_);rintro e w1 ⟨⟨v1,rfl⟩,h2,hf2⟩))
 go_end0
 exact ⟨⟨_,rfl⟩,h2,hf1.trans hf2⟩
theorem At2 (h:TM Z w t T) (ok:Ok T) (hj:T.jr.length<=90000000) (hnx:T.nx<=9900000000):Calls Tryz.prog 271 #[.pointer (some ⟨t,0,none⟩)] w (Does Z w t (newLine T)):=by
 obtain ⟨P,h⟩:=h
 have c1:=h.c1
 have c9:=h.c9
 have f9:=h.free 9
 unfold newLine
 generalize T.m.a1=nl at c1 |-
 cases nl
 ·simp only [Bool.false_eq_true,if_false]
  have hp:=J0 (feed_any h.tm ok hnx)
  have ht:=J0 (fun w1 (h1:TM Z w1 t (feed T))=>Am0 h1 ok.feed (by rw [Ay6];exact hj) false)
  generalize feed T=T1 at hp ht |-
  clear h ok hj
  go_enter Tryz.func271,Tryz.ntmps271
  go_wp2_with (first
   |(go_at_call 311;(with_reducible refine (hp.out).mono ?_);rintro e w1 ⟨⟨v1,rfl⟩,h1,hf1⟩)
   |(go_at_call 312;(with_reducible refine (ht.out _ h1).mono ?_);rintro e w2 ⟨⟨v2,rfl⟩,h2,hf2⟩))
  go_end0
  exact ⟨⟨_,rfl⟩,h2,hf1.trans hf2⟩
 ·simp only [if_true]
  obtain ⟨h0,hf0⟩:=h.setCol 0
  rw [show ((0:Nat):Int)=0 from rfl] at h0 hf0
  have ok0:=ok.setCol ok.fit.c1
  have hp:=J0 (feed_any h0.tm ok0 hnx)
  have ht:=J0 (fun w1 (h1:TM Z w1 t (feed (setCol T 0)))=>Am0 h1 ok0.feed (by rw [Ay6];exact hj) false)
  generalize feed (setCol T 0)=T1 at hp ht |-
  clear h ok hj h0 ok0
  go_enter Tryz.func271,Tryz.ntmps271
  go_wp2_with (first
   |(go_at_call 311;(with_reducible refine (hp.out).mono ?_);rintro e w1 ⟨⟨v1,rfl⟩,h1,hf1⟩)
   |(go_at_call 312;(with_reducible refine (ht.out _ h1).mono ?_);rintro e w2 ⟨⟨v2,rfl⟩,h2,hf2⟩))
  go_end0
  exact ⟨⟨_,rfl⟩,h2,(hf0.trans hf1).trans hf2⟩
end
section
variable {Z Z1:Zn} {w w':World} {t x s:Nat} {S:Scr} {T:Ter} {P:Pt} {v:Value} {l:List Int}
theorem TMx.tabbed (h:TMx Z w t T P) {n:Nat} {f:Nat->Bool} (ho:Only [P.tb] w w') (ht:Tbs.TabsIn w' P.tb n f):TMx Z w' t { T with tn:=n,tf:=f } P/\Scn.Fr Z TT w w':=by
 have tt:Typ w P.tb 268:=Block.typ h.tabs
 have hf:Scn.Fr Z [268] w w':=Scn.Fr.of_only ho fun k hk _=>by
  obtain rfl:k=P.tb:=by simpa using hk
  exact ⟨h.zb,_,by simp,tt⟩
 have keep:∀ {k:Nat} {ty:TypeId},Typ w k ty->ty≠268->w'.heap[k]?=w.heap[k]?:=fun hk hty=>ho.block _ (Ak9 hk) (Ae1 hk tt hty)
 have same:∀ {k:Nat} {ty:TypeId} {cs:Array Value},Block w k ty cs->ty≠268->Block w' k ty cs:=fun hb hty=>(keep (Block.typ hb) hty).trans hb
 exact ⟨⟨same h.blk (by decide),same h.main (by decide),fun o ho=>⟨same (h.aside o ho).1 (by decide),(h.aside o ho).2⟩,h.scr.fr hf (by unfold NoPT;decide),ht,
  Ac2 h.jr (fun g hg=>keep (Ab6 h.jr g hg) (by decide)),Ad5 h.rp (fun g hg=>keep (Ad1 h.rp g hg) (by decide)),h.zt,h.zm,h.zb,h.zj,h.zr,fun k hk=>h.up k (Nat.le_trans hf.size hk),h.low,h.tbl.fr hf h.low⟩,
  hf.mono (by simp [TT])⟩
theorem TMx.saved (h:TMx Z w t T P) {sv:Sav} (ho:Only [P.h T.other] w w') (hb:Block w' (P.h T.other) 210 (shA (P.x T.other) sv)):TMx Z w' t (T.putSv sv) P/\Scn.Fr Z TT w w':=by
 have tt:=Block.typ h.sheet
 have hz:Z (P.h T.other):=by
  unfold Pt.h
  rcases hoo:T.other with _|o
  ·exact h.zm
  ·exact (h.aside o hoo).2.2
 have hf:Scn.Fr Z [210] w w':=Scn.Fr.of_only ho fun k hk _=>by
  obtain rfl:k=P.h T.other:=by simpa using hk
  exact ⟨hz,_,by simp,tt⟩
 have keep:∀ {k:Nat} {ty:TypeId},Typ w k ty->ty≠210->w'.heap[k]?=w.heap[k]?:=fun hk hty=>ho.block _ (Ak9 hk) (Ae1 hk tt hty)
 have same:∀ {k:Nat} {ty:TypeId} {cs:Array Value},Block w k ty cs->ty≠210->Block w' k ty cs:=fun hb hty=>(keep (Block.typ hb) hty).trans hb
 have hscr:=h.scr.fr hf (by unfold NoPT;decide)
 have hblk:=same h.blk (by decide)
 refine ⟨?_,hf.mono (by simp [TT])⟩
 have hj:=Ac2 (w':=w') h.jr (fun g hg=>keep (Ab6 h.jr g hg) (by decide))
 have hr:=Ad5 (w':=w') h.rp (fun g hg=>keep (Ad1 h.rp g hg) (by decide))
 have ht:=same h.tabs (by decide)
 have hup:∀ k,w'.heap.size<=k->Z k:=fun k hk=>h.up k (Nat.le_trans hf.size hk)
 have htb:=h.tbl.fr hf h.low
 have hmain:=h.main
 have has:=h.aside
 unfold Scrs at hscr
 unfold Pt.h Pt.x at hb
 unfold Pt.h at ho
 rcases hoo:T.other with _|o
 ·rw [hoo] at hscr hb ho
  rw [show T.putSv sv={ T with main:={ T.main with sv:=sv } } from by unfold Ter.putSv;rw [hoo]]
  refine ⟨hblk,hb,fun o ho=>(by rw [hoo] at ho;cases ho),?_,ht,hj,hr,h.zt,h.zm,h.zb,h.zj,h.zr,hup,h.low,htb⟩
  unfold Scrs
  rw [hoo]
  simpa [Ter.vis,Ter.sh,Sh.scr,hoo] using hscr
 ·rw [hoo] at hscr hb ho
  rw [show T.putSv sv={ T with other:=some { o with sv:=sv } } from by unfold Ter.putSv;rw [hoo]]
  obtain ⟨a1,a2,a3⟩:=has o hoo
  have hm':Block w' P.hm 210 (shA P.xm T.main.sv):=hmain.only ho (by simpa using a2.symm)
  have hA:terA { T with other:=some { o with sv:=sv } } P=terA T P:=by unfold terA;rw [hoo];rfl
  refine ⟨by rw [hA];exact hblk,hm',fun o2 ho2=>?_,?_,ht,hj,hr,h.zt,h.zm,h.zb,h.zj,h.zr,hup,h.low,htb⟩
  ·simp only [Option.some.injEq] at ho2
   subst ho2
   exact ⟨hb,a2,a3⟩
  ·unfold Scrs
   simpa [Ter.vis,Ter.mscr,Ter.sh,Sh.scr,hoo] using hscr
theorem Bi9 (h:TM Z w t T) (ok:Ok T):Calls Tryz.prog 277 #[.pointer (some ⟨t,0,none⟩)] w (Does Z w t (setTab T)):=by
 obtain ⟨P,h⟩:=h
 have c9:=fun k:Eqt.Ext w=>(h.below k.below).c9
 have c20:=fun k:Eqt.Ext w=>(h.below k.below).c20
 have hn5:T.tn<=512:=by have:=ok.tn;have:=ok.fit.c5;omega
 have hs:=J0 (fun w1 (hb:Below w.heap.size w w1)=>Tbs.set_ok (h.below hb).tabs hn5 T.c.col (by have:=ok.tn;have:=ok.col;omega))
 have hr:=J0 (fun w1 w2 (hb:Below w.heap.size w w1)=>(h.below hb).tabbed (w':=w2) (n:=T.tn) (f:=Tbs.putF T.tf T.c.col true))
 unfold setTab
 generalize T.c.col=col at c9 hs hr |-
 clear h ok
 go_enter Tryz.func277,Tryz.ntmps277
 go_wp2
 refine Eqt.region_ext_tail 9 (by kernel_rfl) (by kernel_rfl) ?_
 simp only [List.take_succ_cons,List.take_zero,List.drop_succ_cons,List.drop_zero]
 repeat (go_big_quiet_step (fail))
 refine wpQuiet_nil ?_
 intro w9 hw9
 obtain ⟨k9,rfl⟩:=hw9
 have hb9:=k9.below
 generalize k9.w=w9 at hb9 |-
 go_wp2_with (first
  |(go_at_call 318;(with_reducible refine (hs.out _ hb9).mono ?_);rintro e w5 ⟨rfl,ht5,ho5⟩))
 obtain ⟨h6,hf6⟩:=hr.out _ _ hb9 ho5 ht5
 go_end0
 exact ⟨⟨_,rfl⟩,h6.tm,(Aa9 hb9).trans hf6⟩
theorem Bm9 (h:TM Z w t T):Calls Tryz.prog 280 #[.pointer (some ⟨t,0,none⟩)] w (Does Z w t (save T)):=by
 obtain ⟨P,h⟩:=h
 have hsh:=J0 (fun k:Eqt.Ext w=>Ab0 (h.below k.below))
 have c3:=fun k:Eqt.Ext w=>(h.below k.below).c3
 have c8:=fun k:Eqt.Ext w=>(h.below k.below).c8
 have c9:=fun k:Eqt.Ext w=>(h.below k.below).c9
 have c10:=fun k:Eqt.Ext w=>(h.below k.below).c10
 have c11:=fun k:Eqt.Ext w=>(h.below k.below).c11
 have c12:=fun k:Eqt.Ext w=>(h.below k.below).c12
 have c13:=fun k:Eqt.Ext w=>(h.below k.below).c13
 have c14:=fun k:Eqt.Ext w=>(h.below k.below).c14
 have c15:=fun k:Eqt.Ext w=>(h.below k.below).c15
 have c16:=fun k:Eqt.Ext w=>(h.below k.below).c16
 have hbl:=J0 (fun w1 (hb:Below w.heap.size w w1)=>(h.below hb).sheet)
 have hr:=J0 (fun w1 w2 (hb:Below w.heap.size w w1)=>(h.below hb).saved (w':=w2) (sv:=⟨T.c,T.p,T.m.a3⟩))
 unfold save
 generalize P.h T.other=hh at hsh hbl hr
 generalize P.x T.other=xx at hbl hr
 clear h
 go_enter Tryz.func280,Tryz.ntmps280
 go_wp2
 refine Eqt.region_ext_tail 18 (by kernel_rfl) (by kernel_rfl) ?_
 simp only [List.take_succ_cons,List.take_zero,List.drop_succ_cons,List.drop_zero]
 repeat (go_big_quiet_step (first
  |(go_at_call 163;exact Eqt.q_ext_same (hsh.out _))))
 refine wpQuiet_nil ?_
 intro w9 hw9
 obtain ⟨k9,rfl⟩:=hw9
 have hb9:=k9.below
 generalize k9.w=w9 at hb9 |-
 go_wp2_with (first
  |(with_reducible show wpList _ _ _ (⟨none,.store _ (.tmp 19) _,_,_,_,_⟩::_) _ _;go_must (refine Ad8 rfl _ (.tmp 19) (.tmp 17) rfl (hbl.out _ hb9) (savL ⟨T.c,T.p,T.m.a3⟩).toArray rfl rfl (by simp [shA,savL]) (by kernel_rfl) (by simp [savL,Value.oneCell']) ?_);intro w5 hb5 ho5))
 obtain ⟨h6,hf6⟩:=hr.out _ _ hb9 ho5 hb5
 go_end0
 exact ⟨⟨_,rfl⟩,h6.tm,(Aa9 hb9).trans hf6⟩
end
