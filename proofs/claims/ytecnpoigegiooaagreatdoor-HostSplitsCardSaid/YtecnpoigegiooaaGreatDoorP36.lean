/- Part 36 of HostSplits. -/
import Derived.Test.YtecnpoigegiooaaGreatDoorP35
set_option maxHeartbeats 16000000
set_option maxRecDepth 100000
namespace Go.Proofs.YtecnpoigegiooaaGreatDoor.Emu
open Go RowKit Com Rw Lns Scn
section
variable {Z Z1:Zn}{w w':World}{t x s:Nat}{S:Scr}{T:Ter}{P:Pt}{v:Value}{l:List Int}
theorem sc_beside {x2:Nat} {S2:Scr} (h:SC Z w x2 s S2):∃Z1:Zn,(∀k,Z1 k->Z k)/\∃sv R,vw R=S2.R/\Sto Z1 w s S2.nx S2.most sv R /\
  ∀w' x1 S',SC Z1 w' x1 s S'->S'.most=S2.most->Scn.Fr Z1 PT w w'->Two Z w' s x1 x2 S' S2:=by
 obtain⟨sv,l2,L2,R,h2,e2,eR⟩:=h
 have tx2:=h2.ln.typ
 have ts:=h2.ln.st.typ
 have tl2:=fun g hg=>(h2.ln.ltyp g hg).2.2
 have hlt2:=h2.ln.blk.lt
 have ne:∀ {k k':Nat} {t t':TypeId},Typ w k t->Typ w k' t'->t≠t'->k≠k':=fun h h' ht e=>ht (Typ.inj h (e▸h'))
 let F:Zn:=fun k=>k=x2\/l2.ownBlock=some k\/∃e∈L2,k=e.d\/k=e.g
 let Z1:Zn:=fun k=>Z k/\¬F k
 have nrow:∀ {k:Nat},Typ w k 191->(∀e∈L2,k≠e.d)->¬F k:=fun hk hd' hF=>by
  rcases hF with e|e|⟨e,he,e'|e'⟩
  ·exact ne hk tx2 (by decide) e
  ·exact ne hk (tl2 _ e) (by decide) rfl
  ·exact hd' e he e'
  ·exact ne hk (h2.rows e he).typ.2 (by decide) e'
 have ncel:∀ {k:Nat},Typ w k 194->(∀e∈L2,k≠e.g)->¬F k:=fun hk hd' hF=>by
  rcases hF with e|e|⟨e,he,e'|e'⟩
  ·exact ne hk tx2 (by decide) e
  ·exact ne hk (tl2 _ e) (by decide) rfl
  ·exact ne hk (h2.rows e he).typ.1 (by decide) e'
  ·exact hd' e he e'
 have nlin:∀ {k:Nat},Typ w k 188->l2.ownBlock≠some k->¬F k:=fun hk hn hF=>by
  rcases hF with e|e|⟨e,he,e'|e'⟩
  ·exact ne hk tx2 (by decide) e
  ·exact hn e
  ·exact ne hk (h2.rows e he).typ.1 (by decide) e'
  ·exact ne hk (h2.rows e he).typ.2 (by decide) e'
 have noth:∀ {k:Nat} {t:TypeId},Typ w k t->t≠188->t≠191->t≠194->k≠x2->¬F k:=fun hk n1 n2 n3 hn hF=>by
  rcases hF with e|e|⟨e,he,e'|e'⟩
  ·exact hn e
  ·exact ne hk (tl2 _ e) n1 rfl
  ·exact ne hk (h2.rows e he).typ.1 n2 e'
  ·exact ne hk (h2.rows e he).typ.2 n3 e'
 have hsto:Sto Z1 w s S2.nx S2.most sv R:=by
  have lo:=h2.ln.lo
  refine⟨h2.ln.st,⟨⟨lo.s,noth ts (by decide) (by decide) (by decide) (ne ts tx2 (by decide))⟩,
   fun g hg=>⟨lo.p g hg,nlin (h2.ln.st.ptyp g hg).2.2 (fun e=>h2.ln.apart g e hg)⟩,fun e he=>?_,fun k hk=>⟨lo.up k hk,fun hF=>?_⟩⟩,Ad6 h2.dd,Ad6 h2.gg⟩
  ·exact⟨⟨(lo.r e he).1,nrow (h2.ln.st.2 e he).typ.1 (fun e2 he2=>(Ai4 h2.dd he2 he).symm)⟩,⟨(lo.r e he).2,ncel (h2.ln.st.2 e he).typ.2 (fun e2 he2=>(Ai4 h2.gg he2 he).symm)⟩⟩
  ·rcases hF with e|e|⟨e,he,e'|e'⟩
   ·omega
   ·have:=(h2.ln.ltyp k e).2.1;omega
   ·have:=(Aj3 (h2.rows e he)).1;omega
   ·have:=(Aj3 (h2.rows e he)).2;omega
 refine⟨Z1,fun k hk=>hk.1,sv,R,eR,hsto,fun w' x1 S' hS hmost hf=>?_⟩
 obtain⟨sv',l1',L1',R',m,f1,fR⟩:=hS
 have out:∀k,F k->¬Z1 k:=fun k hF hz=>hz.2 hF
 have same:∀k,k<w.heap.size->F k->w'.heap[k]?=w.heap[k]?:=fun k hk hF=>hf.block k hk (.inl (out k hF))
 have hb2:Block w' x2 168 #[.pointer (some ⟨s,0,none⟩),.bool S2.kp,.int .i64 S2.cols,l2,.int .i64 S2.top,.int .i64 S2.bot]:=(same x2 hlt2 (.inl rfl)).trans h2.ln.blk
 have ho2:=Ac1 (w':=w') h2.ln.own (fun g hg=>same g (h2.ln.ltyp g hg).2.1 (.inr (.inl hg)))
 have hr2:∀e∈L2,RowG 0 w' e:=fun e he=>Ax9 (h2.rows e he) (same _ (Aj3 (h2.rows e he)).1 (.inr (.inr ⟨e,he,.inl rfl⟩))) (same _ (Aj3 (h2.rows e he)).2 (.inr (.inr ⟨e,he,.inr rfl⟩)))
 have hZ:∀k,Z1 k->Z k:=fun k hk=>hk.1
 refine⟨sv',R',l1',L1',l2,L2,MidX.zone m hZ,f1,fR,⟨⟨hb2,ho2,m.ln.st,fun g hg hs=>(m.ln.lo.p g hs).2 (.inr (.inl hg)),⟨h2.ln.lo.x,h2.ln.lo.s,h2.ln.lo.l,fun g hg=>hZ _ (m.ln.lo.p g hg),fun e he=>⟨hZ _ (m.ln.lo.r e he).1,hZ _ (m.ln.lo.r e he).2⟩,fun k hk=>hZ _ (m.ln.lo.up k hk)⟩,h2.ln.small⟩,hr2,h2.zr,?_,?_⟩,e2,fun e=>m.ln.lo.x.2 (.inl e),?_,?_,?_⟩
 ·exact Ag9 (Ae4 h2.dd) (Ad6 m.dd) fun a ha b hb e=>(m.ln.lo.r b hb).1.2 (.inr (.inr ⟨a,ha,.inl e.symm⟩))
 ·exact Ag9 (Ae4 h2.gg) (Ad6 m.gg) fun a ha b hb e=>(m.ln.lo.r b hb).2.2 (.inr (.inr ⟨a,ha,.inr e.symm⟩))
 ·exact fun g hg1 hg2=>(m.ln.lo.l g hg1).2 (.inr (.inl hg2))
 ·exact Ag9 (Ae4 m.dd) (Ae4 h2.dd) fun a ha b hb e=>(m.zr a ha).1.2 (.inr (.inr ⟨b,hb,.inl e⟩))
 ·exact Ag9 (Ae4 m.gg) (Ae4 h2.gg) fun a ha b hb e=>(m.zr a ha).2.2 (.inr (.inr ⟨b,hb,.inr e⟩))
theorem scr_eta (S:Scr):S=⟨S.nx,S.most,S.kp,S.cols,S.top,S.bot,S.L,S.R⟩:=rfl
theorem newS_kp (nx most rows cols:Nat) (R:List Ln):newS nx most rows cols false R=(Az6 nx rows cols).scr (nx+rows) most false R:=by
 have hL:=Cj9 nx most rows cols false R
 have hb:(newS nx most rows cols false R).bot=(newS nx most rows cols false R).L.length - 1:=rfl
 rw[hL,Af2] at hb
 rw[scr_eta (newS nx most rows cols false R),hL,hb]
 rfl
structure Made (Z:Zn) (w:World) (t:Nat) (T:Ter) (P:Pt) (x hn:Nat):Prop where
 bare:Bare Z w t T P.s P.jv P.rv (.pointer (some ⟨P.hm,0,none⟩)) (.pointer none) (.pointer (some ⟨P.tb,0,none⟩))
 main:Block w P.hm 143 (shA P.xm T.main.sv)
 side:Block w hn 143 (shA x sav0)
 two:Two Z w P.s x P.xm ((Az6 T.nx T.main.L.length T.main.cols).scr (T.nx+T.main.L.length) T.most false T.R) T.mscr
 tabs:Tbs.TabsIn w P.tb T.tn T.tf
 ne:hn≠P.hm
 zm:Z P.hm
 zb:Z P.tb
 zn:Z hn
theorem Bf0 (h:TMx Z w t T P) (hF:Fit T.mscr) (ho:T.other=none) (hnx:T.nx<=9900000000):Calls Tryz.prog 292 #[.pointer (some ⟨t,0,none⟩)] w fun e w'=>∃x hn,e=.returned (.pointer (some ⟨hn,0,none⟩))/\Made Z w' t T P x hn/\Scn.Fr Z TT w w':=by
 have hsc:=h.scr
 unfold Scrs at hsc
 rw[ho] at hsc
 have hv:T.vis=T.mscr:=by unfold Ter.vis Ter.mscr Ter.sh;rw[ho];rfl
 simp only[hv] at hsc
 obtain⟨Z1,hsub,sv,R,eR,hst,hbk⟩:=sc_beside hsc
 have hnew:=J0 (fun k:Eqt.Ext w=>Cc8 (hst.st.below k.below) ⟨hst.z.1,hst.z.2.1,hst.z.2.2.1,fun j hj=>hst.z.2.2.2 j (Nat.le_trans k.below.size hj)⟩ hst.d hst.g T.main.L.length T.main.cols false hF.len hF.len5 hF.c1 hF.c5 (by show T.nx+512<=10000000000;omega))
 have s18:=fun k:Eqt.Ext w=>(h.below k.below).c18
 have sm:=fun k:Eqt.Ext w=>(h.below k.below).main.cell 0 (v:=.pointer (some ⟨P.xm,0,none⟩)) rfl
 have c17:=fun k:Eqt.Ext w=>(h.below k.below).c17
 have hro:=J0 (fun k:Eqt.Ext w=>Af8 (hsc.below k.below) hF.len)
 have hco:=J0 (fun k:Eqt.Ext w=>Ai2 (hsc.below k.below) hF.len)
 change Hid (∀k:Eqt.Ext w,Calls Tryz.prog 70 #[.pointer (some ⟨P.xm,0,none⟩)] k.w fun e w'=>e=.returned (.int .i64 T.main.L.length)/\k.w=w') at hro
 change Hid (∀k:Eqt.Ext w,Calls Tryz.prog 124 #[.pointer (some ⟨P.xm,0,none⟩)] k.w fun e w'=>e=.returned (.int .i64 T.main.cols)/\k.w=w') at hco
 have hmk:Hid (∀w9 w1,Below w.heap.size w w9->SC Z1 w1 w9.heap.size P.s (newS T.mscr.nx T.mscr.most T.main.L.length T.main.cols false (vw R))->Scn.Fr Z1 PT w9 w1->Made Z (w1.alloc (.cells #[.pointer (some ⟨w9.heap.size,0,none⟩),.int .i64 0,.int .i64 0,.bool false,.int .u32 0,.int .u32 0,.int .u16 0,.int .u8 0,.int .u8 0,.int .i64 0,.bool false] 143)) t T P w9.heap.size w1.heap.size/\Scn.Fr Z TT w (w1.alloc (.cells #[.pointer (some ⟨w9.heap.size,0,none⟩),.int .i64 0,.int .i64 0,.bool false,.int .u32 0,.int .u32 0,.int .u16 0,.int .u8 0,.int .u8 0,.int .i64 0,.bool false] 143))):=J0 fun w9 w1 hb hs1 hf1=>by
  have hb2:=Aa1 w1 (.cells #[.pointer (some ⟨w9.heap.size,0,none⟩),.int .i64 0,.int .i64 0,.bool false,.int .u32 0,.int .u32 0,.int .u16 0,.int .u8 0,.int .u8 0,.int .i64 0,.bool false] 143)
  have hlow:∀k,k<6->¬Z1 k:=fun k hk hz=>h.low k hk (hsub k hz)
  have hbare:=h.bare
  rw[ho] at hbare
  have hf0:Scn.Fr Z1 PT w w1:=(Scn.Fr.of_below hb).trans hf1
  have hmn:=Scn.Block.fr (Scn.Block.fr h.main hf0 (.inl (by decide))) (Scn.Fr.of_below (B:=fun _=>True) (ts:=[]) hb2) (.inl (by simp))
  have htb:Tbs.TabsIn (w1.alloc (.cells #[.pointer (some ⟨w9.heap.size,0,none⟩),.int .i64 0,.int .i64 0,.bool false,.int .u32 0,.int .u32 0,.int .u16 0,.int .u8 0,.int .u8 0,.int .i64 0,.bool false] 143)) P.tb T.tn T.tf:=Scn.Block.fr (Scn.Block.fr h.tabs hf0 (.inl (by decide))) (Scn.Fr.of_below (B:=fun _=>True) (ts:=[]) hb2) (.inl (by simp))
  have htw:=hbk w1 w9.heap.size _ hs1 rfl hf0
  rw[newS_kp,eR] at htw
  have hm:=Block.made w1 143 #[.pointer (some ⟨w9.heap.size,0,none⟩),.int .i64 0,.int .i64 0,.bool false,.int .u32 0,.int .u32 0,.int .u16 0,.int .u8 0,.int .u8 0,.int .i64 0,.bool false]
  have hsz:=hf0.size
  have hlt:=h.main.lt
  exact⟨⟨(hbare.fr hf0 (by decide) hlow).below hb2,hmn,hm,htw.fr (B:=fun _=>True) (ts:=[]) (Scn.Fr.of_below hb2) (by simp[NoPT]),htb,by omega,h.zm,h.zb,h.up _ hsz⟩,((hf0.zone hsub).mono Cl6).trans (Scn.Fr.of_below hb2)⟩
 clear hst hbk hsc
 generalize P.hm=hm at s18 sm
 generalize P.xm=xm at sm hro hco
 clear h hF
 go_enter Tryz.func292,Tryz.ntmps292
 go_wp2
 refine Eqt.region_ext_any 20 #[true,true,true,true,true,true,true,true,true,true,true,true,true,true,true,true,true,true,true,true,false,false,false,false,false,false] (by kernel_rfl) (by kernel_rfl) ?_
 simp only[List.take_succ_cons,List.take_zero]
 repeat (go_big_quiet_step (first
  |(go_at_call 70;exact Eqt.q_ext_same (hro.out _))
  |(go_at_call 124;exact Eqt.q_ext_same (hco.out _))))
 refine wpQuiet_nil ?_
 intro w9 hw9
 obtain⟨k9,rfl⟩:=hw9
 have hnw:=hnew.out k9
 have hb9:=k9.below
 generalize k9.w=w9 at hb9 hnw |-
 refine wpAny_ready (rs:=[20]) (by kernel_rfl) (by simp) ?_
 refine AllReady.cons (o:=⟨some 26,.call _,_,_,_,_⟩) rfl (fun K hK=>?_) AllReady.nil
 go_simp
 go_at_call 54
 with_reducible refine hnw.mono ?_
 rintro e w1 ⟨rfl,hs1,hf1⟩
 refine hK _ _ ?_
 clear hK K
 refine wpAny_take (i:=21) (oi:=⟨some 5,_,_,_,_,_⟩) (v:=.tuple #[.pointer (some ⟨w9.heap.size,0,none⟩),.int .i64 0]) rfl (by kernel_rfl) (by kernel_rfl) (by kernel_rfl) (fun _ _ _ h=>h) (.inl ⟨by rfl,by intro w;go_simp⟩) ?_
 refine wpAny_take (i:=22) (oi:=⟨some 27,_,_,_,_,_⟩) (v:=.pointer (some ⟨w9.heap.size,0,none⟩)) rfl (by kernel_rfl) (by kernel_rfl) (by kernel_rfl) (fun _ _ _ h=>h) (.inl ⟨by rfl,by intro w;go_simp⟩) ?_
 refine wpAny_take (i:=23) (oi:=⟨some 28,_,_,_,_,_⟩) (v:=.int .i64 0) rfl (by kernel_rfl) (by kernel_rfl) (by kernel_rfl) (fun _ _ _ h=>h) (.inl ⟨by rfl,by intro w;go_simp⟩) ?_
 refine wpAny_take (i:=24) (oi:=⟨some 3,_,_,_,_,_⟩) (v:=.pointer (some ⟨w9.heap.size,0,none⟩)) rfl (by kernel_rfl) (by kernel_rfl) (by kernel_rfl) (fun _ _ _ h=>h) (.inl ⟨by rfl,by intro w;go_simp⟩) ?_
 refine wpAny_take (i:=25) (oi:=⟨some 4,_,_,_,_,_⟩) (v:=.int .i64 0) rfl (by kernel_rfl) (by kernel_rfl) (by kernel_rfl) (fun _ _ _ h=>h) (.inl ⟨by rfl,by intro w;go_simp⟩) ?_
 refine wpAny_done (by kernel_rfl) ?_ _
 dsimp only [Act.put]
 obtain⟨hM,hfM⟩:=hmk.out _ _ hb9 hs1 hf1
 go_wp2
 go_ret
 exact⟨_,_,rfl,hM,hfM⟩
theorem Made.shown {hn:Nat} (h:Made Z w t T P x hn):TMx Z (w.setCell ⟨t,19,none⟩ (.pointer (some ⟨hn,0,none⟩))) t (showOther T) ⟨P.s,P.xm,P.hm,x,hn,P.tb,P.jv,P.rv⟩/\Scn.Fr Z TT w (w.setCell ⟨t,19,none⟩ (.pointer (some ⟨hn,0,none⟩))):=by
 obtain⟨h1,hf⟩:=h.bare.turn (T':=T) (b18:=.pointer (some ⟨P.hm,0,none⟩)) (b19:=.pointer (some ⟨hn,0,none⟩)) (b20:=.pointer (some ⟨P.tb,0,none⟩)) (Only.setCell w ⟨t,19,none⟩ _) (h.bare.blk.set 19 _) rfl rfl
 have hmn:=Scn.Block.fr h.main hf (.inl (by decide))
 have hsd:=Scn.Block.fr h.side hf (.inl (by decide))
 have htb:Tbs.TabsIn _ P.tb T.tn T.tf:=Scn.Block.fr h.tabs hf (.inl (by decide))
 have htw:=h.two.fr hf (by unfold NoPT;decide)
 refine⟨⟨h1.blk,hmn,fun o ho=>?_,?_,htb,h1.jr,h1.rp,h1.zt,h.zm,h.zb,h1.zj,h1.zr,h1.up,h1.low,h1.tbl⟩,hf.mono (by simp[TT])⟩
 ·simp only[showOther,Option.some.injEq] at ho
  subst ho
  exact⟨hsd,h.ne,h.zn⟩
 ·obtain⟨sv,R,l1,L1,l2,L2,g1,e1,eR,g2,e2,hx,hl,hd,hg⟩:=htw
  exact⟨sv,R,l1,L1,l2,L2,g1,e1,eR,g2,e2,hx,hl,hd,hg⟩
theorem TMx.shownMain (h:TMx Z w t T P) {o:Sh} (ho:T.other=some o):TMx Z (w.setCell ⟨t,19,none⟩ (.pointer none)) t (showMain T) P/\Scn.Fr Z TT w (w.setCell ⟨t,19,none⟩ (.pointer none)):=by
 obtain⟨h1,hf⟩:=h.bare.turn (T':=T) (b18:=.pointer (some ⟨P.hm,0,none⟩)) (b19:=.pointer none) (b20:=.pointer (some ⟨P.tb,0,none⟩)) (Only.setCell w ⟨t,19,none⟩ _) (h.bare.blk.set 19 _) rfl rfl
 have hsc:=h.scr
 unfold Scrs at hsc
 rw[ho] at hsc
 have hsw:=hsc.swap.sc1.fr hf (by unfold NoPT;decide)
 have hmn:=Scn.Block.fr h.main hf (.inl (by decide))
 have htb:Tbs.TabsIn _ P.tb T.tn T.tf:=Scn.Block.fr h.tabs hf (.inl (by decide))
 exact⟨⟨h1.blk,hmn,fun o ho=>(by cases ho),hsw,htb,h1.jr,h1.rp,h1.zt,h.zm,h.zb,h1.zj,h1.zr,h1.up,h1.low,h1.tbl⟩,hf.mono (by simp[TT])⟩
theorem TMx.setAlt (h:TMx Z w t T P) (b:Bool):TMx Z (w.setCell ⟨t,6,none⟩ (.bool b)) t (setAlt T b) P/\Scn.Fr Z TT w (w.setCell ⟨t,6,none⟩ (.bool b)) :=
 h.turn (m:={ T.m with a6:=b }) (c:=T.c) (p:=T.p) (n:=T.prints) (e:=T.last) (Only.setCell w ⟨t,6,none⟩ _) (h.blk.set 6 _)
theorem TMx.setOrg (h:TMx Z w t T P) (b:Bool):TMx Z (w.setCell ⟨t,3,none⟩ (.bool b)) t (setOrg T b) P/\Scn.Fr Z TT w (w.setCell ⟨t,3,none⟩ (.bool b)) :=
 h.turn (m:={ T.m with a3:=b }) (c:=T.c) (p:=T.p) (n:=T.prints) (e:=T.last) (Only.setCell w ⟨t,3,none⟩ _) (h.blk.set 3 _)
theorem Ok.setOrg (h:Ok T) (b:Bool):Ok (setOrg T b):=⟨h.fit,h.fitm,h.rows,h.cols,h.row,h.col,h.sv,h.svm,h.tn,h.alt⟩
theorem Ok.save (h:Ok T):Ok (save T):=by
 obtain⟨h1,h2,h3,h4,h5,h6,h8,h9,h10,h11⟩:=h
 obtain⟨m,c,p,nx,most,R,main,other,tn,tf,pr,la,jr,rp⟩:=T
 cases other with
 |none=>exact⟨h1,h2,h3,h4,h5,h6,⟨h5,h6⟩,⟨h5,h6⟩,h10,h11⟩
 |some o=>exact⟨h1,h2,h3,h4,h5,h6,⟨h5,h6⟩,h9,h10,h11⟩
theorem Ok.showMain (h:Ok T):Ok (showMain (Emu.setAlt T false)) :=
 ⟨h.fitm,h.fitm,rfl,rfl,by show T.c.row<T.main.L.length;rw[h.rows];exact h.row,by show T.c.col<T.main.cols;rw[h.cols];exact h.col,h.svm,h.svm,h.tn.trans h.cols.symm,rfl⟩
theorem Ok.showOther (h:Ok T):Ok (showOther (Emu.setAlt T true)):=by
 have hF:=h.fitm
 have hf:=Bs1 T.nx T.main.L.length T.main.cols T.most T.R hF.len hF.len5 hF.c1 hF.c5 hF.pos
 have hL:(Ae9 T.nx T.main.cols T.main.L.length zeroAt).length=T.main.L.length:=Af2 _ _ _ _
 refine⟨⟨hf.len,hf.len5,hf.bot,hf.top,hf.c1,hf.c5,hf.wid,hf.ids,hf.pos⟩,Cp9 hF (Nat.le_add_right _ _) T.R,hL.symm,rfl,?_,?_,⟨?_,hF.c1⟩,h.svm,h.tn.trans h.cols.symm,rfl⟩
 ·show T.c.row<(Ae9 T.nx T.main.cols T.main.L.length zeroAt).length
  rw[hL,h.rows]
  exact h.row
 ·show T.c.col<T.main.cols
  rw[h.cols]
  exact h.col
 ·show 0<(Ae9 T.nx T.main.cols T.main.L.length zeroAt).length
  rw[hL]
  exact hF.len
theorem setOrigin_any (h:TM Z w t T) (ok:Ok T) (hj:T.jr.length<=90000000) (on:Bool):Calls Tryz.prog 277 #[.pointer (some ⟨t,0,none⟩),.bool on] w (Does Z w t (setOrigin T on)):=by
 obtain⟨P,h⟩:=h
 have c3:=h.c3
 have f3:=h.free 3
 obtain⟨h1,hf1⟩:=h.setOrg on
 have hho:=J0 (Bd2 h1.tm (ok.setOrg on) hj)
 unfold setOrigin
 generalize home (setOrg T on)=T1 at hho |-
 clear h ok hj h1
 go_enter Tryz.func277,Tryz.ntmps277
 go_wp2_with (first
  |(go_at_call 248;(with_reducible refine(hho.out).mono ?_);rintro e w3 ⟨⟨v3,rfl⟩,h3,hf3⟩))
 go_end0
 exact⟨⟨_,rfl⟩,h3,hf1.trans hf3⟩
theorem setSaved_any (h:TM Z w t T) (ok:Ok T) (hj:T.jr.length<=90000000) (on:Bool):Calls Tryz.prog 279 #[.pointer (some ⟨t,0,none⟩),.bool on] w (Does Z w t (setSaved T on)):=by
 unfold setSaved
 cases on
 ·have hs:=J0 (Au0 h ok hj)
  simp only[Bool.false_eq_true,if_false]
  generalize restore T=T1 at hs |-
  clear h ok hj
  go_enter Tryz.func279,Tryz.ntmps279
  go_wp2_with (first
   |(go_at_call 139;(with_reducible refine(hs.out).mono ?_);rintro e w3 ⟨⟨v3,rfl⟩,h3,hf3⟩))
  go_end0
  exact⟨⟨_,rfl⟩,h3,hf3⟩
 ·have hs:=J0 (Bp6 h)
  simp only[if_true]
  generalize save T=T1 at hs |-
  clear h ok hj
  go_enter Tryz.func279,Tryz.ntmps279
  go_wp2_with (first
   |(go_at_call 138;(with_reducible refine(hs.out).mono ?_);rintro e w3 ⟨⟨v3,rfl⟩,h3,hf3⟩))
  go_end0
  exact⟨⟨_,rfl⟩,h3,hf3⟩
end
section
variable {Z Z1:Zn}{w w':World}{t x s:Nat}{S:Scr}{T:Ter}{P:Pt}{v:Value}{l:List Int}
theorem setOther_same (h:TM Z w t T):Calls Tryz.prog 278 #[.pointer (some ⟨t,0,none⟩),.bool T.m.a6] w (Does Z w t T):=by
 have hres:=h
 obtain⟨P,h⟩:=h
 have c6:=h.c6
 generalize T.m.a6=b at c6 |-
 clear h
 cases b
 ·go_enter Tryz.func278,Tryz.ntmps278
  go_wp2
  go_end0
  exact⟨⟨_,rfl⟩,hres,Scn.Fr.refl _ _ _⟩
 ·go_enter Tryz.func278,Tryz.ntmps278
  go_wp2
  go_end0
  exact⟨⟨_,rfl⟩,hres,Scn.Fr.refl _ _ _⟩
def Cc1 (T:Ter):Ter:=move T T.c.row T.c.col
theorem setOther_on (h:TM Z w t T) (ok:Ok T) (hj:T.jr.length<=90000000) (hnx:T.nx<=9900000000) (ha:T.m.a6=false):Calls Tryz.prog 278 #[.pointer (some ⟨t,0,none⟩),.bool true] w (Does Z w t (Cc1 (showOther (setAlt T true)))):=by
 obtain⟨P,h⟩:=h
 have ho:T.other=none:=by
  have:=ok.alt
  rw[ha] at this
  cases hoo:T.other with
  |none=>rfl
  |some o=>rw[hoo] at this;cases this
 have c6:=h.c6
 rw[ha] at c6
 have f6:=h.free 6
 obtain⟨h1,hf1⟩:=h.setAlt true
 have hfr:=J0 (Bf0 h1 ok.fitm ho hnx)
 have hsh:Hid (∀w2 x hn,Made Z w2 t (setAlt T true) P x hn->w2.cell? ⟨t,19,none⟩=some (.pointer none)/\w2.frozen? ⟨t,19,none⟩=false/\TM Z (w2.setCell ⟨t,19,none⟩ (.pointer (some ⟨hn,0,none⟩))) t (showOther (setAlt T true))/\Scn.Fr Z TT w2 (w2.setCell ⟨t,19,none⟩ (.pointer (some ⟨hn,0,none⟩)))):=J0 fun w2 x hn hM =>
  ⟨hM.bare.cells.2.2.2.1,hM.bare.cells.1 19,hM.shown.1.tm,hM.shown.2⟩
 have hok:=ok.showOther
 have hj2:(showOther (setAlt T true)).jr.length<=90000000:=hj
 have hmv:=J0 (fun w3 (h3:TM Z w3 t (showOther (setAlt T true)))=>Ac9 h3 hok hj2 T.c.row T.c.col)
 have hcl:Hid (∀w3,TM Z w3 t (showOther (setAlt T true))->(∀k:Eqt.Ext w3,k.w.cell? ⟨t,8,none⟩=some (.int .i64 T.c.row))/\(∀k:Eqt.Ext w3,k.w.cell? ⟨t,9,none⟩=some (.int .i64 T.c.col))/\∀w4,Below w3.heap.size w3 w4->TM Z w4 t (showOther (setAlt T true))):=J0 fun w3 ⟨P3,h3⟩ =>
  ⟨fun k=>(h3.below k.below).c8,fun k=>(h3.below k.below).c9,fun w4 hb=>(h3.below hb).tm⟩
 unfold Cc1
 change Calls _ _ _ _ (Does Z w t (move (showOther (setAlt T true)) T.c.row T.c.col))
 generalize move (showOther (setAlt T true)) T.c.row T.c.col=T2 at hmv |-
 generalize showOther (setAlt T true)=T1 at hmv hcl hsh
 generalize T.c.row=row at hmv hcl
 generalize T.c.col=col at hmv hcl
 clear h ok hj hnx ha ho hok hj2 h1
 go_enter Tryz.func278,Tryz.ntmps278
 go_wp2_with (first
  |(go_at_call 292;(with_reducible refine hfr.out.mono ?_);rintro e w2 ⟨x,hn,rfl,hM,hf2⟩;obtain⟨k19,f19,h3,hf3⟩:=hsh.out _ _ _ hM))
 obtain⟨c8,c9,hb3⟩:=hcl.out _ h3
 replace hb3:=J0 hb3
 generalize w2.setCell ⟨t,19,none⟩ (.pointer (some ⟨hn,0,none⟩))=w3 at h3 hf3 c8 c9 hb3 |-
 clear hM k19 f19 hcl hsh hfr
 refine Eqt.region_ext_tail 11 (by kernel_rfl) (by kernel_rfl) ?_
 simp only[List.take_succ_cons,List.take_zero,List.drop_succ_cons,List.drop_zero]
 repeat (go_big_quiet_step (fail))
 refine wpQuiet_nil ?_
 intro w9 hw9
 obtain⟨k9,rfl⟩:=hw9
 have hb9:=k9.below
 generalize k9.w=w9 at hb9 |-
 have h4:=hb3.out _ hb9
 go_wp2_with (first
  |(go_at_call 172;(with_reducible refine(hmv.out _ h4).mono ?_);rintro e w5 ⟨⟨v5,rfl⟩,h5,hf5⟩))
 go_end0
 exact⟨⟨_,rfl⟩,h5,(((hf1.trans hf2).trans hf3).trans (Aa9 hb9)).trans hf5⟩
theorem setOther_off (h:TM Z w t T) (ok:Ok T) (hj:T.jr.length<=90000000) (ha:T.m.a6=true):Calls Tryz.prog 278 #[.pointer (some ⟨t,0,none⟩),.bool false] w (Does Z w t (Cc1 (showMain (setAlt T false)))):=by
 obtain⟨P,h⟩:=h
 obtain⟨o,ho⟩:∃o,T.other=some o:=by
  have:=ok.alt
  rw[ha] at this
  cases hoo:T.other with
  |none=>rw[hoo] at this;cases this
  |some o=>exact⟨o,rfl⟩
 have c6:=h.c6
 rw[ha] at c6
 have f6:=h.free 6
 have c19:=h.c19
 have f19:=h.free 19
 obtain⟨h1,hf1⟩:=h.setAlt false
 obtain⟨h2,hf2⟩:=h1.shownMain ho
 have hok:=ok.showMain
 have hj2:(showMain (setAlt T false)).jr.length<=90000000:=hj
 have hmv:=J0 (fun w3 (h3:TM Z w3 t (showMain (setAlt T false)))=>Ac9 h3 hok hj2 T.c.row T.c.col)
 have c8:=fun k:Eqt.Ext ((w.setCell ⟨t,6,none⟩ (.bool false)).setCell ⟨t,19,none⟩ (.pointer none))=>(h2.below k.below).c8
 have c9:=fun k:Eqt.Ext ((w.setCell ⟨t,6,none⟩ (.bool false)).setCell ⟨t,19,none⟩ (.pointer none))=>(h2.below k.below).c9
 have hb3:=J0 (fun w4 (hb:Below ((w.setCell ⟨t,6,none⟩ (.bool false)).setCell ⟨t,19,none⟩ (.pointer none)).heap.size ((w.setCell ⟨t,6,none⟩ (.bool false)).setCell ⟨t,19,none⟩ (.pointer none)) w4)=>(h2.below hb).tm)
 unfold Cc1
 change Calls _ _ _ _ (Does Z w t (move (showMain (setAlt T false)) T.c.row T.c.col))
 change ∀k:Eqt.Ext ((w.setCell ⟨t,6,none⟩ (.bool false)).setCell ⟨t,19,none⟩ (.pointer none)),k.w.cell? ⟨t,8,none⟩=some (.int .i64 T.c.row) at c8
 change ∀k:Eqt.Ext ((w.setCell ⟨t,6,none⟩ (.bool false)).setCell ⟨t,19,none⟩ (.pointer none)),k.w.cell? ⟨t,9,none⟩=some (.int .i64 T.c.col) at c9
 generalize move (showMain (setAlt T false)) T.c.row T.c.col=T2 at hmv |-
 generalize showMain (setAlt T false)=T1 at hmv hb3
 generalize T.c.row=row at hmv c8
 generalize T.c.col=col at hmv c9
 generalize optP T.other P.ho=op at c19
 clear h ok hj ha ho hok hj2 h1 h2
 go_enter Tryz.func278,Tryz.ntmps278
 go_wp2
 generalize (w.setCell ⟨t,6,none⟩ (.bool false)).setCell ⟨t,19,none⟩ (.pointer none)=w3 at hf2 c8 c9 hb3 |-
 refine Eqt.region_ext_tail 11 (by kernel_rfl) (by kernel_rfl) ?_
 simp only[List.take_succ_cons,List.take_zero,List.drop_succ_cons,List.drop_zero]
 repeat (go_big_quiet_step (fail))
 refine wpQuiet_nil ?_
 intro w9 hw9
 obtain⟨k9,rfl⟩:=hw9
 have hb9:=k9.below
 generalize k9.w=w9 at hb9 |-
 have h4:=hb3.out _ hb9
 go_wp2_with (first
  |(go_at_call 172;(with_reducible refine(hmv.out _ h4).mono ?_);rintro e w5 ⟨⟨v5,rfl⟩,h5,hf5⟩))
 go_end0
 exact⟨⟨_,rfl⟩,h5,((hf1.trans hf2).trans (Aa9 hb9)).trans hf5⟩
theorem Am3 (h:TM Z w t T) (ok:Ok T) (hj:T.jr.length<=90000000) (hnx:T.nx<=9900000000) (on:Bool):Calls Tryz.prog 278 #[.pointer (some ⟨t,0,none⟩),.bool on] w (Does Z w t (setOther T on)):=by
 unfold setOther
 by_cases e:on=T.m.a6
 ·rw[if_pos e,e]
  exact setOther_same h
 ·rw[if_neg e]
  cases on
  ·exact setOther_off h ok hj (by cases ha:T.m.a6<;>simp_all)
  ·exact setOther_on h ok hj hnx (by cases ha:T.m.a6<;>simp_all)
theorem Ok.setOther (h:Ok T) (on:Bool):Ok (setOther T on):=by
 unfold Emu.setOther
 split
 ·exact h
 ·cases on
  ·exact h.showMain.move _ _
  ·exact h.showOther.move _ _
theorem Bg2 (T:Ter) (s:Sav):(T.putSv s).jr=T.jr:=by unfold Ter.putSv;split<;>rfl
theorem Bg5 (T:Ter) (s:Sav):(T.putSv s).nx=T.nx:=by unfold Ter.putSv;split<;>rfl
theorem Ao5 (T:Ter) (on:Bool):(setOther T on).jr.length<=T.jr.length+1:=by
 unfold setOther
 split
 ·omega
 ·cases on<;>(show (T.jr++[_]).length<=_;simp)
theorem setOtherSaved_any (h:TM Z w t T) (ok:Ok T) (hj:T.jr.length<=89000000) (hnx:T.nx<=9900000000) (on:Bool):Calls Tryz.prog 280 #[.pointer (some ⟨t,0,none⟩),.bool on] w (Does Z w t (setOtherSaved T on)):=by
 unfold setOtherSaved
 have c6:w.cell? ⟨t,6,none⟩=some (.bool T.m.a6):=by
  obtain⟨P,h⟩:=h
  exact h.c6
 by_cases e:on=T.m.a6
 ·rw[if_pos e]
  have hres:=h
  rw[<- e] at c6
  clear h ok hj hnx e
  cases on
  ·go_enter Tryz.func280,Tryz.ntmps280
   go_wp2
   go_end0
   exact⟨⟨_,rfl⟩,hres,Scn.Fr.refl _ _ _⟩
  ·go_enter Tryz.func280,Tryz.ntmps280
   go_wp2
   go_end0
   exact⟨⟨_,rfl⟩,hres,Scn.Fr.refl _ _ _⟩
 ·rw[if_neg e]
  cases on
  ·have ha:T.m.a6=true:=by cases hh:T.m.a6<;>simp_all
   rw[ha] at c6
   simp only[Bool.false_eq_true,if_false]
   have hs:=J0 (Am3 h ok (by omega) hnx false)
   have hr:=J0 (fun w2 (h2:TM Z w2 t (setOther T false))=>Au0 h2 (ok.setOther false) (by have:=Ao5 T false;omega))
   generalize restore (setOther T false)=T2 at hr |-
   generalize setOther T false=T1 at hs hr
   clear h ok hj hnx e ha
   go_enter Tryz.func280,Tryz.ntmps280
   go_wp2_with (first
    |(go_at_call 278;(with_reducible refine(hs.out).mono ?_);rintro e w2 ⟨⟨v2,rfl⟩,h2,hf2⟩)
    |(go_at_call 139;(with_reducible refine(hr.out _ h2).mono ?_);rintro e w3 ⟨⟨v3,rfl⟩,h3,hf3⟩))
   go_end0
   exact⟨⟨_,rfl⟩,h3,hf2.trans hf3⟩
  ·have ha:T.m.a6=false:=by cases hh:T.m.a6<;>simp_all
   rw[ha] at c6
   simp only[if_true]
   have hs:=J0 (Bp6 h)
   have hr:=J0 (fun w2 (h2:TM Z w2 t (save T))=>Am3 h2 ok.save (by rw[show (save T).jr=T.jr from Bg2 _ _];omega) (by rw[show (save T).nx=T.nx from Bg5 _ _];omega) true)
   generalize setOther (save T) true=T2 at hr |-
   generalize save T=T1 at hs hr
   clear h ok hj hnx e ha
   go_enter Tryz.func280,Tryz.ntmps280
   go_wp2_with (first
    |(go_at_call 138;(with_reducible refine(hs.out).mono ?_);rintro e w2 ⟨⟨v2,rfl⟩,h2,hf2⟩)
    |(go_at_call 278;(with_reducible refine(hr.out _ h2).mono ?_);rintro e w3 ⟨⟨v3,rfl⟩,h3,hf3⟩))
   go_end0
   exact⟨⟨_,rfl⟩,h3,hf2.trans hf3⟩
end
