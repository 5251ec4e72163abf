/- Part 33 of HostKeys. -/
import Derived.Test.YtecnpoigegiooaaGreatDoorW32
import Derived.Shelf.Abstract
set_option maxHeartbeats 16000000
set_option maxRecDepth 100000
namespace Go.Proofs.YtecnpoigegiooaaGreatDoor.Emu
open Go.Proofs.Tryz
open Go RowKit Com Rw Lns Scn
section
variable {Z Z1:Zn}{w w':World}{t x s:Nat}{S:Scr}{T:Ter}{P:Pt}{v:Value}{l:List Int}
theorem Ccb{x2:Nat}{S2:Scr}(h:SC Z w x2 s S2):∃Z1:Zn,(∀k,Z1 k->Z k)/\∃sv R,vw R=S2.R/\Sto Z1 w s S2.nx S2.most sv R /\
  ∀w' x1 S',SC Z1 w' x1 s S'->S'.most=S2.most->Scn.Fr Z1 PT w w'->Two Z w' s x1 x2 S' S2:=by
 obtain⟨sv,l2,L2,R,h2,e2,eR⟩:=h
 have tx2:=h2.ln.typ
 have ts:=h2.ln.st.typ
 have tl2:=fun g hg=>(h2.ln.Q2 g hg).2.2
 have Axp:=h2.ln.blk.lt
 have ne:∀ {k k':Nat} {t t':TypeId},Typ w k t->Typ w k' t'->t≠t'->k≠k':=fun h h' ht e=>ht (Typ.inj h (e▸h'))
 let F:Zn:=fun k=>k=x2\/l2.ownBlock=some k\/∃e∈L2,k=e.d\/k=e.g
 let Z1:Zn:=fun k=>Z k/\¬F k
 have nrow:∀ {k:Nat},Typ w k 191->(∀e∈L2,k≠e.d)->¬F k:=fun hk hd' hF=>by
  rcases hF with e|e|⟨e,he,e'|e'⟩
  ·exact ne hk tx2 (by decide) e
  ·exact ne hk (tl2 _ e) (by decide) rfl
  ·exact hd' e he e'
  ·exact ne hk (h2.rows e he).typ.2 (by decide) e'
 have ncel:∀ {k:Nat},Typ w k 194->(∀e∈L2,k≠e.g)->¬F k:=fun hk hd' hF=>by
  rcases hF with e|e|⟨e,he,e'|e'⟩
  ·exact ne hk tx2 (by decide) e
  ·exact ne hk (tl2 _ e) (by decide) rfl
  ·exact ne hk (h2.rows e he).typ.1 (by decide) e'
  ·exact hd' e he e'
 have nlin:∀ {k:Nat},Typ w k 188->l2.ownBlock≠some k->¬F k:=fun hk hn hF=>by
  rcases hF with e|e|⟨e,he,e'|e'⟩
  ·exact ne hk tx2 (by decide) e
  ·exact hn e
  ·exact ne hk (h2.rows e he).typ.1 (by decide) e'
  ·exact ne hk (h2.rows e he).typ.2 (by decide) e'
 have noth:∀ {k:Nat} {t:TypeId},Typ w k t->t≠188->t≠191->t≠194->k≠x2->¬F k:=fun hk n1 n2 n3 hn hF=>by
  rcases hF with e|e|⟨e,he,e'|e'⟩
  ·exact hn e
  ·exact ne hk (tl2 _ e) n1 rfl
  ·exact ne hk (h2.rows e he).typ.1 n2 e'
  ·exact ne hk (h2.rows e he).typ.2 n3 e'
 have Amd:Sto Z1 w s S2.nx S2.most sv R:=by
  have lo:=h2.ln.lo
  refine⟨h2.ln.st,⟨⟨lo.s,noth ts (by decide) (by decide) (by decide) (ne ts tx2 (by decide))⟩,
   fun g hg=>⟨lo.p g hg,nlin (h2.ln.st.Aci g hg).2.2 (fun e=>h2.ln.apart g e hg)⟩,fun e he=>?_,fun k hk=>⟨lo.up k hk,fun hF=>?_⟩⟩,Afr h2.dd,Afr h2.gg⟩
  ·exact⟨⟨(lo.r e he).1,nrow (h2.ln.st.2 e he).typ.1 (fun e2 he2=>(Amo h2.dd he2 he).symm)⟩,⟨(lo.r e he).2,ncel (h2.ln.st.2 e he).typ.2 (fun e2 he2=>(Amo h2.gg he2 he).symm)⟩⟩
  ·rcases hF with e|e|⟨e,he,e'|e'⟩
   ·omega
   ·have:=(h2.ln.Q2 k e).2.1;omega
   ·have:=(Adw (h2.rows e he)).1;omega
   ·have:=(Adw (h2.rows e he)).2;omega
 refine⟨Z1,fun k hk=>hk.1,sv,R,eR,Amd,fun w' x1 S' hS Crp hf=>?_⟩
 obtain⟨sv',l1',L1',R',m,f1,fR⟩:=hS
 have out:∀k,F k->¬Z1 k:=fun k hF hz=>hz.2 hF
 have same:∀k,k<w.heap.size->F k->w'.heap[k]?=w.heap[k]?:=fun k hk hF=>hf.block k hk (.inl (out k hF))
 have hb2:Block w' x2 168 #[.pointer (some ⟨s,0,none⟩),.bool S2.kp,.int .i64 S2.cols,l2,.int .i64 S2.top,.int .i64 S2.bot]:=(same x2 Axp (.inl rfl)).trans h2.ln.blk
 have ho2:=V4 (w':=w') h2.ln.own (fun g hg=>same g (h2.ln.Q2 g hg).2.1 (.inr (.inl hg)))
 have hr2:∀e∈L2,O4 0 w' e:=fun e he=>Aun (h2.rows e he) (same _ (Adw (h2.rows e he)).1 (.inr (.inr ⟨e,he,.inl rfl⟩))) (same _ (Adw (h2.rows e he)).2 (.inr (.inr ⟨e,he,.inr rfl⟩)))
 have hZ:∀k,Z1 k->Z k:=fun k hk=>hk.1
 refine⟨sv',R',l1',L1',l2,L2,E2.Afp m hZ,f1,fR,⟨⟨hb2,ho2,m.ln.st,fun g hg hs=>(m.ln.lo.p g hs).2 (.inr (.inl hg)),⟨h2.ln.lo.x,h2.ln.lo.s,h2.ln.lo.l,fun g hg=>hZ _ (m.ln.lo.p g hg),fun e he=>⟨hZ _ (m.ln.lo.r e he).1,hZ _ (m.ln.lo.r e he).2⟩,fun k hk=>hZ _ (m.ln.lo.up k hk)⟩,h2.ln.small⟩,hr2,h2.zr,?_,?_⟩,e2,fun e=>m.ln.lo.x.2 (.inl e),?_,?_,?_⟩
 ·exact Aiz (Afs h2.dd) (Afr m.dd) fun a ha b hb e=>(m.ln.lo.r b hb).1.2 (.inr (.inr ⟨a,ha,.inl e.symm⟩))
 ·exact Aiz (Afs h2.gg) (Afr m.gg) fun a ha b hb e=>(m.ln.lo.r b hb).2.2 (.inr (.inr ⟨a,ha,.inr e.symm⟩))
 ·exact fun g hg1 hg2=>(m.ln.lo.l g hg1).2 (.inr (.inl hg2))
 ·exact Aiz (Afs m.dd) (Afs h2.dd) fun a ha b hb e=>(m.zr a ha).1.2 (.inr (.inr ⟨b,hb,.inl e⟩))
 ·exact Aiz (Afs m.gg) (Afs h2.gg) fun a ha b hb e=>(m.zr a ha).2.2 (.inr (.inr ⟨b,hb,.inr e⟩))
theorem Cmb(S:Scr):S=⟨S.nx,S.most,S.kp,S.cols,S.top,S.bot,S.L,S.R⟩:=rfl
theorem Clf(nx most rows cols:Nat)(R:List Ln):W4 nx most rows cols false R=(Anj nx rows cols).scr (nx+rows) most false R:=by
 have hL:=Bck nx most rows cols false R
 have hb:(W4 nx most rows cols false R).bot=(W4 nx most rows cols false R).L.length-1:=rfl
 rw[hL,Agy]at hb
 rw[Cmb (W4 nx most rows cols false R),hL,hb]
 rfl
structure Made(Z:Zn)(w:World)(t:Nat)(T:Ter)(P:Pt)(x hn:Nat):Prop where
 bare:N5 Z w t T P.s P.jv P.rv (.pointer (some ⟨P.hm,0,none⟩)) (.pointer none) (.pointer (some ⟨P.tb,0,none⟩))
 main:Block w P.hm 143 (shA P.xm T.main.sv)
 side:Block w hn 143 (shA x Ate)
 two:Two Z w P.s x P.xm ((Anj T.nx T.main.L.length T.main.cols).scr (T.nx+T.main.L.length) T.most false T.R) T.Afo
 V3:Tbs.G2 w P.tb T.tn T.tf
 ne:hn≠P.hm
 zm:Z P.hm
 zb:Z P.tb
 zn:Z hn
theorem Azv(h:TMx Z w t T P)(hF:Fit T.Afo)(ho:T.other=none)(hnx:T.nx<=9900000000):Calls prog 292 #[.pointer (some ⟨t,0,none⟩)] w fun e w'=>∃x hn,e=.returned (.pointer (some ⟨hn,0,none⟩))/\Made Z w' t T P x hn/\Scn.Fr Z TT w w':=by
 have hsc:=h.scr
 unfold Y0 at hsc
 rw[ho]at hsc
 have hv:T.vis=T.Afo:=by unfold Ter.vis Ter.Afo Ter.sh;rw[ho];rfl
 simp only[hv]at hsc
 obtain⟨Z1,M3,sv,R,eR,hst,hbk⟩:=Ccb hsc
 have Adh:=J0 (fun k:Eqt.Ext w=>Bkj (hst.st.below k.below) ⟨hst.z.1,hst.z.2.1,hst.z.2.2.1,fun j hj=>hst.z.2.2.2 j (Nat.le_trans k.below.size hj)⟩ hst.d hst.g T.main.L.length T.main.cols false hF.len hF.G8 hF.c1 hF.c5 (by show T.nx+512<=10000000000;omega))
 have s18:=fun k:Eqt.Ext w=>(h.below k.below).c18
 have sm:=fun k:Eqt.Ext w=>(h.below k.below).main.cell 0 (v:=.pointer (some ⟨P.xm,0,none⟩)) rfl
 have c17:=fun k:Eqt.Ext w=>(h.below k.below).c17
 have hro:=J0 (fun k:Eqt.Ext w=>Adx (hsc.below k.below) hF.len)
 have hco:=J0 (fun k:Eqt.Ext w=>Aco (hsc.below k.below) hF.len)
 change Hid (∀k:Eqt.Ext w,Calls prog 70 #[.pointer (some ⟨P.xm,0,none⟩)] k.w fun e w'=>e=.returned (.int .i64 T.main.L.length)/\k.w=w')at hro
 change Hid (∀k:Eqt.Ext w,Calls prog 124 #[.pointer (some ⟨P.xm,0,none⟩)] k.w fun e w'=>e=.returned (.int .i64 T.main.cols)/\k.w=w')at hco
 have hmk:Hid (∀w9 w1,Below w.heap.size w w9->SC Z1 w1 w9.heap.size P.s (W4 T.Afo.nx T.Afo.most T.main.L.length T.main.cols false (vw R))->Scn.Fr Z1 PT w9 w1->Made Z (w1.alloc (.cells #[.pointer (some ⟨w9.heap.size,0,none⟩),.int .i64 0,.int .i64 0,.bool false,.int .u32 0,.int .u32 0,.int .u16 0,.int .u8 0,.int .u8 0,.int .i64 0,.bool false] 143)) t T P w9.heap.size w1.heap.size/\Scn.Fr Z TT w (w1.alloc (.cells #[.pointer (some ⟨w9.heap.size,0,none⟩),.int .i64 0,.int .i64 0,.bool false,.int .u32 0,.int .u32 0,.int .u16 0,.int .u8 0,.int .u8 0,.int .i64 0,.bool false] 143))):=J0 fun w9 w1 hb hs1 hf1=>by
  have hb2:=A3 w1 (.cells #[.pointer (some ⟨w9.heap.size,0,none⟩),.int .i64 0,.int .i64 0,.bool false,.int .u32 0,.int .u32 0,.int .u16 0,.int .u8 0,.int .u8 0,.int .i64 0,.bool false] 143)
  have N1:∀k,k<6->¬Z1 k:=fun k hk hz=>h.low k hk (M3 k hz)
  have Aws:=h.bare
  rw[ho]at Aws
  have hf0:Scn.Fr Z1 PT w w1:=(Scn.Fr.A1 hb).trans hf1
  have hmn:=Scn.Block.fr (Scn.Block.fr h.main hf0 (.inl (by decide))) (Scn.Fr.A1 (B:=fun _=>True) (ts:=[]) hb2) (.inl (by simp))
  have htb:Tbs.G2 (w1.alloc (.cells #[.pointer (some ⟨w9.heap.size,0,none⟩),.int .i64 0,.int .i64 0,.bool false,.int .u32 0,.int .u32 0,.int .u16 0,.int .u8 0,.int .u8 0,.int .i64 0,.bool false] 143)) P.tb T.tn T.tf:=Scn.Block.fr (Scn.Block.fr h.V3 hf0 (.inl (by decide))) (Scn.Fr.A1 (B:=fun _=>True) (ts:=[]) hb2) (.inl (by simp))
  have htw:=hbk w1 w9.heap.size _ hs1 rfl hf0
  rw[Clf,eR]at htw
  have hm:=Block.made w1 143 #[.pointer (some ⟨w9.heap.size,0,none⟩),.int .i64 0,.int .i64 0,.bool false,.int .u32 0,.int .u32 0,.int .u16 0,.int .u8 0,.int .u8 0,.int .i64 0,.bool false]
  have hsz:=hf0.size
  have hlt:=h.main.lt
  exact⟨⟨(Aws.fr hf0 (by decide) N1).below hb2,hmn,hm,htw.fr (B:=fun _=>True) (ts:=[]) (Scn.Fr.A1 hb2) (by simp[P0]),htb,by omega,h.zm,h.zb,h.up _ hsz⟩,((hf0.Afp M3).mono Aro).trans (Scn.Fr.A1 hb2)⟩
 clear hst hbk hsc
 generalize P.hm=hm at s18 sm
 generalize P.xm=xm at sm hro hco
 clear h hF
 go_enter func292,ntmps292
 go_wp2
 refine Eqt.Bsh 20 #[true,true,true,true,true,true,true,true,true,true,true,true,true,true,true,true,true,true,true,true,false,false,false,false,false,false] (by kernel_rfl) (by kernel_rfl) ?_
 simp only[List.take_succ_cons,List.take_zero]
 repeat (go_big_quiet_step (first
  |(go_at_call 70;exact Eqt.H7 (hro.out _))
  |(go_at_call 124;exact Eqt.H7 (hco.out _))))
 refine wpQuiet_nil ?_
 intro w9 hw9
 obtain⟨k9,rfl⟩:=hw9
 have hnw:=Adh.out k9
 have hb9:=k9.below
 generalize k9.w=w9 at hb9 hnw |-
 refine wpAny_ready (rs:=[20]) (by kernel_rfl) (by simp) ?_
 refine AllReady.cons (o:=⟨some 26,.call _,_,_,_,_⟩) rfl (fun K hK=>?_) AllReady.nil
 go_simp
 go_at_call 54
 with_reducible refine hnw.mono ?_
 rintro e w1 ⟨rfl,hs1,hf1⟩
 refine hK _ _ ?_
 clear hK K
 refine wpAny_take (i:=21) (oi:=⟨some 5,_,_,_,_,_⟩) (v:=.tuple #[.pointer (some ⟨w9.heap.size,0,none⟩),.int .i64 0]) rfl (by kernel_rfl) (by kernel_rfl) (by kernel_rfl) (fun _ _ _ h=>h) (.inl ⟨by rfl,by intro w;go_simp⟩) ?_
 refine wpAny_take (i:=22) (oi:=⟨some 27,_,_,_,_,_⟩) (v:=.pointer (some ⟨w9.heap.size,0,none⟩)) rfl (by kernel_rfl) (by kernel_rfl) (by kernel_rfl) (fun _ _ _ h=>h) (.inl ⟨by rfl,by intro w;go_simp⟩) ?_
 refine wpAny_take (i:=23) (oi:=⟨some 28,_,_,_,_,_⟩) (v:=.int .i64 0) rfl (by kernel_rfl) (by kernel_rfl) (by kernel_rfl) (fun _ _ _ h=>h) (.inl ⟨by rfl,by intro w;go_simp⟩) ?_
 refine wpAny_take (i:=24) (oi:=⟨some 3,_,_,_,_,_⟩) (v:=.pointer (some ⟨w9.heap.size,0,none⟩)) rfl (by kernel_rfl) (by kernel_rfl) (by kernel_rfl) (fun _ _ _ h=>h) (.inl ⟨by rfl,by intro w;go_simp⟩) ?_
 refine wpAny_take (i:=25) (oi:=⟨some 4,_,_,_,_,_⟩) (v:=.int .i64 0) rfl (by kernel_rfl) (by kernel_rfl) (by kernel_rfl) (fun _ _ _ h=>h) (.inl ⟨by rfl,by intro w;go_simp⟩) ?_
 refine wpAny_done (by kernel_rfl) ?_ _
 dsimp only [Act.put]
 obtain⟨hM,hfM⟩:=hmk.out _ _ hb9 hs1 hf1
 go_wp2
 go_ret
 exact⟨_,_,rfl,hM,hfM⟩
theorem Made.shown{hn:Nat}(h:Made Z w t T P x hn):TMx Z (w.setCell ⟨t,19,none⟩ (.pointer (some ⟨hn,0,none⟩))) t (W7 T) ⟨P.s,P.xm,P.hm,x,hn,P.tb,P.jv,P.rv⟩/\Scn.Fr Z TT w (w.setCell ⟨t,19,none⟩ (.pointer (some ⟨hn,0,none⟩))):=by
 obtain⟨h1,hf⟩:=h.bare.G9 (T':=T) (b18:=.pointer (some ⟨P.hm,0,none⟩)) (b19:=.pointer (some ⟨hn,0,none⟩)) (b20:=.pointer (some ⟨P.tb,0,none⟩)) (A0.setCell w ⟨t,19,none⟩ _) (h.bare.blk.set 19 _) rfl rfl
 have hmn:=Scn.Block.fr h.main hf (.inl (by decide))
 have hsd:=Scn.Block.fr h.side hf (.inl (by decide))
 have htb:Tbs.G2 _ P.tb T.tn T.tf:=Scn.Block.fr h.V3 hf (.inl (by decide))
 have htw:=h.two.fr hf (by unfold P0;decide)
 refine⟨⟨h1.blk,hmn,fun o ho=>?_,?_,htb,h1.jr,h1.rp,h1.zt,h.zm,h.zb,h1.zj,h1.zr,h1.up,h1.low,h1.tbl⟩,hf.mono (by simp[TT])⟩
 ·simp only[W7,Option.some.injEq]at ho
  subst ho
  exact⟨hsd,h.ne,h.zn⟩
 ·obtain⟨sv,R,l1,L1,l2,L2,g1,e1,eR,g2,e2,hx,hl,hd,hg⟩:=htw
  exact⟨sv,R,l1,L1,l2,L2,g1,e1,eR,g2,e2,hx,hl,hd,hg⟩
theorem TMx.Ccg(h:TMx Z w t T P){o:Sh}(ho:T.other=some o):TMx Z (w.setCell ⟨t,19,none⟩ (.pointer none)) t (Abm T) P/\Scn.Fr Z TT w (w.setCell ⟨t,19,none⟩ (.pointer none)):=by
 obtain⟨h1,hf⟩:=h.bare.G9 (T':=T) (b18:=.pointer (some ⟨P.hm,0,none⟩)) (b19:=.pointer none) (b20:=.pointer (some ⟨P.tb,0,none⟩)) (A0.setCell w ⟨t,19,none⟩ _) (h.bare.blk.set 19 _) rfl rfl
 have hsc:=h.scr
 unfold Y0 at hsc
 rw[ho]at hsc
 have hsw:=hsc.swap.sc1.fr hf (by unfold P0;decide)
 have hmn:=Scn.Block.fr h.main hf (.inl (by decide))
 have htb:Tbs.G2 _ P.tb T.tn T.tf:=Scn.Block.fr h.V3 hf (.inl (by decide))
 exact⟨⟨h1.blk,hmn,fun o ho=>(by cases ho),hsw,htb,h1.jr,h1.rp,h1.zt,h.zm,h.zb,h1.zj,h1.zr,h1.up,h1.low,h1.tbl⟩,hf.mono (by simp[TT])⟩
theorem TMx.O9(h:TMx Z w t T P)(b:Bool):TMx Z (w.setCell ⟨t,6,none⟩ (.bool b)) t (O9 T b) P/\Scn.Fr Z TT w (w.setCell ⟨t,6,none⟩ (.bool b)) :=
 h.G9 (m:={ T.m with a6:=b }) (c:=T.c) (p:=T.p) (n:=T.C5) (e:=T.last) (A0.setCell w ⟨t,6,none⟩ _) (h.blk.set 6 _)
theorem TMx.Aev(h:TMx Z w t T P)(b:Bool):TMx Z (w.setCell ⟨t,3,none⟩ (.bool b)) t (Aev T b) P/\Scn.Fr Z TT w (w.setCell ⟨t,3,none⟩ (.bool b)) :=
 h.G9 (m:={ T.m with a3:=b }) (c:=T.c) (p:=T.p) (n:=T.C5) (e:=T.last) (A0.setCell w ⟨t,3,none⟩ _) (h.blk.set 3 _)
theorem Ok.Aev(h:Ok T)(b:Bool):Ok (Aev T b):=⟨h.fit,h.U6,h.rows,h.cols,h.row,h.col,h.sv,h.svm,h.tn,h.alt⟩
theorem Ok.save(h:Ok T):Ok (save T):=by
 obtain⟨h1,h2,h3,h4,h5,h6,h8,h9,h10,h11⟩:=h
 obtain⟨m,c,p,nx,most,R,main,other,tn,tf,pr,la,jr,rp⟩:=T
 cases other with
 |none=>exact⟨h1,h2,h3,h4,h5,h6,⟨h5,h6⟩,⟨h5,h6⟩,h10,h11⟩
 |some o=>exact⟨h1,h2,h3,h4,h5,h6,⟨h5,h6⟩,h9,h10,h11⟩
theorem Ok.Abm(h:Ok T):Ok (Abm (Emu.O9 T false)) :=
 ⟨h.U6,h.U6,rfl,rfl,by show T.c.row<T.main.L.length;rw[h.rows];exact h.row,by show T.c.col<T.main.cols;rw[h.cols];exact h.col,h.svm,h.svm,h.tn.trans h.cols.symm,rfl⟩
theorem Ok.W7(h:Ok T):Ok (W7 (Emu.O9 T true)):=by
 have hF:=h.U6
 have hf:=Bhs T.nx T.main.L.length T.main.cols T.most T.R hF.len hF.G8 hF.c1 hF.c5 hF.pos
 have hL:(R5 T.nx T.main.cols T.main.L.length zeroAt).length=T.main.L.length:=Agy _ _ _ _
 refine⟨⟨hf.len,hf.G8,hf.bot,hf.top,hf.c1,hf.c5,hf.wid,hf.ids,hf.pos⟩,Bnw hF (Nat.le_add_right _ _) T.R,hL.symm,rfl,?_,?_,⟨?_,hF.c1⟩,h.svm,h.tn.trans h.cols.symm,rfl⟩
 ·show T.c.row<(R5 T.nx T.main.cols T.main.L.length zeroAt).length
  rw[hL,h.rows]
  exact h.row
 ·show T.c.col<T.main.cols
  rw[h.cols]
  exact h.col
 ·show 0<(R5 T.nx T.main.cols T.main.L.length zeroAt).length
  rw[hL]
  exact hF.len
theorem Bsp(h:TM Z w t T)(ok:Ok T)(hj:T.jr.length<=90000000)(on:Bool):Calls prog 277 #[.pointer (some ⟨t,0,none⟩),.bool on] w (A7 Z w t (Baf T on)):=by
 obtain⟨P,h⟩:=h
 have c3:=h.c3
 have f3:=h.free 3
 obtain⟨h1,hf1⟩:=h.Aev on
 have hho:=J0 (Bjl h1.tm (ok.Aev on) hj)
 unfold Baf
 generalize home (Aev T on)=T1 at hho |-
 clear h ok hj h1
 go_enter func277,ntmps277
 go_wp2_with (first
  |(go_at_call 248;(with_reducible refine(hho.out).mono ?_);rintro e w3 ⟨⟨v3,rfl⟩,h3,hf3⟩))
 go_end0
 exact⟨⟨_,rfl⟩,h3,hf1.trans hf3⟩
theorem Btv(h:TM Z w t T)(ok:Ok T)(hj:T.jr.length<=90000000)(on:Bool):Calls prog 279 #[.pointer (some ⟨t,0,none⟩),.bool on] w (A7 Z w t (Apy T on)):=by
 unfold Apy
 cases on
 ·have hs:=J0 (Ayr h ok hj)
  simp only[Bool.false_eq_true,if_false]
  generalize restore T=T1 at hs |-
  clear h ok hj
  go_enter func279,ntmps279
  go_wp2_with (first
   |(go_at_call 139;(with_reducible refine(hs.out).mono ?_);rintro e w3 ⟨⟨v3,rfl⟩,h3,hf3⟩))
  go_end0
  exact⟨⟨_,rfl⟩,h3,hf3⟩
 ·have hs:=J0 (Bbb h)
  simp only[if_true]
  generalize save T=T1 at hs |-
  clear h ok hj
  go_enter func279,ntmps279
  go_wp2_with (first
   |(go_at_call 138;(with_reducible refine(hs.out).mono ?_);rintro e w3 ⟨⟨v3,rfl⟩,h3,hf3⟩))
  go_end0
  exact⟨⟨_,rfl⟩,h3,hf3⟩
end
section
variable {Z Z1:Zn}{w w':World}{t x s:Nat}{S:Scr}{T:Ter}{P:Pt}{v:Value}{l:List Int}
theorem Bsq(h:TM Z w t T):Calls prog 278 #[.pointer (some ⟨t,0,none⟩),.bool T.m.a6] w (A7 Z w t T):=by
 have A4:=h
 obtain⟨P,h⟩:=h
 have c6:=h.c6
 generalize T.m.a6=b at c6 |-
 clear h
 cases b
 ·go_enter func278,ntmps278
  go_wp2
  go_end0
  exact⟨⟨_,rfl⟩,A4,Scn.Fr.refl _ _ _⟩
 ·go_enter func278,ntmps278
  go_wp2
  go_end0
  exact⟨⟨_,rfl⟩,A4,Scn.Fr.refl _ _ _⟩
def Ab1(T:Ter):Ter:=move T T.c.row T.c.col
theorem Bvq(h:TM Z w t T)(ok:Ok T)(hj:T.jr.length<=90000000)(hnx:T.nx<=9900000000)(ha:T.m.a6=false):Calls prog 278 #[.pointer (some ⟨t,0,none⟩),.bool true] w (A7 Z w t (Ab1 (W7 (O9 T true)))):=by
 obtain⟨P,h⟩:=h
 have ho:T.other=none:=by
  have:=ok.alt
  rw[ha]at this
  cases hoo:T.other with
  |none=>rfl
  |some o=>rw[hoo]at this;cases this
 have c6:=h.c6
 rw[ha]at c6
 have f6:=h.free 6
 obtain⟨h1,hf1⟩:=h.O9 true
 have hfr:=J0 (Azv h1 ok.U6 ho hnx)
 have hsh:Hid (∀w2 x hn,Made Z w2 t (O9 T true) P x hn->w2.cell? ⟨t,19,none⟩=some (.pointer none)/\w2.frozen? ⟨t,19,none⟩=false/\TM Z (w2.setCell ⟨t,19,none⟩ (.pointer (some ⟨hn,0,none⟩))) t (W7 (O9 T true))/\Scn.Fr Z TT w2 (w2.setCell ⟨t,19,none⟩ (.pointer (some ⟨hn,0,none⟩)))):=J0 fun w2 x hn hM =>
  ⟨hM.bare.cells.2.2.2.1,hM.bare.cells.1 19,hM.shown.1.tm,hM.shown.2⟩
 have hok:=ok.W7
 have hj2:(W7 (O9 T true)).jr.length<=90000000:=hj
 have hmv:=J0 (fun w3 (h3:TM Z w3 t (W7 (O9 T true)))=>V5 h3 hok hj2 T.c.row T.c.col)
 have hcl:Hid (∀w3,TM Z w3 t (W7 (O9 T true))->(∀k:Eqt.Ext w3,k.w.cell? ⟨t,8,none⟩=some (.int .i64 T.c.row))/\(∀k:Eqt.Ext w3,k.w.cell? ⟨t,9,none⟩=some (.int .i64 T.c.col))/\∀w4,Below w3.heap.size w3 w4->TM Z w4 t (W7 (O9 T true))):=J0 fun w3 ⟨P3,h3⟩ =>
  ⟨fun k=>(h3.below k.below).c8,fun k=>(h3.below k.below).c9,fun w4 hb=>(h3.below hb).tm⟩
 unfold Ab1
 change Calls _ _ _ _ (A7 Z w t (move (W7 (O9 T true)) T.c.row T.c.col))
 generalize move (W7 (O9 T true)) T.c.row T.c.col=T2 at hmv |-
 generalize W7 (O9 T true)=T1 at hmv hcl hsh
 generalize T.c.row=row at hmv hcl
 generalize T.c.col=col at hmv hcl
 clear h ok hj hnx ha ho hok hj2 h1
 go_enter func278,ntmps278
 go_wp2_with (first
  |(go_at_call 292;(with_reducible refine hfr.out.mono ?_);rintro e w2 ⟨x,hn,rfl,hM,hf2⟩;obtain⟨k19,f19,h3,hf3⟩:=hsh.out _ _ _ hM))
 obtain⟨c8,c9,hb3⟩:=hcl.out _ h3
 replace hb3:=J0 hb3
 generalize w2.setCell ⟨t,19,none⟩ (.pointer (some ⟨hn,0,none⟩))=w3 at h3 hf3 c8 c9 hb3 |-
 clear hM k19 f19 hcl hsh hfr
 refine Eqt.H4 11 (by kernel_rfl) (by kernel_rfl) ?_
 simp only[List.take_succ_cons,List.take_zero,List.drop_succ_cons,List.drop_zero]
 repeat(go_big_quiet_step(fail))
 refine wpQuiet_nil ?_
 intro w9 hw9
 obtain⟨k9,rfl⟩:=hw9
 have hb9:=k9.below
 generalize k9.w=w9 at hb9 |-
 have h4:=hb3.out _ hb9
 go_wp2_with (first
  |(go_at_call 172;(with_reducible refine(hmv.out _ h4).mono ?_);rintro e w5 ⟨⟨v5,rfl⟩,h5,hf5⟩))
 go_end0
 exact⟨⟨_,rfl⟩,h5,(((hf1.trans hf2).trans hf3).trans (I8 hb9)).trans hf5⟩
theorem Btu(h:TM Z w t T)(ok:Ok T)(hj:T.jr.length<=90000000)(ha:T.m.a6=true):Calls prog 278 #[.pointer (some ⟨t,0,none⟩),.bool false] w (A7 Z w t (Ab1 (Abm (O9 T false)))):=by
 obtain⟨P,h⟩:=h
 obtain⟨o,ho⟩:∃o,T.other=some o:=by
  have:=ok.alt
  rw[ha]at this
  cases hoo:T.other with
  |none=>rw[hoo]at this;cases this
  |some o=>exact⟨o,rfl⟩
 have c6:=h.c6
 rw[ha]at c6
 have f6:=h.free 6
 have c19:=h.c19
 have f19:=h.free 19
 obtain⟨h1,hf1⟩:=h.O9 false
 obtain⟨h2,hf2⟩:=h1.Ccg ho
 have hok:=ok.Abm
 have hj2:(Abm (O9 T false)).jr.length<=90000000:=hj
 have hmv:=J0 (fun w3 (h3:TM Z w3 t (Abm (O9 T false)))=>V5 h3 hok hj2 T.c.row T.c.col)
 have c8:=fun k:Eqt.Ext ((w.setCell ⟨t,6,none⟩ (.bool false)).setCell ⟨t,19,none⟩ (.pointer none))=>(h2.below k.below).c8
 have c9:=fun k:Eqt.Ext ((w.setCell ⟨t,6,none⟩ (.bool false)).setCell ⟨t,19,none⟩ (.pointer none))=>(h2.below k.below).c9
 have hb3:=J0 (fun w4 (hb:Below ((w.setCell ⟨t,6,none⟩ (.bool false)).setCell ⟨t,19,none⟩ (.pointer none)).heap.size ((w.setCell ⟨t,6,none⟩ (.bool false)).setCell ⟨t,19,none⟩ (.pointer none)) w4)=>(h2.below hb).tm)
 unfold Ab1
 change Calls _ _ _ _ (A7 Z w t (move (Abm (O9 T false)) T.c.row T.c.col))
 change ∀k:Eqt.Ext ((w.setCell ⟨t,6,none⟩ (.bool false)).setCell ⟨t,19,none⟩ (.pointer none)),k.w.cell? ⟨t,8,none⟩=some (.int .i64 T.c.row)at c8
 change ∀k:Eqt.Ext ((w.setCell ⟨t,6,none⟩ (.bool false)).setCell ⟨t,19,none⟩ (.pointer none)),k.w.cell? ⟨t,9,none⟩=some (.int .i64 T.c.col)at c9
 generalize move (Abm (O9 T false)) T.c.row T.c.col=T2 at hmv |-
 generalize Abm (O9 T false)=T1 at hmv hb3
 generalize T.c.row=row at hmv c8
 generalize T.c.col=col at hmv c9
 generalize Aiv T.other P.ho=op at c19
 clear h ok hj ha ho hok hj2 h1 h2
 go_enter func278,ntmps278
 go_wp2
 generalize (w.setCell ⟨t,6,none⟩ (.bool false)).setCell ⟨t,19,none⟩ (.pointer none)=w3 at hf2 c8 c9 hb3 |-
 refine Eqt.H4 11 (by kernel_rfl) (by kernel_rfl) ?_
 simp only[List.take_succ_cons,List.take_zero,List.drop_succ_cons,List.drop_zero]
 repeat(go_big_quiet_step(fail))
 refine wpQuiet_nil ?_
 intro w9 hw9
 obtain⟨k9,rfl⟩:=hw9
 have hb9:=k9.below
 generalize k9.w=w9 at hb9 |-
 have h4:=hb3.out _ hb9
 go_wp2_with (first
  |(go_at_call 172;(with_reducible refine(hmv.out _ h4).mono ?_);rintro e w5 ⟨⟨v5,rfl⟩,h5,hf5⟩))
 go_end0
 exact⟨⟨_,rfl⟩,h5,((hf1.trans hf2).trans (I8 hb9)).trans hf5⟩
theorem Ath(h:TM Z w t T)(ok:Ok T)(hj:T.jr.length<=90000000)(hnx:T.nx<=9900000000)(on:Bool):Calls prog 278 #[.pointer (some ⟨t,0,none⟩),.bool on] w (A7 Z w t (Q9 T on)):=by
 unfold Q9
 by_cases e:on=T.m.a6
 ·rw[if_pos e,e]
  exact Bsq h
 ·rw[if_neg e]
  cases on
  ·exact Btu h ok hj (by cases ha:T.m.a6<;>simp_all)
  ·exact Bvq h ok hj hnx (by cases ha:T.m.a6<;>simp_all)
theorem Ok.Q9(h:Ok T)(on:Bool):Ok (Q9 T on):=by
 unfold Emu.Q9
 split
 ·exact h
 ·cases on
  ·exact h.Abm.move _ _
  ·exact h.W7.move _ _
theorem Azz(T:Ter)(s:Sav):(T.Acz s).jr=T.jr:=by unfold Ter.Acz;split<;>rfl
theorem Baa(T:Ter)(s:Sav):(T.Acz s).nx=T.nx:=by unfold Ter.Acz;split<;>rfl
theorem Ato(T:Ter)(on:Bool):(Q9 T on).jr.length<=T.jr.length+1:=by
 unfold Q9
 split
 ·omega
 ·cases on<;>(show(T.jr++[_]).length<=_;simp)
theorem Brv(h:TM Z w t T)(ok:Ok T)(hj:T.jr.length<=89000000)(hnx:T.nx<=9900000000)(on:Bool):Calls prog 280 #[.pointer (some ⟨t,0,none⟩),.bool on] w (A7 Z w t (Apb T on)):=by
 unfold Apb
 have c6:w.cell? ⟨t,6,none⟩=some (.bool T.m.a6):=by
  obtain⟨P,h⟩:=h
  exact h.c6
 by_cases e:on=T.m.a6
 ·rw[if_pos e]
  have A4:=h
  rw[<- e]at c6
  clear h ok hj hnx e
  cases on
  ·go_enter func280,ntmps280
   go_wp2
   go_end0
   exact⟨⟨_,rfl⟩,A4,Scn.Fr.refl _ _ _⟩
  ·go_enter func280,ntmps280
   go_wp2
   go_end0
   exact⟨⟨_,rfl⟩,A4,Scn.Fr.refl _ _ _⟩
 ·rw[if_neg e]
  cases on
  ·have ha:T.m.a6=true:=by cases hh:T.m.a6<;>simp_all
   rw[ha]at c6
   simp only[Bool.false_eq_true,if_false]
   have hs:=J0 (Ath h ok (by omega) hnx false)
   have hr:=J0 (fun w2 (h2:TM Z w2 t (Q9 T false))=>Ayr h2 (ok.Q9 false) (by have:=Ato T false;omega))
   generalize restore (Q9 T false)=T2 at hr |-
   generalize Q9 T false=T1 at hs hr
   clear h ok hj hnx e ha
   go_enter func280,ntmps280
   go_wp2_with (first
    |(go_at_call 278;(with_reducible refine(hs.out).mono ?_);rintro e w2 ⟨⟨v2,rfl⟩,h2,hf2⟩)
    |(go_at_call 139;(with_reducible refine(hr.out _ h2).mono ?_);rintro e w3 ⟨⟨v3,rfl⟩,h3,hf3⟩))
   go_end0
   exact⟨⟨_,rfl⟩,h3,hf2.trans hf3⟩
  ·have ha:T.m.a6=false:=by cases hh:T.m.a6<;>simp_all
   rw[ha]at c6
   simp only[if_true]
   have hs:=J0 (Bbb h)
   have hr:=J0 (fun w2 (h2:TM Z w2 t (save T))=>Ath h2 ok.save (by rw[show(save T).jr=T.jr from Azz _ _];omega) (by rw[show(save T).nx=T.nx from Baa _ _];omega) true)
   generalize Q9 (save T) true=T2 at hr |-
   generalize save T=T1 at hs hr
   clear h ok hj hnx e ha
   go_enter func280,ntmps280
   go_wp2_with (first
    |(go_at_call 138;(with_reducible refine(hs.out).mono ?_);rintro e w2 ⟨⟨v2,rfl⟩,h2,hf2⟩)
    |(go_at_call 278;(with_reducible refine(hr.out _ h2).mono ?_);rintro e w3 ⟨⟨v3,rfl⟩,h3,hf3⟩))
   go_end0
   exact⟨⟨_,rfl⟩,h3,hf2.trans hf3⟩
end
section
variable {Z Z1:Zn}{w w':World}{t x s:Nat}{S:Scr}{T:Ter}{P:Pt}{v:Value}{l:List Int}{kd:IntKind}{b:Nat}{m:List Ent}
theorem MpN.fr{B:Zn}{ts:List TypeId}(h:MpN w b kd m)(hf:Scn.Fr B ts w w'):MpN w' b kd m :=
 ⟨(hf.block b h.lt (.inr fun t' _ hT=>by obtain⟨cs,fz,hT⟩:=hT;rw[h.blk]at hT;cases hT)).trans h.blk,h.Axj,h.nd⟩
structure Grow(T T':Ter):Prop where
 ok:Ok T'
 len:T'.main.L.length=T.main.L.length
 nx:T'.nx<=T.nx+T.main.L.length
 jr:T'.jr.length<=T.jr.length+2
theorem Azc(ok:Ok T)(on:Bool):Grow T (Q9 T on):=by
 refine⟨ok.Q9 on,?_,?_,by have:=Ato T on;omega⟩
 ·unfold Q9
  split
  ·rfl
  ·cases on<;>rfl
 ·unfold Q9
  split
  ·omega
  ·cases on
   ·exact Nat.le_add_right _ _
   ·exact J5 _
theorem Boo(T:Ter)(s:Sav):(T.Acz s).main.L.length=T.main.L.length:=by unfold Ter.Acz;split<;>rfl
theorem Bnz(ok:Ok T)(n:Int)(on:Bool):Grow T (Aig T n on):=by
 unfold Aig
 split
 ·exact⟨(ok.Aev on).move _ _,rfl,Nat.le_add_right _ _,by show(T.jr++[_]).length<=_;simp⟩
 ·split
  ·exact Azc ok on
  ·split
   ·unfold Apy
    split
    ·exact⟨ok.save,Boo _ _,by rw[show(save T).nx=T.nx from Baa _ _];omega,by rw[show(save T).jr=T.jr from Azz _ _];omega⟩
    ·exact⟨ok.Z8.U7,rfl,Nat.le_add_right _ _,by show(T.jr++[_]).length<=_;simp⟩
   ·split
    ·unfold Apb
     split
     ·exact⟨ok,rfl,Nat.le_add_right _ _,by omega⟩
     ·split
      ·have g:=Azc ok.save true
       have e1:(save T).main.L.length=T.main.L.length:=Boo _ _
       have e2:(save T).nx=T.nx:=Baa _ _
       have e3:(save T).jr=T.jr:=Azz _ _
       exact⟨g.ok,g.len.trans e1,by have:=g.nx;omega,by have:=Ato (save T) true;rw[e3]at this;omega⟩
      ·have g:=Azc ok false
       exact⟨g.ok.Z8.U7,g.len,g.nx,by have:=Ato T false;show((Q9 T false).jr++[_]).length<=_;simp;omega⟩
    ·rename_i h1 h2 h3 h4
     refine⟨⟨ok.fit,ok.U6,ok.rows,ok.cols,ok.row,ok.col,ok.sv,ok.svm,ok.tn,?_⟩,rfl,Nat.le_add_right _ _,Nat.le_add_right _ _⟩
     show T.other.isSome=(T.m.put true n on).a6
     rw[ok.alt]
     have hs:Mds.spot true n≠6:=by
      unfold Mds.spot
      simp only[if_true]
      repeat' split
      all_goals first|omega|decide
     have hle:=Mds.Bnd true n
     unfold Mds.Md.put
     generalize Mds.spot true n=k at hs hle
     rcases Mds.small hle with rfl|rfl|rfl|rfl|rfl|rfl|rfl|rfl|rfl
     all_goals first|rfl|omega
theorem Bim(T:Ter)(l:List Int)(on:Bool){j:Nat}(hj:j<l.length):S7 T (l.take (j+1)) on=Aig (S7 T (l.take j) on) (atN l j) on:=by
 unfold S7
 have ht:l.take (j+1)=l.take j++[l[j]]:=by rw[List.take_add_one,List.getElem?_eq_getElem hj];rfl
 rw[ht,List.foldl_append]
 simp only[List.foldl_cons,List.foldl_nil]
 rw[show atN l j=Abs l[j]by unfold atN;rw[List.getElem?_eq_getElem hj]]
theorem Cbr(ok:Ok T)(l:List Int)(on:Bool):∀j,j<=l.length->Ok (S7 T (l.take j) on)/\(S7 T (l.take j) on).main.L.length=T.main.L.length/\(S7 T (l.take j) on).nx<=T.nx+j*T.main.L.length/\(S7 T (l.take j) on).jr.length<=T.jr.length+j*2:=by
 intro j
 induction j with
 |zero=>exact fun _=>⟨ok,rfl,by show T.nx<=_;omega,by show T.jr.length<=_;omega⟩
 |succ j ih =>
  intro hj
  obtain⟨h1,h2,h3,h4⟩:=ih (by omega)
  rw[Bim T l on hj]
  have g:=Bnz h1 (atN l j) on
  refine⟨g.ok,g.len.trans h2,?_,?_⟩
  ·have:=g.nx
   rw[h2]at this
   rw[Nat.succ_mul]
   omega
  ·have:=g.jr
   omega
theorem Cpf(f:FuncId)(w:World):(binOp .neq 289 (.func (.func f) #[] #[]) .nilFunc).run prog w=.ok (.bool true) w:=by kernel_rfl
theorem Cle(w:World):(binOp .neq 289 .nilFunc .nilFunc).run prog w=.ok (.bool false) w:=by kernel_rfl
def Aob:List Ent:=[(6,.func (.func 277) #[] #[]),(47,.func (.func 278) #[] #[]),(1047,.func (.func 278) #[] #[]),(1048,.func (.func 279) #[] #[]),(1049,.func (.func 280) #[] #[])]
theorem Cbh{n:Int}(h0:n≠6)(h1:n≠47)(h2:n≠1047)(h3:n≠1048)(h4:n≠1049):H8 Aob n=none:=by
 simp[Aob,H8,h0,h1,h2,h3,h4]
theorem Beo(h:TM Z w t T)(ok:Ok T)(hj9:T.jr.length+l.length*2<=89000000)(hnx:T.nx+l.length*T.main.L.length<=9900000000)(hp:NA Z w v l)(on:Bool):Calls prog 257 #[.pointer (some ⟨t,0,none⟩),v,.bool on] w (A7 Z w t (S7 T l on)):=by
 have hlen:=hp
 obtain⟨ao,cp,rfl,hl2,hl3,_,_⟩:=hlen
 have hgr:=Cbr ok l on
 have hstep':=fun j (hj:j<l.length)=>Bim T l on hj
 obtain⟨R,hR⟩:∃R:Nat->Ter,R=fun j=>S7 T (l.take j) on:=⟨_,rfl⟩
 have Aka:S7 T l on=R l.length:=by rw[hR];simp
 have U2:∀j,j<l.length->R (j+1)=Aig (R j) (atN l j) on:=fun j hj=>by rw[hR];exact hstep' j hj
 have hgo:∀j,j<=l.length->Ok (R j)/\(R j).nx<=9900000000/\(R j).jr.length<=89000000:=fun j hj=>by
  rw[hR]
  obtain⟨q1,q2,q3,q4⟩:=hgr j hj
  have:=Nat.mul_le_mul_right T.main.L.length hj
  exact⟨q1,Nat.le_trans q3 (by omega),Nat.le_trans q4 (by omega)⟩
 have h0:TM Z w t (R 0):=by rw[hR];exact h
 rw[Aka]
 replace U2:=J0 U2
 replace hgo:=J0 hgo
 replace h0:=J0 h0
 have hfp:=J0 (fun w1 (hf:Scn.Fr Z TT w w1)=>hp.fr hf)
 clear hstep' hgr Aka hR h hp ok hj9 hnx
 obtain⟨n,hn⟩:∃n,n=l.length:=⟨_,rfl⟩
 rw[<- hn]at hl2 U2 hfp hgo |-
 have hn9:n<=9223372036854775807:=by unfold maxLen at hl3;omega
 replace hn:=J0 hn
 have hmm:=@run_makeMap prog
 have Asp:=Cpf
 have Anu:=Cle
 have hmp:=MpN.made w .i64
 have hbm:=A3 w (.map #[] 0)
 have hsz:(w.alloc (.map #[] 0)).heap.size=w.heap.size+1:=by simp
 go_enter func257,ntmps257
 go_upto_region 1 with(refine Ajm Bog hmp ?_ ?_ ?_;rfl;decide;clear hmp;intro wn hmp hon;replace hbm:=hbm.trans (hon.below hbm.size (by simp));clear hon)
 change MpN _ _ _ Aob at hmp
 have hf0:Scn.Fr Z TT w _:=Scn.Fr.A1 hbm
 replace hmp:=J0 hmp
 replace hf0:=J0 hf0
 replace h0:=J0 (h0.out.below hbm)
 replace hbm:=J0 hbm
 clear hsz
 go_wp2
 go_loopw [14] (fun iv wr=>∃j:Nat,j<=n/\iv=.int .i64 j/\Hid (TM Z wr t (R j)/\Scn.Fr Z TT w wr/\MpN wr w.heap.size .i64 Aob)) (fun iv _=>n-(intOf iv).toNat)
 case atStart=>exact⟨0,Nat.zero_le _,rfl,J0 ⟨h0.out,hf0.out,hmp.out⟩⟩
 case round =>
  obtain⟨j,hj,rfl,hRr⟩:=hrel
  obtain⟨hM,hfr,hmr⟩:=hRr.out
  clear hRr h0 hf0 hmp hbm
  by_cases hlt:j<n
  ·have hjI:(j:Int)<(n:Int):=by omega
   obtain⟨hok,hnx,hjr⟩:=hgo.out j hj
   have hna:=hfp.out _ hfr
   have hat:=J0 (Aqs hna j)
   have F3:=(Akb Bog hmr (atN l j) (Bbe l j)).1
   have hst:=U2.out j hlt
   have Agf:=J0 (fun w1 (h1:TM Z w1 t (R (j+1))) (hf1:Scn.Fr Z TT wr w1)=>(⟨h1,hfr.trans hf1,hmr.fr hf1⟩:TM Z w1 t (R (j+1))/\Scn.Fr Z TT w w1/\MpN w1 w.heap.size .i64 Aob))
   have Aor:(R j).jr.length<=90000000:=by omega
   obtain⟨P,hM⟩:=hM
   have hd:(∃F,H8 Aob (atN l j)=some (.func (.func F) #[] #[])/\(∀a w,(callFunc F a).run prog w=.ok (.enter F a) w)/\Calls prog F #[.pointer (some ⟨t,0,none⟩),.bool on] wr (A7 Z wr t (R (j+1))))\/(atN l j≠6/\atN l j≠47/\atN l j≠1047/\atN l j≠1048/\atN l j≠1049):=by
    rw[hst]
    by_cases e0:atN l j=6
    ·rw[e0];exact .inl ⟨_,rfl,enters_of func277 (by kernel_rfl) rfl,Bsp hM.tm hok Aor on⟩
    by_cases e1:atN l j=47
    ·rw[e1];exact .inl ⟨_,rfl,enters_of func278 (by kernel_rfl) rfl,Ath hM.tm hok Aor hnx on⟩
    by_cases e2:atN l j=1047
    ·rw[e2];exact .inl ⟨_,rfl,enters_of func278 (by kernel_rfl) rfl,Ath hM.tm hok Aor hnx on⟩
    by_cases e3:atN l j=1048
    ·rw[e3];exact .inl ⟨_,rfl,enters_of func279 (by kernel_rfl) rfl,Btv hM.tm hok Aor on⟩
    by_cases e4:atN l j=1049
    ·rw[e4];exact .inl ⟨_,rfl,enters_of func280 (by kernel_rfl) rfl,Brv hM.tm hok hjr hnx on⟩
    exact .inr ⟨e0,e1,e2,e3,e4⟩
   rcases hd with⟨F,hF,hE,Aaf⟩|⟨e0,e1,e2,e3,e4⟩
   ·rw[hF]at F3
    have hlk:(Instr.lookup 290 (.map (some w.heap.size)) (.int .i64 (atN l j)) false).run prog wr=.ok (.func (.func F) #[] #[]) wr:=F3
    replace Aaf:=J0 Aaf
    clear hM hfr hmr hok hnx hjr hna F3 hst Aor hgo U2 hfp hF
    generalize atN l j=nn at hat hlk
    go_wp2_with (first
     |(go_at_call 241;(with_reducible refine(hat.out).mono ?_);rintro e w1 ⟨rfl,rfl⟩)
     |((with_reducible refine(Aaf.out).mono ?_);rintro e w3 ⟨⟨v3,rfl⟩,h3,hf3⟩))
    have hr2:=J0 (Agf.out _ h3 hf3)
    clear h3 hf3
    go_roundw
    case rel=>exact⟨j+1,by omega,by go_num,hr2⟩
    case measure=>simp[intOf];omega
   have c0:=hM.c0
   have c1:=hM.c1
   have c2:=hM.c2
   have c3:=hM.c3
   have c4:=hM.c4
   have c5:=hM.c5
   have c6:=hM.c6
   have c7:=hM.c7
   have E1:=J0 (Mds.Ald (R j).m true (atN l j) (Bbe l j) on wr)
   have hlk:(Instr.lookup 290 (.map (some w.heap.size)) (.int .i64 (atN l j)) false).run prog wr=.ok .nilFunc wr:=by
    rw[F3,Cbh e0 e1 e2 e3 e4]
    rfl
   have hp1:R (j+1)=Aiw (R j) true on (atN l j):=by
    rw[hst]
    unfold Aig
    rw[if_neg e0,if_neg (by omega),if_neg e3,if_neg e4]
   have hb:=J0 (fun w1 (hb:Below wr.heap.size wr w1)=>And.intro (hM.below hb).free (hM.below hb).md8)
   have A4:=J0 (fun w1 (hb:Below wr.heap.size wr w1)=>Agf.out (mdW w1 t ((R j).m.put true (atN l j) on)) (by rw[hp1];exact((hM.below hb).Axb ((R j).m.put true (atN l j) on)).1.tm) ((Scn.Fr.A1 hb).trans ((hM.below hb).Axb _).2))
   change Hid (Calls prog 276 #[.agg #[.bool (R j).m.a0,.bool (R j).m.a1,.bool (R j).m.a2,.bool (R j).m.a3,.bool (R j).m.a4,.bool (R j).m.a5,.bool (R j).m.a6,.bool (R j).m.a7],.bool true,.int .i64 (atN l j),.bool on] wr fun e w'=>e=.returned (.tuple #[.agg (Mds.mA ((R j).m.put true (atN l j) on)),.bool (Mds.known true (atN l j))])/\Below wr.heap.size wr w')at E1
   generalize (R j).m.put true (atN l j) on=m1 at E1 A4
   generalize Mds.known true (atN l j)=kk at E1
   clear hM hfr hmr hok hnx hjr hna F3 hst Aor hgo U2 hfp hp1 Agf e0 e1 e2 e3 e4
   generalize atN l j=nn at hat E1 hlk
   generalize (R j).m=m0 at c0 c1 c2 c3 c4 c5 c6 c7 E1 hb
   obtain⟨a0,a1,a2,a3,a4,a5,a6,a7⟩:=m0
   obtain⟨b0,b1,b2,b3,b4,b5,b6,b7⟩:=m1
   simp only[Mds.mA]at c0 c1 c2 c3 c4 c5 c6 c7 E1 hb
   go_wp2_with (first
    |(go_at_call 241;(with_reducible refine(hat.out).mono ?_);rintro e w1 ⟨rfl,rfl⟩)
    |(go_at_call 276;(with_reducible refine E1.out.mono ?_);rintro e w1 ⟨rfl,hb9⟩;obtain⟨hf,d0,d1,d2,d3,d4,d5,d6,d7⟩:=hb.out _ hb9;have f0:=hf 0;have f1:=hf 1;have f2:=hf 2;have f3:=hf 3;have f4:=hf 4;have f5:=hf 5;have f6:=hf 6;have f7:=hf 7))
   have hr2:=A4.out _ hb9
   simp only[mdW]at hr2
   replace hr2:=J0 hr2
   go_roundw
   case rel=>exact⟨j+1,by omega,by go_num,hr2⟩
   case measure=>simp[intOf];omega
  ·obtain rfl:j=n:=by omega
   have hno:decide ((j:Int)<(j:Int))=false:=by simp
   have A4:=J0 (And.intro hM hfr)
   clear hM hfr hfp U2 hgo hmr
   go_wp2
   go_end0
   exact⟨⟨_,rfl⟩,A4.out⟩
theorem Bsg(h:TM Z w t T)(ok:Ok T)(hj9:T.jr.length+l.length*2<=89000000)(hnx:T.nx+l.length*T.main.L.length<=9900000000)(hp:NA Z w v l):Calls prog 206 #[.pointer (some ⟨t,0,none⟩),v] w (A7 Z w t (S7 T l true)):=by
 have hs:=J0 (Beo h ok hj9 hnx hp true)
 generalize S7 T l true=T1 at hs |-
 clear h hp ok hj9 hnx
 go_enter func206,ntmps206
 go_wp2_with (first
  |(go_at_call 257;(with_reducible refine(hs.out).mono ?_);rintro e w4 ⟨⟨v4,rfl⟩,h4,hf4⟩))
 go_end0
 exact⟨⟨_,rfl⟩,h4,hf4⟩
theorem Bsb(h:TM Z w t T)(ok:Ok T)(hj9:T.jr.length+l.length*2<=89000000)(hnx:T.nx+l.length*T.main.L.length<=9900000000)(hp:NA Z w v l):Calls prog 207 #[.pointer (some ⟨t,0,none⟩),v] w (A7 Z w t (S7 T l false)):=by
 have hs:=J0 (Beo h ok hj9 hnx hp false)
 generalize S7 T l false=T1 at hs |-
 clear h hp ok hj9 hnx
 go_enter func207,ntmps207
 go_wp2_with (first
  |(go_at_call 257;(with_reducible refine(hs.out).mono ?_);rintro e w4 ⟨⟨v4,rfl⟩,h4,hf4⟩))
 go_end0
 exact⟨⟨_,rfl⟩,h4,hf4⟩
end
