/- Part 40 of the proof that the card of EmuAside holds. -/
import Derived.Test.YtkjpjegmanpbfaaGreatDoorPA39
set_option maxHeartbeats 16000000
set_option maxRecDepth 100000
namespace Go.Proofs.YtkjpjegmanpbfaaGreatDoor.Emu
open Go RowKit Com Rw Lns Scn
structure TV (Z:Zn) (w:World) (d t:Nat) (T:Ter):Prop where
 blk:Block w d 30 #[.pointer (some ⟨t,0,none⟩)]
 tm:TM Z w t T
section
variable {Z:Zn} {w w':World} {d t:Nat} {T:Ter} {x:AcT} {pa ia ta:Option Addr} {pn pc ic tn tc:Nat}
theorem TV.below (h:TV Z w d t T) (hb:Below w.heap.size w w'):TV Z w' d t T:=⟨Block.only h.blk (Only.of_below hb []) (by simp),h.tm.below hb⟩
theorem TV.turn {T':Ter} (h:TV Z w d t T) (h1:TM Z w' t T') (hf:Scn.Fr Z TT w w'):TV Z w' d t T':=⟨Scn.Block.fr h.blk hf (.inl (by decide)),h1⟩
theorem Ah3 (h:TV Z w d t T):Calls Tryz.prog 24 #[.pointer (some ⟨d,0,none⟩)] w fun e w'=>e=.returned (.bool true)/\w=w':=by
 have c0:=h.blk.cell 0 (v:=.pointer (some ⟨t,0,none⟩)) rfl
 clear h
 go_enter Tryz.func24,Tryz.ntmps24
 go_wp2
 go_ret
 exact ⟨rfl,rfl⟩
theorem Bt4 (h:TV Z w d t T) (ok:Ok T) (hw:Wf x) (hR:As5 T x) (hp:NA Z w (.slice pa pn pc) x.params) (hra:RA Z w ia x.inter):Calls Tryz.prog 9 #[.pointer (some ⟨d,0,none⟩),.agg #[.int .u8 x.kind,.int .i32 x.r,.int .i32 x.priv,.slice pa pn pc,.slice ia x.inter.length ic,.int .i32 x.fin,.slice ta tn tc]] w fun e w'=>e=.returned (.int .i64 0)/\TV Z w' d t (doT T x)/\Scn.Fr Z TT w w':=by
 have hbn:=Aa1 w (.cells #[.int .u8 x.kind,.int .i32 x.r,.int .i32 x.priv,.slice pa pn pc,.slice ia x.inter.length ic,.int .i32 x.fin,.slice ta tn tc] 25)
 have hbx:=Block.made w 25 #[.int .u8 x.kind,.int .i32 x.r,.int .i32 x.priv,.slice pa pn pc,.slice ia x.inter.length ic,.int .i32 x.fin,.slice ta tn tc]
 have hm:=J0 (Ah3 (h.below hbn))
 have hdo:=J0 (fun w1 (hb:Below w.heap.size w w1)=>do_any (pa:=pa) (pn:=pn) (pc:=pc) (ia:=ia) (ic:=ic) (ta:=ta) (tn:=tn) (tc:=tc) (h.below hb).tm ok hw hR (hp.below hb) (hra.below hb))
 have hcd:=J0 (fun w1 (hb:Below w.heap.size w w1)=>(h.below hb).blk.cell 0 (v:=.pointer (some ⟨t,0,none⟩)) rfl)
 have hend:=J0 (fun w1 w2 (hb:Below w.heap.size w w1) (h2:TM Z w2 t (doT T x)) (hf:Scn.Fr Z TT w1 w2)=>(⟨(h.below hb).turn h2 hf,(Scn.Fr.of_below hb).trans hf⟩:TV Z w2 d t (doT T x)/\Scn.Fr Z TT w w2))
 generalize doT T x=T2 at hdo hend |-
 generalize x.inter.length=im at *
 generalize x.fin=f at *
 generalize x.r=r at *
 generalize x.priv=pr at *
 generalize x.kind=k at *
 clear h ok hw hR hp hra
 go_enter Tryz.func9,Tryz.ntmps9
 go_upto_region 1 with (fail)
 generalize w.alloc (.cells #[.int .u8 k,.int .i32 r,.int .i32 pr,.slice pa pn pc,.slice ia im ic,.int .i32 f,.slice ta tn tc] 25)=w0 at hbn hbx hm |-
 have hxk:=fun k':Eqt.Ext w0=>Block.only hbx (Only.of_below k'.below []) (by simp)
 have x0:=fun k':Eqt.Ext w0=>(hxk k').cell 0 (v:=.int .u8 k) rfl
 have x1:=fun k':Eqt.Ext w0=>(hxk k').cell 1 (v:=.int .i32 r) rfl
 have x2:=fun k':Eqt.Ext w0=>(hxk k').cell 2 (v:=.int .i32 pr) rfl
 have x3:=fun k':Eqt.Ext w0=>(hxk k').cell 3 (v:=.slice pa pn pc) rfl
 have x4:=fun k':Eqt.Ext w0=>(hxk k').cell 4 (v:=.slice ia im ic) rfl
 have x5:=fun k':Eqt.Ext w0=>(hxk k').cell 5 (v:=.int .i32 f) rfl
 have x6:=fun k':Eqt.Ext w0=>(hxk k').cell 6 (v:=.slice ta tn tc) rfl
 have cd:=fun k':Eqt.Ext w0=>hcd.out _ (Aa0 hbn k'.below)
 clear hbx hxk
 go_wp2_with ((go_at_call 24;(with_reducible refine (hm.out).mono ?_);rintro e w1 ⟨rfl,rfl⟩))
 refine Eqt.region_ext_tail 5 (by kernel_rfl) (by kernel_rfl) ?_
 simp only [List.take_succ_cons,List.take_zero,List.drop_succ_cons,List.drop_zero]
 repeat (go_big_quiet_step (fail))
 refine wpQuiet_nil ?_
 intro w9 hw9
 obtain ⟨k9,rfl⟩:=hw9
 have hb9:=k9.below
 generalize k9.w=w9 at hb9 |-
 have hb:=Aa0 hbn hb9
 go_wp2_with ((go_at_call 25;(with_reducible refine (hdo.out _ hb).mono ?_);rintro e w3 ⟨⟨v3,rfl⟩,h3,hf3⟩))
 go_ret
 exact ⟨rfl,hend.out _ _ hb h3 hf3⟩
theorem tprints_any (h:TV Z w d t T):Calls Tryz.prog 17 #[.pointer (some ⟨d,0,none⟩)] w fun e w'=>e=.returned (.int .u64 T.prints)/\w=w':=by
 have hm:=J0 (Ah3 h)
 have c0:=h.blk.cell 0 (v:=.pointer (some ⟨t,0,none⟩)) rfl
 obtain ⟨P,hT⟩:=h.tm
 have c21:=hT.c21
 clear h hT
 go_enter Tryz.func17,Tryz.ntmps17
 go_wp2_with ((go_at_call 24;(with_reducible refine (hm.out).mono ?_);rintro e w1 ⟨rfl,rfl⟩))
 go_ret
 exact ⟨rfl,rfl⟩
end
section
variable {Z:Zn} {w w':World} {d t:Nat} {T:Ter} {P:Pt}
theorem TMx.took (h:TMx Z w t T P):(TMx Z (w.setCell ⟨t,32,none⟩ (.slice none 0 0)) t { T with jr:=[] } { P with jv:=.slice none 0 0 }/\Scn.Fr Z TT w (w.setCell ⟨t,32,none⟩ (.slice none 0 0))) /\
  (TMx Z (w.setCell ⟨t,33,none⟩ (.slice none 0 0)) t { T with rp:=[] } { P with rv:=.slice none 0 0 }/\Scn.Fr Z TT w (w.setCell ⟨t,33,none⟩ (.slice none 0 0))):=by
 have hf:∀ w',Only [t] w w'->Scn.Fr Z [88] w w':=fun w' ho=>Scn.Fr.of_only ho fun k hk _=>by
  obtain rfl:k=t:=by simpa using hk
  exact ⟨h.zt,_,by simp,Block.typ h.blk⟩
 have keep:∀ {w':World},Only [t] w w'->∀ {k:Nat} {ty:TypeId},Typ w k ty->ty≠88->w'.heap[k]?=w.heap[k]?:=fun {w'} ho {k ty} hk hty=>ho.block _ (Am6 hk) (Ad6 hk (Block.typ h.blk) hty)
 have same:∀ {w':World},Only [t] w w'->∀ {k:Nat} {ty:TypeId} {cs:Array Value},Block w k ty cs->ty≠88->Block w' k ty cs:=fun {w'} ho {k ty cs} hb hty=>(keep ho (Block.typ hb) hty).trans hb
 have o1:=Only.setCell w ⟨t,32,none⟩ (.slice none 0 0)
 have o2:=Only.setCell w ⟨t,33,none⟩ (.slice none 0 0)
 exact ⟨⟨⟨h.blk.set 32 _,same o1 h.main (by decide),fun o ho=>⟨same o1 (h.aside o ho).1 (by decide),(h.aside o ho).2⟩,h.scr.fr (hf _ o1) (by unfold NoPT;decide),same o1 h.tabs (by decide),
  World.ownsRow_nil _ _ _ _,Af1 h.rp (fun g hg=>keep o1 (Af6 h.rp g hg) (by decide)),h.zt,h.zm,h.zb,fun g hg=>(by cases hg),h.zr,fun k hk=>h.up k (Nat.le_trans (hf _ o1).size hk),h.low,h.tbl.fr (hf _ o1) h.low⟩,(hf _ o1).mono (by simp [TT])⟩,
  ⟨⟨h.blk.set 33 _,same o2 h.main (by decide),fun o ho=>⟨same o2 (h.aside o ho).1 (by decide),(h.aside o ho).2⟩,h.scr.fr (hf _ o2) (by unfold NoPT;decide),same o2 h.tabs (by decide),
  Ad4 h.jr (fun g hg=>keep o2 (Ab8 h.jr g hg) (by decide)),Kys.Row.nil _ _ _,h.zt,h.zm,h.zb,h.zj,fun g hg=>(by cases hg),fun k hk=>h.up k (Nat.le_trans (hf _ o2).size hk),h.low,h.tbl.fr (hf _ o2) h.low⟩,(hf _ o2).mono (by simp [TT])⟩⟩
theorem TMx.jshape (h:TMx Z w t T P):∃ ao c,P.jv=.slice ao T.jr.length c:=by
 obtain ⟨ao,c,e,_,_⟩:=Ac0 h.jr
 exact ⟨ao,c,e⟩
theorem TMx.rshape (h:TMx Z w t T P):∃ ao c,P.rv=.slice ao T.rp.length c:=by
 rcases h.rp with ⟨e,e2⟩|⟨g,cap,cur,fz,e,_⟩
 ·exact ⟨none,0,by rw [e,e2];rfl⟩
 ·exact ⟨_,_,e⟩
theorem tjournal_any (h:TV Z w d t T):Calls Tryz.prog 15 #[.pointer (some ⟨d,0,none⟩)] w fun e w'=>(∃ ao c,e=.returned (.slice ao T.jr.length c))/\TV Z w' d t { T with jr:=[] }/\Scn.Fr Z TT w w':=by
 have hm:=J0 (Ah3 h)
 have c0:=h.blk.cell 0 (v:=.pointer (some ⟨t,0,none⟩)) rfl
 obtain ⟨P,hT⟩:=h.tm
 have c32:=hT.c32
 have f32:=hT.free 32
 obtain ⟨ao,c,e⟩:=hT.jshape
 rw [e] at c32
 have hk:=J0 (hT.took.1)
 have hend:=J0 (h.turn hT.took.1.1.tm hT.took.1.2)
 generalize T.jr.length=n at c32 |-
 clear h hT e
 go_enter Tryz.func15,Tryz.ntmps15
 go_wp2_with ((go_at_call 24;(with_reducible refine (hm.out).mono ?_);rintro e w1 ⟨rfl,rfl⟩))
 go_ret
 exact ⟨⟨_,_,rfl⟩,hend.out,hk.out.2⟩
theorem treplies_any (h:TV Z w d t T):Calls Tryz.prog 16 #[.pointer (some ⟨d,0,none⟩)] w fun e w'=>(∃ v,e=.returned v/\Kys.Row w' 0 5 v T.rp)/\TV Z w' d t { T with rp:=[] }/\Scn.Fr Z TT w w':=by
 have hm:=J0 (Ah3 h)
 have c0:=h.blk.cell 0 (v:=.pointer (some ⟨t,0,none⟩)) rfl
 obtain ⟨P,hT⟩:=h.tm
 have c33:=hT.c33
 have f33:=hT.free 33
 obtain ⟨ao,c,e⟩:=hT.rshape
 have hrow:Kys.Row (w.setCell ⟨t,33,none⟩ (.slice none 0 0)) 0 5 P.rv T.rp:=Af1 hT.rp (fun g hg=>(Only.setCell w ⟨t,33,none⟩ (.slice none 0 0)).block _ (Am6 (Af6 hT.rp g hg)) (Ad6 (Af6 hT.rp g hg) (Block.typ hT.blk) (by decide)))
 rw [e] at c33 hrow
 have hk:=J0 (hT.took.2)
 have hend:=J0 (h.turn hT.took.2.1.tm hT.took.2.2)
 replace hrow:=J0 hrow
 generalize T.rp.length=n at c33 hrow
 clear h hT e
 go_enter Tryz.func16,Tryz.ntmps16
 go_wp2_with ((go_at_call 24;(with_reducible refine (hm.out).mono ?_);rintro e w1 ⟨rfl,rfl⟩))
 go_ret
 exact ⟨⟨_,rfl,hrow.out⟩,hend.out,hk.out.2⟩
end
section
variable {Z:Zn} {w w':World} {d t:Nat} {T:Ter} {P:Pt}
theorem tmodes_any (h:TV Z w d t T):Calls Tryz.prog 13 #[.pointer (some ⟨d,0,none⟩)] w fun e w'=>e=.returned (.agg (Mds.mA T.m))/\Below w.heap.size w w':=by
 have hbn:=Aa1 w (.cells #[.bool false,.bool false,.bool false,.bool false,.bool false,.bool false,.bool false,.bool false] 46)
 have hbx:=Block.made w 46 #[.bool false,.bool false,.bool false,.bool false,.bool false,.bool false,.bool false,.bool false]
 have hm:=J0 (Ah3 (h.below hbn))
 have h1:=h.below hbn
 have cd:=h1.blk.cell 0 (v:=.pointer (some ⟨t,0,none⟩)) rfl
 obtain ⟨P,hT⟩:=h1.tm
 obtain ⟨c0,c1,c2,c3,c4,c5,c6,c7⟩:=hT.md8
 have hinf:=Mds.mA_info T.m
 have hone:=Mds.mA_one T.m
 generalize T.m=m at *
 obtain ⟨a0,a1,a2,a3,a4,a5,a6,a7⟩:=m
 simp only [Mds.mA] at c0 c1 c2 c3 c4 c5 c6 c7 hinf hone |-
 clear h h1 hT
 go_enter Tryz.func13,Tryz.ntmps13
 go_wp2_with (first
  |(go_at_call 24;(with_reducible refine (hm.out).mono ?_);rintro e w1 ⟨rfl,rfl⟩)
  |(with_reducible show wpList _ _ _ (⟨none,.store _ (.tmp 2) _,_,_,_,_⟩::_) _ _;go_must (refine Aa5 rfl _ (.tmp 2) _ rfl hbx #[.bool a0,.bool a1,.bool a2,.bool a3,.bool a4,.bool a5,.bool a6,.bool a7] rfl rfl hinf rfl hone ?_);intro w8 hb8 ho8))
 exact bodyPost_ret (results_cell_row rfl _ _ _ _ _ _ _ rfl hb8 Tryz.underlying46 rfl hinf) rfl ⟨rfl,hbn.trans (ho8.below hbn.size (by simp))⟩
end
section
variable {Z:Zn} {w w':World} {d t:Nat} {T:Ter} {P:Pt}
theorem resize_no (h:TMx Z w t T P) (ok:Ok T) (rows cols:Int) (hno:¬ Ag9 rows cols):Calls Tryz.prog 26 #[.pointer (some ⟨t,0,none⟩),.int .i64 rows,.int .i64 cols] w fun e w'=>e=.returned (.int .i64 2)/\TM Z w' t T/\Scn.Fr Z TT w w':=by
 obtain ⟨Z1,hf⟩:=h.focus
 have c8:=fun k:Eqt.Ext w=>(h.below k.below).c8
 have s0:=fun k:Eqt.Ext w=>(h.below k.below).s0
 have hsh:=J0 (fun k:Eqt.Ext w=>Aa9 (h.below k.below))
 have hrs:Hid (∀ w1,Below w.heap.size w w1->Calls Tryz.prog 37 #[.pointer (some ⟨P.x T.other,0,none⟩),.int .i64 rows,.int .i64 cols,.int .i64 T.c.row] w1 fun e w'=>e=.returned (.tuple #[.int .i64 0,.int .i64 2])/\w1=w'):=J0 fun w1 hb=>Scn.res_no (hf.sc.below hb) ok.fit rows cols T.c.row (fun h9=>hno ⟨h9.1,h9.2.1⟩)
 have hres:=J0 (fun w1 (hb:Below w.heap.size w w1)=>(h.below hb).tm)
 generalize P.h T.other=hh at s0 hsh
 generalize P.x T.other=xx at s0 hrs
 generalize T.c.row=row at c8 hrs
 clear h ok hno hf
 go_enter Tryz.func26,Tryz.ntmps26
 go_wp2
 refine Eqt.region_ext_any 12 #[true,true,true,true,true,true,true,true,true,true,true,true,false,false,false,false,false,false] (by kernel_rfl) (by kernel_rfl) ?_
 simp only [List.take_succ_cons,List.take_zero]
 repeat (go_big_quiet_step (first
  |(go_at_call 36;exact Eqt.q_ext_same (hsh.out _))))
 refine wpQuiet_nil ?_
 intro w9 hw9
 obtain ⟨k9,rfl⟩:=hw9
 have hb9:=k9.below
 generalize k9.w=w9 at hb9 |-
 refine wpAny_ready (rs:=[12]) (by kernel_rfl) (by simp) ?_
 refine AllReady.cons (o:=⟨some 22,.call _,_,_,_,_⟩) rfl (fun K hK=>?_) AllReady.nil
 go_simp
 go_at_call 37
 with_reducible refine (hrs.out _ hb9).mono ?_
 rintro e w1 ⟨rfl,rfl⟩
 refine hK _ _ ?_
 clear hK K
 refine wpAny_take (i:=13) (oi:=⟨some 9,_,_,_,_,_⟩) (v:=.tuple #[.int .i64 0,.int .i64 2]) rfl (by kernel_rfl) (by kernel_rfl) (by kernel_rfl) (fun _ _ _ h=>h) (.inl ⟨by rfl,by intro w;go_simp⟩) ?_
 refine wpAny_take (i:=14) (oi:=⟨some 23,_,_,_,_,_⟩) (v:=.int .i64 0) rfl (by kernel_rfl) (by kernel_rfl) (by kernel_rfl) (fun _ _ _ h=>h) (.inl ⟨by rfl,by intro w;go_simp⟩) ?_
 refine wpAny_take (i:=15) (oi:=⟨some 24,_,_,_,_,_⟩) (v:=.int .i64 2) rfl (by kernel_rfl) (by kernel_rfl) (by kernel_rfl) (fun _ _ _ h=>h) (.inl ⟨by rfl,by intro w;go_simp⟩) ?_
 refine wpAny_take (i:=16) (oi:=⟨some 7,_,_,_,_,_⟩) (v:=.int .i64 0) rfl (by kernel_rfl) (by kernel_rfl) (by kernel_rfl) (fun _ _ _ h=>h) (.inl ⟨by rfl,by intro w;go_simp⟩) ?_
 refine wpAny_take (i:=17) (oi:=⟨some 8,_,_,_,_,_⟩) (v:=.int .i64 2) rfl (by kernel_rfl) (by kernel_rfl) (by kernel_rfl) (fun _ _ _ h=>h) (.inl ⟨by rfl,by intro w;go_simp⟩) ?_
 refine wpAny_done (by kernel_rfl) ?_ _
 dsimp only [Act.put]
 go_wp2
 go_ret
 exact ⟨rfl,hres.out _ hb9,Aa8 hb9⟩
end
end Go.Proofs.YtkjpjegmanpbfaaGreatDoor.Emu
namespace Go.Proofs.YtkjpjegmanpbfaaGreatDoor.Eqt
open Go RowKit
section
variable {P:Program} {ops:Array Oper} {Q:Exit->Act->World->Prop} {md:Region.Mode} {S:World->Prop}
def Ch7 (md:Region.Mode) (ops:Array Oper) (j i:Nat):Bool:=match ops[j]? with
 |none=>false
 |some oj=>oj.after.any fun e=>Region.binds md e && e.on == i
def At0 (md:Region.Mode) (ops:Array Oper) (j:Nat) (Is:List Nat):List Nat:=Is.filter fun i=>!Ch7 md ops j i
def Ak0 (P:Program) (md:Region.Mode) (ops:Array Oper) (Q:Exit->Act->World->Prop) (S:World->Prop):List Nat->Nat->Array Bool->Act->World->Prop
 |_,0,listed,a,w=>Region.ready md ops listed=[]/\Q .normal a w
 |Is,fuel+1,listed,a,w =>
  (Region.ready md ops listed=[]->Q .normal a w) /\
  ∀ j∈Region.ready md ops listed,wpOp P ops Q j (fun a' w'=>(At0 md ops j Is≠[]->S w')/\Ak0 P md ops Q S (At0 md ops j Is) fuel (listed.setIfInBounds j true) a' w') a w
theorem Bh5:∀ (fuel:Nat) (Is:List Nat) (listed:Array Bool) (a:Act) (w:World),Ak0 P md ops Q S Is fuel listed a w->wpAny P md ops Q fuel listed a w
 |0,_,_,_,_,h=>h
 |fuel+1,_,_,_,_,h=>⟨h.1,fun i hi=>wpOp_mono (fun _ _ h'=>Bh5 fuel _ _ _ _ h'.2) (h.2 i hi)⟩
theorem Bo4 {j:Nat} {Is Js:List Nat} (h:Is ⊆ Js):At0 md ops j Is ⊆ At0 md ops j Js:=fun i hi=>by
 simp only [At0,List.mem_filter] at hi |-
 exact ⟨h hi.1,hi.2⟩
theorem Ay2 {Is Js:List Nat} (h:Is ⊆ Js) (hn:Is≠[]):Js≠[]:=fun e=>hn (List.eq_nil_iff_forall_not_mem.2 fun i hi=>by rw [e] at h;exact absurd (h hi) (by simp))
theorem At9:∀ (fuel:Nat) (Is Js:List Nat) (_:Is ⊆ Js) (listed:Array Bool) (a:Act) (w:World),Ak0 P md ops Q S Js fuel listed a w->Ak0 P md ops Q S Is fuel listed a w
 |0,_,_,_,_,_,_,h=>h
 |fuel+1,_,_,hs,_,_,_,h=>⟨h.1,fun j hj=>wpOp_mono (fun _ _ h'=>⟨fun hn=>h'.1 (Ay2 (Bo4 hs) hn),At9 fuel _ _ (Bo4 hs) _ _ _ h'.2⟩) (h.2 j hj)⟩
theorem Ar0 (j:Nat) (Is:List Nat):At0 md ops j Is ⊆ Is:=fun i hi=>by
 simp only [At0,List.mem_filter] at hi
 exact hi.1
theorem waitsB_not {j i:Nat} {oj:Oper} (hj:ops[j]?=some oj) (h:∀ e∈oj.after,Region.binds md e=true->e.on≠i):Ch7 md ops j i=false:=by
 unfold Ch7
 simp only [hj]
 rw [Bool.eq_false_iff]
 intro ht
 obtain ⟨e,he,hb⟩:=Array.any_eq_true'.1 ht
 simp only [Bool.and_eq_true,beq_iff_eq] at hb
 exact h e he hb.1 hb.2
theorem leftB_cons {j i:Nat} {Is:List Nat} (h:Ch7 md ops j i=false):At0 md ops j (i::Is)=i::At0 md ops j Is:=by
 unfold At0
 rw [List.filter_cons_of_pos (by simp [h])]
theorem wpAnyU_first {i:Nat} {oi:Oper} {v:Value} (hi:ops[i]?=some oi) (hsel:∀ (j:Nat) (o:Oper) cs b,ops[j]?=some o->o.op≠.select cs b)
  (hQ:∀ c a w,Q (.panic c) (a.put oi.dst v) w->Q (.panic c) a w) :
  ∀ (fuel:Nat) (Is:List Nat) (listed:Array Bool) (a:Act) (w:World),
   (∀ j oj,ops[j]?=some oj->j≠i->listed.getD j true=false->(∀ e∈oj.after,Region.binds md e=true->e.on≠i)->oi.apart ops oj=true) ->
   i∈Region.ready md ops listed->YieldsIf P ops S oi v a->S w ->
   Ak0 P md ops Q S (i::Is) fuel (listed.setIfInBounds i true) (a.put oi.dst v) w->Ak0 P md ops Q S Is (fuel+1) listed a w:=by
 intro fuel
 induction fuel with
 |zero =>
  intro Is listed a w _ hr hy hS H
  refine ⟨fun h=>(by rw [h] at hr;cases hr),fun j hj=>?_⟩
  by_cases hji:j=i
  ·subst hji;exact hy.wpOp hi hS ⟨fun _=>hS,H⟩
  ·have:=ready_mono hj hji
   rw [H.1] at this
   cases this
 |succ fuel ih =>
  intro Is listed a w hfree hr hy hS H
  refine ⟨fun h=>(by rw [h] at hr;cases hr),fun j hj=>?_⟩
  by_cases hji:j=i
  ·subst hji;exact hy.wpOp hi hS ⟨fun _=>hS,At9 _ _ _ (fun k hk=>List.mem_cons_of_mem _ (Ar0 _ _ hk)) _ _ _ H⟩
  ·have h1:=H.2 j (ready_mono hj hji)
   obtain ⟨hjun,oj,hoj,hall⟩:=mem_ready.1 hj
   have hnot:∀ e∈oj.after,Region.binds md e=true->e.on≠i:=fun e he hb heq=>by
    have h1:=hall e he hb
    have h0:=(mem_ready.1 hr).1
    rw [heq] at h1
    rcases Nat.lt_or_ge i listed.size with h'|h'
    ·simp [h'] at h0 h1;rw [h0] at h1;cases h1
    ·simp [Array.getElem?_eq_none h'] at h1
   have h2:=wpOp_putIf hoj (hfree j oj hoj hji hjun hnot) (fun cs b=>hsel i oi cs b hi) (fun cs b=>hsel j oj cs b hoj) hQ hy h1
   have hfree':∀ k ok,ops[k]?=some ok->k≠i->(listed.setIfInBounds j true).getD k true=false ->
     (∀ e∈ok.after,Region.binds md e=true->e.on≠i)->oi.apart ops ok=true:=fun k ok hk hki hun hno=>by
    refine hfree k ok hk hki ?_ hno
    by_cases hjk:j=k
    ·subst hjk;exact hjun
    ·rw [getD_set_ne true hjk] at hun;exact hun
   have hl:At0 md ops j (i::Is)=i::At0 md ops j Is:=leftB_cons (waitsB_not hoj hnot)
   refine wpOp_mono (fun a' w' h3=>?_) h2
   obtain ⟨hy',hS',hU⟩:=h3
   have hS2:S w':=hS' (by rw [hl];exact List.cons_ne_nil _ _)
   rw [hl] at hU
   refine ⟨fun _=>hS2,ih (At0 md ops j Is) (listed.setIfInBounds j true) a' w' hfree' (ready_mono hr (Ne.symm hji)) hy' hS2 ?_⟩
   rw [Array.setIfInBounds_comm _ _ hji]
   exact hU
theorem wpAnyU_take {i:Nat} {oi:Oper} {v:Value} {fuel:Nat} {Is:List Nat} {listed:Array Bool} {a:Act} {w:World} (hi:ops[i]?=some oi)
  (hs:Region.noSelect ops=true) (hf:Region.free md ops listed i=true) (hr:(Region.ready md ops listed).contains i=true)
  (hQ:∀ c a w,Q (.panic c) (a.put oi.dst v) w->Q (.panic c) a w) (hy:YieldsIf P ops S oi v a) (hS:S w)
  (h:Ak0 P md ops Q S (i::Is) fuel (listed.setIfInBounds i true) (a.put oi.dst v) w):Ak0 P md ops Q S Is (fuel+1) listed a w :=
 wpAnyU_first hi (Region.noSelect_spec hs) hQ fuel Is listed a w (Region.free_spec hi hf) (by simpa using hr) hy hS h
theorem wpAnyU_firstP {i:Nat} {oi:Oper} {v:Value} (hi:ops[i]?=some oi) (hsel:∀ (j:Nat) (o:Oper) cs b,ops[j]?=some o->o.op≠.select cs b)
  (hQ:∀ c a w,Q (.panic c) (a.put oi.dst v) w->Q (.panic c) a w) :
  ∀ (fuel:Nat) (Is:List Nat) (listed:Array Bool) (a:Act) (w:World),
   (∀ j oj,ops[j]?=some oj->j≠i->listed.getD j true=false->(∀ e∈oj.after,Region.binds md e=true->e.on≠i)->oi.apart ops oj=true) ->
   i∈Region.ready md ops listed->Yields P ops oi v a->(Is≠[]->S w) ->
   Ak0 P md ops Q S Is fuel (listed.setIfInBounds i true) (a.put oi.dst v) w->Ak0 P md ops Q S Is (fuel+1) listed a w:=by
 intro fuel
 induction fuel with
 |zero =>
  intro Is listed a w _ hr hy hS H
  refine ⟨fun h=>(by rw [h] at hr;cases hr),fun j hj=>?_⟩
  by_cases hji:j=i
  ·subst hji;exact hy.wpOp hi ⟨fun hn=>hS (Ay2 (Ar0 _ _) hn),H⟩
  ·have:=ready_mono hj hji
   rw [H.1] at this
   cases this
 |succ fuel ih =>
  intro Is listed a w hfree hr hy hS H
  refine ⟨fun h=>(by rw [h] at hr;cases hr),fun j hj=>?_⟩
  by_cases hji:j=i
  ·subst hji;exact hy.wpOp hi ⟨fun hn=>hS (Ay2 (Ar0 _ _) hn),At9 _ _ _ (Ar0 _ _) _ _ _ H⟩
  ·have h1:=H.2 j (ready_mono hj hji)
   obtain ⟨hjun,oj,hoj,hall⟩:=mem_ready.1 hj
   have hnot:∀ e∈oj.after,Region.binds md e=true->e.on≠i:=fun e he hb heq=>by
    have h1:=hall e he hb
    have h0:=(mem_ready.1 hr).1
    rw [heq] at h1
    rcases Nat.lt_or_ge i listed.size with h'|h'
    ·simp [h'] at h0 h1;rw [h0] at h1;cases h1
    ·simp [Array.getElem?_eq_none h'] at h1
   have h2:=wpOp_put hoj (hfree j oj hoj hji hjun hnot) (fun cs b=>hsel i oi cs b hi) (fun cs b=>hsel j oj cs b hoj) hQ hy h1
   have hfree':∀ k ok,ops[k]?=some ok->k≠i->(listed.setIfInBounds j true).getD k true=false ->
     (∀ e∈ok.after,Region.binds md e=true->e.on≠i)->oi.apart ops ok=true:=fun k ok hk hki hun hno=>by
    refine hfree k ok hk hki ?_ hno
    by_cases hjk:j=k
    ·subst hjk;exact hjun
    ·rw [getD_set_ne true hjk] at hun;exact hun
   refine wpOp_mono (fun a' w' h3=>?_) h2
   obtain ⟨hy',hS',hU⟩:=h3
   refine ⟨hS',ih (At0 md ops j Is) (listed.setIfInBounds j true) a' w' hfree' (ready_mono hr (Ne.symm hji)) hy' hS' ?_⟩
   rw [Array.setIfInBounds_comm _ _ hji]
   exact hU
theorem wpAnyU_pure {i:Nat} {oi:Oper} {v:Value} {fuel:Nat} {Is:List Nat} {listed:Array Bool} {a:Act} {w:World} (hi:ops[i]?=some oi)
  (hs:Region.noSelect ops=true) (hf:Region.free md ops listed i=true) (hr:(Region.ready md ops listed).contains i=true)
  (hQ:∀ c a w,Q (.panic c) (a.put oi.dst v) w->Q (.panic c) a w) (hy:Yields P ops oi v a) (hS:Is≠[]->S w)
  (h:Ak0 P md ops Q S Is fuel (listed.setIfInBounds i true) (a.put oi.dst v) w):Ak0 P md ops Q S Is (fuel+1) listed a w :=
 wpAnyU_firstP hi (Region.noSelect_spec hs) hQ fuel Is listed a w (Region.free_spec hi hf) (by simpa using hr) hy hS h
theorem K1 (i:Nat) (oi:Oper) (v:Value) {fuel:Nat} {Is:List Nat} {listed:Array Bool} {a:Act} {w:World} (hi:ops[i]?=some oi) (hy:YieldsIf P ops S oi v a) (hS:S w)
 (h:Ak0 P md ops Q S (i::Is) fuel (listed.setIfInBounds i true) (a.put oi.dst v) w) (hs:Region.noSelect ops=true:=by kernel_rfl) (hf:Region.free md ops listed i=true:=by kernel_rfl) (hr:(Region.ready md ops listed).contains i=true:=by kernel_rfl)
 (hQ:∀ c a w,Q (.panic c) (a.put oi.dst v) w->Q (.panic c) a w:=by exact fun _ _ _ h=>h):Ak0 P md ops Q S Is (fuel+1) listed a w:=wpAnyU_take hi hs hf hr hQ hy hS h
theorem K2 (i:Nat) (oi:Oper) (v:Value) {fuel:Nat} {Is:List Nat} {listed:Array Bool} {a:Act} {w:World} (hi:ops[i]?=some oi) (hy:Yields P ops oi v a) (hS:Is≠[]->S w)
 (h:Ak0 P md ops Q S Is fuel (listed.setIfInBounds i true) (a.put oi.dst v) w) (hs:Region.noSelect ops=true:=by kernel_rfl) (hf:Region.free md ops listed i=true:=by kernel_rfl) (hr:(Region.ready md ops listed).contains i=true:=by kernel_rfl)
 (hQ:∀ c a w,Q (.panic c) (a.put oi.dst v) w->Q (.panic c) a w:=by exact fun _ _ _ h=>h):Ak0 P md ops Q S Is (fuel+1) listed a w:=wpAnyU_pure hi hs hf hr hQ hy hS h
theorem wpAnyU_one {fuel:Nat} {Is:List Nat} {listed:Array Bool} {a:Act} {w:World} (i:Nat) {o:Oper} (Js:List Nat) (hr:Region.ready md ops listed=[i]) (ho:ops[i]?=some o) (hJ:At0 md ops i Is=Js)
  (h:∀ K':Act->World->Prop,Shut (∀ a w,(Js≠[]->S w)->Ak0 P md ops Q S Js fuel (listed.setIfInBounds i true) a w->K' a w)->if Region.wanted o (yielded ops a.tmps)=true then Oper.wp P o a w K' Q else K' (a.put o.dst undef) w) :
  Ak0 P md ops Q S Is (fuel+1) listed a w:=by
 subst hJ
 refine ⟨fun h0=>(by rw [hr] at h0;cases h0),fun j hj=>?_⟩
 rw [hr] at hj
 obtain rfl:j=i:=by simpa using hj
 exact wpOp_step ho (fun K' hK=>h K' (fun a w hS hW=>hK a w ⟨hS,hW⟩))
theorem wpAnyU_done {Is:List Nat} {listed:Array Bool} {a:Act} {w:World} (hr:Region.ready md ops listed=[]) (h:Q .normal a w) :
  ∀ fuel,Ak0 P md ops Q S Is fuel listed a w
 |0=>⟨hr,h⟩
 |_+1=>⟨fun _=>h,by rw [hr];simp⟩
theorem region_until {id:Nat} {a:Act} {w:World} (S:World->Prop) (hm:P.follows .mixedOrders=true)
  (h:Ak0 P .any ops Q S [] ops.size (Array.replicate ops.size false) a w.drew):(Code.region id ops true).wp P Q a w :=
 wp_region_any hm (Bh5 _ _ _ _ _ h)
end
end Go.Proofs.YtkjpjegmanpbfaaGreatDoor.Eqt
namespace Go.Proofs.YtkjpjegmanpbfaaGreatDoor.Emu
open Go RowKit Com Rw Lns Scn
theorem resL_len (l:List Cel) (cols:Nat):(resL l cols).length=cols:=by
 unfold resL
 rw [mendAll_length]
 exact An9 l cols
theorem Br7 {S:Scr} (h:Fit S) {rows cols y:Nat} (hr1:1<=rows) (hr5:rows<=512) (hc1:1<=cols) (hc5:cols<=512) (hy:y<S.L.length):Fit (resS S rows cols y)/\(resS S rows cols y).L.length=rows:=by
 have hAl:(resA S rows y).L.length=S.L.length - (y - (rows - 1)):=by
  unfold resA
  rw [Ap0 (by omega)]
  omega
 have hAi:∀ p∈(resA S rows y).L,1<=p.1/\p.1<((resA S rows y).nx:Int):=Br5 h.ids h.pos
 have hAp:1<=(resA S rows y).nx:=h.pos
 unfold resS
 generalize resA S rows y=S1 at hAl hAi hAp |-
 have hBl:(resB S1 rows).L.length=rows:=by
  unfold resB
  rw [Ap0 (by omega)]
  omega
 have hBi:∀ p∈(resB S1 rows).L,1<=p.1/\p.1<((resB S1 rows).nx:Int):=Br5 hAi hAp
 have hBp:1<=(resB S1 rows).nx:=Nat.le_trans hAp (Nat.le_add_right _ _)
 generalize resB S1 rows=S2 at hBl hBi hBp |-
 have hl:(Bk1 (Br1 S2 cols)).L.length=rows:=by rw [<- hBl];exact List.length_map _
 have hb:(Bk1 (Br1 S2 cols)).bot=(Bk1 (Br1 S2 cols)).L.length - 1:=rfl
 refine ⟨⟨by omega,by omega,by omega,Nat.zero_le _,hc1,hc5,fun p hp=>?_,fun p hp=>?_,hBp⟩,hl⟩
 ·obtain ⟨q,_,rfl⟩:=List.mem_map.1 hp
  exact resL_len _ _
 ·obtain ⟨q,hq,rfl⟩:=List.mem_map.1 hp
  exact hBi q hq
theorem Ap8 (S:Scr) (rows cols y:Nat):S.nx<=(resS S rows cols y).nx/\(resS S rows cols y).nx<=S.nx+rows/\(resS S rows cols y).most=S.most/\(resS S rows cols y).kp=S.kp/\(resS S rows cols y).cols=cols:=by
 refine ⟨?_,?_,rfl,rfl,rfl⟩
 ·show S.nx<=S.nx+0+_
  omega
 ·show S.nx+0+(rows - _)<=_
  omega
structure Szd (T T2:Ter) (rows cols:Nat):Prop where
 fit:Fit T2.vis
 fitm:Fit T2.mscr
 len:T2.vis.L.length=rows
 mlen:T2.main.L.length=rows
 wid:T2.vis.cols=cols
 mwid:T2.main.cols=cols
 svo:∀ o,T2.other=some o->o.sv.c.row<rows/\o.sv.c.col<cols
 tn:T2.tn=T.tn
 alt:T2.other.isSome=T2.m.a6
 jr:T2.jr=T.jr
section
variable {T:Ter} {rows cols:Nat}
theorem By5 (ok:Ok T) (hoo:T.other=none) (hr1:1<=rows) (hr5:rows<=512) (hc1:1<=cols) (hc5:cols<=512):Szd T (T.putVis (resS T.vis rows cols T.c.row)) rows cols:=by
 obtain ⟨hF,hl⟩:=Br7 ok.fit (y:=T.c.row) hr1 hr5 hc1 hc5 ok.row
 obtain ⟨_,_,hm,hk,hc⟩:=Ap8 T.vis rows cols T.c.row
 have hm':(resS T.vis rows cols T.c.row).most=T.most:=hm
 have hk':(resS T.vis rows cols T.c.row).kp=true:=by rw [hk];show T.other.isNone=true;rw [hoo];rfl
 generalize resS T.vis rows cols T.c.row=S at *
 obtain ⟨nx,most,kp,co,top,bot,L,R⟩:=S
 simp only at hm' hk' hc
 subst hm' hk' hc
 have e:T.putVis ⟨nx,T.most,true,co,top,bot,L,R⟩={ T with nx:=nx,R:=R,main:={ T.main with cols:=co,top:=top,bot:=bot,L:=L } }:=by unfold Ter.putVis;rw [hoo];rfl
 rw [e]
 have ev:({ T with nx:=nx,R:=R,main:={ T.main with cols:=co,top:=top,bot:=bot,L:=L } }:Ter).vis=⟨nx,T.most,true,co,top,bot,L,R⟩:=by unfold Ter.vis Ter.sh;simp only [hoo];rfl
 exact ⟨by rw [ev];exact hF,hF,by rw [ev];exact hl,hl,by rw [ev],rfl,fun o ho=>by (have ho':T.other=some o:=ho;rw [hoo] at ho';cases ho'),rfl,ok.alt,rfl⟩
theorem By6 {o:Sh} (ok:Ok T) (hoo:T.other=some o) (hr1:1<=rows) (hr5:rows<=512) (hc1:1<=cols) (hc5:cols<=512) :
  Fit (T.putVis (resS T.vis rows cols T.c.row)).mscr/\(T.putVis (resS T.vis rows cols T.c.row)).main=T.main/\(T.putVis (resS T.vis rows cols T.c.row)).other=some (o.of (resS T.vis rows cols T.c.row))/\(T.putVis (resS T.vis rows cols T.c.row)).nx=(resS T.vis rows cols T.c.row).nx/\Fit (resS T.vis rows cols T.c.row) /\
  Szd T (Ai7 (T.putVis (resS T.vis rows cols T.c.row)) rows cols) rows cols:=by
 obtain ⟨hF,hl⟩:=Br7 ok.fit (y:=T.c.row) hr1 hr5 hc1 hc5 ok.row
 obtain ⟨hn,_,hm,hk,hc⟩:=Ap8 T.vis rows cols T.c.row
 have hm':(resS T.vis rows cols T.c.row).most=T.most:=hm
 have hn':T.nx<=(resS T.vis rows cols T.c.row).nx:=hn
 generalize resS T.vis rows cols T.c.row=S at *
 have e:T.putVis S={ T with nx:=S.nx,R:=S.R,other:=some (o.of S) }:=by unfold Ter.putVis;rw [hoo]
 have hfm:Fit (T.putVis S).mscr:=by
  rw [e]
  have h:=ok.fitm
  exact ⟨h.len,h.len5,h.bot,h.top,h.c1,h.c5,h.wid,fun p hp=>⟨(h.ids p hp).1,by have:=(h.ids p hp).2;have h2:T.mscr.nx=T.nx:=rfl;show p.1<(S.nx:Int);rw [h2] at this;omega⟩,hF.pos⟩
 refine ⟨hfm,by rw [e],by rw [e],by rw [e],hF,?_⟩
 have hsv:T.main.sv.c.row<T.main.L.length:=ok.svm.1
 have hml:(T.putVis S).mscr.L.length=T.main.L.length:=by rw [e];rfl
 have hms:(T.putVis S).main.sv=T.main.sv:=by rw [e]
 obtain ⟨hG,hgl⟩:=Br7 hfm (y:=T.main.sv.c.row) hr1 hr5 hc1 hc5 (by rw [hml];exact hsv)
 obtain ⟨gn,_,gm,gk,gc⟩:=Ap8 (T.putVis S).mscr rows cols T.main.sv.c.row
 have e2:Ai7 (T.putVis S) rows cols={ T with nx:=(resS (T.putVis S).mscr rows cols T.main.sv.c.row).nx,R:=(resS (T.putVis S).mscr rows cols T.main.sv.c.row).R,main:={ (T.main.of (resS (T.putVis S).mscr rows cols T.main.sv.c.row)) with sv:={ T.main.sv with c:={ T.main.sv.c with row:=Ap4 T.main.sv.c.row rows } } },other:=some (o.of S).hold }:=by
  unfold Ai7
  rw [hms]
  rw [e]
  rfl
 rw [e2]
 have hgn:S.nx<=(resS (T.putVis S).mscr rows cols T.main.sv.c.row).nx:=by
  have h3:(T.putVis S).mscr.nx=S.nx:=by rw [e];rfl
  rw [h3] at gn
  exact gn
 have hgm:(resS (T.putVis S).mscr rows cols T.main.sv.c.row).most=T.most:=by rw [gm,e];rfl
 have hgk:(resS (T.putVis S).mscr rows cols T.main.sv.c.row).kp=true:=by rw [gk];rfl
 generalize resS (T.putVis S).mscr rows cols T.main.sv.c.row=G at *
 refine ⟨⟨hF.len,hF.len5,hF.bot,hF.top,hF.c1,hF.c5,hF.wid,fun p hp=>⟨(hF.ids p hp).1,?_⟩,hG.pos⟩,?_,hl,hgl,hc,gc,fun o2 ho2=>?_,rfl,?_,rfl⟩
 ·have:=(hF.ids p hp).2
  show p.1<(G.nx:Int)
  omega
 ·obtain ⟨nx,most,kp,co,top,bot,L,R⟩:=G
  simp only at hgm hgk
  subst hgm hgk
  exact hG
 ·obtain rfl:(o.of S).hold=o2:=Option.some.inj ho2
  refine ⟨?_,?_⟩
  ·show Aj3 _ S.L.length<rows
   rw [hl]
   exact Ai3 _ hr1
  ·show Aj3 _ S.cols<cols
   rw [hc]
   exact Ai3 _ hc1
 ·have:=ok.alt
  rw [hoo] at this
  exact this
theorem Szd.ok {T2:Ter} (h:Szd T T2 rows cols) (hr1:1<=rows) (hc1:1<=cols) (f:Nat->Bool) (r c:Int):Ok (place { T2 with main:=T2.main.hold,tf:=f,tn:=cols } r c)/\Fit ({ T2 with main:=T2.main.hold,tf:=f,tn:=cols }:Ter).vis:=by
 have hfit:Fit ({ T2 with main:=T2.main.hold,tf:=f,tn:=cols }:Ter).vis/\({ T2 with main:=T2.main.hold,tf:=f,tn:=cols }:Ter).vis.L.length=rows/\({ T2 with main:=T2.main.hold,tf:=f,tn:=cols }:Ter).vis.cols=cols:=by
  rcases hoo:T2.other with _|o
  ·have e:({ T2 with main:=T2.main.hold,tf:=f,tn:=cols }:Ter).vis=T2.vis:=by unfold Ter.vis Ter.sh;simp only [hoo];rfl
   rw [hoo] at e
   rw [e]
   exact ⟨h.fit,h.len,h.wid⟩
  ·have e:({ T2 with main:=T2.main.hold,tf:=f,tn:=cols }:Ter).vis=T2.vis:=by unfold Ter.vis Ter.sh;simp only [hoo]
   rw [hoo] at e
   rw [e]
   exact ⟨h.fit,h.len,h.wid⟩
 obtain ⟨q1,q2,q3⟩:=hfit
 refine ⟨⟨q1,h.fitm,h.mlen.trans q2.symm,h.mwid.trans q3.symm,Ai3 _ q1.len,Ai3 _ q1.c1,?_,?_,q3.symm,h.alt⟩,q1⟩
 ·show ({ T2 with main:=T2.main.hold,tf:=f,tn:=cols }:Ter).sh.sv.c.row<({ T2 with main:=T2.main.hold,tf:=f,tn:=cols }:Ter).vis.L.length/\({ T2 with main:=T2.main.hold,tf:=f,tn:=cols }:Ter).sh.sv.c.col<({ T2 with main:=T2.main.hold,tf:=f,tn:=cols }:Ter).vis.cols
  rw [q2,q3]
  unfold Ter.sh
  rcases hoo:T2.other with _|o
  ·simp only
   refine ⟨?_,?_⟩
   ·show Aj3 _ T2.main.L.length<rows
    rw [h.mlen]
    exact Ai3 _ hr1
   ·show Aj3 _ T2.main.cols<cols
    rw [h.mwid]
    exact Ai3 _ hc1
  ·simp only
   exact h.svo o hoo
 ·refine ⟨Ai3 _ (by show 1<=T2.main.L.length;rw [h.mlen];exact hr1),Ai3 _ (by show 1<=T2.main.cols;rw [h.mwid];exact hc1)⟩
end
section
variable {Z:Zn} {w w':World} {t:Nat} {T:Ter} {P:Pt}
theorem TMx.focusMain (h:TMx Z w t T P) {o:Sh} (hoo:T.other=some o):∃ Z1:Zn,(∀ k,Z1 k->Z k)/\SC Z1 w P.xm P.s T.mscr /\
  ∀ w' S',SC Z1 w' P.xm P.s S'->S'.most=T.most->S'.kp=true->Scn.Fr Z1 PT w w'->TMx Z w' t { T with nx:=S'.nx,R:=S'.R,main:=T.main.of S' } P/\Scn.Fr Z TT w w':=by
 have keep:∀ {Z1:Zn} {w':World},Scn.Fr Z1 PT w w'->∀ {k:Nat} {ty:TypeId},Typ w k ty->ty∉PT->w'.heap[k]?=w.heap[k]?:=fun {Z1 w'} hf {k ty} hk hty=>hf.block _ (Am6 hk) (.inr fun t' ht' hT=>hty (by rw [Typ.inj hk hT];exact ht'))
 have same:∀ {Z1:Zn} {w':World},Scn.Fr Z1 PT w w'->∀ {k:Nat} {ty:TypeId} {cs:Array Value},Block w k ty cs->ty∉PT->Block w' k ty cs:=fun {Z1 w'} hf {k ty cs} hb hty=>(keep hf (Block.typ hb) hty).trans hb
 obtain ⟨hblk,hmain,haside,hscr,htabs,hjr,hrp,hzt,hzm,hzb,hzj,hzr,hup,hlow,htbl⟩:=h
 unfold Scrs at hscr
 rw [hoo] at hscr
 obtain ⟨Z1,hs,h1,hb⟩:=hscr.swap.focus
 obtain ⟨a1,a2,a3⟩:=haside o hoo
 refine ⟨Z1,hs,h1,fun w' S' hS hmo hkp hf=>⟨?_,(hf.zone hs).mono Ca2⟩⟩
 have hlow1:∀ k,k<6->¬ Z1 k:=fun k hk hz=>hlow k hk (hs k hz)
 refine ⟨same hf hblk (by decide),same hf hmain (by decide),fun o2 ho2=>?_,?_,same hf htabs (by decide),Ad4 hjr (fun g hg=>keep hf (Ab8 hjr g hg) (by decide)),Af1 hrp (fun g hg=>keep hf (Af6 hrp g hg) (by decide)),
   hzt,hzm,hzb,hzj,hzr,fun k hk=>hup k (Nat.le_trans hf.size hk),hlow,htbl.fr hf hlow1⟩
 ·have:o=o2:=by have ho3:T.other=some o2:=ho2;rw [hoo] at ho3;exact Option.some.inj ho3
  subst this
  exact ⟨same hf a1 (by decide),a2,a3⟩
 ·have h2:=(hb w' S' hS hmo hf).swap
  unfold Scrs
  simp only [hoo]
  obtain ⟨nx,most,kp,cols,top,bot,L,R⟩:=S'
  simp only at hmo hkp
  subst hmo hkp
  have ev:({ T with nx:=nx,R:=R,main:=T.main.of ⟨nx,T.most,true,cols,top,bot,L,R⟩ }:Ter).vis=⟨nx,T.most,T.vis.kp,T.vis.cols,T.vis.top,T.vis.bot,T.vis.L,R⟩:=by unfold Ter.vis Ter.sh;simp only [hoo];rfl
  rw [hoo] at ev
  rw [ev]
  exact h2
end
