/- Part 40 of the proof that the card of HostNone holds. -/
import Derived.Test.YtbafmljidapmgaaGreatDoorN39
import Derived.OrdersHeld
set_option maxHeartbeats 16000000
set_option maxRecDepth 100000
namespace Go.Proofs.YtbafmljidapmgaaGreatDoor.Emu
open Go RowKit Com Rw Lns Scn
section
variable {w w':World}
def Cp1 (most:Nat):Ter:=⟨Mds.none0,cur0,pen0,1,most,[],⟨0,0,0,[],sav0⟩,none,0,fun _=>false,0,ev0,[],[]⟩
def Bg4 (s:Nat):Array Value:=#[.bool false,.bool false,.bool false,.bool false,.bool false,.bool false,.bool false,.bool false,.int .i64 0,.int .i64 0,.bool false,.int .u32 0,.int .u32 0,.int .u16 0,.int .u8 0,.int .u8 0,.int .i64 0,.pointer (some ⟨s,0,none⟩),.pointer none,.pointer none,.pointer none,.int .u64 0,
 .int .u8 0,.int .u64 0,.int .i64 0,.int .i64 0,.bool false,.int .i32 0,.bool false,.bool false,.bool false,.bool false,.slice none 0 0,.slice none 0 0]
theorem Cb4 (s most:Nat):Bg4 s=terB (Cp1 most) s (.pointer none) (.pointer none) (.pointer none) (.slice none 0 0) (.slice none 0 0):=by kernel_rfl
theorem sx_zero {B s nx most:Nat} {sv:Value} {R:List En} (h:SX B w s nx most sv R):SX 0 w s nx most sv R:=by
 obtain ⟨⟨o,P,h0,hR⟩,hg⟩:=h
 refine ⟨⟨o,P,⟨h0.blk,⟨h0.own.1,?_⟩,h0.le,h0.old,h0.olt,h0.most,h0.pos,h0.small,Nat.zero_le _⟩,hR⟩,fun e he=>?_⟩
 ·rcases h0.own.2 with h2|⟨g,cap,cur,e,_,r⟩
  ·exact .inl h2
  ·exact .inr ⟨g,cap,cur,e,Nat.zero_le _,r⟩
 ·obtain ⟨g1,_,_,g4⟩:=hg e he
  exact ⟨g1,Nat.zero_le _,Nat.zero_le _,g4⟩
theorem begin_no {t s:Nat} (rows cols:Int) (c17:w.cell? ⟨t,17,none⟩=some (.pointer (some ⟨s,0,none⟩))) (hno:¬ (1<=rows/\rows<=512)\/¬ (1<=cols/\cols<=512)):Calls Tryz.prog 65 #[.pointer (some ⟨t,0,none⟩),.int .i64 rows,.int .i64 cols] w fun e w'=>e=.returned (.int .i64 2)/\w=w':=by
 have hn:=J0 (snew_no rows cols (some ⟨s,0,none⟩) true w (hno.imp id .inl))
 clear hno
 go_enter Tryz.func65,Tryz.ntmps65
 go_wp2_with ((go_at_call 114;(with_reducible refine (hn.out).mono ?_);rintro e w1 ⟨rfl,rfl⟩))
 go_ret
 exact ⟨rfl,rfl⟩
theorem tnew_back (rows cols most:Int) (h:most<0\/10000<most) (w:World):Calls Tryz.prog 36 #[.int .i64 rows,.int .i64 cols,.int .i64 most] w fun e w'=>e=.returned (.tuple #[.pointer none,.int .i64 2])/\Below w.heap.size w w':=by
 have hn:=J0 (Lns.new_no most h w)
 go_enter Tryz.func36,Tryz.ntmps36
 go_wp2_with ((go_at_call 64;(with_reducible refine (hn.out).mono ?_);rintro e w1 ⟨rfl,rfl⟩))
 go_ret2
 exact ⟨rfl,Below.refl _ _⟩
theorem tnew_size (rows cols:Int) (most:Nat) (hm:most<=10000) (hno:¬ (1<=rows/\rows<=512)\/¬ (1<=cols/\cols<=512)) (w:World):Calls Tryz.prog 36 #[.int .i64 rows,.int .i64 cols,.int .i64 most] w fun e w'=>e=.returned (.tuple #[.pointer none,.int .i64 2])/\Below w.heap.size w w':=by
 have hln:=J0 (new_yes most hm w)
 have hbg:Hid (∀ w1:World,Calls Tryz.prog 65 #[.pointer (some ⟨w1.heap.size,0,none⟩),.int .i64 rows,.int .i64 cols] (w1.alloc (.cells (Bg4 w.heap.size) 148)) fun e w'=>e=.returned (.int .i64 2)/\w1.alloc (.cells (Bg4 w.heap.size) 148)=w'):=J0 fun w1 =>
  begin_no rows cols ((Block.made w1 148 (Bg4 w.heap.size)).cell 17 rfl) hno
 simp only [Bg4] at hbg
 clear hno
 go_enter Tryz.func36,Tryz.ntmps36
 go_wp2_with (first
  |(go_at_call 64;(with_reducible refine (hln.out).mono ?_);rintro e w1 ⟨rfl,_,hb1⟩)
  |(go_at_call 65;(with_reducible refine (hbg.out _).mono ?_);rintro e w3 ⟨rfl,rfl⟩))
 go_ret2
 exact ⟨rfl,Aa0 hb1 (Aa1 w1 _)⟩
end
structure TV (Z:Zn) (w:World) (d t:Nat) (T:Ter):Prop where
 blk:Block w d 150 #[.pointer (some ⟨t,0,none⟩)]
 tm:TM Z w t T
section
variable {Z:Zn} {w w':World} {d t:Nat} {T:Ter} {x:AcT} {pa ia ta:Option Addr} {pn pc ic tn tc:Nat}
theorem TV.below (h:TV Z w d t T) (hb:Below w.heap.size w w'):TV Z w' d t T:=⟨Block.only h.blk (Only.of_below hb []) (by simp),h.tm.below hb⟩
theorem TV.turn {T':Ter} (h:TV Z w d t T) (h1:TM Z w' t T') (hf:Scn.Fr Z TT w w'):TV Z w' d t T':=⟨Scn.Block.fr h.blk hf (.inl (by decide)),h1⟩
theorem isMade_yes (h:TV Z w d t T):Calls Tryz.prog 86 #[.pointer (some ⟨d,0,none⟩)] w fun e w'=>e=.returned (.bool true)/\w=w':=by
 have c0:=h.blk.cell 0 (v:=.pointer (some ⟨t,0,none⟩)) rfl
 clear h
 go_enter Tryz.func86,Tryz.ntmps86
 go_wp2
 go_ret
 exact ⟨rfl,rfl⟩
theorem tdo_any (h:TV Z w d t T) (ok:Ok T) (hw:Wf x) (hR:Roomy T x) (hp:NA Z w (.slice pa pn pc) x.params) (hra:RA Z w ia x.inter):Calls Tryz.prog 69 #[.pointer (some ⟨d,0,none⟩),.agg #[.int .u8 x.kind,.int .i32 x.r,.int .i32 x.priv,.slice pa pn pc,.slice ia x.inter.length ic,.int .i32 x.fin,.slice ta tn tc]] w fun e w'=>e=.returned (.int .i64 0)/\TV Z w' d t (doT T x)/\Scn.Fr Z TT w w':=by
 have hbn:=Aa1 w (.cells #[.int .u8 x.kind,.int .i32 x.r,.int .i32 x.priv,.slice pa pn pc,.slice ia x.inter.length ic,.int .i32 x.fin,.slice ta tn tc] 112)
 have hbx:=Block.made w 112 #[.int .u8 x.kind,.int .i32 x.r,.int .i32 x.priv,.slice pa pn pc,.slice ia x.inter.length ic,.int .i32 x.fin,.slice ta tn tc]
 have hm:=J0 (isMade_yes (h.below hbn))
 have hdo:=J0 (fun w1 (hb:Below w.heap.size w w1)=>do_any (pa:=pa) (pn:=pn) (pc:=pc) (ia:=ia) (ic:=ic) (ta:=ta) (tn:=tn) (tc:=tc) (h.below hb).tm ok hw hR (hp.below hb) (hra.below hb))
 have hcd:=J0 (fun w1 (hb:Below w.heap.size w w1)=>(h.below hb).blk.cell 0 (v:=.pointer (some ⟨t,0,none⟩)) rfl)
 have hend:=J0 (fun w1 w2 (hb:Below w.heap.size w w1) (h2:TM Z w2 t (doT T x)) (hf:Scn.Fr Z TT w1 w2)=>(⟨(h.below hb).turn h2 hf,(Scn.Fr.of_below hb).trans hf⟩:TV Z w2 d t (doT T x)/\Scn.Fr Z TT w w2))
 generalize doT T x=T2 at hdo hend |-
 generalize x.inter.length=im at *
 generalize x.fin=f at *
 generalize x.r=r at *
 generalize x.priv=pr at *
 generalize x.kind=k at *
 clear h ok hw hR hp hra
 go_enter Tryz.func69,Tryz.ntmps69
 go_upto_region 1 with (fail)
 generalize w.alloc (.cells #[.int .u8 k,.int .i32 r,.int .i32 pr,.slice pa pn pc,.slice ia im ic,.int .i32 f,.slice ta tn tc] 112)=w0 at hbn hbx hm |-
 have hxk:=fun k':Eqt.Ext w0=>Block.only hbx (Only.of_below k'.below []) (by simp)
 have x0:=fun k':Eqt.Ext w0=>(hxk k').cell 0 (v:=.int .u8 k) rfl
 have x1:=fun k':Eqt.Ext w0=>(hxk k').cell 1 (v:=.int .i32 r) rfl
 have x2:=fun k':Eqt.Ext w0=>(hxk k').cell 2 (v:=.int .i32 pr) rfl
 have x3:=fun k':Eqt.Ext w0=>(hxk k').cell 3 (v:=.slice pa pn pc) rfl
 have x4:=fun k':Eqt.Ext w0=>(hxk k').cell 4 (v:=.slice ia im ic) rfl
 have x5:=fun k':Eqt.Ext w0=>(hxk k').cell 5 (v:=.int .i32 f) rfl
 have x6:=fun k':Eqt.Ext w0=>(hxk k').cell 6 (v:=.slice ta tn tc) rfl
 have cd:=fun k':Eqt.Ext w0=>hcd.out _ (Aa0 hbn k'.below)
 clear hbx hxk
 go_wp2_with ((go_at_call 86;(with_reducible refine (hm.out).mono ?_);rintro e w1 ⟨rfl,rfl⟩))
 refine Eqt.region_ext_tail 5 (by kernel_rfl) (by kernel_rfl) ?_
 simp only [List.take_succ_cons,List.take_zero,List.drop_succ_cons,List.drop_zero]
 repeat (go_big_quiet_step (fail))
 refine wpQuiet_nil ?_
 intro w9 hw9
 obtain ⟨k9,rfl⟩:=hw9
 have hb9:=k9.below
 generalize k9.w=w9 at hb9 |-
 have hb:=Aa0 hbn hb9
 go_wp2_with ((go_at_call 123;(with_reducible refine (hdo.out _ hb).mono ?_);rintro e w3 ⟨⟨v3,rfl⟩,h3,hf3⟩))
 go_ret
 exact ⟨rfl,hend.out _ _ hb h3 hf3⟩
theorem tprints_any (h:TV Z w d t T):Calls Tryz.prog 62 #[.pointer (some ⟨d,0,none⟩)] w fun e w'=>e=.returned (.int .u64 T.prints)/\w=w':=by
 have hm:=J0 (isMade_yes h)
 have c0:=h.blk.cell 0 (v:=.pointer (some ⟨t,0,none⟩)) rfl
 obtain ⟨P,hT⟩:=h.tm
 have c21:=hT.c21
 clear h hT
 go_enter Tryz.func62,Tryz.ntmps62
 go_wp2_with ((go_at_call 86;(with_reducible refine (hm.out).mono ?_);rintro e w1 ⟨rfl,rfl⟩))
 go_ret
 exact ⟨rfl,rfl⟩
end
section
variable {Z:Zn} {w w':World} {d t:Nat} {T:Ter} {P:Pt}
theorem TMx.took (h:TMx Z w t T P):(TMx Z (w.setCell ⟨t,32,none⟩ (.slice none 0 0)) t { T with jr:=[] } { P with jv:=.slice none 0 0 }/\Scn.Fr Z TT w (w.setCell ⟨t,32,none⟩ (.slice none 0 0))) /\
  (TMx Z (w.setCell ⟨t,33,none⟩ (.slice none 0 0)) t { T with rp:=[] } { P with rv:=.slice none 0 0 }/\Scn.Fr Z TT w (w.setCell ⟨t,33,none⟩ (.slice none 0 0))):=by
 have hf:∀ w',Only [t] w w'->Scn.Fr Z [148] w w':=fun w' ho=>Scn.Fr.of_only ho fun k hk _=>by
  obtain rfl:k=t:=by simpa using hk
  exact ⟨h.zt,_,by simp,Block.typ h.blk⟩
 have keep:∀ {w':World},Only [t] w w'->∀ {k:Nat} {ty:TypeId},Typ w k ty->ty≠148->w'.heap[k]?=w.heap[k]?:=fun {w'} ho {k ty} hk hty=>ho.block _ (Ak9 hk) (Ae1 hk (Block.typ h.blk) hty)
 have same:∀ {w':World},Only [t] w w'->∀ {k:Nat} {ty:TypeId} {cs:Array Value},Block w k ty cs->ty≠148->Block w' k ty cs:=fun {w'} ho {k ty cs} hb hty=>(keep ho (Block.typ hb) hty).trans hb
 have o1:=Only.setCell w ⟨t,32,none⟩ (.slice none 0 0)
 have o2:=Only.setCell w ⟨t,33,none⟩ (.slice none 0 0)
 exact ⟨⟨⟨h.blk.set 32 _,same o1 h.main (by decide),fun o ho=>⟨same o1 (h.aside o ho).1 (by decide),(h.aside o ho).2⟩,h.scr.fr (hf _ o1) (by unfold NoPT;decide),same o1 h.tabs (by decide),
  World.ownsRow_nil _ _ _ _,Ad5 h.rp (fun g hg=>keep o1 (Ad1 h.rp g hg) (by decide)),h.zt,h.zm,h.zb,fun g hg=>(by cases hg),h.zr,fun k hk=>h.up k (Nat.le_trans (hf _ o1).size hk),h.low,h.tbl.fr (hf _ o1) h.low⟩,(hf _ o1).mono (by simp [TT])⟩,
  ⟨⟨h.blk.set 33 _,same o2 h.main (by decide),fun o ho=>⟨same o2 (h.aside o ho).1 (by decide),(h.aside o ho).2⟩,h.scr.fr (hf _ o2) (by unfold NoPT;decide),same o2 h.tabs (by decide),
  Ac2 h.jr (fun g hg=>keep o2 (Ab6 h.jr g hg) (by decide)),Kys.Row.nil _ _ _,h.zt,h.zm,h.zb,h.zj,fun g hg=>(by cases hg),fun k hk=>h.up k (Nat.le_trans (hf _ o2).size hk),h.low,h.tbl.fr (hf _ o2) h.low⟩,(hf _ o2).mono (by simp [TT])⟩⟩
theorem TMx.jshape (h:TMx Z w t T P):∃ ao c,P.jv=.slice ao T.jr.length c:=by
 obtain ⟨ao,c,e,_,_⟩:=Ad0 h.jr
 exact ⟨ao,c,e⟩
theorem TMx.rshape (h:TMx Z w t T P):∃ ao c,P.rv=.slice ao T.rp.length c:=by
 rcases h.rp with ⟨e,e2⟩|⟨g,cap,cur,fz,e,_⟩
 ·exact ⟨none,0,by rw [e,e2];rfl⟩
 ·exact ⟨_,_,e⟩
theorem treplies_any (h:TV Z w d t T):Calls Tryz.prog 70 #[.pointer (some ⟨d,0,none⟩)] w fun e w'=>(∃ v,e=.returned v/\Kys.Row w' 0 5 v T.rp)/\TV Z w' d t { T with rp:=[] }/\Scn.Fr Z TT w w':=by
 have hm:=J0 (isMade_yes h)
 have c0:=h.blk.cell 0 (v:=.pointer (some ⟨t,0,none⟩)) rfl
 obtain ⟨P,hT⟩:=h.tm
 have c33:=hT.c33
 have f33:=hT.free 33
 obtain ⟨ao,c,e⟩:=hT.rshape
 have hrow:Kys.Row (w.setCell ⟨t,33,none⟩ (.slice none 0 0)) 0 5 P.rv T.rp:=Ad5 hT.rp (fun g hg=>(Only.setCell w ⟨t,33,none⟩ (.slice none 0 0)).block _ (Ak9 (Ad1 hT.rp g hg)) (Ae1 (Ad1 hT.rp g hg) (Block.typ hT.blk) (by decide)))
 rw [e] at c33 hrow
 have hk:=J0 (hT.took.2)
 have hend:=J0 (h.turn hT.took.2.1.tm hT.took.2.2)
 replace hrow:=J0 hrow
 generalize T.rp.length=n at c33 hrow
 clear h hT e
 go_enter Tryz.func70,Tryz.ntmps70
 go_wp2_with ((go_at_call 86;(with_reducible refine (hm.out).mono ?_);rintro e w1 ⟨rfl,rfl⟩))
 go_ret
 exact ⟨⟨_,rfl,hrow.out⟩,hend.out,hk.out.2⟩
end
end Go.Proofs.YtbafmljidapmgaaGreatDoor.Emu
namespace Go.Proofs.YtbafmljidapmgaaGreatDoor.Eqt
open Go RowKit
section
variable {P:Program} {ops:Array Oper} {Q:Exit->Act->World->Prop} {md:Region.Mode} {S:World->Prop}
def Ck8 (md:Region.Mode) (ops:Array Oper) (j i:Nat):Bool:=match ops[j]? with
 |none=>false
 |some oj=>oj.after.any fun e=>Region.binds md e && e.on == i
def At1 (md:Region.Mode) (ops:Array Oper) (j:Nat) (Is:List Nat):List Nat:=Is.filter fun i=>!Ck8 md ops j i
def Ak0 (P:Program) (md:Region.Mode) (ops:Array Oper) (Q:Exit->Act->World->Prop) (S:World->Prop):List Nat->Nat->Array Bool->Act->World->Prop
 |_,0,listed,a,w=>Region.ready md ops listed=[]/\Q .normal a w
 |Is,fuel+1,listed,a,w =>
  (Region.ready md ops listed=[]->Q .normal a w) /\
  ∀ j∈Region.ready md ops listed,wpOp P ops Q j (fun a' w'=>(At1 md ops j Is≠[]->S w')/\Ak0 P md ops Q S (At1 md ops j Is) fuel (listed.setIfInBounds j true) a' w') a w
theorem Bj6:∀ (fuel:Nat) (Is:List Nat) (listed:Array Bool) (a:Act) (w:World),Ak0 P md ops Q S Is fuel listed a w->wpAny P md ops Q fuel listed a w
 |0,_,_,_,_,h=>h
 |fuel+1,_,_,_,_,h=>⟨h.1,fun i hi=>wpOp_mono (fun _ _ h'=>Bj6 fuel _ _ _ _ h'.2) (h.2 i hi)⟩
theorem Bq4 {j:Nat} {Is Js:List Nat} (h:Is ⊆ Js):At1 md ops j Is ⊆ At1 md ops j Js:=fun i hi=>by
 simp only [At1,List.mem_filter] at hi |-
 exact ⟨h hi.1,hi.2⟩
theorem Az4 {Is Js:List Nat} (h:Is ⊆ Js) (hn:Is≠[]):Js≠[]:=fun e=>hn (List.eq_nil_iff_forall_not_mem.2 fun i hi=>by rw [e] at h;exact absurd (h hi) (by simp))
theorem Au0:∀ (fuel:Nat) (Is Js:List Nat) (_:Is ⊆ Js) (listed:Array Bool) (a:Act) (w:World),Ak0 P md ops Q S Js fuel listed a w->Ak0 P md ops Q S Is fuel listed a w
 |0,_,_,_,_,_,_,h=>h
 |fuel+1,_,_,hs,_,_,_,h=>⟨h.1,fun j hj=>wpOp_mono (fun _ _ h'=>⟨fun hn=>h'.1 (Az4 (Bq4 hs) hn),Au0 fuel _ _ (Bq4 hs) _ _ _ h'.2⟩) (h.2 j hj)⟩
theorem Ar2 (j:Nat) (Is:List Nat):At1 md ops j Is ⊆ Is:=fun i hi=>by
 simp only [At1,List.mem_filter] at hi
 exact hi.1
theorem waitsB_not {j i:Nat} {oj:Oper} (hj:ops[j]?=some oj) (h:∀ e∈oj.after,Region.binds md e=true->e.on≠i):Ck8 md ops j i=false:=by
 unfold Ck8
 simp only [hj]
 rw [Bool.eq_false_iff]
 intro ht
 obtain ⟨e,he,hb⟩:=Array.any_eq_true'.1 ht
 simp only [Bool.and_eq_true,beq_iff_eq] at hb
 exact h e he hb.1 hb.2
theorem leftB_cons {j i:Nat} {Is:List Nat} (h:Ck8 md ops j i=false):At1 md ops j (i::Is)=i::At1 md ops j Is:=by
 unfold At1
 rw [List.filter_cons_of_pos (by simp [h])]
theorem wpAnyU_first {i:Nat} {oi:Oper} {v:Value} (hi:ops[i]?=some oi) (hsel:∀ (j:Nat) (o:Oper) cs b,ops[j]?=some o->o.op≠.select cs b)
  (hQ:∀ c a w,Q (.panic c) (a.put oi.dst v) w->Q (.panic c) a w) :
  ∀ (fuel:Nat) (Is:List Nat) (listed:Array Bool) (a:Act) (w:World),
   (∀ j oj,ops[j]?=some oj->j≠i->listed.getD j true=false->(∀ e∈oj.after,Region.binds md e=true->e.on≠i)->oi.apart ops oj=true) ->
   i∈Region.ready md ops listed->YieldsIf P ops S oi v a->S w ->
   Ak0 P md ops Q S (i::Is) fuel (listed.setIfInBounds i true) (a.put oi.dst v) w->Ak0 P md ops Q S Is (fuel+1) listed a w:=by
 intro fuel
 induction fuel with
 |zero =>
  intro Is listed a w _ hr hy hS H
  refine ⟨fun h=>(by rw [h] at hr;cases hr),fun j hj=>?_⟩
  by_cases hji:j=i
  ·subst hji;exact hy.wpOp hi hS ⟨fun _=>hS,H⟩
  ·have:=ready_mono hj hji
   rw [H.1] at this
   cases this
 |succ fuel ih =>
  intro Is listed a w hfree hr hy hS H
  refine ⟨fun h=>(by rw [h] at hr;cases hr),fun j hj=>?_⟩
  by_cases hji:j=i
  ·subst hji;exact hy.wpOp hi hS ⟨fun _=>hS,Au0 _ _ _ (fun k hk=>List.mem_cons_of_mem _ (Ar2 _ _ hk)) _ _ _ H⟩
  ·have h1:=H.2 j (ready_mono hj hji)
   obtain ⟨hjun,oj,hoj,hall⟩:=mem_ready.1 hj
   have hnot:∀ e∈oj.after,Region.binds md e=true->e.on≠i:=fun e he hb heq=>by
    have h1:=hall e he hb
    have h0:=(mem_ready.1 hr).1
    rw [heq] at h1
    rcases Nat.lt_or_ge i listed.size with h'|h'
    ·simp [h'] at h0 h1;rw [h0] at h1;cases h1
    ·simp [Array.getElem?_eq_none h'] at h1
   have h2:=wpOp_putIf hoj (hfree j oj hoj hji hjun hnot) (fun cs b=>hsel i oi cs b hi) (fun cs b=>hsel j oj cs b hoj) hQ hy h1
   have hfree':∀ k ok,ops[k]?=some ok->k≠i->(listed.setIfInBounds j true).getD k true=false ->
     (∀ e∈ok.after,Region.binds md e=true->e.on≠i)->oi.apart ops ok=true:=fun k ok hk hki hun hno=>by
    refine hfree k ok hk hki ?_ hno
    by_cases hjk:j=k
    ·subst hjk;exact hjun
    ·rw [getD_set_ne true hjk] at hun;exact hun
   have hl:At1 md ops j (i::Is)=i::At1 md ops j Is:=leftB_cons (waitsB_not hoj hnot)
   refine wpOp_mono (fun a' w' h3=>?_) h2
   obtain ⟨hy',hS',hU⟩:=h3
   have hS2:S w':=hS' (by rw [hl];exact List.cons_ne_nil _ _)
   rw [hl] at hU
   refine ⟨fun _=>hS2,ih (At1 md ops j Is) (listed.setIfInBounds j true) a' w' hfree' (ready_mono hr (Ne.symm hji)) hy' hS2 ?_⟩
   rw [Array.setIfInBounds_comm _ _ hji]
   exact hU
theorem wpAnyU_take {i:Nat} {oi:Oper} {v:Value} {fuel:Nat} {Is:List Nat} {listed:Array Bool} {a:Act} {w:World} (hi:ops[i]?=some oi)
  (hs:Region.noSelect ops=true) (hf:Region.free md ops listed i=true) (hr:(Region.ready md ops listed).contains i=true)
  (hQ:∀ c a w,Q (.panic c) (a.put oi.dst v) w->Q (.panic c) a w) (hy:YieldsIf P ops S oi v a) (hS:S w)
  (h:Ak0 P md ops Q S (i::Is) fuel (listed.setIfInBounds i true) (a.put oi.dst v) w):Ak0 P md ops Q S Is (fuel+1) listed a w :=
 wpAnyU_first hi (Region.noSelect_spec hs) hQ fuel Is listed a w (Region.free_spec hi hf) (by simpa using hr) hy hS h
theorem wpAnyU_firstP {i:Nat} {oi:Oper} {v:Value} (hi:ops[i]?=some oi) (hsel:∀ (j:Nat) (o:Oper) cs b,ops[j]?=some o->o.op≠.select cs b)
  (hQ:∀ c a w,Q (.panic c) (a.put oi.dst v) w->Q (.panic c) a w) :
  ∀ (fuel:Nat) (Is:List Nat) (listed:Array Bool) (a:Act) (w:World),
   (∀ j oj,ops[j]?=some oj->j≠i->listed.getD j true=false->(∀ e∈oj.after,Region.binds md e=true->e.on≠i)->oi.apart ops oj=true) ->
   i∈Region.ready md ops listed->Yields P ops oi v a->(Is≠[]->S w) ->
   Ak0 P md ops Q S Is fuel (listed.setIfInBounds i true) (a.put oi.dst v) w->Ak0 P md ops Q S Is (fuel+1) listed a w:=by
 intro fuel
 induction fuel with
 |zero =>
  intro Is listed a w _ hr hy hS H
  refine ⟨fun h=>(by rw [h] at hr;cases hr),fun j hj=>?_⟩
  by_cases hji:j=i
  ·subst hji;exact hy.wpOp hi ⟨fun hn=>hS (Az4 (Ar2 _ _) hn),H⟩
  ·have:=ready_mono hj hji
   rw [H.1] at this
   cases this
 |succ fuel ih =>
  intro Is listed a w hfree hr hy hS H
  refine ⟨fun h=>(by rw [h] at hr;cases hr),fun j hj=>?_⟩
  by_cases hji:j=i
  ·subst hji;exact hy.wpOp hi ⟨fun hn=>hS (Az4 (Ar2 _ _) hn),Au0 _ _ _ (Ar2 _ _) _ _ _ H⟩
  ·have h1:=H.2 j (ready_mono hj hji)
   obtain ⟨hjun,oj,hoj,hall⟩:=mem_ready.1 hj
   have hnot:∀ e∈oj.after,Region.binds md e=true->e.on≠i:=fun e he hb heq=>by
    have h1:=hall e he hb
    have h0:=(mem_ready.1 hr).1
    rw [heq] at h1
    rcases Nat.lt_or_ge i listed.size with h'|h'
    ·simp [h'] at h0 h1;rw [h0] at h1;cases h1
    ·simp [Array.getElem?_eq_none h'] at h1
   have h2:=wpOp_put hoj (hfree j oj hoj hji hjun hnot) (fun cs b=>hsel i oi cs b hi) (fun cs b=>hsel j oj cs b hoj) hQ hy h1
   have hfree':∀ k ok,ops[k]?=some ok->k≠i->(listed.setIfInBounds j true).getD k true=false ->
     (∀ e∈ok.after,Region.binds md e=true->e.on≠i)->oi.apart ops ok=true:=fun k ok hk hki hun hno=>by
    refine hfree k ok hk hki ?_ hno
    by_cases hjk:j=k
    ·subst hjk;exact hjun
    ·rw [getD_set_ne true hjk] at hun;exact hun
   refine wpOp_mono (fun a' w' h3=>?_) h2
   obtain ⟨hy',hS',hU⟩:=h3
   refine ⟨hS',ih (At1 md ops j Is) (listed.setIfInBounds j true) a' w' hfree' (ready_mono hr (Ne.symm hji)) hy' hS' ?_⟩
   rw [Array.setIfInBounds_comm _ _ hji]
   exact hU
theorem wpAnyU_pure {i:Nat} {oi:Oper} {v:Value} {fuel:Nat} {Is:List Nat} {listed:Array Bool} {a:Act} {w:World} (hi:ops[i]?=some oi)
  (hs:Region.noSelect ops=true) (hf:Region.free md ops listed i=true) (hr:(Region.ready md ops listed).contains i=true)
  (hQ:∀ c a w,Q (.panic c) (a.put oi.dst v) w->Q (.panic c) a w) (hy:Yields P ops oi v a) (hS:Is≠[]->S w)
  (h:Ak0 P md ops Q S Is fuel (listed.setIfInBounds i true) (a.put oi.dst v) w):Ak0 P md ops Q S Is (fuel+1) listed a w :=
 wpAnyU_firstP hi (Region.noSelect_spec hs) hQ fuel Is listed a w (Region.free_spec hi hf) (by simpa using hr) hy hS h
theorem K1 (i:Nat) (oi:Oper) (v:Value) {fuel:Nat} {Is:List Nat} {listed:Array Bool} {a:Act} {w:World} (hi:ops[i]?=some oi) (hy:YieldsIf P ops S oi v a) (hS:S w)
 (h:Ak0 P md ops Q S (i::Is) fuel (listed.setIfInBounds i true) (a.put oi.dst v) w) (hs:Region.noSelect ops=true:=by kernel_rfl) (hf:Region.free md ops listed i=true:=by kernel_rfl) (hr:(Region.ready md ops listed).contains i=true:=by kernel_rfl)
 (hQ:∀ c a w,Q (.panic c) (a.put oi.dst v) w->Q (.panic c) a w:=by exact fun _ _ _ h=>h):Ak0 P md ops Q S Is (fuel+1) listed a w:=wpAnyU_take hi hs hf hr hQ hy hS h
theorem K2 (i:Nat) (oi:Oper) (v:Value) {fuel:Nat} {Is:List Nat} {listed:Array Bool} {a:Act} {w:World} (hi:ops[i]?=some oi) (hy:Yields P ops oi v a) (hS:Is≠[]->S w)
 (h:Ak0 P md ops Q S Is fuel (listed.setIfInBounds i true) (a.put oi.dst v) w) (hs:Region.noSelect ops=true:=by kernel_rfl) (hf:Region.free md ops listed i=true:=by kernel_rfl) (hr:(Region.ready md ops listed).contains i=true:=by kernel_rfl)
 (hQ:∀ c a w,Q (.panic c) (a.put oi.dst v) w->Q (.panic c) a w:=by exact fun _ _ _ h=>h):Ak0 P md ops Q S Is (fuel+1) listed a w:=wpAnyU_pure hi hs hf hr hQ hy hS h
theorem wpAnyU_one {fuel:Nat} {Is:List Nat} {listed:Array Bool} {a:Act} {w:World} (i:Nat) {o:Oper} (Js:List Nat) (hr:Region.ready md ops listed=[i]) (ho:ops[i]?=some o) (hJ:At1 md ops i Is=Js)
  (h:∀ K':Act->World->Prop,Shut (∀ a w,(Js≠[]->S w)->Ak0 P md ops Q S Js fuel (listed.setIfInBounds i true) a w->K' a w)->if Region.wanted o (yielded ops a.tmps)=true then Oper.wp P o a w K' Q else K' (a.put o.dst undef) w) :
  Ak0 P md ops Q S Is (fuel+1) listed a w:=by
 subst hJ
 refine ⟨fun h0=>(by rw [hr] at h0;cases h0),fun j hj=>?_⟩
 rw [hr] at hj
 obtain rfl:j=i:=by simpa using hj
 exact wpOp_step ho (fun K' hK=>h K' (fun a w hS hW=>hK a w ⟨hS,hW⟩))
theorem wpAnyU_done {Is:List Nat} {listed:Array Bool} {a:Act} {w:World} (hr:Region.ready md ops listed=[]) (h:Q .normal a w) :
  ∀ fuel,Ak0 P md ops Q S Is fuel listed a w
 |0=>⟨hr,h⟩
 |_+1=>⟨fun _=>h,by rw [hr];simp⟩
theorem region_until {id:Nat} {a:Act} {w:World} (S:World->Prop) (hm:P.follows .mixedOrders=true)
  (h:Ak0 P .any ops Q S [] ops.size (Array.replicate ops.size false) a w.drew):(Code.region id ops true).wp P Q a w :=
 wp_region_any hm (Bj6 _ _ _ _ _ h)
end
