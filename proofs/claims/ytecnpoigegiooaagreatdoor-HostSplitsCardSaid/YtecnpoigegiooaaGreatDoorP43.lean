/- Part 43 of HostSplits. -/
import Derived.Test.YtecnpoigegiooaaGreatDoorP42
set_option maxHeartbeats 16000000
set_option maxRecDepth 100000
namespace Go.Proofs.YtecnpoigegiooaaGreatDoor.Emu
open Go RowKit Com Rw Lns Scn
section
variable {Z:Zn}{w w':World}{d t:Nat}{T:Ter}{P:Pt}
theorem TMx.took (h:TMx Z w t T P):(TMx Z (w.setCell ⟨t,32,none⟩ (.slice none 0 0)) t { T with jr:=[] } { P with jv:=.slice none 0 0 }/\Scn.Fr Z TT w (w.setCell ⟨t,32,none⟩ (.slice none 0 0))) /\
  (TMx Z (w.setCell ⟨t,33,none⟩ (.slice none 0 0)) t { T with rp:=[] } { P with rv:=.slice none 0 0 }/\Scn.Fr Z TT w (w.setCell ⟨t,33,none⟩ (.slice none 0 0))):=by
 have hf:∀w',Only [t] w w'->Scn.Fr Z [102] w w':=fun w' ho=>Scn.Fr.of_only ho fun k hk _=>by
  obtain rfl:k=t:=by simpa using hk
  exact⟨h.zt,_,by simp,Block.typ h.blk⟩
 have keep:∀ {w':World},Only [t] w w'->∀ {k:Nat} {ty:TypeId},Typ w k ty->ty≠102->w'.heap[k]?=w.heap[k]?:=fun {w'} ho {k ty} hk hty=>ho.block _ (Al0 hk) (Ad9 hk (Block.typ h.blk) hty)
 have same:∀ {w':World},Only [t] w w'->∀ {k:Nat} {ty:TypeId} {cs:Array Value},Block w k ty cs->ty≠102->Block w' k ty cs:=fun {w'} ho {k ty cs} hb hty=>(keep ho (Block.typ hb) hty).trans hb
 have o1:=Only.setCell w ⟨t,32,none⟩ (.slice none 0 0)
 have o2:=Only.setCell w ⟨t,33,none⟩ (.slice none 0 0)
 exact⟨⟨⟨h.blk.set 32 _,same o1 h.main (by decide),fun o ho=>⟨same o1 (h.aside o ho).1 (by decide),(h.aside o ho).2⟩,h.scr.fr (hf _ o1) (by unfold NoPT;decide),same o1 h.tabs (by decide),
  World.ownsRow_nil _ _ _ _,Ad3 h.rp (fun g hg=>keep o1 (Ad2 h.rp g hg) (by decide)),h.zt,h.zm,h.zb,fun g hg=>(by cases hg),h.zr,fun k hk=>h.up k (Nat.le_trans (hf _ o1).size hk),h.low,h.tbl.fr (hf _ o1) h.low⟩,(hf _ o1).mono (by simp[TT])⟩,
  ⟨⟨h.blk.set 33 _,same o2 h.main (by decide),fun o ho=>⟨same o2 (h.aside o ho).1 (by decide),(h.aside o ho).2⟩,h.scr.fr (hf _ o2) (by unfold NoPT;decide),same o2 h.tabs (by decide),
  Ac1 h.jr (fun g hg=>keep o2 (Ab9 h.jr g hg) (by decide)),Kys.Row.nil _ _ _,h.zt,h.zm,h.zb,h.zj,fun g hg=>(by cases hg),fun k hk=>h.up k (Nat.le_trans (hf _ o2).size hk),h.low,h.tbl.fr (hf _ o2) h.low⟩,(hf _ o2).mono (by simp[TT])⟩⟩
theorem TMx.jshape (h:TMx Z w t T P):∃ao c,P.jv=.slice ao T.jr.length c:=by
 obtain⟨ao,c,e,_,_⟩:=Ab3 h.jr
 exact⟨ao,c,e⟩
theorem TMx.rshape (h:TMx Z w t T P):∃ao c,P.rv=.slice ao T.rp.length c:=by
 rcases h.rp with ⟨e,e2⟩|⟨g,cap,cur,fz,e,_⟩
 ·exact⟨none,0,by rw[e,e2];rfl⟩
 ·exact⟨_,_,e⟩
theorem treplies_any (h:TV Z w d t T):Calls Tryz.prog 38 #[.pointer (some ⟨d,0,none⟩)] w fun e w'=>(∃v,e=.returned v/\Kys.Row w' 0 5 v T.rp)/\TV Z w' d t { T with rp:=[] }/\Scn.Fr Z TT w w':=by
 have hm:=J0 (isMade_yes h)
 have c0:=h.blk.cell 0 (v:=.pointer (some ⟨t,0,none⟩)) rfl
 obtain⟨P,hT⟩:=h.tm
 have c33:=hT.c33
 have f33:=hT.free 33
 obtain⟨ao,c,e⟩:=hT.rshape
 have hrow:Kys.Row (w.setCell ⟨t,33,none⟩ (.slice none 0 0)) 0 5 P.rv T.rp:=Ad3 hT.rp (fun g hg=>(Only.setCell w ⟨t,33,none⟩ (.slice none 0 0)).block _ (Al0 (Ad2 hT.rp g hg)) (Ad9 (Ad2 hT.rp g hg) (Block.typ hT.blk) (by decide)))
 rw[e] at c33 hrow
 have hk:=J0 (hT.took.2)
 have hend:=J0 (h.turn hT.took.2.1.tm hT.took.2.2)
 replace hrow:=J0 hrow
 generalize T.rp.length=n at c33 hrow
 clear h hT e
 go_enter Tryz.func38,Tryz.ntmps38
 go_wp2_with ((go_at_call 49;(with_reducible refine(hm.out).mono ?_);rintro e w1 ⟨rfl,rfl⟩))
 go_ret
 exact⟨⟨_,rfl,hrow.out⟩,hend.out,hk.out.2⟩
end
section
variable {Z:Zn}{w w':World}{d t:Nat}{T:Ter}{P:Pt}
theorem tmodes_any (h:TV Z w d t T):Calls Tryz.prog 29 #[.pointer (some ⟨d,0,none⟩)] w fun e w'=>e=.returned (.agg (Mds.mA T.m))/\Below w.heap.size w w':=by
 have hbn:=Aa1 w (.cells #[.bool false,.bool false,.bool false,.bool false,.bool false,.bool false,.bool false,.bool false] 80)
 have hbx:=Block.made w 80 #[.bool false,.bool false,.bool false,.bool false,.bool false,.bool false,.bool false,.bool false]
 have hm:=J0 (isMade_yes (h.below hbn))
 have h1:=h.below hbn
 have cd:=h1.blk.cell 0 (v:=.pointer (some ⟨t,0,none⟩)) rfl
 obtain⟨P,hT⟩:=h1.tm
 obtain⟨c0,c1,c2,c3,c4,c5,c6,c7⟩:=hT.md8
 have hinf:=Mds.mA_info T.m
 have hone:=Mds.mA_one T.m
 generalize T.m=m at *
 obtain⟨a0,a1,a2,a3,a4,a5,a6,a7⟩:=m
 simp only[Mds.mA] at c0 c1 c2 c3 c4 c5 c6 c7 hinf hone |-
 clear h h1 hT
 go_enter Tryz.func29,Tryz.ntmps29
 go_wp2_with (first
  |(go_at_call 49;(with_reducible refine(hm.out).mono ?_);rintro e w1 ⟨rfl,rfl⟩)
  |(with_reducible refine J8 2 ?_;go_must (refine Aa3 rfl _ (.tmp 2) _ rfl hbx #[.bool a0,.bool a1,.bool a2,.bool a3,.bool a4,.bool a5,.bool a6,.bool a7] rfl rfl hinf rfl hone ?_);intro w8 hb8 ho8))
 exact bodyPost_ret (results_cell_row rfl _ _ _ _ _ _ _ rfl hb8 Tryz.underlying80 rfl hinf) rfl ⟨rfl,hbn.trans (ho8.below hbn.size (by simp))⟩
end
end Go.Proofs.YtecnpoigegiooaaGreatDoor.Emu
namespace Go.Proofs.YtecnpoigegiooaaGreatDoor.Eqt
open Go RowKit
section
variable {P:Program}{ops:Array Oper}{Q:Exit->Act->World->Prop}{md:Region.Mode}{S:World->Prop}
def Co0 (md:Region.Mode) (ops:Array Oper) (j i:Nat):Bool:=match ops[j]? with
 |none=>false
 |some oj=>oj.after.any fun e=>Region.binds md e && e.on == i
def At5 (md:Region.Mode) (ops:Array Oper) (j:Nat) (Is:List Nat):List Nat:=Is.filter fun i=>!Co0 md ops j i
def Aj8 (P:Program) (md:Region.Mode) (ops:Array Oper) (Q:Exit->Act->World->Prop) (S:World->Prop):List Nat->Nat->Array Bool->Act->World->Prop
 |_,0,listed,a,w=>Region.ready md ops listed=[]/\Q .normal a w
 |Is,fuel+1,listed,a,w =>
  (Region.ready md ops listed=[]->Q .normal a w) /\
  ∀j∈Region.ready md ops listed,wpOp P ops Q j (fun a' w'=>(At5 md ops j Is≠[]->S w')/\Aj8 P md ops Q S (At5 md ops j Is) fuel (listed.setIfInBounds j true) a' w') a w
theorem Bl6:∀(fuel:Nat) (Is:List Nat) (listed:Array Bool) (a:Act) (w:World),Aj8 P md ops Q S Is fuel listed a w->wpAny P md ops Q fuel listed a w
 |0,_,_,_,_,h=>h
 |fuel+1,_,_,_,_,h=>⟨h.1,fun i hi=>wpOp_mono (fun _ _ h'=>Bl6 fuel _ _ _ _ h'.2) (h.2 i hi)⟩
theorem Bt3 {j:Nat} {Is Js:List Nat} (h:Is ⊆ Js):At5 md ops j Is ⊆ At5 md ops j Js:=fun i hi=>by
 simp only[At5,List.mem_filter] at hi |-
 exact⟨h hi.1,hi.2⟩
theorem Ba4 {Is Js:List Nat} (h:Is ⊆ Js) (hn:Is≠[]):Js≠[]:=fun e=>hn (List.eq_nil_iff_forall_not_mem.2 fun i hi=>by rw[e] at h;exact absurd (h hi) (by simp))
theorem Au5:∀(fuel:Nat) (Is Js:List Nat) (_:Is ⊆ Js) (listed:Array Bool) (a:Act) (w:World),Aj8 P md ops Q S Js fuel listed a w->Aj8 P md ops Q S Is fuel listed a w
 |0,_,_,_,_,_,_,h=>h
 |fuel+1,_,_,hs,_,_,_,h=>⟨h.1,fun j hj=>wpOp_mono (fun _ _ h'=>⟨fun hn=>h'.1 (Ba4 (Bt3 hs) hn),Au5 fuel _ _ (Bt3 hs) _ _ _ h'.2⟩) (h.2 j hj)⟩
theorem Ar3 (j:Nat) (Is:List Nat):At5 md ops j Is ⊆ Is:=fun i hi=>by
 simp only[At5,List.mem_filter] at hi
 exact hi.1
theorem waitsB_not {j i:Nat} {oj:Oper} (hj:ops[j]?=some oj) (h:∀e∈oj.after,Region.binds md e=true->e.on≠i):Co0 md ops j i=false:=by
 unfold Co0
 simp only[hj]
 rw[Bool.eq_false_iff]
 intro ht
 obtain⟨e,he,hb⟩:=Array.any_eq_true'.1 ht
 simp only[Bool.and_eq_true,beq_iff_eq] at hb
 exact h e he hb.1 hb.2
theorem leftB_cons {j i:Nat} {Is:List Nat} (h:Co0 md ops j i=false):At5 md ops j (i::Is)=i::At5 md ops j Is:=by
 unfold At5
 rw[List.filter_cons_of_pos (by simp[h])]
theorem wpAnyU_first {i:Nat} {oi:Oper} {v:Value} (hi:ops[i]?=some oi) (hsel:∀(j:Nat) (o:Oper) cs b,ops[j]?=some o->o.op≠.select cs b)
  (hQ:∀c a w,Q (.panic c) (a.put oi.dst v) w->Q (.panic c) a w) :
  ∀(fuel:Nat) (Is:List Nat) (listed:Array Bool) (a:Act) (w:World),
   (∀j oj,ops[j]?=some oj->j≠i->listed.getD j true=false->(∀e∈oj.after,Region.binds md e=true->e.on≠i)->oi.apart ops oj=true) ->
   i∈Region.ready md ops listed->YieldsIf P ops S oi v a->S w ->
   Aj8 P md ops Q S (i::Is) fuel (listed.setIfInBounds i true) (a.put oi.dst v) w->Aj8 P md ops Q S Is (fuel+1) listed a w:=by
 intro fuel
 induction fuel with
 |zero =>
  intro Is listed a w _ hr hy hS H
  refine⟨fun h=>(by rw[h] at hr;cases hr),fun j hj=>?_⟩
  by_cases hji:j=i
  ·subst hji;exact hy.wpOp hi hS ⟨fun _=>hS,H⟩
  ·have:=ready_mono hj hji
   rw[H.1] at this
   cases this
 |succ fuel ih =>
  intro Is listed a w hfree hr hy hS H
  refine⟨fun h=>(by rw[h] at hr;cases hr),fun j hj=>?_⟩
  by_cases hji:j=i
  ·subst hji;exact hy.wpOp hi hS ⟨fun _=>hS,Au5 _ _ _ (fun k hk=>List.mem_cons_of_mem _ (Ar3 _ _ hk)) _ _ _ H⟩
  ·have h1:=H.2 j (ready_mono hj hji)
   obtain⟨hjun,oj,hoj,hall⟩:=mem_ready.1 hj
   have hnot:∀e∈oj.after,Region.binds md e=true->e.on≠i:=fun e he hb heq=>by
    have h1:=hall e he hb
    have h0:=(mem_ready.1 hr).1
    rw[heq] at h1
    rcases Nat.lt_or_ge i listed.size with h'|h'
    ·simp[h'] at h0 h1;rw[h0] at h1;cases h1
    ·simp[Array.getElem?_eq_none h'] at h1
   have h2:=wpOp_putIf hoj (hfree j oj hoj hji hjun hnot) (fun cs b=>hsel i oi cs b hi) (fun cs b=>hsel j oj cs b hoj) hQ hy h1
   have hfree':∀k ok,ops[k]?=some ok->k≠i->(listed.setIfInBounds j true).getD k true=false ->
     (∀e∈ok.after,Region.binds md e=true->e.on≠i)->oi.apart ops ok=true:=fun k ok hk hki hun hno=>by
    refine hfree k ok hk hki ?_ hno
    by_cases hjk:j=k
    ·subst hjk;exact hjun
    ·rw[getD_set_ne true hjk] at hun;exact hun
   have hl:At5 md ops j (i::Is)=i::At5 md ops j Is:=leftB_cons (waitsB_not hoj hnot)
   refine wpOp_mono (fun a' w' h3=>?_) h2
   obtain⟨hy',hS',hU⟩:=h3
   have hS2:S w':=hS' (by rw[hl];exact List.cons_ne_nil _ _)
   rw[hl] at hU
   refine⟨fun _=>hS2,ih (At5 md ops j Is) (listed.setIfInBounds j true) a' w' hfree' (ready_mono hr (Ne.symm hji)) hy' hS2 ?_⟩
   rw[Array.setIfInBounds_comm _ _ hji]
   exact hU
theorem wpAnyU_take {i:Nat} {oi:Oper} {v:Value} {fuel:Nat} {Is:List Nat} {listed:Array Bool} {a:Act} {w:World} (hi:ops[i]?=some oi)
  (hs:Region.noSelect ops=true) (hf:Region.free md ops listed i=true) (hr:(Region.ready md ops listed).contains i=true)
  (hQ:∀c a w,Q (.panic c) (a.put oi.dst v) w->Q (.panic c) a w) (hy:YieldsIf P ops S oi v a) (hS:S w)
  (h:Aj8 P md ops Q S (i::Is) fuel (listed.setIfInBounds i true) (a.put oi.dst v) w):Aj8 P md ops Q S Is (fuel+1) listed a w :=
 wpAnyU_first hi (Region.noSelect_spec hs) hQ fuel Is listed a w (Region.free_spec hi hf) (by simpa using hr) hy hS h
theorem wpAnyU_firstP {i:Nat} {oi:Oper} {v:Value} (hi:ops[i]?=some oi) (hsel:∀(j:Nat) (o:Oper) cs b,ops[j]?=some o->o.op≠.select cs b)
  (hQ:∀c a w,Q (.panic c) (a.put oi.dst v) w->Q (.panic c) a w) :
  ∀(fuel:Nat) (Is:List Nat) (listed:Array Bool) (a:Act) (w:World),
   (∀j oj,ops[j]?=some oj->j≠i->listed.getD j true=false->(∀e∈oj.after,Region.binds md e=true->e.on≠i)->oi.apart ops oj=true) ->
   i∈Region.ready md ops listed->Yields P ops oi v a->(Is≠[]->S w) ->
   Aj8 P md ops Q S Is fuel (listed.setIfInBounds i true) (a.put oi.dst v) w->Aj8 P md ops Q S Is (fuel+1) listed a w:=by
 intro fuel
 induction fuel with
 |zero =>
  intro Is listed a w _ hr hy hS H
  refine⟨fun h=>(by rw[h] at hr;cases hr),fun j hj=>?_⟩
  by_cases hji:j=i
  ·subst hji;exact hy.wpOp hi ⟨fun hn=>hS (Ba4 (Ar3 _ _) hn),H⟩
  ·have:=ready_mono hj hji
   rw[H.1] at this
   cases this
 |succ fuel ih =>
  intro Is listed a w hfree hr hy hS H
  refine⟨fun h=>(by rw[h] at hr;cases hr),fun j hj=>?_⟩
  by_cases hji:j=i
  ·subst hji;exact hy.wpOp hi ⟨fun hn=>hS (Ba4 (Ar3 _ _) hn),Au5 _ _ _ (Ar3 _ _) _ _ _ H⟩
  ·have h1:=H.2 j (ready_mono hj hji)
   obtain⟨hjun,oj,hoj,hall⟩:=mem_ready.1 hj
   have hnot:∀e∈oj.after,Region.binds md e=true->e.on≠i:=fun e he hb heq=>by
    have h1:=hall e he hb
    have h0:=(mem_ready.1 hr).1
    rw[heq] at h1
    rcases Nat.lt_or_ge i listed.size with h'|h'
    ·simp[h'] at h0 h1;rw[h0] at h1;cases h1
    ·simp[Array.getElem?_eq_none h'] at h1
   have h2:=wpOp_put hoj (hfree j oj hoj hji hjun hnot) (fun cs b=>hsel i oi cs b hi) (fun cs b=>hsel j oj cs b hoj) hQ hy h1
   have hfree':∀k ok,ops[k]?=some ok->k≠i->(listed.setIfInBounds j true).getD k true=false ->
     (∀e∈ok.after,Region.binds md e=true->e.on≠i)->oi.apart ops ok=true:=fun k ok hk hki hun hno=>by
    refine hfree k ok hk hki ?_ hno
    by_cases hjk:j=k
    ·subst hjk;exact hjun
    ·rw[getD_set_ne true hjk] at hun;exact hun
   refine wpOp_mono (fun a' w' h3=>?_) h2
   obtain⟨hy',hS',hU⟩:=h3
   refine⟨hS',ih (At5 md ops j Is) (listed.setIfInBounds j true) a' w' hfree' (ready_mono hr (Ne.symm hji)) hy' hS' ?_⟩
   rw[Array.setIfInBounds_comm _ _ hji]
   exact hU
theorem wpAnyU_pure {i:Nat} {oi:Oper} {v:Value} {fuel:Nat} {Is:List Nat} {listed:Array Bool} {a:Act} {w:World} (hi:ops[i]?=some oi)
  (hs:Region.noSelect ops=true) (hf:Region.free md ops listed i=true) (hr:(Region.ready md ops listed).contains i=true)
  (hQ:∀c a w,Q (.panic c) (a.put oi.dst v) w->Q (.panic c) a w) (hy:Yields P ops oi v a) (hS:Is≠[]->S w)
  (h:Aj8 P md ops Q S Is fuel (listed.setIfInBounds i true) (a.put oi.dst v) w):Aj8 P md ops Q S Is (fuel+1) listed a w :=
 wpAnyU_firstP hi (Region.noSelect_spec hs) hQ fuel Is listed a w (Region.free_spec hi hf) (by simpa using hr) hy hS h
theorem K1 (i:Nat) (oi:Oper) (v:Value) {fuel:Nat} {Is:List Nat} {listed:Array Bool} {a:Act} {w:World} (hi:ops[i]?=some oi) (hy:YieldsIf P ops S oi v a) (hS:S w)
 (h:Aj8 P md ops Q S (i::Is) fuel (listed.setIfInBounds i true) (a.put oi.dst v) w) (hs:Region.noSelect ops=true:=by kernel_rfl) (hf:Region.free md ops listed i=true:=by kernel_rfl) (hr:(Region.ready md ops listed).contains i=true:=by kernel_rfl)
 (hQ:∀c a w,Q (.panic c) (a.put oi.dst v) w->Q (.panic c) a w:=by exact fun _ _ _ h=>h):Aj8 P md ops Q S Is (fuel+1) listed a w:=wpAnyU_take hi hs hf hr hQ hy hS h
theorem K2 (i:Nat) (oi:Oper) (v:Value) {fuel:Nat} {Is:List Nat} {listed:Array Bool} {a:Act} {w:World} (hi:ops[i]?=some oi) (hy:Yields P ops oi v a) (hS:Is≠[]->S w)
 (h:Aj8 P md ops Q S Is fuel (listed.setIfInBounds i true) (a.put oi.dst v) w) (hs:Region.noSelect ops=true:=by kernel_rfl) (hf:Region.free md ops listed i=true:=by kernel_rfl) (hr:(Region.ready md ops listed).contains i=true:=by kernel_rfl)
 (hQ:∀c a w,Q (.panic c) (a.put oi.dst v) w->Q (.panic c) a w:=by exact fun _ _ _ h=>h):Aj8 P md ops Q S Is (fuel+1) listed a w:=wpAnyU_pure hi hs hf hr hQ hy hS h
theorem wpAnyU_one {fuel:Nat} {Is:List Nat} {listed:Array Bool} {a:Act} {w:World} (i:Nat) {o:Oper} (Js:List Nat) (hr:Region.ready md ops listed=[i]) (ho:ops[i]?=some o) (hJ:At5 md ops i Is=Js)
  (h:∀K':Act->World->Prop,Shut (∀a w,(Js≠[]->S w)->Aj8 P md ops Q S Js fuel (listed.setIfInBounds i true) a w->K' a w)->if Region.wanted o (yielded ops a.tmps)=true then Oper.wp P o a w K' Q else K' (a.put o.dst undef) w) :
  Aj8 P md ops Q S Is (fuel+1) listed a w:=by
 subst hJ
 refine⟨fun h0=>(by rw[hr] at h0;cases h0),fun j hj=>?_⟩
 rw[hr] at hj
 obtain rfl:j=i:=by simpa using hj
 exact wpOp_step ho (fun K' hK=>h K' (fun a w hS hW=>hK a w ⟨hS,hW⟩))
theorem wpAnyU_done {Is:List Nat} {listed:Array Bool} {a:Act} {w:World} (hr:Region.ready md ops listed=[]) (h:Q .normal a w) :
  ∀fuel,Aj8 P md ops Q S Is fuel listed a w
 |0=>⟨hr,h⟩
 |_+1=>⟨fun _=>h,by rw[hr];simp⟩
theorem region_until {id:Nat} {a:Act} {w:World} (S:World->Prop) (hm:P.follows .mixedOrders=true)
  (h:Aj8 P .any ops Q S [] ops.size (Array.replicate ops.size false) a w.drew):(Code.region id ops true).wp P Q a w :=
 wp_region_any hm (Bl6 _ _ _ _ _ h)
end
