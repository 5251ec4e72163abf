/- Part 23 of the proof that the card of EmuAside holds. -/
import Derived.Deep.Slices
import Derived.Test.YtkjpjegmanpbfaaGreatDoorPA22
import Derived.StillTail
set_option maxHeartbeats 16000000
set_option maxRecDepth 100000
namespace Go.Proofs.YtkjpjegmanpbfaaGreatDoor.Emu
open Go Go.ChangeShapes Go.WideShapes Go.ChangeAt RowKit Go.Deep Com
theorem cBool:Tryz.prog.cellsOf 4=1:=by kernel_rfl
theorem cSI:Tryz.prog.cellsOf 22=1:=by kernel_rfl
theorem cSR:Tryz.prog.cellsOf 23=1:=by kernel_rfl
theorem cAct:Tryz.prog.cellsOf 25=7:=by kernel_rfl
theorem cOp:Tryz.prog.cellsOf 67=10:=by kernel_rfl
structure Pl3 where
 pa:Option Addr
 pc:Nat
 ia:Option Addr
 ic:Nat
 ta:Option Addr
 tc:Nat
def acV (x:AcT) (q:Pl3):List Value:=[.int .u8 x.kind,.int .i32 x.r,.int .i32 x.priv,.slice q.pa x.params.length q.pc,.slice q.ia x.inter.length q.ic,.int .i32 x.fin,.slice q.ta x.text.length q.tc]
structure Ca6 (W:World) (x:AcT) (q:Pl3):Prop where
 par:x.params.length<=q.pc/\q.pc<=maxLen/\Fits .i64 x.params/\Nums W W.heap.size .i64 q.pa x.params
 int:Fits .i32 x.inter/\Nums W W.heap.size .i32 q.ia x.inter
 kind:(Lit.int .u8 x.kind).wf=true
 r:(Lit.int .i32 x.r).wf=true
 fin:(Lit.int .i32 x.fin).wf=true
section
variable {H:Type} {enc:TypeId×Value->H} {W:World}
theorem Bs8 {t e:TypeId} {k:IntKind} {fuel:Nat} {v:Value} {x:DataW H×List MemPlace} (ht:Tryz.prog.underlying t=some (.slice e)) (he:Tryz.prog.underlying e=some (.int k)) (hc:Tryz.prog.cellsOf e=1)
  (h:DataW.trod enc Tryz.prog W 0 (fun _=>true) true fuel t [v]=some x):∃ (a:Option Addr) (c:Nat) (l:List Int),v=.slice a l.length c/\l.length<=c/\c<=maxLen/\Nums W W.heap.size k a l/\Fits k l:=by
 rcases DataW.trod_slice ht h with ⟨hv,_⟩|⟨a,len,cap,_,_,_,_,hv,_⟩
 ·obtain rfl:v=.slice none 0 0:=by simpa using hv
  exact ⟨none,0,[],rfl,J5 _,by simp [maxLen],Nums.nil _ _ _ _,by simp [Fits]⟩
 ·obtain rfl:v=.slice (some a) len cap:=by simpa using hv
  obtain ⟨l,rfl,h1,h2,h3,h4⟩:=nums_in (d:=x.1) (p:=x.2) ht he hc ⟨fuel,h⟩
  exact ⟨some a,cap,l,rfl,h1,h2,h3,h4⟩
theorem Bg2 {fuel:Nat} {t:TypeId} {k:IntKind} {v:Value} {y:DataW H×List MemPlace} (ht:Tryz.prog.underlying t=some (.int k)) (h:DataW.trod enc Tryz.prog W 0 (fun _=>true) true fuel t [v]=some y):∃ n:Int,v=.int k n/\(Lit.int k n).wf=true:=by
 obtain ⟨n,q,_,w⟩:=DataW.trod_int ht h
 exact ⟨n,by simpa using q,w⟩
theorem trod_act {fuel:Nat} {cs:List Value} {x:DataW H×List MemPlace} (h:DataW.trod enc Tryz.prog W 0 (fun _=>true) true fuel 25 cs=some x):∃ y q,cs=acV y q/\Ca6 W y q:=by
 obtain ⟨xs,n,_,hx,hl,hlen,hf⟩:=DataW.trod_struct Tryz.underlying25 h
 rw [cAct] at hl
 have f0:DataW.trod enc Tryz.prog W 0 (fun _=>true) true n 5 ((cs.drop 0).take (Tryz.prog.cellsOf 5))=xs[0]?:=hf 0 _ rfl
 have f1:DataW.trod enc Tryz.prog W 0 (fun _=>true) true n 21 ((cs.drop 1).take (Tryz.prog.cellsOf 21))=xs[1]?:=hf 1 _ rfl
 have f2:DataW.trod enc Tryz.prog W 0 (fun _=>true) true n 21 ((cs.drop 2).take (Tryz.prog.cellsOf 21))=xs[2]?:=hf 2 _ rfl
 have f3:DataW.trod enc Tryz.prog W 0 (fun _=>true) true n 22 ((cs.drop 3).take (Tryz.prog.cellsOf 22))=xs[3]?:=hf 3 _ rfl
 have f4:DataW.trod enc Tryz.prog W 0 (fun _=>true) true n 23 ((cs.drop 4).take (Tryz.prog.cellsOf 23))=xs[4]?:=hf 4 _ rfl
 have f5:DataW.trod enc Tryz.prog W 0 (fun _=>true) true n 21 ((cs.drop 5).take (Tryz.prog.cellsOf 21))=xs[5]?:=hf 5 _ rfl
 have f6:DataW.trod enc Tryz.prog W 0 (fun _=>true) true n 23 ((cs.drop 6).take (Tryz.prog.cellsOf 23))=xs[6]?:=hf 6 _ rfl
 rw [cU8] at f0
 rw [cI32] at f1 f2 f5
 rw [cSI] at f3
 rw [cSR] at f4 f6
 match xs,hlen with
 |[y0,y1,y2,y3,y4,y5,y6],_ =>
  match cs,hl with
  |[c0,c1,c2,c3,c4,c5,c6],_ =>
   obtain ⟨z0,rfl,w0⟩:=Bg2 Tryz.underlying5 f0
   obtain ⟨z1,rfl,w1⟩:=Bg2 Tryz.underlying21 f1
   obtain ⟨z2,rfl,w2⟩:=Bg2 Tryz.underlying21 f2
   obtain ⟨a3,k3,l3,rfl,p3⟩:=Bs8 Tryz.underlying22 Tryz.underlying3 cInt f3
   obtain ⟨a4,k4,l4,rfl,_,_,p4,p4'⟩:=Bs8 Tryz.underlying23 Tryz.underlying21 cI32 f4
   obtain ⟨z5,rfl,w5⟩:=Bg2 Tryz.underlying21 f5
   obtain ⟨a6,k6,l6,rfl,p6⟩:=Bs8 Tryz.underlying23 Tryz.underlying21 cI32 f6
   exact ⟨⟨z0,z1,z2,l3,l4,z5,l6⟩,⟨a3,k3,a4,k4,a6,k6⟩,rfl,⟨⟨p3.1,p3.2.1,p3.2.2.2,p3.2.2.1⟩,⟨p4',p4⟩,w0,w1,w5⟩⟩
structure OpA where
 x:AcT
 q:Pl3
 size:Bool
 rows:Int
 cols:Int
def opV (o:OpA):List Value:=acV o.x o.q++[.bool o.size,.int .i64 o.rows,.int .i64 o.cols]
theorem opV_length (o:OpA):(opV o).length=10:=rfl
structure OpIn (W:World) (o:OpA):Prop where
 act:Ca6 W o.x o.q
 rows:(Lit.int .i64 o.rows).wf=true
 cols:(Lit.int .i64 o.cols).wf=true
theorem trod_op {fuel:Nat} {cs:List Value} {x:DataW H×List MemPlace} (h:DataW.trod enc Tryz.prog W 0 (fun _=>true) true fuel 67 cs=some x):∃ o:OpA,cs=opV o/\OpIn W o:=by
 obtain ⟨xs,n,_,hx,hl,hlen,hf⟩:=DataW.trod_struct Tryz.underlying67 h
 rw [cOp] at hl
 have f0:DataW.trod enc Tryz.prog W 0 (fun _=>true) true n 25 ((cs.drop 0).take (Tryz.prog.cellsOf 25))=xs[0]?:=hf 0 _ rfl
 have f1:DataW.trod enc Tryz.prog W 0 (fun _=>true) true n 4 ((cs.drop 7).take (Tryz.prog.cellsOf 4))=xs[1]?:=hf 1 _ rfl
 have f2:DataW.trod enc Tryz.prog W 0 (fun _=>true) true n 3 ((cs.drop 8).take (Tryz.prog.cellsOf 3))=xs[2]?:=hf 2 _ rfl
 have f3:DataW.trod enc Tryz.prog W 0 (fun _=>true) true n 3 ((cs.drop 9).take (Tryz.prog.cellsOf 3))=xs[3]?:=hf 3 _ rfl
 rw [cAct] at f0
 rw [cBool] at f1
 rw [cInt] at f2 f3
 match xs,hlen with
 |[y0,y1,y2,y3],_ =>
  match cs,hl with
  |[c0,c1,c2,c3,c4,c5,c6,c7,c8,c9],_ =>
   obtain ⟨y,q,e0,hy⟩:=trod_act f0
   obtain ⟨z1,q1,_⟩:=DataW.trod_bool Tryz.underlying4 f1
   obtain rfl:c7=.bool z1:=by simpa using q1
   obtain ⟨z2,rfl,w2⟩:=Bg2 Tryz.underlying3 f2
   obtain ⟨z3,rfl,w3⟩:=Bg2 Tryz.underlying3 f3
   refine ⟨⟨y,q,z1,z2,z3⟩,?_,⟨hy,w2,w3⟩⟩
   have e0':[c0,c1,c2,c3,c4,c5,c6]=acV y q:=e0
   show [c0,c1,c2,c3,c4,c5,c6]++[.bool z1,.int .i64 z2,.int .i64 z3]=_
   rw [e0']
   rfl
def Bi0 (w:World) (ao:Option Addr) (os:List OpA):Prop:=∀ i o,os[i]?=some o->∃ ad,ao=some ad/\ad.block<w.heap.size/\∀ j v,(opV o)[j]?=some v->w.cell? ((ad.add (i*10)).add j)=some v
instance:Inhabited OpA:=⟨⟨⟨0,0,0,[],[],0,[]⟩,⟨none,0,none,0,none,0⟩,false,0,0⟩⟩
theorem ops_in {a:Option Addr} {n c:Nat} {d:DataW H} {p:List MemPlace}
  (h:DataW.Trod enc Tryz.prog W 0 (fun _=>true) true 57 (.slice a n c) d p):∃ l:List OpA,l.length=n/\l.length<=c/\c<=maxLen/\Bi0 W a l/\∀ o∈l,OpIn W o:=by
 obtain ⟨fuel,hf⟩:=h
 rcases open_slice Tryz.underlying57 hf with ⟨hcs,_⟩|⟨x,l,cp,m,k,D,Pl,hcs,_,hl,hm,hmm,_,hx⟩
 ·simp [Value.cells] at hcs
  obtain ⟨rfl,rfl,rfl⟩:=hcs
  exact ⟨[],rfl,J5 _,by simp [maxLen],fun i o h=>by simp at h,by simp⟩
 ·simp [Value.cells] at hcs
  obtain ⟨rfl,rfl,rfl⟩:=hcs
  simp only [if_true] at hmm
  subst hmm
  rw [cOp] at hx
  obtain ⟨V,hV⟩:=choose_lt (α:=OpA) (n:=n) (p:=fun i o=>W.cells? 0 (x.add (i*10)) 10=some (opV o)/\OpIn W o) (fun i hi=>by
   obtain ⟨cs',h1,h2⟩:=hx i (by omega)
   obtain ⟨o,rfl,hk⟩:=trod_op h2
   exact ⟨o,h1,hk⟩)
  refine ⟨(List.range n).map V,by simp,by simpa using hl,hm,fun i o hi=>?_,fun o ho=>?_⟩
  ·obtain ⟨hin,rfl⟩:i<n/\V i=o:=by
    rw [List.getElem?_map] at hi
    rcases Nat.lt_or_ge i n with hh|hh
    ·rw [List.getElem?_range hh] at hi
     exact ⟨hh,by simpa using hi⟩
    ·rw [List.getElem?_eq_none (by simpa using hh)] at hi
     simp at hi
   obtain ⟨h1,_⟩:=hV i hin
   obtain ⟨_,_,hcell⟩:=World.cells?_some h1
   refine ⟨x,rfl,?_,fun j v hv=>?_⟩
   ·have h0:=hcell 0 (by omega)
    rw [show (opV (V i))[0]?=some (.int .u8 (V i).x.kind) from rfl] at h0
    have hlt:=World.block_lt_of_cell? _ _ h0
    rw [ChangeShapes.block_add,ChangeShapes.block_add] at hlt
    exact hlt
   ·have hj:j<10:=by
     have:=(List.getElem?_eq_some_iff.1 hv).1
     rwa [opV_length] at this
    rw [hcell j hj]
    exact hv
  ·obtain ⟨i,hi,rfl⟩:=List.mem_map.1 ho
   exact (hV i (List.mem_range.1 hi)).2
end
end Go.Proofs.YtkjpjegmanpbfaaGreatDoor.Emu
namespace Go.Proofs.YtkjpjegmanpbfaaGreatDoor.Eqt
open Go RowKit
section
variable {P:Program} {ops:Array Oper} {md:Region.Mode} {C:World->Prop}
def Bd2 (P:Program) (md:Region.Mode) (ops:Array Oper) (C:World->Prop) (n:Nat) (L:Array Bool->Act->Prop):Nat->Array Bool->Act->Prop
 |0,listed,a=>L listed a
 |f+1,listed,a=>Region.ready md ops listed≠[]/\∀ i∈Region.ready md ops listed,i<n/\qOp P ops C i (Bd2 P md ops C n L f (listed.setIfInBounds i true)) a
theorem Ao8 {n g:Nat} {L:Array Bool->Act->Prop} {Q':Exit->Act->World->Prop} (hL:∀ listed a w,C w->L listed a->wpAny P md ops Q' g listed a w) :
  ∀ (f:Nat) (listed:Array Bool) (a:Act) (w:World),C w->Bd2 P md ops C n L f listed a->wpAny P md ops Q' (f+g) listed a w:=by
 intro f
 induction f with
 |zero=>intro listed a w hw h;rw [Nat.zero_add];exact hL _ _ _ hw h
 |succ f ih =>
  intro listed a w hw h
  rw [Nat.add_right_comm]
  exact ⟨fun h0=>absurd h0 h.1,fun i hi=>wpOp_of_qOp hw (fun a' w' hw' h'=>ih _ a' w' hw' h') (h.2 i hi).2⟩
theorem headQ_first {n i:Nat} {oi:Oper} {v:Value} {L:Array Bool->Act->Prop} (hi:ops[i]?=some oi) (hsel:∀ (j:Nat) (o:Oper) cs b,ops[j]?=some o->o.op≠.select cs b)
  (hs:Region.sinkB md ops n=true) (hc:Region.chainB md ops n=true) (hin:i<n) (hdone:∀ listed a,L listed a->∀ j∈Region.ready md ops listed,n<=j) :
  ∀ (f:Nat) (listed:Array Bool) (a:Act),HeadInv md ops n listed ->
   (∀ j oj,ops[j]?=some oj->j≠i->listed.getD j true=false->(∀ e∈oj.after,Region.binds md e=true->e.on≠i)->oi.apart ops oj=true) ->
   i∈Region.ready md ops listed->YieldsIn P ops C oi v a->Bd2 P md ops C n L f (listed.setIfInBounds i true) (a.put oi.dst v)->Bd2 P md ops C n L (f+1) listed a:=by
 intro f
 induction f with
 |zero =>
  intro listed a inv hfree hr hy H
  have hlt:∀ j∈Region.ready md ops listed,j<n:=fun j hj=>Nat.lt_of_not_le fun h=>absurd hj (tail_waits hs hc (Nat.lt_of_le_of_lt h (by obtain ⟨_,o,ho,_⟩:=mem_ready.1 hj;exact (Array.getElem?_eq_some_iff.1 ho).1)) inv _ i rfl hin (mem_ready.1 hr).1 j h)
  refine ⟨fun h=>(by rw [h] at hr;cases hr),fun j hj=>⟨hlt j hj,?_⟩⟩
  by_cases hji:j=i
  ·subst hji;exact hy.qOp hi H
  ·exact absurd (hdone _ _ H j (ready_mono hj hji)) (Nat.not_le_of_lt (hlt j hj))
 |succ f ih =>
  intro listed a inv hfree hr hy H
  have hun:=(mem_ready.1 hr).1
  have hlt:∀ j∈Region.ready md ops listed,j<n:=fun j hj=>Nat.lt_of_not_le fun h=>absurd hj (tail_waits hs hc (Nat.lt_of_le_of_lt h (by obtain ⟨_,o,ho,_⟩:=mem_ready.1 hj;exact (Array.getElem?_eq_some_iff.1 ho).1)) inv _ i rfl hin hun j h)
  refine ⟨fun h=>(by rw [h] at hr;cases hr),fun j hj=>⟨hlt j hj,?_⟩⟩
  by_cases hji:j=i
  ·subst hji;exact hy.qOp hi H
  ·have h1:=(H.2 j (ready_mono hj hji)).2
   obtain ⟨hjun,oj,hoj,hall⟩:=mem_ready.1 hj
   have hnot:∀ e∈oj.after,Region.binds md e=true->e.on≠i:=fun e he hb heq=>by
    have h2:=hall e he hb
    rw [heq,getD_both hun] at h2
    cases h2
   have h2:=qOp_put hoj (hfree j oj hoj hji hjun hnot) (fun cs b=>hsel i oi cs b hi) (fun cs b=>hsel j oj cs b hoj) hy h1
   have hfree':∀ k ok,ops[k]?=some ok->k≠i->(listed.setIfInBounds j true).getD k true=false->(∀ e∈ok.after,Region.binds md e=true->e.on≠i)->oi.apart ops ok=true:=fun k ok hk hki hn hno=>by
    refine hfree k ok hk hki ?_ hno
    by_cases hjk:j=k
    ·exact hjk▸hjun
    ·rwa [getD_set_ne true hjk] at hn
   refine qOp_mono (fun a' h3=>ih (listed.setIfInBounds j true) a' (inv.set hj (hlt j hj)) hfree' (ready_mono hr (Ne.symm hji)) h3.1 ?_) h2
   rw [Array.setIfInBounds_comm _ _ hji]
   exact h3.2
theorem headQ_lex {n g:Nat} {Lq:Act->Prop} (hsel:Region.noSelect ops=true) (hs:Region.sinkB md ops n=true) (hc:Region.chainB md ops n=true) :
  ∀ (l:List Oper) (k:Nat) (listed:Array Bool) (a:Act),(∀ j,j<l.length->l[j]?=ops[k+j]?)->k+l.length=n->HeadInv md ops n listed->Region.lexHead md ops g l.length k listed=true->wpQuiet P ops C Lq l a ->
   Bd2 P md ops C n (fun listed' a'=>Region.seqB md ops g n listed'=true/\Lq a') l.length listed a:=by
 intro l
 induction l with
 |nil =>
  intro k listed a hl hk inv hB h
  obtain rfl:k=n:=by simpa using hk
  exact ⟨by simpa [Region.lexHead] using hB,h⟩
 |cons o l ih =>
  intro k listed a hl hk inv hB h
  have h0:ops[k]?=some o:=by simpa using (hl 0 (by simp)).symm
  simp only [List.length_cons,Region.lexHead,Bool.and_eq_true] at hB
  obtain ⟨⟨hr,hf⟩,hB'⟩:=hB
  have hkn:k<n:=by simp only [List.length_cons] at hk;omega
  have hr':k∈Region.ready md ops listed:=by simpa using hr
  obtain ⟨v,hy,hK⟩:=yieldsIn_of_qOp (P:=P) (C:=C) h0 (K:=wpQuiet P ops C Lq l) (by unfold qOp;simp only [h0];exact h)
  exact headQ_first h0 (Region.noSelect_spec hsel) hs hc hkn (fun listed' a' hL=>seqB_ready hL.1) l.length listed a inv (Region.free_spec h0 hf) hr' hy
   (ih (k+1) _ _ (fun j hj=>by have:=hl (j+1) (by simp;omega);simpa [Nat.add_assoc,Nat.add_comm 1 j] using this) (by simp only [List.length_cons] at hk;omega) (inv.set hr' hkn) hB' hK)
theorem Be2 {id:Nat} {Q:Exit->Act->World->Prop} {a:Act} {w:World} {l:List Oper} (n:Nat) (hB:Region.lexTailB .any l.toArray n=true) (hm:P.follows .mixedOrders=true) (hC:C w.drew)
  (h:wpQuiet P l.toArray C (fun a'=>∀ w',C w'->wpList P l.toArray Q (l.drop n) a' w') (l.take n) a):(Code.region id l.toArray true).wp P Q a w:=by
 simp only [Region.lexTailB,Bool.and_eq_true,decide_eq_true_eq] at hB
 obtain ⟨⟨⟨⟨hsel,hn⟩,hs⟩,hc⟩,hlex⟩:=hB
 have hn':n<l.length:=by simpa using hn
 have htl:(l.take n).length=n:=by simp;omega
 have hdl:(l.drop n).length=l.toArray.size - n:=by simp
 have inv0:HeadInv .any l.toArray n (Array.replicate l.toArray.size false) :=
  ⟨by simp,fun j oj _ hl=>(by rw [getD_replicate_false] at hl;cases hl),fun t _ ht=>getD_in (by simpa using ht) (getD_replicate_false _ _)⟩
 have H:=headQ_lex (md:=.any) (g:=l.toArray.size - n) hsel hs hc (l.take n) 0 _ a (fun j hj=>by
  have hj':j<n:=by rw [htl] at hj;exact hj
  simp [hj']) (by simpa using htl) inv0 (by rw [htl];exact hlex) h
 refine wp_region_any hm ?_
 have:=Ao8 (Q':=Q) (g:=l.toArray.size - n) (fun listed a' w' hw' hL=>by
  have h2:=wpAny_of_seq (md:=.any) (Q':=Q) (l.drop n) n listed a' w' (fun j=>by simp [List.getElem?_drop]) (by rw [hdl];exact hL.1) (hL.2 w' hw')
  rwa [hdl] at h2) _ _ _ _ hC H
 rw [htl,show n+(l.toArray.size - n)=l.toArray.size by omega] at this
 exact this
def Ext (w:World):Type:={ w':World // Below w.heap.size w w' }
instance (w:World):Nonempty (Ext w):=⟨⟨w,Below.refl _ _⟩⟩
def Ext.w {w:World} (k:Ext w):World:=k.1
theorem Ext.below {w:World} (k:Ext w):Below w.heap.size w k.w:=k.2
theorem region_ext_tail {id:Nat} {Q:Exit->Act->World->Prop} {a:Act} {w:World} {l:List Oper} (n:Nat) (hB:Region.lexTailB .any l.toArray n=true) (hm:P.follows .mixedOrders=true)
  (h:wpQuiet P l.toArray (fun w'=>∃ k:Ext w,w'=k.w) (fun a'=>∀ w',(∃ k:Ext w,w'=k.w)->wpList P l.toArray Q (l.drop n) a' w') (l.take n) a):(Code.region id l.toArray true).wp P Q a w :=
 Be2 n hB hm ⟨⟨w.drewN 1,below_drewN (Below.refl _ _) 1⟩,rfl⟩ h
theorem region_ext {id:Nat} {Q:Exit->Act->World->Prop} {a:Act} {w:World} {l:List Oper} (hB:Region.lexB .any l.toArray=true) (hm:P.follows .mixedOrders=true)
  (h:wpQuiet P l.toArray (fun w'=>∃ k:Ext w,w'=k.w) (fun a'=>∀ w',(∃ k:Ext w,w'=k.w)->Q .normal a' w') l a):(Code.region id l.toArray true).wp P Q a w :=
 wp_region_quiet (C:=fun w'=>∃ k:Ext w,w'=k.w) hm hB ⟨⟨w.drewN 1,below_drewN (Below.refl _ _) 1⟩,rfl⟩ (by simpa using h)
theorem q_ext {f:FuncId} {args:Array Value} {w:World} {k:Ext w} {v:Value} (h:Calls P f args k.w fun e w'=>e=.returned v/\Below k.w.heap.size k.w w'):Calls P f args k.w fun e w''=>e=.returned v/\∃ k':Ext w,w''=k'.w :=
 h.mono fun _ w' ⟨he,hb⟩=>⟨he,⟨w',k.below.trans (hb.mono k.below.size)⟩,rfl⟩
theorem q_ext_same {f:FuncId} {args:Array Value} {w:World} {k:Ext w} {v:Value} (h:Calls P f args k.w fun e w'=>e=.returned v/\k.w=w'):Calls P f args k.w fun e w''=>e=.returned v/\∃ k':Ext w,w''=k'.w :=
 h.mono fun _ _ ⟨he,hb⟩=>⟨he,k,hb.symm⟩
theorem q_ext_asks {f:FuncId} {args:Array Value} {w:World} {k:Ext w} {v:Value} (h:Calls P f args k.w fun e w'=>e=.returned v/\∃ q,w'=k.w.drewN q):Calls P f args k.w fun e w''=>e=.returned v/\∃ k':Ext w,w''=k'.w :=
 h.mono fun _ w' ⟨he,q,hb⟩=>⟨he,⟨w',hb▸below_drewN k.below q⟩,rfl⟩
theorem region_quiet_tail {id:Nat} {Q:Exit->Act->World->Prop} {a:Act} {w:World} {l:List Oper} (n:Nat) (hB:Region.lexTailB .any l.toArray n=true) (hm:P.follows .mixedOrders=true)
  (h:wpQuiet P l.toArray (fun w'=>∃ k,w'=w.drewN k) (fun a'=>∀ w',(∃ k,w'=w.drewN k)->wpList P l.toArray Q (l.drop n) a' w') (l.take n) a):(Code.region id l.toArray true).wp P Q a w :=
 Be2 n hB hm ⟨1,rfl⟩ h
end
end Go.Proofs.YtkjpjegmanpbfaaGreatDoor.Eqt
namespace Go.Proofs.YtkjpjegmanpbfaaGreatDoor.Emu
open Go RowKit Com Rw Lns Scn
section
variable {P:Program}
theorem As0 {ops:Array Oper} {rest:List Oper} {o:Oper} {a:Go.Act} {w:World} {Q:Exit->Go.Act->World->Prop} (hgd:o.guard=none) (x y:Operand) (ts:Array TypeId)
  (ho:o.op=.call { callee:=.builtin .max,args:=#[x,y],argTypes:=ts }) (m n z:Int) (hx:a.eval x=.int .i64 m) (hy:a.eval y=.int .i64 n) (hz:max m n=z) (h:wpList P ops Q rest (a.put o.dst (.int .i64 z)) w):wpList P ops Q (o::rest) a w :=
 wpList_plain hgd fun _ hK=>by
  have hrun:(Builtin.max_ ts o.type #[.int .i64 m,.int .i64 n]).run P w=.ok (.int .i64 z) w:=by
   have e:(if n > m then n else m)=z:=by rw [<- hz];split<;>omega
   simp [Builtin.max_,Builtin.max2,e]
  unfold Oper.wp execOp
  simp only [ho,resolve,invoke,builtin,Sem.run_bind,Sem.run_pure,Result.andThen_ok,List.map_toArray,List.map_cons,List.map_nil,hx,hy,hrun]
  exact hK _ _ h
theorem As1 {ops:Array Oper} {rest:List Oper} {o:Oper} {a:Go.Act} {w:World} {Q:Exit->Go.Act->World->Prop} (hgd:o.guard=none) (x y:Operand) (ts:Array TypeId)
  (ho:o.op=.call { callee:=.builtin .min,args:=#[x,y],argTypes:=ts }) (m n z:Int) (hx:a.eval x=.int .i64 m) (hy:a.eval y=.int .i64 n) (hz:min m n=z) (h:wpList P ops Q rest (a.put o.dst (.int .i64 z)) w):wpList P ops Q (o::rest) a w :=
 wpList_plain hgd fun _ hK=>by
  have hrun:(Builtin.min_ ts o.type #[.int .i64 m,.int .i64 n]).run P w=.ok (.int .i64 z) w:=by
   have e:(if n<m then n else m)=z:=by rw [<- hz];split<;>omega
   simp [Builtin.min_,Builtin.min2,e]
  unfold Oper.wp execOp
  simp only [ho,resolve,invoke,builtin,Sem.run_bind,Sem.run_pure,Result.andThen_ok,List.map_toArray,List.map_cons,List.map_nil,hx,hy,hrun]
  exact hK _ _ h
end
def Asks (v:Value) (w:World) (e:Ending) (w':World):Prop:=e=.returned v/\∃ q,w'=w.drewN q
def Kept (Z:Zn) (w:World) (k:Nat):Prop:=k<w.heap.size/\(¬ Z k\/∀ t∈TT,¬ Typ w k t)
def NA (Z:Zn) (w:World) (v:Value) (l:List Int):Prop:=∃ ao cp,v=.slice ao l.length cp/\l.length<=cp/\cp<=maxLen/\Fits .i64 l/\NumsP w (Kept Z w) .i64 ao l
section
variable {Z:Zn} {w w':World} {t:Nat} {T:Ter} {P:Pt} {v:Value} {l:List Int}
theorem Kept.fr {k:Nat} (h:Kept Z w k) (hf:Scn.Fr Z TT w w'):Kept Z w' k/\w'.heap[k]?=w.heap[k]?:=by
 have e:=hf.block k h.1 h.2
 refine ⟨⟨Nat.lt_of_lt_of_le h.1 hf.size,h.2.imp id fun hn t ht hT=>hn t ht ?_⟩,e⟩
 obtain ⟨cs,fz,hT⟩:=hT
 exact ⟨cs,fz,e▸hT⟩
theorem NA.fr (h:NA Z w v l) (hf:Scn.Fr Z TT w w'):NA Z w' v l:=by
 obtain ⟨ao,cp,h1,h2,h3,h4,h5⟩:=h
 refine ⟨ao,cp,h1,h2,h3,h4,fun i x hx=>?_⟩
 obtain ⟨ad,e,hk,hc⟩:=h5 i x hx
 exact ⟨ad,e,(hk.fr hf).1,(World.cell?_of_block (w:=w) (by rw [block_add];exact (hk.fr hf).2)).trans hc⟩
theorem NA.below (h:NA Z w v l) (hb:Below w.heap.size w w'):NA Z w' v l:=h.fr (Scn.Fr.of_below hb)
theorem Bm1 (h:NA Z w v l) (i:Nat):Calls Tryz.prog 180 #[v,.int .i64 i] w fun e w'=>e=.returned (.int .i64 (atN l i))/\w=w':=by
 obtain ⟨ao,cp,rfl,h2,h3,h4,h5⟩:=h
 by_cases hlt:i<l.length
 ·obtain ⟨ad,rfl,hk,hc⟩:=h5 i _ (List.getElem?_eq_getElem hlt)
  have he:atN l i=Ak3 l[i]:=by unfold atN;rw [List.getElem?_eq_getElem hlt]
  rw [he]
  clear h4 h5 hk he
  generalize l[i]=x at hc |-
  have hI:(i:Int)<(l.length:Int):=by omega
  have hN:¬ (l.length:Int)<=(i:Int):=by omega
  have hD:decide ((l.length:Int)<=(i:Int))=false:=decide_eq_false hN
  generalize l.length=n at h2 hI hN hD hlt
  obtain ⟨m1,hm1⟩:∃ m1,min x 65535=m1:=⟨_,rfl⟩
  have hm2:max 0 m1=Ak3 x:=by rw [<- hm1];rfl
  replace hm1:=J0 hm1
  replace hm2:=J0 hm2
  generalize Ak3 x=y at hm2 |-
  go_enter Tryz.func180,Tryz.ntmps180
  go_wp2_with (first
   |(with_reducible show wpList _ _ _ (⟨some 13,.call _,_,_,_,_⟩::_) _ _;go_must (refine As1 rfl (.tmp 12) _ _ rfl x 65535 m1 rfl rfl hm1.out ?_))
   |(with_reducible show wpList _ _ _ (⟨some 14,.call _,_,_,_,_⟩::_) _ _;go_must (refine As0 rfl _ (.tmp 13) _ rfl 0 m1 y rfl rfl hm2.out ?_)))
  go_ret
  exact ⟨rfl,rfl⟩
 ·have he:atN l i=0:=by unfold atN;rw [List.getElem?_eq_none (by omega)]
  rw [he]
  have hD:decide ((l.length:Int)<=(i:Int))=true:=decide_eq_true (by omega)
  have hI:(l.length:Int)<=(i:Int):=by omega
  generalize l.length=n at h2 hD hI
  clear h4 h5 he hlt
  go_enter Tryz.func180,Tryz.ntmps180
  go_wp2
  go_ret
  exact ⟨rfl,rfl⟩
theorem Ad1 (h:NA Z w v l) (i:Nat):Calls Tryz.prog 176 #[v,.int .i64 i] w fun e w'=>e=.returned (.int .i64 (Aa2 l i))/\w=w':=by
 have ha:=J0 (Bm1 h i)
 have hm:Hid (max 1 (atN l i)=Aa2 l i):=J0 rfl
 generalize atN l i=x at ha hm
 generalize Aa2 l i=y at hm |-
 clear h
 go_enter Tryz.func176,Tryz.ntmps176
 go_wp2_with (first
  |(go_at_call 180;(with_reducible refine ha.out.mono ?_);rintro e w1 ⟨rfl,rfl⟩)
  |(with_reducible show wpList _ _ _ (⟨some 8,.call _,_,_,_,_⟩::_) _ _;go_must (refine As0 rfl _ (.tmp 7) _ rfl 1 x y rfl rfl hm.out ?_)))
 go_ret
 exact ⟨rfl,rfl⟩
theorem clamp_in (v:Int):0<=Ak3 v/\Ak3 v<=65535:=by unfold Ak3;omega
theorem Bm2 (l:List Int) (i:Nat):0<=atN l i/\atN l i<=65535:=by
 unfold atN
 split
 ·exact clamp_in _
 ·omega
theorem Ac3 (l:List Int) (i:Nat):1<=Aa2 l i/\Aa2 l i<=65535:=by
 have:=Bm2 l i
 unfold Aa2
 omega
theorem Ag1 (i:Int) (n:Nat) (h1:1<=n) (h5:n<=512) (w:World):Calls Tryz.prog 83 #[.int .i64 i,.int .i64 n] w fun e w'=>e=.returned (.int .i64 (Aj3 i n))/\w=w':=by
 have hw:IntKind.i64.wrap ((n:Int) - 1)=(n:Int) - 1:=IntWalk.i64_in _ (by omega)
 obtain ⟨m1,hm1⟩:∃ m1,min i ((n:Int) - 1)=m1:=⟨_,rfl⟩
 obtain ⟨y,hy⟩:∃ y,y=Aj3 i n:=⟨_,rfl⟩
 have hm2:max 0 m1=(y:Int):=by rw [hy,<- hm1];unfold Aj3;omega
 rw [<- hy]
 replace hm1:=J0 hm1
 replace hm2:=J0 hm2
 replace hy:=J0 hy
 go_enter Tryz.func83,Tryz.ntmps83
 go_wp2_with (first
  |(with_reducible show wpList _ _ _ (⟨some 8,.call _,_,_,_,_⟩::_) _ _;go_must (refine As1 rfl (.tmp 5) (.tmp 7) _ rfl i ((n:Int) - 1) m1 rfl rfl hm1.out ?_))
  |(with_reducible show wpList _ _ _ (⟨some 9,.call _,_,_,_,_⟩::_) _ _;go_must (refine As0 rfl _ (.tmp 8) _ rfl 0 m1 y rfl rfl hm2.out ?_)))
 go_ret
 exact ⟨rfl,rfl⟩
end
structure Ok (T:Ter):Prop where
 fit:Fit T.vis
 fitm:Fit T.mscr
 rows:T.main.L.length=T.vis.L.length
 cols:T.main.cols=T.vis.cols
 row:T.c.row<T.vis.L.length
 col:T.c.col<T.vis.cols
 sv:T.sh.sv.c.row<T.vis.L.length/\T.sh.sv.c.col<T.vis.cols
 svm:T.main.sv.c.row<T.main.L.length/\T.main.sv.c.col<T.main.cols
 tn:T.tn=T.vis.cols
 alt:T.other.isSome=T.m.a6
section
variable {Z Z1:Zn} {w w':World} {t:Nat} {T:Ter} {P:Pt} {v:Value} {l:List Int}
theorem Aa9 (h:TMx Z w t T P):Calls Tryz.prog 36 #[.pointer (some ⟨t,0,none⟩)] w fun e w'=>e=.returned (.pointer (some ⟨P.h T.other,0,none⟩))/\w=w':=by
 have c18:=h.c18
 have c19:=h.c19
 unfold Pt.h
 rcases ho:T.other with _|o
 ·rw [ho] at c19
  unfold optP at c19
  clear h ho
  go_enter Tryz.func36,Tryz.ntmps36
  go_wp2
  go_ret
  exact ⟨rfl,rfl⟩
 ·rw [ho] at c19
  unfold optP at c19
  clear h ho
  go_enter Tryz.func36,Tryz.ntmps36
  go_wp2
  go_ret
  exact ⟨rfl,rfl⟩
theorem Am2 {x s:Nat} {S:Scr} (h:SC Z1 w x s S) (hl:1<=S.L.length):Calls Tryz.prog 42 #[.pointer (some ⟨x,0,none⟩)] w (Asks (.tuple #[.int .i64 S.top,.int .i64 S.bot]) w):=by
 have hm:=J0 (Ai4 h hl)
 obtain ⟨_,_,_,_,c4,c5⟩:=h.cells
 generalize S.top=t at c4 |-
 generalize S.bot=b at c5 |-
 clear h
 go_enter Tryz.func42,Tryz.ntmps42
 go_wp2_with ((go_at_call 75;(with_reducible refine (hm.out).mono ?_);rintro e w' ⟨rfl,rfl⟩))
 go_quiet (fail)
 go_wp2
 go_ret2
 exact ⟨rfl,_,rfl⟩
theorem Bm0 (h:TMx Z w t T P) (ok:Ok T) (n:Int) (hn:0<=n/\n<=65535):Calls Tryz.prog 175 #[.pointer (some ⟨t,0,none⟩),.int .i64 n] w (Asks (.int .i64 (above T n)) w):=by
 have c8:=h.c8
 have hs:=h.s0
 have hsh:=J0 (Aa9 h)
 obtain ⟨Z1,hf⟩:=h.focus
 have hm:=Am2 hf.sc ok.fit.len
 have h5:=ok.fit.len5
 have hr:=ok.row
 have hb:=ok.fit.bot
 have ht:=ok.fit.top
 unfold above
 generalize P.h T.other=hh at hs hsh
 generalize P.x T.other=xx at hs hm
 generalize T.vis.bot=bot at hm hb ht
 generalize T.vis.top=top at hm ht |-
 generalize T.vis.L.length=rows at h5 hr hb
 generalize T.c.row=row at c8 hr |-
 replace hm:=J0 hm
 have hw:IntKind.i64.wrap ((row:Int) - n)=(row:Int) - n:=IntWalk.i64_in _ (by omega)
 clear h hf ok
 by_cases hc:top<=row
 ·rw [if_pos hc]
  have hd:decide ((top:Int)<=(row:Int))=true:=decide_eq_true (by omega)
  have hd2:decide (top<=row)=true:=decide_eq_true hc
  obtain ⟨y,hy⟩:∃ y,max (top:Int) ((row:Int) - n)=y:=⟨_,rfl⟩
  rw [hy]
  replace hy:=J0 hy
  go_enter Tryz.func175,Tryz.ntmps175
  go_wp2_with (first
   |(go_at_call 36;(with_reducible refine hsh.out.mono ?_);rintro e w1 ⟨rfl,rfl⟩)
   |(go_at_call 42;(with_reducible refine hm.out.mono ?_);rintro e w1 ⟨rfl,q,rfl⟩)
   |(with_reducible show wpList _ _ _ (⟨some 31,.call _,_,_,_,_⟩::_) _ _;go_must (refine As0 rfl (.tmp 23) (.tmp 30) _ rfl top ((row:Int) - n) y rfl rfl hy.out ?_)))
  go_ret
  exact ⟨rfl,_,rfl⟩
 ·rw [if_neg hc]
  have hd:decide ((top:Int)<=(row:Int))=false:=decide_eq_false (by omega)
  have hd2:decide (top<=row)=false:=decide_eq_false hc
  go_enter Tryz.func175,Tryz.ntmps175
  go_wp2_with (first
   |(go_at_call 36;(with_reducible refine hsh.out.mono ?_);rintro e w1 ⟨rfl,rfl⟩)
   |(go_at_call 42;(with_reducible refine hm.out.mono ?_);rintro e w1 ⟨rfl,q,rfl⟩))
  go_ret
  exact ⟨rfl,_,rfl⟩
end
def Does (Z:Zn) (w:World) (t:Nat) (T:Ter) (e:Ending) (w':World):Prop:=(∃ v,e=.returned v)/\TM Z w' t T/\Scn.Fr Z TT w w'
section
variable {Z Z1:Zn} {w w':World} {t:Nat} {T:Ter} {P:Pt} {v:Value} {l:List Int}
theorem Au5 (h:TMx Z w t T P) (ok:Ok T) (n:Int) (hn:0<=n/\n<=65535):Calls Tryz.prog 177 #[.pointer (some ⟨t,0,none⟩),.int .i64 n] w (Asks (.int .i64 (below T n)) w):=by
 have c8:=h.c8
 have hs:=h.s0
 have hsh:=J0 (Aa9 h)
 obtain ⟨Z1,hf⟩:=h.focus
 have hm:=Am2 hf.sc ok.fit.len
 have h5:=ok.fit.len5
 have hr:=ok.row
 have hb:=ok.fit.bot
 have ht:=ok.fit.top
 unfold below
 generalize P.h T.other=hh at hs hsh
 generalize P.x T.other=xx at hs hm
 generalize T.vis.bot=bot at hm hb ht |-
 generalize T.vis.top=top at hm ht
 generalize T.vis.L.length=rows at h5 hr hb
 generalize T.c.row=row at c8 hr |-
 replace hm:=J0 hm
 have hw:IntKind.i64.wrap ((row:Int)+n)=(row:Int)+n:=IntWalk.i64_in _ (by omega)
 clear h hf ok
 by_cases hc:row<=bot
 ·rw [if_pos hc]
  have hd:decide ((row:Int)<=(bot:Int))=true:=decide_eq_true (by omega)
  have hd2:decide (row<=bot)=true:=decide_eq_true hc
  obtain ⟨y,hy⟩:∃ y,min (bot:Int) ((row:Int)+n)=y:=⟨_,rfl⟩
  rw [hy]
  replace hy:=J0 hy
  go_enter Tryz.func177,Tryz.ntmps177
  go_wp2_with (first
   |(go_at_call 36;(with_reducible refine hsh.out.mono ?_);rintro e w1 ⟨rfl,rfl⟩)
   |(go_at_call 42;(with_reducible refine hm.out.mono ?_);rintro e w1 ⟨rfl,q,rfl⟩)
   |(with_reducible show wpList _ _ _ (⟨some 31,.call _,_,_,_,_⟩::_) _ _;go_must (refine As1 rfl (.tmp 23) (.tmp 30) _ rfl bot ((row:Int)+n) y rfl rfl hy.out ?_)))
  go_ret
  exact ⟨rfl,_,rfl⟩
 ·rw [if_neg hc]
  have hd:decide ((row:Int)<=(bot:Int))=false:=decide_eq_false (by omega)
  have hd2:decide (row<=bot)=false:=decide_eq_false hc
  go_enter Tryz.func177,Tryz.ntmps177
  go_wp2_with (first
   |(go_at_call 36;(with_reducible refine hsh.out.mono ?_);rintro e w1 ⟨rfl,rfl⟩)
   |(go_at_call 42;(with_reducible refine hm.out.mono ?_);rintro e w1 ⟨rfl,q,rfl⟩))
  go_ret
  exact ⟨rfl,_,rfl⟩
theorem Am7 (h:TMx Z w t T P) (ok:Ok T) (n:Int) (hn:0<=n/\n<=65535):Calls Tryz.prog 178 #[.pointer (some ⟨t,0,none⟩),.int .i64 n] w (Asks (.int .i64 (counted T n)) w):=by
 have c3:=h.c3
 have hs:=h.s0
 have hsh:=J0 (Aa9 h)
 obtain ⟨Z1,hf⟩:=h.focus
 have hm:=Am2 hf.sc ok.fit.len
 have h5:=ok.fit.len5
 have hb:=ok.fit.bot
 have ht:=ok.fit.top
 unfold counted
 generalize P.h T.other=hh at hs hsh
 generalize P.x T.other=xx at hs hm
 generalize T.vis.bot=bot at hm hb ht |-
 generalize T.vis.top=top at hm ht |-
 generalize T.vis.L.length=rows at h5 hb
 replace hm:=J0 hm
 have hw:IntKind.i64.wrap (n - 1)=n - 1:=IntWalk.i64_in _ (by omega)
 have hw2:IntKind.i64.wrap ((top:Int)+n)=(top:Int)+n:=IntWalk.i64_in _ (by omega)
 have hw3:IntKind.i64.wrap ((top:Int)+n - 1)=(top:Int)+n - 1:=IntWalk.i64_in _ (by omega)
 clear h hf ok
 generalize T.m.a3=ob at c3 |-
 cases ob
 ·simp only [Bool.false_eq_true,if_false]
  go_enter Tryz.func178,Tryz.ntmps178
  go_wp2
  go_ret
  exact ⟨rfl,0,rfl⟩
 ·simp only [if_true]
  obtain ⟨y,hy⟩:∃ y,min (bot:Int) ((top:Int)+n - 1)=y:=⟨_,rfl⟩
  rw [hy]
  replace hy:=J0 hy
  go_enter Tryz.func178,Tryz.ntmps178
  go_wp2_with (first
   |(go_at_call 36;(with_reducible refine hsh.out.mono ?_);rintro e w1 ⟨rfl,rfl⟩)
   |(go_at_call 42;(with_reducible refine hm.out.mono ?_);rintro e w1 ⟨rfl,q,rfl⟩)
   |(with_reducible show wpList _ _ _ (⟨some 29,.call _,_,_,_,_⟩::_) _ _;go_must (refine As1 rfl (.tmp 24) (.tmp 28) _ rfl bot ((top:Int)+n - 1) y rfl rfl hy.out ?_)))
  go_ret
  exact ⟨rfl,_,rfl⟩
theorem Bp4 (h:TMx Z w t T P) (fit:Fit T.vis) (row col:Int):Calls Tryz.prog 89 #[.pointer (some ⟨t,0,none⟩),.int .i64 row,.int .i64 col] w fun e w'=>(∃ v,e=.returned v)/\TMx Z w' t (place T row col) P/\Scn.Fr Z TT w w':=by
 have c8:=h.c8
 have c9:=h.c9
 have c10:=h.c10
 have f8:=h.free 8
 have f9:=h.free 9
 have f10:=h.free 10
 have hs:=h.s0
 have hsh:=J0 (Aa9 h)
 obtain ⟨Z1,hf⟩:=h.focus
 have hro:=J0 (Af0 hf.sc fit.len)
 have hco:=J0 (Af3 hf.sc fit.len)
 have hh1:=J0 (Ag1 row T.vis.L.length fit.len fit.len5 w)
 have hh2:=J0 (Ag1 col T.vis.cols fit.c1 fit.c5 w)
 have hres:=fun (y x:Nat)=>h.turn (m:=T.m) (c:=⟨y,x,false⟩) (p:=T.p) (n:=T.prints) (e:=T.last) (w':=((w.setCell ⟨t,8,none⟩ (.int .i64 y)).setCell ⟨t,9,none⟩ (.int .i64 x)).setCell ⟨t,10,none⟩ (.bool false))
  (((Only.setCell w ⟨t,8,none⟩ _).trans (Only.setCell _ ⟨t,9,none⟩ _)).trans (Only.setCell _ ⟨t,10,none⟩ _)) (((h.blk.set 8 _).set 9 _).set 10 _)
 unfold place
 replace hres:=J0 (hres (Aj3 row T.vis.L.length) (Aj3 col T.vis.cols))
 generalize Aj3 row T.vis.L.length=y at hh1 hres |-
 generalize Aj3 col T.vis.cols=x at hh2 hres |-
 generalize P.h T.other=hh at hs hsh
 generalize P.x T.other=xx at hs hro hco
 generalize T.vis.L.length=rows at hro hh1
 generalize T.vis.cols=cols at hco hh2
 clear h hf fit
 go_enter Tryz.func89,Tryz.ntmps89
 go_wp2_with (first
  |(go_at_call 36;(with_reducible refine hsh.out.mono ?_);rintro e w1 ⟨rfl,rfl⟩)
  |(go_at_call 43;(with_reducible refine hro.out.mono ?_);rintro e w1 ⟨rfl,rfl⟩)
  |(go_at_call 56;(with_reducible refine hco.out.mono ?_);rintro e w1 ⟨rfl,rfl⟩)
  |(go_at_call 83;(with_reducible refine hh1.out.mono ?_);rintro e w1 ⟨rfl,rfl⟩)
  |(go_at_call 83;(with_reducible refine hh2.out.mono ?_);rintro e w1 ⟨rfl,rfl⟩))
 go_end0
 exact ⟨⟨_,rfl⟩,hres.out⟩
theorem Af5 (h:TMx Z w t T P) (ok:Ok T) (row col:Int):Calls Tryz.prog 89 #[.pointer (some ⟨t,0,none⟩),.int .i64 row,.int .i64 col] w fun e w'=>(∃ v,e=.returned v)/\TMx Z w' t (place T row col) P/\Scn.Fr Z TT w w':=Bp4 h ok.fit row col
end
