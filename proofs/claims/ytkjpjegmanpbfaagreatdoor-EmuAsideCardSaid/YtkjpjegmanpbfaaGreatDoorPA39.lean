/- Part 39 of the proof that the card of EmuAside holds. -/
import Derived.Test.YtkjpjegmanpbfaaGreatDoorPA38
set_option maxHeartbeats 16000000
set_option maxRecDepth 100000
namespace Go.Proofs.YtkjpjegmanpbfaaGreatDoor.Emu
open Go RowKit Com Rw Lns Scn
section
variable {Z Z1:Zn} {w w':World} {t s d b:Nat} {x:AcT} {S:Scr} {T:Ter} {P:Pt} {v:Value} {l:List Int} {pa ia ta:Option Addr} {pn pc im ic tn tc:Nat} {k r pr f:Int}
theorem neq_kin (f:FuncId) (w:World):(binOp .neq 91 (.func (.func f) #[] #[]) .nilFunc).run Tryz.prog w=.ok (.bool true) w:=by kernel_rfl
theorem neqn_kin (w:World):(binOp .neq 91 .nilFunc .nilFunc).run Tryz.prog w=.ok (.bool false) w:=by kernel_rfl
def kinL:List Ent:=[(1,.func (.func 32) #[] #[]),(2,.func (.func 33) #[] #[]),(3,.func (.func 34) #[] #[]),(4,.func (.func 35) #[] #[])]
theorem kinL_none {n:Int} (h0:n≠1) (h1:n≠2) (h2:n≠3) (h3:n≠4):findM kinL n=none:=by
 simp [kinL,findM,h0,h1,h2,h3]
structure As5 (T:Ter) (x:AcT):Prop where
 jr:T.jr.length<=88000
 pr:T.prints<=999000
 rp:T.rp.length<=1000000
 par:x.params.length<=100
 nx:T.nx+100*T.main.L.length<=990000
structure Wf (x:AcT):Prop where
 kind:(Lit.int .u8 x.kind).wf=true
 r:(Lit.int .i32 x.r).wf=true
 fin:(Lit.int .i32 x.fin).wf=true
 inter:Fits .i32 x.inter
theorem Ba7 (h:As5 T x):T.nx<=990000:=by have:=h.nx;omega
theorem roomy_par (h:As5 T x):T.nx+x.params.length*T.main.L.length<=990000:=by
 have:=h.nx
 have:=Nat.mul_le_mul_right T.main.L.length h.par
 omega
theorem esc_any (h:TM Z w t T) (ok:Ok T) (hw:Wf x) (hR:As5 T x) (hra:RA Z w ia x.inter):Calls Tryz.prog 34 #[.pointer (some ⟨t,0,none⟩),.agg #[.int .u8 x.kind,.int .i32 x.r,.int .i32 x.priv,.slice pa pn pc,.slice ia x.inter.length ic,.int .i32 x.fin,.slice ta tn tc]] w (Does Z w t (escape T x)):=by
 have hj:=hR.jr
 by_cases hi:x.inter=[]
 ·have e:escape T x=escF T x.fin:=by unfold escape;rw [if_pos hi];rfl
  rw [e,hi]
  exact escape_go h ok (by omega) (Ba7 hR) hw.fin
 ·have e:escape T x=choF T x.inter x.fin:=by unfold escape;rw [if_neg hi];rfl
  rw [e]
  obtain ⟨P,h⟩:=h
  exact esc_inter h hi hra hw.inter hw.fin
theorem seq_any (h:TM Z w t T) (ok:Ok T) (hw:Wf x) (hR:As5 T x) (hp:NA Z w (.slice pa pn pc) x.params):Calls Tryz.prog 35 #[.pointer (some ⟨t,0,none⟩),.agg #[.int .u8 x.kind,.int .i32 x.r,.int .i32 x.priv,.slice pa pn pc,.slice ia x.inter.length ic,.int .i32 x.fin,.slice ta tn tc]] w (Does Z w t (sequence T x)):=by
 have hj:=hR.jr
 have hpar:=hR.par
 unfold sequence
 by_cases hi:x.inter=[]
 ·rw [if_pos hi,hi]
  by_cases h0:x.priv=0
  ·rw [if_pos h0,h0]
   exact seq_plain h ok (by omega) (Ba7 hR) hR.rp hp hw.fin
  ·rw [if_neg h0]
   by_cases h1:x.priv=63
   ·rw [if_pos h1,h1]
    exact seq_priv h ok (by omega) (roomy_par hR) hp hw.fin
   ·rw [if_neg h1]
    obtain ⟨P,h⟩:=h
    exact seq_other h h0 h1 hw.fin
 ·rw [if_neg hi]
  obtain ⟨P,h⟩:=h
  exact seq_inter h (List.length_pos_iff.2 hi)
theorem do_any (h:TM Z w t T) (ok:Ok T) (hw:Wf x) (hR:As5 T x) (hp:NA Z w (.slice pa pn pc) x.params) (hra:RA Z w ia x.inter):Calls Tryz.prog 25 #[.pointer (some ⟨t,0,none⟩),.agg #[.int .u8 x.kind,.int .i32 x.r,.int .i32 x.priv,.slice pa pn pc,.slice ia x.inter.length ic,.int .i32 x.fin,.slice ta tn tc]] w (Does Z w t (doT T x)):=by
 obtain ⟨T2,hT2⟩:∃ T2,T2=doT T x:=⟨_,rfl⟩
 rw [<- hT2]
 replace hT2:=J0 hT2
 have hbn:=Aa1 w (.cells #[.int .u8 x.kind,.int .i32 x.r,.int .i32 x.priv,.slice pa pn pc,.slice ia x.inter.length ic,.int .i32 x.fin,.slice ta tn tc] 25)
 have hbx:=Block.made w 25 #[.int .u8 x.kind,.int .i32 x.r,.int .i32 x.priv,.slice pa pn pc,.slice ia x.inter.length ic,.int .i32 x.fin,.slice ta tn tc]
 have hmm:=@run_makeMap Tryz.prog
 have hneq:=neq_kin
 have hneqn:=neqn_kin
 go_enter Tryz.func25,Tryz.ntmps25
 go_upto_region 1 with (fail)
 generalize w.alloc (.cells #[.int .u8 x.kind,.int .i32 x.r,.int .i32 x.priv,.slice pa pn pc,.slice ia x.inter.length ic,.int .i32 x.fin,.slice ta tn tc] 25)=w0 at hbn hbx |-
 have hmp:=MpN.made w0 .u8
 have hbm:=Aa1 w0 (.map #[] 0)
 have hsz:(w0.alloc (.map #[] 0)).heap.size=w0.heap.size+1:=by simp
 go_upto_region 2 with (refine Al5 Cf0 hmp ?_ ?_ ?_;rfl;decide;clear hmp;intro wn hmp hon;replace hbm:=hbm.trans (hon.below hbm.size (by simp));clear hon)
 change MpN _ _ _ kinL at hmp
 clear hsz
 have hx9:=Block.only hbx (Only.of_below hbm []) (by simp)
 have x0:=hx9.cell 0 (v:=.int .u8 x.kind) rfl
 have x1:=hx9.cell 1 (v:=.int .i32 x.r) rfl
 have x2:=hx9.cell 2 (v:=.int .i32 x.priv) rfl
 have x3:=hx9.cell 3 (v:=.slice pa pn pc) rfl
 have x4:=hx9.cell 4 (v:=.slice ia x.inter.length ic) rfl
 have x5:=hx9.cell 5 (v:=.int .i32 x.fin) rfl
 have x6:=hx9.cell 6 (v:=.slice ta tn tc) rfl
 have hlk0:=(Bo6 Cf0 hmp x.kind hw.kind).1
 have hb:=Aa0 hbn hbm
 have hT:=h.below hb
 have hf0:Scn.Fr Z TT w wn:=Scn.Fr.of_below hb
 have hp9:=hp.below hb
 have hra9:=hra.below hb
 have hj:=hR.jr
 have hpr:=hR.pr
 clear hmp hbm hbn hbx hmm h hb hx9 hp hra
 by_cases e0:x.kind=1
 ·have hc:=print_any (k:=x.kind) (r:=x.r) (pr:=x.priv) (pa:=pa) (pn:=pn) (pc:=pc) (ia:=ia) (im:=x.inter.length) (ic:=ic) (f:=x.fin) (ta:=ta) (tn:=tn) (tc:=tc) hT ok (by omega) (by omega) (Ba7 hR)
  rw [show As3 T x.r=doT T x by simp [doT,e0],<- hT2.out,e0] at hc
  rw [e0] at hlk0 x0
  have hlk:(Instr.lookup 92 (.map (some w0.heap.size)) (.int .u8 1) false).run Tryz.prog wn=.ok (.func (.func 32) #[] #[]) wn:=hlk0
  replace hc:=J0 hc
  generalize x.inter.length=im at *
  generalize x.fin=f at *
  generalize x.r=r at *
  generalize x.priv=pr at *
  clear hT2 hT ok hlk0 hw hR hp9 hra9 hj hpr e0
  go_wp2_with (first
   |(go_at_call 32;(with_reducible refine (hc.out).mono ?_);rintro e w3 ⟨⟨v3,rfl⟩,h3,hf3⟩))
  go_end0
  exact ⟨⟨_,rfl⟩,h3,hf0.trans hf3⟩
 by_cases e1:x.kind=2
 ·have hc:=control_go (k:=x.kind) (r:=x.r) (pr:=x.priv) (pa:=pa) (pn:=pn) (pc:=pc) (ia:=ia) (im:=x.inter.length) (ic:=ic) (f:=x.fin) (ta:=ta) (tn:=tn) (tc:=tc) hT ok (by omega) (Ba7 hR) hw.r
  rw [show control T x.r=doT T x by simp [doT,e1],<- hT2.out,e1] at hc
  rw [e1] at hlk0 x0
  have hlk:(Instr.lookup 92 (.map (some w0.heap.size)) (.int .u8 2) false).run Tryz.prog wn=.ok (.func (.func 33) #[] #[]) wn:=hlk0
  replace hc:=J0 hc
  generalize x.inter.length=im at *
  generalize x.fin=f at *
  generalize x.r=r at *
  generalize x.priv=pr at *
  clear hT2 hT ok hlk0 hw hR hp9 hra9 hj hpr e1 e0
  go_wp2_with (first
   |(go_at_call 33;(with_reducible refine (hc.out).mono ?_);rintro e w3 ⟨⟨v3,rfl⟩,h3,hf3⟩))
  go_end0
  exact ⟨⟨_,rfl⟩,h3,hf0.trans hf3⟩
 by_cases e2:x.kind=3
 ·have hc:=esc_any (pa:=pa) (pn:=pn) (pc:=pc) (ia:=ia) (ic:=ic) (ta:=ta) (tn:=tn) (tc:=tc) hT ok hw hR hra9
  rw [show escape T x=doT T x by simp [doT,e2],<- hT2.out,e2] at hc
  rw [e2] at hlk0 x0
  have hlk:(Instr.lookup 92 (.map (some w0.heap.size)) (.int .u8 3) false).run Tryz.prog wn=.ok (.func (.func 34) #[] #[]) wn:=hlk0
  replace hc:=J0 hc
  generalize x.inter.length=im at *
  generalize x.fin=f at *
  generalize x.r=r at *
  generalize x.priv=pr at *
  clear hT2 hT ok hlk0 hw hR hp9 hra9 hj hpr e2 e0 e1
  go_wp2_with (first
   |(go_at_call 34;(with_reducible refine (hc.out).mono ?_);rintro e w3 ⟨⟨v3,rfl⟩,h3,hf3⟩))
  go_end0
  exact ⟨⟨_,rfl⟩,h3,hf0.trans hf3⟩
 by_cases e3:x.kind=4
 ·have hc:=seq_any (pa:=pa) (pn:=pn) (pc:=pc) (ia:=ia) (ic:=ic) (ta:=ta) (tn:=tn) (tc:=tc) hT ok hw hR hp9
  rw [show sequence T x=doT T x by simp [doT,e3],<- hT2.out,e3] at hc
  rw [e3] at hlk0 x0
  have hlk:(Instr.lookup 92 (.map (some w0.heap.size)) (.int .u8 4) false).run Tryz.prog wn=.ok (.func (.func 35) #[] #[]) wn:=hlk0
  replace hc:=J0 hc
  generalize x.inter.length=im at *
  generalize x.fin=f at *
  generalize x.r=r at *
  generalize x.priv=pr at *
  clear hT2 hT ok hlk0 hw hR hp9 hra9 hj hpr e3 e0 e1 e2
  go_wp2_with (first
   |(go_at_call 35;(with_reducible refine (hc.out).mono ?_);rintro e w3 ⟨⟨v3,rfl⟩,h3,hf3⟩))
  go_end0
  exact ⟨⟨_,rfl⟩,h3,hf0.trans hf3⟩
 have he:T2=T:=by rw [hT2.out];simp [doT,e0,e1,e2,e3]
 subst he
 have hlk:(Instr.lookup 92 (.map (some w0.heap.size)) (.int .u8 x.kind) false).run Tryz.prog wn=.ok .nilFunc wn:=by
  rw [hlk0,kinL_none e0 e1 e2 e3]
  rfl
 clear hT2 ok hlk0 hw hR hp9 hra9 hj hpr e0 e1 e2 e3
 generalize x.inter.length=im at *
 generalize x.kind=k at *
 go_wp2
 go_end0
 exact ⟨⟨_,rfl⟩,hT,hf0⟩
end
end Go.Proofs.YtkjpjegmanpbfaaGreatDoor.Emu
namespace Go.Proofs.YtkjpjegmanpbfaaGreatDoor.Eqt
open Go RowKit
section
variable {P:Program} {ops:Array Oper} {md:Region.Mode} {C:World->Prop}
def Ci6 (md:Region.Mode) (ops:Array Oper) (n:Nat) (pre:List Nat):Bool :=
 (List.range n).all fun i=>pre.contains i || (List.range (n+1)).any fun j=>decide (i<j) && Region.waitsFor md ops j i
def Bu7 (md:Region.Mode) (ops:Array Oper) (n:Nat) (pre:List Nat):Bool :=
 (List.range ops.size).all fun t=>decide (t<=n) || ((List.range t).any fun u=>decide (n<=u) && Region.waitsFor md ops t u) || (List.range n).all fun i=>pre.contains i || Region.waitsFor md ops t i
theorem Be7 {n:Nat} {listed:Array Bool} {pre:List Nat} (hs:Ci6 md ops n pre=true) (hc:Bu7 md ops n pre=true) (hn:n<ops.size) (inv:HeadInv md ops n listed/\∀ i∈pre,listed.getD i false=true) :
  ∀ (d i:Nat),n - i=d->i<n->listed.getD i true=false->∀ t,n<=t->t∉Region.ready md ops listed:=by
 intro d
 induction d using Nat.strongRecOn with
 |_ d ih =>
  intro i hd hi hun t ht hr
  obtain ⟨_,ot,hot,hall⟩:=mem_ready.1 hr
  have htlt:t<ops.size:=(Array.getElem?_eq_some_iff.1 hot).1
  by_cases htn:t=n
  ·subst htn
   have h1:=List.all_eq_true.1 hs i (List.mem_range.2 hi)
   simp only [Bool.or_eq_true,List.contains_iff_mem] at h1
   have h1:=h1.resolve_left fun hp=>by have:=inv.2 i hp;rw [getD_both hun] at this;cases this
   obtain ⟨j,hj,hj2⟩:=List.any_eq_true.1 h1
   simp only [Bool.and_eq_true,decide_eq_true_eq] at hj2
   obtain ⟨oj,hoj,e,he,hb,hon⟩:=Region.waitsFor_spec hj2.2
   have hjle:j<=t:=by have:=List.mem_range.1 hj;omega
   by_cases hjt:j=t
   ·subst hjt
    have:oj=ot:=Option.some.inj (hoj.symm.trans hot)
    subst this
    have h2:=hall e he hb
    rw [hon,getD_both hun] at h2
    cases h2
   ·cases hl:listed.getD j false with
    |true =>
     have h2:=inv.1.closed j oj hoj hl e he hb
     rw [hon,getD_both hun] at h2
     cases h2
    |false =>
     have hjs:j<listed.size:=by rw [inv.1.size];omega
     exact ih (t - j) (by omega) j rfl (by omega) (getD_in hjs hl) t (J5 _) hr
  ·have h1:=List.all_eq_true.1 hc t (List.mem_range.2 htlt)
   simp only [Bool.or_eq_true,decide_eq_true_eq] at h1
   rcases h1 with (h1|h1)|h1
   ·omega
   rotate_left
   ·have h3:=List.all_eq_true.1 h1 i (List.mem_range.2 hi)
    simp only [Bool.or_eq_true,List.contains_iff_mem] at h3
    have h3:=h3.resolve_left fun hp=>by have:=inv.2 i hp;rw [getD_both hun] at this;cases this
    obtain ⟨o',ho',e,he,hb,hon⟩:=Region.waitsFor_spec h3
    have:o'=ot:=Option.some.inj (ho'.symm.trans hot)
    subst this
    have h2:=hall e he hb
    rw [hon,getD_both hun] at h2
    cases h2
   ·obtain ⟨u,hu,hu2⟩:=List.any_eq_true.1 h1
    simp only [Bool.and_eq_true,decide_eq_true_eq] at hu2
    have hut:=List.mem_range.1 hu
    obtain ⟨o',ho',e,he,hb,hon⟩:=Region.waitsFor_spec hu2.2
    have:o'=ot:=Option.some.inj (ho'.symm.trans hot)
    subst this
    have h2:=hall e he hb
    rw [hon,getD_both (inv.1.tail u hu2.1 (by omega))] at h2
    cases h2
theorem headQ_firstP {n i:Nat} {oi:Oper} {v:Value} {L:Array Bool->Act->Prop} (hi:ops[i]?=some oi) (hsel:∀ (j:Nat) (o:Oper) cs b,ops[j]?=some o->o.op≠.select cs b)
  {pre:List Nat} (hs:Ci6 md ops n pre=true) (hc:Bu7 md ops n pre=true) (hin:i<n) (hdone:∀ listed a,L listed a->∀ j∈Region.ready md ops listed,n<=j) :
  ∀ (f:Nat) (listed:Array Bool) (a:Act),(HeadInv md ops n listed/\∀ i∈pre,listed.getD i false=true) ->
   (∀ j oj,ops[j]?=some oj->j≠i->listed.getD j true=false->(∀ e∈oj.after,Region.binds md e=true->e.on≠i)->oi.apart ops oj=true) ->
   i∈Region.ready md ops listed->YieldsIn P ops C oi v a->Bd2 P md ops C n L f (listed.setIfInBounds i true) (a.put oi.dst v)->Bd2 P md ops C n L (f+1) listed a:=by
 intro f
 induction f with
 |zero =>
  intro listed a inv hfree hr hy H
  have hlt:∀ j∈Region.ready md ops listed,j<n:=fun j hj=>Nat.lt_of_not_le fun h=>absurd hj (Be7 hs hc (Nat.lt_of_le_of_lt h (by obtain ⟨_,o,ho,_⟩:=mem_ready.1 hj;exact (Array.getElem?_eq_some_iff.1 ho).1)) inv _ i rfl hin (mem_ready.1 hr).1 j h)
  refine ⟨fun h=>(by rw [h] at hr;cases hr),fun j hj=>⟨hlt j hj,?_⟩⟩
  by_cases hji:j=i
  ·subst hji;exact hy.qOp hi H
  ·exact absurd (hdone _ _ H j (ready_mono hj hji)) (Nat.not_le_of_lt (hlt j hj))
 |succ f ih =>
  intro listed a inv hfree hr hy H
  have hun:=(mem_ready.1 hr).1
  have hlt:∀ j∈Region.ready md ops listed,j<n:=fun j hj=>Nat.lt_of_not_le fun h=>absurd hj (Be7 hs hc (Nat.lt_of_le_of_lt h (by obtain ⟨_,o,ho,_⟩:=mem_ready.1 hj;exact (Array.getElem?_eq_some_iff.1 ho).1)) inv _ i rfl hin hun j h)
  refine ⟨fun h=>(by rw [h] at hr;cases hr),fun j hj=>⟨hlt j hj,?_⟩⟩
  by_cases hji:j=i
  ·subst hji;exact hy.qOp hi H
  ·have h1:=(H.2 j (ready_mono hj hji)).2
   obtain ⟨hjun,oj,hoj,hall⟩:=mem_ready.1 hj
   have hnot:∀ e∈oj.after,Region.binds md e=true->e.on≠i:=fun e he hb heq=>by
    have h2:=hall e he hb
    rw [heq,getD_both hun] at h2
    cases h2
   have h2:=qOp_put hoj (hfree j oj hoj hji hjun hnot) (fun cs b=>hsel i oi cs b hi) (fun cs b=>hsel j oj cs b hoj) hy h1
   have hfree':∀ k ok,ops[k]?=some ok->k≠i->(listed.setIfInBounds j true).getD k true=false->(∀ e∈ok.after,Region.binds md e=true->e.on≠i)->oi.apart ops ok=true:=fun k ok hk hki hn hno=>by
    refine hfree k ok hk hki ?_ hno
    by_cases hjk:j=k
    ·exact hjk▸hjun
    ·rwa [getD_set_ne true hjk] at hn
   refine qOp_mono (fun a' h3=>ih (listed.setIfInBounds j true) a' ⟨inv.1.set hj (hlt j hj),fun i hp=>getD_set_true (inv.2 i hp)⟩ hfree' (ready_mono hr (Ne.symm hji)) h3.1 ?_) h2
   rw [Array.setIfInBounds_comm _ _ hji]
   exact h3.2
def lexP (md:Region.Mode) (ops:Array Oper) (n:Nat) (goal:Array Bool):List Nat->Array Bool->Bool
 |[],listed=>decide (listed=goal) && (Region.ready md ops listed).all fun j=>decide (n<=j)
 |k::f,listed=>decide (k<n) && (Region.ready md ops listed).contains k && Region.free md ops listed k && lexP md ops n goal f (listed.setIfInBounds k true)
theorem headQ_lexP {n:Nat} {goal:Array Bool} {Lq:Act->Prop} {pre:List Nat} (hsel:Region.noSelect ops=true) (hs:Ci6 md ops n pre=true) (hc:Bu7 md ops n pre=true) :
  ∀ (ks:List Nat) (l:List Oper) (listed:Array Bool) (a:Act),(ks.map fun k=>ops[k]?)=l.map some->(HeadInv md ops n listed/\∀ i∈pre,listed.getD i false=true)->lexP md ops n goal ks listed=true->wpQuiet P ops C Lq l a ->
   Bd2 P md ops C n (fun listed' a'=>(listed'=goal/\∀ j∈Region.ready md ops listed',n<=j)/\Lq a') ks.length listed a:=by
 intro ks
 induction ks with
 |nil =>
  intro l listed a hl inv hB h
  obtain rfl:l=[]:=by simpa using hl.symm
  simp only [lexP,Bool.and_eq_true,decide_eq_true_eq,List.all_eq_true] at hB
  exact ⟨hB,h⟩
 |cons k ks ih =>
  intro l listed a hl inv hB h
  obtain ⟨o,l,rfl⟩:∃ o l',l=o::l':=by
   cases l with
   |nil=>simp at hl
   |cons o l'=>exact ⟨o,l',rfl⟩
  simp only [List.map_cons,List.cons.injEq] at hl
  obtain ⟨h0,hl⟩:=hl
  simp only [lexP,Bool.and_eq_true,decide_eq_true_eq] at hB
  obtain ⟨⟨⟨hkn,hr⟩,hf⟩,hB'⟩:=hB
  have hr':k∈Region.ready md ops listed:=by simpa using hr
  obtain ⟨v,hy,hK⟩:=yieldsIn_of_qOp (P:=P) (C:=C) h0 (K:=wpQuiet P ops C Lq l) (by unfold qOp;simp only [h0];exact h)
  exact headQ_firstP h0 (Region.noSelect_spec hsel) hs hc hkn (fun listed' a' hL=>hL.1.2) ks.length listed a inv (Region.free_spec h0 hf) hr' hy
   (ih l _ _ hl ⟨inv.1.set hr' hkn,fun i hp=>getD_set_true (inv.2 i hp)⟩ hB' hK)
def Br6 (md:Region.Mode) (ops:Array Oper) (n:Nat) (listed:Array Bool) (pre:List Nat):Bool :=
 decide (listed.size=ops.size) && ((List.range ops.size).all fun j=>!listed.getD j false || (match ops[j]? with|some oj=>oj.after.all fun e=>!Region.binds md e || listed.getD e.on false|none=>true)) &&
 ((List.range ops.size).all fun t=>decide (t<n) || !listed.getD t true) && pre.all fun i=>listed.getD i false
theorem closedB_inv {n:Nat} {listed:Array Bool} {pre:List Nat} (h:Br6 md ops n listed pre=true):HeadInv md ops n listed/\∀ i∈pre,listed.getD i false=true:=by
 simp only [Br6,Bool.and_eq_true,decide_eq_true_eq] at h
 obtain ⟨⟨⟨h1,h2⟩,h3⟩,h4⟩:=h
 refine ⟨⟨h1,fun j oj hj hl e he hb=>?_,fun t ht htl=>?_⟩,fun i hi=>List.all_eq_true.1 h4 i hi⟩
 ·have hjl:j<ops.size:=(Array.getElem?_eq_some_iff.1 hj).1
  have:=List.all_eq_true.1 h2 j (List.mem_range.2 hjl)
  rw [hl,hj] at this
  simp only [Bool.not_true,Bool.false_or,Array.all_eq_true_iff_forall_mem] at this
  have:=this e he
  rw [hb] at this
  simpa using this
 ·have:=List.all_eq_true.1 h3 t (List.mem_range.2 htl)
  simp only [Bool.or_eq_true,decide_eq_true_eq,Bool.not_eq_true'] at this
  rcases this with h|h
  ·omega
  ·exact h
def Bj8 (md:Region.Mode) (ops:Array Oper) (n:Nat) (pre:List Nat) (ks:List Nat) (listed goal:Array Bool):Bool :=
 Region.noSelect ops && Ci6 md ops n pre && Bu7 md ops n pre && Br6 md ops n listed pre && lexP md ops n goal ks listed
theorem any_tailP {Q:Exit->Act->World->Prop} {a:Act} {w:World} {listed:Array Bool} {f:Nat} (n:Nat) (pre ks:List Nat) (goal:Array Bool) (l:List Oper) (g:Nat) (hg:f=ks.length+g) (hB:Bj8 md ops n pre ks listed goal=true) (hl:(ks.map fun k=>ops[k]?)=l.map some) (hC:C w)
  (h:wpQuiet P ops C (fun a'=>∀ w',C w'->wpAny P md ops Q g goal a' w') l a):wpAny P md ops Q f listed a w:=by
 simp only [Bj8,Bool.and_eq_true] at hB
 obtain ⟨⟨⟨⟨hsel,hs⟩,hc⟩,hcl⟩,hlex⟩:=hB
 have H:=headQ_lexP (md:=md) (goal:=goal) hsel hs hc ks l listed a hl (closedB_inv hcl) hlex h
 rw [hg]
 exact Ao8 (Q':=Q) (g:=g) (fun listed a' w' hw' hL=>by
  rw [hL.1.1]
  exact hL.2 w' hw') _ _ _ _ hC H
theorem any_tailC {Q:Exit->Act->World->Prop} {a:Act} {w w0:World} {listed:Array Bool} {f:Nat} {l0:List Oper} (n:Nat) (pre ks:List Nat) (goal:Array Bool) (cut:List Oper->List Oper) (g:Nat) (hg:f=ks.length+g) (hB:Bj8 md l0.toArray n pre ks listed goal=true) (hl:(ks.map fun k=>l0.toArray[k]?)=(cut l0).map some) (hb:Below w0.heap.size w0 w)
  (h:wpQuiet P l0.toArray (fun w'=>∃ k:Ext w0,w'=k.w) (fun a'=>∀ w',(∃ k:Ext w0,w'=k.w)->wpAny P md l0.toArray Q g goal a' w') (cut l0) a):wpAny P md l0.toArray Q f listed a w :=
 any_tailP n pre ks goal (cut l0) g hg hB hl ⟨⟨w,hb⟩,rfl⟩ h
end
end Go.Proofs.YtkjpjegmanpbfaaGreatDoor.Eqt
namespace Go.Proofs.YtkjpjegmanpbfaaGreatDoor.Emu
open Go RowKit Com Rw Lns Scn
section
variable {Z Z1:Zn} {w w':World} {t x s hh:Nat} {S:Scr} {T:Ter} {P:Pt} {v:Value} {l:List Int} {sv:Sav} {rows cols:Nat}
theorem Cd5 (hb:Block w hh 100 (shA x sv)) (hro:∀ k:Eqt.Ext w,Calls Tryz.prog 43 #[.pointer (some ⟨x,0,none⟩)] k.w fun e w'=>e=.returned (.int .i64 rows)/\k.w=w') (hco:∀ k:Eqt.Ext w,Calls Tryz.prog 56 #[.pointer (some ⟨x,0,none⟩)] k.w fun e w'=>e=.returned (.int .i64 cols)/\k.w=w') (h1:1<=rows) (h5:rows<=512) (c1:1<=cols) (c5:cols<=512) :
  Calls Tryz.prog 38 #[.pointer (some ⟨hh,0,none⟩)] w fun e w'=>(∃ v,e=.returned v)/\∃ w1,Below w.heap.size w w1/\Only [hh] w1 w'/\Block w' hh 100 (shA x (Bv9 sv rows cols)):=by
 have hbk:=fun k:Eqt.Ext w=>Block.only hb (Only.of_below k.below []) (by simp)
 have x0:=fun k:Eqt.Ext w=>(hbk k).cell 0 (v:=.pointer (some ⟨x,0,none⟩)) rfl
 have x1:=fun k:Eqt.Ext w=>(hbk k).cell 1 (v:=.int .i64 sv.c.row) rfl
 have x2:=fun k:Eqt.Ext w=>(hbk k).cell 2 (v:=.int .i64 sv.c.col) rfl
 have hh1:=J0 (fun k:Eqt.Ext w=>Ag1 sv.c.row rows h1 h5 k.w)
 have hh2:=J0 (fun k:Eqt.Ext w=>Ag1 sv.c.col cols c1 c5 k.w)
 have hfin:Hid (∀ w1,Below w.heap.size w w1->w1.cell? ⟨hh,1,none⟩=some (.int .i64 sv.c.row)/\w1.cell? ⟨hh,2,none⟩=some (.int .i64 sv.c.col)/\w1.frozen? ⟨hh,1,none⟩=false/\w1.frozen? ⟨hh,2,none⟩=false/\Only [hh] w1 ((w1.setCell ⟨hh,1,none⟩ (.int .i64 (Aj3 sv.c.row rows))).setCell ⟨hh,2,none⟩ (.int .i64 (Aj3 sv.c.col cols)))/\Block ((w1.setCell ⟨hh,1,none⟩ (.int .i64 (Aj3 sv.c.row rows))).setCell ⟨hh,2,none⟩ (.int .i64 (Aj3 sv.c.col cols))) hh 100 (shA x (Bv9 sv rows cols))):=J0 fun w1 hb1=>by
  have h1:=Block.only hb (Only.of_below hb1 []) (by simp)
  exact ⟨h1.cell 1 rfl,h1.cell 2 rfl,h1.free 1,h1.free 2,(Only.setCell w1 ⟨hh,1,none⟩ _).trans (Only.setCell _ ⟨hh,2,none⟩ _),(h1.set 1 _).set 2 _⟩
 generalize shA x (Bv9 sv rows cols)=R at hfin |-
 generalize Aj3 sv.c.row rows=y1 at hh1 hfin
 generalize Aj3 sv.c.col cols=y2 at hh2 hfin
 generalize sv.c.row=r0 at *
 generalize sv.c.col=c0 at *
 replace hro:=J0 hro
 replace hco:=J0 hco
 clear hbk hb h1 h5 c1 c5
 go_enter Tryz.func38,Tryz.ntmps38
 go_wp2
 refine wp_region_any (by kernel_rfl) ?_
 change wpAny _ _ _ _ _ _ _ (World.drew _)
 refine wpAny_take (i:=1) (oi:=⟨some 3,_,_,_,_,_⟩) (v:=.pointer (some ⟨hh,0,none⟩)) rfl (by kernel_rfl) (by kernel_rfl) (by kernel_rfl) (fun _ _ _ h=>h) (.inl ⟨by rfl,by intro w;go_simp⟩) ?_
 refine Eqt.any_tailC (w0:=w) 26 [1] [0,2,3,4,5,6,7,8,9,10,11,12,13,14,15,16,17,18,19,20,21,22,23,24,25] #[true,true,true,true,true,true,true,true,true,true,true,true,true,true,true,true,true,true,true,true,true,true,true,true,true,true,false,false,false,false,false,false,false,false,false,false] (fun l=>l.take 1++(l.drop 2).take 24) 10 rfl (by kernel_rfl) (by kernel_rfl) (Aa4 (Below.refl _ _) 1) ?_
 simp only [List.take_succ_cons,List.take_zero,List.drop_succ_cons,List.drop_zero,List.cons_append,List.nil_append]
 simp only [Act.put,J1,J3,J2]
 repeat (go_big_quiet_step (first
  |(go_at_call 43;exact Eqt.q_ext_same (hro.out _))
  |(go_at_call 56;exact Eqt.q_ext_same (hco.out _))
  |(go_at_call 83;exact Eqt.q_ext_same (hh1.out _))
  |(go_at_call 83;exact Eqt.q_ext_same (hh2.out _))))
 refine wpQuiet_nil ?_
 intro w9 hw9
 obtain ⟨k9,rfl⟩:=hw9
 have hb9:=k9.below
 generalize k9.w=w9 at hb9 |-
 obtain ⟨d1,d2,f1,f2,ho,hB⟩:=hfin.out _ hb9
 refine wpAny_take (i:=26) (oi:=⟨some 28,_,_,_,_,_⟩) (v:=.pointer (some ⟨hh,0,none⟩)) rfl (by kernel_rfl) (by kernel_rfl) (by kernel_rfl) (fun _ _ _ h=>h) (.inl ⟨by rfl,by intro w;go_simp⟩) ?_
 refine wpAny_take (i:=27) (oi:=⟨some 29,_,_,_,_,_⟩) (v:=.pointer (some ⟨hh,1,none⟩)) rfl (by kernel_rfl) (by kernel_rfl) (by kernel_rfl) (fun _ _ _ h=>h) (.inl ⟨by rfl,by intro w;go_simp⟩) ?_
 refine wpAny_take (i:=28) (oi:=⟨some 30,_,_,_,_,_⟩) (v:=.pointer (some ⟨hh,1,none⟩)) rfl (by kernel_rfl) (by kernel_rfl) (by kernel_rfl) (fun _ _ _ h=>h) (.inl ⟨by rfl,by intro w;go_simp⟩) ?_
 refine wpAny_take (i:=29) (oi:=⟨some 31,_,_,_,_,_⟩) (v:=.pointer (some ⟨hh,1,none⟩)) rfl (by kernel_rfl) (by kernel_rfl) (by kernel_rfl) (fun _ _ _ h=>h) (.inl ⟨by rfl,by intro w;go_simp⟩) ?_
 refine wpAny_ready (rs:=[30]) (by kernel_rfl) (by simp) ?_
 refine AllReady.cons (o:=⟨none,.store _ _ _,_,_,_,_⟩) rfl (fun K hK=>?_) AllReady.nil
 go_simp
 refine hK _ _ ?_
 clear hK K
 refine wpAny_take (i:=31) (oi:=⟨some 32,_,_,_,_,_⟩) (v:=.pointer (some ⟨hh,0,none⟩)) rfl (by kernel_rfl) (by kernel_rfl) (by kernel_rfl) (fun _ _ _ h=>h) (.inl ⟨by rfl,by intro w;go_simp⟩) ?_
 refine wpAny_take (i:=32) (oi:=⟨some 33,_,_,_,_,_⟩) (v:=.pointer (some ⟨hh,1,none⟩)) rfl (by kernel_rfl) (by kernel_rfl) (by kernel_rfl) (fun _ _ _ h=>h) (.inl ⟨by rfl,by intro w;go_simp⟩) ?_
 refine wpAny_take (i:=33) (oi:=⟨some 34,_,_,_,_,_⟩) (v:=.pointer (some ⟨hh,1,none⟩)) rfl (by kernel_rfl) (by kernel_rfl) (by kernel_rfl) (fun _ _ _ h=>h) (.inl ⟨by rfl,by intro w;go_simp⟩) ?_
 refine wpAny_take (i:=34) (oi:=⟨some 35,_,_,_,_,_⟩) (v:=.pointer (some ⟨hh,2,none⟩)) rfl (by kernel_rfl) (by kernel_rfl) (by kernel_rfl) (fun _ _ _ h=>h) (.inl ⟨by rfl,by intro w;go_simp⟩) ?_
 refine wpAny_ready (rs:=[35]) (by kernel_rfl) (by simp) ?_
 refine AllReady.cons (o:=⟨none,.store _ _ _,_,_,_,_⟩) rfl (fun K hK=>?_) AllReady.nil
 go_simp
 refine hK _ _ ?_
 clear hK K
 refine wpAny_done (by kernel_rfl) ?_ _
 go_wp2
 go_end0
 exact ⟨⟨_,rfl⟩,_,hb9,ho,hB⟩
theorem TMx.savedMain (h:TMx Z w t T P) {sv:Sav} (ho:Only [P.hm] w w') (hb:Block w' P.hm 100 (shA P.xm sv)):TMx Z w' t { T with main:={ T.main with sv:=sv } } P/\Scn.Fr Z TT w w':=by
 have hf:Scn.Fr Z [100] w w':=Scn.Fr.of_only ho fun k hk _=>by
  obtain rfl:k=P.hm:=by simpa using hk
  exact ⟨h.zm,_,by simp,Block.typ h.main⟩
 have keep:∀ {k:Nat} {ty:TypeId},Typ w k ty->ty≠100->w'.heap[k]?=w.heap[k]?:=fun hk hty=>ho.block _ (Am6 hk) (Ad6 hk (Block.typ h.main) hty)
 have same:∀ {k:Nat} {ty:TypeId} {cs:Array Value},Block w k ty cs->ty≠100->Block w' k ty cs:=fun hb hty=>(keep (Block.typ hb) hty).trans hb
 have hs:=h.scr.fr hf (by unfold NoPT;decide)
 refine ⟨⟨same h.blk (by decide),hb,fun o hoo=>⟨Block.only (h.aside o hoo).1 ho (by simpa using (h.aside o hoo).2.1),(h.aside o hoo).2⟩,?_,same h.tabs (by decide),
  Ad4 h.jr (fun g hg=>keep (Ab8 h.jr g hg) (by decide)),Af1 h.rp (fun g hg=>keep (Af6 h.rp g hg) (by decide)),h.zt,h.zm,h.zb,h.zj,h.zr,fun k hk=>h.up k (Nat.le_trans hf.size hk),h.low,h.tbl.fr hf h.low⟩,hf.mono (by simp [TT])⟩
 unfold Scrs at hs |-
 rcases hoo:T.other with _|o
 ·rw [hoo] at hs
  simpa [Ter.vis,Ter.sh,Sh.scr,hoo] using hs
 ·rw [hoo] at hs
  simpa [Ter.vis,Ter.mscr,Ter.sh,Sh.scr,hoo] using hs
end
section
variable {Z Z1:Zn} {w w':World} {t x s hh:Nat} {S:Scr} {T:Ter} {P:Pt} {v:Value} {l:List Int} {sv:Sav} {rows cols:Nat}
theorem TMx.mainSc (h:TMx Z w t T P):SC Z w P.xm P.s T.mscr:=by
 have hs:=h.scr
 unfold Scrs at hs
 rcases hoo:T.other with _|o
 ·rw [hoo] at hs
  have hv:T.vis=T.mscr:=by unfold Ter.vis Ter.mscr Ter.sh;rw [hoo];rfl
  rw [hv] at hs
  exact hs
 ·rw [hoo] at hs
  exact hs.swap.sc1
theorem TMx.savedOther (h:TMx Z w t T P) {o:Sh} (hoo:T.other=some o) {sv:Sav} (ho:Only [P.ho] w w') (hb:Block w' P.ho 100 (shA P.xo sv)):TMx Z w' t { T with other:=some { o with sv:=sv } } P/\Scn.Fr Z TT w w':=by
 have hx:P.x T.other=P.xo:=by rw [hoo];rfl
 have hp:P.h T.other=P.ho:=by rw [hoo];rfl
 have e:T.putSv sv={ T with other:=some { o with sv:=sv } }:=by unfold Ter.putSv;rw [hoo]
 rw [<- e]
 exact h.saved (sv:=sv) (by rw [hp];exact ho) (by rw [hp,hx];exact hb)
theorem Bo1 (h:TMx Z w t T P) (hF:Fit T.mscr):Calls Tryz.prog 38 #[.pointer (some ⟨P.hm,0,none⟩)] w fun e w'=>(∃ v,e=.returned v)/\TMx Z w' t { T with main:=T.main.hold } P/\Scn.Fr Z TT w w' :=
 (Cd5 h.main (fun k=>Af0 (h.mainSc.below k.below) hF.len) (fun k=>Af3 (h.mainSc.below k.below) hF.len) hF.len hF.len5 hF.c1 hF.c5).mono fun e w' ⟨he,w1,hb,ho,hB⟩=>by
  obtain ⟨q1,q2⟩:=(h.below hb).savedMain ho hB
  exact ⟨he,q1,(Aa8 hb).trans q2⟩
theorem hold_other (h:TMx Z w t T P) {o:Sh} (hoo:T.other=some o) (hF:Fit T.vis):Calls Tryz.prog 38 #[.pointer (some ⟨P.ho,0,none⟩)] w fun e w'=>(∃ v,e=.returned v)/\TMx Z w' t { T with other:=some o.hold } P/\Scn.Fr Z TT w w':=by
 obtain ⟨Z1,hf⟩:=h.focus
 have hsc:=hf.sc
 have hv:T.vis=o.scr T.nx T.most false T.R:=by unfold Ter.vis Ter.sh;rw [hoo];rfl
 have hx:P.x T.other=P.xo:=by rw [hoo];rfl
 rw [hx] at hsc
 have hl:o.L.length=T.vis.L.length:=by rw [hv];rfl
 have hc:o.cols=T.vis.cols:=by rw [hv];rfl
 refine (Cd5 (h.aside o hoo).1 (rows:=o.L.length) (cols:=o.cols) (fun k=>by rw [hl];exact Af0 (hsc.below k.below) hF.len) (fun k=>by rw [hc];exact Af3 (hsc.below k.below) hF.len) (by rw [hl];exact hF.len) (by rw [hl];exact hF.len5) (by rw [hc];exact hF.c1) (by rw [hc];exact hF.c5)).mono fun e w' ⟨he,w1,hb,ho,hB⟩=>?_
 obtain ⟨q1,q2⟩:=(h.below hb).savedOther hoo ho hB
 exact ⟨he,q1,(Aa8 hb).trans q2⟩
end
section
variable {w w':World}
def Cl4 (most:Nat):Ter:=⟨Mds.none0,cur0,pen0,1,most,[],⟨0,0,0,[],sav0⟩,none,0,fun _=>false,0,ev0,[],[]⟩
def Be9 (s:Nat):Array Value:=#[.bool false,.bool false,.bool false,.bool false,.bool false,.bool false,.bool false,.bool false,.int .i64 0,.int .i64 0,.bool false,.int .u32 0,.int .u32 0,.int .u16 0,.int .u8 0,.int .u8 0,.int .i64 0,.pointer (some ⟨s,0,none⟩),.pointer none,.pointer none,.pointer none,.int .u64 0,
 .int .u8 0,.int .u64 0,.int .i64 0,.int .i64 0,.bool false,.int .i32 0,.bool false,.bool false,.bool false,.bool false,.slice none 0 0,.slice none 0 0]
theorem By9 (s most:Nat):Be9 s=terB (Cl4 most) s (.pointer none) (.pointer none) (.pointer none) (.slice none 0 0) (.slice none 0 0):=by kernel_rfl
def Newly (w:World) (T:Ter) (e:Ending) (w':World):Prop:=∃ d t,e=.returned (.tuple #[.pointer (some ⟨d,0,none⟩),.int .i64 0])/\w.heap.size<=d/\Block w' d 30 #[.pointer (some ⟨t,0,none⟩)]/\TM (fun k=>w.heap.size<=k) w' t T/\Below w.heap.size w w'
theorem sx_zero {B s nx most:Nat} {sv:Value} {R:List En} (h:SX B w s nx most sv R):SX 0 w s nx most sv R:=by
 obtain ⟨⟨o,P,h0,hR⟩,hg⟩:=h
 refine ⟨⟨o,P,⟨h0.blk,⟨h0.own.1,?_⟩,h0.le,h0.old,h0.olt,h0.most,h0.pos,h0.small,Nat.zero_le _⟩,hR⟩,fun e he=>?_⟩
 ·rcases h0.own.2 with h2|⟨g,cap,cur,e,_,r⟩
  ·exact .inl h2
  ·exact .inr ⟨g,cap,cur,e,Nat.zero_le _,r⟩
 ·obtain ⟨g1,_,_,g4⟩:=hg e he
  exact ⟨g1,Nat.zero_le _,Nat.zero_le _,g4⟩
theorem tnew_yes (hT:Tbl w) (rows cols most:Nat) (hr1:1<=rows) (hr5:rows<=512) (hc1:1<=cols) (hc5:cols<=512) (hm:most<=10000):Calls Tryz.prog 18 #[.int .i64 rows,.int .i64 cols,.int .i64 most] w (Newly w (newT rows cols most)):=by
 have hln:=J0 (new_yes most hm w)
 have hbg:Hid (∀ w1,SX w.heap.size w1 w.heap.size 1 most (.slice none 0 0) []->Below w.heap.size w w1->Calls Tryz.prog 31 #[.pointer (some ⟨w1.heap.size,0,none⟩),.int .i64 rows,.int .i64 cols] (w1.alloc (.cells (Be9 w.heap.size) 88)) fun e w'=>e=.returned (.int .i64 0)/\TM (fun k=>w.heap.size<=k) w' w1.heap.size (newT rows cols most)/\Below w.heap.size w w'):=J0 fun w1 hs hb=>by
  have hba:=Aa1 w1 (.cells (Be9 w.heap.size) 88)
  have hb2:=Aa0 hb hba
  have hbl:=Block.made w1 88 (Be9 w.heap.size)
  rw [By9 w.heap.size most] at hbl
  have hsz:=hb.size
  have h6:=hT.1
  have hbare:Bare (fun k=>w.heap.size<=k) (w1.alloc (.cells (Be9 w.heap.size) 88)) w1.heap.size (Cl4 most) w.heap.size (.slice none 0 0) (.slice none 0 0) (.pointer none) (.pointer none) (.pointer none) :=
   ⟨by rw [By9 w.heap.size most];exact hbl,World.ownsRow_nil _ _ _ _,Kys.Row.nil _ _ _,hsz,fun g hg=>(by cases hg),fun g hg=>(by cases hg),fun k hk=>Nat.le_trans hb2.size hk,fun k hk hz=>(by omega),hT.below hb2⟩
  have hsto:Sto (fun k=>w.heap.size<=k) (w1.alloc (.cells (Be9 w.heap.size) 88)) w.heap.size 1 most (.slice none 0 0) [] :=
   ⟨(sx_zero hs).below hba,⟨J5 _,fun g hg=>(by cases hg),fun e he=>(by cases he),fun k hk=>Nat.le_trans hb2.size hk⟩,by simp,by simp⟩
  refine (Bm4 (T:=Cl4 most) hbare hsto rows cols hr1 hr5 hc1 hc5 (by show 1+512<=1000000;omega)).mono fun e w' ⟨he,h1,hf⟩=>⟨he,h1,?_⟩
  exact ⟨hf.os.trans hb2.os,hf.tape.trans hb2.tape,hf.output.trans hb2.output,Nat.le_trans hb2.size hf.size,fun k hk=>(hf.block k (Nat.lt_of_lt_of_le hk hb2.size) (.inl (by omega))).trans (hb2.block k hk)⟩
 simp only [Be9] at hbg
 generalize newT rows cols most=T at hbg |-
 clear hT
 go_enter Tryz.func18,Tryz.ntmps18
 go_wp2_with (first
  |(go_at_call 30;(with_reducible refine (hln.out).mono ?_);rintro e w1 ⟨rfl,hs,hb1⟩)
  |(go_at_call 31;(with_reducible refine (hbg.out _ hs hb1).mono ?_);rintro e w3 ⟨rfl,h3,hb3⟩))
 have hb4:=Aa1 w3 (.cells #[.pointer (some ⟨w1.heap.size,0,none⟩)] 30)
 go_ret2
 exact ⟨_,_,rfl,hb3.size,Block.made w3 30 #[.pointer (some ⟨w1.heap.size,0,none⟩)],h3.below hb4,Aa0 hb3 hb4⟩
theorem begin_no {t s:Nat} (rows cols:Int) (c17:w.cell? ⟨t,17,none⟩=some (.pointer (some ⟨s,0,none⟩))) (hno:¬ (1<=rows/\rows<=512)\/¬ (1<=cols/\cols<=512)):Calls Tryz.prog 31 #[.pointer (some ⟨t,0,none⟩),.int .i64 rows,.int .i64 cols] w fun e w'=>e=.returned (.int .i64 2)/\w=w':=by
 have hn:=J0 (snew_no rows cols (some ⟨s,0,none⟩) true w (hno.imp id .inl))
 clear hno
 go_enter Tryz.func31,Tryz.ntmps31
 go_wp2_with ((go_at_call 49;(with_reducible refine (hn.out).mono ?_);rintro e w1 ⟨rfl,rfl⟩))
 go_ret
 exact ⟨rfl,rfl⟩
theorem tnew_back (rows cols most:Int) (h:most<0\/10000<most) (w:World):Calls Tryz.prog 18 #[.int .i64 rows,.int .i64 cols,.int .i64 most] w fun e w'=>e=.returned (.tuple #[.pointer none,.int .i64 2])/\Below w.heap.size w w':=by
 have hn:=J0 (Lns.new_no most h w)
 go_enter Tryz.func18,Tryz.ntmps18
 go_wp2_with ((go_at_call 30;(with_reducible refine (hn.out).mono ?_);rintro e w1 ⟨rfl,rfl⟩))
 go_ret2
 exact ⟨rfl,Below.refl _ _⟩
theorem tnew_size (rows cols:Int) (most:Nat) (hm:most<=10000) (hno:¬ (1<=rows/\rows<=512)\/¬ (1<=cols/\cols<=512)) (w:World):Calls Tryz.prog 18 #[.int .i64 rows,.int .i64 cols,.int .i64 most] w fun e w'=>e=.returned (.tuple #[.pointer none,.int .i64 2])/\Below w.heap.size w w':=by
 have hln:=J0 (new_yes most hm w)
 have hbg:Hid (∀ w1:World,Calls Tryz.prog 31 #[.pointer (some ⟨w1.heap.size,0,none⟩),.int .i64 rows,.int .i64 cols] (w1.alloc (.cells (Be9 w.heap.size) 88)) fun e w'=>e=.returned (.int .i64 2)/\w1.alloc (.cells (Be9 w.heap.size) 88)=w'):=J0 fun w1 =>
  begin_no rows cols ((Block.made w1 88 (Be9 w.heap.size)).cell 17 rfl) hno
 simp only [Be9] at hbg
 clear hno
 go_enter Tryz.func18,Tryz.ntmps18
 go_wp2_with (first
  |(go_at_call 30;(with_reducible refine (hln.out).mono ?_);rintro e w1 ⟨rfl,_,hb1⟩)
  |(go_at_call 31;(with_reducible refine (hbg.out _).mono ?_);rintro e w3 ⟨rfl,rfl⟩))
 go_ret2
 exact ⟨rfl,Aa0 hb1 (Aa1 w1 _)⟩
end
