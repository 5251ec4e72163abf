/- Part 17 of the proof that the card of EmuAside holds. -/
import Derived.Test.YtkjpjegmanpbfaaGreatDoorPA16
import Derived.Test.YtkjpjegmanpbfaaGreatDoorProg
import Derived.Maps.Own
import Derived.DeepKeys4
import Derived.Carry
import Derived.Orders
import Derived.RegionTactic
import Derived.Test.YtkjpjegmanpbfaaGreatDoorPA05
set_option maxHeartbeats 16000000
set_option maxRecDepth 100000
namespace Go.Proofs.YtkjpjegmanpbfaaGreatDoor.Tbs
open Go RowKit Com
theorem storingT {w:World} {d n:Nat} {f:Nat->Bool} (h:TabsIn w d n f) (g:Nat->Bool):∃ w',(storeCells ⟨d,1,none⟩ (wsA g).toList).run Tryz.prog w=.ok () w'/\TabsIn w' d n g/\Only [d] w w':=by
 have hl:(wsA g).toList.length=8:=by rw [Array.length_toList,Ai8]
 have hz:(tabL n f).toArray.size=9:=by simp [tabL,Az7]
 have hrun:=run_storeCells_at Tryz.prog d 1 147 (wsA g).toList 0 (tabL n f).toArray w h (by rw [hl,hz];omega) (fun x hx=>(Array.all_eq_true_iff_forall_mem.1 (Bf1 g)) x (by simpa using hx))
 refine ⟨_,hrun,?_,Ac4 w d _⟩
 have:=setRow_heap w d (tabL n f).toArray ((tabL n f).toArray.toList.take (1+0)++((wsA g).toList++(tabL n f).toArray.toList.drop (1+0+(wsA g).toList.length))).toArray 147 _ h
 have e:=Bh2 n f g
 rw [Ai8] at e
 rw [hl] at this |-
 rw [List.append_assoc]
 rw [e] at this |-
 exact this
theorem TabsIn.size {w:World} {d n m:Nat} {f:Nat->Bool} (h:TabsIn w d n f):TabsIn (w.setCell ⟨d,0,none⟩ (.int .i64 m)) d m f:=by
 have:=Block.set h 0 (.int .i64 m)
 rw [J1] at this
 exact this
def resizeF (n m:Nat) (f:Nat->Bool):Nat->Bool:=orF (inF f 0 m) (freshF n m)
theorem resize_any {w:World} {d n:Nat} {f:Nat->Bool} (h:TabsIn w d n f) (hn:1<=n) (hn2:n<=512) (m:Nat) (hm:1<=m) (hm2:m<=512):Calls Tryz.prog 39 #[.pointer (some ⟨d,0,none⟩),.int .i64 m] w (Bt8 w d m (resizeF n m f) 0):=by
 have hC:=J0 (Au8 w h)
 have hn0:((n:Int) == 0)=false:=by simp;omega
 have hM:=J0 (Az1 m)
 rw [Bk2 (by omega)] at hM
 have hc:=h.nine
 have hbw:=J0 (fun w' hb=>(h.below hb:TabsIn w' d n f))
 have hw:Hid (∀ w,Calls Tryz.prog 86 #[.agg #[.int .u64 (wd f 0),.int .u64 (wd f 1),.int .u64 (wd f 2),.int .u64 (wd f 3),.int .u64 (wd f 4),.int .u64 (wd f 5),.int .u64 (wd f 6),.int .u64 (wd f 7)],.int .i64 0,.int .i64 m] w (Ret8 w (inF f 0 m))):=J0 fun w=>by
  have:=Ar9 f 0 m (by omega) (by omega) w
  rwa [Cm2] at this
 have hf:=J0 (Av5 n m (by omega) (by omega))
 have hwi:=J0 (with_any (inF f 0 m) (freshF n m))
 have hsto:=J0 (fun w (h:TabsIn w d n f)=>storingT h (resizeF n m f))
 have hs8:=Ai8 (resizeF n m f)
 have hrf:orF (inF f 0 m) (freshF n m)=resizeF n m f:=rfl
 rw [hrf] at hwi
 generalize resizeF n m f=g3 at hwi hsto hs8 |-
 generalize inF f 0 m=g1 at hw hwi
 generalize freshF n m=g2 at hf hwi
 have hdw:=J0 (Aa4 (Below.refl w.heap.size w) 1)
 clear h hrf
 go_enter Tryz.func39,Tryz.ntmps39
 go_wp2_with (first
  |(go_at_call 84;(with_reducible refine (hC.out).mono ?_);rintro e w' ⟨rfl,rfl⟩)
  |(go_at_call 85;(with_reducible refine (hM.out _).mono ?_);rintro e w' ⟨rfl,rfl⟩))
 go_region_law (first
  |(go_simp;go_at_call 86;(with_reducible refine (hw.out _).mono ?_);rintro e w1 ⟨rfl,hb1'⟩;have hb1:Below w.heap.size w w1:=(by first|exact hb1'|exact Aa0 hdw.out hb1');have hc1:=(hbw.out _ hb1).cols;replace hb1:=J0 hb1)
  |(go_simp;go_at_call 88;(with_reducible refine (hf.out _).mono ?_);rintro e w2 ⟨rfl,hb2⟩)
  |(go_simp;go_at_call 87;(with_reducible refine (hwi.out _).mono ?_);rintro e w3 ⟨rfl,hb3⟩;have hb4:=J0 (Aa0 (Aa0 hb1.out hb2) hb3);obtain ⟨w4,hst4,hT4,ho4⟩:=hsto.out w3 (hbw.out _ hb4.out);replace hT4:=J0 hT4;replace ho4:=J0 ho4))
 all_goals
  have hc4:=hT4.out.cols
  have hf4:=hT4.out.free 0
  have hT5:=J0 (hT4.out.size (m:=m))
  clear hst4 hc hb1' hc1 hb2 hb3
  go_wp2
  go_ret
  exact ⟨rfl,hT5.out,((Only.of_below hb4.out [d]).trans ho4.out).trans (Only.setCell w4 ⟨d,0,none⟩ _)⟩
end Go.Proofs.YtkjpjegmanpbfaaGreatDoor.Tbs
namespace Go.Proofs.YtkjpjegmanpbfaaGreatDoor.Mds
structure Md where
 a0:Bool
 a1:Bool
 a2:Bool
 a3:Bool
 a4:Bool
 a5:Bool
 a6:Bool
 a7:Bool
def Md.get (m:Md):Nat->Bool
 |0=>m.a0
 |1=>m.a1
 |2=>m.a2
 |3=>m.a3
 |4=>m.a4
 |5=>m.a5
 |6=>m.a6
 |7=>m.a7
 |_=>false
def Md.set (m:Md) (k:Nat) (b:Bool):Md :=
 match k with
 |0=>{ m with a0:=b }
 |1=>{ m with a1:=b }
 |2=>{ m with a2:=b }
 |3=>{ m with a3:=b }
 |4=>{ m with a4:=b }
 |5=>{ m with a5:=b }
 |6=>{ m with a6:=b }
 |7=>{ m with a7:=b }
 |_=>m
def spot (p:Bool) (n:Int):Nat :=
 if p then
  if n=1 then 2 else if n=6 then 3 else if n=7 then 4 else if n=25 then 5 else if n=47 then 6 else if n=1047 then 6 else if n=1049 then 6 else if n=2004 then 7 else 8
 else if n=4 then 0 else if n=20 then 1 else 8
def pow:Nat->Int
 |0=>1
 |1=>2
 |2=>4
 |3=>8
 |4=>16
 |5=>32
 |6=>64
 |7=>128
 |_=>0
def one (b:Bool) (v:Int):Int:=if b then v else 0
def Md.bits (m:Md):Int:=one m.a0 1+one m.a1 2+one m.a2 4+one m.a3 8+one m.a4 16+one m.a5 32+one m.a6 64+one m.a7 128
def start:Md:=⟨false,false,false,false,true,true,false,false⟩
def none0:Md:=⟨false,false,false,false,false,false,false,false⟩
def Md.put (m:Md) (p:Bool) (n:Int) (on:Bool):Md:=m.set (spot p n) on
def Md.has (m:Md) (p:Bool) (n:Int):Bool:=m.get (spot p n)
def known (p:Bool) (n:Int):Bool:=decide (spot p n<8)
theorem spot_le (p:Bool) (n:Int):spot p n<=8:=by
 unfold spot
 repeat' split
 all_goals omega
theorem small {k:Nat} (h:k<=8):k=0\/k=1\/k=2\/k=3\/k=4\/k=5\/k=6\/k=7\/k=8:=by omega
def Md.same (m x:Md):Bool:=m.a0 == x.a0 && m.a1 == x.a1 && m.a2 == x.a2 && m.a3 == x.a3 && m.a4 == x.a4 && m.a5 == x.a5 && m.a6 == x.a6 && m.a7 == x.a7
def turn (m:Md) (k:Nat) (on:Bool):Int:=if m.get k && !on then m.bits - pow k else if !m.get k && on then m.bits+pow k else m.bits
end Go.Proofs.YtkjpjegmanpbfaaGreatDoor.Mds
namespace Go.Proofs.YtkjpjegmanpbfaaGreatDoor.Mds
open Go RowKit Com
open Go.Maps (Keyed)
open Go.ChangeMaps (setBlock heap_setBlock_same heap_setBlock_other)
theorem laidOut:laidOutB Tryz.prog=true:=by kernel_rfl
theorem rowK:237<Tryz.prog.types.size:=of_decide_eq_true (by kernel_rfl)
theorem wideK:(match Tryz.prog.underlying 237 with|some (.array _ _)|some (.struct _)=>true|_=>false)=true:=by kernel_rfl
theorem keyAtK:Tryz.prog.keyTypeAt 2 237=true:=by kernel_rfl
theorem lawK:Keyed Tryz.prog 237:=Keyed.of_law (deep_law_laid laidOut (m:=2) (by omega) rowK keyAtK wideK)
theorem keyK:Tryz.prog.keyType 237=true:=by kernel_rfl
theorem cK:Tryz.prog.cellsOf 237=2:=by kernel_rfl
theorem cB:Tryz.prog.cellsOf 4=1:=by kernel_rfl
theorem cI:Tryz.prog.cellsOf 3=1:=by kernel_rfl
def kv (p:Bool) (n:Int):Value:=.agg #[.bool p,.int .i64 n]
theorem Cj7 {p q:Bool} {n k:Int} (h:kv p n=kv q k):p=q/\n=k:=by
 unfold kv at h
 simpa using h
theorem key_lits (p:Bool) {n:Int} (hw:(Lit.int .i64 n).wf=true) (D:Nat):Tryz.prog.keyLits (D+1+1) 237 [.bool p,.int .i64 n]=some [.bool p,.int .i64 n]:=by
 simp [Program.keyLits,Tryz.underlying237,Tryz.underlying4,Tryz.underlying3,hw,cK,cB,cI]
theorem key_formed (p:Bool) (n:Int):Value.formed Tryz.prog 237 (kv p n)=true:=by
 simp [Value.formed,kv,Tryz.underlying237,cK]
theorem Ce0 (p:Bool) {n:Int} (hw:(Lit.int .i64 n).wf=true):∃ l,keyOf Tryz.prog 237 (kv p n)=some l:=by
 obtain ⟨D,hD⟩:∃ D,Tryz.prog.types.size+1=D+1+1:=⟨Tryz.prog.types.size - 1,by have:=rowK;omega⟩
 have hf:=key_formed p n
 have hl:=key_lits p hw D
 rw [<- hD] at hl
 refine ⟨.string (keyBytes [.bool p,.int .i64 n]),?_⟩
 unfold keyOf
 rw [Tryz.underlying237]
 dsimp only
 rw [keyK,hf,if_pos (by rfl)]
 have e:(kv p n).cells.toList=[.bool p,.int .i64 n]:=rfl
 rw [e,hl]
 rfl
structure En where
 p:Bool
 n:Int
 f:Nat
def ents:Nat->List En->List MapEntry
 |_,[]=>[]
 |i,e::r=>⟨kv e.p e.n,.func (.func e.f) #[] #[],i⟩::ents (i+1) r
theorem ents_snoc (i:Nat) (l:List En) (e:En):ents i (l++[e])=ents i l++[⟨kv e.p e.n,.func (.func e.f) #[] #[],i+l.length⟩]:=by
 induction l generalizing i with
 |nil=>rfl
 |cons x r ih =>
  simp only [List.cons_append,ents,ih,List.length_cons]
  rw [Nat.add_right_comm,Nat.add_assoc]
theorem Bi7 {i:Nat} {l:List En} {y:MapEntry} (h:y∈ents i l):∃ e∈l,y.key=kv e.p e.n/\y.val=.func (.func e.f) #[] #[]:=by
 induction l generalizing i with
 |nil=>simp [ents] at h
 |cons x r ih =>
  rcases List.mem_cons.1 h with rfl|h
  ·exact ⟨x,List.mem_cons_self,rfl,rfl⟩
  ·obtain ⟨e,he,h2⟩:=ih h
   exact ⟨e,List.mem_cons_of_mem _ he,h2⟩
theorem mem_ents {i:Nat} {l:List En} {e:En} (h:e∈l):∃ y∈ents i l,y.key=kv e.p e.n:=by
 induction l generalizing i with
 |nil=>simp at h
 |cons x r ih =>
  rcases List.mem_cons.1 h with rfl|h
  ·exact ⟨_,List.mem_cons_self,rfl⟩
  ·obtain ⟨y,hy,h2⟩:=ih (i:=i+1) h
   exact ⟨y,List.mem_cons_of_mem _ hy,h2⟩
def Mp (w:World) (b:Nat) (l:List En):Prop:=w.heap[b]?=some (.map (ents 0 l).toArray l.length)
def Fine (l:List En):Prop:=∀ e∈l,(Lit.int .i64 e.n).wf=true
theorem Mp.made (w:World):Mp (w.alloc (.map #[] 0)) w.heap.size []:=heap_alloc_new w _
theorem Ce1 {l:List En} (hl:Fine l):∀ y∈(ents 0 l).toArray.toList,∃ k,keyOf Tryz.prog 237 y.key=some k:=by
 intro y hy
 obtain ⟨e,he,hk,-⟩:=Bi7 (by simpa using hy)
 rw [hk]
 exact Ce0 e.p (hl e he)
theorem put_new {w:World} {b:Nat} {l:List En} (h:Mp w b l) (hl:Fine l) (p:Bool) (n:Int) (hw:(Lit.int .i64 n).wf=true) (f:Nat) (hne:∀ e∈l,¬ (e.p=p/\e.n=n)) :
  ∃ w',(Instr.mapUpdate 234 (.map (some b)) (kv p n) (.func (.func f) #[] #[])).run Tryz.prog w=.ok () w'/\Mp w' b (l++[⟨p,n,f⟩])/\Only [b] w w':=by
 have hb:w.heap[b]?=some (.map (ents 0 l).toArray l.length):=h
 obtain ⟨k,hk⟩:=Ce0 p hw
 refine ⟨setBlock w b (.map ((ents 0 l).toArray.push ⟨kv p n,.func (.func f) #[] #[],l.length⟩) (l.length+1)),?_,?_,?_⟩
 ·rcases lawK.find w hk (ents 0 l).toArray.toList (Ce1 hl) with ⟨h1,-⟩|⟨j,e0,h1,h2,h3⟩
  ·have h1':(Instr.findKey 237 (kv p n) (ents 0 l)).run Tryz.prog w=.ok none w:=by simpa using h1
   simp [Instr.mapUpdate,run_underlying Tryz.underlying234,MapKept.run_getObj_map hb,lawK.check w false hk,h1',MapKept.run_setObj_map _ hb,Result.andThen,setBlock]
  ·exfalso
   obtain ⟨e,he,hke,-⟩:=Bi7 (by simpa using List.mem_of_getElem? h2)
   obtain ⟨q1,q2⟩:=Cj7 (hke.symm.trans h3)
   exact hne e he ⟨q1,q2⟩
 ·have:=heap_setBlock_same hb (.map ((ents 0 l).toArray.push ⟨kv p n,.func (.func f) #[] #[],l.length⟩) (l.length+1))
  unfold Mp
  rw [this,ents_snoc]
  simp
 ·exact ⟨rfl,rfl,rfl,by simp [setBlock],fun i _ hi=>heap_setBlock_other hb _ (by simpa using hi)⟩
theorem Bk0 {w:World} {b:Nat} {l:List En} (h:Mp w b l) (hl:Fine l) (p:Bool) {n:Int} (hw:(Lit.int .i64 n).wf=true) :
  ((Instr.lookup 234 (.map (some b)) (kv p n) true).run Tryz.prog w=.ok (.tuple #[.nilFunc,.bool false]) w/\∀ e∈l,¬ (e.p=p/\e.n=n)) \/
  ∃ e∈l,e.p=p/\e.n=n/\(Instr.lookup 234 (.map (some b)) (kv p n) true).run Tryz.prog w=.ok (.tuple #[.func (.func e.f) #[] #[],.bool true]) w:=by
 have hb:w.heap[b]?=some (.map (ents 0 l).toArray l.length):=h
 obtain ⟨k,hk⟩:=Ce0 p hw
 have hz:(zeroValue 232).run Tryz.prog w=.ok .nilFunc w:=by exact Tryz.zeroValue232 w
 rcases lawK.find w hk (ents 0 l).toArray.toList (Ce1 hl) with ⟨h1,h2⟩|⟨j,e0,h1,h2,h3⟩
 ·have h1':(Instr.findKey 237 (kv p n) (ents 0 l)).run Tryz.prog w=.ok none w:=by simpa using h1
  refine .inl ⟨by simp [Instr.lookup,run_underlying Tryz.underlying234,MapKept.run_getObj_map hb,lawK.check w _ hk,h1',hz,Result.andThen],?_⟩
  rintro e he ⟨rfl,rfl⟩
  obtain ⟨y,hy,hky⟩:=mem_ents (i:=0) he
  exact h2 y (by simpa using hy) hky
 ·have h1':(Instr.findKey 237 (kv p n) (ents 0 l)).run Tryz.prog w=.ok (some (j,e0.val)) w:=by simpa using h1
  obtain ⟨e,he,hke,hv⟩:=Bi7 (by simpa using List.mem_of_getElem? h2)
  obtain ⟨q1,q2⟩:=Cj7 (hke.symm.trans h3)
  refine .inr ⟨e,he,q1,q2,?_⟩
  rw [<- hv]
  simp [Instr.lookup,run_underlying Tryz.underlying234,MapKept.run_getObj_map hb,lawK.check w _ hk,h1',Result.andThen]
end Go.Proofs.YtkjpjegmanpbfaaGreatDoor.Mds
namespace Go.Proofs.YtkjpjegmanpbfaaGreatDoor.Mds
open Go RowKit Com
theorem Bn7 {l:Array Bool} {i:Nat} (h:i<l.size) (c d:Bool):l.getD i c=l.getD i d:=by
 simp [Array.getD,h]
theorem wpOp_insert {ops:Array Oper} {Q:Exit->Act->World->Prop} {i:Nat} {o:Oper} {a:Act} {w w':World} {K:Act->World->Prop} (ho:ops[i]?=some o) (hg:o.guard=none) (hd:o.dst=none) {T:TypeId} {m k v:Operand} (hop:o.op=.insert T m k v)
  (hrun:(Instr.mapUpdate T (a.eval m) (a.eval k) (a.eval v)).run Tryz.prog w=.ok () w') (hK:K a w'):wpOp Tryz.prog ops Q i K a w:=by
 unfold wpOp
 simp only [ho]
 rw [if_pos (by simp [Region.wanted,hg])]
 left
 unfold Oper.wp
 simp [execOp,hop,hrun,Result.andThen]
 show K (a.put o.dst undef) w'
 rw [hd]
 exact hK
theorem Bt9 {xs:Array Edge} {n:Nat} {all:List Nat} {tail:Nat->Bool} (h:(xs.all fun e=>decide (e.on<n) && !all.contains e.on && !tail e.on)=true):∀ e∈xs,e.on<n/\e.on∉all/\tail e.on=false:=by
 intro e he
 have:=Array.all_eq_true_iff_forall_mem.1 h e he
 simpa [and_assoc] using this
theorem Bz1 {xs:Array Edge} {md:Region.Mode} {i:Nat} (h:(xs.any fun e=>Region.binds md e && e.on == i)=true):∃ e∈xs,Region.binds md e=true/\e.on=i:=by
 obtain ⟨e,he,hb⟩:=Array.any_eq_true'.1 h
 simp only [Bool.and_eq_true,beq_iff_eq] at hb
 exact ⟨e,he,hb.1,hb.2⟩
theorem wpOp_makeMap {ops:Array Oper} {Q:Exit->Act->World->Prop} {i:Nat} {o:Oper} {a:Act} {w:World} {K:Act->World->Prop} {T:TypeId} (ho:ops[i]?=some o) (hg:o.guard=none) (hop:o.op=.makeMap T none)
  (hK:K (a.put o.dst (.map (some w.heap.size))) (w.alloc (.map #[] 0))):wpOp Tryz.prog ops Q i K a w:=by
 unfold wpOp
 simp only [ho]
 rw [if_pos (by simp [Region.wanted,hg])]
 left
 have hrun:=run_makeMap (P:=Tryz.prog) T w
 unfold Oper.wp
 simp [execOp,hop,hrun,Result.andThen]
 exact hK
theorem listed_eq {l:Array Bool} {n:Nat} {tail:Nat->Bool} (hs:l.size=n) (h:∀ j,j<n->(l.getD j true=false↔tail j=true)):l=((List.range n).map fun j=>!tail j).toArray:=by
 subst hs
 apply Array.ext
 ·simp
 intro j h1 h2
 have:=h j h1
 rw [show l.getD j true=l[j] by simp [Array.getD,h1]] at this
 simp only [List.getElem_toArray,List.getElem_map,List.getElem_range]
 cases hl:l[j]<;>cases ht:tail j<;>simp_all
theorem inserts {ops:Array Oper} {Q:Exit->Act->World->Prop} {md:Region.Mode} {a:Act} {b:Nat} (ent:Nat->En) (all:List Nat) (tail:Nat->Bool)
  (hop:∀ i∈all,∃ o,ops[i]?=some o/\o.guard=none/\o.dst=none/\(o.after.all fun e=>decide (e.on<ops.size) && !all.contains e.on && !tail e.on)=true /\
   ∃ m k v,o.op=.insert 234 m k v/\a.eval m=.map (some b)/\a.eval k=kv (ent i).p (ent i).n/\a.eval v=.func (.func (ent i).f) #[] #[])
  (hwait:∀ j,tail j=true->∃ o,ops[j]?=some o/\∀ i∈all,(o.after.any fun e=>Region.binds md e && e.on == i)=true)
  (hw:∀ i∈all,(Lit.int .i64 (ent i).n).wf=true) (hdis:∀ i∈all,∀ j∈all,(ent i).p=(ent j).p->(ent i).n=(ent j).n->i=j)
  (w0:World) (f:Nat)
  (hend:∀ listed l w,listed.size=ops.size->(∀ j,j<ops.size->(listed.getD j true=false↔tail j=true))->Mp w b l->(∀ e,e∈l↔∃ i∈all,e=ent i)->Only [b] w0 w->wpAny Tryz.prog md ops Q f listed a w) :
  ∀ (n:Nat) (todo:List Nat) (l:List En) (w:World) (listed:Array Bool),todo.length=n->todo.Nodup->(∀ i∈todo,i∈all)->listed.size=ops.size->(∀ j,j<ops.size->(listed.getD j true=false↔j∈todo\/tail j=true)) ->
   Mp w b l->(∀ e,e∈l↔∃ i∈all,i∉todo/\e=ent i)->Only [b] w0 w->wpAny Tryz.prog md ops Q (n+f) listed a w:=by
 have hin:∀ i∈all,i<ops.size:=fun i hi=>by
  obtain ⟨o,ho,_⟩:=hop i hi
  exact (Array.getElem?_eq_some_iff.1 ho).1
 intro n
 induction n with
 |zero =>
  intro todo l w listed hn hnd hsub hsz hl hm hmem ho
  have h0:todo=[]:=List.eq_nil_of_length_eq_zero hn
  subst h0
  rw [Nat.zero_add]
  exact hend listed l w hsz (fun j hj=>by simpa using hl j hj) hm (fun e=>by simpa using hmem e) ho
 |succ n ih =>
  intro todo l w listed hn hnd hsub hsz hl hm hmem hon
  rw [Nat.add_right_comm]
  obtain ⟨i0,hi0⟩:∃ i0,i0∈todo:=by
   rcases todo with _|⟨x,r⟩
   ·simp at hn
   ·exact ⟨x,List.mem_cons_self⟩
  have ready:∀ i∈todo,i∈Region.ready md ops listed:=fun i hi=>by
   obtain ⟨o,ho,_,_,haf,_⟩:=hop i (hsub i hi)
   refine mem_ready.2 ⟨(hl i (hin i (hsub i hi))).2 (.inl hi),o,ho,fun e he _=>?_⟩
   obtain ⟨q1,q2,q3⟩:=Bt9 haf e he
   rw [Bn7 (by omega) false true]
   cases hc:listed.getD e.on true
   ·rcases (hl e.on q1).1 hc with h|h
    ·exact absurd (hsub _ h) q2
    ·rw [q3] at h
     cases h
   ·rfl
  refine ⟨fun h0=>(by have:=ready i0 hi0;rw [h0] at this;simp at this),fun i hi=>?_⟩
  obtain ⟨hun,o',ho',hall⟩:=mem_ready.1 hi
  have hlt:i<ops.size:=(Array.getElem?_eq_some_iff.1 ho').1
  rcases (hl i hlt).1 hun with hit|htl
  case inr =>
   obtain ⟨o2,ho2,hw2⟩:=hwait i htl
   rw [ho'] at ho2
   cases ho2
   obtain ⟨e,he,hb,hon2⟩:=Bz1 (hw2 i0 (hsub i0 hi0))
   have h1:=hall e he hb
   have h2:=(hl i0 (hin i0 (hsub i0 hi0))).2 (.inl hi0)
   rw [hon2,Bn7 (by have:=hin i0 (hsub i0 hi0);omega) false true,h2] at h1
   cases h1
  obtain ⟨o,ho,hg,hd,haf,m,k,v,hopi,em,ek,ev⟩:=hop i (hsub i hit)
  have hfine:Fine l:=fun e he=>by
   obtain ⟨j,hj,_,rfl⟩:=(hmem e).1 he
   exact hw j hj
  have hne:∀ e∈l,¬ (e.p=(ent i).p/\e.n=(ent i).n):=by
   rintro e he ⟨q1,q2⟩
   obtain ⟨j,hj,hjt,rfl⟩:=(hmem e).1 he
   have:=hdis j hj i (hsub i hit) q1 q2
   subst this
   exact hjt hit
  obtain ⟨w',hrun,hm',hon'⟩:=put_new hm hfine (ent i).p (ent i).n (hw i (hsub i hit)) (ent i).f hne
  refine wpOp_insert ho hg hd hopi (by rw [em,ek,ev];exact hrun) ?_
  refine ih (todo.erase i) (l++[⟨(ent i).p,(ent i).n,(ent i).f⟩]) w' (listed.setIfInBounds i true) (by rw [List.length_erase_of_mem hit];omega) (hnd.erase i) (fun j hj=>hsub j (List.mem_of_mem_erase hj)) (by simpa using hsz) ?_ hm' ?_ (hon.trans hon')
  ·intro j hj
   by_cases hji:i=j
   ·subst hji
    have ht:listed.size > i:=by omega
    have h1:(listed.setIfInBounds i true).getD i true=true:=by simp [ht]
    rw [h1]
    constructor
    ·intro h
     cases h
    ·rintro (h|h)
     ·exact absurd h (hnd.not_mem_erase)
     ·obtain ⟨o2,ho2,hw2⟩:=hwait i h
      rw [ho] at ho2
      cases ho2
      obtain ⟨e,he,hb,hon2⟩:=Bz1 (hw2 i (hsub i hit))
      exact absurd (hsub i hit) (hon2▸(Bt9 haf e he).2.1)
   ·rw [getD_set_ne true hji,hl j hj,List.mem_erase_of_ne (Ne.symm hji)]
  ·intro e
   rw [List.mem_append,hmem e,List.mem_singleton]
   constructor
   ·rintro (⟨j,hj,hjt,rfl⟩|rfl)
    ·exact ⟨j,hj,fun h=>hjt (List.mem_of_mem_erase h),rfl⟩
    ·exact ⟨i,hsub i hit,hnd.not_mem_erase,rfl⟩
   ·rintro ⟨j,hj,hjt,rfl⟩
    by_cases hji:j=i
    ·subst hji
     exact .inr rfl
    ·exact .inl ⟨j,hj,fun h=>hjt ((List.mem_erase_of_ne hji).2 h),rfl⟩
def Cl6:Nat->Nat
 |0=>234
 |1=>235
 |2=>236
 |3=>237
 |4=>238
 |5=>239
 |6=>233
 |7=>240
 |_=>0
def tab:List En:=[⟨false,4,234⟩,⟨false,20,235⟩,⟨true,1,236⟩,⟨true,6,237⟩,⟨true,7,238⟩,⟨true,25,239⟩,⟨true,47,233⟩,⟨true,1047,233⟩,⟨true,1049,233⟩,⟨true,2004,240⟩]
def ent:Nat->En
 |2=>⟨false,4,234⟩
 |4=>⟨false,20,235⟩
 |6=>⟨true,1,236⟩
 |8=>⟨true,6,237⟩
 |10=>⟨true,7,238⟩
 |12=>⟨true,25,239⟩
 |15=>⟨true,47,233⟩
 |18=>⟨true,1047,233⟩
 |21=>⟨true,1049,233⟩
 |23=>⟨true,2004,240⟩
 |_=>⟨false,0,0⟩
def all:List Nat:=[2,4,6,8,10,12,15,18,21,23]
def tail (j:Nat):Bool:=j == 24 || j == 25
theorem tab_ent (e:En):(∃ i∈all,e=ent i)↔e∈tab:=by
 have h:tab=all.map ent:=rfl
 rw [h,List.mem_map]
 exact ⟨fun ⟨i,hi,he⟩=>⟨i,hi,he.symm⟩,fun ⟨i,hi,he⟩=>⟨i,hi,he.symm⟩⟩
theorem fineL (l:List En) (h:(l.all fun e=>(Lit.int .i64 e.n).wf)=true):Fine l:=fun e he=>List.all_eq_true.1 h e he
theorem fine_tab:Fine tab:=fineL _ (by decide)
theorem tab_at {p:Bool} {n:Int} {e:En} (he:e∈tab) (hp:e.p=p) (hn:e.n=n):spot p n<8/\e.f=Cl6 (spot p n):=by
 subst hp
 subst hn
 simp only [tab,List.mem_cons,List.not_mem_nil,or_false] at he
 rcases he with rfl|rfl|rfl|rfl|rfl|rfl|rfl|rfl|rfl|rfl
 all_goals exact ⟨by decide,rfl⟩
theorem spot_tab {p:Bool} {n:Int} (h:∀ e∈tab,¬ (e.p=p/\e.n=n)):spot p n=8:=by
 simp only [tab,List.mem_cons,List.not_mem_nil,or_false,forall_eq_or_imp,forall_eq] at h
 obtain ⟨h0,h1,h2,h3,h4,h5,h6,h7,h8,h9⟩:=h
 cases p
 all_goals
  unfold spot
  simp at *
 ·rw [if_neg (by omega),if_neg (by omega)]
 ·rw [if_neg (by omega),if_neg (by omega),if_neg (by omega),if_neg (by omega),if_neg (by omega),if_neg (by omega),if_neg (by omega),if_neg (by omega)]
def Bl8 (w:World) (b:Nat):Prop:=∃ l,Mp w b l/\∀ e,e∈l↔e∈tab
theorem Bf8 {w:World} {b:Nat} (h:Bl8 w b) (p:Bool) {n:Int} (hw:(Lit.int .i64 n).wf=true) :
  (spot p n=8/\(Instr.lookup 234 (.map (some b)) (kv p n) true).run Tryz.prog w=.ok (.tuple #[.nilFunc,.bool false]) w) \/
  (spot p n<8/\(Instr.lookup 234 (.map (some b)) (kv p n) true).run Tryz.prog w=.ok (.tuple #[.func (.func (Cl6 (spot p n))) #[] #[],.bool true]) w):=by
 obtain ⟨l,hm,hl⟩:=h
 rcases Bk0 hm (fun e he=>fine_tab e ((hl e).1 he)) p hw with ⟨h1,h2⟩|⟨e,he,hp,hn,hr⟩
 ·exact .inl ⟨spot_tab fun e he=>h2 e ((hl e).2 he),h1⟩
 ·obtain ⟨q1,q2⟩:=tab_at ((hl e).1 he) hp hn
  rw [q2] at hr
  exact .inr ⟨q1,hr⟩
theorem Ag2 (w:World) :
  Calls Tryz.prog 229 #[] w fun e w'=>∃ b,e=.returned (.map (some b))/\Bl8 w' b/\Below w.heap.size w w':=by
 go_enter Tryz.func229,Tryz.ntmps229
 go_wp2
 refine wp_region_any rfl ?_
 refine wpAny_take (i:=1) (oi:=⟨some 3,_,_,_,_,_⟩) (v:=.agg #[.bool false,.int .i64 4]) rfl (by kernel_rfl) (by kernel_rfl) (by kernel_rfl) (fun _ _ _ h=>h) (.inl ⟨by rfl,by intro w;go_simp⟩) ?_
 refine wpAny_take (i:=3) (oi:=⟨some 4,_,_,_,_,_⟩) (v:=.agg #[.bool false,.int .i64 20]) rfl (by kernel_rfl) (by kernel_rfl) (by kernel_rfl) (fun _ _ _ h=>h) (.inl ⟨by rfl,by intro w;go_simp⟩) ?_
 refine wpAny_take (i:=5) (oi:=⟨some 5,_,_,_,_,_⟩) (v:=.agg #[.bool true,.int .i64 1]) rfl (by kernel_rfl) (by kernel_rfl) (by kernel_rfl) (fun _ _ _ h=>h) (.inl ⟨by rfl,by intro w;go_simp⟩) ?_
 refine wpAny_take (i:=7) (oi:=⟨some 6,_,_,_,_,_⟩) (v:=.agg #[.bool true,.int .i64 6]) rfl (by kernel_rfl) (by kernel_rfl) (by kernel_rfl) (fun _ _ _ h=>h) (.inl ⟨by rfl,by intro w;go_simp⟩) ?_
 refine wpAny_take (i:=9) (oi:=⟨some 7,_,_,_,_,_⟩) (v:=.agg #[.bool true,.int .i64 7]) rfl (by kernel_rfl) (by kernel_rfl) (by kernel_rfl) (fun _ _ _ h=>h) (.inl ⟨by rfl,by intro w;go_simp⟩) ?_
 refine wpAny_take (i:=11) (oi:=⟨some 8,_,_,_,_,_⟩) (v:=.agg #[.bool true,.int .i64 25]) rfl (by kernel_rfl) (by kernel_rfl) (by kernel_rfl) (fun _ _ _ h=>h) (.inl ⟨by rfl,by intro w;go_simp⟩) ?_
 refine wpAny_take (i:=13) (oi:=⟨some 9,_,_,_,_,_⟩) (v:=.agg #[.bool true,.int .i64 47]) rfl (by kernel_rfl) (by kernel_rfl) (by kernel_rfl) (fun _ _ _ h=>h) (.inl ⟨by rfl,by intro w;go_simp⟩) ?_
 refine wpAny_take (i:=14) (oi:=⟨some 10,_,_,_,_,_⟩) (v:=.func (.func 233) #[] #[]) rfl (by kernel_rfl) (by kernel_rfl) (by kernel_rfl) (fun _ _ _ h=>h) (.inl ⟨by rfl,by intro w;go_simp⟩) ?_
 refine wpAny_take (i:=16) (oi:=⟨some 11,_,_,_,_,_⟩) (v:=.agg #[.bool true,.int .i64 1047]) rfl (by kernel_rfl) (by kernel_rfl) (by kernel_rfl) (fun _ _ _ h=>h) (.inl ⟨by rfl,by intro w;go_simp⟩) ?_
 refine wpAny_take (i:=17) (oi:=⟨some 12,_,_,_,_,_⟩) (v:=.func (.func 233) #[] #[]) rfl (by kernel_rfl) (by kernel_rfl) (by kernel_rfl) (fun _ _ _ h=>h) (.inl ⟨by rfl,by intro w;go_simp⟩) ?_
 refine wpAny_take (i:=19) (oi:=⟨some 13,_,_,_,_,_⟩) (v:=.agg #[.bool true,.int .i64 1049]) rfl (by kernel_rfl) (by kernel_rfl) (by kernel_rfl) (fun _ _ _ h=>h) (.inl ⟨by rfl,by intro w;go_simp⟩) ?_
 refine wpAny_take (i:=20) (oi:=⟨some 14,_,_,_,_,_⟩) (v:=.func (.func 233) #[] #[]) rfl (by kernel_rfl) (by kernel_rfl) (by kernel_rfl) (fun _ _ _ h=>h) (.inl ⟨by rfl,by intro w;go_simp⟩) ?_
 refine wpAny_take (i:=22) (oi:=⟨some 15,_,_,_,_,_⟩) (v:=.agg #[.bool true,.int .i64 2004]) rfl (by kernel_rfl) (by kernel_rfl) (by kernel_rfl) (fun _ _ _ h=>h) (.inl ⟨by rfl,by intro w;go_simp⟩) ?_
 refine wpAny_all (rs:=[0]) (by kernel_rfl) (by simp) ?_
 intro i hi
 obtain rfl:=List.mem_singleton.1 hi
 refine wpOp_makeMap (o:=⟨some 2,_,_,_,_,_⟩) rfl rfl rfl ?_
 refine inserts ent all tail ?_ ?_ (of_decide_eq_true (by kernel_rfl)) (of_decide_eq_true (by kernel_rfl)) (w.drew.alloc (.map #[] 0)) 2 ?_ 10 all [] _ _ rfl (of_decide_eq_true (by kernel_rfl)) (fun _ h=>h) (by kernel_rfl) (of_decide_eq_true (by kernel_rfl)) (Mp.made w.drew) ?_ (Only.refl _ _)
 ·intro i hi
  simp only [all,List.mem_cons,List.not_mem_nil,or_false] at hi
  rcases hi with rfl|rfl|rfl|rfl|rfl|rfl|rfl|rfl|rfl|rfl
  all_goals exact ⟨_,rfl,rfl,rfl,by kernel_rfl,_,_,_,rfl,rfl,rfl,rfl⟩
 ·intro j hj
  simp only [tail,Bool.or_eq_true,beq_iff_eq] at hj
  rcases hj with rfl|rfl
  all_goals exact ⟨_,rfl,of_decide_eq_true (by kernel_rfl)⟩
 ·intro listed l w1 hs hl hm hmem ho
  have hL:=listed_eq hs hl
  subst hL
  have hb:Below w.heap.size w w1:=((Aa4 (Below.refl w.heap.size w) 1).trans (Aa1 w.drew _)).trans (ho.below (by simp) (by simp))
  have hP:Bl8 w1 w.drew.heap.size:=⟨l,hm,fun e=>(hmem e).trans (tab_ent e)⟩
  refine wpAny_take (i:=24) (oi:=⟨some 16,_,_,_,_,_⟩) (v:=.map (some w.drew.heap.size)) rfl (by kernel_rfl) (by kernel_rfl) (by kernel_rfl) (fun _ _ _ h=>h) (.inl ⟨by rfl,by intro w;go_simp⟩) ?_
  refine wpAny_take (i:=25) (oi:=⟨some 0,_,_,_,_,_⟩) (v:=.map (some w.drew.heap.size)) rfl (by kernel_rfl) (by kernel_rfl) (by kernel_rfl) (fun _ _ _ h=>h) (.inl ⟨by rfl,by intro w;go_simp⟩) ?_
  refine wpAny_done (by kernel_rfl) ?_ _
  dsimp only [Act.put]
  go_wp2
  go_ret
  exact ⟨_,rfl,hP,hb⟩
 ·intro e
  constructor
  ·intro h
   simp at h
  ·rintro ⟨i,hi,h,_⟩
   exact absurd hi h
def mA (m:Md):Array Value:=#[.bool m.a0,.bool m.a1,.bool m.a2,.bool m.a3,.bool m.a4,.bool m.a5,.bool m.a6,.bool m.a7]
theorem An6 (m:Md):(mA m).size=8:=rfl
theorem mA_one (m:Md):(mA m).all (·.oneCell')=true:=by simp [mA,Value.oneCell']
theorem mA_info (m:Md):(Tryz.prog.info? 46).map (·.size)=some (mA m).size:=by
 rw [An6]
 kernel_rfl
theorem Ay9 (m:Md) {k:Nat} (hk:k<8) (b:Bool):((mA m).toList.take k++[Value.bool b]++(mA m).toList.drop (k+1)).toArray=mA (m.set k b):=by
 rcases small (Nat.le_of_lt hk) with rfl|rfl|rfl|rfl|rfl|rfl|rfl|rfl|rfl
 all_goals first|rfl|omega
theorem Al0:(Tryz.prog.info? 4).map (·.size)=some 1:=by kernel_rfl
theorem blk {w:World} {g:Nat} {t:TypeId} {cs:Array Value} (h:Block w g t cs):w.heap[g]?=some (.cells cs t (0,0)):=h
def MB (w:World) (g:Nat) (m:Md):Prop:=Block w g 46 (mA m)
theorem MB.of {w:World} {g:Nat} {m:Md} (h:Block w g 46 (mA m)):MB w g m:=h
theorem MB.blk {w:World} {g:Nat} {m:Md} (h:MB w g m):Block w g 46 (mA m):=h
theorem MB.made (w:World) (m:Md):MB (w.alloc (.cells (mA m) 46)) w.heap.size m:=Block.made w _ _
theorem MB.zero (w:World):MB (w.alloc (.cells #[.bool false,.bool false,.bool false,.bool false,.bool false,.bool false,.bool false,.bool false] 46)) w.heap.size none0:=Block.made w _ _
theorem MB.only {L:List Nat} {w w':World} {g:Nat} {m:Md} (h:MB w g m) (ho:Only L w w') (hg:g∉L):MB w' g m:=Block.only h ho hg
theorem MB.below {w w':World} {g:Nat} {m:Md} (h:MB w g m) (hb:Below w.heap.size w w'):MB w' g m:=h.only (Only.of_below hb []) (by simp)
theorem MB.alloc {w:World} {g:Nat} {m:Md} (h:MB w g m) (o:Obj):MB (w.alloc o) g m:=Block.alloc h o
theorem Bj9 {P:Program} {w:World} {g:Nat} {t ty:TypeId} {cs:Array Value} {d:TypeDesc} (h:Block w g t cs) (hu:P.underlying ty=some d) (hd:(match d with|.struct _|.array _ _=>true|_=>false)=true) (hi:(P.info? ty).map (·.size)=some cs.size):(loadVar ty ⟨g,0,none⟩).run P w=.ok (.agg cs) w :=
 Com.run_loadVar_at w ty ⟨g,0,none⟩ cs.toList _ (fun j u hj=>by rw [Addr.add_lit,Nat.zero_add];exact h.cell j (by simpa using hj)) hu hd (by simpa using hi)
theorem Ag3 {P:Program} {fn:Func} {p q:Tmp} {ty t:TypeId} {d:TypeDesc} (h:fn.results=#[.cell p ty,.tmp q]) (tmps:Array Value) (w:World) (g:Nat) (cs:Array Value)
  (hp:tmps.getD p undef=.pointer (some ⟨g,0,none⟩)) (hg:Block w g t cs) (hu:P.underlying ty=some d) (hd:(match d with|.struct _|.array _ _=>true|_=>false)=true) (hi:(P.info? ty).map (·.size)=some cs.size) :
  (results fn tmps).run P w=.ok (.tuple #[.agg cs,tmps.getD q undef]) w:=by
 have hp':tmps[p]?.getD undef=.pointer (some ⟨g,0,none⟩):=by simpa using hp
 simp [results,h,hp',asAddr,Bj9 hg hu hd hi]
theorem end_m {fn:Func} {p:Tmp} (h:fn.results=#[.cell p 46]) {a:Act} {w1:World} {g:Nat} {m:Md} {post:Ending->World->Prop} (hp:a.tmps.getD p undef=.pointer (some ⟨g,0,none⟩)) (hd:a.defers=[])
  (hb:MB w1 g m) (hpost:post (.returned (.agg (mA m))) w1):bodyPost Tryz.prog fn post .ret a w1 :=
 bodyPost_ret (results_cell_row h _ _ _ _ _ _ _ hp (blk hb.blk) Tryz.underlying46 rfl (mA_info m)) hd hpost
theorem Au9 {fn:Func} {p q:Tmp} (h:fn.results=#[.cell p 46,.tmp q]) {a:Act} {w1:World} {g:Nat} {m:Md} {v:Value} {post:Ending->World->Prop} (hp:a.tmps.getD p undef=.pointer (some ⟨g,0,none⟩)) (hq:a.tmps.getD q undef=v) (hd:a.defers=[])
  (hb:MB w1 g m) (hpost:post (.returned (.tuple #[.agg (mA m),v])) w1):bodyPost Tryz.prog fn post .ret a w1:=by
 subst hq
 exact bodyPost_ret (Ag3 h _ _ _ _ hp hb.blk Tryz.underlying46 rfl (mA_info m)) hd hpost
