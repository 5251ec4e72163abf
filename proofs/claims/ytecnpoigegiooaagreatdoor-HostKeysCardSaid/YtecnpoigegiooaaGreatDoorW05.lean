/- Part 5 of HostKeys. -/
import Derived.Laws.RangeAny
import Derived.Test.YtecnpoigegiooaaGreatDoorW00
import Derived.Laws.CopyOwn
import Derived.Test.YtecnpoigegiooaaGreatDoorChecked
import Derived.WalkLawsBesides
import Derived.LoopTactic
import Derived.IntWalk
import Derived.Outline
import Derived.Deep.QuietTactic
import Derived.BigQuiet
import Derived.Deep.DeepMust
import Derived.Deep.RegionLaw
set_option maxHeartbeats 16000000
set_option maxRecDepth 100000
namespace Go.Proofs.YtecnpoigegiooaaGreatDoor.Com
open Go RowKit
theorem M1(L:List Nat)(w:World):A0 L w w.drew:=⟨rfl,rfl,rfl,J5 _,fun _ _ _=>rfl⟩
theorem Auk{w w':World}(h:A0 (Value.slice none 0 0).ownBlock.toList w w'):A0 [] w w':=by simpa[Value.ownBlock]using h
theorem Bab{w:World}{B:Nat}{e:TypeId}{k:IntKind}{v:Value}{l:List Int}(h:Own w B e k v l):∃ao n c,v=.slice ao n c:=by
 obtain⟨ao,c,e,_⟩:=h.shape
 exact⟨ao,_,c,e⟩
def I2(w:World)(ok:Nat->Prop)(k:IntKind)(ao:Option Addr)(l:List Int):Prop :=
 ∀i x,l[i]?=some x->∃ad,ao=some ad/\ok ad.block/\w.cell? (ad.add i)=some (.int k x)
section
variable {w w':World}{ok ok':Nat->Prop}{k:IntKind}{ao:Option Addr}{l:List Int}
theorem I2.mono(h:I2 w ok k ao l)(hm:∀g,g<w.heap.size->ok g->ok' g):I2 w ok' k ao l:=fun i x hx=>by
 obtain⟨ad,e,hk,hc⟩:=h i x hx
 have hlt:=World.block_lt_of_cell? _ _ hc
 rw[Aa1]at hlt
 exact⟨ad,e,hm _ hlt hk,hc⟩
theorem I2.Ayd(h:I2 w ok k ao l):A8 w w.heap.size k ao l:=h.mono (fun _ hg _=>hg)
end
theorem Auj{w:World}{B:Nat}{e:TypeId}{k:IntKind}{v:Value}{l:List Int}(h:Own w B e k v l):∃ao cap,v=.slice ao l.length cap/\l.length<=cap/\cap<=maxLen/\I2 w (fun g=>v.ownBlock=some g) k ao l:=by
 obtain⟨ao,cap,rfl,h1,h2,hn⟩:=h.shape
 refine⟨ao,cap,rfl,h1,h2,fun i x hx=>?_⟩
 obtain⟨ad,rfl,_,hc⟩:=hn i x hx
 exact⟨ad,rfl,rfl,hc⟩
inductive U4 {α β:Type} (R:α->β->Prop):List α->List β->Prop
 |nil:U4 R [] []
 |cons {a b l m} (h:R a b) (t:U4 R l m):U4 R (a::l) (b::m)
theorem Akm{P:Program}{ops:Array Oper}{rest:List Oper}{o:Oper}{a:Go.Act}{w:World}{Q:Exit->Go.Act->World->Prop}(hgd:o.guard=none)(ty:TypeId)(x y:Operand)(ho:o.op=.store ty x y)
  {g i:Nat} {t:TypeId} {cs:Array Value} (hb:Block w g t cs) (vs:Array Value) (hx:a.eval x=.pointer (some ⟨g,i,none⟩)) (hy:a.eval y=.agg vs) (hi:i+vs.size<=cs.size) (Y8:(P.info? ty).map (·.size)=some vs.size) (h1:vs.all (·.oneCell')=true)
  (h:∀w',Block w' g t (cs.toList.take i++(vs.toList++cs.toList.drop (i+vs.size))).toArray->A0 [g] w w'->wpList P ops Q rest (a.put o.dst undef) w'):wpList P ops Q (o::rest) a w :=
 wpList_plain hgd fun _ hK=>by
  have:=run_storeCells_at (P:=P) g i t vs.toList 0 cs w hb (by simpa using hi) (fun x hx=>(Array.all_eq_true_iff_forall_mem.1 h1) x (by simpa using hx))
  cases hq:P.info? ty with
  |none=>simp[hq]at Y8
  |some j =>
   have hs:j.size=vs.size:=by simpa[hq]using Y8
   have hc:(Value.agg vs).cells=vs:=rfl
   simp only[Nat.add_zero,Array.length_toList]at this
   unfold Oper.wp execOp
   simp[ho,hx,hy,Instr.storeAt,Instr.sureAddr,Sem.run_bind,Sem.run_pure,storeVar,sizeOf,typeInfo,hq,hc,hs,this]
   exact hK _ _ (h _ (setRow_heap w g cs _ t _ hb) (Adl w g _))
theorem Ayj{w:World}{b:Nat}{o:Obj}(h:w.heap[b]?=some o):b<w.heap.size:=by
 rcases Nat.lt_or_ge b w.heap.size with h1|h1
 ·exact h1
 ·rw[Array.getElem?_eq_none h1]at h;cases h
end Go.Proofs.YtecnpoigegiooaaGreatDoor.Com
namespace Go.Proofs.YtecnpoigegiooaaGreatDoor.Rw
open Go
structure At where
 f:Int
 b:Int
 g:Int
structure Cel where
 r:Int
 m:List Int
 wide:Int
 a:At
def W(l:List Cel)(i:Nat):Int:=match l[i]? with
 |some c=>c.wide
 |none=>0
theorem Ain{l:List Cel}{i:Nat}(h:i<l.length):W l i=l[i].wide:=by unfold W;rw[List.getElem?_eq_getElem h]
theorem Ard{l:List Cel}{i:Nat}(h:l.length<=i):W l i=0:=by unfold W;rw[List.getElem?_eq_none h]
theorem Als{l l':List Cel}{i j:Nat}(h:l[i]?=l'[j]?):W l i=W l' j:=by unfold W;rw[h]
def F9(l:List Cel)(i:Nat):Prop:=(W l i=1/\W l (i+1)≠2)\/(W l i=2/\(i=0\/W l (i-1)≠1))
instance (l:List Cel) (i:Nat):Decidable (F9 l i):=by unfold F9;infer_instance
theorem F9.lt{l:List Cel}{i:Nat}(h:F9 l i):i<l.length:=by
 rcases Nat.lt_or_ge i l.length with h1|h1
 ·exact h1
 ·have:=Ard h1
  unfold F9 at h
  omega
def Abq(c:Cel):Cel:=⟨32,[],0,c.a⟩
def clr(a:At):Cel:=⟨32,[],0,⟨0,a.b,0⟩⟩
def zeroAt:At:=⟨0,0,0⟩
def I4(l:List Cel)(a b:Nat):List Cel:=l.mapIdx fun i c=>if a<=i/\i<b/\F9 l i then Abq c else c
def Abo(l:List Cel):List Cel:=l.mapIdx fun i c=>if F9 l i then Abq c else c
theorem Bex(l:List Cel)(a b:Nat):(I4 l a b).length=l.length:=by simp[I4]
theorem Ber(l:List Cel):(Abo l).length=l.length:=by simp[Abo]
theorem Ahd(l:List Cel)(a b i:Nat):(I4 l a b)[i]?=l[i]?.map fun c=>if a<=i/\i<b/\F9 l i then Abq c else c:=by simp[I4]
theorem Apf(l:List Cel)(i:Nat):(Abo l)[i]?=l[i]?.map fun c=>if F9 l i then Abq c else c:=by simp[Abo]
theorem Bal(l:List Cel)(a b i:Nat):W (I4 l a b) i=if a<=i/\i<b/\F9 l i then 0 else W l i:=by
 unfold W
 rw[Ahd]
 cases l[i]? with
 |none=>simp
 |some c=>simp only[Option.map_some];split<;>rfl
theorem Bzd(l:List Cel)(i:Nat):W (Abo l) i=if F9 l i then 0 else W l i:=by
 unfold W
 rw[Apf]
 cases l[i]? with
 |none=>simp
 |some c=>simp only[Option.map_some];split<;>rfl
theorem Bif(l:List Cel)(a:Nat):I4 l a a=l:=by
 apply List.ext_getElem?
 intro i
 rw[Ahd]
 cases l[i]? with
 |none=>rfl
 |some c=>simp only[Option.map_some];rw[if_neg (by omega)]
theorem Aye(l:List Cel)(a b i:Nat):F9 (I4 l a b) i↔F9 l i/\¬(a<=i/\i<b):=by
 have h0:=Bal l a b i
 have h1:=Bal l a b (i+1)
 have h2:=Bal l a b (i-1)
 have e:i≠0->i-1+1=i:=by omega
 by_cases ci:F9 l i
 ·by_cases r:a<=i/\i<b
  ·rw[if_pos ⟨r.1,r.2,ci⟩]at h0
   simp[r,F9,h0]
  ·rw[if_neg (fun h=>r ⟨h.1,h.2.1⟩)]at h0
   simp only[ci,r,not_false_eq_true,and_self,iff_true]
   unfold F9 at ci |-
   rw[h0]
   rcases ci with⟨c1,c2⟩|⟨c1,c2⟩
   ·left
    refine⟨c1,?_⟩
    rw[h1]
    split
    ·decide
    ·exact c2
   ·right
    refine⟨c1,?_⟩
    rcases c2 with c2|c2
    ·exact .inl c2
    ·right
     rw[h2]
     split
     ·decide
     ·exact c2
 ·rw[if_neg (fun h=>ci h.2.2)]at h0
  simp only[ci,false_and,iff_false]
  intro hA
  unfold F9 at hA
  rw[h0]at hA
  rcases hA with⟨c1,c2⟩|⟨c1,c2⟩
  ·have hw:W l (i+1)=2:=by
    apply Decidable.byContradiction
    intro hn
    exact ci (.inl ⟨c1,hn⟩)
   have:¬F9 l (i+1):=by
    unfold F9
    simp[hw,c1]
   rw[h1,if_neg (fun h=>this h.2.2)]at c2
   exact c2 hw
  ·have h3:i≠0/\W l (i-1)=1:=by
    refine⟨fun hn=>ci (.inr ⟨c1,.inl hn⟩),?_⟩
    apply Decidable.byContradiction
    intro hn
    exact ci (.inr ⟨c1,.inr hn⟩)
   have:¬F9 l (i-1):=by
    unfold F9
    rw[e h3.1]
    simp[h3.2,c1]
   rw[h2,if_neg (fun h=>this h.2.2)]at c2
   rcases c2 with c2|c2
   ·exact h3.1 c2
   ·exact c2 h3.2
theorem Cbg(l:List Cel)(a b:Nat)(hab:a<=b):I4 l a (b+1)=if h:b<l.length/\F9 l b then(I4 l a b).set b (Abq (l[b]'h.1))else I4 l a b:=by
 apply List.ext_getElem?
 intro i
 rw[Ahd]
 by_cases h:b<l.length/\F9 l b
 ·rw[dif_pos h,List.getElem?_set,Bex,Ahd]
  by_cases e:b=i
  ·subst e
   rw[if_pos rfl,if_pos h.1,List.getElem?_eq_getElem h.1]
   simp only[Option.map_some]
   rw[if_pos ⟨hab,by omega,h.2⟩]
  ·rw[if_neg e]
   cases l[i]? with
   |none=>rfl
   |some c =>
    simp only[Option.map_some]
    congr 1
    by_cases c1:a<=i/\i<b/\F9 l i
    ·rw[if_pos c1,if_pos ⟨c1.1,by omega,c1.2.2⟩]
    ·rw[if_neg c1,if_neg (fun hh=>c1 ⟨hh.1,by omega,hh.2.2⟩)]
 ·rw[dif_neg h,Ahd]
  rcases hq:l[i]? with _|c
  ·rfl
  ·have hi:=(List.getElem?_eq_some_iff.1 hq).1
   simp only[Option.map_some]
   congr 1
   by_cases c1:a<=i/\i<b/\F9 l i
   ·rw[if_pos c1,if_pos ⟨c1.1,by omega,c1.2.2⟩]
   ·rw[if_neg c1,if_neg (fun hh=>c1 ⟨hh.1,by
     rcases Nat.lt_or_ge i b with h1|h1
     ·exact h1
     ·obtain rfl:i=b:=by omega
      exact absurd ⟨hi,hh.2.2⟩ h,hh.2.2⟩)]
theorem Aty{l:List Cel}{a b:Nat}(h:∀i,F9 l i->a<=i/\i<b):I4 l a b=Abo l:=by
 apply List.ext_getElem?
 intro i
 rw[Ahd,Apf]
 cases l[i]? with
 |none=>rfl
 |some c =>
  simp only[Option.map_some]
  congr 1
  by_cases c1:F9 l i
  ·rw[if_pos c1,if_pos ⟨(h i c1).1,(h i c1).2,c1⟩]
  ·rw[if_neg c1,if_neg (fun hh=>c1 hh.2.2)]
theorem Cbf{l:List Cel}{a b c d:Nat}(h:∀i,F9 l i->(a<=i/\i<b)\/(c<=i/\i<d)):I4 (I4 l a b) c d=Abo l:=by
 apply List.ext_getElem?
 intro i
 rw[Ahd,Apf,Ahd]
 cases l[i]? with
 |none=>rfl
 |some x =>
  simp only[Option.map_some]
  congr 1
  have ha:=Aye l a b i
  by_cases c1:F9 l i
  ·rw[if_pos c1]
   by_cases r:a<=i/\i<b
   ·rw[if_neg (fun hh:c<=i/\i<d/\F9 (I4 l a b) i=>(ha.1 hh.2.2).2 r),if_pos ⟨r.1,r.2,c1⟩]
   ·have:=h i c1
    rw[if_pos ⟨by omega,by omega,ha.2 ⟨c1,r⟩⟩,if_neg (fun hh=>r ⟨hh.1,hh.2.1⟩)]
  ·rw[if_neg c1,if_neg (fun hh:c<=i/\i<d/\F9 (I4 l a b) i=>c1 (ha.1 hh.2.2).1),if_neg (fun hh=>c1 hh.2.2)]
def Aa3(l:List Cel):Prop:=∀i,¬F9 l i
theorem Ahi(l:List Cel):Aa3 l↔W l 0≠2/\∀i,(W l i=1↔W l (i+1)=2):=by
 constructor
 ·intro h
  refine⟨fun h0=>h 0 (.inr ⟨h0,.inl rfl⟩),fun i=>⟨fun h1=>?_,fun h2=>?_⟩⟩
  ·apply Decidable.byContradiction
   intro hn
   exact h i (.inl ⟨h1,hn⟩)
  ·apply Decidable.byContradiction
   intro hn
   exact h (i+1) (.inr ⟨h2,.inr (by simpa using hn)⟩)
 ·intro⟨h0,h⟩ i hA
  rcases hA with⟨c1,c2⟩|⟨c1,c2⟩
  ·exact c2 ((h i).1 c1)
  ·rcases i with _|i
   ·exact h0 c1
   ·have:=(h i).2 c1
    rcases c2 with c2|c2
    ·omega
    ·exact c2 (by simpa using this)
theorem Bez(l:List Cel):Aa3 (Abo l):=by
 intro i
 have:Abo l=I4 l 0 l.length:=(Aty (fun i h=>⟨Nat.zero_le _,h.lt⟩)).symm
 rw[this,Aye]
 intro⟨h,hn⟩
 exact hn ⟨Nat.zero_le _,h.lt⟩
theorem Bew{l:List Cel}(h:Aa3 l):Abo l=l:=by
 rw[<- Aty (a:=0) (b:=0) (fun i hi=>absurd hi (h i)),Bif]
theorem Btl{l:List Cel}(h:Aa3 l)(a b:Nat):I4 l a b=l:=by
 rw[Aty (fun i hi=>absurd hi (h i)),Bew h]
theorem Aus{l cs:List Cel}{col:Nat}(h:col+cs.length<=l.length)(i:Nat) :
  W (splice l col cs) i=if i<col then W l i else if i<col+cs.length then W cs (i-col)else W l i:=by
 unfold splice
 by_cases h1:i<col
 ·rw[if_pos h1]
  apply Als
  rw[List.getElem?_append_left (by simp;omega),List.getElem?_take,if_pos h1]
 ·rw[if_neg h1]
  by_cases h2:i<col+cs.length
  ·rw[if_pos h2]
   apply Als
   rw[List.getElem?_append_right (by simp;omega),List.length_take,Nat.min_eq_left (by omega),List.getElem?_append_left (by omega)]
  ·rw[if_neg h2]
   apply Als
   rw[List.getElem?_append_right (by simp;omega),List.length_take,Nat.min_eq_left (by omega),List.getElem?_append_right (by omega),List.getElem?_drop]
   congr 1
   omega
theorem Bsx{l cs:List Cel}{col:Nat}(h:col+cs.length<=l.length)(hl:Aa3 l):∀i,F9 (splice l col cs) i->col-1<=i/\i<min (col+cs.length+1) l.length:=by
 intro i hA
 have hlt:=hA.lt
 rw[length_splice l col cs h]at hlt
 rw[Ahi]at hl
 have a0:=Aus h i
 have a1:=Aus h (i+1)
 have a2:=Aus h (i-1)
 refine⟨?_,?_⟩
 ·apply Decidable.byContradiction
  intro hn
  rw[if_pos (by omega)]at a0 a1 a2
  have:=hl.2 i
  rcases hA with⟨c1,c2⟩|⟨c1,c2⟩
  ·exact c2 (by rw[a1];exact this.1 (a0▸c1))
  ·rcases i with _|i
   ·exact hl.1 (a0▸c1)
   ·have h3:=(hl.2 i).2 (a0▸c1)
    rcases c2 with c2|c2
    ·omega
    ·exact c2 (by rw[a2];simpa using h3)
 ·apply Decidable.byContradiction
  intro hn
  rw[if_neg (by omega),if_neg (by omega)]at a0 a1 a2
  have:=hl.2 i
  rcases hA with⟨c1,c2⟩|⟨c1,c2⟩
  ·exact c2 (by rw[a1];exact this.1 (a0▸c1))
  ·rcases i with _|i
   ·exact hl.1 (a0▸c1)
   ·have h3:=(hl.2 i).2 (a0▸c1)
    rcases c2 with c2|c2
    ·omega
    ·exact c2 (by rw[a2];simpa using h3)
theorem Bam{l:List Cel}(h:∀c∈l,c.wide=0)(i:Nat):W l i=0:=by
 rcases Nat.lt_or_ge i l.length with h1|h1
 ·rw[Ain h1];exact h _ (List.getElem_mem h1)
 ·exact Ard h1
theorem Byw{l:List Cel}(h:∀c∈l,c.wide=0):Aa3 l:=by
 rw[Ahi]
 have:=Bam h
 exact⟨by rw[this];decide,fun i=>by rw[this,this];decide⟩
theorem Cdb(n:Nat)(a:At):Aa3 (List.replicate n (clr a)):=Byw (fun c hc=>by rw[(List.mem_replicate.1 hc).2];rfl)
def G0(l:List Cel)(col:Nat)(cs:List Cel):List Cel:=Abo (splice l col cs)
theorem Akn{l cs:List Cel}{col:Nat}(h:col+cs.length<=l.length):(G0 l col cs).length=l.length:=by rw[G0,Ber,length_splice _ _ _ h]
theorem Cmd{l cs:List Cel}{col:Nat}(h:col+cs.length<=l.length)(hl:Aa3 l):I4 (splice l col cs) (col-1) (min (col+cs.length+1) l.length)=G0 l col cs:=Aty (Bsx h hl)
theorem Bkh{l:List Cel}{col:Nat}(hl:Aa3 l):G0 l col []=l:=by
 unfold G0 splice
 simp only[List.nil_append,List.length_nil,Nat.add_zero,List.take_append_drop]
 exact Bew hl
def L9(x:Int)(wide:Bool)(a:At):List Cel:=if wide then [⟨x,[],1,a⟩,⟨0,[],2,a⟩]else [⟨x,[],0,a⟩]
def Ahs(l:List Cel)(lo hi:Nat)(a:At):List Cel:=if lo<hi then G0 l lo (List.replicate (hi-lo) (clr a))else l
def Adi(l:List Cel)(col n:Nat)(a:At):List Cel:=l.take col++(List.replicate n (clr a)++(l.drop col).take (l.length-col-n))
def Amf(l:List Cel)(col n:Nat)(a:At):List Cel:=Abo (Adi l col n a)
def Agl(l:List Cel)(col n:Nat)(a:At):List Cel:=(G0 l col (List.replicate n (clr a))).take col++((G0 l col (List.replicate n (clr a))).drop (col+n)++List.replicate n (clr a))
def Aon(l:List Cel)(col n:Nat)(a:At):List Cel:=Agl l col n a
theorem Ayo{l:List Cel}{col n:Nat}(a:At)(h:col+n<=l.length):(Adi l col n a).length=l.length:=by simp[Adi];omega
theorem Bcd{l:List Cel}{col n:Nat}(a:At)(h:col+n<=l.length)(i:Nat) :
  W (Adi l col n a) i=if i<col then W l i else if i<col+n then 0 else if i<l.length then W l (i-n)else 0:=by
 unfold Adi
 by_cases h1:i<col
 ·rw[if_pos h1]
  apply Als
  rw[List.getElem?_append_left (by simp;omega),List.getElem?_take,if_pos h1]
 ·rw[if_neg h1]
  by_cases h2:i<col+n
  ·rw[if_pos h2]
   unfold W
   rw[List.getElem?_append_right (by simp;omega),List.length_take,Nat.min_eq_left (by omega),List.getElem?_append_left (by simp;omega),List.getElem?_replicate,if_pos (by omega)]
   rfl
  ·rw[if_neg h2]
   by_cases h3:i<l.length
   ·rw[if_pos h3]
    apply Als
    rw[List.getElem?_append_right (by simp;omega),List.length_take,Nat.min_eq_left (by omega),List.getElem?_append_right (by simp;omega),List.getElem?_take,List.length_replicate,if_pos (by omega),List.getElem?_drop]
    congr 1
    omega
   ·rw[if_neg h3]
    exact Ard (by have:=Ayo a h;unfold Adi at this;omega)
theorem Bvy{l:List Cel}{col n:Nat}(a:At)(h:col+n<=l.length)(hl:Aa3 l):∀i,F9 (Adi l col n a) i->(col-1<=i/\i<min (col+n+1) l.length)\/(l.length-1<=i/\i<l.length):=by
 intro i hA
 have hlt:=hA.lt
 rw[Ayo a h]at hlt
 rw[Ahi]at hl
 have a0:=Bcd a h i
 have a1:=Bcd a h (i+1)
 have a2:=Bcd a h (i-1)
 apply Decidable.byContradiction
 intro hn
 have Crk:i+1<col\/(col+n<i/\i+1<l.length):=by omega
 rcases Crk with hc|⟨hc,hd⟩
 ·rw[if_pos (by omega)]at a0 a1 a2
  have:=hl.2 i
  rcases hA with⟨c1,c2⟩|⟨c1,c2⟩
  ·exact c2 (by rw[a1];exact this.1 (a0▸c1))
  ·rcases i with _|i
   ·exact hl.1 (a0▸c1)
   ·have h3:=(hl.2 i).2 (a0▸c1)
    rcases c2 with c2|c2
    ·omega
    ·exact c2 (by rw[a2];simpa using h3)
 ·rw[if_neg (by omega),if_neg (by omega),if_pos (by omega)]at a0 a1 a2
  have:=hl.2 (i-n)
  rcases hA with⟨c1,c2⟩|⟨c1,c2⟩
  ·exact c2 (by rw[a1,show i+1-n=i-n+1 by omega];exact this.1 (a0▸c1))
  ·have h3:=(hl.2 (i-1-n)).2 (by rw[show i-1-n+1=i-n by omega,<- a0];exact c1)
   rcases c2 with c2|c2
   ·omega
   ·exact c2 (by rw[a2];exact h3)
theorem Cnj{l:List Cel}{col n:Nat}(a:At)(h:col+n<=l.length)(i:Nat) :
  W (Agl l col n a) i=if i<col then W (G0 l col (List.replicate n (clr a))) i else if i+n<l.length then W (G0 l col (List.replicate n (clr a))) (i+n)else 0:=by
 have hs:(G0 l col (List.replicate n (clr a))).length=l.length:=Akn (by simpa using h)
 unfold Agl
 generalize G0 l col (List.replicate n (clr a))=s at hs
 by_cases h1:i<col
 ·rw[if_pos h1]
  apply Als
  rw[List.getElem?_append_left (by simp;omega),List.getElem?_take,if_pos h1]
 ·rw[if_neg h1]
  by_cases h2:i+n<l.length
  ·rw[if_pos h2]
   apply Als
   rw[List.getElem?_append_right (by simp;omega),List.length_take,Nat.min_eq_left (by omega),List.getElem?_append_left (by simp;omega),List.getElem?_drop]
   congr 1
   omega
  ·rw[if_neg h2]
   unfold W
   rw[List.getElem?_append_right (by simp;omega),List.length_take,Nat.min_eq_left (by omega),List.getElem?_append_right (by simp;omega),List.getElem?_replicate]
   split<;>rename_i hq<;>split at hq<;>first|(simp only[Option.some.injEq]at hq;rw[<- hq];rfl)|rfl|cases hq
theorem Bul{l:List Cel}{col n:Nat}(a:At)(h:col+n<=l.length):(Agl l col n a).length=l.length:=by
 have hs:(G0 l col (List.replicate n (clr a))).length=l.length:=Akn (by simpa using h)
 simp[Agl,hs];omega
theorem Cqv(n i:Nat)(a:At):W (List.replicate n (clr a)) i=0:=Bam (fun c hc=>by rw[(List.mem_replicate.1 hc).2];rfl) i
theorem Bhg{l:List Cel}{col n:Nat}(a:At)(h:col+n<=l.length){i:Nat}(h1:col<=i)(h2:i<col+n):W (G0 l col (List.replicate n (clr a))) i=0:=by
 have hh:col+(List.replicate n (clr a)).length<=l.length:=by simpa using h
 have h0:W (splice l col (List.replicate n (clr a))) i=0:=by
  rw[Aus hh,if_neg (by omega),if_pos (by simp;omega),Cqv]
 rw[G0,Bzd,h0]
 split<;>rfl
theorem Aub(l cs:List Cel)(col:Nat):Aa3 (G0 l col cs):=Bez _
theorem Bhe{l:List Cel}{col n:Nat}(a:At)(h:col+n<=l.length)(hl:Aa3 l):Aa3 (Agl l col n a):=by
 by_cases hn:n=0
 ·subst hn
  have e:Agl l col 0 a=l:=by
   unfold Agl
   simp only[List.replicate_zero,Nat.add_zero,List.append_nil]
   rw[Bkh hl,List.take_append_drop]
  rw[e];exact hl
 have hs:=Aub l (List.replicate n (clr a)) col
 have hlen:(G0 l col (List.replicate n (clr a))).length=l.length:=Akn (by simpa using h)
 have hz:=fun i h1 h2=>Bhg a h (i:=i) h1 h2
 have hw:=Cnj a h
 have ho:=fun i (hi:l.length<=i)=>Ard (l:=G0 l col (List.replicate n (clr a))) (i:=i) (by omega)
 rw[Ahi]at hs |-
 generalize G0 l col (List.replicate n (clr a))=s at hs hz hw ho hlen
 refine⟨?_,fun i=>?_⟩
 ·rw[hw]
  by_cases c0:0<col
  ·rw[if_pos c0];exact hs.1
  ·rw[if_neg c0]
   split
   ·rename_i hlt
    have h1:=hz (n-1) (by omega) (by omega)
    have h2:=(hs.2 (n-1)).2
    rw[show n-1+1=0+n by omega]at h2
    intro hh
    have:=h2 hh
    omega
   ·decide
 ·rw[hw i,hw (i+1)]
  by_cases c0:i+1<col
  ·rw[if_pos (by omega),if_pos c0];exact hs.2 i
  ·rw[if_neg c0]
   by_cases c1:i<col
   ·obtain rfl:col=i+1:=by omega
    rw[if_pos (by omega)]
    have h0:=hz (i+1) (by omega) (by omega)
    have h1:=(hs.2 i).1
    have h3:=hz (i+n) (by omega) (by omega)
    have h4:=(hs.2 (i+n)).2
    constructor
    ·intro hh
     have:=h1 hh
     omega
    ·intro hh
     split at hh
     ·rw[show i+1+n=i+n+1 by omega]at hh
      have:=h4 hh
      omega
     ·omega
   ·rw[if_neg c1]
    by_cases c2:i+1+n<l.length
    ·rw[if_pos (by omega),if_pos c2,show i+1+n=i+n+1 by omega]
     exact hs.2 (i+n)
    ·rw[if_neg c2]
     have h5:=(hs.2 (i+n)).1
     have h6:=ho (i+n+1) (by omega)
     constructor
     ·intro hh
      split at hh
      ·have:=h5 hh
       omega
      ·omega
     ·intro hh
      omega
end Go.Proofs.YtecnpoigegiooaaGreatDoor.Rw
namespace Go.Proofs.YtecnpoigegiooaaGreatDoor.Rw
open Go RowKit Com
def fl{α:Type}(f:α->List Value)(l:List α):List Value:=(l.map f).flatten
section
variable {α:Type}{f:α->List Value}{s:Nat}
theorem Acq(a:α):fl f [a]=f a:=by simp[fl]
theorem Z9(l m:List α):fl f (l++m)=fl f l++fl f m:=by simp[fl]
theorem Q4(hs:∀a,(f a).length=s)(l:List α):(fl f l).length=l.length*s:=by
 unfold fl
 induction l with
 |nil=>simp
 |cons a l ih=>simp only[List.map_cons,List.flatten_cons,List.length_append,ih,hs,List.length_cons,Nat.add_mul];omega
theorem Avn(hs:∀a,(f a).length=s)(l:List α)(k:Nat)(hk:k<=l.length):(fl f l).take (k*s)=fl f (l.take k):=by
 have e:fl f l=fl f (l.take k)++fl f (l.drop k):=by rw[<- Z9,List.take_append_drop]
 have hl:(fl f (l.take k)).length=k*s:=by rw[Q4 hs,List.length_take,Nat.min_eq_left hk]
 rw[e,<- hl,List.take_left]
theorem Avm(hs:∀a,(f a).length=s)(l:List α)(k:Nat)(hk:k<=l.length):(fl f l).drop (k*s)=fl f (l.drop k):=by
 have e:fl f l=fl f (l.take k)++fl f (l.drop k):=by rw[<- Z9,List.take_append_drop]
 have hl:(fl f (l.take k)).length=k*s:=by rw[Q4 hs,List.length_take,Nat.min_eq_left hk]
 rw[e,<- hl,List.drop_left]
theorem Ahz(hs:∀a,(f a).length=s){l:List α}{i j:Nat}(hi:i<l.length)(hj:j<s):(fl f l)[i*s+j]?=(f l[i])[j]?:=by
 have e:fl f l=fl f (l.take i)++(f l[i]++fl f (l.drop (i+1))):=by
  rw[<- Acq (f:=f) l[i],<- Z9,<- Z9,List.singleton_append,<- List.drop_eq_getElem_cons hi,List.take_append_drop]
 have hl:(fl f (l.take i)).length=i*s:=by rw[Q4 hs,List.length_take,Nat.min_eq_left (by omega)]
 rw[e,List.getElem?_append_right (by omega),hl,Nat.add_sub_cancel_left,List.getElem?_append_left (by rw[hs];exact hj)]
theorem Ajb(hs:∀a,(f a).length=s)(l cs:List α)(tail:List Value)(k:Nat)(hk:k+cs.length<=l.length):splice (fl f l++tail) (k*s) (fl f cs)=fl f (splice l k cs)++tail:=by
 have h1:=Avn hs l k (by omega)
 have h2:=Avm hs l (k+cs.length) hk
 have hl:=Q4 hs l
 have hle:(k+cs.length)*s<=l.length*s:=Nat.mul_le_mul_right s hk
 have hke:k*s<=l.length*s:=Nat.mul_le_mul_right s (by omega)
 unfold splice
 rw[Q4 hs cs,<- Nat.add_mul,List.take_append_of_le_length (by omega),List.drop_append_of_le_length (by omega),h1,h2,Z9,Z9]
 simp only[List.append_assoc]
end
theorem Aph{α:Type}(l:List α)(i:Nat)(a:α)(h:i<l.length):splice l i [a]=l.set i a:=by
 unfold splice
 rw[List.set_eq_take_append_cons_drop,if_pos h]
 rfl
def Adj(m:List Int):List Int:=(m++[0,0,0,0]).take 4
def R9(a:At):List Value:=[.int .u32 a.f,.int .u32 a.b,.int .u16 a.g]
def B6(c:Cel):List Value:=.int .i32 c.r::((Adj c.m).map (Value.int .i32)++(.int .u8 c.m.length::.int .u8 c.wide::R9 c.a))
theorem Amp(m:List Int):(Adj m).length=4:=by simp[Adj]
theorem N3(c:Cel):(B6 c).length=10:=by simp[B6,Amp,R9]
theorem Apn(c:Cel)(j:Nat):(B6 c)[5+j]?=(Value.int .u8 c.m.length::.int .u8 c.wide::R9 c.a)[j]?:=by
 unfold B6
 rw[show 5+j=(4+j)+1 by omega,List.getElem?_cons_succ,List.getElem?_append_right (by simp[Amp]),List.length_map,Amp]
 congr 1
 omega
theorem Akr(c:Cel):∀v∈B6 c,v.oneCell'=true:=by
 intro v hv
 simp only[B6,R9,List.mem_cons,List.mem_append,List.mem_map,List.not_mem_nil,or_false]at hv
 rcases hv with rfl|⟨x,_,rfl⟩|rfl|rfl|rfl|rfl|rfl<;>rfl
theorem Aqf{α:Type}{f:α->List Value}(h:∀a,∀v∈f a,v.oneCell'=true)(l:List α):∀v∈fl f l,v.oneCell'=true:=by
 intro v hv
 simp only[fl,List.mem_flatten,List.mem_map]at hv
 obtain⟨_,⟨a,_,rfl⟩,hv⟩:=hv
 exact h a v hv
structure B7(w:World)(d g n cap:Nat)(tail:List Value)(l:List Cel):Prop where
 ptr:Block w d 191 #[.slice (some ⟨g,0,none⟩) n cap]
 row:Block w g 194 (fl B6 l++tail).toArray
 len:l.length=n
 le:n<=cap
 cap:cap<=maxLen
 pos:0<n
 small:n<=512
section
variable {w w':World}{d g n cap:Nat}{tail:List Value}{l:List Cel}
theorem B7.slice(h:B7 w d g n cap tail l):w.cell? ⟨d,0,none⟩=some (.slice (some ⟨g,0,none⟩) n cap):=h.ptr.cell 0 rfl
theorem B7.at'(h:B7 w d g n cap tail l){i j:Nat}(hi:i<l.length)(hj:j<10){v:Value}(hv:(B6 l[i])[j]?=some v):w.cell? ⟨g,i*10+j,none⟩=some v:=by
 refine h.row.cell _ ?_
 have e:=Ahz N3 hi hj
 have hlt:i*10+j<(fl B6 l).length:=by
  rw[Q4 N3]
  have:(i+1)*10<=l.length*10:=Nat.mul_le_mul_right _ hi
  omega
 simp only[List.getElem?_toArray]
 rw[List.getElem?_append_left hlt,e,hv]
theorem B7.wide(h:B7 w d g n cap tail l){i:Nat}(hi:i<l.length):w.cell? ⟨g,i*10+6,none⟩=some (.int .u8 l[i].wide):=h.at' hi (by omega) (Apn _ 1)
theorem B7.count(h:B7 w d g n cap tail l){i:Nat}(hi:i<l.length):w.cell? ⟨g,i*10+5,none⟩=some (.int .u8 l[i].m.length):=h.at' hi (by omega) (Apn _ 0)
theorem B7.fg(h:B7 w d g n cap tail l){i:Nat}(hi:i<l.length):w.cell? ⟨g,i*10+7,none⟩=some (.int .u32 l[i].a.f):=h.at' hi (by omega) (Apn _ 2)
theorem B7.bg(h:B7 w d g n cap tail l){i:Nat}(hi:i<l.length):w.cell? ⟨g,i*10+8,none⟩=some (.int .u32 l[i].a.b):=h.at' hi (by omega) (Apn _ 3)
theorem B7.gg(h:B7 w d g n cap tail l){i:Nat}(hi:i<l.length):w.cell? ⟨g,i*10+9,none⟩=some (.int .u16 l[i].a.g):=h.at' hi (by omega) (Apn _ 4)
theorem B7.ne(h:B7 w d g n cap tail l):d≠g:=Block.apart h.ptr h.row (by decide)
theorem B7.kept{L:List Nat}(h:B7 w d g n cap tail l)(ho:A0 L w w')(hd:d∉L)(hg:g∉L):B7 w' d g n cap tail l:=⟨h.ptr.only ho hd,h.row.only ho hg,h.len,h.le,h.cap,h.pos,h.small⟩
theorem B7.below(h:B7 w d g n cap tail l)(hb:Below w.heap.size w w'):B7 w' d g n cap tail l:=h.kept (A0.A1 hb []) (by simp) (by simp)
theorem B7.drawn(h:B7 w d g n cap tail l):B7 w.drew d g n cap tail l:=h.kept (A0.drewN [] w 1) (by simp) (by simp)
theorem B7.Aea{l':List Cel}(h:B7 w d g n cap tail l)(ho:A0 [g] w w')(hr:Block w' g 194 (fl B6 l'++tail).toArray)(hl:l'.length=l.length):B7 w' d g n cap tail l' :=
 ⟨h.ptr.only ho (by simpa using h.ne),hr,hl.trans h.len,h.le,h.cap,h.pos,h.small⟩
end
def Typ(w:World)(k:Nat)(t:TypeId):Prop:=∃cs fz,w.heap[k]?=some (.cells cs t fz)
theorem Block.typ{w:World}{g:Nat}{t:TypeId}{cs:Array Value}(h:Block w g t cs):Typ w g t:=⟨cs,_,h⟩
theorem Typ.inj{w:World}{k:Nat}{t t':TypeId}(h:Typ w k t)(h':Typ w k t'):t=t':=by
 obtain⟨cs,fz,h⟩:=h
 obtain⟨cs',fz',h'⟩:=h'
 rw[h]at h'
 simp only[Option.some.injEq,Obj.cells.injEq]at h'
 exact h'.2.1
structure Fr(B:Nat)(ts:List TypeId)(w w':World):Prop where
 os:w'.os=w.os
 tape:w'.tape=w.tape
 output:w'.output=w.output
 size:w.heap.size<=w'.heap.size
 block:∀k,k<w.heap.size->(k<B\/∀t∈ts,¬Typ w k t)->w'.heap[k]?=w.heap[k]?
theorem Fr.A1{B:Nat}{ts:List TypeId}{a b:World}(h:Below a.heap.size a b):Fr B ts a b:=⟨h.os,h.tape,h.output,h.size,fun k hk _=>h.block k hk⟩
theorem Fr.I9{B:Nat}{ts:List TypeId}{L:List Nat}{a b:World}(h:A0 L a b)(hL:∀k∈L,k<a.heap.size->B<=k/\∃t∈ts,Typ a k t):Fr B ts a b :=
 ⟨h.os,h.tape,h.output,h.size,fun k hk hn=>h.block k hk fun hm=>by
  obtain⟨h1,t,ht,hT⟩:=hL k hm hk
  rcases hn with hn|hn
  ·omega
  ·exact hn t ht hT⟩
theorem Block.fr{B:Nat}{ts:List TypeId}{a b:World}{g:Nat}{t:TypeId}{cs:Array Value}(h:Block a g t cs)(hf:Fr B ts a b)(ht:t∉ts\/g<B):Block b g t cs :=
 (hf.block g h.lt (ht.symm.imp id fun ht t' ht' hT=>ht (by rw[Typ.inj (Block.typ h) hT];exact ht'))).trans h
section
variable {P:Program}
theorem Cbz(w:World)(dT sT ty elem:TypeId)(s g off dLen dCap sLen sCap:Nat)(ad:Addr)(cur:List Value)(t:TypeId)(cs:List Value)(hu:P.underlying dT=some (.slice elem))(hs:(P.info? elem).map (·.size)=some s)
  (hg:Block w g t cur.toArray) (hn:cs.length=Nat.min sLen dLen*s) (Afn:∀j v,cs[j]?=some v->w.cell? (ad.add j)=some v) (S0:off+cs.length<=cur.length) (h1:∀v∈cs,v.oneCell'=true) :
  (Builtin.copy_ #[dT,sT] ty #[.slice (some ⟨g,off,none⟩) dLen dCap,.slice (some ad) sLen sCap]).run P w=.ok (goInt (Nat.min sLen dLen)) (w.setRow g (splice cur off cs).toArray):=by
 have hl:=run_loadCells_list (P:=P) w ad cs Afn
 have hst:=run_storeCells_at P g off t cs 0 cur.toArray w hg (by simpa using S0) h1
 cases hq:P.info? elem with
 |none=>simp[hq]at hs
 |some i =>
  have hi:i.size=s:=by simpa[hq]using hs
  simp only[Nat.add_zero]at hst
  simp[Builtin.copy_,run_underlying hu,Builtin.lenOf,Builtin.firstCells,sizeOf,typeInfo,hq,hi,<- hn,hl,hst,splice]
theorem Biq(w:World)(dT sT ty elem:TypeId)(dp sp:Option Addr)(dLen dCap sLen sCap:Nat)(hu:P.underlying dT=some (.slice elem))(hs:∃s,(P.info? elem).map (·.size)=some s)(hn:Nat.min sLen dLen=0) :
  (Builtin.copy_ #[dT,sT] ty #[.slice dp dLen dCap,.slice sp sLen sCap]).run P w=.ok (goInt 0) w:=by
 obtain⟨s,hs⟩:=hs
 cases hq:P.info? elem with
 |none=>simp[hq]at hs
 |some i =>
  have hl:∀ad,(loadCells ad 0).run P w=.ok #[] w:=fun ad=>run_loadCells_list (P:=P) w ad [] (fun j v hj=>by simp at hj)
  rcases sp with _|sp<;>rcases dp with _|dp<;>simp[Builtin.copy_,run_underlying hu,Builtin.lenOf,Builtin.firstCells,sizeOf,typeInfo,hq,hn,hl,storeCells]
theorem Bkr{o:Oper}{a:Act}{w:World}{K:Act->World->Prop}{Q:Exit->Act->World->Prop}(d x:Operand)(dT sT:TypeId)
  (ho:o.op=.call { callee:=.builtin .copy,args:=#[d,x],argTypes:=#[dT,sT] }) (elem:TypeId) (s:Nat) (hu:P.underlying dT=some (.slice elem)) (hs:(P.info? elem).map (·.size)=some s)
  (dp sp:Option Addr) (dLen dCap sLen sCap:Nat) (hd:a.eval d=.slice dp dLen dCap) (hx:a.eval x=.slice sp sLen sCap)
  (g off:Nat) (cur:List Value) (t:TypeId) (hg:Block w g t cur.toArray) (cs:List Value) (hn:cs.length=min sLen dLen*s)
  (Aal:0<sLen->0<dLen->dp=some ⟨g,off,none⟩/\∃ad,sp=some ad/\∀j v,cs[j]?=some v->w.cell? (ad.add j)=some v)
  (S0:off+cs.length<=cur.length) (h1:∀v∈cs,v.oneCell'=true)
  (h:∀w',Hid (Block w' g t (splice cur off cs).toArray)->A0 [g] w w'->K (a.put o.dst (goInt (min sLen dLen:Nat))) w'):o.wp P a w K Q:=by
 unfold Oper.wp
 change cs.length=Nat.min sLen dLen*s at hn
 change ∀w',Hid (Block w' g t (splice cur off cs).toArray)->A0 [g] w w'->K (a.put o.dst (goInt (Nat.min sLen dLen))) w' at h
 by_cases h0:Nat.min sLen dLen=0
 ·have G4:=Biq (P:=P) w dT sT o.type elem dp sp dLen dCap sLen sCap hu ⟨s,hs⟩ h0
  simp[execOp,ho,resolve,invoke,builtin,hd,hx,G4,Result.andThen]
  rw[h0]at hn h
  obtain rfl:cs=[]:=List.eq_nil_of_length_eq_zero (by simpa using hn)
  exact h w (J0 (by simpa[splice]using hg)) (A0.refl _ _)
 ·obtain⟨rfl,ad,rfl,Afn⟩:=Aal (Nat.pos_of_ne_zero fun e=>h0 (by rw[e];exact Nat.zero_min _)) (Nat.pos_of_ne_zero fun e=>h0 (by rw[e];exact Nat.min_zero _))
  have G4:=Cbz (P:=P) w dT sT o.type elem s g off dLen dCap sLen sCap ad cur t cs hu hs hg hn Afn S0 h1
  simp only[execOp,ho,resolve,invoke,builtin,List.map_toArray,List.map_cons,List.map_nil,hd,hx,Sem.run_bind,G4,Result.andThen_ok,Sem.run_pure]
  exact h _ (setRow_heap w g _ _ t _ hg) (Adl w g _)
theorem Bub{o:Oper}{ops:Array Oper}{rest:List Oper}{a:Act}{w:World}{Q:Exit->Act->World->Prop}(hgd:o.guard=none)(d x:Operand)(dT sT:TypeId)
  (ho:o.op=.call { callee:=.builtin .copy,args:=#[d,x],argTypes:=#[dT,sT] }) (elem:TypeId) (s:Nat) (hu:P.underlying dT=some (.slice elem)) (hs:(P.info? elem).map (·.size)=some s)
  (dp sp:Option Addr) (dLen dCap sLen sCap:Nat) (hd:a.eval d=.slice dp dLen dCap) (hx:a.eval x=.slice sp sLen sCap)
  (g off:Nat) (cur:List Value) (t:TypeId) (hg:Block w g t cur.toArray) (cs:List Value) (hn:cs.length=min sLen dLen*s)
  (Aal:0<sLen->0<dLen->dp=some ⟨g,off,none⟩/\∃ad,sp=some ad/\∀j v,cs[j]?=some v->w.cell? (ad.add j)=some v)
  (S0:off+cs.length<=cur.length) (h1:∀v∈cs,v.oneCell'=true)
  (h:∀w',Hid (Block w' g t (splice cur off cs).toArray)->A0 [g] w w'->wpList P ops Q rest (a.put o.dst (goInt (min sLen dLen:Nat))) w'):wpList P ops Q (o::rest) a w :=
 wpList_plain hgd fun _ hK=>Bkr d x dT sT ho elem s hu hs dp sp dLen dCap sLen sCap hd hx g off cur t hg cs hn Aal S0 h1 fun w' h2 h3=>hK _ _ (h w' h2 h3)
theorem Atz{ops:Array Oper}{o:Oper}{a:Act}{w:World}{K:Act->World->Prop}{Q:Exit->Act->World->Prop}{E:Prop}(hgd:o.guard=none)(d x:Operand)(dT sT:TypeId)
  (ho:o.op=.call { callee:=.builtin .copy,args:=#[d,x],argTypes:=#[dT,sT] }) (elem:TypeId) (s:Nat) (hu:P.underlying dT=some (.slice elem)) (hs:(P.info? elem).map (·.size)=some s)
  (dp sp:Option Addr) (dLen dCap sLen sCap:Nat) (hd:a.eval d=.slice dp dLen dCap) (hx:a.eval x=.slice sp sLen sCap)
  (g off:Nat) (cur:List Value) (t:TypeId) (hg:Block w g t cur.toArray) (cs:List Value) (hn:cs.length=min sLen dLen*s)
  (Aal:0<sLen->0<dLen->dp=some ⟨g,off,none⟩/\∃ad,sp=some ad/\∀j v,cs[j]?=some v->w.cell? (ad.add j)=some v)
  (S0:off+cs.length<=cur.length) (h1:∀v∈cs,v.oneCell'=true)
  (h:∀w',Hid (Block w' g t (splice cur off cs).toArray)->A0 [g] w w'->K (a.put o.dst (goInt (min sLen dLen:Nat))) w') :
  if Region.wanted o (yielded ops a.tmps)=true then Oper.wp P o a w K Q else E:=by
 rw[if_pos (by simp[Region.wanted,hgd])]
 exact Bkr d x dT sT ho elem s hu hs dp sp dLen dCap sLen sCap hd hx g off cur t hg cs hn Aal S0 h1 h
theorem Apa(w:World)(ty:TypeId)(ad:Addr)(cs:List Value)(d:TypeDesc)(hc:∀j v,cs[j]?=some v->w.cell? (ad.add j)=some v)
  (hu:P.underlying ty=some d) (hd:(match d with|.struct _|.array _ _=>true|_=>false)=true) (hi:(P.info? ty).map (·.size)=some cs.length):(loadVar ty ad).run P w=.ok (.agg cs.toArray) w:=by
 have hl:=run_loadCells_list (P:=P) w ad cs hc
 have Bdr:(isAgg ty).run P w=.ok true w:=by
  unfold isAgg
  rw[Sem.run_bind,run_underlying hu w]
  cases d<;>simp_all
 cases hq:P.info? ty with
 |none=>simp[hq]at hi
 |some i =>
  have hs:i.size=cs.length:=by simpa[hq]using hi
  simp[loadVar,Sem.run_bind,Bdr,sizeOf,typeInfo,hq,hs,hl]
theorem Aix{o:Oper}{ops:Array Oper}{rest:List Oper}{a:Act}{w:World}{Q:Exit->Act->World->Prop}(hw:Region.wanted o (yielded ops a.tmps)=true)(ty:TypeId)(x:Operand)(ho:o.op=.load ty x)(ad:Addr)(hx:a.eval x=.pointer (some ad))
  (cs:List Value) (d:TypeDesc) (hc:∀j v,cs[j]?=some v->w.cell? (ad.add j)=some v) (hu:P.underlying ty=some d) (hd:(match d with|.struct _|.array _ _=>true|_=>false)=true) (hi:(P.info? ty).map (·.size)=some cs.length)
  (h:wpList P ops Q rest (a.put o.dst (.agg cs.toArray)) w):wpList P ops Q (o::rest) a w :=
 Afq hw fun _ hK=>by
  unfold Oper.wp execOp
  simp only[ho,hx,Instr.loadAt,Instr.sureAddr,Sem.run_bind,Sem.run_pure,Result.andThen_ok,Apa w ty ad cs d hc hu hd hi]
  exact hK _ _ h
theorem Cde{o:Oper}{a:Act}{w:World}{K:Act->World->Prop}{Q:Exit->Act->World->Prop}(ty:TypeId)(x y:Operand)(ho:o.op=.store ty x y)
  {g i:Nat} {t:TypeId} {cur:List Value} (hb:Block w g t cur.toArray) (vs:List Value) (hx:a.eval x=.pointer (some ⟨g,i,none⟩)) (hy:a.eval y=.agg vs.toArray) (hi:i+vs.length<=cur.length) (Y8:(P.info? ty).map (·.size)=some vs.length) (h1:∀v∈vs,v.oneCell'=true)
  (h:∀w',Hid (Block w' g t (splice cur i vs).toArray)->A0 [g] w w'->K (a.put o.dst undef) w'):o.wp P a w K Q:=by
 have G4:=run_storeCells_at P g i t vs 0 cur.toArray w hb (by simpa using hi) h1
 cases hq:P.info? ty with
 |none=>simp[hq]at Y8
 |some j =>
  have hs:j.size=vs.length:=by simpa[hq]using Y8
  have hc:(Value.agg vs.toArray).cells=vs.toArray:=rfl
  simp only[Nat.add_zero]at G4
  unfold Oper.wp execOp
  simp[ho,hx,hy,Instr.storeAt,Instr.sureAddr,Sem.run_bind,Sem.run_pure,storeVar,sizeOf,typeInfo,hq,hc,hs,G4]
  exact h _ (J0 (by simpa[splice,Block]using setRow_heap w g _ _ t _ hb)) (Adl w g _)
theorem Amj{o:Oper}{ops:Array Oper}{rest:List Oper}{a:Act}{w:World}{Q:Exit->Act->World->Prop}(hgd:o.guard=none)(ty:TypeId)(x y:Operand)(ho:o.op=.store ty x y)
  {g i:Nat} {t:TypeId} {cur:List Value} (hb:Block w g t cur.toArray) (vs:List Value) (hx:a.eval x=.pointer (some ⟨g,i,none⟩)) (hy:a.eval y=.agg vs.toArray) (hi:i+vs.length<=cur.length) (Y8:(P.info? ty).map (·.size)=some vs.length) (h1:∀v∈vs,v.oneCell'=true)
  (h:∀w',Hid (Block w' g t (splice cur i vs).toArray)->A0 [g] w w'->wpList P ops Q rest (a.put o.dst undef) w'):wpList P ops Q (o::rest) a w :=
 wpList_plain hgd fun _ hK=>Cde ty x y ho hb vs hx hy hi Y8 h1 fun w' h2 h3=>hK _ _ (h w' h2 h3)
end
