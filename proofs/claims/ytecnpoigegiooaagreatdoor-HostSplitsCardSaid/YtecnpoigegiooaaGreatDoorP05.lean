/- Part 5 of HostSplits. -/
import Derived.Test.YtecnpoigegiooaaGreatDoorP04
import Derived.Laws.CopyOwn
import Derived.Laws.RangeAny
set_option maxHeartbeats 16000000
set_option maxRecDepth 100000
namespace Go.Proofs.YtecnpoigegiooaaGreatDoor.Utf
open Go RowKit Com
theorem Ba7 {w w1 w2:World} {B d:Nat} {v v1 v2:Value} {out:List Int} {R1 R2:Dec×List Int} (h1:Told w B d v out R1 v1 w1) (h2:Told w1 B d v1 (out++R1.2) R2 v2 w2):Told w B d v out (R2.1,R1.2++R2.2) v2 w2:=by
 have hs:=h1.only.size
 refine⟨h2.dec,by rw[<- List.append_assoc];exact h2.own,h1.only.then h2.only (fun k hk=>?_),fun g hg=>?_⟩
 ·rcases List.mem_cons.1 hk with rfl|hk
  ·exact .inl (List.mem_cons_self ..)
  ·rcases h1.lies k (by simpa using hk) with e|e
   ·exact .inl (List.mem_cons_of_mem _ (by simpa using e))
   ·exact .inr e
 ·rcases h2.lies g hg with e|e
  ·exact h1.lies g e
  ·exact .inr (by omega)
theorem Bq2 (D:Dec) (hD:D.Ok) (x:Int) (hx:IsByte x) (d:Nat) (v:Value) (out:List Int) (B:Nat) (w:World) (hB:B<=w.heap.size) (hd:DecIn w d D) (hown:Own w B 21 .i32 v out) (hlen:out.length<=1000000) :
  Calls Tryz.prog 83 #[.pointer (some ⟨d,0,none⟩),.int .u8 x,v] w (Co5 w B d v out (takeF D x)):=by
 obtain⟨hx0,hx1⟩:=hx
 have c0:=hd.c0
 have c3:=hd.c3
 have c4:=hd.c4
 have hne:¬(0<D.o/\D.lo<=x/\x<=D.hi)->Hid (takeF D x=((Al2 zero x).1,(endF D).2++(Al2 zero x).2)):=fun h=>by
  show _=_
  unfold takeF
  rw[if_neg h,Ch3 hD]
 have hend:=J0 (Az4 D d v out B w hB hd hown (by omega))
 have hz:=J0 (Ch3 hD)
 have hel:=Ch2 D
 by_cases ho:0<D.o
 ·by_cases hlo:D.lo<=x
  ·by_cases hhi:x<=D.hi
   ·have hE:Hid (takeF D x=Bi7 D x):=by show _=_;unfold takeF;rw[if_pos ⟨ho,hlo,hhi⟩]
    have hgo:=J0 (Bn8 D hD x ho hlo hhi d v out B w hB hd hown (by omega))
    clear hne hend hz hel hD
    go_enter Tryz.func83,Tryz.ntmps83
    go_wp2_with ((go_at_call 108;refine(hgo.out).mono ?_;rintro e w1 ⟨v',rfl,ht⟩))
    go_ret
    rw[hE.out]
    exact⟨v',rfl,ht⟩
   ·have hE:=hne (by omega)
    clear hne hD
    go_enter Tryz.func83,Tryz.ntmps83
    go_wp2_with (first
     |(go_at_call 110;refine(hend.out).mono ?_;rintro e w1 ⟨v1,rfl,ht1⟩;have hd1:=ht1.dec;rw[hz.out] at hd1;have hs1:=ht1.only.size)
     |(go_at_call 109;refine(Ah0 x hx0 hx1 d v1 _ B w1 (by omega) hd1 ht1.own (by simp;omega)).mono ?_;rintro e w2 ⟨v2,rfl,ht2⟩))
    go_ret
    rw[hE.out]
    exact⟨v2,rfl,Ba7 ht1 ht2⟩
  ·have hE:=hne (by omega)
   clear hne hD
   go_enter Tryz.func83,Tryz.ntmps83
   go_wp2_with (first
    |(go_at_call 110;refine(hend.out).mono ?_;rintro e w1 ⟨v1,rfl,ht1⟩;have hd1:=ht1.dec;rw[hz.out] at hd1;have hs1:=ht1.only.size)
    |(go_at_call 109;refine(Ah0 x hx0 hx1 d v1 _ B w1 (by omega) hd1 ht1.own (by simp;omega)).mono ?_;rintro e w2 ⟨v2,rfl,ht2⟩))
   go_ret
   rw[hE.out]
   exact⟨v2,rfl,Ba7 ht1 ht2⟩
 ·have hE:=hne (by omega)
  clear hne hD
  go_enter Tryz.func83,Tryz.ntmps83
  go_wp2_with (first
   |(go_at_call 110;refine(hend.out).mono ?_;rintro e w1 ⟨v1,rfl,ht1⟩;have hd1:=ht1.dec;rw[hz.out] at hd1;have hs1:=ht1.only.size)
   |(go_at_call 109;refine(Ah0 x hx0 hx1 d v1 _ B w1 (by omega) hd1 ht1.own (by simp;omega)).mono ?_;rintro e w2 ⟨v2,rfl,ht2⟩))
  go_ret
  rw[hE.out]
  exact⟨v2,rfl,Ba7 ht1 ht2⟩
structure Fed (w:World) (d:Nat) (R:Dec×List Int) (v':Value) (w':World):Prop where
 dec:DecIn w' d R.1
 own:Own w' w.heap.size 21 .i32 v' R.2
 only:Only [d] w w'
def Feeds (w:World) (d:Nat) (R:Dec×List Int) (e:Ending) (w':World):Prop:=∃v',e=.returned v'/\Fed w d R v' w'
theorem fed_of {w w':World} {d:Nat} {R:Dec×List Int} {v':Value} (h:Told w w.heap.size d (.slice none 0 0) [] R v' w'):Fed w d R v' w' :=
 ⟨h.dec,by simpa using h.own,by simpa[Value.ownBlock] using h.only⟩
theorem feed_any (D:Dec) (hD:D.Ok) (x:Int) (hx:IsByte x) (d:Nat) (w:World) (hd:DecIn w d D):Calls Tryz.prog 58 #[.pointer (some ⟨d,0,none⟩),.int .u8 x] w (Feeds w d (takeF D x)):=by
 have ht:=J0 (Bq2 D hD x hx d (.slice none 0 0) [] w.heap.size w (J5 _) hd (Own.nil _ _ _ _) (by simp))
 go_enter Tryz.func58,Tryz.ntmps58
 go_wp2_with ((go_at_call 83;refine(ht.out).mono ?_;rintro e w1 ⟨v',rfl,ht1⟩))
 go_ret
 exact⟨v',rfl,fed_of ht1⟩
theorem new_any (w:World):Calls Tryz.prog 19 #[] w fun e w'=>e=.returned (.pointer (some ⟨w.heap.size,0,none⟩))/\DecIn w' w.heap.size zero/\Only [] w w':=by
 go_enter Tryz.func19,Tryz.ntmps19
 go_wp2
 go_ret
 exact⟨rfl,Block.made _ _ _,Only.alloc _ _ _⟩
end Go.Proofs.YtecnpoigegiooaaGreatDoor.Utf
namespace Go.Proofs.YtecnpoigegiooaaGreatDoor.Lns
open Go
section
variable {α β:Type}
def lg (P:List α) (o:Nat):List α:=P.drop o++P.take o
theorem lg_0 (P:List α):lg P 0=P:=by simp[lg]
theorem Ca5 (P:List α) (o:Nat):(lg P o).length=P.length:=by simp[lg];omega
theorem lg_at (P:List α) {o i:Nat} (ho:o<P.length) (hi:i<P.length):(lg P o)[i]?=P[(o+i) % P.length]?:=by
 unfold lg
 by_cases h:o+i<P.length
 ·rw[List.getElem?_append_left (by simp;omega),List.getElem?_drop,Nat.mod_eq_of_lt h]
 ·rw[List.getElem?_append_right (by simp;omega),List.length_drop,List.getElem?_take,if_pos (by omega),Nat.mod_eq_sub_mod (by omega),Nat.mod_eq_of_lt (by omega)]
  congr 1
  omega
theorem lg_put (P:List α) {o:Nat} (ho:o<P.length) (x:α):lg (P.set o x) ((o+1) % P.length)=(lg P o++[x]).drop 1:=by
 unfold lg
 have hd:P.drop o=P[o]::P.drop (o+1):=List.drop_eq_getElem_cons ho
 have hset:P.set o x=P.take o++x::P.drop (o+1):=by rw[List.set_eq_take_append_cons_drop,if_pos ho]
 have hl:(P.take o).length=o:=by simp;omega
 by_cases h:o+1<P.length
 ·rw[Nat.mod_eq_of_lt h,hset,hd]
  simp only[List.cons_append,List.drop_succ_cons,List.drop_zero]
  rw[List.drop_append,List.drop_eq_nil_of_le (by omega),hl,show o+1 - o=1 by omega,List.take_append,List.take_of_length_le (by omega),hl,show o+1 - o=1 by omega]
  simp
 ·have h1:P.length=o+1:=by omega
  rw[show (o+1) % P.length=0 from by rw[h1];exact Nat.mod_self _,hset,hd,List.drop_eq_nil_of_le (show P.length<=o+1 by omega)]
  simp
def Ai5 (most:Nat) (L:List α) (x:α):List α:=if most<L.length+1 then (L++[x]).drop 1 else L++[x]
theorem Bu9 {most:Nat} {L:List α} {x e:α} (h:e∈Ai5 most L x):e∈L\/e=x:=by
 unfold Ai5 at h
 split at h
 ·simpa using List.mem_of_mem_drop h
 ·simpa using h
theorem pushL_map (f:α->β) (most:Nat) (L:List α) (x:α):(Ai5 most L x).map f=Ai5 most (L.map f) (f x):=by
 unfold Ai5
 rw[List.length_map]
 split<;>simp
end
end Go.Proofs.YtecnpoigegiooaaGreatDoor.Lns
namespace Go.Proofs.YtecnpoigegiooaaGreatDoor.Com
open Go RowKit
theorem Ab2 (L:List Nat) (w:World):Only L w w.drew:=⟨rfl,rfl,rfl,J5 _,fun _ _ _=>rfl⟩
theorem Ax2 {w w':World} (h:Only (Value.slice none 0 0).ownBlock.toList w w'):Only [] w w':=by simpa[Value.ownBlock] using h
theorem Bg6 {w:World} {B:Nat} {e:TypeId} {k:IntKind} {v:Value} {l:List Int} (h:Own w B e k v l):∃ao n c,v=.slice ao n c:=by
 obtain⟨ao,c,e,_⟩:=h.shape
 exact⟨ao,_,c,e⟩
def NumsP (w:World) (ok:Nat->Prop) (k:IntKind) (ao:Option Addr) (l:List Int):Prop :=
 ∀i x,l[i]?=some x->∃ad,ao=some ad/\ok ad.block/\w.cell? (ad.add i)=some (.int k x)
section
variable {w w':World}{ok ok':Nat->Prop}{k:IntKind}{ao:Option Addr}{l:List Int}
theorem NumsP.mono (h:NumsP w ok k ao l) (hm:∀g,g<w.heap.size->ok g->ok' g):NumsP w ok' k ao l:=fun i x hx=>by
 obtain⟨ad,e,hk,hc⟩:=h i x hx
 have hlt:=World.block_lt_of_cell? _ _ hc
 rw[Ac5] at hlt
 exact⟨ad,e,hm _ hlt hk,hc⟩
theorem NumsP.nums (h:NumsP w ok k ao l):Nums w w.heap.size k ao l:=h.mono (fun _ hg _=>hg)
end
theorem Ax0 {w:World} {B:Nat} {e:TypeId} {k:IntKind} {v:Value} {l:List Int} (h:Own w B e k v l):∃ao cap,v=.slice ao l.length cap/\l.length<=cap/\cap<=maxLen/\NumsP w (fun g=>v.ownBlock=some g) k ao l:=by
 obtain⟨ao,cap,rfl,h1,h2,hn⟩:=h.shape
 refine⟨ao,cap,rfl,h1,h2,fun i x hx=>?_⟩
 obtain⟨ad,rfl,_,hc⟩:=hn i x hx
 exact⟨ad,rfl,rfl,hc⟩
inductive All2 {α β:Type} (R:α->β->Prop):List α->List β->Prop
 |nil:All2 R [] []
 |cons {a b l m} (h:R a b) (t:All2 R l m):All2 R (a::l) (b::m)
theorem Ad7 {P:Program} {ops:Array Oper} {rest:List Oper} {o:Oper} {a:Go.Act} {w:World} {Q:Exit->Go.Act->World->Prop} (hgd:o.guard=none) (ty:TypeId) (x y:Operand) (ho:o.op=.store ty x y)
  {g i:Nat} {t:TypeId} {cs:Array Value} (hb:Block w g t cs) (vs:Array Value) (hx:a.eval x=.pointer (some ⟨g,i,none⟩)) (hy:a.eval y=.agg vs) (hi:i+vs.size<=cs.size) (hinfo:(P.info? ty).map (·.size)=some vs.size) (h1:vs.all (·.oneCell')=true)
  (h:∀w',Block w' g t (cs.toList.take i++(vs.toList++cs.toList.drop (i+vs.size))).toArray->Only [g] w w'->wpList P ops Q rest (a.put o.dst undef) w'):wpList P ops Q (o::rest) a w :=
 wpList_plain hgd fun _ hK=>by
  have:=run_storeCells_at (P:=P) g i t vs.toList 0 cs w hb (by simpa using hi) (fun x hx=>(Array.all_eq_true_iff_forall_mem.1 h1) x (by simpa using hx))
  cases hq:P.info? ty with
  |none=>simp[hq] at hinfo
  |some j =>
   have hs:j.size=vs.size:=by simpa[hq] using hinfo
   have hc:(Value.agg vs).cells=vs:=rfl
   simp only[Nat.add_zero,Array.length_toList] at this
   unfold Oper.wp execOp
   simp[ho,hx,hy,Instr.storeAt,Instr.sureAddr,Sem.run_bind,Sem.run_pure,storeVar,sizeOf,typeInfo,hq,hc,hs,this]
   exact hK _ _ (h _ (setRow_heap w g cs _ t _ hb) (Ac7 w g _))
theorem Ap8 {w:World} {b:Nat} {o:Obj} (h:w.heap[b]?=some o):b<w.heap.size:=by
 rcases Nat.lt_or_ge b w.heap.size with h1|h1
 ·exact h1
 ·rw[Array.getElem?_eq_none h1] at h;cases h
end Go.Proofs.YtecnpoigegiooaaGreatDoor.Com
namespace Go.Proofs.YtecnpoigegiooaaGreatDoor.Rw
open Go
structure At where
 f:Int
 b:Int
 g:Int
structure Cel where
 r:Int
 m:List Int
 wide:Int
 a:At
def W (l:List Cel) (i:Nat):Int:=match l[i]? with
 |some c=>c.wide
 |none=>0
theorem W_at {l:List Cel} {i:Nat} (h:i<l.length):W l i=l[i].wide:=by unfold W;rw[List.getElem?_eq_getElem h]
theorem Cf8 {l:List Cel} {i:Nat} (h:l.length<=i):W l i=0:=by unfold W;rw[List.getElem?_eq_none h]
theorem W_of {l l':List Cel} {i j:Nat} (h:l[i]?=l'[j]?):W l i=W l' j:=by unfold W;rw[h]
def Alone (l:List Cel) (i:Nat):Prop:=(W l i=1/\W l (i+1)≠2)\/(W l i=2/\(i=0\/W l (i - 1)≠1))
instance (l:List Cel) (i:Nat):Decidable (Alone l i):=by unfold Alone;infer_instance
theorem Alone.lt {l:List Cel} {i:Nat} (h:Alone l i):i<l.length:=by
 rcases Nat.lt_or_ge i l.length with h1|h1
 ·exact h1
 ·have:=Cf8 h1
  unfold Alone at h
  omega
def Al3 (c:Cel):Cel:=⟨32,[],0,c.a⟩
def clr (a:At):Cel:=⟨32,[],0,⟨0,a.b,0⟩⟩
def zeroAt:At:=⟨0,0,0⟩
def Ac8 (l:List Cel) (a b:Nat):List Cel:=l.mapIdx fun i c=>if a<=i/\i<b/\Alone l i then Al3 c else c
def Ah4 (l:List Cel):List Cel:=l.mapIdx fun i c=>if Alone l i then Al3 c else c
theorem mendTo_length (l:List Cel) (a b:Nat):(Ac8 l a b).length=l.length:=by simp[Ac8]
theorem mendAll_length (l:List Cel):(Ah4 l).length=l.length:=by simp[Ah4]
theorem Ah5 (l:List Cel) (a b i:Nat):(Ac8 l a b)[i]?=l[i]?.map fun c=>if a<=i/\i<b/\Alone l i then Al3 c else c:=by simp[Ac8]
theorem mendAll_at (l:List Cel) (i:Nat):(Ah4 l)[i]?=l[i]?.map fun c=>if Alone l i then Al3 c else c:=by simp[Ah4]
theorem Bm5 (l:List Cel) (a b i:Nat):W (Ac8 l a b) i=if a<=i/\i<b/\Alone l i then 0 else W l i:=by
 unfold W
 rw[Ah5]
 cases l[i]? with
 |none=>simp
 |some c=>simp only[Option.map_some];split<;>rfl
theorem W_mendAll (l:List Cel) (i:Nat):W (Ah4 l) i=if Alone l i then 0 else W l i:=by
 unfold W
 rw[mendAll_at]
 cases l[i]? with
 |none=>simp
 |some c=>simp only[Option.map_some];split<;>rfl
theorem Bt8 (l:List Cel) (a:Nat):Ac8 l a a=l:=by
 apply List.ext_getElem?
 intro i
 rw[Ah5]
 cases l[i]? with
 |none=>rfl
 |some c=>simp only[Option.map_some];rw[if_neg (by omega)]
theorem Ap2 (l:List Cel) (a b i:Nat):Alone (Ac8 l a b) i↔Alone l i/\¬(a<=i/\i<b):=by
 have h0:=Bm5 l a b i
 have h1:=Bm5 l a b (i+1)
 have h2:=Bm5 l a b (i - 1)
 have e:i≠0->i - 1+1=i:=by omega
 by_cases ci:Alone l i
 ·by_cases r:a<=i/\i<b
  ·rw[if_pos ⟨r.1,r.2,ci⟩] at h0
   simp[r,Alone,h0]
  ·rw[if_neg (fun h=>r ⟨h.1,h.2.1⟩)] at h0
   simp only[ci,r,not_false_eq_true,and_self,iff_true]
   unfold Alone at ci |-
   rw[h0]
   rcases ci with ⟨c1,c2⟩|⟨c1,c2⟩
   ·left
    refine⟨c1,?_⟩
    rw[h1]
    split
    ·decide
    ·exact c2
   ·right
    refine⟨c1,?_⟩
    rcases c2 with c2|c2
    ·exact .inl c2
    ·right
     rw[h2]
     split
     ·decide
     ·exact c2
 ·rw[if_neg (fun h=>ci h.2.2)] at h0
  simp only[ci,false_and,iff_false]
  intro hA
  unfold Alone at hA
  rw[h0] at hA
  rcases hA with ⟨c1,c2⟩|⟨c1,c2⟩
  ·have hw:W l (i+1)=2:=by
    apply Decidable.byContradiction
    intro hn
    exact ci (.inl ⟨c1,hn⟩)
   have:¬Alone l (i+1):=by
    unfold Alone
    simp[hw,c1]
   rw[h1,if_neg (fun h=>this h.2.2)] at c2
   exact c2 hw
  ·have h3:i≠0/\W l (i - 1)=1:=by
    refine⟨fun hn=>ci (.inr ⟨c1,.inl hn⟩),?_⟩
    apply Decidable.byContradiction
    intro hn
    exact ci (.inr ⟨c1,.inr hn⟩)
   have:¬Alone l (i - 1):=by
    unfold Alone
    rw[e h3.1]
    simp[h3.2,c1]
   rw[h2,if_neg (fun h=>this h.2.2)] at c2
   rcases c2 with c2|c2
   ·exact h3.1 c2
   ·exact c2 h3.2
theorem mend_snoc (l:List Cel) (a b:Nat) (hab:a<=b):Ac8 l a (b+1)=if h:b<l.length/\Alone l b then (Ac8 l a b).set b (Al3 (l[b]'h.1)) else Ac8 l a b:=by
 apply List.ext_getElem?
 intro i
 rw[Ah5]
 by_cases h:b<l.length/\Alone l b
 ·rw[dif_pos h,List.getElem?_set,mendTo_length,Ah5]
  by_cases e:b=i
  ·subst e
   rw[if_pos rfl,if_pos h.1,List.getElem?_eq_getElem h.1]
   simp only[Option.map_some]
   rw[if_pos ⟨hab,by omega,h.2⟩]
  ·rw[if_neg e]
   cases l[i]? with
   |none=>rfl
   |some c =>
    simp only[Option.map_some]
    congr 1
    by_cases c1:a<=i/\i<b/\Alone l i
    ·rw[if_pos c1,if_pos ⟨c1.1,by omega,c1.2.2⟩]
    ·rw[if_neg c1,if_neg (fun hh=>c1 ⟨hh.1,by omega,hh.2.2⟩)]
 ·rw[dif_neg h,Ah5]
  rcases hq:l[i]? with _|c
  ·rfl
  ·have hi:=(List.getElem?_eq_some_iff.1 hq).1
   simp only[Option.map_some]
   congr 1
   by_cases c1:a<=i/\i<b/\Alone l i
   ·rw[if_pos c1,if_pos ⟨c1.1,by omega,c1.2.2⟩]
   ·rw[if_neg c1,if_neg (fun hh=>c1 ⟨hh.1,by
     rcases Nat.lt_or_ge i b with h1|h1
     ·exact h1
     ·obtain rfl:i=b:=by omega
      exact absurd ⟨hi,hh.2.2⟩ h,hh.2.2⟩)]
theorem Ar6 {l:List Cel} {a b:Nat} (h:∀i,Alone l i->a<=i/\i<b):Ac8 l a b=Ah4 l:=by
 apply List.ext_getElem?
 intro i
 rw[Ah5,mendAll_at]
 cases l[i]? with
 |none=>rfl
 |some c =>
  simp only[Option.map_some]
  congr 1
  by_cases c1:Alone l i
  ·rw[if_pos c1,if_pos ⟨(h i c1).1,(h i c1).2,c1⟩]
  ·rw[if_neg c1,if_neg (fun hh=>c1 hh.2.2)]
theorem mend_mend {l:List Cel} {a b c d:Nat} (h:∀i,Alone l i->(a<=i/\i<b)\/(c<=i/\i<d)):Ac8 (Ac8 l a b) c d=Ah4 l:=by
 apply List.ext_getElem?
 intro i
 rw[Ah5,mendAll_at,Ah5]
 cases l[i]? with
 |none=>rfl
 |some x =>
  simp only[Option.map_some]
  congr 1
  have ha:=Ap2 l a b i
  by_cases c1:Alone l i
  ·rw[if_pos c1]
   by_cases r:a<=i/\i<b
   ·rw[if_neg (fun hh:c<=i/\i<d/\Alone (Ac8 l a b) i=>(ha.1 hh.2.2).2 r),if_pos ⟨r.1,r.2,c1⟩]
   ·have:=h i c1
    rw[if_pos ⟨by omega,by omega,ha.2 ⟨c1,r⟩⟩,if_neg (fun hh=>r ⟨hh.1,hh.2.1⟩)]
  ·rw[if_neg c1,if_neg (fun hh:c<=i/\i<d/\Alone (Ac8 l a b) i=>c1 (ha.1 hh.2.2).1),if_neg (fun hh=>c1 hh.2.2)]
def Aj0 (l:List Cel):Prop:=∀i,¬Alone l i
theorem Ah9 (l:List Cel):Aj0 l↔W l 0≠2/\∀i,(W l i=1↔W l (i+1)=2):=by
 constructor
 ·intro h
  refine⟨fun h0=>h 0 (.inr ⟨h0,.inl rfl⟩),fun i=>⟨fun h1=>?_,fun h2=>?_⟩⟩
  ·apply Decidable.byContradiction
   intro hn
   exact h i (.inl ⟨h1,hn⟩)
  ·apply Decidable.byContradiction
   intro hn
   exact h (i+1) (.inr ⟨h2,.inr (by simpa using hn)⟩)
 ·intro ⟨h0,h⟩ i hA
  rcases hA with ⟨c1,c2⟩|⟨c1,c2⟩
  ·exact c2 ((h i).1 c1)
  ·rcases i with _|i
   ·exact h0 c1
   ·have:=(h i).2 c1
    rcases c2 with c2|c2
    ·omega
    ·exact c2 (by simpa using this)
theorem Ay8 (l:List Cel):Aj0 (Ah4 l):=by
 intro i
 have:Ah4 l=Ac8 l 0 l.length:=(Ar6 (fun i h=>⟨Nat.zero_le _,h.lt⟩)).symm
 rw[this,Ap2]
 intro ⟨h,hn⟩
 exact hn ⟨Nat.zero_le _,h.lt⟩
theorem Aw8 {l:List Cel} (h:Aj0 l):Ah4 l=l:=by
 rw[<- Ar6 (a:=0) (b:=0) (fun i hi=>absurd hi (h i)),Bt8]
theorem mendTo_whole {l:List Cel} (h:Aj0 l) (a b:Nat):Ac8 l a b=l:=by
 rw[Ar6 (fun i hi=>absurd hi (h i)),Aw8 h]
theorem Bc7 {l cs:List Cel} {col:Nat} (h:col+cs.length<=l.length) (i:Nat) :
  W (splice l col cs) i=if i<col then W l i else if i<col+cs.length then W cs (i - col) else W l i:=by
 unfold splice
 by_cases h1:i<col
 ·rw[if_pos h1]
  apply W_of
  rw[List.getElem?_append_left (by simp;omega),List.getElem?_take,if_pos h1]
 ·rw[if_neg h1]
  by_cases h2:i<col+cs.length
  ·rw[if_pos h2]
   apply W_of
   rw[List.getElem?_append_right (by simp;omega),List.length_take,Nat.min_eq_left (by omega),List.getElem?_append_left (by omega)]
  ·rw[if_neg h2]
   apply W_of
   rw[List.getElem?_append_right (by simp;omega),List.length_take,Nat.min_eq_left (by omega),List.getElem?_append_right (by omega),List.getElem?_drop]
   congr 1
   omega
theorem alone_splice {l cs:List Cel} {col:Nat} (h:col+cs.length<=l.length) (hl:Aj0 l):∀i,Alone (splice l col cs) i->col - 1<=i/\i<min (col+cs.length+1) l.length:=by
 intro i hA
 have hlt:=hA.lt
 rw[length_splice l col cs h] at hlt
 rw[Ah9] at hl
 have a0:=Bc7 h i
 have a1:=Bc7 h (i+1)
 have a2:=Bc7 h (i - 1)
 refine⟨?_,?_⟩
 ·apply Decidable.byContradiction
  intro hn
  rw[if_pos (by omega)] at a0 a1 a2
  have:=hl.2 i
  rcases hA with ⟨c1,c2⟩|⟨c1,c2⟩
  ·exact c2 (by rw[a1];exact this.1 (a0▸c1))
  ·rcases i with _|i
   ·exact hl.1 (a0▸c1)
   ·have h3:=(hl.2 i).2 (a0▸c1)
    rcases c2 with c2|c2
    ·omega
    ·exact c2 (by rw[a2];simpa using h3)
 ·apply Decidable.byContradiction
  intro hn
  rw[if_neg (by omega),if_neg (by omega)] at a0 a1 a2
  have:=hl.2 i
  rcases hA with ⟨c1,c2⟩|⟨c1,c2⟩
  ·exact c2 (by rw[a1];exact this.1 (a0▸c1))
  ·rcases i with _|i
   ·exact hl.1 (a0▸c1)
   ·have h3:=(hl.2 i).2 (a0▸c1)
    rcases c2 with c2|c2
    ·omega
    ·exact c2 (by rw[a2];simpa using h3)
theorem Bm6 {l:List Cel} (h:∀c∈l,c.wide=0) (i:Nat):W l i=0:=by
 rcases Nat.lt_or_ge i l.length with h1|h1
 ·rw[W_at h1];exact h _ (List.getElem_mem h1)
 ·exact Cf8 h1
theorem whole_zero {l:List Cel} (h:∀c∈l,c.wide=0):Aj0 l:=by
 rw[Ah9]
 have:=Bm6 h
 exact⟨by rw[this];decide,fun i=>by rw[this,this];decide⟩
theorem whole_clr (n:Nat) (a:At):Aj0 (List.replicate n (clr a)):=whole_zero (fun c hc=>by rw[(List.mem_replicate.1 hc).2];rfl)
def setL (l:List Cel) (col:Nat) (cs:List Cel):List Cel:=Ah4 (splice l col cs)
theorem Ag6 {l cs:List Cel} {col:Nat} (h:col+cs.length<=l.length):(setL l col cs).length=l.length:=by rw[setL,mendAll_length,length_splice _ _ _ h]
theorem setL_eq {l cs:List Cel} {col:Nat} (h:col+cs.length<=l.length) (hl:Aj0 l):Ac8 (splice l col cs) (col - 1) (min (col+cs.length+1) l.length)=setL l col cs:=Ar6 (alone_splice h hl)
theorem Cc5 {l:List Cel} {col:Nat} (hl:Aj0 l):setL l col []=l:=by
 unfold setL splice
 simp only[List.nil_append,List.length_nil,Nat.add_zero,List.take_append_drop]
 exact Aw8 hl
def cellsPut (x:Int) (wide:Bool) (a:At):List Cel:=if wide then [⟨x,[],1,a⟩,⟨0,[],2,a⟩] else [⟨x,[],0,a⟩]
def Av7 (l:List Cel) (lo hi:Nat) (a:At):List Cel:=if lo<hi then setL l lo (List.replicate (hi - lo) (clr a)) else l
def insX (l:List Cel) (col n:Nat) (a:At):List Cel:=l.take col++(List.replicate n (clr a)++(l.drop col).take (l.length - col - n))
def insL (l:List Cel) (col n:Nat) (a:At):List Cel:=Ah4 (insX l col n a)
def delX (l:List Cel) (col n:Nat) (a:At):List Cel:=(setL l col (List.replicate n (clr a))).take col++((setL l col (List.replicate n (clr a))).drop (col+n)++List.replicate n (clr a))
def delL (l:List Cel) (col n:Nat) (a:At):List Cel:=delX l col n a
theorem At3 {l:List Cel} {col n:Nat} (a:At) (h:col+n<=l.length):(insX l col n a).length=l.length:=by simp[insX];omega
theorem Cf7 {l:List Cel} {col n:Nat} (a:At) (h:col+n<=l.length) (i:Nat) :
  W (insX l col n a) i=if i<col then W l i else if i<col+n then 0 else if i<l.length then W l (i - n) else 0:=by
 unfold insX
 by_cases h1:i<col
 ·rw[if_pos h1]
  apply W_of
  rw[List.getElem?_append_left (by simp;omega),List.getElem?_take,if_pos h1]
 ·rw[if_neg h1]
  by_cases h2:i<col+n
  ·rw[if_pos h2]
   unfold W
   rw[List.getElem?_append_right (by simp;omega),List.length_take,Nat.min_eq_left (by omega),List.getElem?_append_left (by simp;omega),List.getElem?_replicate,if_pos (by omega)]
   rfl
  ·rw[if_neg h2]
   by_cases h3:i<l.length
   ·rw[if_pos h3]
    apply W_of
    rw[List.getElem?_append_right (by simp;omega),List.length_take,Nat.min_eq_left (by omega),List.getElem?_append_right (by simp;omega),List.getElem?_take,List.length_replicate,if_pos (by omega),List.getElem?_drop]
    congr 1
    omega
   ·rw[if_neg h3]
    exact Cf8 (by have:=At3 a h;unfold insX at this;omega)
theorem alone_insX {l:List Cel} {col n:Nat} (a:At) (h:col+n<=l.length) (hl:Aj0 l):∀i,Alone (insX l col n a) i->(col - 1<=i/\i<min (col+n+1) l.length)\/(l.length - 1<=i/\i<l.length):=by
 intro i hA
 have hlt:=hA.lt
 rw[At3 a h] at hlt
 rw[Ah9] at hl
 have a0:=Cf7 a h i
 have a1:=Cf7 a h (i+1)
 have a2:=Cf7 a h (i - 1)
 apply Decidable.byContradiction
 intro hn
 have hcase:i+1<col\/(col+n<i/\i+1<l.length):=by omega
 rcases hcase with hc|⟨hc,hd⟩
 ·rw[if_pos (by omega)] at a0 a1 a2
  have:=hl.2 i
  rcases hA with ⟨c1,c2⟩|⟨c1,c2⟩
  ·exact c2 (by rw[a1];exact this.1 (a0▸c1))
  ·rcases i with _|i
   ·exact hl.1 (a0▸c1)
   ·have h3:=(hl.2 i).2 (a0▸c1)
    rcases c2 with c2|c2
    ·omega
    ·exact c2 (by rw[a2];simpa using h3)
 ·rw[if_neg (by omega),if_neg (by omega),if_pos (by omega)] at a0 a1 a2
  have:=hl.2 (i - n)
  rcases hA with ⟨c1,c2⟩|⟨c1,c2⟩
  ·exact c2 (by rw[a1,show i+1 - n=i - n+1 by omega];exact this.1 (a0▸c1))
  ·have h3:=(hl.2 (i - 1 - n)).2 (by rw[show i - 1 - n+1=i - n by omega,<- a0];exact c1)
   rcases c2 with c2|c2
   ·omega
   ·exact c2 (by rw[a2];exact h3)
theorem W_delX {l:List Cel} {col n:Nat} (a:At) (h:col+n<=l.length) (i:Nat) :
  W (delX l col n a) i=if i<col then W (setL l col (List.replicate n (clr a))) i else if i+n<l.length then W (setL l col (List.replicate n (clr a))) (i+n) else 0:=by
 have hs:(setL l col (List.replicate n (clr a))).length=l.length:=Ag6 (by simpa using h)
 unfold delX
 generalize setL l col (List.replicate n (clr a))=s at hs
 by_cases h1:i<col
 ·rw[if_pos h1]
  apply W_of
  rw[List.getElem?_append_left (by simp;omega),List.getElem?_take,if_pos h1]
 ·rw[if_neg h1]
  by_cases h2:i+n<l.length
  ·rw[if_pos h2]
   apply W_of
   rw[List.getElem?_append_right (by simp;omega),List.length_take,Nat.min_eq_left (by omega),List.getElem?_append_left (by simp;omega),List.getElem?_drop]
   congr 1
   omega
  ·rw[if_neg h2]
   unfold W
   rw[List.getElem?_append_right (by simp;omega),List.length_take,Nat.min_eq_left (by omega),List.getElem?_append_right (by simp;omega),List.getElem?_replicate]
   split<;>rename_i hq<;>split at hq<;>first|(simp only[Option.some.injEq] at hq;rw[<- hq];rfl)|rfl|cases hq
theorem delX_length {l:List Cel} {col n:Nat} (a:At) (h:col+n<=l.length):(delX l col n a).length=l.length:=by
 have hs:(setL l col (List.replicate n (clr a))).length=l.length:=Ag6 (by simpa using h)
 simp[delX,hs];omega
theorem W_clr (n i:Nat) (a:At):W (List.replicate n (clr a)) i=0:=Bm6 (fun c hc=>by rw[(List.mem_replicate.1 hc).2];rfl) i
theorem Bq9 {l:List Cel} {col n:Nat} (a:At) (h:col+n<=l.length) {i:Nat} (h1:col<=i) (h2:i<col+n):W (setL l col (List.replicate n (clr a))) i=0:=by
 have hh:col+(List.replicate n (clr a)).length<=l.length:=by simpa using h
 have h0:W (splice l col (List.replicate n (clr a))) i=0:=by
  rw[Bc7 hh,if_neg (by omega),if_pos (by simp;omega),W_clr]
 rw[setL,W_mendAll,h0]
 split<;>rfl
theorem As2 (l cs:List Cel) (col:Nat):Aj0 (setL l col cs):=Ay8 _
theorem Bl5 {l:List Cel} {col n:Nat} (a:At) (h:col+n<=l.length) (hl:Aj0 l):Aj0 (delX l col n a):=by
 by_cases hn:n=0
 ·subst hn
  have e:delX l col 0 a=l:=by
   unfold delX
   simp only[List.replicate_zero,Nat.add_zero,List.append_nil]
   rw[Cc5 hl,List.take_append_drop]
  rw[e];exact hl
 have hs:=As2 l (List.replicate n (clr a)) col
 have hlen:(setL l col (List.replicate n (clr a))).length=l.length:=Ag6 (by simpa using h)
 have hz:=fun i h1 h2=>Bq9 a h (i:=i) h1 h2
 have hw:=W_delX a h
 have ho:=fun i (hi:l.length<=i)=>Cf8 (l:=setL l col (List.replicate n (clr a))) (i:=i) (by omega)
 rw[Ah9] at hs |-
 generalize setL l col (List.replicate n (clr a))=s at hs hz hw ho hlen
 refine⟨?_,fun i=>?_⟩
 ·rw[hw]
  by_cases c0:0<col
  ·rw[if_pos c0];exact hs.1
  ·rw[if_neg c0]
   split
   ·rename_i hlt
    have h1:=hz (n - 1) (by omega) (by omega)
    have h2:=(hs.2 (n - 1)).2
    rw[show n - 1+1=0+n by omega] at h2
    intro hh
    have:=h2 hh
    omega
   ·decide
 ·rw[hw i,hw (i+1)]
  by_cases c0:i+1<col
  ·rw[if_pos (by omega),if_pos c0];exact hs.2 i
  ·rw[if_neg c0]
   by_cases c1:i<col
   ·obtain rfl:col=i+1:=by omega
    rw[if_pos (by omega)]
    have h0:=hz (i+1) (by omega) (by omega)
    have h1:=(hs.2 i).1
    have h3:=hz (i+n) (by omega) (by omega)
    have h4:=(hs.2 (i+n)).2
    constructor
    ·intro hh
     have:=h1 hh
     omega
    ·intro hh
     split at hh
     ·rw[show i+1+n=i+n+1 by omega] at hh
      have:=h4 hh
      omega
     ·omega
   ·rw[if_neg c1]
    by_cases c2:i+1+n<l.length
    ·rw[if_pos (by omega),if_pos c2,show i+1+n=i+n+1 by omega]
     exact hs.2 (i+n)
    ·rw[if_neg c2]
     have h5:=(hs.2 (i+n)).1
     have h6:=ho (i+n+1) (by omega)
     constructor
     ·intro hh
      split at hh
      ·have:=h5 hh
       omega
      ·omega
     ·intro hh
      omega
