/- Part 9 of HostSplits. -/
import Derived.Test.YtecnpoigegiooaaGreatDoorP08
set_option maxHeartbeats 16000000
set_option maxRecDepth 100000
namespace Go.Proofs.YtecnpoigegiooaaGreatDoor.Rw
open Go
def Ce5 (l:List Cel) (col x:Int) (wide:Bool) (a:At):Prop:=An2 x=true/\0<=col/\col+((cellsPut x wide a).length:Int)<=l.length
instance (l:List Cel) (col x:Int) (wide:Bool) (a:At):Decidable (Ce5 l col x wide a):=by unfold Ce5;infer_instance
def putL (l:List Cel) (col x:Int) (wide:Bool) (a:At):List Cel:=if Ce5 l col x wide a then setL l col.toNat (cellsPut x wide a) else l
def putV (l:List Cel) (col x:Int) (wide:Bool) (a:At):Int:=if Ce5 l col x wide a then 0 else 2
def Ce1 (l:List Cel) (col x:Int):Prop:=An2 x=true/\0<=col/\col<l.length
instance (l:List Cel) (col x:Int):Decidable (Ce1 l col x):=by unfold Ce1;infer_instance
def joiL (l:List Cel) (col x:Int):List Cel:=if Ce1 l col x then Bo4 l col.toNat x else l
def joiV (l:List Cel) (col x:Int):Int:=if Ce1 l col x then Ce2 l col.toNat else 2
def eraL (l:List Cel) (lo hi:Int) (a:At):List Cel:=Av7 l (Ab0 lo l.length) (Ab0 hi l.length) a
def inL (l:List Cel) (col k:Int) (a:At):List Cel:=insL l (Ab0 col l.length) (Ab0 k (l.length - Ab0 col l.length)) a
def deL (l:List Cel) (col k:Int) (a:At):List Cel:=delL l (Ab0 col l.length) (Ab0 k (l.length - Ab0 col l.length)) a
theorem Bw6 (i:Int) (n:Nat):Ab0 i n<=n:=Nat.min_le_right _ _
theorem Bw5 (c k:Int) (n:Nat):Ab0 c n+Ab0 k (n - Ab0 c n)<=n:=by
 have:=Bw6 c n
 have:=Bw6 k (n - Ab0 c n)
 omega
structure Bm1 (P:Cel->Prop):Prop where
 bl:∀c,P c->P (Al3 c)
 cl:∀a,P (clr a)
 jn:∀c x,P c->c.wide≠2->c.m.length<4->P (Aj1 c x)
theorem By4 {P:Cel->Prop} (hP:Bm1 P) {l:List Cel} (h:∀c∈l,P c):∀c∈Ah4 l,P c:=by
 intro c hc
 obtain⟨i,hi⟩:=List.getElem?_of_mem hc
 rw[mendAll_at] at hi
 cases hq:l[i]? with
 |none=>simp[hq] at hi
 |some z =>
  rw[hq] at hi
  simp only[Option.map_some,Option.some.injEq] at hi
  have hz:=h z (List.mem_of_getElem? hq)
  subst hi
  split
  ·exact hP.bl _ hz
  ·exact hz
theorem all_splice {P:Cel->Prop} {l cs:List Cel} {col:Nat} (h:∀c∈l,P c) (h2:∀c∈cs,P c):∀c∈splice l col cs,P c:=by
 intro c hc
 unfold splice at hc
 rcases List.mem_append.1 hc with hc|hc
 ·exact h c (List.mem_of_mem_take hc)
 ·rcases List.mem_append.1 hc with hc|hc
  ·exact h2 c hc
  ·exact h c (List.mem_of_mem_drop hc)
theorem Bd6 {P:Cel->Prop} (hP:Bm1 P) (n:Nat) (a:At):∀c∈List.replicate n (clr a),P c:=fun c hc=>by rw[(List.mem_replicate.1 hc).2];exact hP.cl a
theorem Bv8 {P:Cel->Prop} (hP:Bm1 P) {l cs:List Cel} {col:Nat} (h:∀c∈l,P c) (h2:∀c∈cs,P c):∀c∈setL l col cs,P c:=By4 hP (all_splice h h2)
theorem all_put {P:Cel->Prop} (hP:Bm1 P) {l:List Cel} {col x:Int} {wide:Bool} {a:At} (h:∀c∈l,P c) (h2:An2 x=true->∀c∈cellsPut x wide a,P c):∀c∈putL l col x wide a,P c:=by
 unfold putL
 split
 ·next hk=>exact Bv8 hP h (h2 hk.1)
 ·exact h
theorem all_era {P:Cel->Prop} (hP:Bm1 P) {l:List Cel} {lo hi:Int} {a:At} (h:∀c∈l,P c):∀c∈eraL l lo hi a,P c:=by
 unfold eraL Av7
 split
 ·exact Bv8 hP h (Bd6 hP _ _)
 ·exact h
theorem all_in {P:Cel->Prop} (hP:Bm1 P) {l:List Cel} {col k:Int} {a:At} (h:∀c∈l,P c):∀c∈inL l col k a,P c:=by
 unfold inL insL
 refine By4 hP fun c hc=>?_
 unfold insX at hc
 rcases List.mem_append.1 hc with hc|hc
 ·exact h c (List.mem_of_mem_take hc)
 ·rcases List.mem_append.1 hc with hc|hc
  ·exact Bd6 hP _ _ c hc
  ·exact h c (List.mem_of_mem_drop (List.mem_of_mem_take hc))
theorem all_de {P:Cel->Prop} (hP:Bm1 P) {l:List Cel} {col k:Int} {a:At} (h:∀c∈l,P c):∀c∈deL l col k a,P c:=by
 unfold deL delL
 intro c hc
 unfold delX at hc
 have hs:=Bv8 hP (col:=Ab0 col l.length) h (Bd6 hP (Ab0 k (l.length - Ab0 col l.length)) a)
 rcases List.mem_append.1 hc with hc|hc
 ·exact hs c (List.mem_of_mem_take hc)
 ·rcases List.mem_append.1 hc with hc|hc
  ·exact hs c (List.mem_of_mem_drop hc)
  ·exact Bd6 hP _ _ c hc
theorem joinAt_wide {l:List Cel} (hw:Aj0 l) {i:Nat} (hi:i<l.length):W l (Ap7 l i)≠2:=by
 rw[Ah9] at hw
 unfold Ap7
 split
 ·next h2 =>
  rcases i with _|i
  ·exact absurd h2 hw.1
  ·rw[Nat.add_sub_cancel,(hw.2 i).2 h2];decide
 ·assumption
theorem Ba2 {l:List Cel} (hw:Aj0 l) (col x:Int):joiL l col x=l\/∃(j:Nat) (hj:j<l.length),l[j].wide≠2/\l[j].m.length<4/\joiL l col x=l.set j (Aj1 l[j] x):=by
 unfold joiL
 split
 ·next hk =>
  obtain⟨_,h0,h1⟩:=hk
  have hi:col.toNat<l.length:=by omega
  have hj:=Bt1 hi
  have hne:=joinAt_wide hw hi
  unfold Bo4
  rw[List.getElem?_eq_getElem hj]
  simp only
  split
  ·next h4=>exact .inr ⟨_,hj,by rwa [W_at hj] at hne,h4,rfl⟩
  ·exact .inl rfl
 ·exact .inl rfl
theorem all_joi {P:Cel->Prop} (hP:Bm1 P) {l:List Cel} (hw:Aj0 l) {col x:Int} (h:∀c∈l,P c):∀c∈joiL l col x,P c:=by
 rcases Ba2 hw col x with e|⟨j,hj,h2,h4,e⟩
 ·rw[e];exact h
 ·rw[e]
  intro c hc
  rcases List.mem_or_eq_of_mem_set hc with hc|rfl
  ·exact h c hc
  ·exact hP.jn _ _ (h _ (List.getElem_mem hj)) h2 h4
def Pairs (l:List Cel):Prop:=∀(i:Nat) (c c':Cel),l[i]?=some c->l[i+1]?=some c'->c.wide=1->c'.wide=2->c'.a=c.a
theorem Pairs.take {l:List Cel} (h:Pairs l) (k:Nat):Pairs (l.take k):=fun i c c' h1 h2=>by
 rw[List.getElem?_take] at h1 h2
 split at h1
 ·split at h2
  ·exact h i c c' h1 h2
  ·cases h2
 ·cases h1
theorem Pairs.drop {l:List Cel} (h:Pairs l) (k:Nat):Pairs (l.drop k):=fun i c c' h1 h2=>by
 rw[List.getElem?_drop] at h1 h2
 exact h (k+i) c c' h1 (by rw[<- h2];congr 1)
theorem Pairs.app {l l':List Cel} (h:Pairs l) (h':Pairs l') (hb:∀c c',l[l.length - 1]?=some c->l'[0]?=some c'->0<l.length->c.wide=1->c'.wide=2->c'.a=c.a):Pairs (l++l'):=fun i c c' h1 h2=>by
 rcases Nat.lt_or_ge (i+1) l.length with hi|hi
 ·rw[List.getElem?_append_left (by omega)] at h1
  rw[List.getElem?_append_left hi] at h2
  exact h i c c' h1 h2
 ·rw[List.getElem?_append_right hi] at h2
  rcases Nat.lt_or_ge i l.length with hi2|hi2
  ·rw[List.getElem?_append_left hi2] at h1
   obtain rfl:i=l.length - 1:=by omega
   exact hb c c' h1 (by rw[<- h2];congr 1;omega) (by omega)
  ·rw[List.getElem?_append_right hi2] at h1
   exact h' (i - l.length) c c' h1 (by rw[<- h2];congr 1;omega)
theorem Bk5 {l:List Cel} (h:∀c∈l,c.wide=0):Pairs l:=fun i c c' h1 _ h3=>by
 have:=h c (List.mem_of_getElem? h1)
 omega
theorem Ax3 (n:Nat) (a:At):Pairs (List.replicate n (clr a)):=Bk5 (fun c hc=>by rw[(List.mem_replicate.1 hc).2];rfl)
theorem pairs_put (x:Int) (wide:Bool) (a:At):Pairs (cellsPut x wide a):=by
 cases wide
 ·exact Bk5 (by simp[cellsPut])
 ·intro i c c' h1 h2 _ _
  rcases i with _|i
  ·simp[cellsPut] at h1 h2
   rw[<- h1,<- h2]
  ·simp[cellsPut] at h2
theorem Pairs.mend {l:List Cel} (h:Pairs l):Pairs (Ah4 l):=fun i c c' h1 h2 hw1 hw2=>by
 rw[mendAll_at] at h1 h2
 cases hq:l[i]? with
 |none=>simp[hq] at h1
 |some z =>
  cases hq':l[i+1]? with
  |none=>simp[hq'] at h2
  |some z' =>
   rw[hq] at h1
   rw[hq'] at h2
   simp only[Option.map_some,Option.some.injEq] at h1 h2
   split at h1
   ·subst h1;simp[Al3] at hw1
   ·split at h2
    ·subst h2;simp[Al3] at hw2
    ·subst h1 h2
     exact h i z z' hq hq' hw1 hw2
theorem Pairs.spl {l cs:List Cel} {col:Nat} (h:Pairs l) (hc:Pairs cs) (h0:0<cs.length) (h1:W cs 0≠2) (h2:W cs (cs.length - 1)≠1):Pairs (splice l col cs):=by
 unfold splice
 refine(h.take col).app (hc.app (h.drop _) fun c c' e1 e2 _ w1 _=>?_) fun c c' e1 e2 _ _ w2=>?_
 ·exact absurd (by unfold W;rw[e1];exact w1) h2
 ·rw[List.getElem?_append_left h0] at e2
  exact absurd (by unfold W;rw[e2];exact w2) h1
theorem Pairs.set {l cs:List Cel} {col:Nat} (h:Pairs l) (hc:Pairs cs) (h0:0<cs.length) (h1:W cs 0≠2) (h2:W cs (cs.length - 1)≠1):Pairs (setL l col cs):=(h.spl hc h0 h1 h2).mend
theorem Cf9 (n:Nat) (a:At) (i:Nat):W (List.replicate n (clr a)) i=0:=Bm6 (fun c hc=>by rw[(List.mem_replicate.1 hc).2];rfl) i
theorem Pairs.setClr {l:List Cel} {col:Nat} (h:Pairs l) (hw:Aj0 l) (n:Nat) (a:At):Pairs (setL l col (List.replicate n (clr a))):=by
 rcases Nat.eq_zero_or_pos n with rfl|hn
 ·rw[List.replicate_zero,Cc5 hw];exact h
 ·exact h.set (Ax3 _ _) (by simpa using hn) (by rw[Cf9];decide) (by rw[Cf9];decide)
structure Cs1 (c:Cel):Prop where
 four:c.m.length<=4
 wide:c.wide=0\/c.wide=1\/c.wide=2
 rune:c.wide≠2->An2 c.r=true
 none:c.wide=2->c.r=0/\c.m=[]
structure Good (l:List Cel):Prop where
 whole:Aj0 l
 cell:∀c∈l,Cs1 c
 pairs:Pairs l
theorem Ar2:Bm1 Cs1:=⟨fun c _=>⟨by simp[Al3],.inl rfl,fun _=>rfl,fun h=>by simp[Al3] at h⟩,fun a=>⟨by simp[clr],.inl rfl,fun _=>rfl,fun h=>by simp[clr] at h⟩,fun c x h h2 h4=>⟨by simp[Aj1];omega,h.wide,h.rune,fun e=>absurd e h2⟩⟩
theorem ok_put {x:Int} (hx:An2 x=true) (wide:Bool) (a:At):∀c∈cellsPut x wide a,Cs1 c:=by
 cases wide
 ·intro c hc
  obtain rfl:c=⟨x,[],0,a⟩:=by simpa[cellsPut] using hc
  exact⟨by simp,.inl rfl,fun _=>hx,fun h=>by simp at h⟩
 ·intro c hc
  rcases(by simpa[cellsPut] using hc:c=⟨x,[],1,a⟩\/c=⟨0,[],2,a⟩) with rfl|rfl
  ·exact⟨by simp,.inr (.inl rfl),fun _=>hx,fun h=>by simp at h⟩
  ·exact⟨by simp,.inr (.inr rfl),fun h=>by simp at h,fun _=>⟨rfl,rfl⟩⟩
theorem Good.put {l:List Cel} (h:Good l) (col x:Int) (wide:Bool) (a:At):Good (putL l col x wide a):=by
 refine⟨?_,all_put Ar2 h.cell (fun hx=>ok_put hx wide a),?_⟩
 ·unfold putL;split
  ·exact As2 _ _ _
  ·exact h.whole
 ·unfold putL;split
  ·refine h.pairs.set (pairs_put _ _ _) ?_ ?_ ?_<;>cases wide<;>simp[cellsPut,W]
  ·exact h.pairs
theorem Good.joi {l:List Cel} (h:Good l) (col x:Int):Good (joiL l col x):=by
 refine⟨?_,all_joi Ar2 h.whole h.cell,?_⟩
 ·rcases Ba2 h.whole col x with e|⟨j,hj,h2,h4,e⟩
  ·rw[e];exact h.whole
  ·rw[e]
   have hW:∀i,W (l.set j (Aj1 l[j] x)) i=W l i:=fun i=>by
    unfold W
    rw[List.getElem?_set]
    by_cases hji:j=i
    ·subst hji
     rw[if_pos rfl,if_pos hj,List.getElem?_eq_getElem hj]
     rfl
    ·rw[if_neg hji]
   have:=h.whole
   rw[Ah9] at this |-
   simp only[hW]
   exact this
 ·rcases Ba2 h.whole col x with e|⟨j,hj,h2,h4,e⟩
  ·rw[e];exact h.pairs
  ·rw[e]
   have hA:∀(i:Nat) (c:Cel),(l.set j (Aj1 l[j] x))[i]?=some c->∃z:Cel,l[i]?=some z/\z.wide=c.wide/\z.a=c.a:=fun i c hi=>by
    rw[List.getElem?_set] at hi
    by_cases hji:j=i
    ·subst hji
     rw[if_pos rfl,if_pos hj] at hi
     simp only[Option.some.injEq] at hi
     exact⟨_,List.getElem?_eq_getElem hj,by rw[<- hi];rfl,by rw[<- hi];rfl⟩
    ·rw[if_neg hji] at hi
     exact⟨_,hi,rfl,rfl⟩
   intro i c c' h1 h3 w1 w2
   obtain⟨z,hz,a1,a2⟩:=hA i c h1
   obtain⟨z',hz',b1,b2⟩:=hA (i+1) c' h3
   rw[<- a2,<- b2]
   exact h.pairs i z z' hz hz' (a1.trans w1) (b1.trans w2)
theorem Good.era {l:List Cel} (h:Good l) (lo hi:Int) (a:At):Good (eraL l lo hi a):=by
 refine⟨?_,all_era Ar2 h.cell,?_⟩
 ·unfold eraL Av7;split
  ·exact As2 _ _ _
  ·exact h.whole
 ·unfold eraL Av7;split
  ·exact h.pairs.setClr h.whole _ _
  ·exact h.pairs
theorem Good.ins {l:List Cel} (h:Good l) (col k:Int) (a:At):Good (inL l col k a):=by
 refine⟨Ay8 _,all_in Ar2 h.cell,?_⟩
 unfold inL insL
 refine Pairs.mend ?_
 generalize Ab0 k (l.length - Ab0 col l.length)=n
 generalize Ab0 col l.length=c0
 rcases Nat.eq_zero_or_pos n with rfl|hn
 ·unfold insX
  rw[List.replicate_zero,List.nil_append,Nat.sub_zero,List.take_of_length_le (l:=l.drop c0) (by rw[List.length_drop];exact J5 _),List.take_append_drop]
  exact h.pairs
 ·unfold insX
  refine(h.pairs.take c0).app ((Ax3 _ _).app ((h.pairs.drop _).take _) fun c c' e1 e2 _ w1 _=>?_) fun c c' e1 e2 _ _ w2=>?_
  ·have:=Cf9 n a ((List.replicate n (clr a)).length - 1)
   unfold W at this
   rw[e1] at this
   simp only at this
   omega
  ·rw[List.getElem?_append_left (by simpa using hn)] at e2
   have:=Cf9 n a 0
   unfold W at this
   rw[e2] at this
   simp only at this
   omega
theorem Good.del {l:List Cel} (h:Good l) (col k:Int) (a:At):Good (deL l col k a):=by
 have hin:=Bw5 col k l.length
 refine⟨?_,all_de Ar2 h.cell,?_⟩
 ·exact Bl5 a hin h.whole
 ·unfold deL delL
  generalize Ab0 k (l.length - Ab0 col l.length)=n at hin
  generalize Ab0 col l.length=c0 at hin
  have hs:=h.pairs.setClr (col:=c0) h.whole n a
  have hws:=As2 l (List.replicate n (clr a)) c0
  unfold delX
  rcases Nat.eq_zero_or_pos n with rfl|hn
  ·rw[List.replicate_zero,List.append_nil,Nat.add_zero,List.take_append_drop]
   rw[List.replicate_zero] at hs
   exact hs
  ·have h0:=Bq9 a hin (J5 c0) (by omega)
   refine(hs.take c0).app ((hs.drop _).app (Ax3 _ _) fun c c' e1 e2 _ _ w2=>?_) fun c c' e1 e2 hp w1 _=>?_
   ·have:=Cf9 n a 0
    unfold W at this
    rw[e2] at this
    simp only at this
    omega
   ·have hlen:((setL l c0 (List.replicate n (clr a))).take c0).length=c0:=by
     rw[List.length_take,Ag6 (by simpa using hin)]
     omega
    rw[hlen] at e1 hp
    rw[List.getElem?_take,if_pos (by omega)] at e1
    rw[Ah9] at hws
    have h1:W (setL l c0 (List.replicate n (clr a))) (c0 - 1)=1:=by unfold W;rw[e1];exact w1
    have h2:=(hws.2 (c0 - 1)).1 h1
    rw[show c0 - 1+1=c0 by omega,h0] at h2
    omega
theorem Bz5 (n:Nat):Good (List.replicate n (clr zeroAt)):=⟨whole_clr _ _,Bd6 Ar2 _ _,Ax3 _ _⟩
theorem joiL_len (l:List Cel) (col x:Int):(joiL l col x).length=l.length:=by
 unfold joiL;split
 ·unfold Bo4
  split
  ·split
   ·simp
   ·rfl
  ·rfl
 ·rfl
theorem Av6 (l:List Cel) (lo hi:Int) (a:At):(eraL l lo hi a).length=l.length:=by
 have:=Bw6 hi l.length
 unfold eraL Av7;split
 ·exact Ag6 (by simp;omega)
 ·rfl
theorem Bo3 (l:List Cel) (col k:Int) (a:At):(inL l col k a).length=l.length:=by
 unfold inL insL
 rw[mendAll_length]
 exact At3 a (Bw5 col k l.length)
theorem Cg8 (l:List Cel) (col k:Int) (a:At):(deL l col k a).length=l.length:=delX_length a (Bw5 col k l.length)
end Go.Proofs.YtecnpoigegiooaaGreatDoor.Rw
namespace Go.Proofs.YtecnpoigegiooaaGreatDoor.Rw
open Go RowKit Com
def apiC (c:Cel) (v:Value):List Value:=.int .i32 c.r::v::.int .u8 c.wide::attV c.a
def apiP (p:Cel×Value):List Value:=apiC p.1 p.2
theorem Ae8 (p:Cel×Value):(apiP p).length=6:=rfl
theorem Own.one {w:World} {B:Nat} {e:TypeId} {k:IntKind} {v:Value} {l:List Int} (h:Own w B e k v l):v.oneCell'=true:=by
 obtain⟨ao,c,rfl,_⟩:=h.shape
 rfl
theorem Own.typ {w:World} {B:Nat} {e:TypeId} {k:IntKind} {v:Value} {l:List Int} (h:Own w B e k v l) {g:Nat} (hg:v.ownBlock=some g):Typ w g e:=by
 rcases h.2 with ⟨rfl,_⟩|⟨x,cap,cur,rfl,_,hh,_⟩
 ·cases hg
 ·obtain rfl:x=g:=by simpa[Value.ownBlock] using hg
  exact⟨cur,_,hh⟩
theorem Own.fr {B B':Nat} {ts:List TypeId} {w w':World} {e:TypeId} {k:IntKind} {v:Value} {l:List Int} (h:Own w B e k v l) (hf:Fr B' ts w w') (he:e∉ts):Own w' B e k v l:=by
 have hty:=fun g hg=>Own.typ h (g:=g) hg
 have hlt:=fun g hg=>(h.lt g hg).2
 refine⟨h.1,?_⟩
 rcases h.2 with h2|⟨g,cap,cur,rfl,hg,hh,r⟩
 ·exact .inl h2
 ·refine .inr ⟨g,cap,cur,rfl,hg,(hf.block g (hlt g rfl) (.inr fun t ht hT=>he ?_)).trans hh,r⟩
  rw[Typ.inj (hty g rfl) hT]
  exact ht
structure Api (B:Nat) (w:World) (v:Value) (ps:List (Cel×Value)):Prop where
 own:w.ownsRow B 57 6 v ps.length (fl apiP ps)
 comb:∀p∈ps,Own w B 21 .i32 p.2 p.1.m
theorem Ak3 {B B':Nat} {ts:List TypeId} {w w':World} {e:TypeId} {s n:Nat} {v:Value} {xs:List Value} (h:w.ownsRow B e s v n xs) (hf:Fr B' ts w w') (he:e∉ts):w'.ownsRow B e s v n xs:=by
 have hlt:=World.ownsRow.lt h
 refine⟨h.1,?_⟩
 rcases h.2 with h2|⟨g,cap,cur,rfl,hg,hh,r⟩
 ·exact .inl h2
 ·refine .inr ⟨g,cap,cur,rfl,hg,(hf.block g (hlt g rfl).2 (.inr fun t ht hT=>he ?_)).trans hh,r⟩
  rw[Typ.inj (⟨cur,_,hh⟩:Typ w g e) hT]
  exact ht
theorem Api.fr {B B':Nat} {ts:List TypeId} {w w':World} {v:Value} {ps:List (Cel×Value)} (h:Api B w v ps) (hf:Fr B' ts w w') (h1:57∉ts) (h2:21∉ts):Api B w' v ps:=⟨Ak3 h.own hf h1,fun p hp=>Own.fr (h.comb p hp) hf h2⟩
theorem Api.below {B:Nat} {w w':World} {v:Value} {ps:List (Cel×Value)} (h:Api B w v ps) (hb:Below w.heap.size w w'):Api B w' v ps:=h.fr (Fr.of_below (B:=0) (ts:=[]) hb) (by simp) (by simp)
theorem Api.lower {B B':Nat} {w:World} {v:Value} {ps:List (Cel×Value)} (h:Api B w v ps) (hB:B'<=B):Api B' w v ps:=⟨by
 refine⟨h.own.1,?_⟩
 rcases h.own.2 with h2|⟨g,cap,cur,e,hg,r⟩
 ·exact .inl h2
 ·exact .inr ⟨g,cap,cur,e,Nat.le_trans hB hg,r⟩,fun p hp=>(h.comb p hp).lower hB⟩
theorem elemI:Elem Tryz.prog 26 21 .i32 4:=by
 have h:(Tryz.prog.info? 21).map (fun i=>(i.zero,i.size,i.bytes))=some (some (.int .i32 0),1,4):=by kernel_rfl
 obtain⟨i,h0,h1,h2,h3⟩:=info_parts h
 exact⟨Tryz.underlying26,i,h0,h1,h2,h3⟩
theorem Cq3:(Tryz.prog.info? 57).map (·.size)=some 6:=by kernel_rfl
theorem Bg1 (c:Cel) (v:Value):(Tryz.prog.info? 57).map (·.size)=some (apiC c v).length:=Cq3
theorem Bc9 {c:Cel} {v:Value} (h:v.oneCell'=true):∀u∈apiC c v,u.oneCell'=true:=by
 intro u hu
 simp only[apiC,attV,List.mem_cons,List.not_mem_nil,or_false] at hu
 rcases hu with rfl|rfl|rfl|rfl|rfl|rfl
 ·rfl
 ·exact h
 ·rfl
 ·rfl
 ·rfl
 ·rfl
theorem marks_slice (k:Nat) (hk:k<=4) (bx:Nat) (w:World) :
  (Instr.sliceAt 192 (.pointer (some ⟨bx,1,none⟩)) none (some (.int .u8 k)) none).run Tryz.prog w=.ok (.slice (some ⟨bx,1,none⟩) k 4) w:=by
 have ht:Tryz.prog.underlying 192=some (.array (Tryz.prog.arrayLen 192) (Tryz.prog.elem 192)):=by kernel_rfl
 have hl:Tryz.prog.arrayLen 192=4:=by kernel_rfl
 have hi:(Tryz.prog.info? (Tryz.prog.elem 192)).map (·.size)=some 1:=by kernel_rfl
 rw[run_sliceAt_array_h w _ ⟨bx,1,none⟩ ht .u8 k (by omega) (by rw[hl];omega)]
 cases hq:Tryz.prog.info? (Tryz.prog.elem 192) with
 |none=>simp[hq] at hi
 |some j =>
  have hs:j.size=1:=by simpa[hq] using hi
  simp[sizeOf,typeInfo,hq,hs,slicedAt,hl,Addr.add]
theorem wpList_appk {P:Program} {t e:TypeId} {k:IntKind} {bytes:Nat} (E:Elem P t e k bytes) {w:World} {ops:Array Oper} {rest:List Oper} {o:Oper} {a:Go.Act} {Q:Exit->Go.Act->World->Prop} (hgd:Region.wanted o (yielded ops a.tmps)=true) (s x:Operand)
  (ho:o.op=.call { callee:=.builtin .append,args:=#[s,x],argTypes:=#[t,t] })
  (B:Nat) (v:Value) (l m:List Int) (n:Nat) (hn':n=m.length) (ao:Option Addr) (B' c:Nat) (hs:a.eval s=v) (hxe:a.eval x=.slice ao n c)
  (h:Own w B e k v l) (hm:Nums w B' k ao m) (hB:B<=w.heap.size) (hn:(l.length+n)*bytes<=140737488355328) (hx:l.length+n<=maxLen)
  (hK:∀v' w',Own w' B e k v' (l++m)->Only v.ownBlock.toList w w'->(v'.ownBlock=v.ownBlock\/v'.ownBlock=some w.heap.size)->wpList P ops Q rest (a.put o.dst v') w'):wpList P ops Q (o::rest) a w:=by
 subst hn'
 exact Ai7 E hgd s x ho B v l m ao B' c hs hxe h hm hB hn hx hK
def ToldC (w:World) (c:Cel) (e:Ending) (w':World):Prop:=∃v,e=.returned (.agg (apiC c v).toArray)/\Own w' w.heap.size 21 .i32 v c.m/\Below w.heap.size w w'
theorem Ay6 (c:Cel) (hm:c.m.length<=4) (w:World):Calls Tryz.prog 100 #[.agg (cellC c).toArray] w (ToldC w c):=by
 obtain⟨r,m,wd,⟨af,ab,ag⟩⟩:=c
 simp only at hm
 obtain⟨p0,p1,p2,p3,hp⟩:∃p0 p1 p2 p3,pad4 m=[p0,p1,p2,p3]:=by
  match m,hm with
  |[],_=>exact⟨_,_,_,_,rfl⟩
  |[_],_=>exact⟨_,_,_,_,rfl⟩
  |[_,_],_=>exact⟨_,_,_,_,rfl⟩
  |[_,_,_],_=>exact⟨_,_,_,_,rfl⟩
  |[_,_,_,_],_=>exact⟨_,_,_,_,rfl⟩
 have hmi:∀(i:Nat) (x:Int),m[i]?=some x->[p0,p1,p2,p3][i]?=some x:=by
  intro i x hx
  rw[<- hp,pad4,List.getElem?_take,if_pos (by have:=(List.getElem?_eq_some_iff.1 hx).1;omega),List.getElem?_append_left (List.getElem?_eq_some_iff.1 hx).1]
  exact hx
 have hC:(cellC ⟨r,m,wd,⟨af,ab,ag⟩⟩).toArray=#[.int .i32 r,.int .i32 p0,.int .i32 p1,.int .i32 p2,.int .i32 p3,.int .u8 m.length,.int .u8 wd,.int .u32 af,.int .u32 ab,.int .u16 ag]:=by simp[cellC,hp,attV]
 rw[hC]
 have hbx:=Block.made w 194 #[.int .i32 r,.int .i32 p0,.int .i32 p1,.int .i32 p2,.int .i32 p3,.int .u8 m.length,.int .u8 wd,.int .u32 af,.int .u32 ab,.int .u16 ag]
 have hnums:∀W,Block W w.heap.size 194 #[.int .i32 r,.int .i32 p0,.int .i32 p1,.int .i32 p2,.int .i32 p3,.int .u8 m.length,.int .u8 wd,.int .u32 af,.int .u32 ab,.int .u16 ag]->Nums W W.heap.size .i32 (some ⟨w.heap.size,1,none⟩) m:=by
  intro W hW i x hx
  refine⟨_,rfl,hW.lt,?_⟩
  rw[Addr.add_lit]
  refine hW.cell _ ?_
  have:=hmi i x hx
  match i,this with
  |0,h=>simp at h;simp[h]
  |1,h=>simp at h;simp[h]
  |2,h=>simp at h;simp[h]
  |3,h=>simp at h;simp[h]
 have hsl:=fun W=>marks_slice m.length hm w.heap.size W
 have hb1:=hbx.alloc (.cells #[.int .i32 0,.slice none 0 0,.int .u8 0,.int .u32 0,.int .u32 0,.int .u16 0] 57)
 have hr1:Block ((w.alloc (.cells #[.int .i32 r,.int .i32 p0,.int .i32 p1,.int .i32 p2,.int .i32 p3,.int .u8 m.length,.int .u8 wd,.int .u32 af,.int .u32 ab,.int .u16 ag] 194)).alloc (.cells #[.int .i32 0,.slice none 0 0,.int .u8 0,.int .u32 0,.int .u32 0,.int .u16 0] 57)) (w.heap.size+1) 57 #[.int .i32 0,.slice none 0 0,.int .u8 0,.int .u32 0,.int .u32 0,.int .u16 0]:=by
  have:=Block.made (w.alloc (.cells #[.int .i32 r,.int .i32 p0,.int .i32 p1,.int .i32 p2,.int .i32 p3,.int .u8 m.length,.int .u8 wd,.int .u32 af,.int .u32 ab,.int .u16 ag] 194)) 57 #[.int .i32 0,.slice none 0 0,.int .u8 0,.int .u32 0,.int .u32 0,.int .u16 0]
  simpa using this
 have hbel:Below w.heap.size w ((w.alloc (.cells #[.int .i32 r,.int .i32 p0,.int .i32 p1,.int .i32 p2,.int .i32 p3,.int .u8 m.length,.int .u8 wd,.int .u32 af,.int .u32 ab,.int .u16 ag] 194)).alloc (.cells #[.int .i32 0,.slice none 0 0,.int .u8 0,.int .u32 0,.int .u32 0,.int .u16 0] 57)):=((Below.refl _ _).alloc (J5 _) _).alloc (by simp) _
 obtain⟨k,hk⟩:∃k,k=m.length:=⟨_,rfl⟩
 rw[<- hk] at hsl hm
 have hkk:=J0 hk
 replace hnums:=J0 hnums
 clear hp hmi hC hbx
 rw[<- hk] at hnums hb1 hr1 hbel |-
 clear hk
 replace hb1:=J0 hb1
 replace hr1:=J0 hr1
 replace hbel:=J0 hbel
 go_enter Tryz.func100,Tryz.ntmps100
 go_wp2_with (first
  |(with_reducible refine J6 8 ?_;go_must (refine wpList_appk elemI rfl (.const (.slice none 0 0)) (.tmp 7) rfl w.heap.size (.slice none 0 0) [] m k hkk.out (some ⟨w.heap.size,1,none⟩) (w.heap.size+2) 4 rfl rfl (Own.nil _ _ _ _) (by simpa using hnums.out _ hb1.out) (by simp;omega) (by simp;omega) (by simp[maxLen];omega) ?_);intro v2 w2 hown2 ho2 hat2;obtain⟨a2,n2,c2,rfl⟩:=Bg6 hown2;have ho2':=Ax2 ho2;have hbx2:=hb1.out.only ho2' (by simp);have hr2:=hr1.out.only ho2' (by simp);have f0:=hbx2.cell 0 rfl;have f6:=hbx2.cell 6 rfl;have f7:=hbx2.cell 7 rfl;have f8:=hbx2.cell 8 rfl;have f9:=hbx2.cell 9 rfl)
  |(with_reducible refine J8 2 ?_;go_must (refine Af7 rfl 57 (.tmp 2) (.tmp 16) rfl (g:=(w.heap.size+1)) (i:=0) hr2 (apiC ⟨r,m,wd,⟨af,ab,ag⟩⟩ (.slice a2 n2 c2)) rfl rfl (by simp[apiC,attV]) (Bg1 _ _) (Bc9 rfl) ?_);intro w3 hr3 ho3))
 have hn1:w.heap.size+1∉(Value.slice a2 n2 c2).ownBlock.toList:=fun hm=>by
  have:=Own.typ hown2 (by simpa using hm)
  exact absurd (Typ.inj this (Block.typ hr2)) (by decide)
 have hown3:=hown2.only ho3 (fun g hg hm=>hn1 (by simp at hm;subst hm;rw[hg];simp))
 rw[List.nil_append] at hown3
 have hb3:Block w3 (w.heap.size+1) 57 (apiC ⟨r,m,wd,⟨af,ab,ag⟩⟩ (.slice a2 n2 c2)).toArray:=by
  have:=hr3.out
  simpa[splice,apiC,attV] using this
 have hbel2:Below w.heap.size w w2:=hbel.out.trans (ho2'.nil.mono (by simp;omega))
 exact bodyPost_ret (v:=.agg (apiC ⟨r,m,wd,⟨af,ab,ag⟩⟩ (.slice a2 n2 c2)).toArray) (results_cell_row rfl _ _ (w.heap.size+1) 57 _ (0,0) _ rfl hb3 Tryz.underlying57 rfl (Bg1 _ _)) rfl ⟨_,rfl,Own.lower hown3 (by simp),hbel2.trans (ho3.below hbel2.size (by simp))⟩
def zp:Cel×Value:=(zeroCel,.slice none 0 0)
theorem info48z:(Tryz.prog.info? 57).map (fun i=>(i.zero,i.size,decide (i.bytes<=100)))=some (some (.agg (apiP zp).toArray),6,true):=by kernel_rfl
theorem make_api (n:Nat) (hn:n<=512) (w:World):(Instr.makeSlice 55 (.int .i64 (n:Int)) (.int .i64 (n:Int))).run Tryz.prog w=.ok (.slice (some ⟨w.heap.size,0,none⟩) n n) (w.alloc (.cells (fl apiP (List.replicate n zp)).toArray 57)):=by
 have h:=info48z
 cases hq:Tryz.prog.info? 57 with
 |none=>simp[hq] at h
 |some i =>
  simp only[hq,Option.map_some,Option.some.injEq,Prod.mk.injEq,decide_eq_true_eq] at h
  obtain⟨hz,hs,hb⟩:=h
  have hm:i.bytes*n<=100*512:=Nat.mul_le_mul hb hn
  have:=Ay2 55 57 i _ Tryz.underlying55 hq hz .i64 .i64 n n (J5 _) (by omega) (by omega) w
  rw[this,hs]
  have e:(Value.agg (apiP zp).toArray).cells=(apiP zp).toArray:=rfl
  rw[e,Cj2 apiP 6 Ae8 (by omega)]
theorem RowX.load {w:World} {d g n cap:Nat} {tail:List Value} {l:List Cel} (h:RowX w d g n cap tail l) {i:Nat} (hi:i<l.length):∀j v,(cellC l[i])[j]?=some v->w.cell? ((⟨g,i*10,none⟩:Addr).add j)=some v:=by
 intro j v hj
 have hlt:=(List.getElem?_eq_some_iff.1 hj).1
 rw[cellC_length] at hlt
 rw[Addr.add_lit]
 exact h.at' hi hlt hj
structure CellsSt (w wr:World) (d g n cap:Nat) (tail:List Value) (l:List Cel) (g2 k:Nat) (ps:List (Cel×Value)):Prop where
 row:RowX wr d g n cap tail l
 got:Block wr g2 57 (fl apiP (ps++List.replicate (n - k) zp)).toArray
 comb:∀p∈ps,Own wr w.heap.size 21 .i32 p.2 p.1.m
 map:ps.map (·.1)=l.take k
 below:Below w.heap.size w wr
theorem CellsSt.next {w wr w5 w6:World} {d g n cap:Nat} {tail:List Value} {l:List Cel} {g2 k:Nat} {ps:List (Cel×Value)} (h:CellsSt w wr d g n cap tail l g2 k ps) (hk:k<n) (hkl:k<l.length) (hg2:w.heap.size<=g2) (v:Value) (hb:Below wr.heap.size wr w5) (ho:Own w5 wr.heap.size 21 .i32 v l[k].m)
  (h6:Block w6 g2 57 (splice (fl apiP (ps++List.replicate (n - k) zp)) (k*6) (apiC l[k] v)).toArray) (ho6:Only [g2] w5 w6):CellsSt w w6 d g n cap tail l g2 (k+1) (ps++[(l[k],v)]):=by
 have hlp:ps.length=k:=by
  have:=congrArg List.length h.map
  simp at this
  omega
 have hfs:=Ai8 Ae8 (ps++List.replicate (n - k) zp) [(l[k],v)] [] k (by simp;omega)
 rw[An3 _ _ _ (by simp;omega),List.append_nil,List.append_nil,fl_one] at hfs
 have hset:(ps++List.replicate (n - k) zp).set k (l[k],v)=(ps++[(l[k],v)])++List.replicate (n - (k+1)) zp:=by
  rw[List.set_append_right _ _ (by omega),hlp,Nat.sub_self,show n - k=(n - (k+1))+1 by omega,List.replicate_succ,J2,List.append_assoc]
  rfl
 rw[hset] at hfs
 have hg2w:Typ w5 g2 57:=Block.typ (h.got.only (Only.of_below hb []) (by simp))
 have hfr:Fr 0 [57] w5 w6:=Fr.of_only ho6 (fun k hk _=>⟨Nat.zero_le _,_,List.mem_singleton.2 rfl,by simp at hk;subst hk;exact hg2w⟩)
 have hne1:d≠g2:=Block.apart h.row.ptr h.got (by decide)
 have hne2:g≠g2:=Block.apart h.row.row h.got (by decide)
 refine⟨(h.row.below hb).kept ho6 (by simpa using hne1) (by simpa using hne2),?_,?_,?_,?_⟩
 ·rw[<- hfs];exact h6
 ·intro p hp
  rcases List.mem_append.1 hp with hp|hp
  ·exact Own.fr (Own.fr (h.comb p hp) (Fr.of_below (B:=0) (ts:=[]) hb) (by simp)) hfr (by decide)
  ·simp at hp
   subst hp
   exact Own.fr (Own.lower ho h.below.size) hfr (by decide)
 ·rw[List.map_append,h.map,List.take_add_one,List.getElem?_eq_getElem hkl]
  rfl
 ·exact(Aa0 h.below hb).trans (ho6.below (by have:=h.below.size;have:=hb.size;omega) (by simpa using hg2))
def Bl9 (w:World) (n:Nat) (l:List Cel) (e:Ending) (w':World):Prop:=∃g2 ps,e=.returned (.slice (some ⟨g2,0,none⟩) n n)/\Api w.heap.size w' (.slice (some ⟨g2,0,none⟩) n n) ps/\ps.map (·.1)=l/\Below w.heap.size w w'/\w.heap.size<=g2
theorem Br5 {w:World} {d g n cap:Nat} {tail:List Value} {l:List Cel} (h:RowX w d g n cap tail l) (h4:∀c∈l,c.m.length<=4) :
  Calls Tryz.prog 72 #[.pointer (some ⟨d,0,none⟩)] w (Bl9 w n l):=by
 have hn:=h.pos
 have hn5:=h.small
 have hle:=h.le
 have hcm:=h.cap
 unfold maxLen at hcm
 have hn0:((n:Int) == 0)=false:=beq_eq_false_iff_ne.2 (by omega)
 have hlen:=J0 (Ag5 h)
 have hc:=h.slice
 have hmk:=make_api n hn5 w
 have hb0:=Block.made w 57 (fl apiP (List.replicate n zp)).toArray
 have hS0:CellsSt w (w.alloc (.cells (fl apiP (List.replicate n zp)).toArray 57)) d g n cap tail l w.heap.size 0 [] :=
  ⟨h.below (Aa1 _ _),by simpa using hb0,by simp,by simp,Aa1 _ _⟩
 have hs1:=hS0.row.slice
 have hll:=J0 h.len
 replace hS0:=J0 hS0
 clear h hb0
 go_enter Tryz.func72,Tryz.ntmps72
 go_wp2_with ((go_at_call 99;(with_reducible refine(hlen.out).mono ?_);rintro e w' ⟨rfl,rfl⟩))
 obtain⟨g2,hg2⟩:∃g2,g2=w.heap.size:=⟨_,rfl⟩
 have hge:w.heap.size<=g2:=by omega
 rw[<- hg2] at hS0 |-
 clear hmk hc hg2
 generalize w.alloc (.cells (fl apiP (List.replicate n zp)).toArray 57)=w0 at hS0 hs1 |-
 go_loopw [20] (fun i wr=>∃(k:Nat) (ps:List (Cel×Value)),k<=n/\i=.int .i64 k/\Hid (CellsSt w wr d g n cap tail l g2 k ps)) (fun i _=>n - (intOf i).toNat)
 case atStart=>exact⟨0,[],Nat.zero_le _,rfl,hS0⟩
 case round =>
  obtain⟨k,ps,hk,rfl,hR⟩:=hrel
  have hR:=hR.out
  clear hS0 hs1
  by_cases hlt:k<n
  ·have hkl:k<l.length:=by rw[hll.out];exact hlt
   have hld:=hR.row.load hkl
   have hto:=fun w=>Ay6 l[k] (h4 _ (List.getElem_mem hkl)) w
   have hnx:=fun w5 w6 v hb ho h6 ho6=>hR.next (w5:=w5) (w6:=w6) hlt hkl hge v hb ho h6 ho6
   have hgot:=fun w5 (hb:Below wr.heap.size wr w5)=>hR.got.only (Only.of_below hb []) (by simp)
   have hgl:(fl apiP (ps++List.replicate (n - k) zp)).length=n*6:=by
    have hlp:ps.length=k:=by
     have:=congrArg List.length hR.map
     simp at this
     omega
    rw[Ab8 Ae8];simp;omega
   have hC10:=cellC_length l[k]
   have hone:=Ak6 l[k]
   have hinf:=Ca4 l[k]
   have hmkb:=Block.made wr 194 (cellC zeroCel).toArray
   have hz:(cellC zeroCel).toArray=#[.int .i32 0,.int .i32 0,.int .i32 0,.int .i32 0,.int .i32 0,.int .u8 0,.int .u8 0,.int .u32 0,.int .u32 0,.int .u16 0]:=rfl
   rw[hz] at hmkb
   have hkk:k*6+6<=n*6:=by omega
   generalize l[k]=c at hld hto hnx hC10 hone hinf
   generalize hC:cellC c=C at hld hto hC10 hone hinf
   generalize fl apiP (ps++List.replicate (n - k) zp)=X at hgot hnx hgl
   replace hld:=J0 hld
   replace hto:=J0 hto
   replace hnx:=J0 hnx
   replace hgot:=J0 hgot
   replace hgl:=J0 hgl
   replace hC10:=J0 hC10
   replace hone:=J0 hone
   replace hinf:=J0 hinf
   replace hmkb:=J0 hmkb
   replace hC:=J0 hC
   clear hR hz h4
   go_wp2_with (first
    |(with_reducible refine J9 24 23 ?_;go_must (refine wpList_loadAt rfl 194 (.tmp 23) rfl ⟨g,k*10,none⟩ rfl C _ hld.out Tryz.underlying194 rfl hinf.out ?_))
    |(with_reducible refine J8 5 ?_;go_must (refine Af7 rfl 194 (.tmp 5) (.tmp 24) rfl (g:=wr.heap.size) (i:=0) hmkb.out C rfl rfl (by rw[hC10.out];decide) (hinf.out) (hone.out) ?_);intro w1 hr1 ho1;have hb1:Block w1 wr.heap.size 194 C.toArray:=by have:=hr1.out;rw[show splice _ 0 C=C by unfold splice;rw[hC10.out];simp] at this;exact this)
    |(with_reducible refine J9 27 5 ?_;go_must (refine wpList_loadAt rfl 194 (.tmp 5) rfl ⟨wr.heap.size,0,none⟩ rfl C _ (fun j v hj=>by rw[Addr.add_lit,Nat.zero_add];exact hb1.cell j (by simpa using hj)) Tryz.underlying194 rfl hinf.out ?_)))
   have hb01:Below wr.heap.size wr w1:=(Aa1 wr _).trans (ho1.below (by simp) (by simp))
   refine(hto.out w1).mono ?_
   rintro e w2 ⟨v,rfl,hown,hb2⟩
   have hb02:=Aa0 hb01 hb2
   have hg2':=J0 (hgot.out _ hb02)
   have hone2:=J0 (Bc9 (c:=c) (Own.one hown))
   have hnx2:=J0 (fun w6 h6 ho6=>hnx.out w2 w6 v hb02 (Own.lower hown hb01.size) h6 ho6)
   clear hown hb2 hb1 hr1 ho1 hb01 hb02 hgot hnx hto hld
   obtain⟨V,hV⟩:∃V,V=apiC c v:=⟨_,rfl⟩
   have hV6:V.length=6:=by rw[hV];rfl
   rw[<- hV] at hone2 hnx2 |-
   have hinf2:Hid ((Tryz.prog.info? 57).map (·.size)=some V.length):=J0 (by rw[hV6];exact Cq3)
   replace hV:=J0 hV
   replace hV6:=J0 hV6
   go_wp2_with (first
    |(with_reducible refine J8 29 ?_;go_must (refine Af7 rfl 57 (.tmp 29) (.tmp 28) rfl (g:=g2) (i:=k*6) hg2'.out V rfl rfl (by rw[hgl.out,hV6.out];exact hkk) (hinf2.out) (hone2.out) ?_);intro w6 hr6 ho6))
   replace hnx2:=J0 (hnx2.out _ hr6.out ho6)
   clear hr6 ho6 hg2' hone2
   go_roundw
   case rel=>exact⟨k+1,ps++[(c,v)],by omega,by go_num,hnx2⟩
   case measure=>simp[intOf];omega
  ·obtain rfl:k=n:=by omega
   have hlp:ps.length=k:=by
    have:=congrArg List.length hR.map
    simp[hll.out] at this
    exact this
   have hres:Bl9 w k l (.returned (.slice (some ⟨g2,0,none⟩) k k)) wr:=by
    refine⟨g2,ps,rfl,⟨⟨Ab8 Ae8 ps,.inr ⟨g2,k,_,by rw[hlp],hge,hR.got,by omega,by unfold maxLen;omega,?_,?_⟩⟩,hR.comb⟩,?_,hR.below,hge⟩
    ·simp[Ab8 Ae8,hlp]
    ·have e:(ps.length*6)=(fl apiP ps).length:=(Ab8 Ae8 ps).symm
     rw[e,fl_app]
     simp
    ·rw[hR.map,List.take_of_length_le (by rw[hll.out];exact J5 _)]
   replace hres:=J0 hres
   clear hR hlp
   go_wp2
   go_ret
   exact hres.out
