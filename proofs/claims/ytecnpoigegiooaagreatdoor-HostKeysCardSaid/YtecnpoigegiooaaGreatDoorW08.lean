/- Part 8 of HostKeys. -/
import Derived.Test.YtecnpoigegiooaaGreatDoorW07
set_option maxHeartbeats 16000000
set_option maxRecDepth 100000
namespace Go.Proofs.YtecnpoigegiooaaGreatDoor.Rw
open Tryz
open Go
def Aod(l:List Cel)(col x:Int)(wide:Bool)(a:At):Prop:=V1 x=true/\0<=col/\col+((L9 x wide a).length:Int)<=l.length
instance (l:List Cel) (col x:Int) (wide:Bool) (a:At):Decidable (Aod l col x wide a):=by unfold Aod;infer_instance
def Abi(l:List Cel)(col x:Int)(wide:Bool)(a:At):List Cel:=if Aod l col x wide a then G0 l col.toNat (L9 x wide a)else l
def Atc(l:List Cel)(col x:Int)(wide:Bool)(a:At):Int:=if Aod l col x wide a then 0 else 2
def Anz(l:List Cel)(col x:Int):Prop:=V1 x=true/\0<=col/\col<l.length
instance (l:List Cel) (col x:Int):Decidable (Anz l col x):=by unfold Anz;infer_instance
def Q1(l:List Cel)(col x:Int):List Cel:=if Anz l col x then Aid l col.toNat x else l
def Asx(l:List Cel)(col x:Int):Int:=if Anz l col x then Aoa l col.toNat else 2
def M0(l:List Cel)(lo hi:Int)(a:At):List Cel:=Ahs l (A9 lo l.length) (A9 hi l.length) a
def inL(l:List Cel)(col k:Int)(a:At):List Cel:=Amf l (A9 col l.length) (A9 k (l.length-A9 col l.length)) a
def deL(l:List Cel)(col k:Int)(a:At):List Cel:=Aon l (A9 col l.length) (A9 k (l.length-A9 col l.length)) a
theorem Bbl(i:Int)(n:Nat):A9 i n<=n:=Nat.min_le_right _ _
theorem Bbk(c k:Int)(n:Nat):A9 c n+A9 k (n-A9 c n)<=n:=by
 have:=Bbl c n
 have:=Bbl k (n-A9 c n)
 omega
structure Ahx(P:Cel->Prop):Prop where
 bl:∀c,P c->P (Abq c)
 cl:∀a,P (clr a)
 jn:∀c x,P c->c.wide≠2->c.m.length<4->P (Adt c x)
theorem Biy{P:Cel->Prop}(hP:Ahx P){l:List Cel}(h:∀c∈l,P c):∀c∈Abo l,P c:=by
 intro c hc
 obtain⟨i,hi⟩:=List.getElem?_of_mem hc
 rw[Apf]at hi
 cases hq:l[i]? with
 |none=>simp[hq]at hi
 |some z =>
  rw[hq]at hi
  simp only[Option.map_some,Option.some.injEq]at hi
  have hz:=h z (List.mem_of_getElem? hq)
  subst hi
  split
  ·exact hP.bl _ hz
  ·exact hz
theorem Bvx{P:Cel->Prop}{l cs:List Cel}{col:Nat}(h:∀c∈l,P c)(h2:∀c∈cs,P c):∀c∈splice l col cs,P c:=by
 intro c hc
 unfold splice at hc
 rcases List.mem_append.1 hc with hc|hc
 ·exact h c (List.mem_of_mem_take hc)
 ·rcases List.mem_append.1 hc with hc|hc
  ·exact h2 c hc
  ·exact h c (List.mem_of_mem_drop hc)
theorem Aqe{P:Cel->Prop}(hP:Ahx P)(n:Nat)(a:At):∀c∈List.replicate n (clr a),P c:=fun c hc=>by rw[(List.mem_replicate.1 hc).2];exact hP.cl a
theorem Bbf{P:Cel->Prop}(hP:Ahx P){l cs:List Cel}{col:Nat}(h:∀c∈l,P c)(h2:∀c∈cs,P c):∀c∈G0 l col cs,P c:=Biy hP (Bvx h h2)
theorem Civ{P:Cel->Prop}(hP:Ahx P){l:List Cel}{col x:Int}{wide:Bool}{a:At}(h:∀c∈l,P c)(h2:V1 x=true->∀c∈L9 x wide a,P c):∀c∈Abi l col x wide a,P c:=by
 unfold Abi
 split
 ·next hk=>exact Bbf hP h (h2 hk.1)
 ·exact h
theorem Cis{P:Cel->Prop}(hP:Ahx P){l:List Cel}{lo hi:Int}{a:At}(h:∀c∈l,P c):∀c∈M0 l lo hi a,P c:=by
 unfold M0 Ahs
 split
 ·exact Bbf hP h (Aqe hP _ _)
 ·exact h
theorem Cnm{P:Cel->Prop}(hP:Ahx P){l:List Cel}{col k:Int}{a:At}(h:∀c∈l,P c):∀c∈inL l col k a,P c:=by
 unfold inL Amf
 refine Biy hP fun c hc=>?_
 unfold Adi at hc
 rcases List.mem_append.1 hc with hc|hc
 ·exact h c (List.mem_of_mem_take hc)
 ·rcases List.mem_append.1 hc with hc|hc
  ·exact Aqe hP _ _ c hc
  ·exact h c (List.mem_of_mem_drop (List.mem_of_mem_take hc))
theorem Cnl{P:Cel->Prop}(hP:Ahx P){l:List Cel}{col k:Int}{a:At}(h:∀c∈l,P c):∀c∈deL l col k a,P c:=by
 unfold deL Aon
 intro c hc
 unfold Agl at hc
 have hs:=Bbf hP (col:=A9 col l.length) h (Aqe hP (A9 k (l.length-A9 col l.length)) a)
 rcases List.mem_append.1 hc with hc|hc
 ·exact hs c (List.mem_of_mem_take hc)
 ·rcases List.mem_append.1 hc with hc|hc
  ·exact hs c (List.mem_of_mem_drop hc)
  ·exact Aqe hP _ _ c hc
theorem Bvb{l:List Cel}(hw:Aa3 l){i:Nat}(hi:i<l.length):W l (Aet l i)≠2:=by
 rw[Ahi]at hw
 unfold Aet
 split
 ·next h2 =>
  rcases i with _|i
  ·exact absurd h2 hw.1
  ·rw[Nat.add_sub_cancel,(hw.2 i).2 h2];decide
 ·assumption
theorem Azg{l:List Cel}(hw:Aa3 l)(col x:Int):Q1 l col x=l\/∃(j:Nat) (hj:j<l.length),l[j].wide≠2/\l[j].m.length<4/\Q1 l col x=l.set j (Adt l[j] x):=by
 unfold Q1
 split
 ·next hk =>
  obtain⟨_,h0,h1⟩:=hk
  have hi:col.toNat<l.length:=by omega
  have hj:=Bhz hi
  have hne:=Bvb hw hi
  unfold Aid
  rw[List.getElem?_eq_getElem hj]
  simp only
  split
  ·next h4=>exact .inr ⟨_,hj,by rwa [Ain hj]at hne,h4,rfl⟩
  ·exact .inl rfl
 ·exact .inl rfl
theorem Cit{P:Cel->Prop}(hP:Ahx P){l:List Cel}(hw:Aa3 l){col x:Int}(h:∀c∈l,P c):∀c∈Q1 l col x,P c:=by
 rcases Azg hw col x with e|⟨j,hj,h2,h4,e⟩
 ·rw[e];exact h
 ·rw[e]
  intro c hc
  rcases List.mem_or_eq_of_mem_set hc with hc|rfl
  ·exact h c hc
  ·exact hP.jn _ _ (h _ (List.getElem_mem hj)) h2 h4
def M6(l:List Cel):Prop:=∀(i:Nat) (c c':Cel),l[i]?=some c->l[i+1]?=some c'->c.wide=1->c'.wide=2->c'.a=c.a
theorem M6.take{l:List Cel}(h:M6 l)(k:Nat):M6 (l.take k):=fun i c c' h1 h2=>by
 rw[List.getElem?_take]at h1 h2
 split at h1
 ·split at h2
  ·exact h i c c' h1 h2
  ·cases h2
 ·cases h1
theorem M6.drop{l:List Cel}(h:M6 l)(k:Nat):M6 (l.drop k):=fun i c c' h1 h2=>by
 rw[List.getElem?_drop]at h1 h2
 exact h (k+i) c c' h1 (by rw[<- h2];congr 1)
theorem M6.app{l l':List Cel}(h:M6 l)(h':M6 l')(hb:∀c c',l[l.length-1]?=some c->l'[0]?=some c'->0<l.length->c.wide=1->c'.wide=2->c'.a=c.a):M6 (l++l'):=fun i c c' h1 h2=>by
 rcases Nat.lt_or_ge (i+1) l.length with hi|hi
 ·rw[List.getElem?_append_left (by omega)]at h1
  rw[List.getElem?_append_left hi]at h2
  exact h i c c' h1 h2
 ·rw[List.getElem?_append_right hi]at h2
  rcases Nat.lt_or_ge i l.length with hi2|hi2
  ·rw[List.getElem?_append_left hi2]at h1
   obtain rfl:i=l.length-1:=by omega
   exact hb c c' h1 (by rw[<- h2];congr 1;omega) (by omega)
  ·rw[List.getElem?_append_right hi2]at h1
   exact h' (i-l.length) c c' h1 (by rw[<- h2];congr 1;omega)
theorem Bgr{l:List Cel}(h:∀c∈l,c.wide=0):M6 l:=fun i c c' h1 _ h3=>by
 have:=h c (List.mem_of_getElem? h1)
 omega
theorem Aul(n:Nat)(a:At):M6 (List.replicate n (clr a)):=Bgr (fun c hc=>by rw[(List.mem_replicate.1 hc).2];rfl)
theorem Cbm(x:Int)(wide:Bool)(a:At):M6 (L9 x wide a):=by
 cases wide
 ·exact Bgr (by simp[L9])
 ·intro i c c' h1 h2 _ _
  rcases i with _|i
  ·simp[L9]at h1 h2
   rw[<- h1,<- h2]
  ·simp[L9]at h2
theorem M6.Brr{l:List Cel}(h:M6 l):M6 (Abo l):=fun i c c' h1 h2 hw1 hw2=>by
 rw[Apf]at h1 h2
 cases hq:l[i]? with
 |none=>simp[hq]at h1
 |some z =>
  cases hq':l[i+1]? with
  |none=>simp[hq']at h2
  |some z' =>
   rw[hq]at h1
   rw[hq']at h2
   simp only[Option.map_some,Option.some.injEq]at h1 h2
   split at h1
   ·subst h1;simp[Abq]at hw1
   ·split at h2
    ·subst h2;simp[Abq]at hw2
    ·subst h1 h2
     exact h i z z' hq hq' hw1 hw2
theorem M6.spl{l cs:List Cel}{col:Nat}(h:M6 l)(hc:M6 cs)(h0:0<cs.length)(h1:W cs 0≠2)(h2:W cs (cs.length-1)≠1):M6 (splice l col cs):=by
 unfold splice
 refine(h.take col).app (hc.app (h.drop _) fun c c' e1 e2 _ w1 _=>?_) fun c c' e1 e2 _ _ w2=>?_
 ·exact absurd (by unfold W;rw[e1];exact w1) h2
 ·rw[List.getElem?_append_left h0]at e2
  exact absurd (by unfold W;rw[e2];exact w2) h1
theorem M6.set{l cs:List Cel}{col:Nat}(h:M6 l)(hc:M6 cs)(h0:0<cs.length)(h1:W cs 0≠2)(h2:W cs (cs.length-1)≠1):M6 (G0 l col cs):=(h.spl hc h0 h1 h2).Brr
theorem Are(n:Nat)(a:At)(i:Nat):W (List.replicate n (clr a)) i=0:=Bam (fun c hc=>by rw[(List.mem_replicate.1 hc).2];rfl) i
theorem M6.Bok{l:List Cel}{col:Nat}(h:M6 l)(hw:Aa3 l)(n:Nat)(a:At):M6 (G0 l col (List.replicate n (clr a))):=by
 rcases Nat.eq_zero_or_pos n with rfl|hn
 ·rw[List.replicate_zero,Bkh hw];exact h
 ·exact h.set (Aul _ _) (by simpa using hn) (by rw[Are];decide) (by rw[Are];decide)
structure Bcu(c:Cel):Prop where
 four:c.m.length<=4
 wide:c.wide=0\/c.wide=1\/c.wide=2
 rune:c.wide≠2->V1 c.r=true
 none:c.wide=2->c.r=0/\c.m=[]
structure Good(l:List Cel):Prop where
 whole:Aa3 l
 cell:∀c∈l,Bcu c
 Agh:M6 l
theorem Anc:Ahx Bcu:=⟨fun c _=>⟨by simp[Abq],.inl rfl,fun _=>rfl,fun h=>by simp[Abq]at h⟩,fun a=>⟨by simp[clr],.inl rfl,fun _=>rfl,fun h=>by simp[clr]at h⟩,fun c x h h2 h4=>⟨by simp[Adt];omega,h.wide,h.rune,fun e=>absurd e h2⟩⟩
theorem Cpm{x:Int}(hx:V1 x=true)(wide:Bool)(a:At):∀c∈L9 x wide a,Bcu c:=by
 cases wide
 ·intro c hc
  obtain rfl:c=⟨x,[],0,a⟩:=by simpa[L9]using hc
  exact⟨by simp,.inl rfl,fun _=>hx,fun h=>by simp at h⟩
 ·intro c hc
  rcases(by simpa[L9]using hc:c=⟨x,[],1,a⟩\/c=⟨0,[],2,a⟩)with rfl|rfl
  ·exact⟨by simp,.inr (.inl rfl),fun _=>hx,fun h=>by simp at h⟩
  ·exact⟨by simp,.inr (.inr rfl),fun h=>by simp at h,fun _=>⟨rfl,rfl⟩⟩
theorem Good.put{l:List Cel}(h:Good l)(col x:Int)(wide:Bool)(a:At):Good (Abi l col x wide a):=by
 refine⟨?_,Civ Anc h.cell (fun hx=>Cpm hx wide a),?_⟩
 ·unfold Abi;split
  ·exact Aub _ _ _
  ·exact h.whole
 ·unfold Abi;split
  ·refine h.Agh.set (Cbm _ _ _) ?_ ?_ ?_<;>cases wide<;>simp[L9,W]
  ·exact h.Agh
theorem Good.joi{l:List Cel}(h:Good l)(col x:Int):Good (Q1 l col x):=by
 refine⟨?_,Cit Anc h.whole h.cell,?_⟩
 ·rcases Azg h.whole col x with e|⟨j,hj,h2,h4,e⟩
  ·rw[e];exact h.whole
  ·rw[e]
   have hW:∀i,W (l.set j (Adt l[j] x)) i=W l i:=fun i=>by
    unfold W
    rw[List.getElem?_set]
    by_cases hji:j=i
    ·subst hji
     rw[if_pos rfl,if_pos hj,List.getElem?_eq_getElem hj]
     rfl
    ·rw[if_neg hji]
   have:=h.whole
   rw[Ahi]at this |-
   simp only[hW]
   exact this
 ·rcases Azg h.whole col x with e|⟨j,hj,h2,h4,e⟩
  ·rw[e];exact h.Agh
  ·rw[e]
   have hA:∀(i:Nat) (c:Cel),(l.set j (Adt l[j] x))[i]?=some c->∃z:Cel,l[i]?=some z/\z.wide=c.wide/\z.a=c.a:=fun i c hi=>by
    rw[List.getElem?_set]at hi
    by_cases hji:j=i
    ·subst hji
     rw[if_pos rfl,if_pos hj]at hi
     simp only[Option.some.injEq]at hi
     exact⟨_,List.getElem?_eq_getElem hj,by rw[<- hi];rfl,by rw[<- hi];rfl⟩
    ·rw[if_neg hji]at hi
     exact⟨_,hi,rfl,rfl⟩
   intro i c c' h1 h3 w1 w2
   obtain⟨z,hz,a1,a2⟩:=hA i c h1
   obtain⟨z',hz',b1,b2⟩:=hA (i+1) c' h3
   rw[<- a2,<- b2]
   exact h.Agh i z z' hz hz' (a1.trans w1) (b1.trans w2)
theorem Good.era{l:List Cel}(h:Good l)(lo hi:Int)(a:At):Good (M0 l lo hi a):=by
 refine⟨?_,Cis Anc h.cell,?_⟩
 ·unfold M0 Ahs;split
  ·exact Aub _ _ _
  ·exact h.whole
 ·unfold M0 Ahs;split
  ·exact h.Agh.Bok h.whole _ _
  ·exact h.Agh
theorem Good.ins{l:List Cel}(h:Good l)(col k:Int)(a:At):Good (inL l col k a):=by
 refine⟨Bez _,Cnm Anc h.cell,?_⟩
 unfold inL Amf
 refine M6.Brr ?_
 generalize A9 k (l.length-A9 col l.length)=n
 generalize A9 col l.length=c0
 rcases Nat.eq_zero_or_pos n with rfl|hn
 ·unfold Adi
  rw[List.replicate_zero,List.nil_append,Nat.sub_zero,List.take_of_length_le (l:=l.drop c0) (by rw[List.length_drop];exact J5 _),List.take_append_drop]
  exact h.Agh
 ·unfold Adi
  refine(h.Agh.take c0).app ((Aul _ _).app ((h.Agh.drop _).take _) fun c c' e1 e2 _ w1 _=>?_) fun c c' e1 e2 _ _ w2=>?_
  ·have:=Are n a ((List.replicate n (clr a)).length-1)
   unfold W at this
   rw[e1]at this
   simp only at this
   omega
  ·rw[List.getElem?_append_left (by simpa using hn)]at e2
   have:=Are n a 0
   unfold W at this
   rw[e2]at this
   simp only at this
   omega
theorem Good.del{l:List Cel}(h:Good l)(col k:Int)(a:At):Good (deL l col k a):=by
 have hin:=Bbk col k l.length
 refine⟨?_,Cnl Anc h.cell,?_⟩
 ·exact Bhe a hin h.whole
 ·unfold deL Aon
  generalize A9 k (l.length-A9 col l.length)=n at hin
  generalize A9 col l.length=c0 at hin
  have hs:=h.Agh.Bok (col:=c0) h.whole n a
  have hws:=Aub l (List.replicate n (clr a)) c0
  unfold Agl
  rcases Nat.eq_zero_or_pos n with rfl|hn
  ·rw[List.replicate_zero,List.append_nil,Nat.add_zero,List.take_append_drop]
   rw[List.replicate_zero]at hs
   exact hs
  ·have h0:=Bhg a hin (J5 c0) (by omega)
   refine(hs.take c0).app ((hs.drop _).app (Aul _ _) fun c c' e1 e2 _ _ w2=>?_) fun c c' e1 e2 hp w1 _=>?_
   ·have:=Are n a 0
    unfold W at this
    rw[e2]at this
    simp only at this
    omega
   ·have hlen:((G0 l c0 (List.replicate n (clr a))).take c0).length=c0:=by
     rw[List.length_take,Akn (by simpa using hin)]
     omega
    rw[hlen]at e1 hp
    rw[List.getElem?_take,if_pos (by omega)]at e1
    rw[Ahi]at hws
    have h1:W (G0 l c0 (List.replicate n (clr a))) (c0-1)=1:=by unfold W;rw[e1];exact w1
    have h2:=(hws.2 (c0-1)).1 h1
    rw[show c0-1+1=c0 by omega,h0]at h2
    omega
theorem Bjh(n:Nat):Good (List.replicate n (clr zeroAt)):=⟨Cdb _ _,Aqe Anc _ _,Aul _ _⟩
theorem Auy(l:List Cel)(col x:Int):(Q1 l col x).length=l.length:=by
 unfold Q1;split
 ·unfold Aid
  split
  ·split
   ·simp
   ·rfl
  ·rfl
 ·rfl
theorem Apo(l:List Cel)(lo hi:Int)(a:At):(M0 l lo hi a).length=l.length:=by
 have:=Bbl hi l.length
 unfold M0 Ahs;split
 ·exact Akn (by simp;omega)
 ·rfl
theorem Avr(l:List Cel)(col k:Int)(a:At):(inL l col k a).length=l.length:=by
 unfold inL Amf
 rw[Ber]
 exact Ayo a (Bbk col k l.length)
theorem Blf(l:List Cel)(col k:Int)(a:At):(deL l col k a).length=l.length:=Bul a (Bbk col k l.length)
end Go.Proofs.YtecnpoigegiooaaGreatDoor.Rw
namespace Go.Proofs.YtecnpoigegiooaaGreatDoor.Rw
open Tryz
open Go RowKit Com
def I5(c:Cel)(v:Value):List Value:=.int .i32 c.r::v::.int .u8 c.wide::R9 c.a
def Aaj(p:Cel×Value):List Value:=I5 p.1 p.2
theorem Aiy(p:Cel×Value):(Aaj p).length=6:=rfl
theorem Own.one{w:World}{B:Nat}{e:TypeId}{k:IntKind}{v:Value}{l:List Int}(h:Own w B e k v l):v.oneCell'=true:=by
 obtain⟨ao,c,rfl,_⟩:=h.shape
 rfl
theorem Own.typ{w:World}{B:Nat}{e:TypeId}{k:IntKind}{v:Value}{l:List Int}(h:Own w B e k v l){g:Nat}(hg:v.ownBlock=some g):Typ w g e:=by
 rcases h.2 with⟨rfl,_⟩|⟨x,cap,cur,rfl,_,hh,_⟩
 ·cases hg
 ·obtain rfl:x=g:=by simpa[Value.ownBlock]using hg
  exact⟨cur,_,hh⟩
theorem Own.fr{B B':Nat}{ts:List TypeId}{w w':World}{e:TypeId}{k:IntKind}{v:Value}{l:List Int}(h:Own w B e k v l)(hf:Fr B' ts w w')(he:e∉ts):Own w' B e k v l:=by
 have hty:=fun g hg=>Own.typ h (g:=g) hg
 have hlt:=fun g hg=>(h.lt g hg).2
 refine⟨h.1,?_⟩
 rcases h.2 with h2|⟨g,cap,cur,rfl,hg,hh,r⟩
 ·exact .inl h2
 ·refine .inr ⟨g,cap,cur,rfl,hg,(hf.block g (hlt g rfl) (.inr fun t ht hT=>he ?_)).trans hh,r⟩
  rw[Typ.inj (hty g rfl) hT]
  exact ht
structure Api(B:Nat)(w:World)(v:Value)(ps:List (Cel×Value)):Prop where
 own:w.ownsRow B 57 6 v ps.length (fl Aaj ps)
 comb:∀p∈ps,Own w B 21 .i32 p.2 p.1.m
theorem Amr{B B':Nat}{ts:List TypeId}{w w':World}{e:TypeId}{s n:Nat}{v:Value}{xs:List Value}(h:w.ownsRow B e s v n xs)(hf:Fr B' ts w w')(he:e∉ts):w'.ownsRow B e s v n xs:=by
 have hlt:=World.ownsRow.lt h
 refine⟨h.1,?_⟩
 rcases h.2 with h2|⟨g,cap,cur,rfl,hg,hh,r⟩
 ·exact .inl h2
 ·refine .inr ⟨g,cap,cur,rfl,hg,(hf.block g (hlt g rfl).2 (.inr fun t ht hT=>he ?_)).trans hh,r⟩
  rw[Typ.inj (⟨cur,_,hh⟩:Typ w g e) hT]
  exact ht
theorem Api.fr{B B':Nat}{ts:List TypeId}{w w':World}{v:Value}{ps:List (Cel×Value)}(h:Api B w v ps)(hf:Fr B' ts w w')(h1:57∉ts)(h2:21∉ts):Api B w' v ps:=⟨Amr h.own hf h1,fun p hp=>Own.fr (h.comb p hp) hf h2⟩
theorem Api.below{B:Nat}{w w':World}{v:Value}{ps:List (Cel×Value)}(h:Api B w v ps)(hb:Below w.heap.size w w'):Api B w' v ps:=h.fr (Fr.A1 (B:=0) (ts:=[]) hb) (by simp) (by simp)
theorem Api.lower {B B':Nat} {w:World} {v:Value} {ps:List (Cel×Value)} (h:Api B w v ps) (hB:B'<=B):Api B' w v ps:=⟨by
 refine⟨h.own.1,?_⟩
 rcases h.own.2 with h2|⟨g,cap,cur,e,hg,r⟩
 ·exact .inl h2
 ·exact .inr ⟨g,cap,cur,e,Nat.le_trans hB hg,r⟩,fun p hp=>(h.comb p hp).lower hB⟩
theorem Arf:Z4 prog 26 21 .i32 4:=by
 have h:(prog.info? 21).map (fun i=>(i.zero,i.size,i.bytes))=some (some (.int .i32 0),1,4):=by kernel_rfl
 obtain⟨i,h0,h1,h2,h3⟩:=info_parts h
 exact⟨underlying26,i,h0,h1,h2,h3⟩
theorem Boc:(prog.info? 57).map (·.size)=some 6:=by kernel_rfl
theorem Aql(c:Cel)(v:Value):(prog.info? 57).map (·.size)=some (I5 c v).length:=Boc
theorem Auu{c:Cel}{v:Value}(h:v.oneCell'=true):∀u∈I5 c v,u.oneCell'=true:=by
 intro u hu
 simp only[I5,R9,List.mem_cons,List.not_mem_nil,or_false]at hu
 rcases hu with rfl|rfl|rfl|rfl|rfl|rfl
 ·rfl
 ·exact h
 ·rfl
 ·rfl
 ·rfl
 ·rfl
theorem Bvc(k:Nat)(hk:k<=4)(bx:Nat)(w:World) :
  (Instr.sliceAt 192 (.pointer (some ⟨bx,1,none⟩)) none (some (.int .u8 k)) none).run prog w=.ok (.slice (some ⟨bx,1,none⟩) k 4) w:=by
 have ht:prog.underlying 192=some (.array (prog.arrayLen 192) (prog.elem 192)):=by kernel_rfl
 have hl:prog.arrayLen 192=4:=by kernel_rfl
 have hi:(prog.info? (prog.elem 192)).map (·.size)=some 1:=by kernel_rfl
 rw[run_sliceAt_array_h w _ ⟨bx,1,none⟩ ht .u8 k (by omega) (by rw[hl];omega)]
 cases hq:prog.info? (prog.elem 192)with
 |none=>simp[hq]at hi
 |some j =>
  have hs:j.size=1:=by simpa[hq]using hi
  simp[sizeOf,typeInfo,hq,hs,slicedAt,hl,Addr.add]
theorem Bvu{P:Program}{t e:TypeId}{k:IntKind}{bytes:Nat}(E:Z4 P t e k bytes){w:World}{ops:Array Oper}{rest:List Oper}{o:Oper}{a:Go.Act}{Q:Exit->Go.Act->World->Prop}(hgd:Region.wanted o (yielded ops a.tmps)=true)(s x:Operand)
  (ho:o.op=.call { callee:=.builtin .append,args:=#[s,x],argTypes:=#[t,t] })
  (B:Nat) (v:Value) (l m:List Int) (n:Nat) (hn':n=m.length) (ao:Option Addr) (B' c:Nat) (hs:a.eval s=v) (hxe:a.eval x=.slice ao n c)
  (h:Own w B e k v l) (hm:A8 w B' k ao m) (hB:B<=w.heap.size) (hn:(l.length+n)*bytes<=140737488355328) (hx:l.length+n<=maxLen)
  (hK:∀v' w',Own w' B e k v' (l++m)->A0 v.ownBlock.toList w w'->(v'.ownBlock=v.ownBlock\/v'.ownBlock=some w.heap.size)->wpList P ops Q rest (a.put o.dst v') w'):wpList P ops Q (o::rest) a w:=by
 subst hn'
 exact Akq E hgd s x ho B v l m ao B' c hs hxe h hm hB hn hx hK
def Cqu(w:World)(c:Cel)(e:Ending)(w':World):Prop:=∃v,e=.returned (.agg (I5 c v).toArray)/\Own w' w.heap.size 21 .i32 v c.m/\Below w.heap.size w w'
theorem Aqc(c:Cel)(hm:c.m.length<=4)(w:World):Calls prog 100 #[.agg (B6 c).toArray] w (Cqu w c):=by
 obtain⟨r,m,wd,⟨af,ab,ag⟩⟩:=c
 simp only at hm
 obtain⟨p0,p1,p2,p3,hp⟩:∃p0 p1 p2 p3,Adj m=[p0,p1,p2,p3]:=by
  match m,hm with
  |[],_=>exact⟨_,_,_,_,rfl⟩
  |[_],_=>exact⟨_,_,_,_,rfl⟩
  |[_,_],_=>exact⟨_,_,_,_,rfl⟩
  |[_,_,_],_=>exact⟨_,_,_,_,rfl⟩
  |[_,_,_,_],_=>exact⟨_,_,_,_,rfl⟩
 have hmi:∀(i:Nat) (x:Int),m[i]?=some x->[p0,p1,p2,p3][i]?=some x:=by
  intro i x hx
  rw[<- hp,Adj,List.getElem?_take,if_pos (by have:=(List.getElem?_eq_some_iff.1 hx).1;omega),List.getElem?_append_left (List.getElem?_eq_some_iff.1 hx).1]
  exact hx
 have hC:(B6 ⟨r,m,wd,⟨af,ab,ag⟩⟩).toArray=#[.int .i32 r,.int .i32 p0,.int .i32 p1,.int .i32 p2,.int .i32 p3,.int .u8 m.length,.int .u8 wd,.int .u32 af,.int .u32 ab,.int .u16 ag]:=by simp[B6,hp,R9]
 rw[hC]
 have hbx:=Block.made w 194 #[.int .i32 r,.int .i32 p0,.int .i32 p1,.int .i32 p2,.int .i32 p3,.int .u8 m.length,.int .u8 wd,.int .u32 af,.int .u32 ab,.int .u16 ag]
 have Afa:∀W,Block W w.heap.size 194 #[.int .i32 r,.int .i32 p0,.int .i32 p1,.int .i32 p2,.int .i32 p3,.int .u8 m.length,.int .u8 wd,.int .u32 af,.int .u32 ab,.int .u16 ag]->A8 W W.heap.size .i32 (some ⟨w.heap.size,1,none⟩) m:=by
  intro W hW i x hx
  refine⟨_,rfl,hW.lt,?_⟩
  rw[Addr.add_lit]
  refine hW.cell _ ?_
  have:=hmi i x hx
  match i,this with
  |0,h=>simp at h;simp[h]
  |1,h=>simp at h;simp[h]
  |2,h=>simp at h;simp[h]
  |3,h=>simp at h;simp[h]
 have hsl:=fun W=>Bvc m.length hm w.heap.size W
 have hb1:=hbx.alloc (.cells #[.int .i32 0,.slice none 0 0,.int .u8 0,.int .u32 0,.int .u32 0,.int .u16 0] 57)
 have hr1:Block ((w.alloc (.cells #[.int .i32 r,.int .i32 p0,.int .i32 p1,.int .i32 p2,.int .i32 p3,.int .u8 m.length,.int .u8 wd,.int .u32 af,.int .u32 ab,.int .u16 ag] 194)).alloc (.cells #[.int .i32 0,.slice none 0 0,.int .u8 0,.int .u32 0,.int .u32 0,.int .u16 0] 57)) (w.heap.size+1) 57 #[.int .i32 0,.slice none 0 0,.int .u8 0,.int .u32 0,.int .u32 0,.int .u16 0]:=by
  have:=Block.made (w.alloc (.cells #[.int .i32 r,.int .i32 p0,.int .i32 p1,.int .i32 p2,.int .i32 p3,.int .u8 m.length,.int .u8 wd,.int .u32 af,.int .u32 ab,.int .u16 ag] 194)) 57 #[.int .i32 0,.slice none 0 0,.int .u8 0,.int .u32 0,.int .u32 0,.int .u16 0]
  simpa using this
 have F0:Below w.heap.size w ((w.alloc (.cells #[.int .i32 r,.int .i32 p0,.int .i32 p1,.int .i32 p2,.int .i32 p3,.int .u8 m.length,.int .u8 wd,.int .u32 af,.int .u32 ab,.int .u16 ag] 194)).alloc (.cells #[.int .i32 0,.slice none 0 0,.int .u8 0,.int .u32 0,.int .u32 0,.int .u16 0] 57)):=((Below.refl _ _).alloc (J5 _) _).alloc (by simp) _
 obtain⟨k,hk⟩:∃k,k=m.length:=⟨_,rfl⟩
 rw[<- hk]at hsl hm
 have hkk:=J0 hk
 replace Afa:=J0 Afa
 clear hp hmi hC hbx
 rw[<- hk]at Afa hb1 hr1 F0 |-
 clear hk
 replace hb1:=J0 hb1
 replace hr1:=J0 hr1
 replace F0:=J0 F0
 go_enter func100,ntmps100
 go_wp2_with (first
  |(with_reducible refine J6 8 ?_;go_must(refine Bvu Arf rfl (.const (.slice none 0 0)) (.tmp 7) rfl w.heap.size (.slice none 0 0) [] m k hkk.out (some ⟨w.heap.size,1,none⟩) (w.heap.size+2) 4 rfl rfl (Own.nil _ _ _ _) (by simpa using Afa.out _ hb1.out) (by simp;omega) (by simp;omega) (by simp[maxLen];omega) ?_);intro v2 w2 L4 ho2 Aak;obtain⟨a2,n2,c2,rfl⟩:=Bab L4;have ho2':=Auk ho2;have Aeg:=hb1.out.only ho2' (by simp);have hr2:=hr1.out.only ho2' (by simp);have f0:=Aeg.cell 0 rfl;have f6:=Aeg.cell 6 rfl;have f7:=Aeg.cell 7 rfl;have f8:=Aeg.cell 8 rfl;have f9:=Aeg.cell 9 rfl)
  |(with_reducible refine J8 2 ?_;go_must(refine Amj rfl 57 (.tmp 2) (.tmp 16) rfl (g:=(w.heap.size+1)) (i:=0) hr2 (I5 ⟨r,m,wd,⟨af,ab,ag⟩⟩ (.slice a2 n2 c2)) rfl rfl (by simp[I5,R9]) (Aql _ _) (Auu rfl) ?_);intro w3 hr3 ho3))
 have hn1:w.heap.size+1∉(Value.slice a2 n2 c2).ownBlock.toList:=fun hm=>by
  have:=Own.typ L4 (by simpa using hm)
  exact absurd (Typ.inj this (Block.typ hr2)) (by decide)
 have Aic:=L4.only ho3 (fun g hg hm=>hn1 (by simp at hm;subst hm;rw[hg];simp))
 rw[List.nil_append]at Aic
 have hb3:Block w3 (w.heap.size+1) 57 (I5 ⟨r,m,wd,⟨af,ab,ag⟩⟩ (.slice a2 n2 c2)).toArray:=by
  have:=hr3.out
  simpa[splice,I5,R9]using this
 have Aib:Below w.heap.size w w2:=F0.out.trans (ho2'.nil.mono (by simp;omega))
 exact bodyPost_ret (v:=.agg (I5 ⟨r,m,wd,⟨af,ab,ag⟩⟩ (.slice a2 n2 c2)).toArray) (results_cell_row rfl _ _ (w.heap.size+1) 57 _ (0,0) _ rfl hb3 underlying57 rfl (Aql _ _)) rfl ⟨_,rfl,Own.lower Aic (by simp),Aib.trans (ho3.below Aib.size (by simp))⟩
def zp:Cel×Value:=(O8,.slice none 0 0)
theorem Cks:(prog.info? 57).map (fun i=>(i.zero,i.size,decide (i.bytes<=100)))=some (some (.agg (Aaj zp).toArray),6,true):=by kernel_rfl
theorem Cgc(n:Nat)(hn:n<=512)(w:World):(Instr.makeSlice 55 (.int .i64 (n:Int)) (.int .i64 (n:Int))).run prog w=.ok (.slice (some ⟨w.heap.size,0,none⟩) n n) (w.alloc (.cells (fl Aaj (List.replicate n zp)).toArray 57)):=by
 have h:=Cks
 cases hq:prog.info? 57 with
 |none=>simp[hq]at h
 |some i =>
  simp only[hq,Option.map_some,Option.some.injEq,Prod.mk.injEq,decide_eq_true_eq]at h
  obtain⟨hz,hs,hb⟩:=h
  have hm:i.bytes*n<=100*512:=Nat.mul_le_mul hb hn
  have:=Bey 55 57 i _ underlying55 hq hz .i64 .i64 n n (J5 _) (by omega) (by omega) w
  rw[this,hs]
  have e:(Value.agg (Aaj zp).toArray).cells=(Aaj zp).toArray:=rfl
  rw[e,Bly Aaj 6 Aiy (by omega)]
theorem B7.load{w:World}{d g n cap:Nat}{tail:List Value}{l:List Cel}(h:B7 w d g n cap tail l){i:Nat}(hi:i<l.length):∀j v,(B6 l[i])[j]?=some v->w.cell? ((⟨g,i*10,none⟩:Addr).add j)=some v:=by
 intro j v hj
 have hlt:=(List.getElem?_eq_some_iff.1 hj).1
 rw[N3]at hlt
 rw[Addr.add_lit]
 exact h.at' hi hlt hj
structure Aqd(w wr:World)(d g n cap:Nat)(tail:List Value)(l:List Cel)(g2 k:Nat)(ps:List (Cel×Value)):Prop where
 row:B7 wr d g n cap tail l
 got:Block wr g2 57 (fl Aaj (ps++List.replicate (n-k) zp)).toArray
 comb:∀p∈ps,Own wr w.heap.size 21 .i32 p.2 p.1.m
 map:ps.map (·.1)=l.take k
 below:Below w.heap.size w wr
theorem Aqd.next{w wr w5 w6:World}{d g n cap:Nat}{tail:List Value}{l:List Cel}{g2 k:Nat}{ps:List (Cel×Value)}(h:Aqd w wr d g n cap tail l g2 k ps)(hk:k<n)(hkl:k<l.length)(hg2:w.heap.size<=g2)(v:Value)(hb:Below wr.heap.size wr w5)(ho:Own w5 wr.heap.size 21 .i32 v l[k].m)
  (h6:Block w6 g2 57 (splice (fl Aaj (ps++List.replicate (n-k) zp)) (k*6) (I5 l[k] v)).toArray) (ho6:A0 [g2] w5 w6):Aqd w w6 d g n cap tail l g2 (k+1) (ps++[(l[k],v)]):=by
 have hlp:ps.length=k:=by
  have:=congrArg List.length h.map
  simp at this
  omega
 have hfs:=Ajb Aiy (ps++List.replicate (n-k) zp) [(l[k],v)] [] k (by simp;omega)
 rw[Aph _ _ _ (by simp;omega),List.append_nil,List.append_nil,Acq]at hfs
 have C4:(ps++List.replicate (n-k) zp).set k (l[k],v)=(ps++[(l[k],v)])++List.replicate (n-(k+1)) zp:=by
  rw[List.set_append_right _ _ (by omega),hlp,Nat.sub_self,show n-k=(n-(k+1))+1 by omega,List.replicate_succ,J2,List.append_assoc]
  rfl
 rw[C4]at hfs
 have Ctt:Typ w5 g2 57:=Block.typ (h.got.only (A0.A1 hb []) (by simp))
 have hfr:Fr 0 [57] w5 w6:=Fr.I9 ho6 (fun k hk _=>⟨Nat.zero_le _,_,List.mem_singleton.2 rfl,by simp at hk;subst hk;exact Ctt⟩)
 have Ctw:d≠g2:=Block.apart h.row.ptr h.got (by decide)
 have Cty:g≠g2:=Block.apart h.row.row h.got (by decide)
 refine⟨(h.row.below hb).kept ho6 (by simpa using Ctw) (by simpa using Cty),?_,?_,?_,?_⟩
 ·rw[<- hfs];exact h6
 ·intro p hp
  rcases List.mem_append.1 hp with hp|hp
  ·exact Own.fr (Own.fr (h.comb p hp) (Fr.A1 (B:=0) (ts:=[]) hb) (by simp)) hfr (by decide)
  ·simp at hp
   subst hp
   exact Own.fr (Own.lower ho h.below.size) hfr (by decide)
 ·rw[List.map_append,h.map,List.take_add_one,List.getElem?_eq_getElem hkl]
  rfl
 ·exact(A2 h.below hb).trans (ho6.below (by have:=h.below.size;have:=hb.size;omega) (by simpa using hg2))
def Baj(w:World)(n:Nat)(l:List Cel)(e:Ending)(w':World):Prop:=∃g2 ps,e=.returned (.slice (some ⟨g2,0,none⟩) n n)/\Api w.heap.size w' (.slice (some ⟨g2,0,none⟩) n n) ps/\ps.map (·.1)=l/\Below w.heap.size w w'/\w.heap.size<=g2
theorem Bhn{w:World}{d g n cap:Nat}{tail:List Value}{l:List Cel}(h:B7 w d g n cap tail l)(h4:∀c∈l,c.m.length<=4) :
  Calls prog 72 #[.pointer (some ⟨d,0,none⟩)] w (Baj w n l):=by
 have hn:=h.pos
 have hn5:=h.small
 have hle:=h.le
 have hcm:=h.cap
 unfold maxLen at hcm
 have hn0:((n:Int)==0)=false:=beq_eq_false_iff_ne.2 (by omega)
 have hlen:=J0 (Aas h)
 have hc:=h.slice
 have hmk:=Cgc n hn5 w
 have hb0:=Block.made w 57 (fl Aaj (List.replicate n zp)).toArray
 have hS0:Aqd w (w.alloc (.cells (fl Aaj (List.replicate n zp)).toArray 57)) d g n cap tail l w.heap.size 0 [] :=
  ⟨h.below (A3 _ _),by simpa using hb0,by simp,by simp,A3 _ _⟩
 have hs1:=hS0.row.slice
 have hll:=J0 h.len
 replace hS0:=J0 hS0
 clear h hb0
 go_enter func72,ntmps72
 go_wp2_with((go_at_call 99;(with_reducible refine(hlen.out).mono ?_);rintro e w' ⟨rfl,rfl⟩))
 obtain⟨g2,hg2⟩:∃g2,g2=w.heap.size:=⟨_,rfl⟩
 have hge:w.heap.size<=g2:=by omega
 rw[<- hg2]at hS0 |-
 clear hmk hc hg2
 generalize w.alloc (.cells (fl Aaj (List.replicate n zp)).toArray 57)=w0 at hS0 hs1 |-
 go_loopw [20] (fun i wr=>∃(k:Nat) (ps:List (Cel×Value)),k<=n/\i=.int .i64 k/\Hid (Aqd w wr d g n cap tail l g2 k ps)) (fun i _=>n-(intOf i).toNat)
 case atStart=>exact⟨0,[],Nat.zero_le _,rfl,hS0⟩
 case round =>
  obtain⟨k,ps,hk,rfl,hR⟩:=hrel
  have hR:=hR.out
  clear hS0 hs1
  by_cases hlt:k<n
  ·have hkl:k<l.length:=by rw[hll.out];exact hlt
   have hld:=hR.row.load hkl
   have hto:=fun w=>Aqc l[k] (h4 _ (List.getElem_mem hkl)) w
   have hnx:=fun w5 w6 v hb ho h6 ho6=>hR.next (w5:=w5) (w6:=w6) hlt hkl hge v hb ho h6 ho6
   have Asn:=fun w5 (hb:Below wr.heap.size wr w5)=>hR.got.only (A0.A1 hb []) (by simp)
   have hgl:(fl Aaj (ps++List.replicate (n-k) zp)).length=n*6:=by
    have hlp:ps.length=k:=by
     have:=congrArg List.length hR.map
     simp at this
     omega
    rw[Q4 Aiy];simp;omega
   have hC10:=N3 l[k]
   have E0:=Akr l[k]
   have B9:=Awg l[k]
   have Axr:=Block.made wr 194 (B6 O8).toArray
   have hz:(B6 O8).toArray=#[.int .i32 0,.int .i32 0,.int .i32 0,.int .i32 0,.int .i32 0,.int .u8 0,.int .u8 0,.int .u32 0,.int .u32 0,.int .u16 0]:=rfl
   rw[hz]at Axr
   have hkk:k*6+6<=n*6:=by omega
   generalize l[k]=c at hld hto hnx hC10 E0 B9
   generalize hC:B6 c=C at hld hto hC10 E0 B9
   generalize fl Aaj (ps++List.replicate (n-k) zp)=X at Asn hnx hgl
   replace hld:=J0 hld
   replace hto:=J0 hto
   replace hnx:=J0 hnx
   replace Asn:=J0 Asn
   replace hgl:=J0 hgl
   replace hC10:=J0 hC10
   replace E0:=J0 E0
   replace B9:=J0 B9
   replace Axr:=J0 Axr
   replace hC:=J0 hC
   clear hR hz h4
   go_wp2_with (first
    |(with_reducible refine J9 24 23 ?_;go_must(refine Aix rfl 194 (.tmp 23) rfl ⟨g,k*10,none⟩ rfl C _ hld.out underlying194 rfl B9.out ?_))
    |(with_reducible refine J8 5 ?_;go_must(refine Amj rfl 194 (.tmp 5) (.tmp 24) rfl (g:=wr.heap.size) (i:=0) Axr.out C rfl rfl (by rw[hC10.out];decide) (B9.out) (E0.out) ?_);intro w1 hr1 ho1;have hb1:Block w1 wr.heap.size 194 C.toArray:=by have:=hr1.out;rw[show splice _ 0 C=C by unfold splice;rw[hC10.out];simp]at this;exact this)
    |(with_reducible refine J9 27 5 ?_;go_must(refine Aix rfl 194 (.tmp 5) rfl ⟨wr.heap.size,0,none⟩ rfl C _ (fun j v hj=>by rw[Addr.add_lit,Nat.zero_add];exact hb1.cell j (by simpa using hj)) underlying194 rfl B9.out ?_)))
   have Bds:Below wr.heap.size wr w1:=(A3 wr _).trans (ho1.below (by simp) (by simp))
   refine(hto.out w1).mono ?_
   rintro e w2 ⟨v,rfl,C0,hb2⟩
   have Bdt:=A2 Bds hb2
   have hg2':=J0 (Asn.out _ Bdt)
   have Ark:=J0 (Auu (c:=c) (Own.one C0))
   have Aot:=J0 (fun w6 h6 ho6=>hnx.out w2 w6 v Bdt (Own.lower C0 Bds.size) h6 ho6)
   clear C0 hb2 hb1 hr1 ho1 Bds Bdt Asn hnx hto hld
   obtain⟨V,hV⟩:∃V,V=I5 c v:=⟨_,rfl⟩
   have hV6:V.length=6:=by rw[hV];rfl
   rw[<- hV]at Ark Aot |-
   have Aaz:Hid ((prog.info? 57).map (·.size)=some V.length):=J0 (by rw[hV6];exact Boc)
   replace hV:=J0 hV
   replace hV6:=J0 hV6
   go_wp2_with (first
    |(with_reducible refine J8 29 ?_;go_must(refine Amj rfl 57 (.tmp 29) (.tmp 28) rfl (g:=g2) (i:=k*6) hg2'.out V rfl rfl (by rw[hgl.out,hV6.out];exact hkk) (Aaz.out) (Ark.out) ?_);intro w6 hr6 ho6))
   replace Aot:=J0 (Aot.out _ hr6.out ho6)
   clear hr6 ho6 hg2' Ark
   go_roundw
   case rel=>exact⟨k+1,ps++[(c,v)],by omega,by go_num,Aot⟩
   case measure=>simp[intOf];omega
  ·obtain rfl:k=n:=by omega
   have hlp:ps.length=k:=by
    have:=congrArg List.length hR.map
    simp[hll.out]at this
    exact this
   have A4:Baj w k l (.returned (.slice (some ⟨g2,0,none⟩) k k)) wr:=by
    refine⟨g2,ps,rfl,⟨⟨Q4 Aiy ps,.inr ⟨g2,k,_,by rw[hlp],hge,hR.got,by omega,by unfold maxLen;omega,?_,?_⟩⟩,hR.comb⟩,?_,hR.below,hge⟩
    ·simp[Q4 Aiy,hlp]
    ·have e:(ps.length*6)=(fl Aaj ps).length:=(Q4 Aiy ps).symm
     rw[e,Z9]
     simp
    ·rw[hR.map,List.take_of_length_le (by rw[hll.out];exact J5 _)]
   replace A4:=J0 A4
   clear hR hlp
   go_wp2
   go_ret
   exact A4.out
