/- Part 1 of HostKeys. -/
import Derived.Test.YtecnpoigegiooaaGreatDoorChecked
import Derived.WalkLawsBesides
import Derived.LoopTactic
import Derived.IntWalk
import Derived.Outline
import Derived.Deep.QuietTactic
import Derived.BigQuiet
import Derived.Deep.DeepMust
import Derived.Test.YtecnpoigegiooaaGreatDoorW00
import Derived.Great.BuildSlice
set_option maxHeartbeats 16000000
set_option maxRecDepth 100000
namespace Go.Proofs.YtecnpoigegiooaaGreatDoor.Prs
open Tryz
open Go RowKit Com Par
def P8(L:Lst):List Value:=(L.n++List.replicate (32-L.n.length) 0).map (Value.int .i64)++[.int .i64 L.n.length,.bool L.over]
def Aog(q:Sq)(v:Value):List Value:=[.int .i32 q.a,.int .i32 q.b,.int .i64 q.cnt,.bool q.many,v]
def F7(S:PS)(v:Value):List Value:=.int .u8 S.st::.int .i32 S.sq.pr::(P8 S.sq.num++Aog S.sq v)
def D0(w:World)(d:Nat)(S:PS)(v:Value):Prop:=Block w d 115 (F7 S v).toArray
theorem Aks{L:Lst}(h:L.n.length<=32):((L.n++List.replicate (32-L.n.length) 0).map (Value.int .i64)).length=32:=by simp;omega
theorem Cdp{L:Lst}{i:Nat}(h:i<L.n.length):(P8 L)[i]?=some (.int .i64 L.n[i]):=by
 unfold P8
 rw[List.getElem?_append_left (by simp;omega),List.getElem?_map,List.getElem?_append_left h,List.getElem?_eq_getElem h]
 rfl
theorem Bug{L:Lst}(h:L.n.length<=32):(P8 L)[32]?=some (.int .i64 L.n.length):=by
 unfold P8
 rw[List.getElem?_append_right (by rw[Aks h];omega),Aks h]
 rfl
theorem Bwg{L:Lst}(h:L.n.length<=32):(P8 L)[33]?=some (.bool L.over):=by
 unfold P8
 rw[List.getElem?_append_right (by rw[Aks h];omega),Aks h]
 rfl
theorem Ako{L:Lst}(h:L.n.length<=32):(P8 L).length=34:=by
 unfold P8
 rw[List.length_append,Aks h]
 rfl
theorem Bzl{L:Lst}{i:Nat}(hi:i<L.n.length)(x:Int):(P8 L).set i (.int .i64 x)=P8 ⟨L.n.set i x,L.over⟩:=by
 unfold P8
 rw[List.set_append_left _ _ (by simp;omega),<- List.map_set,List.set_append_left _ _ hi]
 simp
theorem Buf{L:Lst}(h:L.n.length=0):(P8 L).set 32 (.int .i64 1)=P8 ⟨H6 L.n,L.over⟩:=by
 obtain⟨n,o⟩:=L
 have:n=[]:=List.eq_nil_of_length_eq_zero h
 subst this
 rfl
theorem Bwf{L:Lst}(h:L.n.length<32):(P8 L).set 32 (.int .i64 ((L.n.length:Int)+1))=P8 ⟨L.n++[0],L.over⟩:=by
 have hp:=Aks (L:=L) (by omega)
 have e:L.n++[0]++List.replicate (32-(L.n++[0]).length) 0=L.n++List.replicate (32-L.n.length) 0:=by
  rw[List.append_assoc,List.length_append,List.length_singleton]
  congr 1
  rw[show 32-L.n.length=(32-(L.n.length+1))+1 by omega,List.replicate_succ]
  rfl
 unfold P8
 rw[List.set_append_right _ _ (by rw[hp];omega),hp]
 simp only[e]
 congr 1
 simp
theorem Buh{L:Lst}(h:L.n.length<=32):(P8 L).set 33 (.bool true)=P8 ⟨L.n,true⟩:=by
 have hp:=Aks h
 unfold P8
 rw[List.set_append_right _ _ (by rw[hp];omega),hp]
 rfl
theorem Bbu{S:PS}{v:Value}{i:Nat}{u:Value}(h:(P8 S.sq.num)[i]?=some u):(F7 S v)[2+i]?=some u:=by
 unfold F7
 rw[show 2+i=i+1+1 by omega,List.getElem?_cons_succ,List.getElem?_cons_succ,List.getElem?_append_left (List.getElem?_eq_some_iff.1 h).1]
 exact h
theorem Apv{S:PS}{v:Value}(hL:S.sq.num.n.length<=32){i:Nat}{u:Value}(h:(Aog S.sq v)[i]?=some u):(F7 S v)[36+i]?=some u:=by
 unfold F7
 rw[show 36+i=(34+i)+1+1 by omega,List.getElem?_cons_succ,List.getElem?_cons_succ,List.getElem?_append_right (by rw[Ako hL];omega),Ako hL,Nat.add_sub_cancel_left]
 exact h
theorem Bka{S:PS}{v:Value}(hL:S.sq.num.n.length<=32):(F7 S v).length=41:=by
 unfold F7
 simp[Ako hL,Aog]
section
variable {w:World}{d:Nat}{S:PS}{v:Value}
theorem D0.blk(h:D0 w d S v):Block w d 115 (F7 S v).toArray:=h
theorem D0.free(h:D0 w d S v)(i:Nat):w.frozen? ⟨d,i,none⟩=false:=Block.free h i
theorem D0.lt(h:D0 w d S v):d<w.heap.size:=Block.lt h
theorem D0.c0(h:D0 w d S v):w.cell? ⟨d,0,none⟩=some (.int .u8 S.st):=Block.cell h 0 rfl
theorem D0.c1(h:D0 w d S v):w.cell? ⟨d,1,none⟩=some (.int .i32 S.sq.pr):=Block.cell h 1 rfl
theorem D0.at(h:D0 w d S v){i:Nat}(hi:i<S.sq.num.n.length):w.cell? ⟨d,2+i,none⟩=some (.int .i64 S.sq.num.n[i]):=Block.cell h (2+i) (by simpa using Bbu (v:=v) (Cdp hi))
theorem D0.count(h:D0 w d S v)(hk:S.sq.num.n.length<=32):w.cell? ⟨d,34,none⟩=some (.int .i64 S.sq.num.n.length):=Block.cell h 34 (by simpa using Bbu (v:=v) (Bug hk))
theorem D0.over(h:D0 w d S v)(hk:S.sq.num.n.length<=32):w.cell? ⟨d,35,none⟩=some (.bool S.sq.num.over):=Block.cell h 35 (by simpa using Bbu (v:=v) (Bwg hk))
theorem D0.pa(h:D0 w d S v)(hk:S.sq.num.n.length<=32):w.cell? ⟨d,36,none⟩=some (.int .i32 S.sq.a):=Block.cell h 36 (by simpa using Apv (v:=v) hk (i:=0) rfl)
theorem D0.pb(h:D0 w d S v)(hk:S.sq.num.n.length<=32):w.cell? ⟨d,37,none⟩=some (.int .i32 S.sq.b):=Block.cell h 37 (by simpa using Apv (v:=v) hk (i:=1) rfl)
theorem D0.cnt(h:D0 w d S v)(hk:S.sq.num.n.length<=32):w.cell? ⟨d,38,none⟩=some (.int .i64 S.sq.cnt):=Block.cell h 38 (by simpa using Apv (v:=v) hk (i:=2) rfl)
theorem D0.many(h:D0 w d S v)(hk:S.sq.num.n.length<=32):w.cell? ⟨d,39,none⟩=some (.bool S.sq.many):=Block.cell h 39 (by simpa using Apv (v:=v) hk (i:=3) rfl)
theorem D0.txt(h:D0 w d S v)(hk:S.sq.num.n.length<=32):w.cell? ⟨d,40,none⟩=some v:=Block.cell h 40 (by simpa using Apv (v:=v) hk (i:=4) rfl)
theorem D0.only{L:List Nat}{w':World}(h:D0 w d S v)(ho:A0 L w w')(hn:d∉L):D0 w' d S v:=Block.only h ho hn
theorem D0.set{S':PS}{v':Value}(h:D0 w d S v){i:Nat}{u:Value}(hs:(F7 S v).set i u=F7 S' v'):D0 (w.setCell ⟨d,i,none⟩ u) d S' v':=by
 have:=Block.set h i u
 rw[J1,hs]at this
 exact this
end
theorem Avv{S:PS}{v:Value}{i:Nat}{u:Value}{L:Lst}(hL:S.sq.num.n.length<=32)(hi:i<34)(h:(P8 S.sq.num).set i u=P8 L):(F7 S v).set (2+i) u=F7 (S.num L) v:=by
 unfold F7
 replace hi:i<(P8 S.sq.num).length:=by rw[Ako hL];exact hi
 rw[show 2+i=i+1+1 by omega,J3,J3,List.set_append_left _ _ hi,h]
 rfl
theorem Aa8{S:PS}{v:Value}(hL:S.sq.num.n.length<=32){i:Nat}{u:Value}{q:Sq}{v':Value}(hq:q.pr=S.sq.pr/\q.num=S.sq.num)(h:(Aog S.sq v).set i u=Aog q v') :
  (F7 S v).set (36+i) u=F7 ⟨S.st,q,S.text⟩ v':=by
 unfold F7
 rw[show 36+i=(34+i)+1+1 by omega,J3,J3,List.set_append_right _ _ (by rw[Ako hL];omega),Ako hL,Nat.add_sub_cancel_left,h]
 simp only[hq.1,hq.2]
theorem Csv{S:PS}(hL:S.sq.num.n.length<=32)(v:Value)(r:Int):(F7 S v).set 36 (.int .i32 r)=F7 ⟨S.st,⟨S.sq.pr,S.sq.num,r,S.sq.b,S.sq.cnt,S.sq.many⟩,S.text⟩ v:=Aa8 (v:=v) hL (i:=0) ⟨rfl,rfl⟩ rfl
theorem Csw{S:PS}(hL:S.sq.num.n.length<=32)(v:Value)(r:Int):(F7 S v).set 37 (.int .i32 r)=F7 ⟨S.st,⟨S.sq.pr,S.sq.num,S.sq.a,r,S.sq.cnt,S.sq.many⟩,S.text⟩ v:=Aa8 (v:=v) hL (i:=1) ⟨rfl,rfl⟩ rfl
theorem Bmz{S:PS}(hL:S.sq.num.n.length<=32)(v:Value)(n:Nat):(F7 S v).set 38 (.int .i64 n)=F7 ⟨S.st,⟨S.sq.pr,S.sq.num,S.sq.a,S.sq.b,n,S.sq.many⟩,S.text⟩ v:=Aa8 (v:=v) hL (i:=2) (q:=⟨S.sq.pr,S.sq.num,S.sq.a,S.sq.b,n,S.sq.many⟩) ⟨rfl,rfl⟩ rfl
theorem Chs{S:PS}(hL:S.sq.num.n.length<=32)(v:Value):(F7 S v).set 39 (.bool true)=F7 ⟨S.st,⟨S.sq.pr,S.sq.num,S.sq.a,S.sq.b,S.sq.cnt,true⟩,S.text⟩ v:=Aa8 (v:=v) hL (i:=3) ⟨rfl,rfl⟩ rfl
theorem Bnb{S:PS}(hL:S.sq.num.n.length<=32)(v v':Value):(F7 S v).set 40 v'=F7 S v':=Aa8 (v:=v) hL (i:=4) ⟨rfl,rfl⟩ rfl
theorem Awm(S:PS)(v:Value)(s:Int):(F7 S v).set 0 (.int .u8 s)=F7 ⟨s,S.sq,S.text⟩ v:=rfl
theorem Cpw(S:PS)(v:Value)(r:Int):(F7 S v).set 1 (.int .i32 r)=F7 (S.L7 r) v:=rfl
def I2(w:World)(ok:Nat->Prop)(k:IntKind)(ao:Option Addr)(l:List Int):Prop :=
 ∀i x,l[i]?=some x->∃ad,ao=some ad/\ok ad.block/\w.cell? (ad.add i)=some (.int k x)
section
variable {w w':World}{ok ok':Nat->Prop}{k:IntKind}{ao:Option Addr}{l:List Int}
theorem I2.nil(w:World)(ok:Nat->Prop)(k:IntKind)(ao:Option Addr):I2 w ok k ao []:=fun i x h=>by simp at h
theorem I2.mono(h:I2 w ok k ao l)(hm:∀g,g<w.heap.size->ok g->ok' g):I2 w ok' k ao l:=fun i x hx=>by
 obtain⟨ad,e,hk,hc⟩:=h i x hx
 have hlt:=World.block_lt_of_cell? _ _ hc
 rw[Aa1]at hlt
 exact⟨ad,e,hm _ hlt hk,hc⟩
theorem I2.only{L:List Nat}(h:I2 w ok k ao l)(ho:A0 L w w')(hn:∀g∈L,¬ok g):I2 w' ok k ao l:=fun i x hx=>by
 obtain⟨ad,e,hk,hc⟩:=h i x hx
 have hlt:=World.block_lt_of_cell? _ _ hc
 rw[Aa1]at hlt
 refine⟨ad,e,hk,(World.cell?_of_block (w:=w) (ho.block _ (by rw[Aa1];exact hlt) (fun hm=>?_))).trans hc⟩
 rw[Aa1]at hm
 exact hn _ hm hk
end
theorem Auj{w:World}{B:Nat}{e:TypeId}{k:IntKind}{v:Value}{l:List Int}(h:Own w B e k v l):∃ao cap,v=.slice ao l.length cap/\l.length<=cap/\cap<=maxLen/\I2 w (fun g=>v.ownBlock=some g) k ao l:=by
 obtain⟨ao,cap,rfl,h1,h2,hn⟩:=h.shape
 refine⟨ao,cap,rfl,h1,h2,fun i x hx=>?_⟩
 obtain⟨ad,rfl,_,hc⟩:=hn i x hx
 exact⟨ad,rfl,rfl,hc⟩
inductive U4 {α β:Type} (R:α->β->Prop):List α->List β->Prop
 |nil:U4 R [] []
 |cons {a b l m} (h:R a b) (t:U4 R l m):U4 R (a::l) (b::m)
theorem U4.app{α β:Type}{R:α->β->Prop}{l l':List α}{m m':List β}(h:U4 R l m)(g:U4 R l' m'):U4 R (l++l') (m++m'):=by
 induction h with
 |nil=>exact g
 |cons h _ ih=>exact .cons h ih
theorem U4.mono{α β:Type}{R R':α->β->Prop}{l:List α}{m:List β}(h:U4 R l m)(hm:∀a b,R a b->R' a b):U4 R' l m:=by
 induction h with
 |nil=>exact .nil
 |cons h _ ih=>exact .cons (hm _ _ h) ih
theorem U4.at{α β:Type}{R:α->β->Prop}{l:List α}{m:List β}(h:U4 R l m){i:Nat}{a:α}(ha:l[i]?=some a):∃b,m[i]?=some b/\R a b:=by
 induction h generalizing i with
 |nil=>simp at ha
 |cons h _ ih =>
  rcases i with _|i
  ·simp at ha;subst ha;exact⟨_,rfl,h⟩
  ·exact ih (by simpa using ha)
def Arw(A:Act)(p i t:Value):List Value:=[.int .u8 A.kind,.int .i32 A.R,.int .i32 A.L7,p,i,.int .i32 A.final,t]
structure X7(w:World)(ok:Nat->Prop)(A:Act)(cs:List Value):Prop where
 ex:∃ap cp ai ci at_ ct,cs=Arw A (.slice ap A.params.length cp) (.slice ai A.inter.length ci) (.slice at_ A.text.length ct)/\I2 w ok .i64 ap A.params/\I2 w ok .i32 ai A.inter/\I2 w ok .i32 at_ A.text
 cap:∃a c,cs[3]?=some (.slice a A.params.length c)/\A.params.length<=c/\c<=maxLen
section
variable {w w':World}{ok ok':Nat->Prop}{A:Act}{cs:List Value}
theorem X7.len(h:X7 w ok A cs):cs.length=7:=by
 obtain⟨_,_,_,_,_,_,rfl,_⟩:=h.ex
 rfl
theorem X7.one(h:X7 w ok A cs):∀u∈cs,u.oneCell'=true:=by
 obtain⟨_,_,_,_,_,_,rfl,_⟩:=h.ex
 simp[Arw,Value.oneCell']
theorem X7.mono(h:X7 w ok A cs)(hm:∀g,g<w.heap.size->ok g->ok' g):X7 w ok' A cs:=by
 obtain⟨a,b,c,d,e,f,rfl,h1,h2,h3⟩:=h.ex
 exact⟨⟨a,b,c,d,e,f,rfl,h1.mono hm,h2.mono hm,h3.mono hm⟩,h.cap⟩
theorem X7.only{L:List Nat}(h:X7 w ok A cs)(ho:A0 L w w')(hn:∀g∈L,¬ok g):X7 w' ok A cs:=by
 obtain⟨a,b,c,d,e,f,rfl,h1,h2,h3⟩:=h.ex
 exact⟨⟨a,b,c,d,e,f,rfl,h1.only ho hn,h2.only ho hn,h3.only ho hn⟩,h.cap⟩
end
theorem Ceo{l:List Act}{css:List (List Value)}{R:Act->List Value->Prop}(h:U4 R l css)(h7:∀a c,R a c->c.length=7):css.flatten.length=l.length*7:=by
 induction h with
 |nil=>rfl
 |cons h _ ih=>simp only[List.flatten_cons,List.length_append,List.length_cons,ih,h7 _ _ h];omega
theorem Cka{l:List Act}{css:List (List Value)}{R:Act->List Value->Prop}(h:U4 R l css)(h7:∀a c,R a c->c.length=7){i j:Nat}{c:List Value}{u:Value}(hc:css[i]?=some c)(hu:c[j]?=some u):css.flatten[i*7+j]?=some u:=by
 induction h generalizing i with
 |nil=>simp at hc
 |cons h t ih =>
  rcases i with _|i
  ·simp at hc
   subst hc
   have:=(List.getElem?_eq_some_iff.1 hu).1
   rw[List.flatten_cons,List.getElem?_append_left (by omega)]
   simpa using hu
  ·rw[List.flatten_cons,List.getElem?_append_right (by rw[h7 _ _ h];omega),h7 _ _ h,show(i+1)*7+j-7=i*7+j by omega]
   exact ih (by simpa using hc)
structure F4(w:World)(B:Nat)(ok:Nat->Prop)(x:Value)(As:List Act):Prop where
 ex:∃css:List (List Value),U4 (X7 w (fun g=>ok g/\x.ownBlock≠some g)) As css/\w.ownsRow B 151 7 x As.length css.flatten
section
variable {w w':World}{B B':Nat}{ok ok':Nat->Prop}{x:Value}{As:List Act}
theorem F4.nil(w:World)(B:Nat)(ok:Nat->Prop):F4 w B ok (.slice none 0 0) []:=⟨[],.nil,World.ownsRow_nil w B _ 7⟩
theorem F4.mono(h:F4 w B ok x As)(hm:∀g,g<w.heap.size->ok g->ok' g):F4 w B ok' x As:=by
 obtain⟨css,h1,h2⟩:=h.ex
 exact⟨css,h1.mono (fun _ _ h=>h.mono (fun g hg hk=>⟨hm g hg hk.1,hk.2⟩)),h2⟩
theorem F4.lower(h:F4 w B ok x As)(hB:B'<=B):F4 w B' ok x As:=by
 obtain⟨css,h1,h2,h3⟩:=h.ex
 refine⟨css,h1,h2,?_⟩
 rcases h3 with h3|⟨g,cap,cur,rfl,hg,r⟩
 ·exact .inl h3
 ·exact .inr ⟨g,cap,cur,rfl,by omega,r⟩
theorem F4.row(h:F4 w B ok x As):∀g,x.ownBlock=some g->B<=g/\g<w.heap.size:=by
 obtain⟨css,_,h2⟩:=h.ex
 exact World.ownsRow.lt h2
theorem F4.only{L:List Nat}(h:F4 w B ok x As)(ho:A0 L w w')(hn:∀g∈L,¬ok g)(hx:∀g,x.ownBlock=some g->g∉L):F4 w' B ok x As:=by
 obtain⟨css,h1,h2,h3⟩:=h.ex
 refine⟨css,h1.mono (fun _ _ h=>h.only ho (fun g hg hk=>hn g hg hk.1)),h2,?_⟩
 rcases h3 with h3|⟨g,cap,cur,rfl,hg,hh,r⟩
 ·exact .inl h3
 ·exact .inr ⟨g,cap,cur,rfl,hg,(ho.block g (lt_of_block hh) (hx g rfl)).trans hh,r⟩
theorem F4.Bhl(h:F4 w B ok x As){B2:Nat}{e:TypeId}{k:IntKind}{v:Value}{l:List Int}(h2:Own w B2 e k v l)(he:e≠151):∀g,x.ownBlock=some g->v.ownBlock≠some g:=by
 intro g hg hv
 obtain⟨css,_,_,h3⟩:=h.ex
 rcases h3 with⟨rfl,_⟩|⟨g',cap,cur,rfl,_,hh,_⟩
 ·simp[Value.ownBlock]at hg
 ·have e':g'=g:=by simpa[Value.ownBlock]using hg
  subst e'
  exact h2.apart (g:=g') hh he hv
theorem F4.Bhk(h:F4 w B ok x As){d:Nat}{t:TypeId}{cs:Array Value}(h2:Block w d t cs)(he:t≠151):x.ownBlock≠some d:=by
 intro hg
 obtain⟨css,_,_,h3⟩:=h.ex
 rcases h3 with⟨rfl,_⟩|⟨g',cap,cur,rfl,_,hh,_⟩
 ·simp[Value.ownBlock]at hg
 ·have e':g'=d:=by simpa[Value.ownBlock]using hg
  subst e'
  exact Block.apart (t:=t) h2 hh he rfl
theorem F4.shape(h:F4 w B ok x As):∃ao cap,x=.slice ao As.length cap/\As.length<=cap/\cap<=maxLen:=by
 obtain⟨css,_,_,h3⟩:=h.ex
 rcases h3 with⟨rfl,hn⟩|⟨g,cap,cur,rfl,_,_,hn,hm,_⟩
 ·exact⟨none,0,by rw[hn],by omega,by simp[maxLen]⟩
 ·exact⟨_,cap,rfl,hn,hm⟩
end
structure C9(w:World)(B d:Nat)(v:Value)(S:PS):Prop where
 blk:D0 w d S v
 own:Own w B 21 .i32 v S.text
 low:B<=d
theorem C9.apart{w:World}{B d:Nat}{v:Value}{S:PS}(h:C9 w B d v S):v.ownBlock≠some d:=h.own.apart h.blk.blk (by decide)
theorem C9.only{w w':World}{B d:Nat}{v:Value}{S:PS}(h:C9 w B d v S){L:List Nat}(ho:A0 L w w')(h1:d∉L)(h2:∀g,v.ownBlock=some g->g∉L):C9 w' B d v S:=⟨h.blk.only ho h1,h.own.only ho h2,h.low⟩
theorem C9.new{w w':World}{B d:Nat}{v:Value}{S:PS}(h:C9 w B d v S)(hb:Below w.heap.size w w'):C9 w' B d v S:=h.only (A0.A1 hb []) (by simp) (by simp)
structure Bdn(n d:Nat)(v u:Value)(g:Nat):Prop where
 from_:n<=g\/v.ownBlock=some g
 text:u.ownBlock≠some g
 block:g≠d
structure Ada(w:World)(B d:Nat)(v:Value)(S':PS)(As:List Act)(x u:Value)(w':World):Prop where
 par:C9 w' B d u S'
 Akj:u.ownBlock=v.ownBlock\/u.ownBlock=none\/∃g,u.ownBlock=some g/\w.heap.size<=g
 M9:F4 w' w.heap.size (Bdn w.heap.size d v u) x As
 only:A0 (d::v.ownBlock.toList) w w'
def Fed(w:World)(B d:Nat)(v:Value)(X:Stp)(e:Ending)(w':World):Prop:=∃x u,e=.returned x/\Ada w B d v X.2 X.1 x u w'
def Avj(w:World)(d:Nat)(S:PS)(v:Value)(e:Ending)(w':World):Prop:=(∃x,e=.returned x)/\D0 w' d S v/\A0 [d] w w'
theorem Bjv(S:PS):S.num S.sq.num=S:=rfl
theorem Chp{L:Lst}(h:0<L.n.length):(⟨H6 L.n,L.over⟩:Lst)=L:=by rw[Bwa h]
theorem Ahb(S:PS)(v:Value)(hL:S.sq.num.n.length<=32)(d:Nat)(w:World)(hd:D0 w d S v) :
  Calls prog 218 #[.pointer (some ⟨d,2,none⟩)] w (Avj w d (S.num ⟨H6 S.sq.num.n,S.sq.num.over⟩) v):=by
 have hc:=hd.count hL
 have hfr:=hd.free 34
 by_cases h0:S.sq.num.n.length=0
 ·have C4:=J0 (hd.set (Avv (v:=v) hL (i:=32) (by omega) (Buf h0)))
  rw[h0]at hc
  clear hd h0
  go_enter func218,ntmps218
  go_wp2
  go_end0
  exact⟨⟨_,rfl⟩,C4.out,A0.setCell w ⟨d,34,.none⟩ _⟩
 ·have h0':0<S.sq.num.n.length:=by omega
  rw[Chp h0',Bjv]
  have hd':=J0 hd
  generalize S.sq.num.n.length=k at hc h0 h0'
  clear hd
  go_enter func218,ntmps218
  go_wp2
  go_end0
  exact⟨⟨_,rfl⟩,hd'.out,A0.refl _ _⟩
theorem Bwt{L:Lst}{x:Int}(h:x<0\/9<x\/L.over=true):Ajq L x=L:=if_pos h
theorem Bzu{L:Lst}{x:Int}(h0:0<=x)(h1:x<=9)(h2:L.over=false):Ajq L x=⟨G5 (H6 L.n) x,false⟩:=if_neg (by rw[h2];simp;omega)
theorem Bzt(S:PS)(v:Value)(hL:S.sq.num.Ok)(x:Int)(h0:0<=x)(h1:x<=9)(d:Nat)(w:World)(hd:D0 w d S v) :
  Calls prog 155 #[.pointer (some ⟨d,2,none⟩),.int .i64 x] w (Avj w d (S.num (Ajq S.sq.num x)) v):=by
 have ho:=hd.over hL.len
 by_cases hov:S.sq.num.over=true
 ·rw[Bwt (Or.inr (Or.inr hov)),Bjv]
  rw[hov]at ho
  have hd':=J0 hd
  clear hd
  go_enter func155,ntmps155
  go_wp2
  go_end0
  exact⟨⟨_,rfl⟩,hd'.out,A0.refl _ _⟩
 replace hov:S.sq.num.over=false:=by simpa using hov
 rw[hov]at ho
 have hb:=J0 (Ahb S v hL.len d w hd)
 rw[Bzu h0 h1 hov]
 have hok:=hL.beg S.sq.num.over
 have hp:=Blb S.sq.num.n
 obtain⟨j,hj⟩:∃j,(H6 S.sq.num.n).length=j+1:=⟨(H6 S.sq.num.n).length-1,by omega⟩
 have hj32:j<32:=by have:=hok.len;simp only at this;omega
 have hl0:=hok.lo _ (Bau hp)
 have hl1:=hok.hi _ (Bau hp)
 simp only at hl0 hl1
 have Aka:Aie (H6 S.sq.num.n)=(H6 S.sq.num.n)[j]'(by omega):=by
  unfold Aie
  rw[<- Par.getD_at (l:=H6 S.sq.num.n) (k:=j) (by omega),hj,Nat.add_sub_cancel]
 have E1:Hid (G5 (H6 S.sq.num.n) x=(H6 S.sq.num.n).set j (Alv (Aie (H6 S.sq.num.n)*10+x))):=by
  show _=_
  unfold G5
  rw[hj,Nat.add_sub_cancel]
 clear hd
 go_enter func155,ntmps155
 go_wp2_with fail
 refine hb.out.mono ?_
 rintro e w1 ⟨⟨v1,rfl⟩,hd1,ho1⟩
 have hc1:=hd1.count hok.len
 have hx1:=hd1.at (i:=j) (by simp only[PS.num];omega)
 have hf1:=hd1.free (2+j)
 have C4:=fun y=>hd1.set (Avv (v:=v) hok.len (i:=j) (by omega) (Bzl (L:=⟨H6 S.sq.num.n,S.sq.num.over⟩) (i:=j) (by simp only;omega) y))
 simp only[PS.num]at hc1 hx1 C4
 rw[<- Aka]at hx1
 rw[hj]at hc1
 rw[hov]at C4
 have hc1':w1.cell? ⟨d,34,none⟩=some (.int .i64 ((j:Int)+1)):=by rw[hc1];rfl
 replace C4:=J0 C4
 generalize Aie (H6 S.sq.num.n)=y at hx1 hl0 hl1 E1
 clear hc1 hb hd1 hok hp hj Aka ho
 go_wp2
 go_quiet (fail)
 go_wp2
 all_goals go_end0
 ·have Afh:Alv (y*10+x)=65535:=if_pos (by assumption)
  refine⟨⟨_,rfl⟩,?_,ho1.trans ((A0.drewN [d] w1 nq).trans (A0.setCell (w1.drewN nq) ⟨d,2+j,none⟩ _))⟩
  rw[E1.out,Afh]
  exact C4.out _
 ·have Afh:Alv (y*10+x)=y*10+x:=if_neg (by omega)
  refine⟨⟨_,rfl⟩,?_,ho1.trans ((A0.drewN [d] w1 nq).trans (A0.setCell (w1.drewN nq) ⟨d,2+j,none⟩ _))⟩
  rw[E1.out,Afh]
  exact C4.out _
theorem Cbi{L:Lst}(h:(H6 L.n).length=32):X8 L=⟨H6 L.n,true⟩:=if_pos h
theorem Cbj{L:Lst}(h:¬(H6 L.n).length=32):X8 L=⟨H6 L.n++[0],L.over⟩:=if_neg h
theorem Anf(S:PS)(v:Value)(hL:S.sq.num.n.length<=32)(d:Nat)(w:World)(hd:D0 w d S v) :
  Calls prog 156 #[.pointer (some ⟨d,2,none⟩)] w (Avj w d (S.num (X8 S.sq.num)) v):=by
 have hb:=J0 (Ahb S v hL d w hd)
 have hlen:=Bkz hL
 clear hd
 by_cases h32:(H6 S.sq.num.n).length=32
 ·rw[Cbi h32]
  go_enter func156,ntmps156
  go_wp2_with fail
  refine hb.out.mono ?_
  rintro e w1 ⟨⟨v1,rfl⟩,hd1,ho1⟩
  have hc1:=hd1.count hlen
  have hf1:=hd1.free 35
  have ho:=hd1.over hlen
  have C4:=J0 (hd1.set (Avv (v:=v) hlen (i:=33) (by omega) (Buh (L:=⟨H6 S.sq.num.n,S.sq.num.over⟩) hlen)))
  simp only[PS.num]at hc1 ho
  rw[h32]at hc1
  clear hb hd1 hlen h32
  go_wp2
  go_end0
  exact⟨⟨_,rfl⟩,C4.out,ho1.trans (A0.setCell w1 ⟨d,35,none⟩ _)⟩
 ·rw[Cbj h32]
  go_enter func156,ntmps156
  go_wp2_with fail
  refine hb.out.mono ?_
  rintro e w1 ⟨⟨v1,rfl⟩,hd1,ho1⟩
  have hc1:=hd1.count hlen
  have hf1:=hd1.free 34
  have C4:=hd1.set (Avv (v:=v) hlen (i:=32) (by omega) (Bwf (L:=⟨H6 S.sq.num.n,S.sq.num.over⟩) (by simp only;omega)))
  simp only[PS.num]at hc1 C4
  replace C4:=J0 C4
  generalize (H6 S.sq.num.n).length=k at hc1 C4 hlen h32
  have h32':((k:Int)==32)=false:=by simp;omega
  clear hb hd1 h32
  go_wp2
  go_end0
  exact⟨⟨_,rfl⟩,C4.out,ho1.trans (A0.setCell w1 ⟨d,34,none⟩ _)⟩
theorem Arf:Z4 prog 47 3 .i64 8:=by
 have h:(prog.info? 3).map (fun i=>(i.zero,i.size,i.bytes))=some (some (.int .i64 0),1,8):=by kernel_rfl
 obtain⟨i,h0,h1,h2,h3⟩:=info_parts h
 exact⟨underlying47,i,h0,h1,h2,h3⟩
theorem Alm:Z4 prog 26 21 .i32 4:=by
 have h:(prog.info? 21).map (fun i=>(i.zero,i.size,i.bytes))=some (some (.int .i32 0),1,4):=by kernel_rfl
 obtain⟨i,h0,h1,h2,h3⟩:=info_parts h
 exact⟨underlying26,i,h0,h1,h2,h3⟩
theorem Baz(k:Nat)(hk:k<=32)(d:Nat)(w:World) :
  (Instr.sliceAt 108 (.pointer (some ⟨d,2,none⟩)) none (some (.int .i64 k)) (some (.int .i64 k))).run prog w=.ok (.slice (some ⟨d,2,none⟩) k k) w:=by
 have ht:prog.underlying 108=some (.array (prog.arrayLen 108) (prog.elem 108)):=by kernel_rfl
 have hl:prog.arrayLen 108=32:=by kernel_rfl
 have hi:(prog.info? (prog.elem 108)).map (·.size)=some 1:=by kernel_rfl
 rw[run_sliceAt_array_hm w _ ⟨d,2,none⟩ ht .i64 .i64 k k (by omega) (by omega) (by rw[hl];omega)]
 cases hq:prog.info? (prog.elem 108)with
 |none=>simp[hq]at hi
 |some j =>
  have hs:j.size=1:=by simpa[hq]using hi
  simp[sizeOf,typeInfo,hq,hs,slicedAt,Addr.add]
theorem Bvg(S:PS)(v:Value)(hL:S.sq.num.n.length<=32)(d:Nat)(w:World)(hd:D0 w d S v) :
  Calls prog 282 #[.pointer (some ⟨d,2,none⟩)] w fun e w'=>∃n,e=.returned (.slice (some ⟨d,2,none⟩) S.sq.num.n.length S.sq.num.n.length)/\w'=w.drewN n:=by
 have hc:=hd.count hL
 generalize hk:S.sq.num.n.length=k at hc hL
 clear hk hd
 have hp:=Baz k hL d
 go_enter func282,ntmps282
 go_wp2
 go_quiet (fail)
 go_wp2
 go_ret
 exact⟨_,rfl,rfl⟩
theorem Cgl{w:World}{d:Nat}{S:PS}{v:Value}(h:D0 w d S v):A8 w w.heap.size .i64 (some ⟨d,2,none⟩) S.sq.num.n:=fun i x hx=>by
 obtain⟨hi,rfl⟩:=List.getElem?_eq_some_iff.1 hx
 refine⟨_,rfl,h.lt,?_⟩
 rw[Addr.add_lit]
 exact h.at hi
def Ab5(w:World)(l:List Int)(e:Ending)(w':World):Prop:=∃x,e=.returned x/\Own w' w.heap.size 3 .i64 x l/\Below w.heap.size w w'
theorem Byu(S:PS)(v:Value)(hL:S.sq.num.n.length<=32)(d:Nat)(w:World)(hd:D0 w d S v) :
  Calls prog 264 #[.pointer (some ⟨d,2,none⟩)] w (Ab5 w S.sq.num.n):=by
 have h:=J0 (Bvg S v hL d w hd)
 have hn:=Cgl hd
 go_enter func264,ntmps264
 go_wp2_with (first
  |(go_at_call 282;refine(h.out).mono ?_;rintro e w1 ⟨n,rfl,rfl⟩)
  |(with_reducible refine J6 5 ?_;go_must(refine Akq Arf rfl (.const (.slice none 0 0)) (.tmp 4) rfl w.heap.size (.slice none 0 0) [] S.sq.num.n (some ⟨d,2,none⟩) w.heap.size S.sq.num.n.length rfl rfl (Own.nil (w.drewN n) _ _ _) (hn.kept fun _ _=>rfl) (J5 _) (by simp;omega) (by simp[maxLen];omega) ?_);intro v2 w2 C0 ho hat))
 go_ret
 exact⟨v2,rfl,C0,(A0.then (A0.drewN [] w n) ho (by simp[Value.ownBlock])).nil⟩
theorem M1(L:List Nat)(w:World):A0 L w w.drew:=⟨rfl,rfl,rfl,J5 _,fun _ _ _=>rfl⟩
theorem Bfn(S:PS)(v:Value)(hL:S.sq.num.n.length<=32)(hc:S.sq.cnt<=2)(r:Int)(d:Nat)(w:World)(hd:D0 w d S v) :
  Calls prog 152 #[.pointer (some ⟨d,1,none⟩),.int .i32 r] w (Avj w d (S.take r) v):=by
 have h38:=hd.cnt hL
 have h36:=hd.pa hL
 have h37:=hd.pb hL
 have h39:=hd.many hL
 have f36:=hd.free 36
 have f37:=hd.free 37
 have f38:=hd.free 38
 have f39:=hd.free 39
 rcases(by omega:S.sq.cnt=0\/S.sq.cnt=1\/S.sq.cnt=2)with h0|h0|h0
 ·have e:S.take r=⟨S.st,⟨S.sq.pr,S.sq.num,r,S.sq.b,1,S.sq.many⟩,S.text⟩:=by unfold PS.take Sq.put;rw[if_neg (by omega),if_neg (by omega)]
  rw[h0]at h38
  have C4:∀w1,D0 w1 d S v->D0 ((w1.setCell ⟨d,36,none⟩ (.int .i32 r)).setCell ⟨d,38,none⟩ (.int .i64 1)) d ⟨S.st,⟨S.sq.pr,S.sq.num,r,S.sq.b,1,S.sq.many⟩,S.text⟩ v :=
   fun w1 h=>(h.set (Csv hL v r)).set (Bmz (S:=⟨S.st,⟨S.sq.pr,S.sq.num,r,S.sq.b,S.sq.cnt,S.sq.many⟩,S.text⟩) hL v 1)
  replace C4:=J0 C4
  have hd':=J0 hd
  rw[e]
  clear hd e hc hL
  go_enter func152,ntmps152
  go_wp2
  go_region
  all_goals go_wp2
  all_goals go_end0
  all_goals exact⟨⟨_,rfl⟩,C4.out _ hd'.out,((A0.setCell w ⟨d,36,none⟩ _).trans (A0.setCell _ ⟨d,38,none⟩ _)).trans (M1 _ _)⟩
 ·have e:S.take r=⟨S.st,⟨S.sq.pr,S.sq.num,S.sq.a,r,2,S.sq.many⟩,S.text⟩:=by unfold PS.take Sq.put;rw[if_neg (by omega),if_pos h0]
  rw[h0]at h38
  have C4:∀w1,D0 w1 d S v->D0 ((w1.setCell ⟨d,37,none⟩ (.int .i32 r)).setCell ⟨d,38,none⟩ (.int .i64 2)) d ⟨S.st,⟨S.sq.pr,S.sq.num,S.sq.a,r,2,S.sq.many⟩,S.text⟩ v :=
   fun w1 h=>(h.set (Csw hL v r)).set (Bmz (S:=⟨S.st,⟨S.sq.pr,S.sq.num,S.sq.a,r,S.sq.cnt,S.sq.many⟩,S.text⟩) hL v 2)
  replace C4:=J0 C4
  have hd':=J0 hd
  rw[e]
  clear hd e hc hL
  go_enter func152,ntmps152
  go_wp2
  go_region
  all_goals go_wp2
  all_goals go_end0
  all_goals exact⟨⟨_,rfl⟩,C4.out _ hd'.out,((A0.setCell w ⟨d,37,none⟩ _).trans (A0.setCell _ ⟨d,38,none⟩ _)).trans (M1 _ _)⟩
 ·have e:S.take r=⟨S.st,⟨S.sq.pr,S.sq.num,S.sq.a,S.sq.b,S.sq.cnt,true⟩,S.text⟩:=by unfold PS.take Sq.put;rw[if_pos h0]
  rw[h0]at h38
  have C4:=J0 (hd.set (Chs hL v))
  rw[e]
  clear hd e hc hL
  go_enter func152,ntmps152
  go_wp2
  go_end0
  exact⟨⟨_,rfl⟩,C4.out,A0.setCell w ⟨d,39,none⟩ _⟩
theorem Amw(w:World)(B:Nat)(hB:B<=w.heap.size)(ok:Nat->Prop)(A:Act)(cs:List Value)(h:X7 w ok A cs) :
  F4 (w.alloc (.cells cs.toArray 151)) B ok (.slice (some ⟨w.heap.size,0,none⟩) 1 1) [A]:=by
 have h2:X7 w (fun g=>ok g/\w.heap.size≠g) A cs:=h.mono (fun g hg hk=>⟨hk,by omega⟩)
 refine⟨[cs],.cons ((h2.only (A0.alloc [] w _) (by simp)).mono (fun g _ hk=>⟨hk.1,fun e=>hk.2 (by simpa[Value.ownBlock]using e)⟩)) .nil,?_⟩
 have:=World.ownsRow_lit w (e:=151) (base:=B) (size:=7) cs.toArray 1 hB (by simp[maxLen]) (by simp[h.len])
 simpa using this
theorem Bij{w:World}{B:Nat}{e:TypeId}{k:IntKind}{ao:Option Addr}{n c:Nat}{l:List Int}(h:Own w B e k (.slice ao n c) l):I2 w (B<=·) k ao l:=by
 have hlt:=h.lt
 obtain⟨ao',c',e',_,_,hn⟩:=Auj h
 cases e'
 exact hn.mono (fun g _ hg=>(hlt g hg).1)
theorem Ban(w:World)(ok:Nat->Prop)(k R p f:Int):X7 w ok ⟨k,R,p,[],[],f,[]⟩ [.int .u8 k,.int .i32 R,.int .i32 p,.slice none 0 0,.slice none 0 0,.int .i32 f,.slice none 0 0] :=
 ⟨⟨none,0,none,0,none,0,rfl,I2.nil _ _ _ _,I2.nil _ _ _ _,I2.nil _ _ _ _⟩,none,0,rfl,J5 _,by simp[maxLen]⟩
def Avi(w:World)(As:List Act)(e:Ending)(w':World):Prop:=∃x,e=.returned x/\F4 w' w.heap.size (w.heap.size<=·) x As/\Below w.heap.size w w'
theorem Bxp(r:Int)(p:Value)(w:World) :
  Calls prog 112 #[p,.int .i32 r] w (Avi w [Ajt r]):=by
 go_enter func112,ntmps112
 go_wp2
 go_ret
 exact⟨_,rfl,Amw w w.heap.size (J5 _) _ _ _ (Ban w _ 1 r 0 0),A3 _ _⟩
theorem Bjc(r:Int)(w:World) :
  Calls prog 111 #[.int .i32 r] w fun e w'=>e=.returned (.agg #[.int .u8 2,.int .i32 r,.int .i32 0,.slice none 0 0,.slice none 0 0,.int .i32 0,.slice none 0 0])/\Below w.heap.size w w':=by
 go_enter func111,ntmps111
 go_wp2
 exact bodyPost_ret (v:=.agg #[.int .u8 2,.int .i32 r,.int .i32 0,.slice none 0 0,.slice none 0 0,.int .i32 0,.slice none 0 0]) (by simp[results,results111,go_sem]) rfl ⟨rfl,A3 _ _⟩
theorem Cci(k:Nat)(hk:k<=2)(d:Nat)(w:World) :
  (Instr.sliceAt 111 (.pointer (some ⟨d,36,none⟩)) none (some (.int .i64 k)) none).run prog w=.ok (.slice (some ⟨d,36,none⟩) k 2) w:=by
 have ht:prog.underlying 111=some (.array (prog.arrayLen 111) (prog.elem 111)):=by kernel_rfl
 have hl:prog.arrayLen 111=2:=by kernel_rfl
 have hi:(prog.info? (prog.elem 111)).map (·.size)=some 1:=by kernel_rfl
 rw[run_sliceAt_array_h w _ ⟨d,36,none⟩ ht .i64 k (by omega) (by rw[hl];omega)]
 cases hq:prog.info? (prog.elem 111)with
 |none=>simp[hq]at hi
 |some j =>
  have hs:j.size=1:=by simpa[hq]using hi
  simp[sizeOf,typeInfo,hq,hs,slicedAt,Addr.add,hl]
theorem Bxx{w:World}{d:Nat}{S:PS}{v:Value}(hL:S.sq.num.n.length<=32)(h:D0 w d S v):A8 w w.heap.size .i32 (some ⟨d,36,none⟩) S.sq.inter:=fun i x hx=>by
 refine⟨_,rfl,h.lt,?_⟩
 rw[Addr.add_lit]
 unfold Sq.inter at hx
 rw[List.getElem?_take]at hx
 split at hx
 ·rcases i with _|_|i
  ·simp at hx;subst hx;exact h.pa hL
  ·simp at hx;subst hx;exact h.pb hL
  ·simp at hx
 ·cases hx
theorem Btf{q:Sq}(h:q.cnt<=2):q.inter.length=q.cnt:=by
 unfold Sq.inter
 simp
 omega
theorem Cfp{S:PS}{v:Value}{d:Nat}{w w1:World}(hL:S.sq.num.n.length<=32){p:Int}{k:Nat}(hp:S.sq.pr=p)(hk:S.sq.cnt=k)(h:D0 w d S v)(hb:A0 [] w w1) :
  D0 w1 d S v/\w1.cell? ⟨d,1,none⟩=some (.int .i32 p)/\w1.cell? ⟨d,38,none⟩=some (.int .i64 k):=by
 have h':=h.only hb (by simp)
 subst hp
 subst hk
 exact⟨h',h'.c1,h'.cnt hL⟩
theorem Btt(S:PS)(v:Value)(hL:S.sq.num.n.length<=32)(kind final:Int)(d:Nat)(w:World)(hd:D0 w d S v)(hm:S.sq.many=true) :
  Calls prog 217 #[.pointer (some ⟨d,1,none⟩),.int .u8 kind,.int .i32 final] w (Avi w (S.sq.M9 kind final)):=by
 have h39:=hd.many hL
 rw[hm]at h39
 have hE:Hid (S.sq.M9 kind final=[]):=by show _=_;unfold Sq.M9;rw[if_pos hm]
 go_enter func217,ntmps217
 go_wp2
 go_ret
 refine⟨_,rfl,?_,Below.refl _ _⟩
 rw[hE.out]
 exact F4.nil _ _ _
theorem Bvp(S:PS)(v:Value)(hL:S.sq.num.n.length<=32)(hc:S.sq.cnt<=2)(kind final:Int)(d:Nat)(w:World)(hd:D0 w d S v)(hm:S.sq.many=false) :
  Calls prog 217 #[.pointer (some ⟨d,1,none⟩),.int .u8 kind,.int .i32 final] w (Avi w (S.sq.M9 kind final)):=by
 have h39:=hd.many hL
 have h38:=hd.cnt hL
 have h1:=hd.c1
 rw[hm]at h39
 have Bpk:=J0 (fun w' (h:D0 w' d S v)=>Byu S v hL d w' h)
 have hint:=J0 (fun w' (h:D0 w' d S v)=>Bxx hL h)
 have hlen:=Btf hc
 obtain⟨p,hp⟩:∃p,S.sq.pr=p:=⟨_,rfl⟩
 obtain⟨k,hk⟩:∃k,S.sq.cnt=k:=⟨_,rfl⟩
 have Y9:=J0 (fun w w1 (h:D0 w d S v) (hb:A0 [] w w1)=>Cfp hL hp hk h hb)
 rw[hp]at h1
 rw[hk]at h38 hlen hc
 have hE:Hid (S.sq.M9 kind final=[⟨kind,0,p,S.sq.num.n,S.sq.inter,final,[]⟩]):=by show _=_;unfold Sq.M9;rw[hm,if_neg (by simp),hp]
 have hlen':=J0 hlen
 have hsl:=Cci k hc d
 generalize S.sq.num.n=ns at Bpk hE
 generalize S.sq.inter=is at hint hE hlen hlen'
 clear hp hk hm hL hlen
 go_enter func217,ntmps217
 go_wp2
 go_region_held3 (fun w'=>D0 w' d S v/\w'.cell? ⟨d,1,none⟩=some (.int .i32 p)/\w'.cell? ⟨d,38,none⟩=some (.int .i64 k))
  (first
   |exact⟨hd,h1,h38⟩
   |(go_split_ands;exact Y9.out _ w1 (by assumption) (A0.A1 hb1 []))
   |(go_split_ands;exact Y9.out _ w2 (by assumption) (by simpa[Value.ownBlock]using ho2))
   |(go_split_ands;exact Y9.out _ _ (by assumption) (A0.alloc [] _ _))
   |go_keep)
  (first
   |(go_at_call 264;refine(Bpk.out _ (by assumption)).mono ?_;rintro e w1 ⟨x1,rfl,Aah,hb1⟩;obtain⟨a1,c1,rfl,_,_,_⟩:=Aah.shape)
   |(refine Bkl Alm rfl (.const (.slice none 0 0)) (.tmp 27) rfl w.heap.size (.slice none 0 0) [] is (some ⟨d,36,none⟩) _ 2 rfl (by rw[hlen'.out];rfl) (Own.nil _ _ _ _) (hint.out _ (‹D0 w1 d S v/\_›).1) (by first|exact J5 _|exact hb1.size) (by rw[hlen'.out];simp;omega) (by rw[hlen'.out];simp[maxLen];omega) ?_;intro v2 w2 L4 ho2 Aak;simp only[List.nil_append]at L4;obtain⟨a2,c2,rfl,_,_,_⟩:=L4.shape))
 all_goals go_wp2
 go_ret
 have o1:A0 [] w w1:=(M1 [] w).trans (A0.A1 hb1 [])
 have o2:A0 [] w1 w2:=by simpa[Value.ownBlock]using ho2
 refine⟨_,rfl,?_,((o1.trans o2).trans (A0.alloc [] w2 _)).nil⟩
 rw[hE.out]
 obtain⟨_,_,e1,q1,q2,_⟩:=Aah.shape
 cases e1
 exact Amw w2 w.heap.size (o1.trans o2).size _ _ _ ⟨⟨a1,c1,a2,c2,none,0,rfl,Bij (Aah.only o2 (by simp)),Bij L4,I2.nil _ _ _ _⟩,a1,c1,rfl,q1,q2⟩
theorem Bvo(S:PS)(v:Value)(hL:S.sq.num.n.length<=32)(hc:S.sq.cnt<=2)(kind final:Int)(d:Nat)(w:World)(hd:D0 w d S v) :
  Calls prog 217 #[.pointer (some ⟨d,1,none⟩),.int .u8 kind,.int .i32 final] w (Avi w (S.sq.M9 kind final)):=by
 by_cases hm:S.sq.many=true
 ·exact Btt S v hL kind final d w hd hm
 ·exact Bvp S v hL hc kind final d w hd (by simpa using hm)
