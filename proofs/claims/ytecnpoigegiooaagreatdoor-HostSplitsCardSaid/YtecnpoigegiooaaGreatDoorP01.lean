/- Part 1 of HostSplits. -/
import Derived.Test.YtecnpoigegiooaaGreatDoorChecked
import Derived.WalkLawsBesides
import Derived.LoopTactic
import Derived.IntWalk
import Derived.Outline
import Derived.Deep.QuietTactic
import Derived.BigQuiet
import Derived.Deep.DeepMust
import Derived.Test.YtecnpoigegiooaaGreatDoorP00
import Derived.Great.BuildSlice
set_option maxHeartbeats 16000000
set_option maxRecDepth 100000
namespace Go.Proofs.YtecnpoigegiooaaGreatDoor.Prs
open Go RowKit Com Par
def Ae3 (L:Lst):List Value:=(L.n++List.replicate (32 - L.n.length) 0).map (Value.int .i64)++[.int .i64 L.n.length,.bool L.over]
def Ce7 (q:Sq) (v:Value):List Value:=[.int .i32 q.a,.int .i32 q.b,.int .i64 q.cnt,.bool q.many,v]
def parL (S:PS) (v:Value):List Value:=.int .u8 S.st::.int .i32 S.sq.pr::(Ae3 S.sq.num++Ce7 S.sq v)
def PBlk (w:World) (d:Nat) (S:PS) (v:Value):Prop:=Block w d 115 (parL S v).toArray
theorem Ak7 {L:Lst} (h:L.n.length<=32):((L.n++List.replicate (32 - L.n.length) 0).map (Value.int .i64)).length=32:=by simp;omega
theorem cells_at {L:Lst} {i:Nat} (h:i<L.n.length):(Ae3 L)[i]?=some (.int .i64 L.n[i]):=by
 unfold Ae3
 rw[List.getElem?_append_left (by simp;omega),List.getElem?_map,List.getElem?_append_left h,List.getElem?_eq_getElem h]
 rfl
theorem cells_count {L:Lst} (h:L.n.length<=32):(Ae3 L)[32]?=some (.int .i64 L.n.length):=by
 unfold Ae3
 rw[List.getElem?_append_right (by rw[Ak7 h];omega),Ak7 h]
 rfl
theorem cells_over {L:Lst} (h:L.n.length<=32):(Ae3 L)[33]?=some (.bool L.over):=by
 unfold Ae3
 rw[List.getElem?_append_right (by rw[Ak7 h];omega),Ak7 h]
 rfl
theorem Ai1 {L:Lst} (h:L.n.length<=32):(Ae3 L).length=34:=by
 unfold Ae3
 rw[List.length_append,Ak7 h]
 rfl
theorem cells_put {L:Lst} {i:Nat} (hi:i<L.n.length) (x:Int):(Ae3 L).set i (.int .i64 x)=Ae3 ⟨L.n.set i x,L.over⟩:=by
 unfold Ae3
 rw[List.set_append_left _ _ (by simp;omega),<- List.map_set,List.set_append_left _ _ hi]
 simp
theorem cells_begin {L:Lst} (h:L.n.length=0):(Ae3 L).set 32 (.int .i64 1)=Ae3 ⟨begF L.n,L.over⟩:=by
 obtain⟨n,o⟩:=L
 have:n=[]:=List.eq_nil_of_length_eq_zero h
 subst this
 rfl
theorem cells_next {L:Lst} (h:L.n.length<32):(Ae3 L).set 32 (.int .i64 ((L.n.length:Int)+1))=Ae3 ⟨L.n++[0],L.over⟩:=by
 have hp:=Ak7 (L:=L) (by omega)
 have e:L.n++[0]++List.replicate (32 - (L.n++[0]).length) 0=L.n++List.replicate (32 - L.n.length) 0:=by
  rw[List.append_assoc,List.length_append,List.length_singleton]
  congr 1
  rw[show 32 - L.n.length=(32 - (L.n.length+1))+1 by omega,List.replicate_succ]
  rfl
 unfold Ae3
 rw[List.set_append_right _ _ (by rw[hp];omega),hp]
 simp only[e]
 congr 1
 simp
theorem cells_over2 {L:Lst} (h:L.n.length<=32):(Ae3 L).set 33 (.bool true)=Ae3 ⟨L.n,true⟩:=by
 have hp:=Ak7 h
 unfold Ae3
 rw[List.set_append_right _ _ (by rw[hp];omega),hp]
 rfl
theorem Bx2 {S:PS} {v:Value} {i:Nat} {u:Value} (h:(Ae3 S.sq.num)[i]?=some u):(parL S v)[2+i]?=some u:=by
 unfold parL
 rw[show 2+i=i+1+1 by omega,List.getElem?_cons_succ,List.getElem?_cons_succ,List.getElem?_append_left (List.getElem?_eq_some_iff.1 h).1]
 exact h
theorem Ax4 {S:PS} {v:Value} (hL:S.sq.num.n.length<=32) {i:Nat} {u:Value} (h:(Ce7 S.sq v)[i]?=some u):(parL S v)[36+i]?=some u:=by
 unfold parL
 rw[show 36+i=(34+i)+1+1 by omega,List.getElem?_cons_succ,List.getElem?_cons_succ,List.getElem?_append_right (by rw[Ai1 hL];omega),Ai1 hL,Nat.add_sub_cancel_left]
 exact h
theorem Cb7 {S:PS} {v:Value} (hL:S.sq.num.n.length<=32):(parL S v).length=41:=by
 unfold parL
 simp[Ai1 hL,Ce7]
section
variable {w:World}{d:Nat}{S:PS}{v:Value}
theorem PBlk.blk (h:PBlk w d S v):Block w d 115 (parL S v).toArray:=h
theorem PBlk.free (h:PBlk w d S v) (i:Nat):w.frozen? ⟨d,i,none⟩=false:=Block.free h i
theorem PBlk.lt (h:PBlk w d S v):d<w.heap.size:=Block.lt h
theorem PBlk.c0 (h:PBlk w d S v):w.cell? ⟨d,0,none⟩=some (.int .u8 S.st):=Block.cell h 0 rfl
theorem PBlk.c1 (h:PBlk w d S v):w.cell? ⟨d,1,none⟩=some (.int .i32 S.sq.pr):=Block.cell h 1 rfl
theorem PBlk.at (h:PBlk w d S v) {i:Nat} (hi:i<S.sq.num.n.length):w.cell? ⟨d,2+i,none⟩=some (.int .i64 S.sq.num.n[i]):=Block.cell h (2+i) (by simpa using Bx2 (v:=v) (cells_at hi))
theorem PBlk.count (h:PBlk w d S v) (hk:S.sq.num.n.length<=32):w.cell? ⟨d,34,none⟩=some (.int .i64 S.sq.num.n.length):=Block.cell h 34 (by simpa using Bx2 (v:=v) (cells_count hk))
theorem PBlk.over (h:PBlk w d S v) (hk:S.sq.num.n.length<=32):w.cell? ⟨d,35,none⟩=some (.bool S.sq.num.over):=Block.cell h 35 (by simpa using Bx2 (v:=v) (cells_over hk))
theorem PBlk.pa (h:PBlk w d S v) (hk:S.sq.num.n.length<=32):w.cell? ⟨d,36,none⟩=some (.int .i32 S.sq.a):=Block.cell h 36 (by simpa using Ax4 (v:=v) hk (i:=0) rfl)
theorem PBlk.pb (h:PBlk w d S v) (hk:S.sq.num.n.length<=32):w.cell? ⟨d,37,none⟩=some (.int .i32 S.sq.b):=Block.cell h 37 (by simpa using Ax4 (v:=v) hk (i:=1) rfl)
theorem PBlk.cnt (h:PBlk w d S v) (hk:S.sq.num.n.length<=32):w.cell? ⟨d,38,none⟩=some (.int .i64 S.sq.cnt):=Block.cell h 38 (by simpa using Ax4 (v:=v) hk (i:=2) rfl)
theorem PBlk.many (h:PBlk w d S v) (hk:S.sq.num.n.length<=32):w.cell? ⟨d,39,none⟩=some (.bool S.sq.many):=Block.cell h 39 (by simpa using Ax4 (v:=v) hk (i:=3) rfl)
theorem PBlk.txt (h:PBlk w d S v) (hk:S.sq.num.n.length<=32):w.cell? ⟨d,40,none⟩=some v:=Block.cell h 40 (by simpa using Ax4 (v:=v) hk (i:=4) rfl)
theorem PBlk.only {L:List Nat} {w':World} (h:PBlk w d S v) (ho:Only L w w') (hn:d∉L):PBlk w' d S v:=Block.only h ho hn
theorem PBlk.set {S':PS} {v':Value} (h:PBlk w d S v) {i:Nat} {u:Value} (hs:(parL S v).set i u=parL S' v'):PBlk (w.setCell ⟨d,i,none⟩ u) d S' v':=by
 have:=Block.set h i u
 rw[J1,hs] at this
 exact this
end
theorem Bp8 {S:PS} {v:Value} {i:Nat} {u:Value} {L:Lst} (hL:S.sq.num.n.length<=32) (hi:i<34) (h:(Ae3 S.sq.num).set i u=Ae3 L):(parL S v).set (2+i) u=parL (S.num L) v:=by
 unfold parL
 replace hi:i<(Ae3 S.sq.num).length:=by rw[Ai1 hL];exact hi
 rw[show 2+i=i+1+1 by omega,J3,J3,List.set_append_left _ _ hi,h]
 rfl
theorem Ay3 {S:PS} {v:Value} (hL:S.sq.num.n.length<=32) {i:Nat} {u:Value} {q:Sq} {v':Value} (hq:q.pr=S.sq.pr/\q.num=S.sq.num) (h:(Ce7 S.sq v).set i u=Ce7 q v') :
  (parL S v).set (36+i) u=parL ⟨S.st,q,S.text⟩ v':=by
 unfold parL
 rw[show 36+i=(34+i)+1+1 by omega,J3,J3,List.set_append_right _ _ (by rw[Ai1 hL];omega),Ai1 hL,Nat.add_sub_cancel_left,h]
 simp only[hq.1,hq.2]
theorem set_a {S:PS} (hL:S.sq.num.n.length<=32) (v:Value) (r:Int):(parL S v).set 36 (.int .i32 r)=parL ⟨S.st,⟨S.sq.pr,S.sq.num,r,S.sq.b,S.sq.cnt,S.sq.many⟩,S.text⟩ v:=Ay3 (v:=v) hL (i:=0) ⟨rfl,rfl⟩ rfl
theorem set_b {S:PS} (hL:S.sq.num.n.length<=32) (v:Value) (r:Int):(parL S v).set 37 (.int .i32 r)=parL ⟨S.st,⟨S.sq.pr,S.sq.num,S.sq.a,r,S.sq.cnt,S.sq.many⟩,S.text⟩ v:=Ay3 (v:=v) hL (i:=1) ⟨rfl,rfl⟩ rfl
theorem Cm7 {S:PS} (hL:S.sq.num.n.length<=32) (v:Value) (n:Nat):(parL S v).set 38 (.int .i64 n)=parL ⟨S.st,⟨S.sq.pr,S.sq.num,S.sq.a,S.sq.b,n,S.sq.many⟩,S.text⟩ v:=Ay3 (v:=v) hL (i:=2) (q:=⟨S.sq.pr,S.sq.num,S.sq.a,S.sq.b,n,S.sq.many⟩) ⟨rfl,rfl⟩ rfl
theorem set_many {S:PS} (hL:S.sq.num.n.length<=32) (v:Value):(parL S v).set 39 (.bool true)=parL ⟨S.st,⟨S.sq.pr,S.sq.num,S.sq.a,S.sq.b,S.sq.cnt,true⟩,S.text⟩ v:=Ay3 (v:=v) hL (i:=3) ⟨rfl,rfl⟩ rfl
theorem Cm9 {S:PS} (hL:S.sq.num.n.length<=32) (v v':Value):(parL S v).set 40 v'=parL S v':=Ay3 (v:=v) hL (i:=4) ⟨rfl,rfl⟩ rfl
theorem Cc6 (S:PS) (v:Value) (s:Int):(parL S v).set 0 (.int .u8 s)=parL ⟨s,S.sq,S.text⟩ v:=rfl
theorem set_pr (S:PS) (v:Value) (r:Int):(parL S v).set 1 (.int .i32 r)=parL (S.priv r) v:=rfl
def NumsP (w:World) (ok:Nat->Prop) (k:IntKind) (ao:Option Addr) (l:List Int):Prop :=
 ∀i x,l[i]?=some x->∃ad,ao=some ad/\ok ad.block/\w.cell? (ad.add i)=some (.int k x)
section
variable {w w':World}{ok ok':Nat->Prop}{k:IntKind}{ao:Option Addr}{l:List Int}
theorem NumsP.nil (w:World) (ok:Nat->Prop) (k:IntKind) (ao:Option Addr):NumsP w ok k ao []:=fun i x h=>by simp at h
theorem NumsP.mono (h:NumsP w ok k ao l) (hm:∀g,g<w.heap.size->ok g->ok' g):NumsP w ok' k ao l:=fun i x hx=>by
 obtain⟨ad,e,hk,hc⟩:=h i x hx
 have hlt:=World.block_lt_of_cell? _ _ hc
 rw[Ac5] at hlt
 exact⟨ad,e,hm _ hlt hk,hc⟩
theorem NumsP.only {L:List Nat} (h:NumsP w ok k ao l) (ho:Only L w w') (hn:∀g∈L,¬ok g):NumsP w' ok k ao l:=fun i x hx=>by
 obtain⟨ad,e,hk,hc⟩:=h i x hx
 have hlt:=World.block_lt_of_cell? _ _ hc
 rw[Ac5] at hlt
 refine⟨ad,e,hk,(World.cell?_of_block (w:=w) (ho.block _ (by rw[Ac5];exact hlt) (fun hm=>?_))).trans hc⟩
 rw[Ac5] at hm
 exact hn _ hm hk
end
theorem Ax0 {w:World} {B:Nat} {e:TypeId} {k:IntKind} {v:Value} {l:List Int} (h:Own w B e k v l):∃ao cap,v=.slice ao l.length cap/\l.length<=cap/\cap<=maxLen/\NumsP w (fun g=>v.ownBlock=some g) k ao l:=by
 obtain⟨ao,cap,rfl,h1,h2,hn⟩:=h.shape
 refine⟨ao,cap,rfl,h1,h2,fun i x hx=>?_⟩
 obtain⟨ad,rfl,_,hc⟩:=hn i x hx
 exact⟨ad,rfl,rfl,hc⟩
inductive All2 {α β:Type} (R:α->β->Prop):List α->List β->Prop
 |nil:All2 R [] []
 |cons {a b l m} (h:R a b) (t:All2 R l m):All2 R (a::l) (b::m)
theorem All2.app {α β:Type} {R:α->β->Prop} {l l':List α} {m m':List β} (h:All2 R l m) (g:All2 R l' m'):All2 R (l++l') (m++m'):=by
 induction h with
 |nil=>exact g
 |cons h _ ih=>exact .cons h ih
theorem All2.mono {α β:Type} {R R':α->β->Prop} {l:List α} {m:List β} (h:All2 R l m) (hm:∀a b,R a b->R' a b):All2 R' l m:=by
 induction h with
 |nil=>exact .nil
 |cons h _ ih=>exact .cons (hm _ _ h) ih
theorem All2.at {α β:Type} {R:α->β->Prop} {l:List α} {m:List β} (h:All2 R l m) {i:Nat} {a:α} (ha:l[i]?=some a):∃b,m[i]?=some b/\R a b:=by
 induction h generalizing i with
 |nil=>simp at ha
 |cons h _ ih =>
  rcases i with _|i
  ·simp at ha;subst ha;exact⟨_,rfl,h⟩
  ·exact ih (by simpa using ha)
def actL (A:Act) (p i t:Value):List Value:=[.int .u8 A.kind,.int .i32 A.R,.int .i32 A.priv,p,i,.int .i32 A.final,t]
structure ActIs (w:World) (ok:Nat->Prop) (A:Act) (cs:List Value):Prop where
 ex:∃ap cp ai ci at_ ct,cs=actL A (.slice ap A.params.length cp) (.slice ai A.inter.length ci) (.slice at_ A.text.length ct)/\NumsP w ok .i64 ap A.params/\NumsP w ok .i32 ai A.inter/\NumsP w ok .i32 at_ A.text
 cap:∃a c,cs[3]?=some (.slice a A.params.length c)/\A.params.length<=c/\c<=maxLen
section
variable {w w':World}{ok ok':Nat->Prop}{A:Act}{cs:List Value}
theorem ActIs.len (h:ActIs w ok A cs):cs.length=7:=by
 obtain⟨_,_,_,_,_,_,rfl,_⟩:=h.ex
 rfl
theorem ActIs.one (h:ActIs w ok A cs):∀u∈cs,u.oneCell'=true:=by
 obtain⟨_,_,_,_,_,_,rfl,_⟩:=h.ex
 simp[actL,Value.oneCell']
theorem ActIs.mono (h:ActIs w ok A cs) (hm:∀g,g<w.heap.size->ok g->ok' g):ActIs w ok' A cs:=by
 obtain⟨a,b,c,d,e,f,rfl,h1,h2,h3⟩:=h.ex
 exact⟨⟨a,b,c,d,e,f,rfl,h1.mono hm,h2.mono hm,h3.mono hm⟩,h.cap⟩
theorem ActIs.only {L:List Nat} (h:ActIs w ok A cs) (ho:Only L w w') (hn:∀g∈L,¬ok g):ActIs w' ok A cs:=by
 obtain⟨a,b,c,d,e,f,rfl,h1,h2,h3⟩:=h.ex
 exact⟨⟨a,b,c,d,e,f,rfl,h1.only ho hn,h2.only ho hn,h3.only ho hn⟩,h.cap⟩
end
theorem flat_len {l:List Act} {css:List (List Value)} {R:Act->List Value->Prop} (h:All2 R l css) (h7:∀a c,R a c->c.length=7):css.flatten.length=l.length*7:=by
 induction h with
 |nil=>rfl
 |cons h _ ih=>simp only[List.flatten_cons,List.length_append,List.length_cons,ih,h7 _ _ h];omega
theorem flat_at {l:List Act} {css:List (List Value)} {R:Act->List Value->Prop} (h:All2 R l css) (h7:∀a c,R a c->c.length=7) {i j:Nat} {c:List Value} {u:Value} (hc:css[i]?=some c) (hu:c[j]?=some u):css.flatten[i*7+j]?=some u:=by
 induction h generalizing i with
 |nil=>simp at hc
 |cons h t ih =>
  rcases i with _|i
  ·simp at hc
   subst hc
   have:=(List.getElem?_eq_some_iff.1 hu).1
   rw[List.flatten_cons,List.getElem?_append_left (by omega)]
   simpa using hu
  ·rw[List.flatten_cons,List.getElem?_append_right (by rw[h7 _ _ h];omega),h7 _ _ h,show (i+1)*7+j - 7=i*7+j by omega]
   exact ih (by simpa using hc)
structure ActsIn (w:World) (B:Nat) (ok:Nat->Prop) (x:Value) (As:List Act):Prop where
 ex:∃css:List (List Value),All2 (ActIs w (fun g=>ok g/\x.ownBlock≠some g)) As css/\w.ownsRow B 151 7 x As.length css.flatten
section
variable {w w':World}{B B':Nat}{ok ok':Nat->Prop}{x:Value}{As:List Act}
theorem ActsIn.nil (w:World) (B:Nat) (ok:Nat->Prop):ActsIn w B ok (.slice none 0 0) []:=⟨[],.nil,World.ownsRow_nil w B _ 7⟩
theorem ActsIn.mono (h:ActsIn w B ok x As) (hm:∀g,g<w.heap.size->ok g->ok' g):ActsIn w B ok' x As:=by
 obtain⟨css,h1,h2⟩:=h.ex
 exact⟨css,h1.mono (fun _ _ h=>h.mono (fun g hg hk=>⟨hm g hg hk.1,hk.2⟩)),h2⟩
theorem ActsIn.lower (h:ActsIn w B ok x As) (hB:B'<=B):ActsIn w B' ok x As:=by
 obtain⟨css,h1,h2,h3⟩:=h.ex
 refine⟨css,h1,h2,?_⟩
 rcases h3 with h3|⟨g,cap,cur,rfl,hg,r⟩
 ·exact .inl h3
 ·exact .inr ⟨g,cap,cur,rfl,by omega,r⟩
theorem ActsIn.row (h:ActsIn w B ok x As):∀g,x.ownBlock=some g->B<=g/\g<w.heap.size:=by
 obtain⟨css,_,h2⟩:=h.ex
 exact World.ownsRow.lt h2
theorem ActsIn.only {L:List Nat} (h:ActsIn w B ok x As) (ho:Only L w w') (hn:∀g∈L,¬ok g) (hx:∀g,x.ownBlock=some g->g∉L):ActsIn w' B ok x As:=by
 obtain⟨css,h1,h2,h3⟩:=h.ex
 refine⟨css,h1.mono (fun _ _ h=>h.only ho (fun g hg hk=>hn g hg hk.1)),h2,?_⟩
 rcases h3 with h3|⟨g,cap,cur,rfl,hg,hh,r⟩
 ·exact .inl h3
 ·exact .inr ⟨g,cap,cur,rfl,hg,(ho.block g (lt_of_block hh) (hx g rfl)).trans hh,r⟩
theorem ActsIn.apart_row (h:ActsIn w B ok x As) {B2:Nat} {e:TypeId} {k:IntKind} {v:Value} {l:List Int} (h2:Own w B2 e k v l) (he:e≠151):∀g,x.ownBlock=some g->v.ownBlock≠some g:=by
 intro g hg hv
 obtain⟨css,_,_,h3⟩:=h.ex
 rcases h3 with ⟨rfl,_⟩|⟨g',cap,cur,rfl,_,hh,_⟩
 ·simp[Value.ownBlock] at hg
 ·have e':g'=g:=by simpa[Value.ownBlock] using hg
  subst e'
  exact h2.apart (g:=g') hh he hv
theorem ActsIn.apart_blk (h:ActsIn w B ok x As) {d:Nat} {t:TypeId} {cs:Array Value} (h2:Block w d t cs) (he:t≠151):x.ownBlock≠some d:=by
 intro hg
 obtain⟨css,_,_,h3⟩:=h.ex
 rcases h3 with ⟨rfl,_⟩|⟨g',cap,cur,rfl,_,hh,_⟩
 ·simp[Value.ownBlock] at hg
 ·have e':g'=d:=by simpa[Value.ownBlock] using hg
  subst e'
  exact Block.apart (t:=t) h2 hh he rfl
theorem ActsIn.shape (h:ActsIn w B ok x As):∃ao cap,x=.slice ao As.length cap/\As.length<=cap/\cap<=maxLen:=by
 obtain⟨css,_,_,h3⟩:=h.ex
 rcases h3 with ⟨rfl,hn⟩|⟨g,cap,cur,rfl,_,_,hn,hm,_⟩
 ·exact⟨none,0,by rw[hn],by omega,by simp[maxLen]⟩
 ·exact⟨_,cap,rfl,hn,hm⟩
end
structure ParIn (w:World) (B d:Nat) (v:Value) (S:PS):Prop where
 blk:PBlk w d S v
 own:Own w B 21 .i32 v S.text
 low:B<=d
theorem ParIn.apart {w:World} {B d:Nat} {v:Value} {S:PS} (h:ParIn w B d v S):v.ownBlock≠some d:=h.own.apart h.blk.blk (by decide)
theorem ParIn.only {w w':World} {B d:Nat} {v:Value} {S:PS} (h:ParIn w B d v S) {L:List Nat} (ho:Only L w w') (h1:d∉L) (h2:∀g,v.ownBlock=some g->g∉L):ParIn w' B d v S:=⟨h.blk.only ho h1,h.own.only ho h2,h.low⟩
theorem ParIn.new {w w':World} {B d:Nat} {v:Value} {S:PS} (h:ParIn w B d v S) (hb:Below w.heap.size w w'):ParIn w' B d v S:=h.only (Only.of_below hb []) (by simp) (by simp)
structure Mine (n d:Nat) (v u:Value) (g:Nat):Prop where
 from_:n<=g\/v.ownBlock=some g
 text:u.ownBlock≠some g
 block:g≠d
structure FedU (w:World) (B d:Nat) (v:Value) (S':PS) (As:List Act) (x u:Value) (w':World):Prop where
 par:ParIn w' B d u S'
 lies:u.ownBlock=v.ownBlock\/u.ownBlock=none\/∃g,u.ownBlock=some g/\w.heap.size<=g
 acts:ActsIn w' w.heap.size (Mine w.heap.size d v u) x As
 only:Only (d::v.ownBlock.toList) w w'
def Fed (w:World) (B d:Nat) (v:Value) (X:Stp) (e:Ending) (w':World):Prop:=∃x u,e=.returned x/\FedU w B d v X.2 X.1 x u w'
def Bm3 (w:World) (d:Nat) (S:PS) (v:Value) (e:Ending) (w':World):Prop:=(∃x,e=.returned x)/\PBlk w' d S v/\Only [d] w w'
theorem Cb3 (S:PS):S.num S.sq.num=S:=rfl
theorem same_lst {L:Lst} (h:0<L.n.length):(⟨begF L.n,L.over⟩:Lst)=L:=by rw[beg_of_pos h]
theorem Ah0 (S:PS) (v:Value) (hL:S.sq.num.n.length<=32) (d:Nat) (w:World) (hd:PBlk w d S v) :
  Calls Tryz.prog 218 #[.pointer (some ⟨d,2,none⟩)] w (Bm3 w d (S.num ⟨begF S.sq.num.n,S.sq.num.over⟩) v):=by
 have hc:=hd.count hL
 have hfr:=hd.free 34
 by_cases h0:S.sq.num.n.length=0
 ·have hset:=J0 (hd.set (Bp8 (v:=v) hL (i:=32) (by omega) (cells_begin h0)))
  rw[h0] at hc
  clear hd h0
  go_enter Tryz.func218,Tryz.ntmps218
  go_wp2
  go_end0
  exact⟨⟨_,rfl⟩,hset.out,Only.setCell w ⟨d,34,.none⟩ _⟩
 ·have h0':0<S.sq.num.n.length:=by omega
  rw[same_lst h0',Cb3]
  have hd':=J0 hd
  generalize S.sq.num.n.length=k at hc h0 h0'
  clear hd
  go_enter Tryz.func218,Tryz.ntmps218
  go_wp2
  go_end0
  exact⟨⟨_,rfl⟩,hd'.out,Only.refl _ _⟩
theorem digit_skip {L:Lst} {x:Int} (h:x<0\/9<x\/L.over=true):Bb2 L x=L:=if_pos h
theorem digit_put {L:Lst} {x:Int} (h0:0<=x) (h1:x<=9) (h2:L.over=false):Bb2 L x=⟨putF (begF L.n) x,false⟩:=if_neg (by rw[h2];simp;omega)
theorem digit_any (S:PS) (v:Value) (hL:S.sq.num.Ok) (x:Int) (h0:0<=x) (h1:x<=9) (d:Nat) (w:World) (hd:PBlk w d S v) :
  Calls Tryz.prog 155 #[.pointer (some ⟨d,2,none⟩),.int .i64 x] w (Bm3 w d (S.num (Bb2 S.sq.num x)) v):=by
 have ho:=hd.over hL.len
 by_cases hov:S.sq.num.over=true
 ·rw[digit_skip (Or.inr (Or.inr hov)),Cb3]
  rw[hov] at ho
  have hd':=J0 hd
  clear hd
  go_enter Tryz.func155,Tryz.ntmps155
  go_wp2
  go_end0
  exact⟨⟨_,rfl⟩,hd'.out,Only.refl _ _⟩
 replace hov:S.sq.num.over=false:=by simpa using hov
 rw[hov] at ho
 have hb:=J0 (Ah0 S v hL.len d w hd)
 rw[digit_put h0 h1 hov]
 have hok:=hL.beg S.sq.num.over
 have hp:=Cg3 S.sq.num.n
 obtain⟨j,hj⟩:∃j,(begF S.sq.num.n).length=j+1:=⟨(begF S.sq.num.n).length - 1,by omega⟩
 have hj32:j<32:=by have:=hok.len;simp only at this;omega
 have hl0:=hok.lo _ (Bo6 hp)
 have hl1:=hok.hi _ (Bo6 hp)
 simp only at hl0 hl1
 have hlast:Bo5 (begF S.sq.num.n)=(begF S.sq.num.n)[j]'(by omega):=by
  unfold Bo5
  rw[<- Par.getD_at (l:=begF S.sq.num.n) (k:=j) (by omega),hj,Nat.add_sub_cancel]
 have hput:Hid (putF (begF S.sq.num.n) x=(begF S.sq.num.n).set j (capF (Bo5 (begF S.sq.num.n)*10+x))):=by
  show _=_
  unfold putF
  rw[hj,Nat.add_sub_cancel]
 clear hd
 go_enter Tryz.func155,Tryz.ntmps155
 go_wp2_with fail
 refine hb.out.mono ?_
 rintro e w1 ⟨⟨v1,rfl⟩,hd1,ho1⟩
 have hc1:=hd1.count hok.len
 have hx1:=hd1.at (i:=j) (by simp only[PS.num];omega)
 have hf1:=hd1.free (2+j)
 have hset:=fun y=>hd1.set (Bp8 (v:=v) hok.len (i:=j) (by omega) (cells_put (L:=⟨begF S.sq.num.n,S.sq.num.over⟩) (i:=j) (by simp only;omega) y))
 simp only[PS.num] at hc1 hx1 hset
 rw[<- hlast] at hx1
 rw[hj] at hc1
 rw[hov] at hset
 have hc1':w1.cell? ⟨d,34,none⟩=some (.int .i64 ((j:Int)+1)):=by rw[hc1];rfl
 replace hset:=J0 hset
 generalize Bo5 (begF S.sq.num.n)=y at hx1 hl0 hl1 hput
 clear hc1 hb hd1 hok hp hj hlast ho
 go_wp2
 go_quiet (fail)
 go_wp2
 all_goals go_end0
 ·have hcap:capF (y*10+x)=65535:=if_pos (by assumption)
  refine⟨⟨_,rfl⟩,?_,ho1.trans ((Only.drewN [d] w1 nq).trans (Only.setCell (w1.drewN nq) ⟨d,2+j,none⟩ _))⟩
  rw[hput.out,hcap]
  exact hset.out _
 ·have hcap:capF (y*10+x)=y*10+x:=if_neg (by omega)
  refine⟨⟨_,rfl⟩,?_,ho1.trans ((Only.drewN [d] w1 nq).trans (Only.setCell (w1.drewN nq) ⟨d,2+j,none⟩ _))⟩
  rw[hput.out,hcap]
  exact hset.out _
theorem next_full {L:Lst} (h:(begF L.n).length=32):nextF L=⟨begF L.n,true⟩:=if_pos h
theorem next_more {L:Lst} (h:¬(begF L.n).length=32):nextF L=⟨begF L.n++[0],L.over⟩:=if_neg h
theorem next_any (S:PS) (v:Value) (hL:S.sq.num.n.length<=32) (d:Nat) (w:World) (hd:PBlk w d S v) :
  Calls Tryz.prog 156 #[.pointer (some ⟨d,2,none⟩)] w (Bm3 w d (S.num (nextF S.sq.num)) v):=by
 have hb:=J0 (Ah0 S v hL d w hd)
 have hlen:=Cg1 hL
 clear hd
 by_cases h32:(begF S.sq.num.n).length=32
 ·rw[next_full h32]
  go_enter Tryz.func156,Tryz.ntmps156
  go_wp2_with fail
  refine hb.out.mono ?_
  rintro e w1 ⟨⟨v1,rfl⟩,hd1,ho1⟩
  have hc1:=hd1.count hlen
  have hf1:=hd1.free 35
  have ho:=hd1.over hlen
  have hset:=J0 (hd1.set (Bp8 (v:=v) hlen (i:=33) (by omega) (cells_over2 (L:=⟨begF S.sq.num.n,S.sq.num.over⟩) hlen)))
  simp only[PS.num] at hc1 ho
  rw[h32] at hc1
  clear hb hd1 hlen h32
  go_wp2
  go_end0
  exact⟨⟨_,rfl⟩,hset.out,ho1.trans (Only.setCell w1 ⟨d,35,none⟩ _)⟩
 ·rw[next_more h32]
  go_enter Tryz.func156,Tryz.ntmps156
  go_wp2_with fail
  refine hb.out.mono ?_
  rintro e w1 ⟨⟨v1,rfl⟩,hd1,ho1⟩
  have hc1:=hd1.count hlen
  have hf1:=hd1.free 34
  have hset:=hd1.set (Bp8 (v:=v) hlen (i:=32) (by omega) (cells_next (L:=⟨begF S.sq.num.n,S.sq.num.over⟩) (by simp only;omega)))
  simp only[PS.num] at hc1 hset
  replace hset:=J0 hset
  generalize (begF S.sq.num.n).length=k at hc1 hset hlen h32
  have h32':((k:Int) == 32)=false:=by simp;omega
  clear hb hd1 h32
  go_wp2
  go_end0
  exact⟨⟨_,rfl⟩,hset.out,ho1.trans (Only.setCell w1 ⟨d,34,none⟩ _)⟩
theorem elemI:Elem Tryz.prog 47 3 .i64 8:=by
 have h:(Tryz.prog.info? 3).map (fun i=>(i.zero,i.size,i.bytes))=some (some (.int .i64 0),1,8):=by kernel_rfl
 obtain⟨i,h0,h1,h2,h3⟩:=info_parts h
 exact⟨Tryz.underlying47,i,h0,h1,h2,h3⟩
theorem Bw0:Elem Tryz.prog 26 21 .i32 4:=by
 have h:(Tryz.prog.info? 21).map (fun i=>(i.zero,i.size,i.bytes))=some (some (.int .i32 0),1,4):=by kernel_rfl
 obtain⟨i,h0,h1,h2,h3⟩:=info_parts h
 exact⟨Tryz.underlying26,i,h0,h1,h2,h3⟩
theorem Bp2 (k:Nat) (hk:k<=32) (d:Nat) (w:World) :
  (Instr.sliceAt 108 (.pointer (some ⟨d,2,none⟩)) none (some (.int .i64 k)) (some (.int .i64 k))).run Tryz.prog w=.ok (.slice (some ⟨d,2,none⟩) k k) w:=by
 have ht:Tryz.prog.underlying 108=some (.array (Tryz.prog.arrayLen 108) (Tryz.prog.elem 108)):=by kernel_rfl
 have hl:Tryz.prog.arrayLen 108=32:=by kernel_rfl
 have hi:(Tryz.prog.info? (Tryz.prog.elem 108)).map (·.size)=some 1:=by kernel_rfl
 rw[run_sliceAt_array_hm w _ ⟨d,2,none⟩ ht .i64 .i64 k k (by omega) (by omega) (by rw[hl];omega)]
 cases hq:Tryz.prog.info? (Tryz.prog.elem 108) with
 |none=>simp[hq] at hi
 |some j =>
  have hs:j.size=1:=by simpa[hq] using hi
  simp[sizeOf,typeInfo,hq,hs,slicedAt,Addr.add]
theorem numbers_any (S:PS) (v:Value) (hL:S.sq.num.n.length<=32) (d:Nat) (w:World) (hd:PBlk w d S v) :
  Calls Tryz.prog 282 #[.pointer (some ⟨d,2,none⟩)] w fun e w'=>∃n,e=.returned (.slice (some ⟨d,2,none⟩) S.sq.num.n.length S.sq.num.n.length)/\w'=w.drewN n:=by
 have hc:=hd.count hL
 generalize hk:S.sq.num.n.length=k at hc hL
 clear hk hd
 have hp:=Bp2 k hL d
 go_enter Tryz.func282,Tryz.ntmps282
 go_wp2
 go_quiet (fail)
 go_wp2
 go_ret
 exact⟨_,rfl,rfl⟩
theorem num_nums {w:World} {d:Nat} {S:PS} {v:Value} (h:PBlk w d S v):Nums w w.heap.size .i64 (some ⟨d,2,none⟩) S.sq.num.n:=fun i x hx=>by
 obtain⟨hi,rfl⟩:=List.getElem?_eq_some_iff.1 hx
 refine⟨_,rfl,h.lt,?_⟩
 rw[Addr.add_lit]
 exact h.at hi
def Ct2 (w:World) (l:List Int) (e:Ending) (w':World):Prop:=∃x,e=.returned x/\Own w' w.heap.size 3 .i64 x l/\Below w.heap.size w w'
theorem values_any (S:PS) (v:Value) (hL:S.sq.num.n.length<=32) (d:Nat) (w:World) (hd:PBlk w d S v) :
  Calls Tryz.prog 264 #[.pointer (some ⟨d,2,none⟩)] w (Ct2 w S.sq.num.n):=by
 have h:=J0 (numbers_any S v hL d w hd)
 have hn:=num_nums hd
 go_enter Tryz.func264,Tryz.ntmps264
 go_wp2_with (first
  |(go_at_call 282;refine(h.out).mono ?_;rintro e w1 ⟨n,rfl,rfl⟩)
  |(with_reducible refine J6 5 ?_;go_must (refine Ai7 elemI rfl (.const (.slice none 0 0)) (.tmp 4) rfl w.heap.size (.slice none 0 0) [] S.sq.num.n (some ⟨d,2,none⟩) w.heap.size S.sq.num.n.length rfl rfl (Own.nil (w.drewN n) _ _ _) (hn.kept fun _ _=>rfl) (J5 _) (by simp;omega) (by simp[maxLen];omega) ?_);intro v2 w2 hown ho hat))
 go_ret
 exact⟨v2,rfl,hown,(Only.then (Only.drewN [] w n) ho (by simp[Value.ownBlock])).nil⟩
theorem Ab2 (L:List Nat) (w:World):Only L w w.drew:=⟨rfl,rfl,rfl,J5 _,fun _ _ _=>rfl⟩
theorem Be4 (S:PS) (v:Value) (hL:S.sq.num.n.length<=32) (hc:S.sq.cnt<=2) (r:Int) (d:Nat) (w:World) (hd:PBlk w d S v) :
  Calls Tryz.prog 152 #[.pointer (some ⟨d,1,none⟩),.int .i32 r] w (Bm3 w d (S.take r) v):=by
 have h38:=hd.cnt hL
 have h36:=hd.pa hL
 have h37:=hd.pb hL
 have h39:=hd.many hL
 have f36:=hd.free 36
 have f37:=hd.free 37
 have f38:=hd.free 38
 have f39:=hd.free 39
 rcases(by omega:S.sq.cnt=0\/S.sq.cnt=1\/S.sq.cnt=2) with h0|h0|h0
 ·have e:S.take r=⟨S.st,⟨S.sq.pr,S.sq.num,r,S.sq.b,1,S.sq.many⟩,S.text⟩:=by unfold PS.take Sq.put;rw[if_neg (by omega),if_neg (by omega)]
  rw[h0] at h38
  have hset:∀w1,PBlk w1 d S v->PBlk ((w1.setCell ⟨d,36,none⟩ (.int .i32 r)).setCell ⟨d,38,none⟩ (.int .i64 1)) d ⟨S.st,⟨S.sq.pr,S.sq.num,r,S.sq.b,1,S.sq.many⟩,S.text⟩ v :=
   fun w1 h=>(h.set (set_a hL v r)).set (Cm7 (S:=⟨S.st,⟨S.sq.pr,S.sq.num,r,S.sq.b,S.sq.cnt,S.sq.many⟩,S.text⟩) hL v 1)
  replace hset:=J0 hset
  have hd':=J0 hd
  rw[e]
  clear hd e hc hL
  go_enter Tryz.func152,Tryz.ntmps152
  go_wp2
  go_region
  all_goals go_wp2
  all_goals go_end0
  all_goals exact⟨⟨_,rfl⟩,hset.out _ hd'.out,((Only.setCell w ⟨d,36,none⟩ _).trans (Only.setCell _ ⟨d,38,none⟩ _)).trans (Ab2 _ _)⟩
 ·have e:S.take r=⟨S.st,⟨S.sq.pr,S.sq.num,S.sq.a,r,2,S.sq.many⟩,S.text⟩:=by unfold PS.take Sq.put;rw[if_neg (by omega),if_pos h0]
  rw[h0] at h38
  have hset:∀w1,PBlk w1 d S v->PBlk ((w1.setCell ⟨d,37,none⟩ (.int .i32 r)).setCell ⟨d,38,none⟩ (.int .i64 2)) d ⟨S.st,⟨S.sq.pr,S.sq.num,S.sq.a,r,2,S.sq.many⟩,S.text⟩ v :=
   fun w1 h=>(h.set (set_b hL v r)).set (Cm7 (S:=⟨S.st,⟨S.sq.pr,S.sq.num,S.sq.a,r,S.sq.cnt,S.sq.many⟩,S.text⟩) hL v 2)
  replace hset:=J0 hset
  have hd':=J0 hd
  rw[e]
  clear hd e hc hL
  go_enter Tryz.func152,Tryz.ntmps152
  go_wp2
  go_region
  all_goals go_wp2
  all_goals go_end0
  all_goals exact⟨⟨_,rfl⟩,hset.out _ hd'.out,((Only.setCell w ⟨d,37,none⟩ _).trans (Only.setCell _ ⟨d,38,none⟩ _)).trans (Ab2 _ _)⟩
 ·have e:S.take r=⟨S.st,⟨S.sq.pr,S.sq.num,S.sq.a,S.sq.b,S.sq.cnt,true⟩,S.text⟩:=by unfold PS.take Sq.put;rw[if_pos h0]
  rw[h0] at h38
  have hset:=J0 (hd.set (set_many hL v))
  rw[e]
  clear hd e hc hL
  go_enter Tryz.func152,Tryz.ntmps152
  go_wp2
  go_end0
  exact⟨⟨_,rfl⟩,hset.out,Only.setCell w ⟨d,39,none⟩ _⟩
theorem An0 (w:World) (B:Nat) (hB:B<=w.heap.size) (ok:Nat->Prop) (A:Act) (cs:List Value) (h:ActIs w ok A cs) :
  ActsIn (w.alloc (.cells cs.toArray 151)) B ok (.slice (some ⟨w.heap.size,0,none⟩) 1 1) [A]:=by
 have h2:ActIs w (fun g=>ok g/\w.heap.size≠g) A cs:=h.mono (fun g hg hk=>⟨hk,by omega⟩)
 refine⟨[cs],.cons ((h2.only (Only.alloc [] w _) (by simp)).mono (fun g _ hk=>⟨hk.1,fun e=>hk.2 (by simpa[Value.ownBlock] using e)⟩)) .nil,?_⟩
 have:=World.ownsRow_lit w (e:=151) (base:=B) (size:=7) cs.toArray 1 hB (by simp[maxLen]) (by simp[h.len])
 simpa using this
theorem Bu4 {w:World} {B:Nat} {e:TypeId} {k:IntKind} {ao:Option Addr} {n c:Nat} {l:List Int} (h:Own w B e k (.slice ao n c) l):NumsP w (B<=·) k ao l:=by
 have hlt:=h.lt
 obtain⟨ao',c',e',_,_,hn⟩:=Ax0 h
 cases e'
 exact hn.mono (fun g _ hg=>(hlt g hg).1)
theorem Bm7 (w:World) (ok:Nat->Prop) (k R p f:Int):ActIs w ok ⟨k,R,p,[],[],f,[]⟩ [.int .u8 k,.int .i32 R,.int .i32 p,.slice none 0 0,.slice none 0 0,.int .i32 f,.slice none 0 0] :=
 ⟨⟨none,0,none,0,none,0,rfl,NumsP.nil _ _ _ _,NumsP.nil _ _ _ _,NumsP.nil _ _ _ _⟩,none,0,rfl,J5 _,by simp[maxLen]⟩
def Bm2 (w:World) (As:List Act) (e:Ending) (w':World):Prop:=∃x,e=.returned x/\ActsIn w' w.heap.size (w.heap.size<=·) x As/\Below w.heap.size w w'
theorem ground_any (r:Int) (p:Value) (w:World) :
  Calls Tryz.prog 112 #[p,.int .i32 r] w (Bm2 w [printA r]):=by
 go_enter Tryz.func112,Tryz.ntmps112
 go_wp2
 go_ret
 exact⟨_,rfl,An0 w w.heap.size (J5 _) _ _ _ (Bm7 w _ 1 r 0 0),Aa1 _ _⟩
theorem Bz0 (r:Int) (w:World) :
  Calls Tryz.prog 111 #[.int .i32 r] w fun e w'=>e=.returned (.agg #[.int .u8 2,.int .i32 r,.int .i32 0,.slice none 0 0,.slice none 0 0,.int .i32 0,.slice none 0 0])/\Below w.heap.size w w':=by
 go_enter Tryz.func111,Tryz.ntmps111
 go_wp2
 exact bodyPost_ret (v:=.agg #[.int .u8 2,.int .i32 r,.int .i32 0,.slice none 0 0,.slice none 0 0,.int .i32 0,.slice none 0 0]) (by simp[results,Tryz.results111,go_sem]) rfl ⟨rfl,Aa1 _ _⟩
theorem slice_any (k:Nat) (hk:k<=2) (d:Nat) (w:World) :
  (Instr.sliceAt 111 (.pointer (some ⟨d,36,none⟩)) none (some (.int .i64 k)) none).run Tryz.prog w=.ok (.slice (some ⟨d,36,none⟩) k 2) w:=by
 have ht:Tryz.prog.underlying 111=some (.array (Tryz.prog.arrayLen 111) (Tryz.prog.elem 111)):=by kernel_rfl
 have hl:Tryz.prog.arrayLen 111=2:=by kernel_rfl
 have hi:(Tryz.prog.info? (Tryz.prog.elem 111)).map (·.size)=some 1:=by kernel_rfl
 rw[run_sliceAt_array_h w _ ⟨d,36,none⟩ ht .i64 k (by omega) (by rw[hl];omega)]
 cases hq:Tryz.prog.info? (Tryz.prog.elem 111) with
 |none=>simp[hq] at hi
 |some j =>
  have hs:j.size=1:=by simpa[hq] using hi
  simp[sizeOf,typeInfo,hq,hs,slicedAt,Addr.add,hl]
theorem inter_nums {w:World} {d:Nat} {S:PS} {v:Value} (hL:S.sq.num.n.length<=32) (h:PBlk w d S v):Nums w w.heap.size .i32 (some ⟨d,36,none⟩) S.sq.inter:=fun i x hx=>by
 refine⟨_,rfl,h.lt,?_⟩
 rw[Addr.add_lit]
 unfold Sq.inter at hx
 rw[List.getElem?_take] at hx
 split at hx
 ·rcases i with _|_|i
  ·simp at hx;subst hx;exact h.pa hL
  ·simp at hx;subst hx;exact h.pb hL
  ·simp at hx
 ·cases hx
theorem inter_length {q:Sq} (h:q.cnt<=2):q.inter.length=q.cnt:=by
 unfold Sq.inter
 simp
 omega
theorem keep_seq {S:PS} {v:Value} {d:Nat} {w w1:World} (hL:S.sq.num.n.length<=32) {p:Int} {k:Nat} (hp:S.sq.pr=p) (hk:S.sq.cnt=k) (h:PBlk w d S v) (hb:Only [] w w1) :
  PBlk w1 d S v/\w1.cell? ⟨d,1,none⟩=some (.int .i32 p)/\w1.cell? ⟨d,38,none⟩=some (.int .i64 k):=by
 have h':=h.only hb (by simp)
 subst hp
 subst hk
 exact⟨h',h'.c1,h'.cnt hL⟩
theorem seqActs_none (S:PS) (v:Value) (hL:S.sq.num.n.length<=32) (kind final:Int) (d:Nat) (w:World) (hd:PBlk w d S v) (hm:S.sq.many=true) :
  Calls Tryz.prog 217 #[.pointer (some ⟨d,1,none⟩),.int .u8 kind,.int .i32 final] w (Bm2 w (S.sq.acts kind final)):=by
 have h39:=hd.many hL
 rw[hm] at h39
 have hE:Hid (S.sq.acts kind final=[]):=by show _=_;unfold Sq.acts;rw[if_pos hm]
 go_enter Tryz.func217,Tryz.ntmps217
 go_wp2
 go_ret
 refine⟨_,rfl,?_,Below.refl _ _⟩
 rw[hE.out]
 exact ActsIn.nil _ _ _
theorem seqActs_one (S:PS) (v:Value) (hL:S.sq.num.n.length<=32) (hc:S.sq.cnt<=2) (kind final:Int) (d:Nat) (w:World) (hd:PBlk w d S v) (hm:S.sq.many=false) :
  Calls Tryz.prog 217 #[.pointer (some ⟨d,1,none⟩),.int .u8 kind,.int .i32 final] w (Bm2 w (S.sq.acts kind final)):=by
 have h39:=hd.many hL
 have h38:=hd.cnt hL
 have h1:=hd.c1
 rw[hm] at h39
 have hvals:=J0 (fun w' (h:PBlk w' d S v)=>values_any S v hL d w' h)
 have hint:=J0 (fun w' (h:PBlk w' d S v)=>inter_nums hL h)
 have hlen:=inter_length hc
 obtain⟨p,hp⟩:∃p,S.sq.pr=p:=⟨_,rfl⟩
 obtain⟨k,hk⟩:∃k,S.sq.cnt=k:=⟨_,rfl⟩
 have hkeep:=J0 (fun w w1 (h:PBlk w d S v) (hb:Only [] w w1)=>keep_seq hL hp hk h hb)
 rw[hp] at h1
 rw[hk] at h38 hlen hc
 have hE:Hid (S.sq.acts kind final=[⟨kind,0,p,S.sq.num.n,S.sq.inter,final,[]⟩]):=by show _=_;unfold Sq.acts;rw[hm,if_neg (by simp),hp]
 have hlen':=J0 hlen
 have hsl:=slice_any k hc d
 generalize S.sq.num.n=ns at hvals hE
 generalize S.sq.inter=is at hint hE hlen hlen'
 clear hp hk hm hL hlen
 go_enter Tryz.func217,Tryz.ntmps217
 go_wp2
 go_region_held3 (fun w'=>PBlk w' d S v/\w'.cell? ⟨d,1,none⟩=some (.int .i32 p)/\w'.cell? ⟨d,38,none⟩=some (.int .i64 k))
  (first
   |exact⟨hd,h1,h38⟩
   |(go_split_ands;exact hkeep.out _ w1 (by assumption) (Only.of_below hb1 []))
   |(go_split_ands;exact hkeep.out _ w2 (by assumption) (by simpa[Value.ownBlock] using ho2))
   |(go_split_ands;exact hkeep.out _ _ (by assumption) (Only.alloc [] _ _))
   |go_keep)
  (first
   |(go_at_call 264;refine(hvals.out _ (by assumption)).mono ?_;rintro e w1 ⟨x1,rfl,hown1,hb1⟩;obtain⟨a1,c1,rfl,_,_,_⟩:=hown1.shape)
   |(refine Cd0 Bw0 rfl (.const (.slice none 0 0)) (.tmp 27) rfl w.heap.size (.slice none 0 0) [] is (some ⟨d,36,none⟩) _ 2 rfl (by rw[hlen'.out];rfl) (Own.nil _ _ _ _) (hint.out _ (‹PBlk w1 d S v/\_›).1) (by first|exact J5 _|exact hb1.size) (by rw[hlen'.out];simp;omega) (by rw[hlen'.out];simp[maxLen];omega) ?_;intro v2 w2 hown2 ho2 hat2;simp only[List.nil_append] at hown2;obtain⟨a2,c2,rfl,_,_,_⟩:=hown2.shape))
 all_goals go_wp2
 go_ret
 have o1:Only [] w w1:=(Ab2 [] w).trans (Only.of_below hb1 [])
 have o2:Only [] w1 w2:=by simpa[Value.ownBlock] using ho2
 refine⟨_,rfl,?_,((o1.trans o2).trans (Only.alloc [] w2 _)).nil⟩
 rw[hE.out]
 obtain⟨_,_,e1,q1,q2,_⟩:=hown1.shape
 cases e1
 exact An0 w2 w.heap.size (o1.trans o2).size _ _ _ ⟨⟨a1,c1,a2,c2,none,0,rfl,Bu4 (hown1.only o2 (by simp)),Bu4 hown2,NumsP.nil _ _ _ _⟩,a1,c1,rfl,q1,q2⟩
theorem seqActs_any (S:PS) (v:Value) (hL:S.sq.num.n.length<=32) (hc:S.sq.cnt<=2) (kind final:Int) (d:Nat) (w:World) (hd:PBlk w d S v) :
  Calls Tryz.prog 217 #[.pointer (some ⟨d,1,none⟩),.int .u8 kind,.int .i32 final] w (Bm2 w (S.sq.acts kind final)):=by
 by_cases hm:S.sq.many=true
 ·exact seqActs_none S v hL kind final d w hd hm
 ·exact seqActs_one S v hL hc kind final d w hd (by simpa using hm)
