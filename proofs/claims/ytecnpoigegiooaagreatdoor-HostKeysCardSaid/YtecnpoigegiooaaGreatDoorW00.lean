/- Part 0 of HostKeys. -/
import Derived.OrdersHeld
import Derived.Deep.RegionHeld3
import Derived.Lib.Hide
import Derived.Below
import Derived.WalkKit
import Derived.Laws.OwnMore
import Derived.Laws.Rows
import Derived.Maps.AppendAt
import Derived.Deep.Draws
import Derived.OwnWalk
import Derived.OneCell
import Derived.Laws.Tables
import Derived.Laws.CopyRow
import Derived.Laws.BytesArg
import Derived.WalkSmall
set_option maxHeartbeats 16000000
set_option maxRecDepth 100000
namespace Go.Proofs.YtecnpoigegiooaaGreatDoor
open Go Go.RowKit
theorem K3{P:Program}{md:Region.Mode}{ops:Array Oper}{Q:Exit->Act->World->Prop}{S:World->Prop}(i:Nat)(oi:Oper)(v:Value){fuel:Nat}{listed:Array Bool}{a:Act}{w:World}(hi:ops[i]?=some oi)(hy:YieldsIf P ops S oi v a)(hS:S w)
 (h:wpAnyH P md ops Q S fuel (listed.setIfInBounds i true) (a.put oi.dst v) w) (hs:Region.noSelect ops=true:=by kernel_rfl) (hf:Region.free md ops listed i=true:=by kernel_rfl) (hr:(Region.ready md ops listed).contains i=true:=by kernel_rfl)
 (hQ:∀c a w,Q (.panic c) (a.put oi.dst v) w->Q (.panic c) a w:=by exact fun _ _ _ h=>h):wpAnyH P md ops Q S (fuel+1) listed a w:=wpAnyH_take hi hs hf hr hQ hy hS h
section
variable {P:Program}{ops:Array Oper}{Q:Exit->Act->World->Prop}{a:Act}{w:World}{rest:List Oper}{o:Oper}
theorem J6(n:Tmp){c:Call}{d1 d2 d3 d4:_}(h:wpList P ops Q (⟨some n,.call c,d1,d2,d3,d4⟩::rest) a w):wpList P ops Q (⟨some n,.call c,d1,d2,d3,d4⟩::rest) a w:=h
theorem J8(n:Tmp){t y d1 d2 d3 d4:_}(h:wpList P ops Q (⟨none,.store t (.tmp n) y,d1,d2,d3,d4⟩::rest) a w):wpList P ops Q (⟨none,.store t (.tmp n) y,d1,d2,d3,d4⟩::rest) a w:=h
theorem J9(n m:Tmp){t d1 d2 d3 d4:_}(h:wpList P ops Q (⟨some n,.load t (.tmp m),d1,d2,d3,d4⟩::rest) a w):wpList P ops Q (⟨some n,.load t (.tmp m),d1,d2,d3,d4⟩::rest) a w:=h
end
end Go.Proofs.YtecnpoigegiooaaGreatDoor
namespace Go.Proofs.YtecnpoigegiooaaGreatDoor
theorem J0{p:Prop}(h:p):Go.RowKit.Hid p:=Go.Lib.hid h
theorem J1{α:Type _}(l:List α)(i:Nat)(a:α):l.toArray.setIfInBounds i a=(l.set i a).toArray:=List.setIfInBounds_toArray l i a
theorem J2{α:Type _}{a b:α}{l:List α}:(a::l).set 0 b=b::l:=rfl
theorem J3{α:Type _}{a b:α}{l:List α}{n:Nat}:(a::l).set (n+1) b=a::l.set n b:=rfl
theorem J5(n:Nat):n<=n:=Nat.le_refl n
end Go.Proofs.YtecnpoigegiooaaGreatDoor
namespace Go.Proofs.YtecnpoigegiooaaGreatDoor.Par
structure Lst where
 n:List Int
 over:Bool
def empty:Lst:=⟨[],false⟩
def H6(n:List Int):List Int:=if n.length=0 then [0]else n
def Aie(n:List Int):Int:=n.getD (n.length-1) 0
def Alv(x:Int):Int:=if 65535<x then 65535 else x
def G5(n:List Int)(d:Int):List Int:=n.set (n.length-1) (Alv (Aie n*10+d))
def Ajq(L:Lst)(d:Int):Lst:=if d<0\/9<d\/L.over=true then L else⟨G5 (H6 L.n) d,false⟩
def X8(L:Lst):Lst:=if(H6 L.n).length=32 then⟨H6 L.n,true⟩else⟨H6 L.n++[0],L.over⟩
structure Lst.Ok(L:Lst):Prop where
 len:L.n.length<=32
 lo:∀x∈L.n,0<=x
 hi:∀x∈L.n,x<=65535
theorem Cdz:empty.Ok:=⟨by simp[empty],by simp[empty],by simp[empty]⟩
theorem Blb(n:List Int):0<(H6 n).length:=by
 unfold H6;split
 ·simp
 ·omega
theorem Bkz{n:List Int}(h:n.length<=32):(H6 n).length<=32:=by
 unfold H6;split
 ·simp
 ·exact h
theorem Bwa{n:List Int}(h:0<n.length):H6 n=n:=by unfold H6;rw[if_neg (by omega)]
theorem Bky{p:Int->Prop}{n:List Int}(h0:p 0)(h:∀x∈n,p x):∀x∈H6 n,p x:=by
 unfold H6
 split
 ·intro x hx;simp at hx;subst hx;exact h0
 ·exact h
theorem Lst.Ok.beg{L:Lst}(h:L.Ok)(b:Bool):Lst.Ok ⟨H6 L.n,b⟩:=⟨Bkz h.len,Bky (by omega) h.lo,Bky (by omega) h.hi⟩
theorem Clo(n:List Int)(d:Int):(G5 n d).length=n.length:=by simp[G5]
theorem Bau{n:List Int}(h:0<n.length):Aie n∈n:=by
 unfold Aie
 rw[List.getD_eq_getElem?_getD,List.getElem?_eq_getElem (by omega)]
 exact List.getElem_mem _
theorem Bmu{n:List Int}{d x:Int}(h:x∈G5 n d):x∈n\/x=Alv (Aie n*10+d):=List.mem_or_eq_of_mem_set h
theorem Bja{L:Lst}(h:L.Ok)(d:Int):(Ajq L d).Ok:=by
 unfold Ajq
 split
 ·exact h
 ·rename_i hd
  have hb:=h.beg false
  have hp:=Blb L.n
  have h0:0<=Aie (H6 L.n):=hb.lo _ (Bau hp)
  refine⟨by rw[Clo];exact hb.len,fun x hx=>?_,fun x hx=>?_⟩
  ·rcases Bmu hx with hx|rfl
   ·exact hb.lo x hx
   ·unfold Alv;split<;>omega
  ·rcases Bmu hx with hx|rfl
   ·exact hb.hi x hx
   ·unfold Alv;split<;>omega
theorem Bmf{L:Lst}(h:L.Ok):(X8 L).Ok:=by
 have hb:=h.beg L.over
 have h32:=hb.len
 unfold X8
 split
 ·exact h.beg true
 ·refine⟨by simp at h32 |-;omega,fun x hx=>?_,fun x hx=>?_⟩
  ·rcases List.mem_append.1 hx with hx|hx
   ·exact hb.lo x hx
   ·simp at hx;omega
  ·rcases List.mem_append.1 hx with hx|hx
   ·exact hb.hi x hx
   ·simp at hx;omega
theorem getD_at{l:List Int}{k:Nat}(h:k<l.length):l.getD k 0=l[k]:=by rw[List.getD_eq_getElem?_getD,List.getElem?_eq_getElem h];rfl
end Go.Proofs.YtecnpoigegiooaaGreatDoor.Par
namespace Go.Proofs.YtecnpoigegiooaaGreatDoor.Prs
open Par
structure Act where
 kind:Int
 R:Int
 L7:Int
 params:List Int
 inter:List Int
 final:Int
 text:List Int
structure Sq where
 pr:Int
 num:Lst
 a:Int
 b:Int
 cnt:Nat
 many:Bool
structure PS where
 st:Int
 sq:Sq
 text:List Int
def U9:Sq:=⟨0,empty,0,0,0,false⟩
def start:PS:=⟨0,U9,[]⟩
def Agd(r:Int):Act:=⟨2,r,0,[],[],0,[]⟩
def Ajt(r:Int):Act:=⟨1,r,0,[],[],0,[]⟩
def Aej(t:List Int):Act:=⟨5,0,0,[],[],0,t⟩
def Sq.put(q:Sq)(r:Int):Sq:=if q.cnt=2 then⟨q.pr,q.num,q.a,q.b,q.cnt,true⟩else if q.cnt=1 then⟨q.pr,q.num,q.a,r,2,q.many⟩else⟨q.pr,q.num,r,q.b,1,q.many⟩
def Sq.inter(q:Sq):List Int:=[q.a,q.b].take q.cnt
def Sq.M9(q:Sq)(kind final:Int):List Act:=if q.many=true then []else [⟨kind,0,q.pr,q.num.n,q.inter,final,[]⟩]
def Abw(S:PS):List Act:=if S.st=12 then [Aej S.text]else []
def R7(S:PS)(s:Int):PS:=⟨s,if s=1\/s=3\/s=7 then U9 else S.sq,if S.st=12 then []else S.text⟩
abbrev Stp:=List Act×PS
def E4(S:PS)(s:Int):Stp:=(Abw S,R7 S s)
def Ala(S:PS)(kind r s:Int):Stp:=(Abw S++(R7 S s).sq.M9 kind r,R7 S s)
def PS.take(S:PS)(r:Int):PS:=⟨S.st,S.sq.put r,S.text⟩
def PS.L7(S:PS)(r:Int):PS:=⟨S.st,⟨r,S.sq.num,S.sq.a,S.sq.b,S.sq.cnt,S.sq.many⟩,S.text⟩
def PS.num(S:PS)(L:Lst):PS:=⟨S.st,⟨S.sq.pr,L,S.sq.a,S.sq.b,S.sq.cnt,S.sq.many⟩,S.text⟩
def Aip(s:Int):Bool:=decide (s=7\/s=8\/s=9)
def U1(s:Int):Int:=if Aip s=true then 8 else 4
def Abr(s:Int):Int:=if Aip s=true then 9 else 5
def Abn(s:Int):Int:=if Aip s=true then 11 else 6
def Acb(s:Int):Int:=if Aip s=true then 10 else 0
def Adc(s:Int):Int:=if Aip s=true then 6 else 4
def Aem(S:PS)(r:Int):Stp:=if r<48 then E4 (S.take r) 2 else Ala S 3 r 0
def Y5(S:PS)(r:Int):Stp :=
 if r=80 then E4 S 7 else if r=88\/r=94\/r=95 then E4 S 13 else if r=91 then E4 S 3 else if r=93 then E4 S 12 else Aem S r
def Aau(S:PS)(r:Int):Stp:=if r<48 then E4 (S.take r) (Abr S.st)else if r<64 then E4 S (Abn S.st)else Ala S (Adc S.st) r (Acb S.st)
def Aav(S:PS)(r:Int):Stp :=
 if 48<=r/\r<=57 then E4 (S.num (Ajq S.sq.num (r-48))) (U1 S.st)else if r=59 then E4 (S.num (X8 S.sq.num)) (U1 S.st)else Aau S r
def Afz(S:PS)(r:Int):Stp:=if 60<=r/\r<64 then E4 (S.L7 r) (U1 S.st)else Aav S r
def Akx(S:PS)(r:Int):Stp:=if r<64 then([],S)else E4 S 0
def Ach(S:PS)(r:Int):Stp:=([],if S.text.length<1024 then⟨S.st,S.sq,S.text++[r]⟩else S)
def Ank(S:PS)(r:Int):Stp:=([Ajt r],S)
def Akt(S:PS)(r:Int):Stp:=(Abw S++[Agd r],R7 S 0)
def X6(S:PS)(r:Int):Stp :=
 if r=144 then E4 S 7 else if r=152\/r=158\/r=159 then E4 S 13 else if r=155 then E4 S 3 else if r=156 then E4 S 0 else if r=157 then E4 S 12 else Akt S r
def Adq(S:PS)(r:Int):Stp:=if 0<=S.st/\S.st<=6 then([Agd r],S)else if S.st=12/\r=7 then E4 S 0 else([],S)
def Adv(S:PS)(r:Int):Stp:=if S.st=0 then Ank S r else if S.st=12 then Ach S r else([],S)
def I0(S:PS)(r:Int):Stp :=
 if S.st=0 then Ank S r else if S.st=1 then Y5 S r else if S.st=2 then Aem S r else if S.st=3\/S.st=7 then Afz S r else if S.st=4\/S.st=8 then Aav S r
 else if S.st=5\/S.st=9 then Aau S r else if S.st=6 then Akx S r else if S.st=12 then Ach S r else([],S)
def Alq(r:Int):Int:=if r<0\/1114111<r then 65533 else r
def V9(S:PS)(r:Int):Stp :=
 if r=24\/r=26 then Akt S r else if r=27 then E4 S 1 else if r<32 then Adq S r else if r<127 then I0 S r else if r=127 then([],S)else if r<160 then X6 S r else Adv S r
def Q5(S:PS)(r:Int):Stp:=V9 S (Alq r)
structure Sq.Ok(q:Sq):Prop where
 num:q.num.Ok
 cnt:q.cnt<=2
structure PS.Ok(S:PS):Prop where
 st:(0<=S.st/\S.st<=13)
 sq:S.sq.Ok
 text:S.text.length<=1024
 out:S.st≠12->S.text=[]
 esc:S.st=1\/S.st=2->S.sq.pr=0/\S.sq.num.n=[]
theorem Aza:U9.Ok:=⟨Cdz,by simp[U9]⟩
theorem Chy:start.Ok:=⟨by simp[start],Aza,by simp[start],fun _=>rfl,fun _=>⟨rfl,rfl⟩⟩
theorem Sq.Boj{q:Sq}(h:q.Ok)(r:Int):(q.put r).Ok:=by
 unfold Sq.put
 split
 ·exact⟨h.num,h.cnt⟩
 ·split
  ·exact⟨h.num,by simp⟩
  ·exact⟨h.num,by simp⟩
theorem Sq.Bco(q:Sq)(r:Int):(q.put r).pr=q.pr/\(q.put r).num=q.num:=by
 unfold Sq.put
 split
 ·exact⟨rfl,rfl⟩
 ·split<;>exact⟨rfl,rfl⟩
structure Good(S:PS)(x:Stp):Prop where
 ok:x.2.Ok
 few:x.1.length<=2
theorem Bbo{S:PS}(h:S.Ok)(q:Sq)(hq:q.Ok)(s:Int)(hs:0<=s/\s<=13)(he:s=2->q.pr=0/\q.num.n=[]):(R7 ⟨S.st,q,S.text⟩ s).Ok:=by
 unfold R7
 refine⟨hs,?_,?_,?_,?_⟩
 ·simp only
  split
  ·exact Aza
  ·exact hq
 ·simp only
  split
  ·simp
  ·exact h.text
 ·intro _
  simp only
  split
  ·rfl
  ·exact h.out (by assumption)
 ·intro hs2
  simp only at hs2 |-
  rcases hs2 with rfl|rfl
  ·exact⟨rfl,rfl⟩
  ·exact he rfl
theorem Apr(S:PS):(Abw S).length<=1:=by
 unfold Abw
 split<;>simp
theorem Biw(q:Sq)(k r:Int):(q.M9 k r).length<=1:=by
 unfold Sq.M9
 split<;>simp
theorem Amq{S:PS}(h:S.Ok)(q:Sq)(hq:q.Ok)(s:Int)(hs:0<=s/\s<=13)(he:s=2->q.pr=0/\q.num.n=[]):Good S (E4 ⟨S.st,q,S.text⟩ s) :=
 ⟨Bbo h q hq s hs he,by have:=Apr ⟨S.st,q,S.text⟩;show(Abw _).length<=2;omega⟩
theorem Amn{S:PS}(h:S.Ok)(s:Int)(hs:0<=s/\s<=13)(he:s≠2):Good S (E4 S s):=Amq h S.sq h.sq s hs (fun e=>absurd e he)
theorem Bfo{S:PS}(h:S.Ok)(k r s:Int)(hs:0<=s/\s<=13)(he:s≠2):Good S (Ala S k r s) :=
 ⟨Bbo h S.sq h.sq s hs (fun e=>absurd e he),by
  have:=Apr S
  have:=Biw (R7 S s).sq k r
  show(Abw S++_).length<=2
  rw[List.length_append]
  omega⟩
theorem Ajc{S:PS}(h:S.Ok)(l:List Act)(hl:l.length<=2):Good S (l,S):=⟨h,hl⟩
theorem Bao(s:Int):(0<=U1 s/\U1 s<=13/\U1 s≠2)/\(0<=Abr s/\Abr s<=13/\Abr s≠2)/\(0<=Abn s/\Abn s<=13/\Abn s≠2)/\(0<=Acb s/\Acb s<=13/\Acb s≠2):=by
 unfold U1 Abr Abn Acb
 split<;>simp
theorem Beu{S:PS}(h:S.Ok)(hs:S.st=1\/S.st=2)(r:Int):Good S (Aem S r):=by
 unfold Aem
 split
 ·exact Amq h _ (Sq.Boj h.sq r) 2 (by omega) (fun _=>by rw[(Sq.Bco S.sq r).1,(Sq.Bco S.sq r).2];exact h.esc hs)
 ·exact Bfo h _ _ _ (by omega) (by omega)
theorem Bun{S:PS}(h:S.Ok)(hs:S.st=1)(r:Int):Good S (Y5 S r):=by
 unfold Y5
 repeat' split
 all_goals first|exact Amn h _ (by omega) (by omega)|exact Beu h (.inl hs) r
theorem Bgk{S:PS}(h:S.Ok)(r:Int):Good S (Aau S r):=by
 obtain⟨_,⟨b0,b1,b2⟩,⟨c0,c1,c2⟩,⟨d0,d1,d2⟩⟩:=Bao S.st
 unfold Aau
 split
 ·exact Amq h _ (Sq.Boj h.sq r) _ ⟨b0,b1⟩ (fun e=>absurd e b2)
 ·split
  ·exact Amn h _ ⟨c0,c1⟩ c2
  ·exact Bfo h _ _ _ ⟨d0,d1⟩ d2
theorem Bgs{S:PS}(h:S.Ok)(r:Int):Good S (Aav S r):=by
 obtain⟨⟨b0,b1,b2⟩,_⟩:=Bao S.st
 unfold Aav
 split
 ·exact Amq h ⟨_,_,_,_,_,_⟩ ⟨Bja h.sq.num _,h.sq.cnt⟩ _ ⟨b0,b1⟩ (fun e=>absurd e b2)
 ·split
  ·exact Amq h ⟨_,_,_,_,_,_⟩ ⟨Bmf h.sq.num,h.sq.cnt⟩ _ ⟨b0,b1⟩ (fun e=>absurd e b2)
  ·exact Bgk h r
theorem Bwz{S:PS}(h:S.Ok)(r:Int):Good S (Afz S r):=by
 obtain⟨⟨b0,b1,b2⟩,_⟩:=Bao S.st
 unfold Afz
 split
 ·exact Amq h ⟨r,S.sq.num,S.sq.a,S.sq.b,S.sq.cnt,S.sq.many⟩ ⟨h.sq.num,h.sq.cnt⟩ _ ⟨b0,b1⟩ (fun e=>absurd e b2)
 ·exact Bgs h r
theorem Bjy{S:PS}(h:S.Ok)(hs:S.st=12)(r:Int):Good S (Ach S r):=by
 unfold Ach
 refine⟨?_,by simp⟩
 simp only
 split
 ·exact⟨h.st,h.sq,by simp;omega,fun e=>absurd hs e,fun e=>by simp only at e;omega⟩
 ·exact h
theorem Bev{S:PS}(h:S.Ok)(r:Int):Good S (Akt S r) :=
 ⟨Bbo h S.sq h.sq 0 (by omega) (fun e=>by omega),by have:=Apr S;show(Abw S++_).length<=2;rw[List.length_append,List.length_singleton];omega⟩
theorem Ccn{S:PS}(h:S.Ok)(r:Int):Good S (I0 S r):=by
 unfold I0
 split
 ·exact Ajc h _ (by simp)
 split
 ·exact Bun h (by assumption) r
 split
 ·exact Beu h (by omega) r
 split
 ·exact Bwz h r
 split
 ·exact Bgs h r
 split
 ·exact Bgk h r
 split
 ·unfold Akx
  split
  ·exact Ajc h _ (by simp)
  ·exact Amn h 0 (by omega) (by omega)
 split
 ·exact Bjy h (by assumption) r
 ·exact Ajc h _ (by simp)
theorem Cag{S:PS}(h:S.Ok)(r:Int):Good S (Q5 S r):=by
 unfold Q5 V9
 generalize Alq r=r
 split
 ·exact Bev h r
 split
 ·exact Amn h _ (by omega) (by omega)
 split
 ·unfold Adq
  split
  ·exact Ajc h _ (by simp)
  ·split
   ·exact Amn h _ (by omega) (by omega)
   ·exact Ajc h _ (by simp)
 split
 ·exact Ccn h r
 split
 ·exact Ajc h _ (by simp)
 split
 ·unfold X6
  repeat' split
  all_goals first|exact Amn h _ (by omega) (by omega)|exact Bev h r
 ·unfold Adv
  split
  ·exact Ajc h _ (by simp)
  ·split
   ·exact Bjy h (by assumption) r
   ·exact Ajc h _ (by simp)
def S5(S:PS):List Int->PS
 |[]=>S
 |r::l=>S5 (Q5 S r).2 l
end Go.Proofs.YtecnpoigegiooaaGreatDoor.Prs
namespace Go.Proofs.YtecnpoigegiooaaGreatDoor.Com
open Go RowKit
theorem G1{a b:Bool}(h:a=b):Ending.returned (.bool a)=.returned (.bool b):=by rw[h]
theorem G6{k:IntKind}{a b:Int}(h:a=b):Ending.returned (.int k a)=.returned (.int k b):=by rw[h]
structure A0(L:List Nat)(w w':World):Prop where
 os:w'.os=w.os
 tape:w'.tape=w.tape
 output:w'.output=w.output
 size:w.heap.size<=w'.heap.size
 block:∀k,k<w.heap.size->k∉L->w'.heap[k]?=w.heap[k]?
theorem A0.refl(L:List Nat)(w:World):A0 L w w:=⟨rfl,rfl,rfl,J5 _,fun _ _ _=>rfl⟩
theorem A0.trans{L:List Nat}{a b c:World}(h:A0 L a b)(g:A0 L b c):A0 L a c :=
 ⟨g.os.trans h.os,g.tape.trans h.tape,g.output.trans h.output,Nat.le_trans h.size g.size,fun k hk hn=>(g.block k (Nat.lt_of_lt_of_le hk h.size) hn).trans (h.block k hk hn)⟩
theorem A0.then{L L':List Nat}{a b c:World}(h:A0 L a b)(g:A0 L' b c)(hL:∀k∈L',k∈L\/a.heap.size<=k):A0 L a c :=
 ⟨g.os.trans h.os,g.tape.trans h.tape,g.output.trans h.output,Nat.le_trans h.size g.size,fun k hk hn =>
  (g.block k (Nat.lt_of_lt_of_le hk h.size) (fun hm=>(hL k hm).elim hn (fun hge=>by omega))).trans (h.block k hk hn)⟩
theorem A0.mono{L L':List Nat}{a b:World}(h:A0 L a b)(hL:∀k∈L,k∈L'):A0 L' a b :=
 ⟨h.os,h.tape,h.output,h.size,fun k hk hn=>h.block k hk (fun hm=>hn (hL k hm))⟩
theorem A0.alloc(L:List Nat)(w:World)(o:Obj):A0 L w (w.alloc o):=⟨rfl,rfl,rfl,by simp,fun k hk _=>Below.heap_alloc _ _ _ hk⟩
theorem A0.setCell(w:World)(p:Addr)(u:Value):A0 [p.block] w (w.setCell p u) :=
 ⟨rfl,rfl,rfl,by simp[World.setCell],fun k _ hn=>Below.heap_setCell _ _ _ _ (by simpa using hn)⟩
theorem A0.drewN(L:List Nat)(w:World)(n:Nat):A0 L w (w.drewN n):=⟨rfl,rfl,rfl,J5 _,fun _ _ _=>rfl⟩
theorem A0.grown{w w':World}{row:Option Nat}(h:w.grownBy w' row):A0 row.toList w w' :=
 ⟨h.os,h.tape,h.output,h.size,fun k hk hn=>h.block k hk (fun e=>hn (by rw[<- e];simp))⟩
theorem A0.below{L:List Nat}{w w':World}{B:Nat}(h:A0 L w w')(hB:B<=w.heap.size)(hL:∀k∈L,B<=k):Below B w w' :=
 ⟨h.os,h.tape,h.output,h.size,fun k hk=>h.block k (Nat.lt_of_lt_of_le hk hB) (fun hm=>by have:=hL k hm;omega)⟩
theorem A0.A1{w w':World}(h:Below w.heap.size w w')(L:List Nat):A0 L w w':=⟨h.os,h.tape,h.output,h.size,fun k hk _=>h.block k hk⟩
theorem A0.nil{w w':World}(h:A0 [] w w'):Below w.heap.size w w':=h.below (J5 _) (by simp)
def Block(w:World)(g:Nat)(t:TypeId)(cs:Array Value):Prop:=w.heap[g]?=some (.cells cs t (0,0))
theorem Block.lt{w:World}{g:Nat}{t:TypeId}{cs:Array Value}(h:Block w g t cs):g<w.heap.size:=lt_of_block h
theorem Block.cell{w:World}{g:Nat}{t:TypeId}{cs:Array Value}(h:Block w g t cs)(i:Nat){v:Value}(hv:cs[i]?=some v):w.cell? ⟨g,i,none⟩=some v:=(cell_of_row w g i cs t (0,0) h).trans hv
theorem Block.free{w:World}{g:Nat}{t:TypeId}{cs:Array Value}(h:Block w g t cs)(i:Nat):w.frozen? ⟨g,i,none⟩=false:=frozen_of_row w g i cs t h
theorem Block.made(w:World)(t:TypeId)(cs:Array Value):Block (w.alloc (.cells cs t)) w.heap.size t cs:=heap_alloc_new w _
theorem Block.set{w:World}{g:Nat}{t:TypeId}{cs:Array Value}(h:Block w g t cs)(i:Nat)(u:Value):Block (w.setCell ⟨g,i,none⟩ u) g t (cs.setIfInBounds i u):=heap_setCell_same w g i cs t u h
theorem Block.only{L:List Nat}{w w':World}{g:Nat}{t:TypeId}{cs:Array Value}(h:Block w g t cs)(ho:A0 L w w')(hn:g∉L):Block w' g t cs:=(ho.block g h.lt hn).trans h
theorem Block.alloc{w:World}{g:Nat}{t:TypeId}{cs:Array Value}(h:Block w g t cs)(o:Obj):Block (w.alloc o) g t cs:=h.only (A0.alloc [] w o) (by simp)
theorem Block.apart{w:World}{g g':Nat}{t t':TypeId}{cs cs':Array Value}(h:Block w g t cs)(h':Block w g' t' cs')(ht:t≠t'):g≠g':=by
 intro e
 subst e
 unfold Block at h h'
 rw[h]at h'
 simp only[Option.some.injEq,Obj.cells.injEq]at h'
 exact ht h'.2.1
def A8(w:World)(B:Nat)(k:IntKind)(ao:Option Addr)(l:List Int):Prop :=
 ∀i x,l[i]?=some x->∃ad,ao=some ad/\ad.block<B/\w.cell? (ad.add i)=some (.int k x)
theorem A8.nil(w:World)(B:Nat)(k:IntKind)(ao:Option Addr):A8 w B k ao []:=fun i x h=>by simp at h
theorem A8.at{w:World}{B:Nat}{k:IntKind}{ao:Option Addr}{l:List Int}(h:A8 w B k ao l){i:Nat}(hi:i<l.length):∃ad,ao=some ad/\ad.block<B/\w.cell? (ad.add i)=some (.int k l[i]) :=
 h i _ (List.getElem?_eq_getElem hi)
theorem Aa1(ad:Addr)(n:Nat):(ad.add n).block=ad.block:=by unfold Addr.add;split<;>rfl
theorem add_add(ad:Addr)(i j:Nat):(ad.add i).add j=ad.add (i+j):=by
 unfold Addr.add
 by_cases hi:i=0<;>by_cases hj:j=0<;>simp[hi,hj,Nat.add_assoc]
theorem A8.kept{w w':World}{B:Nat}{k:IntKind}{ao:Option Addr}{l:List Int}(h:A8 w B k ao l)(hb:∀g,g<B->w'.heap[g]?=w.heap[g]?):A8 w' B k ao l:=fun i x hx=>by
 obtain⟨ad,e,hlt,hc⟩:=h i x hx
 exact⟨ad,e,hlt,(World.cell?_of_block (w:=w) (hb _ (by rw[Aa1];exact hlt))).trans hc⟩
theorem A8.below{w w':World}{B B':Nat}{k:IntKind}{ao:Option Addr}{l:List Int}(h:A8 w B k ao l)(hb:Below B' w w')(hB:B<=B'):A8 w' B k ao l:=h.kept fun g hg=>hb.block g (by omega)
theorem A8.only{L:List Nat}{w w':World}{B:Nat}{k:IntKind}{ao:Option Addr}{l:List Int}(h:A8 w B k ao l)(ho:A0 L w w')(hB:B<=w.heap.size)(hL:∀k∈L,B<=k):A8 w' B k ao l :=
 h.kept fun g hg=>ho.block g (by omega) (fun hm=>by have:=hL g hm;omega)
theorem A8.alloc{w:World}{B:Nat}{k:IntKind}{ao:Option Addr}{l:List Int}(h:A8 w B k ao l)(hB:B<=w.heap.size)(o:Obj):A8 (w.alloc o) B k ao l:=h.only (A0.alloc [] w o) hB (by simp)
theorem A8.more{w:World}{B B':Nat}{k:IntKind}{ao:Option Addr}{l:List Int}(h:A8 w B k ao l)(hB:B<=B'):A8 w B' k ao l:=fun i x hx=>by
 obtain⟨ad,e,hlt,hc⟩:=h i x hx
 exact⟨ad,e,by omega,hc⟩
theorem A8.piece{w:World}{B:Nat}{k:IntKind}{ao:Option Addr}{l:List Int}(h:A8 w B k ao l)(lo hi:Nat):A8 w B k (ao.map (·.add lo)) ((l.take hi).drop lo):=fun i x hx=>by
 have hx':l[lo+i]?=some x:=by
  rw[List.getElem?_drop,List.getElem?_take]at hx
  split at hx
  ·exact hx
  ·cases hx
 obtain⟨ad,rfl,hlt,hc⟩:=h (lo+i) x hx'
 exact⟨ad.add lo,rfl,by rw[Aa1];exact hlt,by rw[add_add];exact hc⟩
def Own(w:World)(B:Nat)(e:TypeId)(k:IntKind)(v:Value)(l:List Int):Prop:=w.ownsRow B e 1 v l.length (l.map (Value.int k))
theorem Own.nil(w:World)(B:Nat)(e:TypeId)(k:IntKind):Own w B e k (.slice none 0 0) []:=World.ownsRow_nil w B e 1
theorem Own.lt{w:World}{B:Nat}{e:TypeId}{k:IntKind}{v:Value}{l:List Int}(h:Own w B e k v l):∀g,v.ownBlock=some g->B<=g/\g<w.heap.size:=World.ownsRow.lt h
theorem Own.only{L:List Nat}{w w':World}{B:Nat}{e:TypeId}{k:IntKind}{v:Value}{l:List Int}(h:Own w B e k v l)(ho:A0 L w w')(hn:∀g,v.ownBlock=some g->g∉L):Own w' B e k v l:=by
 refine⟨h.1,?_⟩
 rcases h.2 with h2|⟨g,cap,cur,rfl,hg,hh,r⟩
 ·exact .inl h2
 ·exact .inr ⟨g,cap,cur,rfl,hg,(ho.block g (lt_of_block hh) (hn g rfl)).trans hh,r⟩
theorem Own.alloc{w:World}{B:Nat}{e:TypeId}{k:IntKind}{v:Value}{l:List Int}(h:Own w B e k v l)(o:Obj):Own (w.alloc o) B e k v l:=h.only (A0.alloc [] w o) (by simp)
theorem Own.lower{w:World}{B B':Nat}{e:TypeId}{k:IntKind}{v:Value}{l:List Int}(h:Own w B e k v l)(hB:B'<=B):Own w B' e k v l:=by
 refine⟨h.1,?_⟩
 rcases h.2 with h2|⟨g,cap,cur,rfl,hg,r⟩
 ·exact .inl h2
 ·exact .inr ⟨g,cap,cur,rfl,by omega,r⟩
theorem Own.shape{w:World}{B:Nat}{e:TypeId}{k:IntKind}{v:Value}{l:List Int}(h:Own w B e k v l):∃ao cap,v=.slice ao l.length cap/\l.length<=cap/\cap<=maxLen/\A8 w w.heap.size k ao l:=by
 have hc:=fun g hg=>World.ownsRow.cells h (g:=g) hg
 rcases h.2 with⟨rfl,hn⟩|⟨g,cap,cur,rfl,_,hh,hn,hm,_⟩
 ·have hl:l=[]:=List.eq_nil_of_length_eq_zero hn
  subst hl
  exact⟨none,0,rfl,J5 _,by simp[maxLen],A8.nil _ _ _ _⟩
 ·refine⟨_,cap,rfl,hn,hm,fun i x hx=>⟨_,rfl,lt_of_block hh,hc g rfl i _ (by rw[List.getElem?_map,hx];rfl)⟩⟩
theorem Own.apart{w:World}{B:Nat}{e t:TypeId}{k:IntKind}{v:Value}{l:List Int}{g:Nat}{cs:Array Value}(h:Own w B e k v l)(hb:Block w g t cs)(ht:e≠t):v.ownBlock≠some g:=by
 intro hv
 rcases h.2 with⟨rfl,_⟩|⟨g',cap,cur,rfl,_,hh,_⟩
 ·simp[Value.ownBlock]at hv
 ·have he:g'=g:=by simpa[Value.ownBlock]using hv
  exact Block.apart (t:=e) hh hb ht he
theorem Own.lit(w:World)(B:Nat)(e:TypeId)(k:IntKind)(l:List Int)(hB:B<=w.heap.size)(hm:l.length<=maxLen) :
  Own (w.alloc (.cells (l.map (Value.int k)).toArray e)) B e k (.slice (some ⟨w.heap.size,0,none⟩) l.length l.length) l:=by
 have h:=World.ownsRow_lit w (e:=e) (base:=B) (size:=1) (l.map (Value.int k)).toArray l.length hB hm (by simp)
 exact h
theorem Afq{P:Program}{ops:Array Oper}{rest:List Oper}{o:Oper}{a:Act}{w:World}{Q:Exit->Act->World->Prop}(hw:Region.wanted o (yielded ops a.tmps)=true)
  (h:∀K:Act->World->Prop,(∀a w,wpList P ops Q rest a w->K a w)->o.wp P a w K Q):wpList P ops Q (o::rest) a w :=
 wpList_step fun K hK=>by rw[if_pos hw];exact h K hK
structure Z4(P:Program)(t e:TypeId)(k:IntKind)(bytes:Nat):Prop where
 slice:P.underlying t=some (.slice e)
 info:∃i,P.info? e=some i/\i.zero=some (.int k 0)/\i.size=1/\i.bytes=bytes
theorem Bbw{P:Program}{t e:TypeId}{k:IntKind}{bytes:Nat}(E:Z4 P t e k bytes)(w:World)(ty:TypeId)(B:Nat)(v:Value)(l m:List Int)(ao:Option Addr)(B' c:Nat)
  (h:Own w B e k v l) (hm:A8 w B' k ao m) (hB:B<=w.heap.size) (hn:(l.length+m.length)*bytes<=140737488355328) (hx:l.length+m.length<=maxLen) :
  ∃v' w',(Builtin.append_ #[t,t] ty #[v,.slice ao m.length c]).run P w=.ok v' w'/\Own w' B e k v' (l++m)/\A0 v.ownBlock.toList w w'/\(v'.ownBlock=v.ownBlock\/v'.ownBlock=some w.heap.size):=by
 obtain⟨i,hi,hz,hs,hb⟩:=E.info
 rcases ao with _|ad
 ·have hm0:m=[]:=by
   rcases m with _|⟨x,m⟩
   ·rfl
   ·obtain⟨ad,h',_⟩:=hm 0 x rfl
    cases h'
  subst hm0
  refine⟨v,w,?_,by simpa using h,A0.refl _ _,.inl rfl⟩
  rcases h.2 with⟨rfl,_⟩|⟨g,cap,cur,rfl,_,_,hnc,_⟩
  ·simp[Builtin.append_,run_underlying E.slice,sizeOf,typeInfo,hi,Builtin.lenOf,Builtin.firstCells]
  ·simp[Builtin.append_,run_underlying E.slice,sizeOf,typeInfo,hi,Builtin.lenOf,Builtin.firstCells,hnc,storeCells]
 ·obtain⟨v',w',hr,h2,h3,_,h5⟩:=run_append_own_at (P:=P) w B t ty e i (.int k 0) 1 bytes E.slice hi hz hs hb rfl (by omega) v l.length (l.map (Value.int k)) h ad m.length c (m.map (Value.int k)) (by simp)
   (fun j u hu=>by
    rw[List.getElem?_map]at hu
    rcases hx':m[j]? with _|x
    ·rw[hx']at hu;cases hu
    ·rw[hx']at hu
     obtain⟨ad',e',_,hc⟩:=hm j x hx'
     cases e'
     cases hu
     exact hc)
   (fun u hu=>by
    obtain⟨x,_,rfl⟩:=List.mem_map.1 hu
    rfl) hx hn hB
  refine⟨v',w',hr,?_,A0.grown h3,h5⟩
  unfold Own
  rw[List.length_append,List.map_append]
  exact h2
theorem Bos{P:Program}{t e:TypeId}{k:IntKind}{bytes:Nat}(E:Z4 P t e k bytes){w:World}{o:Oper}{a:Act}{K:Act->World->Prop}{Q:Exit->Act->World->Prop}(s x:Operand)
  (ho:o.op=.call { callee:=.builtin .append,args:=#[s,x],argTypes:=#[t,t] })
  (B:Nat) (v:Value) (l m:List Int) (ao:Option Addr) (B' c:Nat) (hs:a.eval s=v) (hxe:a.eval x=.slice ao m.length c)
  (h:Own w B e k v l) (hm:A8 w B' k ao m) (hB:B<=w.heap.size) (hn:(l.length+m.length)*bytes<=140737488355328) (hx:l.length+m.length<=maxLen)
  (hK:∀v' w',Own w' B e k v' (l++m)->A0 v.ownBlock.toList w w'->(v'.ownBlock=v.ownBlock\/v'.ownBlock=some w.heap.size)->K (a.put o.dst v') w'):o.wp P a w K Q:=by
 obtain⟨v',w',hr,h2,h3,h4⟩:=Bbw E w o.type B v l m ao B' c h hm hB hn hx
 unfold Oper.wp execOp
 simp only[ho,resolve,invoke,builtin,Sem.run_bind,Sem.run_pure,Result.andThen_ok,List.map_toArray,List.map_cons,List.map_nil,hs,hxe,hr]
 exact hK v' w' h2 h3 h4
theorem Akq{P:Program}{t e:TypeId}{k:IntKind}{bytes:Nat}(E:Z4 P t e k bytes){w:World}{ops:Array Oper}{rest:List Oper}{o:Oper}{a:Act}{Q:Exit->Act->World->Prop}(hgd:Region.wanted o (yielded ops a.tmps)=true)(s x:Operand)
  (ho:o.op=.call { callee:=.builtin .append,args:=#[s,x],argTypes:=#[t,t] })
  (B:Nat) (v:Value) (l m:List Int) (ao:Option Addr) (B' c:Nat) (hs:a.eval s=v) (hxe:a.eval x=.slice ao m.length c)
  (h:Own w B e k v l) (hm:A8 w B' k ao m) (hB:B<=w.heap.size) (hn:(l.length+m.length)*bytes<=140737488355328) (hx:l.length+m.length<=maxLen)
  (hK:∀v' w',Own w' B e k v' (l++m)->A0 v.ownBlock.toList w w'->(v'.ownBlock=v.ownBlock\/v'.ownBlock=some w.heap.size)->wpList P ops Q rest (a.put o.dst v') w'):wpList P ops Q (o::rest) a w :=
 Afq hgd fun _ hK'=>Bos E s x ho B v l m ao B' c hs hxe h hm hB hn hx fun v' w' h1 h2 h3=>hK' _ _ (hK v' w' h1 h2 h3)
theorem A8.one(w:World)(e:TypeId)(k:IntKind)(x:Int):A8 (w.alloc (.cells #[.int k x] e)) (w.heap.size+1) k (some ⟨w.heap.size,0,none⟩) [x]:=fun i y hy=>by
 rcases i with _|i
 ·simp at hy
  subst hy
  exact⟨_,rfl,by simp,by simp[Addr.add]⟩
 ·simp at hy
theorem Adl(w:World)(g:Nat)(cs:Array Value):A0 [g] w (w.setRow g cs):=⟨rfl,rfl,rfl,by simp,fun k _ hk=>setRow_other w g k _ (by simpa using hk)⟩
theorem Bym{P:Program}{w:World}{g i:Nat}{t:TypeId}{cs:Array Value}(hb:Block w g t cs)(ty:TypeId)(v:Value)(hi:i<cs.size)(Y8:(P.info? ty).map (·.size)=some 1)(h1:v.oneCell'=true) :
  (storeVar ty ⟨g,i,none⟩ v).run P w=.ok () (w.setRow g (cs.toList.take i++[v]++cs.toList.drop (i+1)).toArray):=by
 have:=run_storeCells_at (P:=P) g i t [v] 0 cs w hb (by simp;omega) (fun x hx=>by simp at hx;subst hx;exact h1)
 have hc:v.cells=#[v]:=by cases v<;>first|rfl|cases h1
 cases hq:P.info? ty with
 |none=>simp[hq]at Y8
 |some j =>
  have hs:j.size=1:=by simpa[hq]using Y8
  simp only[Nat.add_zero,List.length_singleton]at this
  simp[storeVar,sizeOf,typeInfo,hq,hc,hs,this]
theorem N9{P:Program}{ops:Array Oper}{rest:List Oper}{o:Oper}{a:Act}{w:World}{Q:Exit->Act->World->Prop}(hgd:o.guard=none)(ty:TypeId)(x y:Operand)(ho:o.op=.store ty x y)
  {g i:Nat} {t:TypeId} {cs:Array Value} (hb:Block w g t cs) (v:Value) (hx:a.eval x=.pointer (some ⟨g,i,none⟩)) (hy:a.eval y=v) (hi:i<cs.size) (Y8:(P.info? ty).map (·.size)=some 1) (h1:v.oneCell'=true)
  (h:∀w',Block w' g t (cs.toList.take i++[v]++cs.toList.drop (i+1)).toArray->A0 [g] w w'->wpList P ops Q rest (a.put o.dst undef) w'):wpList P ops Q (o::rest) a w :=
 wpList_plain hgd fun _ hK=>by
  unfold Oper.wp execOp
  simp only[ho,hx,hy,Instr.storeAt,Instr.sureAddr,Sem.run_bind,Sem.run_pure,Result.andThen_ok,Bym hb ty v hi Y8 h1]
  exact hK _ _ (h _ (setRow_heap w g cs _ t _ hb) (Adl w g _))
theorem L8{P:Program}{ops:Array Oper}{rest:List Oper}{o:Oper}{a:Act}{w:World}{Q:Exit->Act->World->Prop}(hgd:o.guard=none)(ty:TypeId)(x y:Operand)(ho:o.op=.store ty x y)
  {g:Nat} {t:TypeId} {old:Array Value} (hb:Block w g t old) (cs:Array Value) (hx:a.eval x=.pointer (some ⟨g,0,none⟩)) (hy:a.eval y=.agg cs) (Y8:(P.info? ty).map (·.size)=some cs.size) (hs:old.size=cs.size) (h1:cs.all (·.oneCell')=true)
  (h:∀w',Block w' g t cs->A0 [g] w w'->wpList P ops Q rest (a.put o.dst undef) w'):wpList P ops Q (o::rest) a w :=
 wpList_store_row hgd ty x y ho g cs hx hy t old hb Y8 hs h1 (h _ (setRow_heap w g old _ t _ hb) (Adl w g _))
theorem Chn{P:Program}{w:World}{B:Nat}{ao:Option Addr}{l:List Int}(h:A8 w B .u8 ao l){src dst e:TypeId}(hs:P.underlying src=some (.slice e))(he:P.underlying e=some (.int .u8))(hd:P.underlying dst=some .string)(c:Nat) :
  (convert src dst (.slice ao l.length c)).run P w=.ok (.string (strOfNums l)) w:=by
 rcases ao with _|ad
 ·have hl:l=[]:=by
   rcases l with _|⟨x,l⟩
   ·rfl
   ·obtain⟨ad,h',_⟩:=h 0 x rfl
    cases h'
  subst hl
  rw[run_convert_bytes_nil w src e hs he _ c dst hd]
  rfl
 ·have hl:(loadCells ad l.length).run P w=.ok (l.map (Value.int .u8)).toArray w:=by
   have:=run_loadCells_list (P:=P) w ad (l.map (Value.int .u8)) (fun j v hj=>by
    rw[List.getElem?_map]at hj
    rcases hx:l[j]? with _|x
    ·rw[hx]at hj;cases hj
    ·rw[hx]at hj
     obtain⟨ad',e',_,hc⟩:=h j x hx
     cases e'
     cases hj
     exact hc)
   simpa using this
  rw[run_convert_bytes_string w src dst e _ _ c hs he hd,run_bytesToString w _ _ c l hl,foldl_push_bytes]
  simp[strOfNums,ByteArray.empty,ByteArray.emptyWithCapacity]
  rfl
theorem A8.lit(w:World)(e:TypeId)(k:IntKind)(l:List Int):A8 (w.alloc (.cells (l.map (Value.int k)).toArray e)) (w.heap.size+1) k (some ⟨w.heap.size,0,none⟩) l:=fun i x hx =>
 ⟨_,rfl,by simp,by
  rw[Addr.add_lit]
  have hb:=Block.made w e (l.map (Value.int k)).toArray
  rw[Nat.zero_add]
  exact hb.cell i (by simp[hx])⟩
theorem A3(w:World)(o:Obj):Below w.heap.size w (w.alloc o):=(Below.refl _ _).alloc (J5 _) o
theorem A2{a b c:World}(h:Below a.heap.size a b)(g:Below b.heap.size b c):Below a.heap.size a c:=h.trans (g.mono h.size)
theorem Adp{a b c:World}{d:Nat}(h:Below a.heap.size a b)(g:A0 [d] b c)(hd:a.heap.size<=d):Below a.heap.size a c:=h.trans (g.below h.size (by simpa using hd))
theorem C7{a b:World}(h:Below a.heap.size a b)(n:Nat):Below a.heap.size a (b.drewN n):=below_drewN h n
theorem Bkl{P:Program}{t e:TypeId}{k:IntKind}{bytes:Nat}(E:Z4 P t e k bytes){w:World}{ops:Array Oper}{o:Oper}{a:Act}{K:Act->World->Prop}{Q:Exit->Act->World->Prop}{F:Prop}(hw:Region.wanted o (yielded ops a.tmps)=true)(s x:Operand)
  (ho:o.op=.call { callee:=.builtin .append,args:=#[s,x],argTypes:=#[t,t] })
  (B:Nat) (v:Value) (l m:List Int) (ao:Option Addr) (B' c:Nat) (hs:a.eval s=v) (hxe:a.eval x=.slice ao m.length c)
  (h:Own w B e k v l) (hm:A8 w B' k ao m) (hB:B<=w.heap.size) (hn:(l.length+m.length)*bytes<=140737488355328) (hx:l.length+m.length<=maxLen)
  (hK:∀v' w',Own w' B e k v' (l++m)->A0 v.ownBlock.toList w w'->(v'.ownBlock=v.ownBlock\/v'.ownBlock=some w.heap.size)->K (a.put o.dst v') w') :
  if Region.wanted o (yielded ops a.tmps)=true then Oper.wp P o a w K Q else F:=by
 rw[if_pos hw]
 exact Bos E s x ho B v l m ao B' c hs hxe h hm hB hn hx hK
theorem getD_at{l:List Int}{k:Nat}(h:k<l.length):l.getD k 0=l[k]:=by rw[List.getD_eq_getElem?_getD,List.getElem?_eq_getElem h];rfl
