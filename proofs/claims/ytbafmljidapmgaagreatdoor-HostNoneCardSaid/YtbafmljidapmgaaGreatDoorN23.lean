/- Part 23 of the proof that the card of HostNone holds. -/
import Derived.Test.YtbafmljidapmgaaGreatDoorN22
import Derived.WalkArith
import Derived.StillTail
set_option maxHeartbeats 16000000
set_option maxRecDepth 100000
namespace Go.Proofs.YtbafmljidapmgaaGreatDoor.Prs
open Par
structure Act where
 kind:Int
 R:Int
 priv:Int
 params:List Int
 inter:List Int
 final:Int
 text:List Int
structure Sq where
 pr:Int
 num:Lst
 a:Int
 b:Int
 cnt:Nat
 many:Bool
structure PS where
 st:Int
 sq:Sq
 text:List Int
def emptySq:Sq:=⟨0,empty,0,0,0,false⟩
def start:PS:=⟨0,emptySq,[]⟩
def execA (r:Int):Act:=⟨2,r,0,[],[],0,[]⟩
def printA (r:Int):Act:=⟨1,r,0,[],[],0,[]⟩
def oscA (t:List Int):Act:=⟨5,0,0,[],[],0,t⟩
def Sq.put (q:Sq) (r:Int):Sq:=if q.cnt=2 then ⟨q.pr,q.num,q.a,q.b,q.cnt,true⟩ else if q.cnt=1 then ⟨q.pr,q.num,q.a,r,2,q.many⟩ else ⟨q.pr,q.num,r,q.b,1,q.many⟩
def Sq.inter (q:Sq):List Int:=[q.a,q.b].take q.cnt
def Sq.acts (q:Sq) (kind final:Int):List Act:=if q.many=true then [] else [⟨kind,0,q.pr,q.num.n,q.inter,final,[]⟩]
def leadA (S:PS):List Act:=if S.st=12 then [oscA S.text] else []
def leadS (S:PS) (s:Int):PS:=⟨s,if s=1\/s=3\/s=7 then emptySq else S.sq,if S.st=12 then [] else S.text⟩
abbrev Stp:=List Act×PS
def leadF (S:PS) (s:Int):Stp:=(leadA S,leadS S s)
def finishF (S:PS) (kind r s:Int):Stp:=(leadA S++(leadS S s).sq.acts kind r,leadS S s)
def PS.take (S:PS) (r:Int):PS:=⟨S.st,S.sq.put r,S.text⟩
def PS.priv (S:PS) (r:Int):PS:=⟨S.st,⟨r,S.sq.num,S.sq.a,S.sq.b,S.sq.cnt,S.sq.many⟩,S.text⟩
def PS.num (S:PS) (L:Lst):PS:=⟨S.st,⟨S.sq.pr,L,S.sq.a,S.sq.b,S.sq.cnt,S.sq.many⟩,S.text⟩
def dcsB (s:Int):Bool:=decide (s=7\/s=8\/s=9)
def Ag3 (s:Int):Int:=if dcsB s=true then 8 else 4
def Al2 (s:Int):Int:=if dcsB s=true then 9 else 5
def Ah7 (s:Int):Int:=if dcsB s=true then 11 else 6
def cEnd (s:Int):Int:=if dcsB s=true then 10 else 0
def cAct (s:Int):Int:=if dcsB s=true then 6 else 4
def escInterF (S:PS) (r:Int):Stp:=if r<48 then leadF (S.take r) 2 else finishF S 3 r 0
def escapeF (S:PS) (r:Int):Stp :=
 if r=80 then leadF S 7 else if r=88\/r=94\/r=95 then leadF S 13 else if r=91 then leadF S 3 else if r=93 then leadF S 12 else escInterF S r
def interF (S:PS) (r:Int):Stp:=if r<48 then leadF (S.take r) (Al2 S.st) else if r<64 then leadF S (Ah7 S.st) else finishF S (cAct S.st) r (cEnd S.st)
def paramF (S:PS) (r:Int):Stp :=
 if 48<=r/\r<=57 then leadF (S.num (Az9 S.sq.num (r - 48))) (Ag3 S.st) else if r=59 then leadF (S.num (nextF S.sq.num)) (Ag3 S.st) else interF S r
def entryF (S:PS) (r:Int):Stp:=if 60<=r/\r<64 then leadF (S.priv r) (Ag3 S.st) else paramF S r
def csiIgnF (S:PS) (r:Int):Stp:=if r<64 then ([],S) else leadF S 0
def oscF (S:PS) (r:Int):Stp:=([],if S.text.length<1024 then ⟨S.st,S.sq,S.text++[r]⟩ else S)
def groundF (S:PS) (r:Int):Stp:=([printA r],S)
def execLeadF (S:PS) (r:Int):Stp:=(leadA S++[execA r],leadS S 0)
def upperF (S:PS) (r:Int):Stp :=
 if r=144 then leadF S 7 else if r=152\/r=158\/r=159 then leadF S 13 else if r=155 then leadF S 3 else if r=156 then leadF S 0 else if r=157 then leadF S 12 else execLeadF S r
def controlF (S:PS) (r:Int):Stp:=if 0<=S.st/\S.st<=6 then ([execA r],S) else if S.st=12/\r=7 then leadF S 0 else ([],S)
def beyondF (S:PS) (r:Int):Stp:=if S.st=0 then groundF S r else if S.st=12 then oscF S r else ([],S)
def stepF (S:PS) (r:Int):Stp :=
 if S.st=0 then groundF S r else if S.st=1 then escapeF S r else if S.st=2 then escInterF S r else if S.st=3\/S.st=7 then entryF S r else if S.st=4\/S.st=8 then paramF S r
 else if S.st=5\/S.st=9 then interF S r else if S.st=6 then csiIgnF S r else if S.st=12 then oscF S r else ([],S)
def normF (r:Int):Int:=if r<0\/1114111<r then 65533 else r
def feedN (S:PS) (r:Int):Stp :=
 if r=24\/r=26 then execLeadF S r else if r=27 then leadF S 1 else if r<32 then controlF S r else if r<127 then stepF S r else if r=127 then ([],S) else if r<160 then upperF S r else beyondF S r
def feedF (S:PS) (r:Int):Stp:=feedN S (normF r)
structure Sq.Ok (q:Sq):Prop where
 num:q.num.Ok
 cnt:q.cnt<=2
structure PS.Ok (S:PS):Prop where
 st:(0<=S.st/\S.st<=13)
 sq:S.sq.Ok
 text:S.text.length<=1024
 out:S.st≠12->S.text=[]
 esc:S.st=1\/S.st=2->S.sq.pr=0/\S.sq.num.n=[]
theorem emptySq_ok:emptySq.Ok:=⟨empty_ok,by simp [emptySq]⟩
theorem start_ok:start.Ok:=⟨by simp [start],emptySq_ok,by simp [start],fun _=>rfl,fun _=>⟨rfl,rfl⟩⟩
theorem Sq.put_ok {q:Sq} (h:q.Ok) (r:Int):(q.put r).Ok:=by
 unfold Sq.put
 split
 ·exact ⟨h.num,h.cnt⟩
 ·split
  ·exact ⟨h.num,by simp⟩
  ·exact ⟨h.num,by simp⟩
theorem Sq.put_pr (q:Sq) (r:Int):(q.put r).pr=q.pr/\(q.put r).num=q.num:=by
 unfold Sq.put
 split
 ·exact ⟨rfl,rfl⟩
 ·split<;>exact ⟨rfl,rfl⟩
structure Good (S:PS) (x:Stp):Prop where
 ok:x.2.Ok
 few:x.1.length<=2
theorem Bu5 {S:PS} (h:S.Ok) (q:Sq) (hq:q.Ok) (s:Int) (hs:0<=s/\s<=13) (he:s=2->q.pr=0/\q.num.n=[]):(leadS ⟨S.st,q,S.text⟩ s).Ok:=by
 unfold leadS
 refine ⟨hs,?_,?_,?_,?_⟩
 ·simp only
  split
  ·exact emptySq_ok
  ·exact hq
 ·simp only
  split
  ·simp
  ·exact h.text
 ·intro _
  simp only
  split
  ·rfl
  ·exact h.out (by assumption)
 ·intro hs2
  simp only at hs2 |-
  rcases hs2 with rfl|rfl
  ·exact ⟨rfl,rfl⟩
  ·exact he rfl
theorem Av9 (S:PS):(leadA S).length<=1:=by
 unfold leadA
 split<;>simp
theorem Bv7 (q:Sq) (k r:Int):(q.acts k r).length<=1:=by
 unfold Sq.acts
 split<;>simp
theorem Ak4 {S:PS} (h:S.Ok) (q:Sq) (hq:q.Ok) (s:Int) (hs:0<=s/\s<=13) (he:s=2->q.pr=0/\q.num.n=[]):Good S (leadF ⟨S.st,q,S.text⟩ s) :=
 ⟨Bu5 h q hq s hs he,by have:=Av9 ⟨S.st,q,S.text⟩;show (leadA _).length<=2;omega⟩
theorem Ai5 {S:PS} (h:S.Ok) (s:Int) (hs:0<=s/\s<=13) (he:s≠2):Good S (leadF S s):=Ak4 h S.sq h.sq s hs (fun e=>absurd e he)
theorem Bd7 {S:PS} (h:S.Ok) (k r s:Int) (hs:0<=s/\s<=13) (he:s≠2):Good S (finishF S k r s) :=
 ⟨Bu5 h S.sq h.sq s hs (fun e=>absurd e he),by
  have:=Av9 S
  have:=Bv7 (leadS S s).sq k r
  show (leadA S++_).length<=2
  rw [List.length_append]
  omega⟩
theorem Aj2 {S:PS} (h:S.Ok) (l:List Act) (hl:l.length<=2):Good S (l,S):=⟨h,hl⟩
theorem Bk7 (s:Int):(0<=Ag3 s/\Ag3 s<=13/\Ag3 s≠2)/\(0<=Al2 s/\Al2 s<=13/\Al2 s≠2)/\(0<=Ah7 s/\Ah7 s<=13/\Ah7 s≠2)/\(0<=cEnd s/\cEnd s<=13/\cEnd s≠2):=by
 unfold Ag3 Al2 Ah7 cEnd
 split<;>simp
theorem Av3 {S:PS} (h:S.Ok) (hs:S.st=1\/S.st=2) (r:Int):Good S (escInterF S r):=by
 unfold escInterF
 split
 ·exact Ak4 h _ (Sq.put_ok h.sq r) 2 (by omega) (fun _=>by rw [(Sq.put_pr S.sq r).1,(Sq.put_pr S.sq r).2];exact h.esc hs)
 ·exact Bd7 h _ _ _ (by omega) (by omega)
theorem escape_good {S:PS} (h:S.Ok) (hs:S.st=1) (r:Int):Good S (escapeF S r):=by
 unfold escapeF
 repeat' split
 all_goals first|exact Ai5 h _ (by omega) (by omega)|exact Av3 h (.inl hs) r
theorem Bi0 {S:PS} (h:S.Ok) (r:Int):Good S (interF S r):=by
 obtain ⟨_,⟨b0,b1,b2⟩,⟨c0,c1,c2⟩,⟨d0,d1,d2⟩⟩:=Bk7 S.st
 unfold interF
 split
 ·exact Ak4 h _ (Sq.put_ok h.sq r) _ ⟨b0,b1⟩ (fun e=>absurd e b2)
 ·split
  ·exact Ai5 h _ ⟨c0,c1⟩ c2
  ·exact Bd7 h _ _ _ ⟨d0,d1⟩ d2
theorem Bi5 {S:PS} (h:S.Ok) (r:Int):Good S (paramF S r):=by
 obtain ⟨⟨b0,b1,b2⟩,_⟩:=Bk7 S.st
 unfold paramF
 split
 ·exact Ak4 h ⟨_,_,_,_,_,_⟩ ⟨Bw2 h.sq.num _,h.sq.cnt⟩ _ ⟨b0,b1⟩ (fun e=>absurd e b2)
 ·split
  ·exact Ak4 h ⟨_,_,_,_,_,_⟩ ⟨Ch7 h.sq.num,h.sq.cnt⟩ _ ⟨b0,b1⟩ (fun e=>absurd e b2)
  ·exact Bi0 h r
theorem entry_good {S:PS} (h:S.Ok) (r:Int):Good S (entryF S r):=by
 obtain ⟨⟨b0,b1,b2⟩,_⟩:=Bk7 S.st
 unfold entryF
 split
 ·exact Ak4 h ⟨r,S.sq.num,S.sq.a,S.sq.b,S.sq.cnt,S.sq.many⟩ ⟨h.sq.num,h.sq.cnt⟩ _ ⟨b0,b1⟩ (fun e=>absurd e b2)
 ·exact Bi5 h r
theorem Bz7 {S:PS} (h:S.Ok) (hs:S.st=12) (r:Int):Good S (oscF S r):=by
 unfold oscF
 refine ⟨?_,by simp⟩
 simp only
 split
 ·exact ⟨h.st,h.sq,by simp;omega,fun e=>absurd hs e,fun e=>by simp only at e;omega⟩
 ·exact h
theorem Av5 {S:PS} (h:S.Ok) (r:Int):Good S (execLeadF S r) :=
 ⟨Bu5 h S.sq h.sq 0 (by omega) (fun e=>by omega),by have:=Av9 S;show (leadA S++_).length<=2;rw [List.length_append,List.length_singleton];omega⟩
theorem step_good {S:PS} (h:S.Ok) (r:Int):Good S (stepF S r):=by
 unfold stepF
 split
 ·exact Aj2 h _ (by simp)
 split
 ·exact escape_good h (by assumption) r
 split
 ·exact Av3 h (by omega) r
 split
 ·exact entry_good h r
 split
 ·exact Bi5 h r
 split
 ·exact Bi0 h r
 split
 ·unfold csiIgnF
  split
  ·exact Aj2 h _ (by simp)
  ·exact Ai5 h 0 (by omega) (by omega)
 split
 ·exact Bz7 h (by assumption) r
 ·exact Aj2 h _ (by simp)
theorem feed_good {S:PS} (h:S.Ok) (r:Int):Good S (feedF S r):=by
 unfold feedF feedN
 generalize normF r=r
 split
 ·exact Av5 h r
 split
 ·exact Ai5 h _ (by omega) (by omega)
 split
 ·unfold controlF
  split
  ·exact Aj2 h _ (by simp)
  ·split
   ·exact Ai5 h _ (by omega) (by omega)
   ·exact Aj2 h _ (by simp)
 split
 ·exact step_good h r
 split
 ·exact Aj2 h _ (by simp)
 split
 ·unfold upperF
  repeat' split
  all_goals first|exact Ai5 h _ (by omega) (by omega)|exact Av5 h r
 ·unfold beyondF
  split
  ·exact Aj2 h _ (by simp)
  ·split
   ·exact Bz7 h (by assumption) r
   ·exact Aj2 h _ (by simp)
def runF (S:PS):List Int->PS
 |[]=>S
 |r::l=>runF (feedF S r).2 l
end Go.Proofs.YtbafmljidapmgaaGreatDoor.Prs
namespace Go.Proofs.YtbafmljidapmgaaGreatDoor.Hos
open Go Com
def R32 (x:Int):Prop:=0<=x/\x<=1114111
theorem R32.wf {x:Int} (h:R32 x):(Lit.int .i32 x).wf=true:=by
 obtain ⟨h1,h2⟩:=h
 exact WalkArith.wf_i32 (by omega)
structure ActW (A:Prs.Act):Prop where
 kind:0<=A.kind/\A.kind<=9
 r:R32 A.R
 fin:R32 A.final
 inter:∀ x∈A.inter,R32 x
 two:A.inter.length<=2
 par:∀ x∈A.params,0<=x/\x<=65535
 few:A.params.length<=32
structure PSW (S:Prs.PS):Prop where
 ok:S.Ok
 a:R32 S.sq.a
 b:R32 S.sq.b
theorem r0:R32 0:=⟨by omega,by omega⟩
theorem start_w:PSW Prs.start:=⟨Prs.start_ok,r0,r0⟩
def Gd (x:Prs.Stp):Prop:=(R32 x.2.sq.a/\R32 x.2.sq.b)/\∀ A∈x.1,ActW A
theorem osc_w (t:List Int):ActW (Prs.oscA t):=⟨by simp [Prs.oscA],r0,r0,by simp [Prs.oscA],by simp [Prs.oscA],by simp [Prs.oscA],by simp [Prs.oscA]⟩
theorem Cm8 {r:Int} (h:R32 r):ActW (Prs.execA r):=⟨by simp [Prs.execA],h,r0,by simp [Prs.execA],by simp [Prs.execA],by simp [Prs.execA],by simp [Prs.execA]⟩
theorem print_w {r:Int} (h:R32 r):ActW (Prs.printA r):=⟨by simp [Prs.printA],h,r0,by simp [Prs.printA],by simp [Prs.printA],by simp [Prs.printA],by simp [Prs.printA]⟩
theorem Bu4 (S:Prs.PS):∀ A∈Prs.leadA S,ActW A:=by
 unfold Prs.leadA
 split
 ·simpa using osc_w _
 ·simp
theorem Bf3 {S:Prs.PS} (ha:R32 S.sq.a) (hb:R32 S.sq.b) (s:Int):R32 (Prs.leadS S s).sq.a/\R32 (Prs.leadS S s).sq.b:=by
 unfold Prs.leadS
 simp only
 split
 ·exact ⟨r0,r0⟩
 ·exact ⟨ha,hb⟩
theorem Cr4 {q:Prs.Sq} (ha:R32 q.a) (hb:R32 q.b) {r:Int} (hr:R32 r):R32 (q.put r).a/\R32 (q.put r).b:=by
 unfold Prs.Sq.put
 split
 ·exact ⟨ha,hb⟩
 ·split
  ·exact ⟨ha,hr⟩
  ·exact ⟨hr,hb⟩
theorem acts_w {q:Prs.Sq} (hq:q.Ok) (ha:R32 q.a) (hb:R32 q.b) {k r:Int} (hk:0<=k/\k<=9) (hr:R32 r):∀ A∈q.acts k r,ActW A:=by
 unfold Prs.Sq.acts
 split
 ·simp
 ·intro A hA
  simp only [List.mem_singleton] at hA
  subst hA
  refine ⟨hk,r0,hr,fun x hx=>?_,?_,fun x hx=>⟨hq.num.lo x hx,hq.num.hi x hx⟩,hq.num.len⟩
  ·have:=List.mem_of_mem_take hx
   simp only [List.mem_cons,List.not_mem_nil,or_false] at this
   rcases this with rfl|rfl
   ·exact ha
   ·exact hb
  ·show ([q.a,q.b].take q.cnt).length<=2
   rw [List.length_take]
   exact Nat.min_le_right _ _
section
variable {S:Prs.PS} {r:Int}
theorem As4 (ha:R32 S.sq.a) (hb:R32 S.sq.b) (s:Int):Gd (Prs.leadF S s):=⟨Bf3 ha hb s,Bu4 S⟩
theorem Co7 (ha:R32 S.sq.a) (hb:R32 S.sq.b) (hr:R32 r) (s:Int):Gd (Prs.leadF (S.take r) s):=As4 (Cr4 ha hb hr).1 (Cr4 ha hb hr).2 s
theorem Ck2 (ha:R32 S.sq.a) (hb:R32 S.sq.b) {l:List Prs.Act} (hl:∀ A∈l,ActW A):Gd (l,S):=⟨⟨ha,hb⟩,hl⟩
theorem Br5 (ha:R32 S.sq.a) (hb:R32 S.sq.b):Gd ([],S):=Ck2 ha hb (by simp)
theorem Bh4 (ha:R32 S.sq.a) (hb:R32 S.sq.b) (hr:R32 r):Gd (Prs.execLeadF S r):=⟨Bf3 ha hb 0,fun A hA=>by
 rcases List.mem_append.1 hA with h|h
 ·exact Bu4 S A h
 ·simp only [List.mem_singleton] at h
  subst h
  exact Cm8 hr⟩
theorem leadS_ok (h:S.Ok) {s:Int}:((Prs.leadS S s).sq).Ok:=by
 unfold Prs.leadS
 simp only
 split
 ·exact Prs.emptySq_ok
 ·exact h.sq
theorem Bw6 (h:S.Ok) (ha:R32 S.sq.a) (hb:R32 S.sq.b) (hr:R32 r) {k:Int} (hk:0<=k/\k<=9) (s:Int):Gd (Prs.finishF S k r s):=⟨Bf3 ha hb s,fun A hA=>by
 rcases List.mem_append.1 hA with h1|h1
 ·exact Bu4 S A h1
 ·exact acts_w (leadS_ok h) (Bf3 ha hb s).1 (Bf3 ha hb s).2 hk hr A h1⟩
theorem Bh3 (h:S.Ok) (ha:R32 S.sq.a) (hb:R32 S.sq.b) (hr:R32 r):Gd (Prs.escInterF S r):=by
 unfold Prs.escInterF
 split
 ·exact Co7 ha hb hr 2
 ·exact Bw6 h ha hb hr (by omega) 0
theorem cAct_in (s:Int):0<=Prs.cAct s/\Prs.cAct s<=9:=by
 unfold Prs.cAct
 split<;>omega
theorem Cg2 (h:S.Ok) (ha:R32 S.sq.a) (hb:R32 S.sq.b) (hr:R32 r):Gd (Prs.interF S r):=by
 unfold Prs.interF
 split
 ·exact Co7 ha hb hr _
 ·split
  ·exact As4 ha hb _
  ·exact Bw6 h ha hb hr (cAct_in _) _
theorem Ci6 (h:S.Ok) (ha:R32 S.sq.a) (hb:R32 S.sq.b) (hr:R32 r):Gd (Prs.paramF S r):=by
 unfold Prs.paramF
 split
 ·exact As4 (S:=Prs.PS.num S _) (by exact ha) (by exact hb) _
 ·split
  ·exact As4 (S:=Prs.PS.num S _) (by exact ha) (by exact hb) _
  ·exact Cg2 h ha hb hr
theorem entry_g (h:S.Ok) (ha:R32 S.sq.a) (hb:R32 S.sq.b) (hr:R32 r):Gd (Prs.entryF S r):=by
 unfold Prs.entryF
 split
 ·exact As4 (S:=Prs.PS.priv S _) (by exact ha) (by exact hb) _
 ·exact Ci6 h ha hb hr
theorem Cr3 (ha:R32 S.sq.a) (hb:R32 S.sq.b):Gd (Prs.oscF S r):=by
 refine ⟨?_,by simp [Prs.oscF]⟩
 unfold Prs.oscF
 simp only
 split
 ·exact ⟨ha,hb⟩
 ·exact ⟨ha,hb⟩
theorem Bx3 (ha:R32 S.sq.a) (hb:R32 S.sq.b) (hr:R32 r):Gd (Prs.groundF S r):=Ck2 ha hb (by simpa using print_w hr)
theorem escape_g (h:S.Ok) (ha:R32 S.sq.a) (hb:R32 S.sq.b) (hr:R32 r):Gd (Prs.escapeF S r):=by
 unfold Prs.escapeF
 repeat' split
 all_goals first|exact As4 ha hb _|exact Bh3 h ha hb hr
theorem step_g (h:S.Ok) (ha:R32 S.sq.a) (hb:R32 S.sq.b) (hr:R32 r):Gd (Prs.stepF S r):=by
 unfold Prs.stepF
 split
 ·exact Bx3 ha hb hr
 split
 ·exact escape_g h ha hb hr
 split
 ·exact Bh3 h ha hb hr
 split
 ·exact entry_g h ha hb hr
 split
 ·exact Ci6 h ha hb hr
 split
 ·exact Cg2 h ha hb hr
 split
 ·unfold Prs.csiIgnF
  split
  ·exact Br5 ha hb
  ·exact As4 ha hb _
 split
 ·exact Cr3 ha hb
 ·exact Br5 ha hb
theorem feedN_g (h:S.Ok) (ha:R32 S.sq.a) (hb:R32 S.sq.b) (hr:R32 r):Gd (Prs.feedN S r):=by
 unfold Prs.feedN
 split
 ·exact Bh4 ha hb hr
 split
 ·exact As4 ha hb _
 split
 ·unfold Prs.controlF
  split
  ·exact Ck2 ha hb (by simpa using Cm8 hr)
  ·split
   ·exact As4 ha hb _
   ·exact Br5 ha hb
 split
 ·exact step_g h ha hb hr
 split
 ·exact Br5 ha hb
 split
 ·unfold Prs.upperF
  repeat' split
  all_goals first|exact As4 ha hb _|exact Bh4 ha hb hr
 ·unfold Prs.beyondF
  split
  ·exact Bx3 ha hb hr
  ·split
   ·exact Cr3 ha hb
   ·exact Br5 ha hb
theorem norm_r (r:Int):R32 (Prs.normF r):=by
 unfold Prs.normF R32
 split<;>omega
theorem PSW.feed (h:PSW S) (r:Int):PSW (Prs.feedF S r).2/\(∀ A∈(Prs.feedF S r).1,ActW A)/\(Prs.feedF S r).1.length<=2:=by
 obtain ⟨⟨g1,g2⟩,g3⟩:=feedN_g h.ok h.a h.b (norm_r r)
 have g:=Prs.feed_good h.ok r
 exact ⟨⟨g.ok,g1,g2⟩,g3,g.few⟩
end
end Go.Proofs.YtbafmljidapmgaaGreatDoor.Hos
namespace Go.Proofs.YtbafmljidapmgaaGreatDoor.Utf
def Ak8 (a:Int):Nat:=if a<=127 then 1 else if 194<=a/\a<=223 then 2 else if 224<=a/\a<=239 then 3 else if 240<=a/\a<=244 then 4 else 0
def loF (a:Int):Int:=if a=224 then 160 else if a=240 then 144 else 128
def hiF (a:Int):Int:=if a=237 then 159 else if a=244 then 143 else 191
def leadF (s:Nat):Int:=if s=2 then 192 else if s=3 then 224 else if s=4 then 240 else 0
structure Dec where
 o:Int
 l:Int
 b:Int
 lo:Int
 hi:Int
deriving DecidableEq
def zero:Dec:=⟨0,0,0,0,0⟩
def Al0 (D:Dec) (a:Int):Dec×List Int :=
 if a<128 then (D,[a]) else if Ak8 a=0 then (D,[65533]) else (⟨1,Ak8 a - 1,a - leadF (Ak8 a),loF a,hiF a⟩,[])
def Bh1 (D:Dec) (x:Int):Dec×List Int :=
 if 0<D.l - 1 then (⟨D.o+1,D.l - 1,D.b*64+(x - 128),128,191⟩,[]) else (zero,[D.b*64+(x - 128)])
def endF (D:Dec):Dec×List Int:=if D.o=0 then (D,[]) else (zero,[65533])
def takeF (D:Dec) (x:Int):Dec×List Int :=
 if 0<D.o/\D.lo<=x/\x<=D.hi then Bh1 D x else ((Al0 (endF D).1 x).1,(endF D).2++(Al0 (endF D).1 x).2)
def runF:Dec->List Int->Dec×List Int
 |D,[]=>(D,[])
 |D,x::t=>((runF (takeF D x).1 t).1,(takeF D x).2++(runF (takeF D x).1 t).2)
def IsByte (x:Int):Prop:=0<=x/\x<=255
def Bytes (l:List Int):Prop:=∀ x∈l,IsByte x
structure Dec.Ok (D:Dec):Prop where
 o0:0<=D.o
 o3:D.o<=3
 none_:D.o=0->D=zero
 l1:0<D.o->1<=D.l
 l3:D.o+D.l<=4
 b0:0<=D.b
 b1:D.o<=1->D.b<32
 b2:D.o<=2->D.b<2048
 b3:D.b<131072
 lo:0<D.o->128<=D.lo
 hi:0<D.o->D.hi<=191
 u8:0<=D.lo/\D.lo<=191/\0<=D.hi/\D.hi<=191
 l0:0<=D.l
theorem zero_ok:zero.Ok:=by constructor<;>simp [zero]
theorem sizeF_le (a:Int):Ak8 a<=4:=by unfold Ak8;split<;>(try split)<;>(try split)<;>(try split)<;>omega
theorem At7 (a:Int):(a<=127/\Ak8 a=1)\/(194<=a/\a<=223/\Ak8 a=2)\/(224<=a/\a<=239/\Ak8 a=3)\/(240<=a/\a<=244/\Ak8 a=4)\/(128<=a/\(a<194\/244<a)/\Ak8 a=0):=by
 unfold Ak8
 by_cases h1:a<=127
 ·exact .inl ⟨h1,if_pos h1⟩
 ·rw [if_neg h1]
  by_cases h2:194<=a/\a<=223
  ·exact .inr (.inl ⟨h2.1,h2.2,if_pos h2⟩)
  ·rw [if_neg h2]
   by_cases h3:224<=a/\a<=239
   ·exact .inr (.inr (.inl ⟨h3.1,h3.2,if_pos h3⟩))
   ·rw [if_neg h3]
    by_cases h4:240<=a/\a<=244
    ·exact .inr (.inr (.inr (.inl ⟨h4.1,h4.2,if_pos h4⟩)))
    ·rw [if_neg h4]
     exact .inr (.inr (.inr (.inr ⟨by omega,by omega,rfl⟩)))
theorem loF_bd (a:Int):128<=loF a/\loF a<=160:=by unfold loF;split<;>(try split)<;>omega
theorem hiF_bd (a:Int):143<=hiF a/\hiF a<=191:=by unfold hiF;split<;>(try split)<;>omega
theorem leadF_bd (a:Int) (h:2<=Ak8 a):0<=a - leadF (Ak8 a)/\a - leadF (Ak8 a)<32:=by
 rcases At7 a with ⟨_,e⟩|⟨h1,h2,e⟩|⟨h1,h2,e⟩|⟨h1,h2,e⟩|⟨h1,h2,e⟩<;>rw [e] at h |-<;>simp [leadF]<;>omega
theorem Ce8 {D:Dec} (h:D.Ok):(endF D).1=zero:=by
 unfold endF
 by_cases e:D.o=0
 ·rw [if_pos e];exact h.none_ e
 ·rw [if_neg e]
theorem begin_ok {a:Int} (_ha:IsByte a):(Al0 zero a).1.Ok:=by
 unfold Al0
 by_cases h1:a<128
 ·rw [if_pos h1];exact zero_ok
 ·rw [if_neg h1]
  by_cases h2:Ak8 a=0
  ·rw [if_pos h2];exact zero_ok
  ·rw [if_neg h2]
   have hs:2<=Ak8 a:=by rcases At7 a with ⟨_,e⟩|⟨_,_,e⟩|⟨_,_,e⟩|⟨_,_,e⟩|⟨_,_,e⟩<;>omega
   have h4:=sizeF_le a
   have hl:=loF_bd a
   have hh:=hiF_bd a
   have hd:=leadF_bd a hs
   constructor<;>simp<;>omega
theorem goOn_ok {D:Dec} {x:Int} (h:D.Ok) (ho:0<D.o) (hlo:D.lo<=x) (hhi:x<=D.hi):(Bh1 D x).1.Ok:=by
 have h1:=h.lo ho
 have h2:=h.hi ho
 have h3:=h.l3
 have hb:=h.b0
 have hb1:=h.b1
 have hb2:=h.b2
 unfold Bh1
 by_cases hl:0<D.l - 1
 ·rw [if_pos hl]
  constructor<;>simp<;>omega
 ·rw [if_neg hl];exact zero_ok
theorem take_ok {D:Dec} {x:Int} (h:D.Ok) (hx:IsByte x):(takeF D x).1.Ok:=by
 unfold takeF
 by_cases c:0<D.o/\D.lo<=x/\x<=D.hi
 ·rw [if_pos c];exact goOn_ok h c.1 c.2.1 c.2.2
 ·rw [if_neg c]
  show (Al0 (endF D).1 x).1.Ok
  rw [Ce8 h];exact begin_ok hx
theorem Ce7 (D:Dec):(endF D).2.length<=1:=by unfold endF;split<;>simp
theorem Bd0 (D:Dec) (a:Int):(Al0 D a).2.length<=1:=by unfold Al0;split<;>(try split)<;>simp
theorem take_len (D:Dec) (x:Int):(takeF D x).2.length<=2:=by
 unfold takeF
 split
 ·unfold Bh1;split<;>simp
 ·have h1:=Ce7 D
  have h2:=Bd0 (endF D).1 x
  simp;omega
def OkAt (l:List Int) (i:Nat):Prop :=
 i=0\/(i=1/\loF (l.getD 0 0)<=l.getD 1 0/\l.getD 1 0<=hiF (l.getD 0 0))\/(2<=i/\128<=l.getD i 0/\l.getD i 0<=191)
instance (l:List Int) (i:Nat):Decidable (OkAt l i):=by unfold OkAt;infer_instance
end Go.Proofs.YtbafmljidapmgaaGreatDoor.Utf
namespace Go.Proofs.YtbafmljidapmgaaGreatDoor.Eqt
open Go RowKit
section
variable {P:Program} {ops:Array Oper} {md:Region.Mode} {C:World->Prop}
def Bq1 (P:Program) (md:Region.Mode) (ops:Array Oper) (C:World->Prop) (n:Nat) (L:Array Bool->Act->Prop):Nat->Array Bool->Act->Prop
 |0,listed,a=>L listed a
 |f+1,listed,a=>Region.ready md ops listed≠[]/\∀ i∈Region.ready md ops listed,i<n/\qOp P ops C i (Bq1 P md ops C n L f (listed.setIfInBounds i true)) a
theorem Az7 {n g:Nat} {L:Array Bool->Act->Prop} {Q':Exit->Act->World->Prop} (hL:∀ listed a w,C w->L listed a->wpAny P md ops Q' g listed a w) :
  ∀ (f:Nat) (listed:Array Bool) (a:Act) (w:World),C w->Bq1 P md ops C n L f listed a->wpAny P md ops Q' (f+g) listed a w:=by
 intro f
 induction f with
 |zero=>intro listed a w hw h;rw [Nat.zero_add];exact hL _ _ _ hw h
 |succ f ih =>
  intro listed a w hw h
  rw [Nat.add_right_comm]
  exact ⟨fun h0=>absurd h0 h.1,fun i hi=>wpOp_of_qOp hw (fun a' w' hw' h'=>ih _ a' w' hw' h') (h.2 i hi).2⟩
theorem headQ_first {n i:Nat} {oi:Oper} {v:Value} {L:Array Bool->Act->Prop} (hi:ops[i]?=some oi) (hsel:∀ (j:Nat) (o:Oper) cs b,ops[j]?=some o->o.op≠.select cs b)
  (hs:Region.sinkB md ops n=true) (hc:Region.chainB md ops n=true) (hin:i<n) (hdone:∀ listed a,L listed a->∀ j∈Region.ready md ops listed,n<=j) :
  ∀ (f:Nat) (listed:Array Bool) (a:Act),HeadInv md ops n listed ->
   (∀ j oj,ops[j]?=some oj->j≠i->listed.getD j true=false->(∀ e∈oj.after,Region.binds md e=true->e.on≠i)->oi.apart ops oj=true) ->
   i∈Region.ready md ops listed->YieldsIn P ops C oi v a->Bq1 P md ops C n L f (listed.setIfInBounds i true) (a.put oi.dst v)->Bq1 P md ops C n L (f+1) listed a:=by
 intro f
 induction f with
 |zero =>
  intro listed a inv hfree hr hy H
  have hlt:∀ j∈Region.ready md ops listed,j<n:=fun j hj=>Nat.lt_of_not_le fun h=>absurd hj (tail_waits hs hc (Nat.lt_of_le_of_lt h (by obtain ⟨_,o,ho,_⟩:=mem_ready.1 hj;exact (Array.getElem?_eq_some_iff.1 ho).1)) inv _ i rfl hin (mem_ready.1 hr).1 j h)
  refine ⟨fun h=>(by rw [h] at hr;cases hr),fun j hj=>⟨hlt j hj,?_⟩⟩
  by_cases hji:j=i
  ·subst hji;exact hy.qOp hi H
  ·exact absurd (hdone _ _ H j (ready_mono hj hji)) (Nat.not_le_of_lt (hlt j hj))
 |succ f ih =>
  intro listed a inv hfree hr hy H
  have hun:=(mem_ready.1 hr).1
  have hlt:∀ j∈Region.ready md ops listed,j<n:=fun j hj=>Nat.lt_of_not_le fun h=>absurd hj (tail_waits hs hc (Nat.lt_of_le_of_lt h (by obtain ⟨_,o,ho,_⟩:=mem_ready.1 hj;exact (Array.getElem?_eq_some_iff.1 ho).1)) inv _ i rfl hin hun j h)
  refine ⟨fun h=>(by rw [h] at hr;cases hr),fun j hj=>⟨hlt j hj,?_⟩⟩
  by_cases hji:j=i
  ·subst hji;exact hy.qOp hi H
  ·have h1:=(H.2 j (ready_mono hj hji)).2
   obtain ⟨hjun,oj,hoj,hall⟩:=mem_ready.1 hj
   have hnot:∀ e∈oj.after,Region.binds md e=true->e.on≠i:=fun e he hb heq=>by
    have h2:=hall e he hb
    rw [heq,getD_both hun] at h2
    cases h2
   have h2:=qOp_put hoj (hfree j oj hoj hji hjun hnot) (fun cs b=>hsel i oi cs b hi) (fun cs b=>hsel j oj cs b hoj) hy h1
   have hfree':∀ k ok,ops[k]?=some ok->k≠i->(listed.setIfInBounds j true).getD k true=false->(∀ e∈ok.after,Region.binds md e=true->e.on≠i)->oi.apart ops ok=true:=fun k ok hk hki hn hno=>by
    refine hfree k ok hk hki ?_ hno
    by_cases hjk:j=k
    ·exact hjk▸hjun
    ·rwa [getD_set_ne true hjk] at hn
   refine qOp_mono (fun a' h3=>ih (listed.setIfInBounds j true) a' (inv.set hj (hlt j hj)) hfree' (ready_mono hr (Ne.symm hji)) h3.1 ?_) h2
   rw [Array.setIfInBounds_comm _ _ hji]
   exact h3.2
theorem headQ_lex {n g:Nat} {Lq:Act->Prop} (hsel:Region.noSelect ops=true) (hs:Region.sinkB md ops n=true) (hc:Region.chainB md ops n=true) :
  ∀ (l:List Oper) (k:Nat) (listed:Array Bool) (a:Act),(∀ j,j<l.length->l[j]?=ops[k+j]?)->k+l.length=n->HeadInv md ops n listed->Region.lexHead md ops g l.length k listed=true->wpQuiet P ops C Lq l a ->
   Bq1 P md ops C n (fun listed' a'=>Region.seqB md ops g n listed'=true/\Lq a') l.length listed a:=by
 intro l
 induction l with
 |nil =>
  intro k listed a hl hk inv hB h
  obtain rfl:k=n:=by simpa using hk
  exact ⟨by simpa [Region.lexHead] using hB,h⟩
 |cons o l ih =>
  intro k listed a hl hk inv hB h
  have h0:ops[k]?=some o:=by simpa using (hl 0 (by simp)).symm
  simp only [List.length_cons,Region.lexHead,Bool.and_eq_true] at hB
  obtain ⟨⟨hr,hf⟩,hB'⟩:=hB
  have hkn:k<n:=by simp only [List.length_cons] at hk;omega
  have hr':k∈Region.ready md ops listed:=by simpa using hr
  obtain ⟨v,hy,hK⟩:=yieldsIn_of_qOp (P:=P) (C:=C) h0 (K:=wpQuiet P ops C Lq l) (by unfold qOp;simp only [h0];exact h)
  exact headQ_first h0 (Region.noSelect_spec hsel) hs hc hkn (fun listed' a' hL=>seqB_ready hL.1) l.length listed a inv (Region.free_spec h0 hf) hr' hy
   (ih (k+1) _ _ (fun j hj=>by have:=hl (j+1) (by simp;omega);simpa [Nat.add_assoc,Nat.add_comm 1 j] using this) (by simp only [List.length_cons] at hk;omega) (inv.set hr' hkn) hB' hK)
theorem Bg0 {id:Nat} {Q:Exit->Act->World->Prop} {a:Act} {w:World} {l:List Oper} (n:Nat) (hB:Region.lexTailB .any l.toArray n=true) (hm:P.follows .mixedOrders=true) (hC:C w.drew)
  (h:wpQuiet P l.toArray C (fun a'=>∀ w',C w'->wpList P l.toArray Q (l.drop n) a' w') (l.take n) a):(Code.region id l.toArray true).wp P Q a w:=by
 simp only [Region.lexTailB,Bool.and_eq_true,decide_eq_true_eq] at hB
 obtain ⟨⟨⟨⟨hsel,hn⟩,hs⟩,hc⟩,hlex⟩:=hB
 have hn':n<l.length:=by simpa using hn
 have htl:(l.take n).length=n:=by simp;omega
 have hdl:(l.drop n).length=l.toArray.size - n:=by simp
 have inv0:HeadInv .any l.toArray n (Array.replicate l.toArray.size false) :=
  ⟨by simp,fun j oj _ hl=>(by rw [getD_replicate_false] at hl;cases hl),fun t _ ht=>getD_in (by simpa using ht) (getD_replicate_false _ _)⟩
 have H:=headQ_lex (md:=.any) (g:=l.toArray.size - n) hsel hs hc (l.take n) 0 _ a (fun j hj=>by
  have hj':j<n:=by rw [htl] at hj;exact hj
  simp [hj']) (by simpa using htl) inv0 (by rw [htl];exact hlex) h
 refine wp_region_any hm ?_
 have:=Az7 (Q':=Q) (g:=l.toArray.size - n) (fun listed a' w' hw' hL=>by
  have h2:=wpAny_of_seq (md:=.any) (Q':=Q) (l.drop n) n listed a' w' (fun j=>by simp [List.getElem?_drop]) (by rw [hdl];exact hL.1) (hL.2 w' hw')
  rwa [hdl] at h2) _ _ _ _ hC H
 rw [htl,show n+(l.toArray.size - n)=l.toArray.size by omega] at this
 exact this
def Ext (w:World):Type:={ w':World // Below w.heap.size w w' }
instance (w:World):Nonempty (Ext w):=⟨⟨w,Below.refl _ _⟩⟩
def Ext.w {w:World} (k:Ext w):World:=k.1
theorem Ext.below {w:World} (k:Ext w):Below w.heap.size w k.w:=k.2
theorem region_ext_tail {id:Nat} {Q:Exit->Act->World->Prop} {a:Act} {w:World} {l:List Oper} (n:Nat) (hB:Region.lexTailB .any l.toArray n=true) (hm:P.follows .mixedOrders=true)
  (h:wpQuiet P l.toArray (fun w'=>∃ k:Ext w,w'=k.w) (fun a'=>∀ w',(∃ k:Ext w,w'=k.w)->wpList P l.toArray Q (l.drop n) a' w') (l.take n) a):(Code.region id l.toArray true).wp P Q a w :=
 Bg0 n hB hm ⟨⟨w.drewN 1,below_drewN (Below.refl _ _) 1⟩,rfl⟩ h
theorem region_ext {id:Nat} {Q:Exit->Act->World->Prop} {a:Act} {w:World} {l:List Oper} (hB:Region.lexB .any l.toArray=true) (hm:P.follows .mixedOrders=true)
  (h:wpQuiet P l.toArray (fun w'=>∃ k:Ext w,w'=k.w) (fun a'=>∀ w',(∃ k:Ext w,w'=k.w)->Q .normal a' w') l a):(Code.region id l.toArray true).wp P Q a w :=
 wp_region_quiet (C:=fun w'=>∃ k:Ext w,w'=k.w) hm hB ⟨⟨w.drewN 1,below_drewN (Below.refl _ _) 1⟩,rfl⟩ (by simpa using h)
theorem q_ext {f:FuncId} {args:Array Value} {w:World} {k:Ext w} {v:Value} (h:Calls P f args k.w fun e w'=>e=.returned v/\Below k.w.heap.size k.w w'):Calls P f args k.w fun e w''=>e=.returned v/\∃ k':Ext w,w''=k'.w :=
 h.mono fun _ w' ⟨he,hb⟩=>⟨he,⟨w',k.below.trans (hb.mono k.below.size)⟩,rfl⟩
theorem q_ext_same {f:FuncId} {args:Array Value} {w:World} {k:Ext w} {v:Value} (h:Calls P f args k.w fun e w'=>e=.returned v/\k.w=w'):Calls P f args k.w fun e w''=>e=.returned v/\∃ k':Ext w,w''=k'.w :=
 h.mono fun _ _ ⟨he,hb⟩=>⟨he,k,hb.symm⟩
theorem q_ext_asks {f:FuncId} {args:Array Value} {w:World} {k:Ext w} {v:Value} (h:Calls P f args k.w fun e w'=>e=.returned v/\∃ q,w'=k.w.drewN q):Calls P f args k.w fun e w''=>e=.returned v/\∃ k':Ext w,w''=k'.w :=
 h.mono fun _ w' ⟨he,q,hb⟩=>⟨he,⟨w',hb▸below_drewN k.below q⟩,rfl⟩
theorem region_quiet_tail {id:Nat} {Q:Exit->Act->World->Prop} {a:Act} {w:World} {l:List Oper} (n:Nat) (hB:Region.lexTailB .any l.toArray n=true) (hm:P.follows .mixedOrders=true)
  (h:wpQuiet P l.toArray (fun w'=>∃ k,w'=w.drewN k) (fun a'=>∀ w',(∃ k,w'=w.drewN k)->wpList P l.toArray Q (l.drop n) a' w') (l.take n) a):(Code.region id l.toArray true).wp P Q a w :=
 Bg0 n hB hm ⟨1,rfl⟩ h
end
end Go.Proofs.YtbafmljidapmgaaGreatDoor.Eqt
namespace Go.Proofs.YtbafmljidapmgaaGreatDoor.Emu
open Go RowKit Com Rw Lns Scn
section
variable {P:Program}
theorem As1 {ops:Array Oper} {rest:List Oper} {o:Oper} {a:Go.Act} {w:World} {Q:Exit->Go.Act->World->Prop} (hgd:o.guard=none) (x y:Operand) (ts:Array TypeId)
  (ho:o.op=.call { callee:=.builtin .max,args:=#[x,y],argTypes:=ts }) (m n z:Int) (hx:a.eval x=.int .i64 m) (hy:a.eval y=.int .i64 n) (hz:max m n=z) (h:wpList P ops Q rest (a.put o.dst (.int .i64 z)) w):wpList P ops Q (o::rest) a w :=
 wpList_plain hgd fun _ hK=>by
  have hrun:(Builtin.max_ ts o.type #[.int .i64 m,.int .i64 n]).run P w=.ok (.int .i64 z) w:=by
   have e:(if n > m then n else m)=z:=by rw [<- hz];split<;>omega
   simp [Builtin.max_,Builtin.max2,e]
  unfold Oper.wp execOp
  simp only [ho,resolve,invoke,builtin,Sem.run_bind,Sem.run_pure,Result.andThen_ok,List.map_toArray,List.map_cons,List.map_nil,hx,hy,hrun]
  exact hK _ _ h
theorem As2 {ops:Array Oper} {rest:List Oper} {o:Oper} {a:Go.Act} {w:World} {Q:Exit->Go.Act->World->Prop} (hgd:o.guard=none) (x y:Operand) (ts:Array TypeId)
  (ho:o.op=.call { callee:=.builtin .min,args:=#[x,y],argTypes:=ts }) (m n z:Int) (hx:a.eval x=.int .i64 m) (hy:a.eval y=.int .i64 n) (hz:min m n=z) (h:wpList P ops Q rest (a.put o.dst (.int .i64 z)) w):wpList P ops Q (o::rest) a w :=
 wpList_plain hgd fun _ hK=>by
  have hrun:(Builtin.min_ ts o.type #[.int .i64 m,.int .i64 n]).run P w=.ok (.int .i64 z) w:=by
   have e:(if n<m then n else m)=z:=by rw [<- hz];split<;>omega
   simp [Builtin.min_,Builtin.min2,e]
  unfold Oper.wp execOp
  simp only [ho,resolve,invoke,builtin,Sem.run_bind,Sem.run_pure,Result.andThen_ok,List.map_toArray,List.map_cons,List.map_nil,hx,hy,hrun]
  exact hK _ _ h
end
def Asks (v:Value) (w:World) (e:Ending) (w':World):Prop:=e=.returned v/\∃ q,w'=w.drewN q
def Kept (Z:Zn) (w:World) (k:Nat):Prop:=k<w.heap.size/\(¬ Z k\/∀ t∈TT,¬ Typ w k t)
def NA (Z:Zn) (w:World) (v:Value) (l:List Int):Prop:=∃ ao cp,v=.slice ao l.length cp/\l.length<=cp/\cp<=maxLen/\Fits .i64 l/\NumsP w (Kept Z w) .i64 ao l
section
variable {Z:Zn} {w w':World} {t:Nat} {T:Ter} {P:Pt} {v:Value} {l:List Int}
theorem Kept.fr {k:Nat} (h:Kept Z w k) (hf:Scn.Fr Z TT w w'):Kept Z w' k/\w'.heap[k]?=w.heap[k]?:=by
 have e:=hf.block k h.1 h.2
 refine ⟨⟨Nat.lt_of_lt_of_le h.1 hf.size,h.2.imp id fun hn t ht hT=>hn t ht ?_⟩,e⟩
 obtain ⟨cs,fz,hT⟩:=hT
 exact ⟨cs,fz,e▸hT⟩
theorem NA.fr (h:NA Z w v l) (hf:Scn.Fr Z TT w w'):NA Z w' v l:=by
 obtain ⟨ao,cp,h1,h2,h3,h4,h5⟩:=h
 refine ⟨ao,cp,h1,h2,h3,h4,fun i x hx=>?_⟩
 obtain ⟨ad,e,hk,hc⟩:=h5 i x hx
 exact ⟨ad,e,(hk.fr hf).1,(World.cell?_of_block (w:=w) (by rw [Ad3];exact (hk.fr hf).2)).trans hc⟩
theorem NA.below (h:NA Z w v l) (hb:Below w.heap.size w w'):NA Z w' v l:=h.fr (Scn.Fr.of_below hb)
theorem Bo3 (h:NA Z w v l) (i:Nat):Calls Tryz.prog 380 #[v,.int .i64 i] w fun e w'=>e=.returned (.int .i64 (atN l i))/\w=w':=by
 obtain ⟨ao,cp,rfl,h2,h3,h4,h5⟩:=h
 by_cases hlt:i<l.length
 ·obtain ⟨ad,rfl,hk,hc⟩:=h5 i _ (List.getElem?_eq_getElem hlt)
  have he:atN l i=Al4 l[i]:=by unfold atN;rw [List.getElem?_eq_getElem hlt]
  rw [he]
  clear h4 h5 hk he
  generalize l[i]=x at hc |-
  have hI:(i:Int)<(l.length:Int):=by omega
  have hN:¬ (l.length:Int)<=(i:Int):=by omega
  have hD:decide ((l.length:Int)<=(i:Int))=false:=decide_eq_false hN
  generalize l.length=n at h2 hI hN hD hlt
  obtain ⟨m1,hm1⟩:∃ m1,min x 65535=m1:=⟨_,rfl⟩
  have hm2:max 0 m1=Al4 x:=by rw [<- hm1];rfl
  replace hm1:=J0 hm1
  replace hm2:=J0 hm2
  generalize Al4 x=y at hm2 |-
  go_enter Tryz.func380,Tryz.ntmps380
  go_wp2_with (first
   |(with_reducible show wpList _ _ _ (⟨some 13,.call _,_,_,_,_⟩::_) _ _;go_must (refine As2 rfl (.tmp 12) _ _ rfl x 65535 m1 rfl rfl hm1.out ?_))
   |(with_reducible show wpList _ _ _ (⟨some 14,.call _,_,_,_,_⟩::_) _ _;go_must (refine As1 rfl _ (.tmp 13) _ rfl 0 m1 y rfl rfl hm2.out ?_)))
  go_ret
  exact ⟨rfl,rfl⟩
 ·have he:atN l i=0:=by unfold atN;rw [List.getElem?_eq_none (by omega)]
  rw [he]
  have hD:decide ((l.length:Int)<=(i:Int))=true:=decide_eq_true (by omega)
  have hI:(l.length:Int)<=(i:Int):=by omega
  generalize l.length=n at h2 hD hI
  clear h4 h5 he hlt
  go_enter Tryz.func380,Tryz.ntmps380
  go_wp2
  go_ret
  exact ⟨rfl,rfl⟩
theorem Ae8 (h:NA Z w v l) (i:Nat):Calls Tryz.prog 376 #[v,.int .i64 i] w fun e w'=>e=.returned (.int .i64 (Aa2 l i))/\w=w':=by
 have ha:=J0 (Bo3 h i)
 have hm:Hid (max 1 (atN l i)=Aa2 l i):=J0 rfl
 generalize atN l i=x at ha hm
 generalize Aa2 l i=y at hm |-
 clear h
 go_enter Tryz.func376,Tryz.ntmps376
 go_wp2_with (first
  |(go_at_call 380;(with_reducible refine ha.out.mono ?_);rintro e w1 ⟨rfl,rfl⟩)
  |(with_reducible show wpList _ _ _ (⟨some 8,.call _,_,_,_,_⟩::_) _ _;go_must (refine As1 rfl _ (.tmp 7) _ rfl 1 x y rfl rfl hm.out ?_)))
 go_ret
 exact ⟨rfl,rfl⟩
theorem clamp_in (v:Int):0<=Al4 v/\Al4 v<=65535:=by unfold Al4;omega
theorem Bo4 (l:List Int) (i:Nat):0<=atN l i/\atN l i<=65535:=by
 unfold atN
 split
 ·exact clamp_in _
 ·omega
theorem Ac4 (l:List Int) (i:Nat):1<=Aa2 l i/\Aa2 l i<=65535:=by
 have:=Bo4 l i
 unfold Aa2
 omega
theorem Ah8 (i:Int) (n:Nat) (h1:1<=n) (h5:n<=512) (w:World):Calls Tryz.prog 231 #[.int .i64 i,.int .i64 n] w fun e w'=>e=.returned (.int .i64 (Az1 i n))/\w=w':=by
 have hw:IntKind.i64.wrap ((n:Int) - 1)=(n:Int) - 1:=IntWalk.i64_in _ (by omega)
 obtain ⟨m1,hm1⟩:∃ m1,min i ((n:Int) - 1)=m1:=⟨_,rfl⟩
 obtain ⟨y,hy⟩:∃ y,y=Az1 i n:=⟨_,rfl⟩
 have hm2:max 0 m1=(y:Int):=by rw [hy,<- hm1];unfold Az1;omega
 rw [<- hy]
 replace hm1:=J0 hm1
 replace hm2:=J0 hm2
 replace hy:=J0 hy
 go_enter Tryz.func231,Tryz.ntmps231
 go_wp2_with (first
  |(with_reducible show wpList _ _ _ (⟨some 8,.call _,_,_,_,_⟩::_) _ _;go_must (refine As2 rfl (.tmp 5) (.tmp 7) _ rfl i ((n:Int) - 1) m1 rfl rfl hm1.out ?_))
  |(with_reducible show wpList _ _ _ (⟨some 9,.call _,_,_,_,_⟩::_) _ _;go_must (refine As1 rfl _ (.tmp 8) _ rfl 0 m1 y rfl rfl hm2.out ?_)))
 go_ret
 exact ⟨rfl,rfl⟩
end
