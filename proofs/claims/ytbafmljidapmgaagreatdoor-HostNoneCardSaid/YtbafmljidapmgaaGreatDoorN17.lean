/- Part 17 of the proof that the card of HostNone holds. -/
import Derived.Test.YtbafmljidapmgaaGreatDoorChecked
import Derived.WalkLawsBesides
import Derived.LoopTactic
import Derived.IntWalk
import Derived.Outline
import Derived.Deep.QuietTactic
import Derived.BigQuiet
import Derived.Deep.DeepMust
import Derived.Test.YtbafmljidapmgaaGreatDoorN00
import Derived.Deep.RegionHeld3
import Derived.StillTailTactics
import Derived.Great.BuildSlice
import Derived.Deep.CutRange
import Derived.ProofKit
import Derived.OpenShut
import Derived.ShutString
import Derived.ChangeOld
set_option maxHeartbeats 16000000
set_option maxRecDepth 100000
namespace Go.Proofs.YtbafmljidapmgaaGreatDoor.Sgr
open Go
structure At where
 f:Int
 b:Int
 g:Int
deriving DecidableEq
def zero:At:=⟨0,0,0⟩
def orF (x y:Int):Int:=bits .or .u16 x y
def notF (x y:Int):Int:=bits .andNot .u16 x y
structure At.Ok (a:At):Prop where
 f0:0<=a.f
 f1:a.f<=4294967295
 b0:0<=a.b
 b1:a.b<=4294967295
 g0:0<=a.g
 g1:a.g<=65535
def Bb0 (n:Int):Int:=if n=1 then 1 else if n=2 then 2 else if n=3 then 4 else if n=4 then 8 else if n=5 then 16 else if n=7 then 32 else if n=8 then 64 else if n=9 then 128 else 0
def endF (n:Int):Int:=if n=22 then 3 else if 22<n then Bb0 (n - 20) else 0
def Ai3 (u b no c n:Int):Int:=if u<=n/\n<u+8 then n - u+1 else if b+8<=n/\n<b+16 then n - b+1 else if n=no then 0 else c
def oneF (a:At) (n:Int):At:=if n=0 then zero else ⟨Ai3 30 82 39 a.f n,Ai3 40 92 49 a.b n,orF (notF a.g (endF n)) (Bb0 n)⟩
def isB (n:Int):Bool:=decide (0<=n/\n<=255)
def rgbF (x y z:Int):Int:=16777216+x*65536+y*256+z
def folF (c:Int) (l:List Int):Int×List Int :=
 if 2<=l.length/\l.getD 0 0=5 then (if isB (l.getD 1 0) then l.getD 1 0+1 else c,l.drop 2)
 else if 4<=l.length/\l.getD 0 0=2 then (if isB (l.getD 1 0) && isB (l.getD 2 0) && isB (l.getD 3 0) then rgbF (l.getD 1 0) (l.getD 2 0) (l.getD 3 0) else c,l.drop 4)
 else (c,[])
theorem Bl4 (c:Int) (l:List Int):(folF c l).2.length<=l.length:=by
 unfold folF
 split
 ·simp
 ·split<;>simp
def runF (a:At):List Int->At
 |[]=>a
 |n::t=>if n=38 then runF ⟨(folF a.f t).1,a.b,a.g⟩ (folF a.f t).2 else if n=48 then runF ⟨a.f,(folF a.b t).1,a.g⟩ (folF a.b t).2 else runF (oneF a n) t
termination_by l=>l.length
decreasing_by
 ·have:=Bl4 a.f t;simp;omega
 ·have:=Bl4 a.b t;simp;omega
 ·simp
def applyF (a:At) (l:List Int):At:=if l=[] then zero else runF a l
theorem run_nil (a:At):runF a []=a:=by rw [runF]
theorem run_fg (a:At) (t:List Int):runF a (38::t)=runF ⟨(folF a.f t).1,a.b,a.g⟩ (folF a.f t).2:=by rw [runF,if_pos rfl]
theorem run_bg (a:At) (t:List Int):runF a (48::t)=runF ⟨a.f,(folF a.b t).1,a.g⟩ (folF a.b t).2:=by rw [runF,if_neg (by decide),if_pos rfl]
theorem run_one (a:At) {n:Int} (t:List Int) (h1:n≠38) (h2:n≠48):runF a (n::t)=runF (oneF a n) t:=by rw [runF,if_neg h1,if_neg h2]
theorem flag_none {n:Int} (h:¬ (n=1\/n=2\/n=3\/n=4\/n=5\/n=7\/n=8\/n=9)):Bb0 n=0:=by
 unfold Bb0
 (repeat' split)<;>omega
def colF (c:Int):Bool:=decide (c<=256\/(16777216<=c/\c<33554432))
def mayF (a:At):Bool:=decide (a.g<256) && colF a.f && colF a.b
end Go.Proofs.YtbafmljidapmgaaGreatDoor.Sgr
namespace Go.Proofs.YtbafmljidapmgaaGreatDoor.Sgr
open Go RowKit Com
def tab:List Int:=[1,2,3,4,5,7,8,9]
structure Tab (w:World):Prop where
 size:5<w.heap.size
 cells:∀ k,k<8->w.cell? ⟨5,k,none⟩=some (.int .i64 (tab.getD k 0))
theorem Tab.below {w w':World} (h:Tab w) (hb:Below w.heap.size w w'):Tab w' :=
 ⟨Nat.lt_of_lt_of_le h.size hb.size,fun k hk=>(hb.cell (p:=⟨5,k,none⟩) h.size).trans (h.cells k hk)⟩
theorem flag_not {n:Int} (h:∀ k,k<8->tab.getD k 0≠n):Bb0 n=0:=by
 have h0:=h 0 (by omega);have h1:=h 1 (by omega);have h2:=h 2 (by omega);have h3:=h 3 (by omega)
 have h4:=h 4 (by omega);have h5:=h 5 (by omega);have h6:=h 6 (by omega);have h7:=h 7 (by omega)
 simp [tab] at h0 h1 h2 h3 h4 h5 h6 h7
 apply flag_none
 omega
theorem not_next {n:Int} {k:Nat} (h:∀ j,j<k->tab.getD j 0≠n) (hx:tab.getD k 0≠n):∀ j,j<k+1->tab.getD j 0≠n:=fun j hj=>by
 by_cases e:j=k
 ·rw [e];exact hx
 ·exact h j (by omega)
theorem idx0 (w:World):(Instr.index 245 (.agg #[.int .i64 1,.int .i64 2,.int .i64 3,.int .i64 4,.int .i64 5,.int .i64 7,.int .i64 8,.int .i64 9]) (.int .i64 0)).run Tryz.prog w=.ok (.int .i64 1) w:=by kernel_rfl
theorem idx1 (w:World):(Instr.index 245 (.agg #[.int .i64 1,.int .i64 2,.int .i64 3,.int .i64 4,.int .i64 5,.int .i64 7,.int .i64 8,.int .i64 9]) (.int .i64 1)).run Tryz.prog w=.ok (.int .i64 2) w:=by kernel_rfl
theorem idx2 (w:World):(Instr.index 245 (.agg #[.int .i64 1,.int .i64 2,.int .i64 3,.int .i64 4,.int .i64 5,.int .i64 7,.int .i64 8,.int .i64 9]) (.int .i64 2)).run Tryz.prog w=.ok (.int .i64 3) w:=by kernel_rfl
theorem idx3 (w:World):(Instr.index 245 (.agg #[.int .i64 1,.int .i64 2,.int .i64 3,.int .i64 4,.int .i64 5,.int .i64 7,.int .i64 8,.int .i64 9]) (.int .i64 3)).run Tryz.prog w=.ok (.int .i64 4) w:=by kernel_rfl
theorem idx4 (w:World):(Instr.index 245 (.agg #[.int .i64 1,.int .i64 2,.int .i64 3,.int .i64 4,.int .i64 5,.int .i64 7,.int .i64 8,.int .i64 9]) (.int .i64 4)).run Tryz.prog w=.ok (.int .i64 5) w:=by kernel_rfl
theorem idx5 (w:World):(Instr.index 245 (.agg #[.int .i64 1,.int .i64 2,.int .i64 3,.int .i64 4,.int .i64 5,.int .i64 7,.int .i64 8,.int .i64 9]) (.int .i64 5)).run Tryz.prog w=.ok (.int .i64 7) w:=by kernel_rfl
theorem idx6 (w:World):(Instr.index 245 (.agg #[.int .i64 1,.int .i64 2,.int .i64 3,.int .i64 4,.int .i64 5,.int .i64 7,.int .i64 8,.int .i64 9]) (.int .i64 6)).run Tryz.prog w=.ok (.int .i64 8) w:=by kernel_rfl
theorem idx7 (w:World):(Instr.index 245 (.agg #[.int .i64 1,.int .i64 2,.int .i64 3,.int .i64 4,.int .i64 5,.int .i64 7,.int .i64 8,.int .i64 9]) (.int .i64 7)).run Tryz.prog w=.ok (.int .i64 9) w:=by kernel_rfl
theorem idx (k:Nat) (hk:k<8):∀ w,(Instr.index 245 (.agg #[.int .i64 1,.int .i64 2,.int .i64 3,.int .i64 4,.int .i64 5,.int .i64 7,.int .i64 8,.int .i64 9]) (.int .i64 (k:Nat))).run Tryz.prog w=.ok (.int .i64 (tab.getD k 0)) w:=by
 have hk':k=0\/k=1\/k=2\/k=3\/k=4\/k=5\/k=6\/k=7:=by omega
 rcases hk' with rfl|rfl|rfl|rfl|rfl|rfl|rfl|rfl
 ·exact idx0
 ·exact idx1
 ·exact idx2
 ·exact idx3
 ·exact idx4
 ·exact idx5
 ·exact idx6
 ·exact idx7
theorem Bj7 {P:Program} {ops:Array Oper} {rest:List Oper} {o:Oper} {a:Act} {w:World} {Q:Exit->Act->World->Prop} (hgd:o.guard=none) {t:TypeId} {u j v:Value} (h:∀ w,(Instr.index t u j).run P w=.ok v w) (x i:Operand) (ho:o.op=.index t x i) (hx:a.eval x=u) (hj:a.eval i=j)
  (hK:wpList P ops Q rest (a.put o.dst v) w):wpList P ops Q (o::rest) a w :=
 wpList_plain hgd fun _ hK'=>by
  unfold Oper.wp execOp
  simp only [ho,hx,hj,Sem.run_bind,h,Sem.run_pure,Result.andThen_ok]
  exact hK' _ _ hK
theorem shl_at:∀ k:Nat,k<8->Bb0 (tab.getD k 0)=IntKind.u16.wrap (2 ^ k):=by
 have hall:∀ k:Fin 8,Bb0 (tab.getD k.val 0)=IntKind.u16.wrap (2 ^ k.val):=by decide
 exact fun k hk=>hall ⟨k,hk⟩
theorem Bw7 (n:Int) (w:World) (T:Tab w) :
  Calls Tryz.prog 428 #[.int .i64 n] w fun e w'=>e=.returned (.int .u16 (Bb0 n))/\w=w':=by
 have c0:=T.cells 0 (by omega);have c1:=T.cells 1 (by omega);have c2:=T.cells 2 (by omega);have c3:=T.cells 3 (by omega)
 have c4:=T.cells 4 (by omega);have c5:=T.cells 5 (by omega);have c6:=T.cells 6 (by omega);have c7:=T.cells 7 (by omega)
 simp only [tab,List.getD_cons_zero,List.getD_cons_succ] at c0 c1 c2 c3 c4 c5 c6 c7
 clear T
 go_enter Tryz.func428,Tryz.ntmps428
 go_wp2
 clear c0 c1 c2 c3 c4 c5 c6 c7
 go_loop [6] (fun i=>∃ k:Nat,k<=8/\i=.int .i64 k/\Hid (∀ j,j<k->tab.getD j 0≠n)) (fun i=>8 - (intOf i).toNat)
 case atStart=>exact ⟨0,by omega,rfl,J0 (fun j hj=>by omega)⟩
 case round =>
  obtain ⟨k,hk,rfl,hs⟩:=hrel
  by_cases hlt:k<8
  ·have hix:=J0 (idx k hlt)
   have hE:=J0 (shl_at k hlt)
   have hN:=J0 (fun h=>not_next hs.out h)
   clear hs
   generalize tab.getD k 0=x at hix hE hN
   by_cases hx:x=n
   ·subst hx
    go_wp2_with (with_reducible show wpList _ _ _ (⟨some 9,.index _ _ _,_,_,_,_⟩::_) _ _;go_must (refine Bj7 rfl hix.out (.tmp 5) (.tmp 6) rfl rfl rfl ?_))
    go_ret
    exact ⟨Ab4 hE.out.symm,rfl⟩
   ·have hx':(x == n)=false:=by simpa using hx
    go_wp2_with (with_reducible show wpList _ _ _ (⟨some 9,.index _ _ _,_,_,_,_⟩::_) _ _;go_must (refine Bj7 rfl hix.out (.tmp 5) (.tmp 6) rfl rfl rfl ?_))
    go_round
    case rel=>exact ⟨k+1,by omega,by go_num,J0 (hN.out hx)⟩
    case measure=>simp [intOf];omega
  ·have hE:=J0 (flag_not (fun j hj=>hs.out j (by omega)))
   go_wp2
   go_ret
   exact ⟨Ab4 hE.out.symm,rfl⟩
theorem ended_any (n:Int) (hn:n<=9223372036854775807) (w:World) (T:Tab w) :
  Calls Tryz.prog 427 #[.int .i64 n] w fun e w'=>e=.returned (.int .u16 (endF n))/\w=w':=by
 have h:=J0 (fun m=>Bw7 m w T)
 clear T
 by_cases h0:n=22
 ·subst h0
  go_enter Tryz.func427,Tryz.ntmps427
  go_wp2
  go_ret
  exact ⟨rfl,rfl⟩
 have h0':(n == 22)=false:=by simpa using h0
 by_cases h1:22<n
 ·have hE:Hid (endF n=Bb0 (n - 20)):=by show _=_;unfold endF;rw [if_neg h0,if_pos h1]
  go_enter Tryz.func427,Tryz.ntmps427
  go_wp2_with ((go_at_call 428;refine (h.out _).mono ?_;rintro e w' ⟨rfl,rfl⟩))
  go_ret
  exact ⟨Ab4 hE.out.symm,rfl⟩
 ·have hE:Hid (endF n=0):=by show _=_;unfold endF;rw [if_neg h0,if_neg h1]
  go_enter Tryz.func427,Tryz.ntmps427
  go_wp2
  go_ret
  exact ⟨Ab4 hE.out.symm,rfl⟩
theorem Ap8 (n:Int) (h0:0<=n) (h1:n<=255) (w:World) :
  Calls Tryz.prog 426 #[.int .i64 n] w fun e w'=>e=.returned (.int .u32 (n+1))/\w=w':=by
 go_enter Tryz.func426,Tryz.ntmps426
 go_wp2
 go_ret
 exact ⟨rfl,rfl⟩
theorem Br1 (u b fo no c n:Int) (hu:0<=u/\u<=1000) (hb:0<=b/\b<=1000) (w:World) :
  Calls Tryz.prog 430 #[.agg #[.int .i64 u,.int .i64 b,.int .i64 fo,.int .i64 no],.int .u32 c,.int .i64 n] w fun e w'=>e=.returned (.int .u32 (Ai3 u b no c n))/\Below w.heap.size w w':=by
 have hbel:=J0 (Aa1 w (.cells #[.int .i64 u,.int .i64 b,.int .i64 fo,.int .i64 no] 392))
 by_cases h1:u<=n/\n<u+8
 ·have hE:Hid (Ai3 u b no c n=n - u+1):=by show _=_;unfold Ai3;rw [if_pos h1]
  obtain ⟨h1,h1'⟩:=h1
  go_enter Tryz.func430,Tryz.ntmps430
  go_wp2_with ((go_at_call 426;refine (Ap8 _ (by omega) (by omega) _).mono ?_;rintro e w' ⟨rfl,rfl⟩))
  go_ret
  exact ⟨Ab4 hE.out.symm,hbel.out⟩
 by_cases h2:b+8<=n/\n<b+16
 ·have hE:Hid (Ai3 u b no c n=n - b+1):=by show _=_;unfold Ai3;rw [if_neg h1,if_pos h2]
  obtain ⟨h2,h2'⟩:=h2
  by_cases h3:u<=n
  all_goals
   go_enter Tryz.func430,Tryz.ntmps430
   go_wp2_with ((go_at_call 426;refine (Ap8 _ (by omega) (by omega) _).mono ?_;rintro e w' ⟨rfl,rfl⟩))
   go_ret
   exact ⟨Ab4 hE.out.symm,hbel.out⟩
 by_cases h5:n=no
 ·have hE:Hid (Ai3 u b no c n=0):=by show _=_;unfold Ai3;rw [if_neg h1,if_neg h2,if_pos h5]
  subst h5
  by_cases h3:u<=n
  all_goals
   by_cases h4:b+8<=n
   all_goals
    go_enter Tryz.func430,Tryz.ntmps430
    go_wp2
    go_ret
    exact ⟨Ab4 hE.out.symm,hbel.out⟩
 ·have hE:Hid (Ai3 u b no c n=c):=by show _=_;unfold Ai3;rw [if_neg h1,if_neg h2,if_neg h5]
  have h5':(n == no)=false:=by simpa using h5
  by_cases h3:u<=n
  all_goals
   by_cases h4:b+8<=n
   all_goals
    go_enter Tryz.func430,Tryz.ntmps430
    go_wp2
    go_ret
    exact ⟨Ab4 hE.out.symm,hbel.out⟩
theorem foreground_any (w:World) :
  Calls Tryz.prog 429 #[] w fun e w'=>e=.returned (.agg #[.int .i64 30,.int .i64 82,.int .i64 38,.int .i64 39])/\Below w.heap.size w w':=by
 go_enter Tryz.func429,Tryz.ntmps429
 go_wp2
 exact bodyPost_ret (v:=.agg #[.int .i64 30,.int .i64 82,.int .i64 38,.int .i64 39]) (by simp [results,Tryz.results429,go_sem]) rfl ⟨rfl,Aa1 _ _⟩
theorem background_any (w:World) :
  Calls Tryz.prog 431 #[] w fun e w'=>e=.returned (.agg #[.int .i64 40,.int .i64 92,.int .i64 48,.int .i64 49])/\Below w.heap.size w w':=by
 go_enter Tryz.func431,Tryz.ntmps431
 go_wp2
 exact bodyPost_ret (v:=.agg #[.int .i64 40,.int .i64 92,.int .i64 48,.int .i64 49]) (by simp [results,Tryz.results431,go_sem]) rfl ⟨rfl,Aa1 _ _⟩
def allB (l:List Int):Bool:=l.all isB
theorem isB_yes {n:Int} (h0:¬ n<0) (h1:¬ 255<n):isB n=true:=by simp only [isB,decide_eq_true_eq];omega
theorem Cn3 {n:Int} (h:n<0\/255<n):isB n=false:=by simp only [isB,decide_eq_false_iff_not];omega
theorem all_drop {l:List Int} {k:Nat} (h:k<l.length):allB (l.drop k)=(isB l[k] && allB (l.drop (k+1))):=by
 unfold allB
 rw [List.drop_eq_getElem_cons h,List.all_cons]
theorem Az8 (l:List Int) (ao:Option Addr) (c B:Nat) (hl:l.length<=9223372036854775807) (w:World) (hn:Nums w B .i64 ao l) :
  Calls Tryz.prog 425 #[.slice ao l.length c] w fun e w'=>e=.returned (.bool (allB l))/\w=w':=by
 go_enter Tryz.func425,Tryz.ntmps425
 go_wp2
 go_loop [7] (fun i=>∃ k:Nat,k<=l.length/\i=.int .i64 k/\Hid (allB l=allB (l.drop k))) (fun i=>l.length - (intOf i).toNat)
 case atStart=>exact ⟨0,by omega,rfl,J0 (by simp)⟩
 case round =>
  obtain ⟨k,hk,rfl,hs⟩:=hrel
  by_cases hlt:k<l.length
  ·obtain ⟨ad,rfl,_,hc⟩:=hn.at hlt
   have hE:=J0 (all_drop hlt)
   clear hn
   generalize l[k]=x at hc hE
   by_cases h0:x<0
   ·have hF:=J0 (Cn3 (.inl h0))
    go_wp2
    go_ret
    exact ⟨Ab7 (by rw [hs.out,hE.out,hF.out];rfl),rfl⟩
   by_cases h1:255<x
   ·have hF:=J0 (Cn3 (.inr h1))
    go_wp2
    go_ret
    exact ⟨Ab7 (by rw [hs.out,hE.out,hF.out];rfl),rfl⟩
   ·have hF:=J0 (isB_yes h0 h1)
    go_wp2
    go_round
    case rel=>exact ⟨k+1,by omega,by go_num,J0 (by rw [hs.out,hE.out,hF.out];rfl)⟩
    case measure=>simp [intOf];omega
  ·have hE:Hid (allB (l.drop k)=true):=by show _=_;rw [List.drop_of_length_le (by omega)];rfl
   go_wp2
   go_ret
   exact ⟨Ab7 (by rw [hs.out,hE.out]),rfl⟩
def AIn (w:World) (d:Nat) (a:At):Prop:=Block w d 56 #[.int .u32 a.f,.int .u32 a.b,.int .u16 a.g]
section
variable {w w':World} {d:Nat} {a:At}
theorem AIn.blk (h:AIn w d a):Block w d 56 #[.int .u32 a.f,.int .u32 a.b,.int .u16 a.g]:=h
theorem AIn.c0 (h:AIn w d a):w.cell? ⟨d,0,none⟩=some (.int .u32 a.f):=Block.cell h 0 rfl
theorem AIn.c1 (h:AIn w d a):w.cell? ⟨d,1,none⟩=some (.int .u32 a.b):=Block.cell h 1 rfl
theorem AIn.c2 (h:AIn w d a):w.cell? ⟨d,2,none⟩=some (.int .u16 a.g):=Block.cell h 2 rfl
theorem AIn.free (h:AIn w d a) (i:Nat):w.frozen? ⟨d,i,none⟩=false:=Block.free h i
theorem AIn.only {L:List Nat} (h:AIn w d a) (ho:Only L w w') (hn:d∉L):AIn w' d a:=Block.only h ho hn
theorem AIn.new (h:AIn w d a) (hb:Below w.heap.size w w'):AIn w' d a:=h.only (Only.of_below hb []) (by simp)
theorem AIn.made (w:World) (a:At):AIn (w.alloc (.cells #[.int .u32 a.f,.int .u32 a.b,.int .u16 a.g] 56)) w.heap.size a:=Block.made _ _ _
end
theorem sizeA:(Tryz.prog.info? 56).map (·.size)=some 3:=by kernel_rfl
theorem Co2:(Tryz.prog.info? 53).map (·.size)=some 1:=by kernel_rfl
structure Alo (w0 w:World) (d r:Nat) (a:At):Prop where
 att:AIn w d a
 res:AIn w r zero
 low:w0.heap.size<=d/\w0.heap.size<=r
 ne:d≠r
 below:Below w0.heap.size w0 w
section
variable {w0 w w':World} {d r:Nat} {a a':At}
theorem Alo.new (h:Alo w0 w d r a) (hb:Below w.heap.size w w'):Alo w0 w' d r a:=⟨h.att.new hb,h.res.new hb,h.low,h.ne,Aa0 h.below hb⟩
theorem Alo.turn (h:Alo w0 w d r a) (hd:AIn w' d a') (ho:Only [d] w w'):Alo w0 w' d r a':=⟨hd,h.res.only ho (by simp;exact fun e=>h.ne e.symm),h.low,h.ne,Ag8 h.below ho h.low.1⟩
theorem Alo.drew (h:Alo w0 w d r a):Alo w0 w.drew d r a:=h.new (Aa5 (Below.refl _ _) 1)
theorem Alo.made (w:World) (a:At):Alo w ((w.alloc (.cells #[.int .u32 a.f,.int .u32 a.b,.int .u16 a.g] 56)).alloc (.cells #[.int .u32 0,.int .u32 0,.int .u16 0] 56)) w.heap.size (w.heap.size+1) a:=by
 have h1:=AIn.made w a
 have h2:=AIn.made (w.alloc (.cells #[.int .u32 a.f,.int .u32 a.b,.int .u16 a.g] 56)) zero
 rw [World.size_alloc] at h2
 exact ⟨h1.new (Aa1 _ _),h2,⟨by omega,by omega⟩,by omega,Aa0 (Aa1 _ _) (Aa1 _ _)⟩
theorem Alo.set0 {f b g:Int} (h:Alo w0 w d r ⟨f,b,g⟩) (x:Int):Alo w0 (w.setCell ⟨d,0,none⟩ (.int .u32 x)) d r ⟨x,b,g⟩:=h.turn (Block.set h.att.blk 0 _) (Only.setCell w ⟨d,0,none⟩ _)
theorem Alo.set1 {f b g:Int} (h:Alo w0 w d r ⟨f,b,g⟩) (x:Int):Alo w0 (w.setCell ⟨d,1,none⟩ (.int .u32 x)) d r ⟨f,x,g⟩:=h.turn (Block.set h.att.blk 1 _) (Only.setCell w ⟨d,1,none⟩ _)
theorem Alo.set2 {f b g:Int} (h:Alo w0 w d r ⟨f,b,g⟩) (x:Int):Alo w0 (w.setCell ⟨d,2,none⟩ (.int .u16 x)) d r ⟨f,b,x⟩:=h.turn (Block.set h.att.blk 2 _) (Only.setCell w ⟨d,2,none⟩ _)
end
theorem Bc7 (a:At) (n:Int) (hn:n<=9223372036854775807) (w:World) (T:Tab w) :
  Calls Tryz.prog 416 #[.agg #[.int .u32 a.f,.int .u32 a.b,.int .u16 a.g],.int .i64 n] w fun e w'=>e=.returned (.agg #[.int .u32 (oneF a n).f,.int .u32 (oneF a n).b,.int .u16 (oneF a n).g])/\Below w.heap.size w w':=by
 obtain ⟨f,b,g⟩:=a
 have hmade:=J0 (Alo.made w ⟨f,b,g⟩)
 by_cases h0:n=0
 ·subst h0
  go_enter Tryz.func416,Tryz.ntmps416
  go_wp2_with (with_reducible show wpList _ _ _ (⟨none,.store _ (.tmp 4) _,_,_,_,_⟩::_) _ _;go_must (refine Aa4 rfl _ (.tmp 4) (.tmp 7) rfl hmade.out.res.blk _ rfl rfl (by simpa using sizeA) (by simp) (by simp [Value.oneCell']) ?_);intro w2 hr2 ho2)
  have r0:=AIn.c0 (a:=zero) hr2;have r1:=AIn.c1 (a:=zero) hr2;have r2:=AIn.c2 (a:=zero) hr2
  simp only [zero] at r0 r1 r2
  exact bodyPost_ret (v:=.agg #[.int .u32 0,.int .u32 0,.int .u16 0]) (by simp [results,Tryz.results416,go_sem,r0,r1,r2]) rfl ⟨rfl,Ag8 hmade.out.below ho2 hmade.out.low.2⟩
 have hE:Hid (oneF ⟨f,b,g⟩ n=⟨Ai3 30 82 39 f n,Ai3 40 92 49 b n,orF (notF g (endF n)) (Bb0 n)⟩):=by show _=_;unfold oneF;rw [if_neg h0]
 have h0':(n == 0)=false:=by simpa using h0
 have hend:=J0 (fun w' (hb:Below w.heap.size w w')=>ended_any n hn w' (T.below hb))
 have hflag:=J0 (fun w' (hb:Below w.heap.size w w')=>Bw7 n w' (T.below hb))
 clear h0 T
 go_enter Tryz.func416,Tryz.ntmps416
 go_wp2
 replace hmade:=hmade.out
 obtain ⟨r,hr⟩:∃ r,r=w.heap.size+1:=⟨_,rfl⟩
 rw [<- hr] at hmade |-
 obtain ⟨d,hd⟩:∃ d,d=w.heap.size:=⟨_,rfl⟩
 have hbelow:=J0 hmade.drew.below
 have h2:=hmade
 rw [<- hd] at h2 |-
 generalize ((w.alloc (.cells #[.int .u32 f,.int .u32 b,.int .u16 g] 56)).alloc (.cells #[.int .u32 0,.int .u32 0,.int .u16 0] 56))=w1 at h2 hbelow |-
 have h2':=J0 h2
 have c2:=h2.att.c2
 have hf2:=h2.att.free 2
 have he1:=hend.out _ hbelow.out
 have he2:=hflag.out _ hbelow.out
 clear hmade hr hd h2
 go_cut [] from 8 to 16 (fun wx=>Alo w wx d r ⟨f,b,orF (notF g (endF n)) (Bb0 n)⟩)
 case first =>
  go_region_with (first
   |(go_at_call 427;refine (he1).mono ?_;rintro e w' ⟨rfl,rfl⟩)
   |(go_at_call 428;refine (he2).mono ?_;rintro e w' ⟨rfl,rfl⟩))
  all_goals
   go_wp2
   go_meet
   exact (h2'.out.set2 _).drew
 case rest =>
  clear he1 he2 hend hflag c2 hf2 hbelow h2' hn
  generalize hG:orF (notF g (endF n)) (Bb0 n)=G at hcut
  replace hG:=J0 hG
  go_wp2_with fail
  have h3:=J0 hcut
  have c3:=hcut.att.c0
  have hf3:=hcut.att.free 0
  have hk3:=J0 (fun w' (hb:Below wc.drew.heap.size wc.drew w')=>(hcut.drew.new hb))
  clear hcut
  go_cut [] from 17 to 22 (fun wx=>Alo w wx d r ⟨Ai3 30 82 39 f n,b,G⟩)
  case first =>
   go_region_with (first
    |(go_at_call 429;refine (foreground_any _).mono ?_;rintro e w4 ⟨rfl,hb4⟩;have k4:=(hk3.out _ hb4).att.c0;have kf4:=(hk3.out _ hb4).att.free 0)
    |(go_at_call 430;refine (Br1 30 82 38 39 f n (by omega) (by omega) _).mono ?_;rintro e w5 ⟨rfl,hb5⟩;have k5:=((hk3.out _ hb4).new hb5).att.c0;have kf5:=((hk3.out _ hb4).new hb5).att.free 0))
   all_goals
    go_wp2
    go_meet
    exact ((hk3.out _ hb4).new hb5).set0 _
  case rest =>
   clear h3 c3 hf3 hk3
   go_wp2_with fail
   have c4:=hcut.att.c1
   have hf4:=hcut.att.free 1
   have hk4:=J0 (fun w' (hb:Below wc.drew.heap.size wc.drew w')=>(hcut.drew.new hb))
   clear hcut
   go_cut [] from 23 to 28 (fun wx=>Alo w wx d r ⟨Ai3 30 82 39 f n,Ai3 40 92 49 b n,G⟩)
   case first =>
    go_region_with (first
     |(go_at_call 431;refine (background_any _).mono ?_;rintro e w7 ⟨rfl,hb7⟩;have k7:=(hk4.out _ hb7).att.c1;have kf7:=(hk4.out _ hb7).att.free 1)
     |(go_at_call 430;refine (Br1 40 92 48 49 b n (by omega) (by omega) _).mono ?_;rintro e w8 ⟨rfl,hb8⟩;have k8:=((hk4.out _ hb7).new hb8).att.c1;have kf8:=((hk4.out _ hb7).new hb8).att.free 1))
    all_goals
     go_wp2
     go_meet
     exact ((hk4.out _ hb7).new hb8).set1 _
   case rest =>
    have hE2:=hE.out
    rw [hG.out] at hE2
    clear hE hG c4 hf4 hk4
    have m0:=hcut.att.c0
    have m1:=hcut.att.c1
    have m2:=hcut.att.c2
    replace hcut:=J0 hcut
    generalize Ai3 30 82 39 f n=x at hcut hE2 m0
    generalize Ai3 40 92 49 b n=y at hcut hE2 m1
    go_wp2_with (with_reducible show wpList _ _ _ (⟨none,.store _ (.tmp 4) _,_,_,_,_⟩::_) _ _;go_must (refine Aa4 rfl _ (.tmp 4) (.tmp 29) rfl hcut.out.res.blk _ rfl rfl (by simpa using sizeA) (by simp) (by simp [Value.oneCell']) ?_);intro w9 hr9 ho9)
    have r0:=AIn.c0 (a:=⟨x,y,G⟩) hr9
    have r1:=AIn.c1 (a:=⟨x,y,G⟩) hr9
    have r2:=AIn.c2 (a:=⟨x,y,G⟩) hr9
    simp only at r0 r1 r2
    exact bodyPost_ret (v:=.agg #[.int .u32 x,.int .u32 y,.int .u16 G]) (by simp [results,Tryz.results416,go_sem,r0,r1,r2]) rfl ⟨rfl,Ag8 hcut.out.below ho9 hcut.out.low.2⟩
def Fol (w:World) (B:Nat) (R:Int×List Int) (e:Ending) (w':World):Prop :=
 ∃ x y,e=.returned (.tuple #[.int .u32 R.1,.slice x R.2.length y])/\R.2.length<=y/\y<=maxLen/\Nums w B .i64 x R.2/\Below w.heap.size w w'
theorem Bb4 (ad:Addr):ad.add 0=ad:=by simp [Addr.add]
theorem all_one (x:Int):allB [x]=isB x:=by simp [allB]
theorem all_three (x y z:Int):allB [x,y,z]=(isB x && isB y && isB z):=by simp [allB,Bool.and_assoc]
theorem Ck1 {w:World} {B:Nat} {ad:Addr} {l:List Int} {cp:Nat} (h:Nums w B .i64 (some ad) l) (k:Nat) (hl:l.length<=cp):Nums w B .i64 (if cp=k then some ad else some (ad.add k)) (l.drop k):=by
 by_cases e:cp=k
 ·rw [List.drop_of_length_le (by omega)]
  exact Nums.nil _ _ _ _
 ·rw [if_neg e]
  have:=h.piece k l.length
  rwa [List.take_length] at this
theorem An7 {w w':World} {B:Nat} {c c':Int} {t:List Int} {N y:Nat} {x:Option Addr} (hN:t.length=N) (hc:c=c') (h1:N<=y) (h2:y<=maxLen) (h3:Nums w B .i64 x t) (h4:Below w.heap.size w w') :
  Fol w B (c',t) (.returned (.tuple #[.int .u32 c,.slice x N y])) w':=by
 subst hN
 subst hc
 exact ⟨x,y,rfl,h1,h2,h3,h4⟩
theorem follow_five (c:Int) (y:Int) (t:List Int) (ao:Option Addr) (cp B:Nat) (hl:t.length+2<=cp) (hm:cp<=maxLen) (w:World) (hn:Nums w B .i64 ao (5::y::t)) (hB:B<=w.heap.size) :
  Calls Tryz.prog 415 #[.int .u32 c,.slice ao ((5::y::t:List Int).length) cp] w (Fol w B (if isB y then y+1 else c,t)):=by
 obtain ⟨ad,rfl,hb0,c0⟩:=hn 0 5 rfl
 obtain ⟨ad',e',hb1,c1⟩:=hn 1 y rfl
 cases e'
 rw [Bb4] at c0
 rw [show ad.add 1=⟨ad.block,ad.off+1,none⟩ from rfl] at c1
 have hd:=Ck1 hn 2 hl
 rw [show (5::y::t:List Int).drop 2=t from rfl,show ad.add 2=⟨ad.block,ad.off+2,none⟩ from rfl] at hd
 obtain ⟨q,hq⟩:∃ q,q=(if cp=2 then some ad else some (⟨ad.block,ad.off+2,none⟩:Addr)):=⟨_,rfl⟩
 rw [<- hq] at hd
 replace hd:=J0 hd
 replace hq:=J0 hq
 have hlt:ad.block<w.heap.size:=Nat.lt_of_lt_of_le hb0 hB
 have hby:=J0 (Az8 [y] (some ⟨w.heap.size,0,none⟩) 1 (w.heap.size+1) (by simp) _ (Nums.lit w 3 .i64 [y]))
 have hbel:=J0 (fun n=>Aa5 (Aa1 w (.cells #[.int .i64 y] 3)) n)
 rw [all_one] at hby
 clear hn
 have hm63:cp<=9223372036854775807:=by simp only [maxLen] at hm;omega
 rw [show (5::y::t:List Int).length=t.length+2 by rfl]
 have hm':=J0 hm
 clear hm
 generalize hN:t.length=N at hl
 have hN':=J0 hN
 clear hN
 rcases hi:isB y with _|_
 ·rw [hi] at hby
  go_enter Tryz.func415,Tryz.ntmps415
  go_wp2_with (go_at_call 425;refine (hby.out).mono ?_;rintro e w' ⟨rfl,rfl⟩)
  go_quiet (fail)
  rw [<- hq.out]
  go_wp2
  go_ret2
  exact An7 hN'.out (by simp) (by omega) (by have:=hm'.out;omega) hd.out (hbel.out _)
 ·rw [hi] at hby
  have h0:0<=y/\y<=255:=by simpa only [isB,decide_eq_true_eq] using hi
  obtain ⟨h0,h1⟩:=h0
  have hnum:=J0 (fun w'=>Ap8 y h0 h1 w')
  go_enter Tryz.func415,Tryz.ntmps415
  go_wp2_with (first|(go_at_call 425;refine (hby.out).mono ?_;rintro e w' ⟨rfl,rfl⟩)|(go_at_call 426;refine (hnum.out _).mono ?_;rintro e w' ⟨rfl,rfl⟩))
  go_quiet (fail)
  rw [<- hq.out]
  go_wp2
  go_ret2
  exact An7 hN'.out (by simp) (by omega) (by have:=hm'.out;omega) hd.out (hbel.out _)
theorem Ci1 {i a b:Nat} (hb:b<2 ^ i) (h:2 ^ i*a+b<4294967296):bits .or .u32 ((2 ^ i*a:Nat):Int) ((b:Nat):Int)=((2 ^ i*a+b:Nat):Int):=by
 rw [Nat.two_pow_add_eq_or_of_lt hb]
 have h':=h
 rw [Nat.two_pow_add_eq_or_of_lt hb] at h'
 have hA:2 ^ i*a<4294967296:=by omega
 have hB:b<4294967296:=by omega
 generalize 2 ^ i*a=A at *
 show IntKind.u32.wrap (((BitVec.ofInt 32 (A:Int) ||| BitVec.ofInt 32 (b:Int)).toNat:Nat):Int)=_
 rw [BitVec.ofInt_natCast,BitVec.ofInt_natCast,BitVec.toNat_or,BitVec.toNat_ofNat,BitVec.toNat_ofNat,Nat.mod_eq_of_lt hA,Nat.mod_eq_of_lt hB,IntWalk.u32_in _ (by omega)]
theorem rgb_bits {x y z:Int} (hx:isB x=true) (hy:isB y=true) (hz:isB z=true):bits .or .u32 (bits .or .u32 (bits .or .u32 16777216 (x*65536)) (y*256)) z=rgbF x y z:=by
 simp only [isB,decide_eq_true_eq] at hx hy hz
 obtain ⟨x,rfl⟩:∃ n:Nat,x=n:=⟨x.toNat,by omega⟩
 obtain ⟨y,rfl⟩:∃ n:Nat,y=n:=⟨y.toNat,by omega⟩
 obtain ⟨z,rfl⟩:∃ n:Nat,z=n:=⟨z.toNat,by omega⟩
 have h1:=Ci1 (i:=24) (a:=1) (b:=x*65536) (by omega) (by omega)
 have h2:=Ci1 (i:=16) (a:=256+x) (b:=y*256) (by omega) (by omega)
 have h3:=Ci1 (i:=8) (a:=65536+x*256+y) (b:=z) (by omega) (by omega)
 have e0:(2 ^ 24*1:Nat)=16777216:=by kernel_rfl
 have e1:((2 ^ 24*1:Nat):Int)=16777216:=by rw [e0];rfl
 have e2:((2 ^ 24*1+x*65536:Nat):Int)=((2 ^ 16*(256+x):Nat):Int):=by omega
 have e3:((2 ^ 16*(256+x)+y*256:Nat):Int)=((2 ^ 8*(65536+x*256+y):Nat):Int):=by omega
 have x1:((x*65536:Nat):Int)=(x:Int)*65536:=by simp
 have y1:((y*256:Nat):Int)=(y:Int)*256:=by simp
 rw [e1,e2,x1] at h1
 rw [e3,y1] at h2
 rw [h1,h2,h3]
 unfold rgbF
 omega
theorem follow_two (c:Int) (x y z:Int) (t:List Int) (ao:Option Addr) (cp B:Nat) (hl:t.length+4<=cp) (hm:cp<=maxLen) (w:World) (hn:Nums w B .i64 ao (2::x::y::z::t)) (hB:B<=w.heap.size) :
  Calls Tryz.prog 415 #[.int .u32 c,.slice ao ((2::x::y::z::t:List Int).length) cp] w (Fol w B (if isB x && isB y && isB z then rgbF x y z else c,t)):=by
 obtain ⟨ad,rfl,hb0,c0⟩:=hn 0 2 rfl
 obtain ⟨ad',e',hb1,c1⟩:=hn 1 x rfl
 cases e'
 obtain ⟨ad',e',hb2,c2⟩:=hn 2 y rfl
 cases e'
 obtain ⟨ad',e',hb3,c3⟩:=hn 3 z rfl
 cases e'
 rw [Bb4] at c0
 rw [show ad.add 1=⟨ad.block,ad.off+1,none⟩ from rfl] at c1
 rw [show ad.add 2=⟨ad.block,ad.off+2,none⟩ from rfl] at c2
 rw [show ad.add 3=⟨ad.block,ad.off+3,none⟩ from rfl] at c3
 have hd:=Ck1 hn 4 hl
 rw [show (2::x::y::z::t:List Int).drop 4=t from rfl,show ad.add 4=⟨ad.block,ad.off+4,none⟩ from rfl] at hd
 obtain ⟨q,hq⟩:∃ q,q=(if cp=4 then some ad else some (⟨ad.block,ad.off+4,none⟩:Addr)):=⟨_,rfl⟩
 rw [<- hq] at hd
 replace hd:=J0 hd
 replace hq:=J0 hq
 have hlt:ad.block<w.heap.size:=Nat.lt_of_lt_of_le hb0 hB
 have hby:=J0 (Az8 [x,y,z] (some ⟨w.drew.heap.size,0,none⟩) 3 (w.drew.heap.size+1) (by simp) _ (Nums.lit w.drew 3 .i64 [x,y,z]))
 have hbel:=J0 (Aa1 w (.cells #[.int .i64 x,.int .i64 y,.int .i64 z] 3))
 rw [all_three] at hby
 clear hn
 have hkeep:=Aa1 w.drew (.cells #[.int .i64 x,.int .i64 y,.int .i64 z] 3)
 have k1:=(hkeep.cell (p:=⟨ad.block,ad.off+1,none⟩) hlt).trans c1
 have k2:=(hkeep.cell (p:=⟨ad.block,ad.off+2,none⟩) hlt).trans c2
 have k3:=(hkeep.cell (p:=⟨ad.block,ad.off+3,none⟩) hlt).trans c3
 clear hkeep
 have hm63:cp<=9223372036854775807:=by simp only [maxLen] at hm;omega
 rw [show (2::x::y::z::t:List Int).length=t.length+4 by rfl]
 have hm':=J0 hm
 clear hm
 generalize hN:t.length=N at hl
 have hN':=J0 hN
 clear hN
 have l1:(1:Int)<(N:Int)+4:=by omega
 have l2:(2:Int)<(N:Int)+4:=by omega
 have l3:(3:Int)<(N:Int)+4:=by omega
 rcases hi:(isB x && isB y && isB z) with _|_
 ·rw [hi] at hby
  go_enter Tryz.func415,Tryz.ntmps415
  go_wp2_with fail
  go_region_held3 (fun w'=>w'.cell? ⟨ad.block,ad.off+1,none⟩=some (.int .i64 x)/\w'.cell? ⟨ad.block,ad.off+2,none⟩=some (.int .i64 y)/\w'.cell? ⟨ad.block,ad.off+3,none⟩=some (.int .i64 z))
   (first|exact ⟨c1,c2,c3⟩|exact ⟨k1,k2,k3⟩|go_keep)
   (first|(go_at_call 425;refine (hby.out).mono ?_;rintro e w' ⟨rfl,rfl⟩))
  go_wp2_with fail
  go_quiet (fail)
  rw [<- hq.out]
  go_wp2
  go_ret2
  exact An7 hN'.out (by simp) (by omega) (by have:=hm'.out;omega) hd.out (Aa5 hbel.out _)
 ·have hi':=hi
  simp only [Bool.and_eq_true] at hi'
  obtain ⟨⟨hx,hy⟩,hz⟩:=hi'
  have hE:=J0 (rgb_bits hx hy hz)
  simp only [isB,decide_eq_true_eq] at hx hy hz
  obtain ⟨x0,x1⟩:=hx
  obtain ⟨y0,y1⟩:=hy
  obtain ⟨z0,z1⟩:=hz
  rw [hi] at hby
  go_enter Tryz.func415,Tryz.ntmps415
  go_wp2_with fail
  go_region_held3 (fun w'=>w'.cell? ⟨ad.block,ad.off+1,none⟩=some (.int .i64 x)/\w'.cell? ⟨ad.block,ad.off+2,none⟩=some (.int .i64 y)/\w'.cell? ⟨ad.block,ad.off+3,none⟩=some (.int .i64 z))
   (first|exact ⟨c1,c2,c3⟩|exact ⟨k1,k2,k3⟩|go_keep)
   (first|(go_at_call 425;refine (hby.out).mono ?_;rintro e w' ⟨rfl,rfl⟩))
  go_wp2_with fail
  go_quiet (fail)
  go_wp2_with fail
  go_quiet (fail)
  rw [<- hq.out]
  go_wp2
  go_ret2
  exact An7 hN'.out hE.out (by omega) (by have:=hm'.out;omega) hd.out (Aa5 (Aa5 hbel.out _) _)
theorem Bx1 (c y:Int) (t:List Int):folF c (5::y::t)=(if isB y then y+1 else c,t):=by
 unfold folF
 rw [if_pos ⟨by simp,rfl⟩]
 rfl
theorem Cf3 (c x y z:Int) (t:List Int):folF c (2::x::y::z::t)=(if isB x && isB y && isB z then rgbF x y z else c,t):=by
 unfold folF
 rw [if_neg (by simp),if_pos ⟨by simp,rfl⟩]
 rfl
structure Dumb (l:List Int):Prop where
 five:2<=l.length->l.getD 0 0≠5
 two:4<=l.length->l.getD 0 0≠2
theorem Bx0 {l:List Int} (h:Dumb l) (c:Int):folF c l=(c,[]):=by
 unfold folF
 rw [if_neg (fun e=>h.five e.1 e.2),if_neg (fun e=>h.two e.1 e.2)]
theorem Bp3 (l:List Int):(∃ y t,l=5::y::t)\/(∃ x y z t,l=2::x::y::z::t)\/Dumb l:=by
 rcases l with _|⟨a,_|⟨b,t⟩⟩
 ·exact .inr (.inr ⟨by simp,by simp⟩)
 ·exact .inr (.inr ⟨by simp,by simp⟩)
 ·by_cases h5:a=5
  ·subst h5;exact .inl ⟨b,t,rfl⟩
  rcases t with _|⟨c,_|⟨d,t⟩⟩
  ·exact .inr (.inr ⟨by simpa using h5,by simp⟩)
  ·exact .inr (.inr ⟨by simpa using h5,by simp⟩)
  ·by_cases h2:a=2
   ·subst h2;exact .inr (.inl ⟨b,c,d,t,rfl⟩)
   ·exact .inr (.inr ⟨by simpa using h5,by simpa using h2⟩)
theorem follow_dumb (c:Int) (l:List Int) (h:Dumb l) (ao:Option Addr) (cp B:Nat) (hm:l.length<=maxLen) (w:World) (hn:Nums w B .i64 ao l) :
  Calls Tryz.prog 415 #[.int .u32 c,.slice ao l.length cp] w (Fol w B (c,[])):=by
 have hm63:l.length<=9223372036854775807:=by simp only [maxLen] at hm;omega
 clear hm
 by_cases h2:l.length<2
 ·clear hn h
  generalize l.length=N at hm63 h2
  have h4:N<4:=by omega
  go_enter Tryz.func415,Tryz.ntmps415
  go_wp2
  go_ret2
  exact An7 (x:=none) (y:=0) rfl rfl (by simp) (by simp) (Nums.nil _ _ _ _) (Below.refl _ _)
 obtain ⟨ad,rfl,_,c0⟩:=hn.at (i:=0) (by omega)
 rw [Bb4] at c0
 have e0:l.getD 0 0=l[0]:=getD_at (by omega)
 have h5:=h.five (by omega)
 have h42:=h.two
 rw [e0] at h5 h42
 clear hn h e0
 generalize l[0]=x at c0 h5 h42
 generalize l.length=N at hm63 h2 h42
 have h5':(x == 5)=false:=by simpa using h5
 by_cases h4:N<4
 ·go_enter Tryz.func415,Tryz.ntmps415
  go_wp2
  go_ret2
  exact An7 (x:=none) (y:=0) rfl rfl (by simp) (by simp) (Nums.nil _ _ _ _) (Below.refl _ _)
 ·have h2':(x == 2)=false:=by simpa using h42 (by omega)
  go_enter Tryz.func415,Tryz.ntmps415
  go_wp2
  go_ret2
  exact An7 (x:=none) (y:=0) rfl rfl (by simp) (by simp) (Nums.nil _ _ _ _) (Below.refl _ _)
theorem Aq6 (c:Int) (l:List Int) (ao:Option Addr) (cp B:Nat) (hl:l.length<=cp) (hm:cp<=maxLen) (w:World) (hn:Nums w B .i64 ao l) (hB:B<=w.heap.size) :
  Calls Tryz.prog 415 #[.int .u32 c,.slice ao l.length cp] w (Fol w B (folF c l)):=by
 rcases Bp3 l with ⟨y,t,rfl⟩|⟨x,y,z,t,rfl⟩|h
 ·rw [Bx1];exact follow_five c y t ao cp B (by simpa using hl) hm w hn hB
 ·rw [Cf3];exact follow_two c x y z t ao cp B (by simpa using hl) hm w hn hB
 ·rw [Bx0 h];exact follow_dumb c l h ao cp B (by omega) w hn
end Go.Proofs.YtbafmljidapmgaaGreatDoor.Sgr
namespace Go.Proofs.YtbafmljidapmgaaGreatDoor.Com
open Go RowKit Go.ChangeShapes Go.WideShapes
def Fits (k:IntKind) (l:List Int):Prop:=∀ n∈l,(Lit.int k n).wf=true
theorem nums_in {H:Type} {enc:TypeId×Value->H} {P:Program} {W:World} {t e:TypeId} {k:IntKind} {a:Option Addr} {len cap:Nat} {d:DataW H} {p:List MemPlace} (ht:P.underlying t=some (.slice e)) (he:P.underlying e=some (.int k)) (hc:P.cellsOf e=1)
  (h:DataW.Trod enc P W 0 (fun _=>true) true t (.slice a len cap) d p):∃ l:List Int,l.length=len/\len<=cap/\cap<=maxLen/\Nums W W.heap.size k a l/\Fits k l:=by
 obtain ⟨fuel,hf⟩:=h
 rcases open_ints ht he hc hf with ⟨hcs,_⟩|⟨x,l,c,zs,hcs,_,hl,hm,hz,_,hcell,hwz⟩
 ·simp [Value.cells] at hcs
  obtain ⟨rfl,rfl,rfl⟩:=hcs
  exact ⟨[],rfl,J5 _,by simp [maxLen],Nums.nil _ _ _ _,by simp [Fits]⟩
 ·simp [Value.cells] at hcs
  obtain ⟨rfl,rfl,rfl⟩:=hcs
  have hz':zs.length=cap:=by simpa using hz
  refine ⟨zs.take len,by simp;omega,hl,hm,fun i y hy=>?_,fun n hn=>hwz n (List.mem_of_mem_take hn)⟩
  rw [List.getElem?_take] at hy
  split at hy
  ·have hi:i<zs.length:=(List.getElem?_eq_some_iff.1 hy).1
   have hg:zs.getD i 0=y:=by simp [List.getD,hy]
   have hcl:=hcell i hi
   rw [hg] at hcl
   have hlt:=World.block_lt_of_cell? _ _ hcl
   rw [Ad3] at hlt
   exact ⟨x,rfl,hlt,hcl⟩
  ·cases hy
