/- Part 16 of the proof that the card of EmuAside holds. -/
import Derived.Deep.LoopGhost
import Derived.Test.YtkjpjegmanpbfaaGreatDoorPA15
import Derived.Deep.MidRow
set_option maxHeartbeats 16000000
set_option maxRecDepth 100000
namespace Go.Proofs.YtkjpjegmanpbfaaGreatDoor.Tbs
open Go RowKit Com
def Num (w:World) (n:Nat) (e:Ending) (w':World):Prop:=e=.returned (.int .i64 n)/\Below w.heap.size w w'
theorem Ad1 (f:Nat->Bool) (w:World):Calls Tryz.prog 170 #[.agg (wsA f)] w (Num w (sts f 512).length):=by
 have hb0:=Block.made w 145 (wsA f)
 have hbel:=Aa1 w (.cells (wsA f) 145)
 go_enter Tryz.func170,Tryz.ntmps170
 go_wp2
 generalize w.alloc (.cells (wsA f) 145)=w0 at hb0 hbel |-
 obtain ⟨d0,hd0⟩:∃ d0,d0=w.heap.size:=⟨_,rfl⟩
 rw [<- hd0] at hb0 |-
 clear hd0
 replace hb0:=J0 hb0
 replace hbel:=J0 hbel
 go_loop [3,5] (fun n i=>∃ (k t:Nat),k<=8/\i=.int .i64 k/\n=.int .i64 t/\t<=512/\Hid (t=(sts f (64*k)).length)) (fun _ i=>8 - (intOf i).toNat)
 case atStart=>exact ⟨0,0,by omega,rfl,rfl,by omega,J0 rfl⟩
 case round =>
  obtain ⟨k,t,hk,rfl,rfl,ht0,hT⟩:=hrel
  by_cases hlt:k<8
  ·have hcell:=hb0.out.cell k (Bl5 f hlt)
   have hon:=J0 (fun w=>Bw8 (wd f k) (At6 f k) w)
   have hpop:=Cg2 f k
   rw [<- hT.out] at hpop
   have hle:=Aq1 f (64*(k+1))
   have hd:ds 2 64 (wd f k)<=512:=by omega
   have ht2:t+ds 2 64 (wd f k)<=512:=by omega
   generalize wd f k=x at hcell hon hpop hd ht2
   generalize ds 2 64 x=m at hon hpop hd ht2
   replace hpop:=J0 hpop
   clear hT hle
   go_wp2_with ((go_at_call 206;(with_reducible refine (hon.out _).mono ?_);rintro e w' ⟨rfl,rfl⟩))
   go_round
   case rel=>exact ⟨k+1,t+m,by omega,by go_num,by go_num,ht2,hpop⟩
   case measure=>simp [intOf];omega
  ·obtain rfl:k=8:=by omega
   go_wp2
   go_ret
   exact ⟨Ab7 (by rw [hT.out]),hbel.out⟩
structure At8 (w wr:World) (d0:Nat) (f:Nat->Bool) (p:Nat):Prop where
 own:Block wr d0 145 (wsA (rest f p))
 below:Below w.heap.size w wr
 low:w.heap.size<=d0
theorem At8.gap {w wr:World} {d0:Nat} {f:Nat->Bool} {p q:Nat} (h:At8 w wr d0 f p) (hpq:p<=q) (hf:∀ c,p<=c->c<q->f c=false):At8 w wr d0 f q:=by
 have:=h.own
 rw [Bx8 hpq hf] at this
 exact ⟨this,h.below,h.low⟩
theorem At8.cleared {w wr w':World} {d0:Nat} {f:Nat->Bool} {p c:Nat} (h:At8 w wr d0 f p) (hc:putF (rest f p) c false=rest f (c+1)) {e:Ending} (hb:Bit wr d0 0 145 (wsA (rest f p)) (rest f p) c false e w'):At8 w w' d0 f (c+1):=by
 obtain ⟨_,h1,h2⟩:=hb
 rw [Nat.zero_add,bit_ws,hc] at h1
 exact ⟨h1,Af8 h.below h2 h.low,h.low⟩
structure InW (f:Nat->Bool) (k j p t:Nat):Prop where
 lo:64*k<=p
 hi:p<=64*(k+1)
 len:t=(sts f p).length
 add:t=(sts f (64*k)).length+j
theorem nth_succ (f:Nat->Bool) (n:Nat) (h2:n+1<=(sts f 512).length) (w:World) (T:Tab w):Calls Tryz.prog 171 #[.agg (wsA f),.int .i64 ((n:Int)+1)] w (Num w ((sts f 512).getD n 0)):=by
 have hb0:=Block.made w 145 (wsA f)
 have hbel:=Aa1 w (.cells (wsA f) 145)
 have hn:=Aq1 f 512
 have hn5:n<512:=by omega
 clear hn
 replace h2:=J0 h2
 go_enter Tryz.func171,Tryz.ntmps171
 go_wp2
 generalize w.alloc (.cells (wsA f) 145)=w0 at hb0 hbel |-
 obtain ⟨d0,hd0⟩:∃ d0,d0=w.heap.size:=⟨_,rfl⟩
 rw [<- hd0] at hb0 |-
 have hA:Hid (At8 w w0 d0 f 0):=J0 ⟨by rw [rest_zero];exact hb0,hbel,by omega⟩
 clear hd0 hb0 hbel
 replace T:=J0 T
 go_step3
 go_wp2
 go_step3
 go_wp2
 go_loopg [1,5,7] 8 (fun g m c i wr=>∃ (k t r:Nat) (x:Int),k+g=8/\i=.int .i64 k/\c=.int .i64 x/\m=.int .i64 ((r:Int)+1)/\Hid (t+r=n)/\r<=512/\Hid (t=(sts f (64*k)).length)/\Hid (At8 w wr d0 f (64*k)))
 case atStart=>exact ⟨0,0,n,0,by omega,rfl,rfl,by simp,J0 (by omega),by omega,J0 rfl,hA⟩
 case round =>
  obtain ⟨k,t,r,x,hk,rfl,rfl,rfl,htr,hr5,hT,hW⟩:=hrel
  cases gk with
  |zero =>
   exfalso
   obtain rfl:k=8:=by omega
   have e1:=hT.out
   have e2:=h2.out
   have e3:=htr.out
   simp only [show 64*8=512 from rfl] at e1
   omega
  |succ g =>
   have hlt:k<8:=by omega
   have hcell:=hW.out.own.cell k (Bl5 _ hlt)
   rw [rest_word (J5 _)] at hcell
   have hon:=J0 (fun w=>Bw8 (wd f k) (At6 f k) w)
   have hpop:=Cg2 f k
   have hle:=Aq1 f (64*(k+1))
   have hd:ds 2 64 (wd f k)<=512:=by omega
   generalize wd f k=y at hcell hon hpop hd
   generalize ds 2 64 y=N at hon hpop hd
   replace hpop:=J0 hpop
   clear hle
   replace hk:=J0 hk
   go_wp2_with ((go_at_call 206;(with_reducible refine (hon.out _).mono ?_);rintro e w' ⟨rfl,rfl⟩))
   clear hcell hon
   go_loopg [1,5,14] N (fun g m c i wr=>∃ (j p t r:Nat) (x:Int),j+g=N/\i=.int .i64 j/\c=.int .i64 x/\m=.int .i64 ((r:Int)+1)/\Hid (t+r=n)/\r<=512/\Hid (InW f k j p t)/\Hid (At8 w wr d0 f p))
   case atStart=>exact ⟨0,64*k,t,r,x,by omega,rfl,rfl,rfl,htr,hr5,J0 ⟨J5 _,by omega,hT.out,hT.out⟩,hW⟩
   case round =>
    clear htr hT hW
    obtain ⟨j,p,t,r,x,hj,rfl,rfl,rfl,htr,hr5,hI,hW⟩:=hrel
    cases gk with
    |zero =>
     have hj0:¬ ((j:Int)<(N:Int)):=by omega
     obtain rfl:j=N:=by omega
     have hlen:(sts f (64*(k+1))).length=(sts f p).length:=by
      have e1:=hI.out.len
      have e2:=hI.out.add
      have e3:=hpop.out
      omega
     have hW2:=J0 (hW.out.gap hI.out.hi (sts_same hlen))
     have hT2:Hid (t=(sts f (64*(k+1))).length):=J0 (by rw [hlen];exact hI.out.len)
     clear hW hI hpop hlen
     go_wp2
     go_roundg g
     case measure=>omega
     case rel=>exact ⟨k+1,t,r,x,by have:=hk.out;omega,by go_num,rfl,rfl,htr,hr5,hT2,hW2⟩
    |succ g2 =>
     have hj0:(j:Int)<(N:Int):=by omega
     have hnx:=next_stop hI.out.lo hI.out.hi (by rw [<- hI.out.len,hI.out.add,<- hpop.out];omega)
     obtain ⟨hne,c,hc,hpc,hcl,hck,hs,hput⟩:=hnx
     have hcell:=hW.out.own.cell k (Bl5 _ hlt)
     have htz:=J0 (fun w T=>tz_any (wd (rest f p) k) (At6 _ _) hne w T)
     have hclr:=J0 (Bb4 (rest f p) c (by omega) d0 0 145 (wsA (rest f p)) _ hW.out.own (by rw [Nat.zero_add];exact Bl5 _ (by omega)))
     have hcv:(k:Int)*64+(Lib.ctz 64 (wd (rest f p) k):Nat)=(c:Int):=by omega
     have hTw:=J0 (T.out.below hW.out.below)
     have hc5:c<512:=by omega
     have hI2:Hid (InW f k (j+1) (c+1) (t+1)):=J0 ⟨by have:=hI.out.lo;omega,by omega,by rw [hs,List.length_append,<- hI.out.len];rfl,by have:=hI.out.add;omega⟩
     have hans:Hid ((sts f 512).getD t 0=c):=J0 (by
      have:=sts_get hs (show c+1<=512 by omega)
      rw [<- hI.out.len] at this
      rw [List.getD_eq_getElem?_getD,this]
      rfl)
     generalize Lib.ctz 64 (wd (rest f p) k)=z at htz hcv
     generalize wd (rest f p) k=y at hcell htz
     replace hput:=J0 hput
     clear hne hc hs hI hpop hpc hcl hck
     by_cases hr:r=0
     ·subst hr
      have htn:Hid (t=n):=J0 (by have:=htr.out;omega)
      have hbel:=J0 hW.out.below
      clear hclr hW
      go_wp2_with (first
       |(go_at_call 207;(with_reducible refine (htz.out _ hTw.out).mono ?_);rintro e w' ⟨rfl,rfl⟩))
      try rw [Exit.noGoto_ret]
      go_ret
      exact ⟨Ab7 (by rw [<- htn.out,hans.out]),hbel.out⟩
     ·obtain ⟨r,rfl⟩:∃ r',r=r'+1:=⟨r - 1,by omega⟩
      have hrn:(((r+1:Nat):Int) == 0)=false:=by simp;omega
      have htr2:Hid (t+1+r=n):=J0 (by have:=htr.out;omega)
      clear htr hans
      go_wp2_with (first
       |(go_at_call 207;(with_reducible refine (htz.out _ hTw.out).mono ?_);rintro e w' ⟨rfl,rfl⟩)
       |(go_at_call 154;(with_reducible refine (hclr.out).mono ?_);rintro e w' ⟨⟨v',rfl⟩,hb',ho'⟩))
      have hW2:Hid (At8 w w' d0 f (c+1)):=J0 (hW.out.cleared hput.out (e:=.returned v') ⟨⟨v',rfl⟩,hb',ho'⟩)
      clear hb' ho' hW
      go_roundg g2
      case measure=>omega
      case rel=>exact ⟨j+1,c+1,t+1,r,c,by omega,by go_num,rfl,by go_num,htr2,by omega,hI2,hW2⟩
theorem Cf7 (f:Nat->Bool) (n:Nat) (h1:1<=n) (h2:n<=(sts f 512).length) (w:World) (T:Tab w):Calls Tryz.prog 171 #[.agg (wsA f),.int .i64 n] w (Num w ((sts f 512).getD (n - 1) 0)):=by
 obtain ⟨n,rfl⟩:∃ m,n=m+1:=⟨n - 1,by omega⟩
 exact nth_succ f n h2 w T
theorem elemI:Elem Tryz.prog 22 3 .i64 8:=by
 have h:(Tryz.prog.info? 3).map (fun i=>(i.zero,i.size,i.bytes))=some (some (.int .i64 0),1,8):=by kernel_rfl
 obtain ⟨i,h0,h1,h2,h3⟩:=info_parts h
 exact ⟨Tryz.underlying22,i,h0,h1,h2,h3⟩
def tabL (n:Nat) (f:Nat->Bool):List Value:=.int .i64 n::wsL f
def TabsIn (w:World) (d n:Nat) (f:Nat->Bool):Prop:=Block w d 147 (tabL n f).toArray
theorem TabsIn.blk {w:World} {d n:Nat} {f:Nat->Bool} (h:TabsIn w d n f):Block w d 147 (tabL n f).toArray:=h
theorem TabsIn.cols {w:World} {d n:Nat} {f:Nat->Bool} (h:TabsIn w d n f):w.cell? ⟨d,0,none⟩=some (.int .i64 n):=Block.cell h 0 rfl
theorem TabsIn.free {w:World} {d n:Nat} {f:Nat->Bool} (h:TabsIn w d n f) (i:Nat):w.frozen? ⟨d,i,none⟩=false:=Block.free h i
theorem By7 {n:Nat} {f:Nat->Bool} {i:Nat} (hi:i<8):(tabL n f).toArray[1+i]?=some (.int .u64 (wd f i)):=by
 rw [List.getElem?_toArray,Nat.add_comm]
 exact Bz6 f hi
theorem TabsIn.range {w:World} {d n:Nat} {f:Nat->Bool} (h:TabsIn w d n f):w.rangeAt d 1 (wsL f):=fun j v hv=>Block.cell h (1+j) (by
 rw [List.getElem?_toArray,Nat.add_comm]
 exact hv)
theorem TabsIn.only {L:List Nat} {w w':World} {d n:Nat} {f:Nat->Bool} (h:TabsIn w d n f) (ho:Only L w w') (hn:d∉L):TabsIn w' d n f:=Block.only h ho hn
theorem TabsIn.below {w w':World} {d n:Nat} {f:Nat->Bool} (h:TabsIn w d n f) (hb:Below w.heap.size w w'):TabsIn w' d n f:=h.only (Only.of_below hb []) (by simp)
def mayB (n:Int):Bool:=decide (1<=n) && decide (n<=512)
theorem Bk2 {n:Int} (h:1<=n/\n<=512):mayB n=true:=by simp [mayB,h]
theorem Bo8 {n:Int} (h:¬ (1<=n/\n<=512)):mayB n=false:=by
 unfold mayB
 rw [Bool.and_eq_false_iff]
 simp
 omega
theorem Az1 (n:Int) (w:World):Calls Tryz.prog 85 #[.int .i64 n] w fun e w'=>e=.returned (.bool (mayB n))/\w=w':=by
 by_cases h1:1<=n
 ·by_cases h2:n<=512
  ·rw [Bk2 ⟨h1,h2⟩]
   go_enter Tryz.func85,Tryz.ntmps85
   go_wp2
   go_ret
   exact ⟨rfl,rfl⟩
  ·rw [Bo8 (by omega)]
   go_enter Tryz.func85,Tryz.ntmps85
   go_wp2
   go_ret
   exact ⟨Ab6 (by simp),rfl⟩
 ·rw [Bo8 (by omega)]
  go_enter Tryz.func85,Tryz.ntmps85
  go_wp2
  go_ret
  exact ⟨Ab6 (by simp),rfl⟩
theorem Au8 {d n:Nat} {f:Nat->Bool} (w:World) (h:TabsIn w d n f):Calls Tryz.prog 84 #[.pointer (some ⟨d,0,none⟩)] w fun e w'=>e=.returned (.int .i64 n)/\w=w':=by
 have hc:=h.cols
 clear h
 go_enter Tryz.func84,Tryz.ntmps84
 go_wp2
 go_ret
 exact ⟨rfl,rfl⟩
def Err (w:World) (k:Int) (e:Ending) (w':World):Prop:=e=.returned (.int .i64 k)/\w=w'
theorem Bp9 {w:World} {d n:Nat} {f:Nat->Bool} (h:TabsIn w d n f) (c:Nat) (hc:c<n):Calls Tryz.prog 172 #[.pointer (some ⟨d,0,none⟩),.int .i64 c] w (Err w 0):=by
 have hC:=J0 (Au8 w h)
 have h0:=h.cols
 have hn0:((n:Int) == 0)=false:=by simp;omega
 have h1:decide ((c:Int)<0)=false:=by simp
 have h2:¬ ((n:Int)<=(c:Int)):=by omega
 clear h
 go_enter Tryz.func172,Tryz.ntmps172
 go_wp2_with ((go_at_call 84;(with_reducible refine (hC.out).mono ?_);rintro e w' ⟨rfl,rfl⟩))
 go_ret
 exact ⟨rfl,rfl⟩
def Bt8 (w:World) (d n:Nat) (f:Nat->Bool) (k:Int) (e:Ending) (w':World):Prop:=e=.returned (.int .i64 k)/\TabsIn w' d n f/\Only [d] w w'
theorem Bu5 {w w':World} {d n:Nat} {f:Nat->Bool} {c:Nat} {b:Bool} {e:Ending} (hb:Bit w d 1 147 (tabL n f).toArray f c b e w'):TabsIn w' d n (putF f c b)/\Only [d] w w':=by
 obtain ⟨_,h1,h2⟩:=hb
 refine ⟨?_,h2⟩
 have e1:(tabL n f).toArray.setIfInBounds (1+c / 64) (.int .u64 (wd (putF f c b) (c / 64)))=(tabL n (putF f c b)).toArray:=by
  rw [J1,Nat.add_comm]
  unfold tabL
  rw [J3,Bl6 fun j _ hne=>(Bz2 f c b hne).symm]
 rw [e1] at h1
 exact h1
theorem set_ok {w:World} {d n:Nat} {f:Nat->Bool} (h:TabsIn w d n f) (hn:n<=512) (c:Nat) (hc:c<n):Calls Tryz.prog 115 #[.pointer (some ⟨d,0,none⟩),.int .i64 c] w (Bt8 w d n (putF f c true) 0):=by
 have hR:=J0 (Bp9 h c hc)
 have hS:=J0 (Be4 f c (by omega) d 1 147 _ w h (By7 (by omega)))
 clear h hc
 go_enter Tryz.func115,Tryz.ntmps115
 go_wp2_with (first
  |(go_at_call 172;(with_reducible refine (hR.out).mono ?_);rintro e w' ⟨rfl,rfl⟩)
  |(go_at_call 173;(with_reducible refine (hS.out).mono ?_);rintro e w' ⟨⟨v',rfl⟩,hb'⟩))
 have hb:=Bu5 (e:=.returned v') ⟨⟨v',rfl⟩,hb'⟩
 go_ret
 exact ⟨rfl,hb.1,hb.2⟩
theorem clr_ok {w:World} {d n:Nat} {f:Nat->Bool} (h:TabsIn w d n f) (hn:n<=512) (c:Nat) (hc:c<n):Calls Tryz.prog 189 #[.pointer (some ⟨d,0,none⟩),.int .i64 c] w (Bt8 w d n (putF f c false) 0):=by
 have hR:=J0 (Bp9 h c hc)
 have hS:=J0 (Bb4 f c (by omega) d 1 147 _ w h (By7 (by omega)))
 clear h hc
 go_enter Tryz.func189,Tryz.ntmps189
 go_wp2_with (first
  |(go_at_call 172;(with_reducible refine (hR.out).mono ?_);rintro e w' ⟨rfl,rfl⟩)
  |(go_at_call 154;(with_reducible refine (hS.out).mono ?_);rintro e w' ⟨⟨v',rfl⟩,hb'⟩))
 have hb:=Bu5 (e:=.returned v') ⟨⟨v',rfl⟩,hb'⟩
 go_ret
 exact ⟨rfl,hb.1,hb.2⟩
def Ab1 (n:Nat) (c:Int):Nat:=if c<0 then 0 else if (n:Int)<=c then n - 1 else c.toNat
theorem Ai3 {n:Nat} (hn:1<=n) (c:Int):Ab1 n c<n:=by
 unfold Ab1
 split
 ·omega
 ·split<;>omega
theorem Ag1 {w:World} {d n:Nat} {f:Nat->Bool} (h:TabsIn w d n f) (hn:1<=n) (hn2:n<=512) (c:Int):Calls Tryz.prog 169 #[.pointer (some ⟨d,0,none⟩),.int .i64 c] w (Err w (Ab1 n c)):=by
 have h0:=h.cols
 clear h
 by_cases h1:c<0
 ·have hE:Hid (0=((Ab1 n c:Nat):Int)):=by show _=_;unfold Ab1;rw [if_pos h1];rfl
  go_enter Tryz.func169,Tryz.ntmps169
  go_wp2
  all_goals (first|omega|skip)
  all_goals
   go_ret
   exact ⟨Ab7 (by first|(rw [<- hE.out];done)|(rw [<- hE.out];omega)),rfl⟩
 by_cases h2:(n:Int)<=c
 ·have hE:Hid ((n:Int) - 1=((Ab1 n c:Nat):Int)):=by show _=_;unfold Ab1;rw [if_neg h1,if_pos h2];omega
  go_enter Tryz.func169,Tryz.ntmps169
  go_wp2
  all_goals (first|omega|skip)
  all_goals
   go_ret
   exact ⟨Ab7 (by first|(rw [<- hE.out];done)|(rw [<- hE.out];omega)),rfl⟩
 ·obtain ⟨k,rfl⟩:∃ k:Nat,c=k:=⟨c.toNat,by omega⟩
  have hE:Hid ((k:Int)=((Ab1 n k:Nat):Int)):=by show _=_;unfold Ab1;rw [if_neg h1,if_neg h2];omega
  go_enter Tryz.func169,Tryz.ntmps169
  go_wp2
  all_goals (first|omega|skip)
  all_goals
   go_ret
   exact ⟨Ab7 (by first|(rw [<- hE.out];done)|(rw [<- hE.out];omega)),rfl⟩
theorem Bh2 (n:Nat) (f g:Nat->Bool):(((tabL n f).toArray.toList.take 1++((wsA g).toList++(tabL n f).toArray.toList.drop (1+(wsA g).size))).toArray)=(tabL n g).toArray:=by
 rw [Ai8]
 simp only [tabL,wsA,List.take_succ_cons,List.take_zero]
 rw [List.drop_eq_nil_of_le (by simp [Az7])]
 simp
theorem Cm2 (g:Nat->Bool):wsA g=#[.int .u64 (wd g 0),.int .u64 (wd g 1),.int .u64 (wd g 2),.int .u64 (wd g 3),.int .u64 (wd g 4),.int .u64 (wd g 5),.int .u64 (wd g 6),.int .u64 (wd g 7)]:=by
 simp [wsA,wsL,List.range_succ]
theorem Ck9 (n:Nat) (g:Nat->Bool):(tabL n g).toArray=#[.int .i64 n,.int .u64 (wd g 0),.int .u64 (wd g 1),.int .u64 (wd g 2),.int .u64 (wd g 3),.int .u64 (wd g 4),.int .u64 (wd g 5),.int .u64 (wd g 6),.int .u64 (wd g 7)]:=by simp [tabL,wsL,List.range_succ]
theorem TabsIn.nine {w:World} {d n:Nat} {f:Nat->Bool} (h:TabsIn w d n f):w.cell? ⟨d,0,none⟩=some (.int .i64 n)/\w.cell? ⟨d,1,none⟩=some (.int .u64 (wd f 0))/\w.cell? ⟨d,2,none⟩=some (.int .u64 (wd f 1))/\w.cell? ⟨d,3,none⟩=some (.int .u64 (wd f 2))/\w.cell? ⟨d,4,none⟩=some (.int .u64 (wd f 3))/\w.cell? ⟨d,5,none⟩=some (.int .u64 (wd f 4))/\w.cell? ⟨d,6,none⟩=some (.int .u64 (wd f 5))/\w.cell? ⟨d,7,none⟩=some (.int .u64 (wd f 6))/\w.cell? ⟨d,8,none⟩=some (.int .u64 (wd f 7)):=by
 have hb:=h.blk
 rw [Ck9] at hb
 exact ⟨hb.cell 0 rfl,hb.cell 1 rfl,hb.cell 2 rfl,hb.cell 3 rfl,hb.cell 4 rfl,hb.cell 5 rfl,hb.cell 6 rfl,hb.cell 7 rfl,hb.cell 8 rfl⟩
theorem fold_tab (n:Nat) (g:Nat->Bool):Array.foldl (fun (cs:Array Value) (x:Value×Nat)=>cs.setIfInBounds (1+x.snd) x.fst) #[.int .i64 n,.int .u64 0,.int .u64 0,.int .u64 0,.int .u64 0,.int .u64 0,.int .u64 0,.int .u64 0,.int .u64 0] (wsA g).zipIdx 0 8=(tabL n g).toArray:=by
 rw [Ck9,Cm2]
 simp
theorem clearAll_any {w:World} {d n:Nat} {f:Nat->Bool} (h:TabsIn w d n f) (hn:1<=n):Calls Tryz.prog 190 #[.pointer (some ⟨d,0,none⟩)] w (Bt8 w d n (fun _=>false) 0):=by
 have hC:=J0 (Au8 w h)
 have hn0:((n:Int) == 0)=false:=by simp;omega
 have hinf:=Aq2 (fun _=>false)
 have hsz:Hid (1+(wsA (fun _=>false)).size<=(tabL n f).toArray.size):=J0 (by rw [Ai8];simp [tabL,Az7])
 have hst:=Bh2 n f (fun _=>false)
 have hone:=Bf1 (fun _=>false)
 have hsz:=hsz.out
 rw [Cf6] at hst hinf hone hsz
 replace hst:=J0 hst
 replace hinf:=J0 hinf
 replace hone:=J0 hone
 replace hsz:=J0 hsz
 replace h:=J0 h
 go_enter Tryz.func190,Tryz.ntmps190
 go_wp2_with (first
  |(go_at_call 84;(with_reducible refine (hC.out).mono ?_);rintro e w' ⟨rfl,rfl⟩)
  |(with_reducible show wpList _ _ _ (⟨none,.store _ (.tmp 9) _,_,_,_,_⟩::_) _ _;go_must (refine Aj0 rfl _ (.tmp 9) (.tmp 7) rfl h.out.blk zero8 rfl rfl hsz.out hinf.out hone.out ?_);intro w1 hd1 ho1))
 rw [hst.out] at hd1
 go_ret
 exact ⟨rfl,hd1,ho1⟩
theorem new_ok (n:Nat) (h0:1<=n) (h1:n<=512) (w:World):Calls Tryz.prog 51 #[.int .i64 n] w fun e w'=>∃ d,e=.returned (.tuple #[.pointer (some ⟨d,0,none⟩),.int .i64 0])/\TabsIn w' d n (freshF 0 n)/\Below w.heap.size w w'/\w.heap.size<=d:=by
 have hm:=J0 (Az1 n w)
 rw [Bk2 (by omega)] at hm
 have hf:=Av5 0 n (by omega) (by omega)
 have hs8:=Ai8 (freshF 0 n)
 have hfo:=J0 (fold_tab n (freshF 0 n))
 generalize freshF 0 n=g at hf hs8 hfo |-
 replace hf:=J0 hf
 have hz8:(zero8).size=8:=rfl
 go_enter Tryz.func51,Tryz.ntmps51
 go_wp2_with (first
  |(go_at_call 85;(with_reducible refine (hm.out).mono ?_);rintro e w' ⟨rfl,rfl⟩)
  |(go_at_call 88;(with_reducible refine (hf.out _).mono ?_);rintro e w' ⟨rfl,hb'⟩))
 rw [hfo.out]
 go_ret2
 exact ⟨_,rfl,Block.made w' _ _,Aa0 hb' (Aa1 _ _),hb'.size⟩
def Bp5 (f:Nat->Bool) (h:Nat) (k:Int):Nat:=if k<1 then h else if ((sts (inF f 0 h) 512).length:Int)<k then 0 else (sts (inF f 0 h) 512).getD ((sts (inF f 0 h) 512).length - k.toNat) 0
def Bp1 (n:Nat) (f:Nat->Bool) (h:Nat) (k:Int):Nat:=if k<1 then h else if ((sts (inF f (h+1) n) 512).length:Int)<k then n - 1 else (sts (inF f (h+1) n) 512).getD (k.toNat - 1) 0
def prevF (n:Nat) (f:Nat->Bool) (c k:Int):Nat:=Bp5 f (Ab1 n c) k
def nextF (n:Nat) (f:Nat->Bool) (c k:Int):Nat:=Bp1 n f (Ab1 n c) k
theorem wsL_info (f:Nat->Bool):(Tryz.prog.info? 145).map (·.size)=some (wsL f).length:=by rw [Az7];kernel_rfl
theorem Ci1 (w:World):Block (w.alloc (.cells #[.int .u64 0,.int .u64 0,.int .u64 0,.int .u64 0,.int .u64 0,.int .u64 0,.int .u64 0,.int .u64 0] 145)) w.heap.size 145 zero8:=Block.made w _ zero8
theorem Aq5 {w w1 w2:World} {t:TypeId} (h1:Below w.heap.size w w1) (h2:Only [w1.heap.size] (w1.alloc (.cells #[.int .u64 0,.int .u64 0,.int .u64 0,.int .u64 0,.int .u64 0,.int .u64 0,.int .u64 0,.int .u64 0] t)) w2):Below w.heap.size w w2 :=
 Af8 (Aa0 h1 (Aa1 w1 _)) h2 h1.size
theorem prev_any {w:World} {d n:Nat} {f:Nat->Bool} (h:TabsIn w d n f) (hn:1<=n) (hn2:n<=512) (c k:Int) (T:Tab w):Calls Tryz.prog 179 #[.pointer (some ⟨d,0,none⟩),.int .i64 c,.int .i64 k] w (Num w (prevF n f c k)):=by
 have hC:=J0 (Au8 w h)
 have hH:=Ag1 h hn hn2 c
 have hlt:=Ai3 hn c
 have hn0:((n:Int) == 0)=false:=by simp;omega
 unfold prevF
 generalize Ab1 n c=q at hH hlt |-
 replace hH:=J0 hH
 by_cases hk:k<1
 ·have hE:Hid (Bp5 f q k=q):=by show _=_;unfold Bp5;rw [if_pos hk]
  clear h T
  go_enter Tryz.func179,Tryz.ntmps179
  go_wp2_with (first
   |(go_at_call 84;(with_reducible refine (hC.out).mono ?_);rintro e w' ⟨rfl,rfl⟩)
   |(go_at_call 169;(with_reducible refine (hH.out).mono ?_);rintro e w' ⟨rfl,rfl⟩))
  go_ret
  exact ⟨Ab7 (by rw [hE.out]),Below.refl _ _⟩
 ·have hr0:=J0 h.range
  have hi:=J0 (wsL_info f)
  have hw:Hid (Calls Tryz.prog 86 #[.agg (wsL f).toArray,.int .i64 0,.int .i64 q] w (Ret8 w (inF f 0 q))):=J0 (Ar9 f 0 q (by omega) (by omega) w)
  have hEe:Bp5 f q k=if ((sts (inF f 0 q) 512).length:Int)<k then 0 else (sts (inF f 0 q) 512).getD ((sts (inF f 0 q) 512).length - k.toNat) 0:=by unfold Bp5;rw [if_neg hk]
  have hbd:=Aq1 (inF f 0 q) 512
  have hcnt:=J0 (fun w=>Ad1 (inF f 0 q) w)
  have hnth:=J0 (fun w m h1 h2 T=>Cf7 (inF f 0 q) m h1 h2 w T)
  have hinf:=J0 (Aq2 (inF f 0 q))
  have hone:=J0 (Bf1 (inF f 0 q))
  have hsz:Hid (zero8.size=(wsA (inF f 0 q)).size):=J0 (by rw [Ai8];rfl)
  generalize inF f 0 q=g at hw hEe hbd hcnt hnth hinf hone hsz
  obtain ⟨L,hL⟩:∃ L,L=sts g 512:=⟨_,rfl⟩
  rw [<- hL] at hEe hbd
  obtain ⟨m,hm⟩:∃ m,m=L.length:=⟨_,rfl⟩
  have hcnt2:Hid (∀ w,Calls Tryz.prog 170 #[.agg (wsA g)] w (Num w m)):=J0 fun w=>by have:=hcnt.out w;rw [<- hL,<- hm] at this;exact this
  rw [<- hm] at hEe hbd
  replace T:=J0 T
  by_cases hkm:(m:Int)<k
  ·rw [if_pos hkm] at hEe
   rw [hEe]
   clear h hcnt hnth hEe hL hm
   go_enter Tryz.func179,Tryz.ntmps179
   go_wp2_with (first
    |(go_at_call 84;(with_reducible refine (hC.out).mono ?_);rintro e w' ⟨rfl,rfl⟩)
    |(go_at_call 169;(with_reducible refine (hH.out).mono ?_);rintro e w' ⟨rfl,rfl⟩)
    |(with_reducible show wpList _ _ _ (⟨some 21,.load _ (.tmp 20),_,_,_,_⟩::_) _ _;go_must (refine wpList_load_mid rfl _ (.tmp 20) rfl d 1 rfl (wsL f) _ hr0.out Tryz.underlying145 rfl hi.out ?_))
    |(go_at_call 86;(with_reducible refine (hw.out).mono ?_);rintro e w1 ⟨rfl,hb1⟩)
    |(with_reducible show wpList _ _ _ (⟨none,.store _ (.tmp 7) _,_,_,_,_⟩::_) _ _;go_must (refine Aa5 rfl _ (.tmp 7) (.tmp 23) rfl (Ci1 w1) (wsA g) rfl rfl hinf.out hsz.out hone.out ?_);intro w2 hd2 ho2;replace hd2:=J0 hd2)
    |(with_reducible show wpList _ _ _ (⟨some 24,.load _ (.tmp 7),_,_,_,_⟩::_) _ _;go_must (refine wpList_load_row rfl _ (.tmp 7) rfl w1.heap.size rfl _ (wsA g) (0,0) _ (blk hd2.out) Tryz.underlying145 rfl hinf.out ?_))
    |(go_at_call 170;(with_reducible refine (hcnt2.out _).mono ?_);rintro e w3 ⟨rfl,hb3⟩))
   go_ret
   exact ⟨rfl,Aa0 (Aq5 hb1 ho2) hb3⟩
  ·obtain ⟨K,rfl⟩:∃ K:Nat,k=K:=⟨k.toNat,by omega⟩
   have hK1:1<=K:=by omega
   have hK2:K<=m:=by omega
   rw [if_neg hkm,Int.toNat_natCast] at hEe
   have hN:Hid (∀ w,Tab w->Calls Tryz.prog 171 #[.agg (wsA g),.int .i64 ((m:Int) - (K:Int)+1)] w (Num w (L.getD (m - K) 0))):=J0 fun w T=>by
    have:=hnth.out w (m - K+1) (by omega) (by rw [<- hL,<- hm];omega) T
    rw [<- hL,Nat.add_sub_cancel,show ((m - K+1:Nat):Int)=(m:Int) - (K:Int)+1 by omega] at this
    exact this
   rw [hEe]
   generalize L.getD (m - K) 0=x at hN
   clear h hcnt hnth hEe hL hm
   go_enter Tryz.func179,Tryz.ntmps179
   go_wp2_with (first
    |(go_at_call 84;(with_reducible refine (hC.out).mono ?_);rintro e w' ⟨rfl,rfl⟩)
    |(go_at_call 169;(with_reducible refine (hH.out).mono ?_);rintro e w' ⟨rfl,rfl⟩)
    |(with_reducible show wpList _ _ _ (⟨some 21,.load _ (.tmp 20),_,_,_,_⟩::_) _ _;go_must (refine wpList_load_mid rfl _ (.tmp 20) rfl d 1 rfl (wsL f) _ hr0.out Tryz.underlying145 rfl hi.out ?_))
    |(go_at_call 86;(with_reducible refine (hw.out).mono ?_);rintro e w1 ⟨rfl,hb1⟩)
    |(with_reducible show wpList _ _ _ (⟨none,.store _ (.tmp 7) _,_,_,_,_⟩::_) _ _;go_must (refine Aa5 rfl _ (.tmp 7) (.tmp 23) rfl (Ci1 w1) (wsA g) rfl rfl hinf.out hsz.out hone.out ?_);intro w2 hd2 ho2;replace hd2:=J0 hd2)
    |(with_reducible show wpList _ _ _ (⟨some 24,.load _ (.tmp 7),_,_,_,_⟩::_) _ _;go_must (refine wpList_load_row rfl _ (.tmp 7) rfl w1.heap.size rfl _ (wsA g) (0,0) _ (blk hd2.out) Tryz.underlying145 rfl hinf.out ?_))
    |(go_at_call 170;(with_reducible refine (hcnt2.out _).mono ?_);rintro e w3 ⟨rfl,hb3⟩)
    |(with_reducible show wpList _ _ _ (⟨some 29,.load _ (.tmp 7),_,_,_,_⟩::_) _ _;go_must (refine wpList_load_row rfl _ (.tmp 7) rfl w1.heap.size rfl _ (wsA g) (0,0) _ (blk (hd2.out.only (Only.of_below hb3 []) (by simp))) Tryz.underlying145 rfl hinf.out ?_))
    |(go_at_call 171;(with_reducible refine (hN.out _ (T.out.below (Aa0 (Aq5 hb1 ho2) hb3))).mono ?_);rintro e w4 ⟨rfl,hb4⟩))
   go_ret
   exact ⟨rfl,Aa0 (Aa0 (Aq5 hb1 ho2) hb3) hb4⟩
theorem storing8 {w:World} {b:Nat} (h:Block w b 145 zero8) (g:Nat->Bool):∃ w',(storeCells ⟨b,0,none⟩ (wsA g).toList).run Tryz.prog w=.ok () w'/\Block w' b 145 (wsA g)/\Only [b] w w':=by
 have hz:zero8.size=8:=rfl
 have hl:(wsA g).toList.length=8:=by rw [Array.length_toList,Ai8]
 have hrun:=run_storeCells_at Tryz.prog b 0 145 (wsA g).toList 0 zero8 w h (by rw [hl,hz];omega) (fun x hx=>(Array.all_eq_true_iff_forall_mem.1 (Bf1 g)) x (by simpa using hx))
 refine ⟨_,hrun,?_,Ac4 w b _⟩
 have:=setRow_heap w b zero8 (zero8.toList.take (0+0)++((wsA g).toList++zero8.toList.drop (0+0+(wsA g).toList.length))).toArray 145 _ h
 rw [hl] at this |-
 simpa [zero8,Block] using this
theorem TabsIn.nineB {w:World} {d n:Nat} {f:Nat->Bool} (h:TabsIn w d n f):∀ w',Below w.heap.size w w'->(w'.cell? ⟨d,0,none⟩=some (.int .i64 n)/\w'.cell? ⟨d,1,none⟩=some (.int .u64 (wd f 0))/\w'.cell? ⟨d,2,none⟩=some (.int .u64 (wd f 1))/\w'.cell? ⟨d,3,none⟩=some (.int .u64 (wd f 2))/\w'.cell? ⟨d,4,none⟩=some (.int .u64 (wd f 3))/\w'.cell? ⟨d,5,none⟩=some (.int .u64 (wd f 4))/\w'.cell? ⟨d,6,none⟩=some (.int .u64 (wd f 5))/\w'.cell? ⟨d,7,none⟩=some (.int .u64 (wd f 6))/\w'.cell? ⟨d,8,none⟩=some (.int .u64 (wd f 7))):=fun _ hb=>(h.below hb).nine
theorem next_any {w:World} {d n:Nat} {f:Nat->Bool} (h:TabsIn w d n f) (hn:1<=n) (hn2:n<=512) (c k:Int) (T:Tab w):Calls Tryz.prog 113 #[.pointer (some ⟨d,0,none⟩),.int .i64 c,.int .i64 k] w (Num w (nextF n f c k)):=by
 have hC:=J0 (Au8 w h)
 have hH:=Ag1 h hn hn2 c
 have hlt:=Ai3 hn c
 have hn0:((n:Int) == 0)=false:=by simp;omega
 unfold nextF
 generalize Ab1 n c=q at hH hlt |-
 replace hH:=J0 hH
 by_cases hk:k<1
 ·have hE:Hid (Bp1 n f q k=q):=by show _=_;unfold Bp1;rw [if_pos hk]
  clear h T
  go_enter Tryz.func113,Tryz.ntmps113
  go_wp2_with (first
   |(go_at_call 84;(with_reducible refine (hC.out).mono ?_);rintro e w' ⟨rfl,rfl⟩)
   |(go_at_call 169;(with_reducible refine (hH.out).mono ?_);rintro e w' ⟨rfl,rfl⟩))
  go_ret
  exact ⟨Ab7 (by rw [hE.out]),Below.refl _ _⟩
 ·have hc:=h.nine
  have hS:=J0 h.nineB
  have hw:Hid (∀ w,Calls Tryz.prog 86 #[.agg #[.int .u64 (wd f 0),.int .u64 (wd f 1),.int .u64 (wd f 2),.int .u64 (wd f 3),.int .u64 (wd f 4),.int .u64 (wd f 5),.int .u64 (wd f 6),.int .u64 (wd f 7)],.int .i64 ((q:Int)+1),.int .i64 n] w (Ret8 w (inF f (q+1) n))):=J0 fun w=>by
   have:=Ar9 f (q+1) n (by omega) (by omega) w
   rwa [Cm2] at this
  have hEe:Bp1 n f q k=if ((sts (inF f (q+1) n) 512).length:Int)<k then n - 1 else (sts (inF f (q+1) n) 512).getD (k.toNat - 1) 0:=by unfold Bp1;rw [if_neg hk]
  have hbd:=Aq1 (inF f (q+1) n) 512
  have hcnt:=J0 (fun w=>Ad1 (inF f (q+1) n) w)
  have hnth:=J0 (fun w m h1 h2 T=>Cf7 (inF f (q+1) n) m h1 h2 w T)
  have hinf:=J0 (Aq2 (inF f (q+1) n))
  have hsto:=J0 (fun (w:World) (b:Nat) (h:Block w b 145 zero8)=>storing8 h (inF f (q+1) n))
  have hs8:=Ai8 (inF f (q+1) n)
  have hcut:=J0 (fun w' hb=>(h.below hb:TabsIn w' d n f))
  generalize inF f (q+1) n=g at hw hEe hbd hcnt hnth hinf hsto hs8
  obtain ⟨L,hL⟩:∃ L,L=sts g 512:=⟨_,rfl⟩
  rw [<- hL] at hEe hbd
  obtain ⟨m,hm⟩:∃ m,m=L.length:=⟨_,rfl⟩
  have hcnt2:Hid (∀ w,Calls Tryz.prog 170 #[.agg (wsA g)] w (Num w m)):=J0 fun w=>by have:=hcnt.out w;rw [<- hL,<- hm] at this;exact this
  rw [<- hm] at hEe hbd
  replace T:=J0 T
  replace hEe:=J0 hEe
  replace hL:=J0 hL
  replace hm:=J0 hm
  have hwr:IntKind.i64.wrap ((q:Int)+1)=(q:Int)+1:=IntWalk.i64_in _ (by omega)
  clear h hcnt
  go_enter Tryz.func113,Tryz.ntmps113
  go_wp2_with (first
   |(go_at_call 84;(with_reducible refine (hC.out).mono ?_);rintro e w' ⟨rfl,rfl⟩)
   |(go_at_call 169;(with_reducible refine (hH.out).mono ?_);rintro e w' ⟨rfl,rfl⟩))
  have hdw:=Aa4 (Below.refl w.heap.size w) 1
  have hda:=Aa4 (Aa1 w (.cells #[.int .u64 0,.int .u64 0,.int .u64 0,.int .u64 0,.int .u64 0,.int .u64 0,.int .u64 0,.int .u64 0] 145)) 1
  have hma:Block ((w.alloc (.cells #[.int .u64 0,.int .u64 0,.int .u64 0,.int .u64 0,.int .u64 0,.int .u64 0,.int .u64 0,.int .u64 0] 145)).drew) w.heap.size 145 zero8:=(Ci1 w).only (Ai0 [] _) (by simp)
  replace hma:=J0 hma
  go_region_held3 (fun w'=>w'.cell? ⟨d,0,none⟩=some (.int .i64 n)/\w'.cell? ⟨d,1,none⟩=some (.int .u64 (wd f 0))/\w'.cell? ⟨d,2,none⟩=some (.int .u64 (wd f 1))/\w'.cell? ⟨d,3,none⟩=some (.int .u64 (wd f 2))/\w'.cell? ⟨d,4,none⟩=some (.int .u64 (wd f 3))/\w'.cell? ⟨d,5,none⟩=some (.int .u64 (wd f 4))/\w'.cell? ⟨d,6,none⟩=some (.int .u64 (wd f 5))/\w'.cell? ⟨d,7,none⟩=some (.int .u64 (wd f 6))/\w'.cell? ⟨d,8,none⟩=some (.int .u64 (wd f 7))) (first|exact hc|exact hS.out _ (by assumption)|go_keep)
   (first
    |(go_at_call 86;(with_reducible refine (hw.out w.drew).mono ?_);rintro e w1 ⟨rfl,hb1'⟩;have hb1:Below w.heap.size w w1:=Aa0 hdw hb1';obtain ⟨w7,hst7,hB7,ho7⟩:=hsto.out _ _ (Ci1 w1);have hb8:=Aa0 hb1 (Aa1 w1 (.cells #[.int .u64 0,.int .u64 0,.int .u64 0,.int .u64 0,.int .u64 0,.int .u64 0,.int .u64 0,.int .u64 0] 145));have hb7:Below w.heap.size w w7:=Aq5 hb1 ho7)
    |(go_at_call 86;(with_reducible refine (hw.out (w.alloc (.cells #[.int .u64 0,.int .u64 0,.int .u64 0,.int .u64 0,.int .u64 0,.int .u64 0,.int .u64 0,.int .u64 0] 145)).drew).mono ?_);rintro e w1 ⟨rfl,hb1'⟩;have hb1:Below w.heap.size w w1:=Aa0 hda hb1';obtain ⟨w7,hst7,hB7,ho7⟩:=hsto.out w1 _ (hma.out.only (Only.of_below hb1' []) (by simp));have hb7:Below w.heap.size w w7:=Af8 hb1 ho7 (J5 _)))
  all_goals
   replace hB7:=J0 hB7
   replace hb7:=J0 hb7
   have hc7:=hcut.out w7 hb7.out
   have hcol7:=hc7.cols
   clear hst7 ho7 hb1' hb1 hdw hda hS hc hwr
   by_cases hkm:(m:Int)<k
   ·have hE:=hEe.out
    rw [if_pos hkm] at hE
    replace hE:=J0 hE
    have hn1:(n:Int) - 1=((n - 1:Nat):Int):=by omega
    have hc9:=J0 (fun w8 (hb:Below w7.heap.size w7 w8)=>(hc7.below hb).cols)
    replace hn1:=J0 hn1
    clear hc7 hcol7
    go_wp2_with (first
     |(with_reducible show wpList _ _ _ (⟨some 29,.load _ (.tmp 7),_,_,_,_⟩::_) _ _;go_must (refine wpList_load_row rfl _ (.tmp 7) rfl _ rfl _ (wsA g) (0,0) _ (blk hB7.out) Tryz.underlying145 rfl hinf.out ?_))
     |(go_at_call 170;(with_reducible refine (hcnt2.out _).mono ?_);rintro e w8 ⟨rfl,hb8'⟩;have hcol8:=hc9.out w8 hb8'))
    go_ret
    exact ⟨Ab7 (by rw [hn1.out,hE.out]),Aa0 hb7.out hb8'⟩
   ·obtain ⟨K,rfl⟩:∃ K:Nat,k=K:=⟨k.toNat,by omega⟩
    have hK1:1<=K:=by omega
    have hK2:K<=m:=by omega
    have hE:=hEe.out
    rw [if_neg hkm,Int.toNat_natCast] at hE
    have hN:Hid (∀ w,Tab w->Calls Tryz.prog 171 #[.agg (wsA g),.int .i64 K] w (Num w (L.getD (K - 1) 0))):=J0 fun w T=>by
     have:=hnth.out w K hK1 (by rw [<- hL.out,<- hm.out];omega) T
     rw [<- hL.out] at this
     exact this
    generalize L.getD (K - 1) 0=x at hN hE
    replace hE:=J0 hE
    clear hc7 hcol7
    go_wp2_with (first
     |(with_reducible show wpList _ _ _ (⟨some 29,.load _ (.tmp 7),_,_,_,_⟩::_) _ _;go_must (refine wpList_load_row rfl _ (.tmp 7) rfl _ rfl _ (wsA g) (0,0) _ (blk hB7.out) Tryz.underlying145 rfl hinf.out ?_))
     |(go_at_call 170;(with_reducible refine (hcnt2.out _).mono ?_);rintro e w8 ⟨rfl,hb8'⟩)
     |(with_reducible show wpList _ _ _ (⟨some 37,.load _ (.tmp 7),_,_,_,_⟩::_) _ _;go_must (refine wpList_load_row rfl _ (.tmp 7) rfl _ rfl _ (wsA g) (0,0) _ (blk (hB7.out.only (Only.of_below hb8' []) (by simp))) Tryz.underlying145 rfl hinf.out ?_))
     |(go_at_call 171;(with_reducible refine (hN.out _ (T.out.below (Aa0 hb7.out hb8'))).mono ?_);rintro e w9 ⟨rfl,hb9'⟩))
    go_ret
    exact ⟨Ab7 (by rw [hE.out]),Aa0 (Aa0 hb7.out hb8') hb9'⟩
