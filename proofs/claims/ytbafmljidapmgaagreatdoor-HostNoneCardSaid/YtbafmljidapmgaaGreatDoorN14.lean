/- Part 14 of the proof that the card of HostNone holds. -/
import Derived.Deep.RegionHeld3
import Derived.Deep.RegionLaw
import Derived.Test.YtbafmljidapmgaaGreatDoorN13
import Derived.Deep.LoopGhost
import Derived.Deep.MidRow
set_option maxHeartbeats 16000000
set_option maxRecDepth 100000
namespace Go.Proofs.YtbafmljidapmgaaGreatDoor.Tbs
open Go RowKit Com
def zero8:Array Value:=#[.int .u64 0,.int .u64 0,.int .u64 0,.int .u64 0,.int .u64 0,.int .u64 0,.int .u64 0,.int .u64 0]
def Ret8 (w:World) (g:Nat->Bool) (e:Ending) (w':World):Prop:=e=.returned (.agg (wsA g))/\Below w.heap.size w w'
structure Two8 (w wr:World) (d0 d1:Nat) (g:Nat->Bool):Prop where
 own:Block wr d0 265 (wsA g)
 res:Block wr d1 265 zero8
 below:Below w.heap.size w wr
 low0:w.heap.size<=d0
 low1:w.heap.size<=d1
 ne:d0≠d1
theorem Two8.drewN {w wr:World} {d0 d1:Nat} {g:Nat->Bool} (h:Two8 w wr d0 d1 g) (n:Nat):Two8 w (wr.drewN n) d0 d1 g :=
 ⟨h.own.only (Only.drewN [] _ _) (by simp),h.res.only (Only.drewN [] _ _) (by simp),Aa5 h.below n,h.low0,h.low1,h.ne⟩
theorem Two8.drew {w wr:World} {d0 d1:Nat} {g:Nat->Bool} (h:Two8 w wr d0 d1 g):Two8 w wr.drew d0 d1 g:=h.drewN 1
theorem Two8.put {w wr:World} {d0 d1:Nat} {f g:Nat->Bool} (h:Two8 w wr d0 d1 f) {i:Nat} (hg:∀ j,j<8->j≠i->wd f j=wd g j):Two8 w (wr.setCell ⟨d0,i,none⟩ (.int .u64 (wd g i))) d0 d1 g:=by
 have hs:=h.own.set i (.int .u64 (wd g i))
 have e:(wsA f).setIfInBounds i (.int .u64 (wd g i))=wsA g:=by
  unfold wsA
  rw [J1,Bv5 hg]
 rw [e] at hs
 have ho:=Only.setCell wr ⟨d0,i,none⟩ (.int .u64 (wd g i))
 exact ⟨hs,h.res.only ho (by simpa using h.ne.symm),h.below.trans (ho.below h.below.size (by simpa using h.low0)),h.low0,h.low1,h.ne⟩
theorem two8_at (w:World) (f:Nat->Bool):Two8 w ((w.alloc (.cells (wsA f) 265)).alloc (.cells #[.int .u64 0,.int .u64 0,.int .u64 0,.int .u64 0,.int .u64 0,.int .u64 0,.int .u64 0,.int .u64 0] 265)) w.heap.size (w.heap.size+1) f:=by
 refine ⟨(Block.made w _ _).alloc _,?_,((Below.refl _ _).alloc (J5 _) _).alloc (by simp) _,J5 _,by omega,by omega⟩
 have h:(w.alloc (.cells (wsA f) 265)).heap.size=w.heap.size+1:=by simp
 have:=Block.made (w.alloc (.cells (wsA f) 265)) 265 zero8
 rw [h] at this
 exact this
def mixF (f g:Nat->Bool) (k:Nat):Nat->Bool:=fun c=>if c<64*k then g c else f c
theorem Bz2 (f g:Nat->Bool):mixF f g 0=f:=by funext c;simp [mixF]
theorem mix_at (f g:Nat->Bool) (k:Nat):wd (mixF f g k) k=wd f k:=Ar9 fun j hj=>by unfold mixF;rw [if_neg (by omega)]
theorem Bz1 (f g:Nat->Bool) (k:Nat):wd (mixF f g (k+1)) k=wd g k:=Ar9 fun j hj=>by unfold mixF;rw [if_pos (by omega)]
theorem Br0 (f g:Nat->Bool) (k:Nat):∀ j,j<8->j≠k->wd (mixF f g k) j=wd (mixF f g (k+1)) j:=fun j _ hne=>Ar9 fun i hi=>by
 unfold mixF
 by_cases h:j<k
 ·rw [if_pos (by omega),if_pos (by omega)]
 ·rw [if_neg (by omega),if_neg (by omega)]
theorem Cg9 (f g:Nat->Bool):wsA (mixF f g 8)=wsA g:=by
 unfold wsA
 rw [ws_congr (f:=mixF f g 8) (g:=g) fun c hc=>by unfold mixF;rw [if_pos (by omega)]]
theorem blk {w:World} {g:Nat} {t:TypeId} {cs:Array Value} (h:Block w g t cs):w.heap[g]?=some (.cells cs t (0,0)):=h
theorem end8 {fn:Func} {p:Tmp} (h:fn.results=#[.cell p 265]) {a:Act} {w w1:World} {d:Nat} {t:TypeId} {g:Nat->Bool} (hp:a.tmps.getD p undef=.pointer (some ⟨d,0,none⟩)) (hd:a.defers=[])
  (hb:Block w1 d t (wsA g)) (hbel:Below w.heap.size w w1):bodyPost Tryz.prog fn (Ret8 w g) .ret a w1 :=
 bodyPost_ret (results_cell_row h _ _ _ _ _ _ _ hp hb Tryz.underlying265 rfl (Au3 g)) hd ⟨rfl,hbel⟩
theorem Az6 (f:Nat->Bool) (a b:Int) (ha:-1000<=a/\a<=1000) (hb:-1000<=b/\b<=1000) (w:World) :
  Calls Tryz.prog 234 #[.agg (wsA f),.int .i64 a,.int .i64 b] w (Ret8 w (inF f a b)):=by
 have h0:=two8_at w f
 obtain ⟨a0,a1⟩:=ha
 obtain ⟨b0,b1⟩:=hb
 go_enter Tryz.func234,Tryz.ntmps234
 go_wp2
 generalize ((w.alloc (.cells (wsA f) 265)).alloc (.cells #[.int .u64 0,.int .u64 0,.int .u64 0,.int .u64 0,.int .u64 0,.int .u64 0,.int .u64 0,.int .u64 0] 265))=w0 at h0 |-
 generalize w.heap.size+1=d1 at h0 |-
 obtain ⟨d0,hd0⟩:∃ d0,d0=w.heap.size:=⟨_,rfl⟩
 have h1:Two8 w w0 d0 d1 (mixF f (inF f a b) 0):=by rw [Bz2,hd0];exact h0
 rw [<- hd0]
 clear h0 hd0
 replace h1:=J0 h1
 go_loopw [9] (fun i wr=>∃ k:Nat,k<=8/\i=.int .i64 k/\Hid (Two8 w wr d0 d1 (mixF f (inF f a b) k))) (fun i _=>8 - (intOf i).toNat)
 case atStart=>exact ⟨0,by omega,rfl,h1⟩
 case round =>
  obtain ⟨k,hk,rfl,hR⟩:=hrel
  by_cases hlt:k<8
  ·have hcell:=hR.out.own.cell k (Bv4 _ hlt)
   rw [mix_at] at hcell
   have hput:=J0 (hR.out.put (Br0 f (inF f a b) k)).drew
   rw [Bz1] at hput
   have hfr:=hR.out.own.free k
   have hand:bits BinOp.and IntKind.u64 (wd f k:Nat) (bits BinOp.andNot IntKind.u64 (lowF (b - (k:Int)*64):Nat) (lowF (a - (k:Int)*64):Nat))=(wd (inF f a b) k:Nat):=by
    rw [Bh2 _ _ (By8 _) (By8 _),bits_and_u64_nat _ _ (Bg7 _ _) (Ck5 (By8 _)),<- wd_in,Int.mul_comm (k:Int) 64]
   have hB:=J0 Au6
   have hw1:IntKind.i64.wrap (b - (k:Int)*64)=b - (k:Int)*64:=IntWalk.i64_in _ (by omega)
   have hw2:IntKind.i64.wrap (a - (k:Int)*64)=a - (k:Int)*64:=IntWalk.i64_in _ (by omega)
   have hl1:-9223372036854775808<=b - (k:Int)*64/\b - (k:Int)*64<=9223372036854775807:=by omega
   have hl2:-9223372036854775808<=a - (k:Int)*64/\a - (k:Int)*64<=9223372036854775807:=by omega
   replace hl1:=J0 hl1
   replace hl2:=J0 hl2
   generalize wd (inF f a b) k=y at hput hand
   generalize wd f k=x at hcell hand
   clear hR
   go_wp2
   go_region_law (first
    |(go_simp;go_at_call 288;(first|(with_reducible refine (hB.out _ hl1.out.1 hl1.out.2 _).mono ?_)|(with_reducible refine (hB.out _ hl2.out.1 hl2.out.2 _).mono ?_));rintro e w5 ⟨rfl,rfl⟩))
   all_goals
    go_wp2
    go_roundw
    case rel=>exact ⟨k+1,by omega,by go_num,hput⟩
    case measure=>simp [intOf];omega
  ·obtain rfl:k=8:=by omega
   have hown:=hR.out.own
   have hres:=hR.out.res
   have hlow:=hR.out.low1
   have hbel:=hR.out.below
   rw [Cg9] at hown
   have hinf:=Au3 (inF f a b)
   have hsz:zero8.size=(wsA (inF f a b)).size:=by rw [Ao7];rfl
   clear hR
   replace hown:=J0 hown
   replace hres:=J0 hres
   replace hinf:=J0 hinf
   replace hsz:=J0 hsz
   go_wp2_with (first
    |(with_reducible show wpList _ _ _ (⟨some 29,.load _ (.tmp 3),_,_,_,_⟩::_) _ _;go_must (refine wpList_load_row rfl _ (.tmp 3) rfl d0 rfl _ (wsA (inF f a b)) (0,0) _ (blk hown.out) Tryz.underlying265 rfl hinf.out ?_))
    |(with_reducible show wpList _ _ _ (⟨none,.store _ (.tmp 6) _,_,_,_,_⟩::_) _ _;go_must (refine Aa4 rfl _ (.tmp 6) (.tmp 29) rfl hres.out (wsA (inF f a b)) rfl rfl hinf.out hsz.out (Bt1 _) ?_);intro w1 hd1 ho1))
   exact end8 Tryz.results234 rfl rfl hd1 (Ag8 hbel ho1 hlow)
def orF (f h:Nat->Bool):Nat->Bool:=fun c=>f c || h c
def Al5:Nat->Bool:=fun c=>c % 8 == 0
theorem eight_wd (k:Nat):wd Al5 k=72340172838076673 :=
 (Cc7 (by decide) fun j hj=>by
  have h:∀ j:Fin 64,(72340172838076673:Nat).testBit j.val=(j.val % 8 == 0):=by decide
  rw [h ⟨j,hj⟩]
  unfold Al5
  simp only
  rw [show (64*k+j) % 8=j % 8 by omega]).symm
theorem none_wd (k:Nat):wd (fun _=>false) k=0:=wd_zero fun _ _=>rfl
theorem Ch8:wsA (fun _=>false)=zero8:=by
 unfold wsA wsL zero8
 simp [none_wd,List.range_succ]
def freshF (a b:Int):Nat->Bool:=inF (putF Al5 0 false) a b
theorem two8_swap (w:World):Two8 w ((w.alloc (.cells #[.int .u64 0,.int .u64 0,.int .u64 0,.int .u64 0,.int .u64 0,.int .u64 0,.int .u64 0,.int .u64 0] 265)).alloc (.cells #[.int .u64 0,.int .u64 0,.int .u64 0,.int .u64 0,.int .u64 0,.int .u64 0,.int .u64 0,.int .u64 0] 265)) (w.heap.size+1) w.heap.size (fun _=>false):=by
 have h:(w.alloc (.cells zero8 265)).heap.size=w.heap.size+1:=by simp
 have b:=Block.made (w.alloc (.cells zero8 265)) 265 zero8
 rw [h] at b
 exact ⟨by rw [Ch8];exact b,(Block.made w _ zero8).alloc _,((Below.refl _ _).alloc (J5 _) _).alloc (by simp) _,by omega,J5 _,by omega⟩
theorem bit_ws (f:Nat->Bool) (c:Nat) (b:Bool):(wsA f).setIfInBounds (c / 64) (.int .u64 (wd (putF f c b) (c / 64)))=wsA (putF f c b):=by
 unfold wsA
 rw [J1,Bv5 fun j _ hne=>(Cb6 f c b hne).symm]
theorem Be1 (a b:Int) (ha:-1000<=a/\a<=1000) (hb:-1000<=b/\b<=1000) (w:World) :
  Calls Tryz.prog 193 #[.int .i64 a,.int .i64 b] w (Ret8 w (freshF a b)):=by
 have h0:=two8_swap w
 rw [<- Bz2 (fun _=>false) Al5] at h0
 go_enter Tryz.func193,Tryz.ntmps193
 go_wp2
 generalize ((w.alloc (.cells #[.int .u64 0,.int .u64 0,.int .u64 0,.int .u64 0,.int .u64 0,.int .u64 0,.int .u64 0,.int .u64 0] 265)).alloc (.cells #[.int .u64 0,.int .u64 0,.int .u64 0,.int .u64 0,.int .u64 0,.int .u64 0,.int .u64 0,.int .u64 0] 265))=w0 at h0 |-
 generalize w.heap.size+1=d0 at h0 |-
 obtain ⟨d1,hd1⟩:∃ d1,d1=w.heap.size:=⟨_,rfl⟩
 rw [<- hd1] at h0 |-
 have h1:Two8 w w0 d0 d1 (mixF (fun _=>false) Al5 0):=h0
 clear h0 hd1
 replace h1:=J0 h1
 go_loopw [7] (fun i wr=>∃ k:Nat,k<=8/\i=.int .i64 k/\Hid (Two8 w wr d0 d1 (mixF (fun _=>false) Al5 k))) (fun i _=>8 - (intOf i).toNat)
 case atStart=>exact ⟨0,by omega,rfl,h1⟩
 case round =>
  obtain ⟨k,hk,rfl,hR⟩:=hrel
  by_cases hlt:k<8
  ·have hcell:=hR.out.own.cell k (Bv4 _ hlt)
   have hput:=J0 (hR.out.put (Br0 (fun _=>false) Al5 k))
   rw [Bz1,eight_wd] at hput
   have hfr:=hR.out.own.free k
   clear hR
   go_wp2
   go_roundw
   case rel=>exact ⟨k+1,by omega,by go_num,hput⟩
   case measure=>simp [intOf];omega
  ·obtain rfl:k=8:=by omega
   have hown:=hR.out.own
   have hres:=hR.out.res
   have hlow:=hR.out.low1
   have hlow0:=hR.out.low0
   have hbel:=hR.out.below
   have hne:=hR.out.ne
   rw [Cg9] at hown
   have hcl:=J0 (Bd2 Al5 0 (by omega) d0 0 265 (wsA Al5) wr hown (Bv4 Al5 (by omega)))
   have hwi:=J0 (Az6 (putF Al5 0 false) a b ha hb)
   have hinf:=Au3 (putF Al5 0 false)
   have hinf2:=Au3 (freshF a b)
   have hsz:zero8.size=(wsA (freshF a b)).size:=by rw [Ao7];rfl
   clear hR
   replace hres:=J0 hres
   replace hinf:=J0 hinf
   replace hinf2:=J0 hinf2
   replace hsz:=J0 hsz
   go_wp2_with fail
   refine hcl.out.mono ?_
   rintro e w1 ⟨⟨v1,rfl⟩,hb1,ho1⟩
   have e0:=bit_ws Al5 0 false
   simp only [Nat.zero_div,Nat.zero_add] at hb1 e0
   rw [e0] at hb1
   have hres1:=J0 (hres.out.only ho1 (by simpa using hne.symm))
   have hbel1:=J0 (Ag8 hbel ho1 hlow0)
   replace hb1:=J0 hb1
   clear ho1 hown e0 hcl
   go_wp2_with (first
    |(with_reducible show wpList _ _ _ (⟨some 14,.load _ (.tmp 5),_,_,_,_⟩::_) _ _;go_must (refine wpList_load_row rfl _ (.tmp 5) rfl d0 rfl _ (wsA (putF Al5 0 false)) (0,0) _ (blk hb1.out) Tryz.underlying265 rfl hinf.out ?_))
    |(go_at_call 234;(with_reducible refine (hwi.out _).mono ?_);rintro e w2 ⟨rfl,hb2⟩)
    |(with_reducible show wpList _ _ _ (⟨none,.store _ (.tmp 4) _,_,_,_,_⟩::_) _ _;go_must (refine Aa4 rfl _ (.tmp 4) (.tmp 17) rfl (hres1.out.only (Only.of_below hb2 []) (by simp)) (wsA (freshF a b)) rfl rfl hinf2.out hsz.out (Bt1 _) ?_);intro w3 hd3 ho3))
   exact end8 Tryz.results193 rfl rfl hd3 (Ag8 (Aa0 hbel1.out hb2) ho3 hlow)
end Go.Proofs.YtbafmljidapmgaaGreatDoor.Tbs
namespace Go.Proofs.YtbafmljidapmgaaGreatDoor.Tbs
open Go
def sts (f:Nat->Bool) (n:Nat):List Nat:=(List.range n).filter f
theorem sts_succ (f:Nat->Bool) (n:Nat):sts f (n+1)=sts f n++if f n=true then [n] else []:=by
 unfold sts
 rw [List.range_succ,List.filter_append]
 congr 1
 by_cases h:f n=true<;>simp [h]
theorem Ck3 {f:Nat->Bool} {n:Nat} (h:f n=true):sts f (n+1)=sts f n++[n]:=by rw [sts_succ,if_pos h]
theorem sts_no {f:Nat->Bool} {n:Nat} (h:f n=false):sts f (n+1)=sts f n:=by rw [sts_succ,if_neg (by simp [h]),List.append_nil]
theorem Bv2 {f:Nat->Bool} {p:Nat}:∀ q,p<=q->(∀ c,p<=c->c<q->f c=false)->sts f q=sts f p
 |0,h,_=>by
  obtain rfl:p=0:=by omega
  rfl
 |q+1,h,hf=>by
  by_cases e:p=q+1
  ·rw [e]
  ·rw [sts_no (hf q (by omega) (by omega)),Bv2 q (by omega) fun c h1 h2=>hf c h1 (by omega)]
theorem Bn4 (f:Nat->Bool) {p:Nat}:∀ q,p<=q->∃ t,sts f q=sts f p++t
 |0,h=>by
  obtain rfl:p=0:=by omega
  exact ⟨[],by simp⟩
 |q+1,h=>by
  by_cases e:p=q+1
  ·subst e;exact ⟨[],by simp⟩
  ·obtain ⟨t,ht⟩:=Bn4 f (p:=p) q (by omega)
   exact ⟨t++if f q=true then [q] else [],by rw [sts_succ,ht,List.append_assoc]⟩
theorem Co4 (f:Nat->Bool) {p q:Nat} (h:p<=q):(sts f p).length<=(sts f q).length:=by
 obtain ⟨t,ht⟩:=Bn4 f q h
 rw [ht,List.length_append]
 omega
theorem Aq2 (f:Nat->Bool) (n:Nat):(sts f n).length<=n:=by
 have:=List.length_filter_le f (List.range n)
 rwa [List.length_range] at this
theorem Ce6:∀ (n x:Nat),ds 2 n x=((List.range n).filter x.testBit).length
 |0,x=>rfl
 |n+1,x=>by
  rw [List.range_succ_eq_map,List.filter_cons,List.filter_map,]
  have e:(x.testBit ∘ Nat.succ)=(x / 2).testBit:=by
   funext j
   exact Nat.testBit_succ x j
  rw [e]
  show x % 2+ds 2 n (x / 2)=_
  rw [Ce6 n (x / 2),Nat.testBit_zero]
  by_cases h:x % 2=1
  ·simp only [h,decide_true,if_true,List.length_cons,List.length_map]
   omega
  ·simp only [h,decide_false]
   simp
   omega
theorem sts_add (f:Nat->Bool) (a:Nat):∀ n,(sts f (a+n)).length=(sts f a).length+((List.range n).filter fun j=>f (a+j)).length
 |0=>by simp
 |n+1=>by
  rw [<- Nat.add_assoc,sts_succ,List.length_append,sts_add f a n,List.range_succ,List.filter_append,List.length_append]
  by_cases h:f (a+n)=true<;>simp [h]<;>omega
theorem Ci7 (f:Nat->Bool) (i:Nat):(sts f (64*i)).length+ds 2 64 (wd f i)=(sts f (64*(i+1))).length:=by
 rw [Nat.mul_add,Nat.mul_one,sts_add,Ce6]
 congr 2
 exact List.filter_congr fun j hj=>by
  have:=List.mem_range.1 hj
  rw [wd_bit]
  simp [this]
def rest (f:Nat->Bool) (p:Nat):Nat->Bool:=fun c=>f c && decide (p<=c)
theorem rest_zero (f:Nat->Bool):rest f 0=f:=by funext c;simp [rest]
theorem Ca5 {f:Nat->Bool} {p q:Nat} (h:p<=q) (hf:∀ c,p<=c->c<q->f c=false):rest f p=rest f q:=by
 funext c
 unfold rest
 by_cases h1:p<=c
 ·by_cases h2:c<q
  ·simp [hf c h1 h2]
  ·have:q<=c:=by omega
   simp [h1,this]
 ·have:¬ q<=c:=by omega
  simp [h1,this]
theorem rest_word {f:Nat->Bool} {p i:Nat} (h:p<=64*i):wd (rest f p) i=wd f i:=Ar9 fun j hj=>by
 unfold rest
 have:p<=64*i+j:=by omega
 simp [this]
theorem sts_same {f:Nat->Bool} {p q:Nat} (h:(sts f q).length=(sts f p).length):∀ c,p<=c->c<q->f c=false:=by
 intro c h1 h2
 by_cases hc:f c=true
 ·have a:=Co4 f h1
  have b:=Co4 f (show c+1<=q from h2)
  rw [Ck3 hc,List.length_append,List.length_singleton] at b
  omega
 ·simpa using hc
theorem next_stop {f:Nat->Bool} {p i:Nat} (h0:64*i<=p) (h1:p<=64*(i+1)) (hlt:(sts f p).length<(sts f (64*(i+1))).length) :
  wd (rest f p) i≠0/\∃ c,c=64*i+Lib.ctz 64 (wd (rest f p) i)/\p<=c/\c<64*(i+1)/\c / 64=i/\sts f (c+1)=sts f p++[c]/\putF (rest f p) c false=rest f (c+1):=by
 have hne:wd (rest f p) i≠0:=by
  intro he
  have:sts f (64*(i+1))=sts f p:=Bv2 _ h1 fun c hc1 hc2=>by
   have hb:=wd_bit (rest f p) i (c - 64*i)
   rw [he,Nat.zero_testBit,show 64*i+(c - 64*i)=c by omega] at hb
   have h64:c - 64*i<64:=by omega
   simp [h64,rest,hc1] at hb
   exact hb
  rw [this] at hlt
  omega
 obtain ⟨k1,k2,k3⟩:=ctz_bit (Bg7 (rest f p) i) hne
 generalize Lib.ctz 64 (wd (rest f p) i)=k at k1 k2 k3
 rw [wd_bit] at k2
 simp only [k1,decide_true,Bool.true_and] at k2
 have hp:p<=64*i+k/\f (64*i+k)=true:=by
  unfold rest at k2
  simp at k2
  exact ⟨k2.2,k2.1⟩
 have hgap:∀ c,p<=c->c<64*i+k->f c=false:=fun c hc1 hc2=>by
  have hb:=k3 (c - 64*i) (by omega)
  rw [wd_bit,show 64*i+(c - 64*i)=c by omega] at hb
  have h64:c - 64*i<64:=by omega
  simp [h64,rest,hc1] at hb
  exact hb
 refine ⟨hne,_,rfl,hp.1,by omega,by omega,?_,?_⟩
 ·rw [Ck3 hp.2,Bv2 _ hp.1 hgap]
 ·rw [Ca5 hp.1 hgap]
  funext c
  unfold putF rest
  by_cases e:c=64*i+k
  ·rw [if_pos e,e]
   have:¬ 64*i+k+1<=64*i+k:=by omega
   simp
  ·rw [if_neg e]
   have:decide (64*i+k<=c)=decide (64*i+k+1<=c):=by rw [decide_eq_decide];omega
   rw [this]
theorem sts_get {f:Nat->Bool} {p c n:Nat} (h:sts f (c+1)=sts f p++[c]) (hc:c+1<=n):(sts f n)[(sts f p).length]?=some c:=by
 obtain ⟨t,ht⟩:=Bn4 f n hc
 rw [ht,h,List.append_assoc,List.getElem?_append_right (J5 _),Nat.sub_self]
 rfl
end Go.Proofs.YtbafmljidapmgaaGreatDoor.Tbs
namespace Go.Proofs.YtbafmljidapmgaaGreatDoor.Tbs
open Go RowKit Com
def Num (w:World) (n:Nat) (e:Ending) (w':World):Prop:=e=.returned (.int .i64 n)/\Below w.heap.size w w'
theorem Ae8 (f:Nat->Bool) (w:World):Calls Tryz.prog 370 #[.agg (wsA f)] w (Num w (sts f 512).length):=by
 have hb0:=Block.made w 265 (wsA f)
 have hbel:=Aa1 w (.cells (wsA f) 265)
 go_enter Tryz.func370,Tryz.ntmps370
 go_wp2
 generalize w.alloc (.cells (wsA f) 265)=w0 at hb0 hbel |-
 obtain ⟨d0,hd0⟩:∃ d0,d0=w.heap.size:=⟨_,rfl⟩
 rw [<- hd0] at hb0 |-
 clear hd0
 replace hb0:=J0 hb0
 replace hbel:=J0 hbel
 go_loop [3,5] (fun n i=>∃ (k t:Nat),k<=8/\i=.int .i64 k/\n=.int .i64 t/\t<=512/\Hid (t=(sts f (64*k)).length)) (fun _ i=>8 - (intOf i).toNat)
 case atStart=>exact ⟨0,0,by omega,rfl,rfl,by omega,J0 rfl⟩
 case round =>
  obtain ⟨k,t,hk,rfl,rfl,ht0,hT⟩:=hrel
  by_cases hlt:k<8
  ·have hcell:=hb0.out.cell k (Bv4 f hlt)
   have hon:=J0 (fun w=>Bz6 (wd f k) (Bg7 f k) w)
   have hpop:=Ci7 f k
   rw [<- hT.out] at hpop
   have hle:=Aq2 f (64*(k+1))
   have hd:ds 2 64 (wd f k)<=512:=by omega
   have ht2:t+ds 2 64 (wd f k)<=512:=by omega
   generalize wd f k=x at hcell hon hpop hd ht2
   generalize ds 2 64 x=m at hon hpop hd ht2
   replace hpop:=J0 hpop
   clear hT hle
   go_wp2_with ((go_at_call 410;(with_reducible refine (hon.out _).mono ?_);rintro e w' ⟨rfl,rfl⟩))
   go_round
   case rel=>exact ⟨k+1,t+m,by omega,by go_num,by go_num,ht2,hpop⟩
   case measure=>simp [intOf];omega
  ·obtain rfl:k=8:=by omega
   go_wp2
   go_ret
   exact ⟨Ab4 (by rw [hT.out]),hbel.out⟩
structure At8 (w wr:World) (d0:Nat) (f:Nat->Bool) (p:Nat):Prop where
 own:Block wr d0 265 (wsA (rest f p))
 below:Below w.heap.size w wr
 low:w.heap.size<=d0
theorem At8.gap {w wr:World} {d0:Nat} {f:Nat->Bool} {p q:Nat} (h:At8 w wr d0 f p) (hpq:p<=q) (hf:∀ c,p<=c->c<q->f c=false):At8 w wr d0 f q:=by
 have:=h.own
 rw [Ca5 hpq hf] at this
 exact ⟨this,h.below,h.low⟩
theorem At8.cleared {w wr w':World} {d0:Nat} {f:Nat->Bool} {p c:Nat} (h:At8 w wr d0 f p) (hc:putF (rest f p) c false=rest f (c+1)) {e:Ending} (hb:Bit wr d0 0 265 (wsA (rest f p)) (rest f p) c false e w'):At8 w w' d0 f (c+1):=by
 obtain ⟨_,h1,h2⟩:=hb
 rw [Nat.zero_add,bit_ws,hc] at h1
 exact ⟨h1,Ag8 h.below h2 h.low,h.low⟩
structure InW (f:Nat->Bool) (k j p t:Nat):Prop where
 lo:64*k<=p
 hi:p<=64*(k+1)
 len:t=(sts f p).length
 add:t=(sts f (64*k)).length+j
theorem nth_succ (f:Nat->Bool) (n:Nat) (h2:n+1<=(sts f 512).length) (w:World) (T:Tab w):Calls Tryz.prog 371 #[.agg (wsA f),.int .i64 ((n:Int)+1)] w (Num w ((sts f 512).getD n 0)):=by
 have hb0:=Block.made w 265 (wsA f)
 have hbel:=Aa1 w (.cells (wsA f) 265)
 have hn:=Aq2 f 512
 have hn5:n<512:=by omega
 clear hn
 replace h2:=J0 h2
 go_enter Tryz.func371,Tryz.ntmps371
 go_wp2
 generalize w.alloc (.cells (wsA f) 265)=w0 at hb0 hbel |-
 obtain ⟨d0,hd0⟩:∃ d0,d0=w.heap.size:=⟨_,rfl⟩
 rw [<- hd0] at hb0 |-
 have hA:Hid (At8 w w0 d0 f 0):=J0 ⟨by rw [rest_zero];exact hb0,hbel,by omega⟩
 clear hd0 hb0 hbel
 replace T:=J0 T
 go_step3
 go_wp2
 go_step3
 go_wp2
 go_loopg [1,5,7] 8 (fun g m c i wr=>∃ (k t r:Nat) (x:Int),k+g=8/\i=.int .i64 k/\c=.int .i64 x/\m=.int .i64 ((r:Int)+1)/\Hid (t+r=n)/\r<=512/\Hid (t=(sts f (64*k)).length)/\Hid (At8 w wr d0 f (64*k)))
 case atStart=>exact ⟨0,0,n,0,by omega,rfl,rfl,by simp,J0 (by omega),by omega,J0 rfl,hA⟩
 case round =>
  obtain ⟨k,t,r,x,hk,rfl,rfl,rfl,htr,hr5,hT,hW⟩:=hrel
  cases gk with
  |zero =>
   exfalso
   obtain rfl:k=8:=by omega
   have e1:=hT.out
   have e2:=h2.out
   have e3:=htr.out
   simp only [show 64*8=512 from rfl] at e1
   omega
  |succ g =>
   have hlt:k<8:=by omega
   have hcell:=hW.out.own.cell k (Bv4 _ hlt)
   rw [rest_word (J5 _)] at hcell
   have hon:=J0 (fun w=>Bz6 (wd f k) (Bg7 f k) w)
   have hpop:=Ci7 f k
   have hle:=Aq2 f (64*(k+1))
   have hd:ds 2 64 (wd f k)<=512:=by omega
   generalize wd f k=y at hcell hon hpop hd
   generalize ds 2 64 y=N at hon hpop hd
   replace hpop:=J0 hpop
   clear hle
   replace hk:=J0 hk
   go_wp2_with ((go_at_call 410;(with_reducible refine (hon.out _).mono ?_);rintro e w' ⟨rfl,rfl⟩))
   clear hcell hon
   go_loopg [1,5,14] N (fun g m c i wr=>∃ (j p t r:Nat) (x:Int),j+g=N/\i=.int .i64 j/\c=.int .i64 x/\m=.int .i64 ((r:Int)+1)/\Hid (t+r=n)/\r<=512/\Hid (InW f k j p t)/\Hid (At8 w wr d0 f p))
   case atStart=>exact ⟨0,64*k,t,r,x,by omega,rfl,rfl,rfl,htr,hr5,J0 ⟨J5 _,by omega,hT.out,hT.out⟩,hW⟩
   case round =>
    clear htr hT hW
    obtain ⟨j,p,t,r,x,hj,rfl,rfl,rfl,htr,hr5,hI,hW⟩:=hrel
    cases gk with
    |zero =>
     have hj0:¬ ((j:Int)<(N:Int)):=by omega
     obtain rfl:j=N:=by omega
     have hlen:(sts f (64*(k+1))).length=(sts f p).length:=by
      have e1:=hI.out.len
      have e2:=hI.out.add
      have e3:=hpop.out
      omega
     have hW2:=J0 (hW.out.gap hI.out.hi (sts_same hlen))
     have hT2:Hid (t=(sts f (64*(k+1))).length):=J0 (by rw [hlen];exact hI.out.len)
     clear hW hI hpop hlen
     go_wp2
     go_roundg g
     case measure=>omega
     case rel=>exact ⟨k+1,t,r,x,by have:=hk.out;omega,by go_num,rfl,rfl,htr,hr5,hT2,hW2⟩
    |succ g2 =>
     have hj0:(j:Int)<(N:Int):=by omega
     have hnx:=next_stop hI.out.lo hI.out.hi (by rw [<- hI.out.len,hI.out.add,<- hpop.out];omega)
     obtain ⟨hne,c,hc,hpc,hcl,hck,hs,hput⟩:=hnx
     have hcell:=hW.out.own.cell k (Bv4 _ hlt)
     have htz:=J0 (fun w T=>tz_any (wd (rest f p) k) (Bg7 _ _) hne w T)
     have hclr:=J0 (Bd2 (rest f p) c (by omega) d0 0 265 (wsA (rest f p)) _ hW.out.own (by rw [Nat.zero_add];exact Bv4 _ (by omega)))
     have hcv:(k:Int)*64+(Lib.ctz 64 (wd (rest f p) k):Nat)=(c:Int):=by omega
     have hTw:=J0 (T.out.below hW.out.below)
     have hc5:c<512:=by omega
     have hI2:Hid (InW f k (j+1) (c+1) (t+1)):=J0 ⟨by have:=hI.out.lo;omega,by omega,by rw [hs,List.length_append,<- hI.out.len];rfl,by have:=hI.out.add;omega⟩
     have hans:Hid ((sts f 512).getD t 0=c):=J0 (by
      have:=sts_get hs (show c+1<=512 by omega)
      rw [<- hI.out.len] at this
      rw [List.getD_eq_getElem?_getD,this]
      rfl)
     generalize Lib.ctz 64 (wd (rest f p) k)=z at htz hcv
     generalize wd (rest f p) k=y at hcell htz
     replace hput:=J0 hput
     clear hne hc hs hI hpop hpc hcl hck
     by_cases hr:r=0
     ·subst hr
      have htn:Hid (t=n):=J0 (by have:=htr.out;omega)
      have hbel:=J0 hW.out.below
      clear hclr hW
      go_wp2_with (first
       |(go_at_call 411;(with_reducible refine (htz.out _ hTw.out).mono ?_);rintro e w' ⟨rfl,rfl⟩))
      try rw [Exit.noGoto_ret]
      go_ret
      exact ⟨Ab4 (by rw [<- htn.out,hans.out]),hbel.out⟩
     ·obtain ⟨r,rfl⟩:∃ r',r=r'+1:=⟨r - 1,by omega⟩
      have hrn:(((r+1:Nat):Int) == 0)=false:=by simp;omega
      have htr2:Hid (t+1+r=n):=J0 (by have:=htr.out;omega)
      clear htr hans
      go_wp2_with (first
       |(go_at_call 411;(with_reducible refine (htz.out _ hTw.out).mono ?_);rintro e w' ⟨rfl,rfl⟩)
       |(go_at_call 250;(with_reducible refine (hclr.out).mono ?_);rintro e w' ⟨⟨v',rfl⟩,hb',ho'⟩))
      have hW2:Hid (At8 w w' d0 f (c+1)):=J0 (hW.out.cleared hput.out (e:=.returned v') ⟨⟨v',rfl⟩,hb',ho'⟩)
      clear hb' ho' hW
      go_roundg g2
      case measure=>omega
      case rel=>exact ⟨j+1,c+1,t+1,r,c,by omega,by go_num,rfl,by go_num,htr2,by omega,hI2,hW2⟩
theorem Ch9 (f:Nat->Bool) (n:Nat) (h1:1<=n) (h2:n<=(sts f 512).length) (w:World) (T:Tab w):Calls Tryz.prog 371 #[.agg (wsA f),.int .i64 n] w (Num w ((sts f 512).getD (n - 1) 0)):=by
 obtain ⟨n,rfl⟩:∃ m,n=m+1:=⟨n - 1,by omega⟩
 exact nth_succ f n h2 w T
theorem elemI:Elem Tryz.prog 52 3 .i64 8:=by
 have h:(Tryz.prog.info? 3).map (fun i=>(i.zero,i.size,i.bytes))=some (some (.int .i64 0),1,8):=by kernel_rfl
 obtain ⟨i,h0,h1,h2,h3⟩:=info_parts h
 exact ⟨Tryz.underlying52,i,h0,h1,h2,h3⟩
def Cq2 (w:World) (l:List Int) (e:Ending) (w':World):Prop:=∃ v,e=.returned v/\Own w' w.heap.size 3 .i64 v l/\Below w.heap.size w w'
def tabL (n:Nat) (f:Nat->Bool):List Value:=.int .i64 n::wsL f
def TabsIn (w:World) (d n:Nat) (f:Nat->Bool):Prop:=Block w d 268 (tabL n f).toArray
theorem TabsIn.blk {w:World} {d n:Nat} {f:Nat->Bool} (h:TabsIn w d n f):Block w d 268 (tabL n f).toArray:=h
theorem TabsIn.cols {w:World} {d n:Nat} {f:Nat->Bool} (h:TabsIn w d n f):w.cell? ⟨d,0,none⟩=some (.int .i64 n):=Block.cell h 0 rfl
theorem Cb3 {n:Nat} {f:Nat->Bool} {i:Nat} (hi:i<8):(tabL n f).toArray[1+i]?=some (.int .u64 (wd f i)):=by
 rw [List.getElem?_toArray,Nat.add_comm]
 exact Cc0 f hi
theorem TabsIn.range {w:World} {d n:Nat} {f:Nat->Bool} (h:TabsIn w d n f):w.rangeAt d 1 (wsL f):=fun j v hv=>Block.cell h (1+j) (by
 rw [List.getElem?_toArray,Nat.add_comm]
 exact hv)
theorem TabsIn.only {L:List Nat} {w w':World} {d n:Nat} {f:Nat->Bool} (h:TabsIn w d n f) (ho:Only L w w') (hn:d∉L):TabsIn w' d n f:=Block.only h ho hn
theorem TabsIn.below {w w':World} {d n:Nat} {f:Nat->Bool} (h:TabsIn w d n f) (hb:Below w.heap.size w w'):TabsIn w' d n f:=h.only (Only.of_below hb []) (by simp)
def mayB (n:Int):Bool:=decide (1<=n) && decide (n<=512)
theorem By9 {n:Int} (h:1<=n/\n<=512):mayB n=true:=by simp [mayB,h]
theorem Bq8 {n:Int} (h:¬ (1<=n/\n<=512)):mayB n=false:=by
 unfold mayB
 rw [Bool.and_eq_false_iff]
 simp
 omega
theorem mayCount_any (n:Int) (w:World):Calls Tryz.prog 192 #[.int .i64 n] w fun e w'=>e=.returned (.bool (mayB n))/\w=w':=by
 by_cases h1:1<=n
 ·by_cases h2:n<=512
  ·rw [By9 ⟨h1,h2⟩]
   go_enter Tryz.func192,Tryz.ntmps192
   go_wp2
   go_ret
   exact ⟨rfl,rfl⟩
  ·rw [Bq8 (by omega)]
   go_enter Tryz.func192,Tryz.ntmps192
   go_wp2
   go_ret
   exact ⟨Ab7 (by simp),rfl⟩
 ·rw [Bq8 (by omega)]
  go_enter Tryz.func192,Tryz.ntmps192
  go_wp2
  go_ret
  exact ⟨Ab7 (by simp),rfl⟩
theorem Bb6 {d n:Nat} {f:Nat->Bool} (w:World) (h:TabsIn w d n f):Calls Tryz.prog 233 #[.pointer (some ⟨d,0,none⟩)] w fun e w'=>e=.returned (.int .i64 n)/\w=w':=by
 have hc:=h.cols
 clear h
 go_enter Tryz.func233,Tryz.ntmps233
 go_wp2
 go_ret
 exact ⟨rfl,rfl⟩
def Err (w:World) (k:Int) (e:Ending) (w':World):Prop:=e=.returned (.int .i64 k)/\w=w'
theorem Bs1 {w:World} {d n:Nat} {f:Nat->Bool} (h:TabsIn w d n f) (c:Nat) (hc:c<n):Calls Tryz.prog 372 #[.pointer (some ⟨d,0,none⟩),.int .i64 c] w (Err w 0):=by
 have hC:=J0 (Bb6 w h)
 have h0:=h.cols
 have hn0:((n:Int) == 0)=false:=by simp;omega
 have h1:decide ((c:Int)<0)=false:=by simp
 have h2:¬ ((n:Int)<=(c:Int)):=by omega
 clear h
 go_enter Tryz.func372,Tryz.ntmps372
 go_wp2_with ((go_at_call 233;(with_reducible refine (hC.out).mono ?_);rintro e w' ⟨rfl,rfl⟩))
 go_ret
 exact ⟨rfl,rfl⟩
def Cd4 (w:World) (d n:Nat) (f:Nat->Bool) (k:Int) (e:Ending) (w':World):Prop:=e=.returned (.int .i64 k)/\TabsIn w' d n f/\Only [d] w w'
theorem Bw0 {w w':World} {d n:Nat} {f:Nat->Bool} {c:Nat} {b:Bool} {e:Ending} (hb:Bit w d 1 268 (tabL n f).toArray f c b e w'):TabsIn w' d n (putF f c b)/\Only [d] w w':=by
 obtain ⟨_,h1,h2⟩:=hb
 refine ⟨?_,h2⟩
 have e1:(tabL n f).toArray.setIfInBounds (1+c / 64) (.int .u64 (wd (putF f c b) (c / 64)))=(tabL n (putF f c b)).toArray:=by
  rw [J1,Nat.add_comm]
  unfold tabL
  rw [J3,Bv5 fun j _ hne=>(Cb6 f c b hne).symm]
 rw [e1] at h1
 exact h1
theorem set_ok {w:World} {d n:Nat} {f:Nat->Bool} (h:TabsIn w d n f) (hn:n<=512) (c:Nat) (hc:c<n):Calls Tryz.prog 318 #[.pointer (some ⟨d,0,none⟩),.int .i64 c] w (Cd4 w d n (putF f c true) 0):=by
 have hR:=J0 (Bs1 h c hc)
 have hS:=J0 (Bg2 f c (by omega) d 1 268 _ w h (Cb3 (by omega)))
 clear h hc
 go_enter Tryz.func318,Tryz.ntmps318
 go_wp2_with (first
  |(go_at_call 372;(with_reducible refine (hR.out).mono ?_);rintro e w' ⟨rfl,rfl⟩)
  |(go_at_call 373;(with_reducible refine (hS.out).mono ?_);rintro e w' ⟨⟨v',rfl⟩,hb'⟩))
 have hb:=Bw0 (e:=.returned v') ⟨⟨v',rfl⟩,hb'⟩
 go_ret
 exact ⟨rfl,hb.1,hb.2⟩
theorem clr_ok {w:World} {d n:Nat} {f:Nat->Bool} (h:TabsIn w d n f) (hn:n<=512) (c:Nat) (hc:c<n):Calls Tryz.prog 388 #[.pointer (some ⟨d,0,none⟩),.int .i64 c] w (Cd4 w d n (putF f c false) 0):=by
 have hR:=J0 (Bs1 h c hc)
 have hS:=J0 (Bd2 f c (by omega) d 1 268 _ w h (Cb3 (by omega)))
 clear h hc
 go_enter Tryz.func388,Tryz.ntmps388
 go_wp2_with (first
  |(go_at_call 372;(with_reducible refine (hR.out).mono ?_);rintro e w' ⟨rfl,rfl⟩)
  |(go_at_call 250;(with_reducible refine (hS.out).mono ?_);rintro e w' ⟨⟨v',rfl⟩,hb'⟩))
 have hb:=Bw0 (e:=.returned v') ⟨⟨v',rfl⟩,hb'⟩
 go_ret
 exact ⟨rfl,hb.1,hb.2⟩
def Ab1 (n:Nat) (c:Int):Nat:=if c<0 then 0 else if (n:Int)<=c then n - 1 else c.toNat
theorem Be9 {n:Nat} (hn:1<=n) (c:Int):Ab1 n c<n:=by
 unfold Ab1
 split
 ·omega
 ·split<;>omega
theorem Ah8 {w:World} {d n:Nat} {f:Nat->Bool} (h:TabsIn w d n f) (hn:1<=n) (hn2:n<=512) (c:Int):Calls Tryz.prog 369 #[.pointer (some ⟨d,0,none⟩),.int .i64 c] w (Err w (Ab1 n c)):=by
 have h0:=h.cols
 clear h
 by_cases h1:c<0
 ·have hE:Hid (0=((Ab1 n c:Nat):Int)):=by show _=_;unfold Ab1;rw [if_pos h1];rfl
  go_enter Tryz.func369,Tryz.ntmps369
  go_wp2
  all_goals (first|omega|skip)
  all_goals
   go_ret
   exact ⟨Ab4 (by first|(rw [<- hE.out];done)|(rw [<- hE.out];omega)),rfl⟩
 by_cases h2:(n:Int)<=c
 ·have hE:Hid ((n:Int) - 1=((Ab1 n c:Nat):Int)):=by show _=_;unfold Ab1;rw [if_neg h1,if_pos h2];omega
  go_enter Tryz.func369,Tryz.ntmps369
  go_wp2
  all_goals (first|omega|skip)
  all_goals
   go_ret
   exact ⟨Ab4 (by first|(rw [<- hE.out];done)|(rw [<- hE.out];omega)),rfl⟩
 ·obtain ⟨k,rfl⟩:∃ k:Nat,c=k:=⟨c.toNat,by omega⟩
  have hE:Hid ((k:Int)=((Ab1 n k:Nat):Int)):=by show _=_;unfold Ab1;rw [if_neg h1,if_neg h2];omega
  go_enter Tryz.func369,Tryz.ntmps369
  go_wp2
  all_goals (first|omega|skip)
  all_goals
   go_ret
   exact ⟨Ab4 (by first|(rw [<- hE.out];done)|(rw [<- hE.out];omega)),rfl⟩
