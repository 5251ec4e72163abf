/- Part 18 of HostSplits. -/
import Derived.Test.YtecnpoigegiooaaGreatDoorP17
import Derived.Deep.LoopGhost
set_option maxHeartbeats 16000000
set_option maxRecDepth 100000
namespace Go.Proofs.YtecnpoigegiooaaGreatDoor.Tbs
open Go RowKit Com
def wsL (f:Nat->Bool):List Value:=(List.range 8).map fun i=>.int .u64 (wd f i)
def wsA (f:Nat->Bool):Array Value:=(wsL f).toArray
theorem Bi5 (f:Nat->Bool):(wsL f).length=8:=by simp[wsL]
theorem Ao8 (f:Nat->Bool):(wsA f).size=8:=by simp[wsA,Bi5]
theorem Cd9 (f:Nat->Bool) {i:Nat} (hi:i<8):(wsL f)[i]?=some (.int .u64 (wd f i)):=by simp[wsL,hi]
theorem Bx9 (f:Nat->Bool) {i:Nat} (hi:i<8):(wsA f)[i]?=some (.int .u64 (wd f i)):=by simpa[wsA] using Cd9 f hi
theorem By0 {f g:Nat->Bool} {i:Nat} (h:∀j,j<8->j≠i->wd f j=wd g j):(wsL f).set i (.int .u64 (wd g i))=wsL g:=by
 apply List.ext_getElem?
 intro j
 by_cases hj:j<8
 ·rw[Cd9 g hj]
  by_cases e:i=j
  ·subst e
   rw[List.getElem?_set_self (by rw[Bi5];exact hj)]
  ·rw[List.getElem?_set_ne e,Cd9 f hj,h j hj (fun e'=>e e'.symm)]
 ·rw[List.getElem?_eq_none (by rw[List.length_set,Bi5];omega),List.getElem?_eq_none (by rw[Bi5];omega)]
theorem ws_congr {f g:Nat->Bool} (h:∀c,c<512->f c=g c):wsL f=wsL g:=by
 unfold wsL
 apply List.map_congr_left
 intro i hi
 rw[As1 (f:=f) (g:=g) fun j hj=>h _ (by have:=List.mem_range.1 hi;omega)]
theorem Bv7 (f:Nat->Bool):(wsA f).all (·.oneCell')=true:=by simp[wsA,wsL,Value.oneCell']
theorem Au8 (f:Nat->Bool):(Tryz.prog.info? 174).map (·.size)=some (wsA f).size:=by
 rw[Ao8]
 kernel_rfl
theorem Cl1 {k:Nat} (h:k<64):2 ^ k<18446744073709551616:=show _<2 ^ 64 from Nat.pow_lt_pow_right (by decide) h
theorem Ci4 (k:Nat):(2:Int) ^ k=((2 ^ k:Nat):Int):=by rw[Int.natCast_pow];rfl
theorem Cd8 {k:Nat} (h:k<64):IntKind.u64.wrap (2 ^ k)=((2 ^ k:Nat):Int):=by
 rw[Ci4]
 exact Cd7 (Cl1 h)
theorem low_wrap {k:Nat} (h:k<=64):IntKind.u64.wrap (IntKind.u64.wrap (2 ^ k) - 1)=((2 ^ k - 1:Nat):Int):=by
 have h1:0<2 ^ k:=Nat.pow_pos (by decide)
 have h2:2 ^ k<=18446744073709551616:=show _<=2 ^ 64 from Nat.pow_le_pow_right (by decide) h
 rw[Ci4,IntKind.wrap_u64,IntKind.wrap_u64]
 generalize 2 ^ k=x at h1 h2
 omega
theorem Bi8 (a b:Nat) (ha:a<18446744073709551616) (hb:b<18446744073709551616):bits .andNot .u64 (a:Int) (b:Int)=(sub a b:Nat):=by
 have h1:(BitVec.ofInt 64 (a:Int)).toNat=a:=by
  rw[BitVec.ofInt_natCast,BitVec.toNat_ofNat];exact Nat.mod_eq_of_lt (by omega)
 have h2:(BitVec.ofInt 64 (b:Int)).toNat=b:=by
  rw[BitVec.ofInt_natCast,BitVec.toNat_ofNat];exact Nat.mod_eq_of_lt (by omega)
 show IntKind.u64.wrap ((BitVec.ofInt 64 (a:Int) &&& ~~~ (BitVec.ofInt 64 (b:Int))).toNat:Int)=_
 rw[BitVec.toNat_and,BitVec.toNat_not,h1,h2]
 exact Cd7 (Cn6 ha)
def Bit (w:World) (d o:Nat) (t:TypeId) (cs:Array Value) (f:Nat->Bool) (c:Nat) (b:Bool) (e:Ending) (w':World):Prop :=
 (∃v,e=.returned v)/\Block w' d t (cs.setIfInBounds (o+c / 64) (.int .u64 (wd (putF f c b) (c / 64))))/\Only [d] w w'
theorem Cg4 {w:World} {d o:Nat} {t:TypeId} {cs:Array Value} {f:Nat->Bool} {c:Nat} {b:Bool} (hb:Block w d t cs) {v:Value}:Bit w d o t cs f c b (.returned v) ((w.setCell ⟨d,o+c / 64,none⟩ (.int .u64 (wd (putF f c b) (c / 64)))).drew) :=
 ⟨⟨_,rfl⟩,(hb.set _ _).only (Ab2 [] _) (by simp),(Only.setCell w ⟨d,o+c / 64,none⟩ _).trans (Ab2 [d] _)⟩
theorem Bh8 (f:Nat->Bool) (c:Nat) (hc:c<512) (d o:Nat) (t:TypeId) (cs:Array Value) (w:World) (hb:Block w d t cs) (hat:cs[o+c / 64]?=some (.int .u64 (wd f (c / 64)))) :
  Calls Tryz.prog 234 #[.pointer (some ⟨d,o,none⟩),.int .i64 c] w (Bit w d o t cs f c true):=by
 have hcell:=hb.cell _ hat
 have hfr:=hb.free (o+c / 64)
 have hq:c / 64<8:=by omega
 have hr:c % 64<64:=by omega
 have hE:=Cg4 (o:=o) (f:=f) (c:=c) (b:=true) hb (v:=.tuple #[])
 have hor:bits BinOp.or IntKind.u64 (wd f (c / 64)) (IntKind.u64.wrap (2 ^ (c % 64)))=(wd (putF f c true) (c / 64):Nat):=by
  rw[Cd8 hr,bits_or_u64_nat _ _ (Bi3 _ _) (Cl1 hr),wd_put]
 generalize wd (putF f c true) (c / 64)=y at hor hE
 generalize wd f (c / 64)=x at hor hcell
 replace hE:=J0 hE
 clear hb hat
 go_enter Tryz.func234,Tryz.ntmps234
 go_wp2
 go_region
 go_end0
 exact hE.out
theorem Be3 (f:Nat->Bool) (c:Nat) (hc:c<512) (d o:Nat) (t:TypeId) (cs:Array Value) (w:World) (hb:Block w d t cs) (hat:cs[o+c / 64]?=some (.int .u64 (wd f (c / 64)))) :
  Calls Tryz.prog 106 #[.pointer (some ⟨d,o,none⟩),.int .i64 c] w (Bit w d o t cs f c false):=by
 have hcell:=hb.cell _ hat
 have hfr:=hb.free (o+c / 64)
 have hq:c / 64<8:=by omega
 have hr:c % 64<64:=by omega
 have hE:=Cg4 (o:=o) (f:=f) (c:=c) (b:=false) hb (v:=.tuple #[])
 have hor:bits BinOp.andNot IntKind.u64 (wd f (c / 64)) (IntKind.u64.wrap (2 ^ (c % 64)))=(wd (putF f c false) (c / 64):Nat):=by
  rw[Cd8 hr,Bi8 _ _ (Bi3 _ _) (Cl1 hr),wd_off]
 generalize wd (putF f c false) (c / 64)=y at hor hE
 generalize wd f (c / 64)=x at hor hcell
 replace hE:=J0 hE
 clear hb hat
 go_enter Tryz.func106,Tryz.ntmps106
 go_wp2
 go_region
 go_end0
 exact hE.out
theorem Av2 (n:Int) (hlo:-9223372036854775808<=n) (hhi:n<=9223372036854775807) (w:World):Calls Tryz.prog 150 #[.int .i64 n] w fun e w'=>e=.returned (.int .u64 (lowF n))/\w=w':=by
 by_cases h0:n<=0
 ·have hE:Hid (((0:Nat):Int)=(lowF n:Nat)):=by
   show _=_
   unfold lowF Br7
   rw[show min n.toNat 64=0 by omega]
  go_enter Tryz.func150,Tryz.ntmps150
  go_wp2
  all_goals (first|omega|skip)
  all_goals
   go_ret
   exact⟨Ab7 hE.out,rfl⟩
 by_cases h1:64<n
 ·have hE:Hid (((18446744073709551615:Nat):Int)=(lowF n:Nat)):=by
   show _=_
   unfold lowF Br7
   rw[show min n.toNat 64=64 by omega]
  go_enter Tryz.func150,Tryz.ntmps150
  go_wp2
  all_goals (first|omega|skip)
  all_goals
   go_ret
   exact⟨Ab7 hE.out,rfl⟩
 ·obtain⟨k,rfl⟩:∃k:Nat,n=k:=⟨n.toNat,by omega⟩
  have hk:1<=k/\k<=64:=by omega
  obtain⟨hk1,hk2⟩:=hk
  have hE:Hid (IntKind.u64.wrap (IntKind.u64.wrap (2 ^ k) - 1)=(lowF (k:Int):Nat)):=by
   show _=_
   unfold lowF Br7
   rw[low_wrap hk2,show min (k:Int).toNat 64=k by omega]
  go_enter Tryz.func150,Tryz.ntmps150
  go_wp2
  all_goals (first|omega|skip)
  all_goals
   go_ret
   exact⟨Ab7 hE.out,rfl⟩
def zero8:Array Value:=#[.int .u64 0,.int .u64 0,.int .u64 0,.int .u64 0,.int .u64 0,.int .u64 0,.int .u64 0,.int .u64 0]
def Ret8 (w:World) (g:Nat->Bool) (e:Ending) (w':World):Prop:=e=.returned (.agg (wsA g))/\Below w.heap.size w w'
structure Two8 (w wr:World) (d0 d1:Nat) (g:Nat->Bool):Prop where
 own:Block wr d0 174 (wsA g)
 res:Block wr d1 174 zero8
 below:Below w.heap.size w wr
 low0:w.heap.size<=d0
 low1:w.heap.size<=d1
 ne:d0≠d1
theorem Two8.drewN {w wr:World} {d0 d1:Nat} {g:Nat->Bool} (h:Two8 w wr d0 d1 g) (n:Nat):Two8 w (wr.drewN n) d0 d1 g :=
 ⟨h.own.only (Only.drewN [] _ _) (by simp),h.res.only (Only.drewN [] _ _) (by simp),Aa4 h.below n,h.low0,h.low1,h.ne⟩
theorem Two8.drew {w wr:World} {d0 d1:Nat} {g:Nat->Bool} (h:Two8 w wr d0 d1 g):Two8 w wr.drew d0 d1 g:=h.drewN 1
theorem Two8.put {w wr:World} {d0 d1:Nat} {f g:Nat->Bool} (h:Two8 w wr d0 d1 f) {i:Nat} (hg:∀j,j<8->j≠i->wd f j=wd g j):Two8 w (wr.setCell ⟨d0,i,none⟩ (.int .u64 (wd g i))) d0 d1 g:=by
 have hs:=h.own.set i (.int .u64 (wd g i))
 have e:(wsA f).setIfInBounds i (.int .u64 (wd g i))=wsA g:=by
  unfold wsA
  rw[J1,By0 hg]
 rw[e] at hs
 have ho:=Only.setCell wr ⟨d0,i,none⟩ (.int .u64 (wd g i))
 exact⟨hs,h.res.only ho (by simpa using h.ne.symm),h.below.trans (ho.below h.below.size (by simpa using h.low0)),h.low0,h.low1,h.ne⟩
theorem two8_at (w:World) (f:Nat->Bool):Two8 w ((w.alloc (.cells (wsA f) 174)).alloc (.cells #[.int .u64 0,.int .u64 0,.int .u64 0,.int .u64 0,.int .u64 0,.int .u64 0,.int .u64 0,.int .u64 0] 174)) w.heap.size (w.heap.size+1) f:=by
 refine⟨(Block.made w _ _).alloc _,?_,((Below.refl _ _).alloc (J5 _) _).alloc (by simp) _,J5 _,by omega,by omega⟩
 have h:(w.alloc (.cells (wsA f) 174)).heap.size=w.heap.size+1:=by simp
 have:=Block.made (w.alloc (.cells (wsA f) 174)) 174 zero8
 rw[h] at this
 exact this
def mixF (f g:Nat->Bool) (k:Nat):Nat->Bool:=fun c=>if c<64*k then g c else f c
theorem Cb0 (f g:Nat->Bool):mixF f g 0=f:=by funext c;simp[mixF]
theorem mix_at (f g:Nat->Bool) (k:Nat):wd (mixF f g k) k=wd f k:=As1 fun j hj=>by unfold mixF;rw[if_neg (by omega)]
theorem Ca9 (f g:Nat->Bool) (k:Nat):wd (mixF f g (k+1)) k=wd g k:=As1 fun j hj=>by unfold mixF;rw[if_pos (by omega)]
theorem Bt9 (f g:Nat->Bool) (k:Nat):∀j,j<8->j≠k->wd (mixF f g k) j=wd (mixF f g (k+1)) j:=fun j _ hne=>As1 fun i hi=>by
 unfold mixF
 by_cases h:j<k
 ·rw[if_pos (by omega),if_pos (by omega)]
 ·rw[if_neg (by omega),if_neg (by omega)]
theorem Cj4 (f g:Nat->Bool):wsA (mixF f g 8)=wsA g:=by
 unfold wsA
 rw[ws_congr (f:=mixF f g 8) (g:=g) fun c hc=>by unfold mixF;rw[if_pos (by omega)]]
theorem blk {w:World} {g:Nat} {t:TypeId} {cs:Array Value} (h:Block w g t cs):w.heap[g]?=some (.cells cs t (0,0)):=h
theorem end8 {fn:Func} {p:Tmp} (h:fn.results=#[.cell p 174]) {a:Act} {w w1:World} {d:Nat} {t:TypeId} {g:Nat->Bool} (hp:a.tmps.getD p undef=.pointer (some ⟨d,0,none⟩)) (hd:a.defers=[])
  (hb:Block w1 d t (wsA g)) (hbel:Below w.heap.size w w1):bodyPost Tryz.prog fn (Ret8 w g) .ret a w1 :=
 bodyPost_ret (results_cell_row h _ _ _ _ _ _ _ hp hb Tryz.underlying174 rfl (Au8 g)) hd ⟨rfl,hbel⟩
theorem Ba8 (f:Nat->Bool) (a b:Int) (ha:-1000<=a/\a<=1000) (hb:-1000<=b/\b<=1000) (w:World) :
  Calls Tryz.prog 107 #[.agg (wsA f),.int .i64 a,.int .i64 b] w (Ret8 w (inF f a b)):=by
 have h0:=two8_at w f
 obtain⟨a0,a1⟩:=ha
 obtain⟨b0,b1⟩:=hb
 go_enter Tryz.func107,Tryz.ntmps107
 go_wp2
 generalize ((w.alloc (.cells (wsA f) 174)).alloc (.cells #[.int .u64 0,.int .u64 0,.int .u64 0,.int .u64 0,.int .u64 0,.int .u64 0,.int .u64 0,.int .u64 0] 174))=w0 at h0 |-
 generalize w.heap.size+1=d1 at h0 |-
 obtain⟨d0,hd0⟩:∃d0,d0=w.heap.size:=⟨_,rfl⟩
 have h1:Two8 w w0 d0 d1 (mixF f (inF f a b) 0):=by rw[Cb0,hd0];exact h0
 rw[<- hd0]
 clear h0 hd0
 replace h1:=J0 h1
 go_loopw [9] (fun i wr=>∃k:Nat,k<=8/\i=.int .i64 k/\Hid (Two8 w wr d0 d1 (mixF f (inF f a b) k))) (fun i _=>8 - (intOf i).toNat)
 case atStart=>exact⟨0,by omega,rfl,h1⟩
 case round =>
  obtain⟨k,hk,rfl,hR⟩:=hrel
  by_cases hlt:k<8
  ·have hcell:=hR.out.own.cell k (Bx9 _ hlt)
   rw[mix_at] at hcell
   have hput:=J0 (hR.out.put (Bt9 f (inF f a b) k)).drew
   rw[Ca9] at hput
   have hfr:=hR.out.own.free k
   have hand:bits BinOp.and IntKind.u64 (wd f k:Nat) (bits BinOp.andNot IntKind.u64 (lowF (b - (k:Int)*64):Nat) (lowF (a - (k:Int)*64):Nat))=(wd (inF f a b) k:Nat):=by
    rw[Bi8 _ _ (Ca6 _) (Ca6 _),bits_and_u64_nat _ _ (Bi3 _ _) (Cn6 (Ca6 _)),<- wd_in,Int.mul_comm (k:Int) 64]
   have hB:=J0 Av2
   have hw1:IntKind.i64.wrap (b - (k:Int)*64)=b - (k:Int)*64:=IntWalk.i64_in _ (by omega)
   have hw2:IntKind.i64.wrap (a - (k:Int)*64)=a - (k:Int)*64:=IntWalk.i64_in _ (by omega)
   have hl1:-9223372036854775808<=b - (k:Int)*64/\b - (k:Int)*64<=9223372036854775807:=by omega
   have hl2:-9223372036854775808<=a - (k:Int)*64/\a - (k:Int)*64<=9223372036854775807:=by omega
   replace hl1:=J0 hl1
   replace hl2:=J0 hl2
   generalize wd (inF f a b) k=y at hput hand
   generalize wd f k=x at hcell hand
   clear hR
   go_wp2
   go_region_law (first
    |(go_simp;go_at_call 150;(first|(with_reducible refine(hB.out _ hl1.out.1 hl1.out.2 _).mono ?_)|(with_reducible refine(hB.out _ hl2.out.1 hl2.out.2 _).mono ?_));rintro e w5 ⟨rfl,rfl⟩))
   all_goals
    go_wp2
    go_roundw
    case rel=>exact⟨k+1,by omega,by go_num,hput⟩
    case measure=>simp[intOf];omega
  ·obtain rfl:k=8:=by omega
   have hown:=hR.out.own
   have hres:=hR.out.res
   have hlow:=hR.out.low1
   have hbel:=hR.out.below
   rw[Cj4] at hown
   have hinf:=Au8 (inF f a b)
   have hsz:zero8.size=(wsA (inF f a b)).size:=by rw[Ao8];rfl
   clear hR
   replace hown:=J0 hown
   replace hres:=J0 hres
   replace hinf:=J0 hinf
   replace hsz:=J0 hsz
   go_wp2_with (first
    |(with_reducible refine J9 29 3 ?_;go_must (refine wpList_load_row rfl _ (.tmp 3) rfl d0 rfl _ (wsA (inF f a b)) (0,0) _ (blk hown.out) Tryz.underlying174 rfl hinf.out ?_))
    |(with_reducible refine J8 6 ?_;go_must (refine Aa3 rfl _ (.tmp 6) (.tmp 29) rfl hres.out (wsA (inF f a b)) rfl rfl hinf.out hsz.out (Bv7 _) ?_);intro w1 hd1 ho1))
   exact end8 Tryz.results107 rfl rfl hd1 (Ag3 hbel ho1 hlow)
def orF (f h:Nat->Bool):Nat->Bool:=fun c=>f c || h c
def Al5:Nat->Bool:=fun c=>c % 8 == 0
theorem eight_wd (k:Nat):wd Al5 k=72340172838076673 :=
 (Ce8 (by decide) fun j hj=>by
  have h:∀j:Fin 64,(72340172838076673:Nat).testBit j.val=(j.val % 8 == 0):=by decide
  rw[h ⟨j,hj⟩]
  unfold Al5
  simp only
  rw[show (64*k+j) % 8=j % 8 by omega]).symm
theorem none_wd (k:Nat):wd (fun _=>false) k=0:=wd_zero fun _ _=>rfl
theorem Ck2:wsA (fun _=>false)=zero8:=by
 unfold wsA wsL zero8
 simp[none_wd,List.range_succ]
def freshF (a b:Int):Nat->Bool:=inF (putF Al5 0 false) a b
theorem two8_swap (w:World):Two8 w ((w.alloc (.cells #[.int .u64 0,.int .u64 0,.int .u64 0,.int .u64 0,.int .u64 0,.int .u64 0,.int .u64 0,.int .u64 0] 174)).alloc (.cells #[.int .u64 0,.int .u64 0,.int .u64 0,.int .u64 0,.int .u64 0,.int .u64 0,.int .u64 0,.int .u64 0] 174)) (w.heap.size+1) w.heap.size (fun _=>false):=by
 have h:(w.alloc (.cells zero8 174)).heap.size=w.heap.size+1:=by simp
 have b:=Block.made (w.alloc (.cells zero8 174)) 174 zero8
 rw[h] at b
 exact⟨by rw[Ck2];exact b,(Block.made w _ zero8).alloc _,((Below.refl _ _).alloc (J5 _) _).alloc (by simp) _,by omega,J5 _,by omega⟩
theorem bit_ws (f:Nat->Bool) (c:Nat) (b:Bool):(wsA f).setIfInBounds (c / 64) (.int .u64 (wd (putF f c b) (c / 64)))=wsA (putF f c b):=by
 unfold wsA
 rw[J1,By0 fun j _ hne=>(Cd5 f c b hne).symm]
theorem Bf0 (a b:Int) (ha:-1000<=a/\a<=1000) (hb:-1000<=b/\b<=1000) (w:World) :
  Calls Tryz.prog 82 #[.int .i64 a,.int .i64 b] w (Ret8 w (freshF a b)):=by
 have h0:=two8_swap w
 rw[<- Cb0 (fun _=>false) Al5] at h0
 go_enter Tryz.func82,Tryz.ntmps82
 go_wp2
 generalize ((w.alloc (.cells #[.int .u64 0,.int .u64 0,.int .u64 0,.int .u64 0,.int .u64 0,.int .u64 0,.int .u64 0,.int .u64 0] 174)).alloc (.cells #[.int .u64 0,.int .u64 0,.int .u64 0,.int .u64 0,.int .u64 0,.int .u64 0,.int .u64 0,.int .u64 0] 174))=w0 at h0 |-
 generalize w.heap.size+1=d0 at h0 |-
 obtain⟨d1,hd1⟩:∃d1,d1=w.heap.size:=⟨_,rfl⟩
 rw[<- hd1] at h0 |-
 have h1:Two8 w w0 d0 d1 (mixF (fun _=>false) Al5 0):=h0
 clear h0 hd1
 replace h1:=J0 h1
 go_loopw [7] (fun i wr=>∃k:Nat,k<=8/\i=.int .i64 k/\Hid (Two8 w wr d0 d1 (mixF (fun _=>false) Al5 k))) (fun i _=>8 - (intOf i).toNat)
 case atStart=>exact⟨0,by omega,rfl,h1⟩
 case round =>
  obtain⟨k,hk,rfl,hR⟩:=hrel
  by_cases hlt:k<8
  ·have hcell:=hR.out.own.cell k (Bx9 _ hlt)
   have hput:=J0 (hR.out.put (Bt9 (fun _=>false) Al5 k))
   rw[Ca9,eight_wd] at hput
   have hfr:=hR.out.own.free k
   clear hR
   go_wp2
   go_roundw
   case rel=>exact⟨k+1,by omega,by go_num,hput⟩
   case measure=>simp[intOf];omega
  ·obtain rfl:k=8:=by omega
   have hown:=hR.out.own
   have hres:=hR.out.res
   have hlow:=hR.out.low1
   have hlow0:=hR.out.low0
   have hbel:=hR.out.below
   have hne:=hR.out.ne
   rw[Cj4] at hown
   have hcl:=J0 (Be3 Al5 0 (by omega) d0 0 174 (wsA Al5) wr hown (Bx9 Al5 (by omega)))
   have hwi:=J0 (Ba8 (putF Al5 0 false) a b ha hb)
   have hinf:=Au8 (putF Al5 0 false)
   have hinf2:=Au8 (freshF a b)
   have hsz:zero8.size=(wsA (freshF a b)).size:=by rw[Ao8];rfl
   clear hR
   replace hres:=J0 hres
   replace hinf:=J0 hinf
   replace hinf2:=J0 hinf2
   replace hsz:=J0 hsz
   go_wp2_with fail
   refine hcl.out.mono ?_
   rintro e w1 ⟨⟨v1,rfl⟩,hb1,ho1⟩
   have e0:=bit_ws Al5 0 false
   simp only[Nat.zero_div,Nat.zero_add] at hb1 e0
   rw[e0] at hb1
   have hres1:=J0 (hres.out.only ho1 (by simpa using hne.symm))
   have hbel1:=J0 (Ag3 hbel ho1 hlow0)
   replace hb1:=J0 hb1
   clear ho1 hown e0 hcl
   go_wp2_with (first
    |(with_reducible refine J9 14 5 ?_;go_must (refine wpList_load_row rfl _ (.tmp 5) rfl d0 rfl _ (wsA (putF Al5 0 false)) (0,0) _ (blk hb1.out) Tryz.underlying174 rfl hinf.out ?_))
    |(go_at_call 107;(with_reducible refine(hwi.out _).mono ?_);rintro e w2 ⟨rfl,hb2⟩)
    |(with_reducible refine J8 4 ?_;go_must (refine Aa3 rfl _ (.tmp 4) (.tmp 17) rfl (hres1.out.only (Only.of_below hb2 []) (by simp)) (wsA (freshF a b)) rfl rfl hinf2.out hsz.out (Bv7 _) ?_);intro w3 hd3 ho3))
   exact end8 Tryz.results82 rfl rfl hd3 (Ag3 (Aa0 hbel1.out hb2) ho3 hlow)
end Go.Proofs.YtecnpoigegiooaaGreatDoor.Tbs
namespace Go.Proofs.YtecnpoigegiooaaGreatDoor.Tbs
open Go
def sts (f:Nat->Bool) (n:Nat):List Nat:=(List.range n).filter f
theorem sts_succ (f:Nat->Bool) (n:Nat):sts f (n+1)=sts f n++if f n=true then [n] else []:=by
 unfold sts
 rw[List.range_succ,List.filter_append]
 congr 1
 by_cases h:f n=true<;>simp[h]
theorem Cn4 {f:Nat->Bool} {n:Nat} (h:f n=true):sts f (n+1)=sts f n++[n]:=by rw[sts_succ,if_pos h]
theorem sts_no {f:Nat->Bool} {n:Nat} (h:f n=false):sts f (n+1)=sts f n:=by rw[sts_succ,if_neg (by simp[h]),List.append_nil]
theorem Bx7 {f:Nat->Bool} {p:Nat}:∀q,p<=q->(∀c,p<=c->c<q->f c=false)->sts f q=sts f p
 |0,h,_=>by
  obtain rfl:p=0:=by omega
  rfl
 |q+1,h,hf=>by
  by_cases e:p=q+1
  ·rw[e]
  ·rw[sts_no (hf q (by omega) (by omega)),Bx7 q (by omega) fun c h1 h2=>hf c h1 (by omega)]
theorem Bq1 (f:Nat->Bool) {p:Nat}:∀q,p<=q->∃t,sts f q=sts f p++t
 |0,h=>by
  obtain rfl:p=0:=by omega
  exact⟨[],by simp⟩
 |q+1,h=>by
  by_cases e:p=q+1
  ·subst e;exact⟨[],by simp⟩
  ·obtain⟨t,ht⟩:=Bq1 f (p:=p) q (by omega)
   exact⟨t++if f q=true then [q] else [],by rw[sts_succ,ht,List.append_assoc]⟩
theorem Cr5 (f:Nat->Bool) {p q:Nat} (h:p<=q):(sts f p).length<=(sts f q).length:=by
 obtain⟨t,ht⟩:=Bq1 f q h
 rw[ht,List.length_append]
 omega
theorem Aq4 (f:Nat->Bool) (n:Nat):(sts f n).length<=n:=by
 have:=List.length_filter_le f (List.range n)
 rwa [List.length_range] at this
theorem Ch0:∀(n x:Nat),ds 2 n x=((List.range n).filter x.testBit).length
 |0,x=>rfl
 |n+1,x=>by
  rw[List.range_succ_eq_map,List.filter_cons,List.filter_map,]
  have e:(x.testBit ∘ Nat.succ)=(x / 2).testBit:=by
   funext j
   exact Nat.testBit_succ x j
  rw[e]
  show x % 2+ds 2 n (x / 2)=_
  rw[Ch0 n (x / 2),Nat.testBit_zero]
  by_cases h:x % 2=1
  ·simp only[h,decide_true,if_true,List.length_cons,List.length_map]
   omega
  ·simp only[h,decide_false]
   simp
   omega
theorem sts_add (f:Nat->Bool) (a:Nat):∀n,(sts f (a+n)).length=(sts f a).length+((List.range n).filter fun j=>f (a+j)).length
 |0=>by simp
 |n+1=>by
  rw[<- Nat.add_assoc,sts_succ,List.length_append,sts_add f a n,List.range_succ,List.filter_append,List.length_append]
  by_cases h:f (a+n)=true<;>simp[h]<;>omega
theorem Cl0 (f:Nat->Bool) (i:Nat):(sts f (64*i)).length+ds 2 64 (wd f i)=(sts f (64*(i+1))).length:=by
 rw[Nat.mul_add,Nat.mul_one,sts_add,Ch0]
 congr 2
 exact List.filter_congr fun j hj=>by
  have:=List.mem_range.1 hj
  rw[wd_bit]
  simp[this]
def rest (f:Nat->Bool) (p:Nat):Nat->Bool:=fun c=>f c && decide (p<=c)
theorem rest_zero (f:Nat->Bool):rest f 0=f:=by funext c;simp[rest]
theorem Cc2 {f:Nat->Bool} {p q:Nat} (h:p<=q) (hf:∀c,p<=c->c<q->f c=false):rest f p=rest f q:=by
 funext c
 unfold rest
 by_cases h1:p<=c
 ·by_cases h2:c<q
  ·simp[hf c h1 h2]
  ·have:q<=c:=by omega
   simp[h1,this]
 ·have:¬q<=c:=by omega
  simp[h1,this]
theorem rest_word {f:Nat->Bool} {p i:Nat} (h:p<=64*i):wd (rest f p) i=wd f i:=As1 fun j hj=>by
 unfold rest
 have:p<=64*i+j:=by omega
 simp[this]
theorem sts_same {f:Nat->Bool} {p q:Nat} (h:(sts f q).length=(sts f p).length):∀c,p<=c->c<q->f c=false:=by
 intro c h1 h2
 by_cases hc:f c=true
 ·have a:=Cr5 f h1
  have b:=Cr5 f (show c+1<=q from h2)
  rw[Cn4 hc,List.length_append,List.length_singleton] at b
  omega
 ·simpa using hc
theorem next_stop {f:Nat->Bool} {p i:Nat} (h0:64*i<=p) (h1:p<=64*(i+1)) (hlt:(sts f p).length<(sts f (64*(i+1))).length) :
  wd (rest f p) i≠0/\∃c,c=64*i+Lib.ctz 64 (wd (rest f p) i)/\p<=c/\c<64*(i+1)/\c / 64=i/\sts f (c+1)=sts f p++[c]/\putF (rest f p) c false=rest f (c+1):=by
 have hne:wd (rest f p) i≠0:=by
  intro he
  have:sts f (64*(i+1))=sts f p:=Bx7 _ h1 fun c hc1 hc2=>by
   have hb:=wd_bit (rest f p) i (c - 64*i)
   rw[he,Nat.zero_testBit,show 64*i+(c - 64*i)=c by omega] at hb
   have h64:c - 64*i<64:=by omega
   simp[h64,rest,hc1] at hb
   exact hb
  rw[this] at hlt
  omega
 obtain⟨k1,k2,k3⟩:=ctz_bit (Bi3 (rest f p) i) hne
 generalize Lib.ctz 64 (wd (rest f p) i)=k at k1 k2 k3
 rw[wd_bit] at k2
 simp only[k1,decide_true,Bool.true_and] at k2
 have hp:p<=64*i+k/\f (64*i+k)=true:=by
  unfold rest at k2
  simp at k2
  exact⟨k2.2,k2.1⟩
 have hgap:∀c,p<=c->c<64*i+k->f c=false:=fun c hc1 hc2=>by
  have hb:=k3 (c - 64*i) (by omega)
  rw[wd_bit,show 64*i+(c - 64*i)=c by omega] at hb
  have h64:c - 64*i<64:=by omega
  simp[h64,rest,hc1] at hb
  exact hb
 refine⟨hne,_,rfl,hp.1,by omega,by omega,?_,?_⟩
 ·rw[Cn4 hp.2,Bx7 _ hp.1 hgap]
 ·rw[Cc2 hp.1 hgap]
  funext c
  unfold putF rest
  by_cases e:c=64*i+k
  ·rw[if_pos e,e]
   have:¬64*i+k+1<=64*i+k:=by omega
   simp
  ·rw[if_neg e]
   have:decide (64*i+k<=c)=decide (64*i+k+1<=c):=by rw[decide_eq_decide];omega
   rw[this]
theorem sts_get {f:Nat->Bool} {p c n:Nat} (h:sts f (c+1)=sts f p++[c]) (hc:c+1<=n):(sts f n)[(sts f p).length]?=some c:=by
 obtain⟨t,ht⟩:=Bq1 f n hc
 rw[ht,h,List.append_assoc,List.getElem?_append_right (J5 _),Nat.sub_self]
 rfl
end Go.Proofs.YtecnpoigegiooaaGreatDoor.Tbs
namespace Go.Proofs.YtecnpoigegiooaaGreatDoor.Tbs
open Go RowKit Com
def Num (w:World) (n:Nat) (e:Ending) (w':World):Prop:=e=.returned (.int .i64 n)/\Below w.heap.size w w'
theorem Ad5 (f:Nat->Bool) (w:World):Calls Tryz.prog 231 #[.agg (wsA f)] w (Num w (sts f 512).length):=by
 have hb0:=Block.made w 174 (wsA f)
 have hbel:=Aa1 w (.cells (wsA f) 174)
 go_enter Tryz.func231,Tryz.ntmps231
 go_wp2
 generalize w.alloc (.cells (wsA f) 174)=w0 at hb0 hbel |-
 obtain⟨d0,hd0⟩:∃d0,d0=w.heap.size:=⟨_,rfl⟩
 rw[<- hd0] at hb0 |-
 clear hd0
 replace hb0:=J0 hb0
 replace hbel:=J0 hbel
 go_loop [3,5] (fun n i=>∃(k t:Nat),k<=8/\i=.int .i64 k/\n=.int .i64 t/\t<=512/\Hid (t=(sts f (64*k)).length)) (fun _ i=>8 - (intOf i).toNat)
 case atStart=>exact⟨0,0,by omega,rfl,rfl,by omega,J0 rfl⟩
 case round =>
  obtain⟨k,t,hk,rfl,rfl,ht0,hT⟩:=hrel
  by_cases hlt:k<8
  ·have hcell:=hb0.out.cell k (Bx9 f hlt)
   have hon:=J0 (fun w=>Cb4 (wd f k) (Bi3 f k) w)
   have hpop:=Cl0 f k
   rw[<- hT.out] at hpop
   have hle:=Aq4 f (64*(k+1))
   have hd:ds 2 64 (wd f k)<=512:=by omega
   have ht2:t+ds 2 64 (wd f k)<=512:=by omega
   generalize wd f k=x at hcell hon hpop hd ht2
   generalize ds 2 64 x=m at hon hpop hd ht2
   replace hpop:=J0 hpop
   clear hT hle
   go_wp2_with ((go_at_call 269;(with_reducible refine(hon.out _).mono ?_);rintro e w' ⟨rfl,rfl⟩))
   go_round
   case rel=>exact⟨k+1,t+m,by omega,by go_num,by go_num,ht2,hpop⟩
   case measure=>simp[intOf];omega
  ·obtain rfl:k=8:=by omega
   go_wp2
   go_ret
   exact⟨Ab7 (by rw[hT.out]),hbel.out⟩
structure At8 (w wr:World) (d0:Nat) (f:Nat->Bool) (p:Nat):Prop where
 own:Block wr d0 174 (wsA (rest f p))
 below:Below w.heap.size w wr
 low:w.heap.size<=d0
theorem At8.gap {w wr:World} {d0:Nat} {f:Nat->Bool} {p q:Nat} (h:At8 w wr d0 f p) (hpq:p<=q) (hf:∀c,p<=c->c<q->f c=false):At8 w wr d0 f q:=by
 have:=h.own
 rw[Cc2 hpq hf] at this
 exact⟨this,h.below,h.low⟩
theorem At8.cleared {w wr w':World} {d0:Nat} {f:Nat->Bool} {p c:Nat} (h:At8 w wr d0 f p) (hc:putF (rest f p) c false=rest f (c+1)) {e:Ending} (hb:Bit wr d0 0 174 (wsA (rest f p)) (rest f p) c false e w'):At8 w w' d0 f (c+1):=by
 obtain⟨_,h1,h2⟩:=hb
 rw[Nat.zero_add,bit_ws,hc] at h1
 exact⟨h1,Ag3 h.below h2 h.low,h.low⟩
structure InW (f:Nat->Bool) (k j p t:Nat):Prop where
 lo:64*k<=p
 hi:p<=64*(k+1)
 len:t=(sts f p).length
 add:t=(sts f (64*k)).length+j
theorem nth_succ (f:Nat->Bool) (n:Nat) (h2:n+1<=(sts f 512).length) (w:World) (T:Tab w):Calls Tryz.prog 232 #[.agg (wsA f),.int .i64 ((n:Int)+1)] w (Num w ((sts f 512).getD n 0)):=by
 have hb0:=Block.made w 174 (wsA f)
 have hbel:=Aa1 w (.cells (wsA f) 174)
 have hn:=Aq4 f 512
 have hn5:n<512:=by omega
 clear hn
 replace h2:=J0 h2
 go_enter Tryz.func232,Tryz.ntmps232
 go_wp2
 generalize w.alloc (.cells (wsA f) 174)=w0 at hb0 hbel |-
 obtain⟨d0,hd0⟩:∃d0,d0=w.heap.size:=⟨_,rfl⟩
 rw[<- hd0] at hb0 |-
 have hA:Hid (At8 w w0 d0 f 0):=J0 ⟨by rw[rest_zero];exact hb0,hbel,by omega⟩
 clear hd0 hb0 hbel
 replace T:=J0 T
 go_step3
 go_wp2
 go_step3
 go_wp2
 go_loopg [1,5,7] 8 (fun g m c i wr=>∃(k t r:Nat) (x:Int),k+g=8/\i=.int .i64 k/\c=.int .i64 x/\m=.int .i64 ((r:Int)+1)/\Hid (t+r=n)/\r<=512/\Hid (t=(sts f (64*k)).length)/\Hid (At8 w wr d0 f (64*k)))
 case atStart=>exact⟨0,0,n,0,by omega,rfl,rfl,by simp,J0 (by omega),by omega,J0 rfl,hA⟩
 case round =>
  obtain⟨k,t,r,x,hk,rfl,rfl,rfl,htr,hr5,hT,hW⟩:=hrel
  cases gk with
  |zero =>
   exfalso
   obtain rfl:k=8:=by omega
   have e1:=hT.out
   have e2:=h2.out
   have e3:=htr.out
   simp only[show 64*8=512 from rfl] at e1
   omega
  |succ g =>
   have hlt:k<8:=by omega
   have hcell:=hW.out.own.cell k (Bx9 _ hlt)
   rw[rest_word (J5 _)] at hcell
   have hon:=J0 (fun w=>Cb4 (wd f k) (Bi3 f k) w)
   have hpop:=Cl0 f k
   have hle:=Aq4 f (64*(k+1))
   have hd:ds 2 64 (wd f k)<=512:=by omega
   generalize wd f k=y at hcell hon hpop hd
   generalize ds 2 64 y=N at hon hpop hd
   replace hpop:=J0 hpop
   clear hle
   replace hk:=J0 hk
   go_wp2_with ((go_at_call 269;(with_reducible refine(hon.out _).mono ?_);rintro e w' ⟨rfl,rfl⟩))
   clear hcell hon
   go_loopg [1,5,14] N (fun g m c i wr=>∃(j p t r:Nat) (x:Int),j+g=N/\i=.int .i64 j/\c=.int .i64 x/\m=.int .i64 ((r:Int)+1)/\Hid (t+r=n)/\r<=512/\Hid (InW f k j p t)/\Hid (At8 w wr d0 f p))
   case atStart=>exact⟨0,64*k,t,r,x,by omega,rfl,rfl,rfl,htr,hr5,J0 ⟨J5 _,by omega,hT.out,hT.out⟩,hW⟩
   case round =>
    clear htr hT hW
    obtain⟨j,p,t,r,x,hj,rfl,rfl,rfl,htr,hr5,hI,hW⟩:=hrel
    cases gk with
    |zero =>
     have hj0:¬((j:Int)<(N:Int)):=by omega
     obtain rfl:j=N:=by omega
     have hlen:(sts f (64*(k+1))).length=(sts f p).length:=by
      have e1:=hI.out.len
      have e2:=hI.out.add
      have e3:=hpop.out
      omega
     have hW2:=J0 (hW.out.gap hI.out.hi (sts_same hlen))
     have hT2:Hid (t=(sts f (64*(k+1))).length):=J0 (by rw[hlen];exact hI.out.len)
     clear hW hI hpop hlen
     go_wp2
     go_roundg g
     case measure=>omega
     case rel=>exact⟨k+1,t,r,x,by have:=hk.out;omega,by go_num,rfl,rfl,htr,hr5,hT2,hW2⟩
    |succ g2 =>
     have hj0:(j:Int)<(N:Int):=by omega
     have hnx:=next_stop hI.out.lo hI.out.hi (by rw[<- hI.out.len,hI.out.add,<- hpop.out];omega)
     obtain⟨hne,c,hc,hpc,hcl,hck,hs,hput⟩:=hnx
     have hcell:=hW.out.own.cell k (Bx9 _ hlt)
     have htz:=J0 (fun w T=>tz_any (wd (rest f p) k) (Bi3 _ _) hne w T)
     have hclr:=J0 (Be3 (rest f p) c (by omega) d0 0 174 (wsA (rest f p)) _ hW.out.own (by rw[Nat.zero_add];exact Bx9 _ (by omega)))
     have hcv:(k:Int)*64+(Lib.ctz 64 (wd (rest f p) k):Nat)=(c:Int):=by omega
     have hTw:=J0 (T.out.below hW.out.below)
     have hc5:c<512:=by omega
     have hI2:Hid (InW f k (j+1) (c+1) (t+1)):=J0 ⟨by have:=hI.out.lo;omega,by omega,by rw[hs,List.length_append,<- hI.out.len];rfl,by have:=hI.out.add;omega⟩
     have hans:Hid ((sts f 512).getD t 0=c):=J0 (by
      have:=sts_get hs (show c+1<=512 by omega)
      rw[<- hI.out.len] at this
      rw[List.getD_eq_getElem?_getD,this]
      rfl)
     generalize Lib.ctz 64 (wd (rest f p) k)=z at htz hcv
     generalize wd (rest f p) k=y at hcell htz
     replace hput:=J0 hput
     clear hne hc hs hI hpop hpc hcl hck
     by_cases hr:r=0
     ·subst hr
      have htn:Hid (t=n):=J0 (by have:=htr.out;omega)
      have hbel:=J0 hW.out.below
      clear hclr hW
      go_wp2_with (first
       |(go_at_call 270;(with_reducible refine(htz.out _ hTw.out).mono ?_);rintro e w' ⟨rfl,rfl⟩))
      try rw[Exit.noGoto_ret]
      go_ret
      exact⟨Ab7 (by rw[<- htn.out,hans.out]),hbel.out⟩
     ·obtain⟨r,rfl⟩:∃r',r=r'+1:=⟨r - 1,by omega⟩
      have hrn:(((r+1:Nat):Int) == 0)=false:=by simp;omega
      have htr2:Hid (t+1+r=n):=J0 (by have:=htr.out;omega)
      clear htr hans
      go_wp2_with (first
       |(go_at_call 270;(with_reducible refine(htz.out _ hTw.out).mono ?_);rintro e w' ⟨rfl,rfl⟩)
       |(go_at_call 106;(with_reducible refine(hclr.out).mono ?_);rintro e w' ⟨⟨v',rfl⟩,hb',ho'⟩))
      have hW2:Hid (At8 w w' d0 f (c+1)):=J0 (hW.out.cleared hput.out (e:=.returned v') ⟨⟨v',rfl⟩,hb',ho'⟩)
      clear hb' ho' hW
      go_roundg g2
      case measure=>omega
      case rel=>exact⟨j+1,c+1,t+1,r,c,by omega,by go_num,rfl,by go_num,htr2,by omega,hI2,hW2⟩
theorem Ck3 (f:Nat->Bool) (n:Nat) (h1:1<=n) (h2:n<=(sts f 512).length) (w:World) (T:Tab w):Calls Tryz.prog 232 #[.agg (wsA f),.int .i64 n] w (Num w ((sts f 512).getD (n - 1) 0)):=by
 obtain⟨n,rfl⟩:∃m,n=m+1:=⟨n - 1,by omega⟩
 exact nth_succ f n h2 w T
theorem elemI:Elem Tryz.prog 47 3 .i64 8:=by
 have h:(Tryz.prog.info? 3).map (fun i=>(i.zero,i.size,i.bytes))=some (some (.int .i64 0),1,8):=by kernel_rfl
 obtain⟨i,h0,h1,h2,h3⟩:=info_parts h
 exact⟨Tryz.underlying47,i,h0,h1,h2,h3⟩
def Ct2 (w:World) (l:List Int) (e:Ending) (w':World):Prop:=∃v,e=.returned v/\Own w' w.heap.size 3 .i64 v l/\Below w.heap.size w w'
