/- Part 16 of HostKeys. -/
import Derived.Test.YtecnpoigegiooaaGreatDoorW15
import Derived.Deep.LoopGhost
import Derived.Deep.MidRow
set_option maxHeartbeats 16000000
set_option maxRecDepth 100000
namespace Go.Proofs.YtecnpoigegiooaaGreatDoor.Tbs
open Tryz
open Go RowKit Com
def Q8:Array Value:=#[.int .u64 0,.int .u64 0,.int .u64 0,.int .u64 0,.int .u64 0,.int .u64 0,.int .u64 0,.int .u64 0]
def Art(w:World)(g:Nat->Bool)(e:Ending)(w':World):Prop:=e=.returned (.agg (wsA g))/\Below w.heap.size w w'
structure Abd(w wr:World)(d0 d1:Nat)(g:Nat->Bool):Prop where
 own:Block wr d0 174 (wsA g)
 res:Block wr d1 174 Q8
 below:Below w.heap.size w wr
 Axz:w.heap.size<=d0
 Aya:w.heap.size<=d1
 ne:d0≠d1
theorem Abd.drewN{w wr:World}{d0 d1:Nat}{g:Nat->Bool}(h:Abd w wr d0 d1 g)(n:Nat):Abd w (wr.drewN n) d0 d1 g :=
 ⟨h.own.only (A0.drewN [] _ _) (by simp),h.res.only (A0.drewN [] _ _) (by simp),C7 h.below n,h.Axz,h.Aya,h.ne⟩
theorem Abd.drew{w wr:World}{d0 d1:Nat}{g:Nat->Bool}(h:Abd w wr d0 d1 g):Abd w wr.drew d0 d1 g:=h.drewN 1
theorem Abd.put{w wr:World}{d0 d1:Nat}{f g:Nat->Bool}(h:Abd w wr d0 d1 f){i:Nat}(hg:∀j,j<8->j≠i->wd f j=wd g j):Abd w (wr.setCell ⟨d0,i,none⟩ (.int .u64 (wd g i))) d0 d1 g:=by
 have hs:=h.own.set i (.int .u64 (wd g i))
 have e:(wsA f).setIfInBounds i (.int .u64 (wd g i))=wsA g:=by
  unfold wsA
  rw[J1,Bca hg]
 rw[e]at hs
 have ho:=A0.setCell wr ⟨d0,i,none⟩ (.int .u64 (wd g i))
 exact⟨hs,h.res.only ho (by simpa using h.ne.symm),h.below.trans (ho.below h.below.size (by simpa using h.Axz)),h.Axz,h.Aya,h.ne⟩
theorem Cmz(w:World)(f:Nat->Bool):Abd w ((w.alloc (.cells (wsA f) 174)).alloc (.cells #[.int .u64 0,.int .u64 0,.int .u64 0,.int .u64 0,.int .u64 0,.int .u64 0,.int .u64 0,.int .u64 0] 174)) w.heap.size (w.heap.size+1) f:=by
 refine⟨(Block.made w _ _).alloc _,?_,((Below.refl _ _).alloc (J5 _) _).alloc (by simp) _,J5 _,by omega,by omega⟩
 have h:(w.alloc (.cells (wsA f) 174)).heap.size=w.heap.size+1:=by simp
 have:=Block.made (w.alloc (.cells (wsA f) 174)) 174 Q8
 rw[h]at this
 exact this
def Aao(f g:Nat->Bool)(k:Nat):Nat->Bool:=fun c=>if c<64*k then g c else f c
theorem Bjr(f g:Nat->Bool):Aao f g 0=f:=by funext c;simp[Aao]
theorem Cpe(f g:Nat->Bool)(k:Nat):wd (Aao f g k) k=wd f k:=Ang fun j hj=>by unfold Aao;rw[if_neg (by omega)]
theorem Bjq(f g:Nat->Bool)(k:Nat):wd (Aao f g (k+1)) k=wd g k:=Ang fun j hj=>by unfold Aao;rw[if_pos (by omega)]
theorem Big(f g:Nat->Bool)(k:Nat):∀j,j<8->j≠k->wd (Aao f g k) j=wd (Aao f g (k+1)) j:=fun j _ hne=>Ang fun i hi=>by
 unfold Aao
 by_cases h:j<k
 ·rw[if_pos (by omega),if_pos (by omega)]
 ·rw[if_neg (by omega),if_neg (by omega)]
theorem Blz(f g:Nat->Bool):wsA (Aao f g 8)=wsA g:=by
 unfold wsA
 rw[Cin (f:=Aao f g 8) (g:=g) fun c hc=>by unfold Aao;rw[if_pos (by omega)]]
theorem blk{w:World}{g:Nat}{t:TypeId}{cs:Array Value}(h:Block w g t cs):w.heap[g]?=some (.cells cs t (0,0)):=h
theorem Bql{fn:Func}{p:Tmp}(h:fn.results=#[.cell p 174]){a:Act}{w w1:World}{d:Nat}{t:TypeId}{g:Nat->Bool}(hp:a.tmps.getD p undef=.pointer (some ⟨d,0,none⟩))(hd:a.defers=[])
  (hb:Block w1 d t (wsA g)) (F0:Below w.heap.size w w1):bodyPost prog fn (Art w g) .ret a w1 :=
 bodyPost_ret (results_cell_row h _ _ _ _ _ _ _ hp hb underlying174 rfl (Alf g)) hd ⟨rfl,F0⟩
theorem Azl(f:Nat->Bool)(a b:Int)(ha:-1000<=a/\a<=1000)(hb:-1000<=b/\b<=1000)(w:World) :
  Calls prog 107 #[.agg (wsA f),.int .i64 a,.int .i64 b] w (Art w (inF f a b)):=by
 have h0:=Cmz w f
 obtain⟨a0,a1⟩:=ha
 obtain⟨b0,b1⟩:=hb
 go_enter func107,ntmps107
 go_wp2
 generalize ((w.alloc (.cells (wsA f) 174)).alloc (.cells #[.int .u64 0,.int .u64 0,.int .u64 0,.int .u64 0,.int .u64 0,.int .u64 0,.int .u64 0,.int .u64 0] 174))=w0 at h0 |-
 generalize w.heap.size+1=d1 at h0 |-
 obtain⟨d0,hd0⟩:∃d0,d0=w.heap.size:=⟨_,rfl⟩
 have h1:Abd w w0 d0 d1 (Aao f (inF f a b) 0):=by rw[Bjr,hd0];exact h0
 rw[<- hd0]
 clear h0 hd0
 replace h1:=J0 h1
 go_loopw [9] (fun i wr=>∃k:Nat,k<=8/\i=.int .i64 k/\Hid (Abd w wr d0 d1 (Aao f (inF f a b) k))) (fun i _=>8-(intOf i).toNat)
 case atStart=>exact⟨0,by omega,rfl,h1⟩
 case round =>
  obtain⟨k,hk,rfl,hR⟩:=hrel
  by_cases hlt:k<8
  ·have E7:=hR.out.own.cell k (Alr _ hlt)
   rw[Cpe]at E7
   have E1:=J0 (hR.out.put (Big f (inF f a b) k)).drew
   rw[Bjq]at E1
   have hfr:=hR.out.own.free k
   have hand:bits BinOp.and IntKind.u64 (wd f k:Nat) (bits BinOp.andNot IntKind.u64 (Abh (b-(k:Int)*64):Nat) (Abh (a-(k:Int)*64):Nat))=(wd (inF f a b) k:Nat):=by
    rw[Bfz _ _ (Awj _) (Awj _),bits_and_u64_nat _ _ (Afd _ _) (Ab3 (Awj _)),<- Cta,Int.mul_comm (k:Int) 64]
   have hB:=J0 Aue
   have hw1:IntKind.i64.wrap (b-(k:Int)*64)=b-(k:Int)*64:=IntWalk.i64_in _ (by omega)
   have hw2:IntKind.i64.wrap (a-(k:Int)*64)=a-(k:Int)*64:=IntWalk.i64_in _ (by omega)
   have hl1:-9223372036854775808<=b-(k:Int)*64/\b-(k:Int)*64<=9223372036854775807:=by omega
   have hl2:-9223372036854775808<=a-(k:Int)*64/\a-(k:Int)*64<=9223372036854775807:=by omega
   replace hl1:=J0 hl1
   replace hl2:=J0 hl2
   generalize wd (inF f a b) k=y at E1 hand
   generalize wd f k=x at E7 hand
   clear hR
   go_wp2
   go_region_law (first
    |(go_simp;go_at_call 150;(first|(with_reducible refine(hB.out _ hl1.out.1 hl1.out.2 _).mono ?_)|(with_reducible refine(hB.out _ hl2.out.1 hl2.out.2 _).mono ?_));rintro e w5 ⟨rfl,rfl⟩))
   all_goals
    go_wp2
    go_roundw
    case rel=>exact⟨k+1,by omega,by go_num,E1⟩
    case measure=>simp[intOf];omega
  ·obtain rfl:k=8:=by omega
   have C0:=hR.out.own
   have A4:=hR.out.res
   have N1:=hR.out.Aya
   have F0:=hR.out.below
   rw[Blz]at C0
   have B9:=Alf (inF f a b)
   have hsz:Q8.size=(wsA (inF f a b)).size:=by rw[Ahp];rfl
   clear hR
   replace C0:=J0 C0
   replace A4:=J0 A4
   replace B9:=J0 B9
   replace hsz:=J0 hsz
   go_wp2_with (first
    |(with_reducible refine J9 29 3 ?_;go_must(refine wpList_load_row rfl _ (.tmp 3) rfl d0 rfl _ (wsA (inF f a b)) (0,0) _ (blk C0.out) underlying174 rfl B9.out ?_))
    |(with_reducible refine J8 6 ?_;go_must(refine L8 rfl _ (.tmp 6) (.tmp 29) rfl A4.out (wsA (inF f a b)) rfl rfl B9.out hsz.out (Ara _) ?_);intro w1 hd1 ho1))
   exact Bql results107 rfl rfl hd1 (Adp F0 ho1 N1)
def orF(f h:Nat->Bool):Nat->Bool:=fun c=>f c||h c
def Abt:Nat->Bool:=fun c=>c % 8==0
theorem Cdy(k:Nat):wd Abt k=72340172838076673 :=
 (Aoj (by decide) fun j hj=>by
  have h:∀j:Fin 64,(72340172838076673:Nat).testBit j.val=(j.val % 8==0):=by decide
  rw[h ⟨j,hj⟩]
  unfold Abt
  simp only
  rw[show(64*k+j) % 8=j % 8 by omega]).symm
theorem Clh(k:Nat):wd (fun _=>false) k=0:=Cne fun _ _=>rfl
theorem Bmg:wsA (fun _=>false)=Q8:=by
 unfold wsA wsL Q8
 simp[Clh,List.range_succ]
def Aaa(a b:Int):Nat->Bool:=inF (G5 Abt 0 false) a b
theorem Ccx(w:World):Abd w ((w.alloc (.cells #[.int .u64 0,.int .u64 0,.int .u64 0,.int .u64 0,.int .u64 0,.int .u64 0,.int .u64 0,.int .u64 0] 174)).alloc (.cells #[.int .u64 0,.int .u64 0,.int .u64 0,.int .u64 0,.int .u64 0,.int .u64 0,.int .u64 0,.int .u64 0] 174)) (w.heap.size+1) w.heap.size (fun _=>false):=by
 have h:(w.alloc (.cells Q8 174)).heap.size=w.heap.size+1:=by simp
 have b:=Block.made (w.alloc (.cells Q8 174)) 174 Q8
 rw[h]at b
 exact⟨by rw[Bmg];exact b,(Block.made w _ Q8).alloc _,((Below.refl _ _).alloc (J5 _) _).alloc (by simp) _,by omega,J5 _,by omega⟩
theorem Bnp(f:Nat->Bool)(c:Nat)(b:Bool):(wsA f).setIfInBounds (c/64) (.int .u64 (wd (G5 f c b) (c/64)))=wsA (G5 f c b):=by
 unfold wsA
 rw[J1,Bca fun j _ hne=>(Bkp f c b hne).symm]
theorem Azv(a b:Int)(ha:-1000<=a/\a<=1000)(hb:-1000<=b/\b<=1000)(w:World) :
  Calls prog 82 #[.int .i64 a,.int .i64 b] w (Art w (Aaa a b)):=by
 have h0:=Ccx w
 rw[<- Bjr (fun _=>false) Abt]at h0
 go_enter func82,ntmps82
 go_wp2
 generalize ((w.alloc (.cells #[.int .u64 0,.int .u64 0,.int .u64 0,.int .u64 0,.int .u64 0,.int .u64 0,.int .u64 0,.int .u64 0] 174)).alloc (.cells #[.int .u64 0,.int .u64 0,.int .u64 0,.int .u64 0,.int .u64 0,.int .u64 0,.int .u64 0,.int .u64 0] 174))=w0 at h0 |-
 generalize w.heap.size+1=d0 at h0 |-
 obtain⟨d1,hd1⟩:∃d1,d1=w.heap.size:=⟨_,rfl⟩
 rw[<- hd1]at h0 |-
 have h1:Abd w w0 d0 d1 (Aao (fun _=>false) Abt 0):=h0
 clear h0 hd1
 replace h1:=J0 h1
 go_loopw [7] (fun i wr=>∃k:Nat,k<=8/\i=.int .i64 k/\Hid (Abd w wr d0 d1 (Aao (fun _=>false) Abt k))) (fun i _=>8-(intOf i).toNat)
 case atStart=>exact⟨0,by omega,rfl,h1⟩
 case round =>
  obtain⟨k,hk,rfl,hR⟩:=hrel
  by_cases hlt:k<8
  ·have E7:=hR.out.own.cell k (Alr _ hlt)
   have E1:=J0 (hR.out.put (Big (fun _=>false) Abt k))
   rw[Bjq,Cdy]at E1
   have hfr:=hR.out.own.free k
   clear hR
   go_wp2
   go_roundw
   case rel=>exact⟨k+1,by omega,by go_num,E1⟩
   case measure=>simp[intOf];omega
  ·obtain rfl:k=8:=by omega
   have C0:=hR.out.own
   have A4:=hR.out.res
   have N1:=hR.out.Aya
   have Crn:=hR.out.Axz
   have F0:=hR.out.below
   have hne:=hR.out.ne
   rw[Blz]at C0
   have hcl:=J0 (Azr Abt 0 (by omega) d0 0 174 (wsA Abt) wr C0 (Alr Abt (by omega)))
   have hwi:=J0 (Azl (G5 Abt 0 false) a b ha hb)
   have B9:=Alf (G5 Abt 0 false)
   have Aaz:=Alf (Aaa a b)
   have hsz:Q8.size=(wsA (Aaa a b)).size:=by rw[Ahp];rfl
   clear hR
   replace A4:=J0 A4
   replace B9:=J0 B9
   replace Aaz:=J0 Aaz
   replace hsz:=J0 hsz
   go_wp2_with fail
   refine hcl.out.mono ?_
   rintro e w1 ⟨⟨v1,rfl⟩,hb1,ho1⟩
   have e0:=Bnp Abt 0 false
   simp only[Nat.zero_div,Nat.zero_add]at hb1 e0
   rw[e0]at hb1
   have Crq:=J0 (A4.out.only ho1 (by simpa using hne.symm))
   have Aia:=J0 (Adp F0 ho1 Crn)
   replace hb1:=J0 hb1
   clear ho1 C0 e0 hcl
   go_wp2_with (first
    |(with_reducible refine J9 14 5 ?_;go_must(refine wpList_load_row rfl _ (.tmp 5) rfl d0 rfl _ (wsA (G5 Abt 0 false)) (0,0) _ (blk hb1.out) underlying174 rfl B9.out ?_))
    |(go_at_call 107;(with_reducible refine(hwi.out _).mono ?_);rintro e w2 ⟨rfl,hb2⟩)
    |(with_reducible refine J8 4 ?_;go_must(refine L8 rfl _ (.tmp 4) (.tmp 17) rfl (Crq.out.only (A0.A1 hb2 []) (by simp)) (wsA (Aaa a b)) rfl rfl Aaz.out hsz.out (Ara _) ?_);intro w3 hd3 ho3))
   exact Bql results82 rfl rfl hd3 (Adp (A2 Aia.out hb2) ho3 N1)
end Go.Proofs.YtecnpoigegiooaaGreatDoor.Tbs
namespace Go.Proofs.YtecnpoigegiooaaGreatDoor.Tbs
open Tryz
open Go
def sts(f:Nat->Bool)(n:Nat):List Nat:=(List.range n).filter f
theorem Ave(f:Nat->Bool)(n:Nat):sts f (n+1)=sts f n++if f n=true then [n]else []:=by
 unfold sts
 rw[List.range_succ,List.filter_append]
 congr 1
 by_cases h:f n=true<;>simp[h]
theorem Bnf{f:Nat->Bool}{n:Nat}(h:f n=true):sts f (n+1)=sts f n++[n]:=by rw[Ave,if_pos h]
theorem Cqc{f:Nat->Bool}{n:Nat}(h:f n=false):sts f (n+1)=sts f n:=by rw[Ave,if_neg (by simp[h]),List.append_nil]
theorem Bby{f:Nat->Bool}{p:Nat}:∀q,p<=q->(∀c,p<=c->c<q->f c=false)->sts f q=sts f p
 |0,h,_=>by
  obtain rfl:p=0:=by omega
  rfl
 |q+1,h,hf=>by
  by_cases e:p=q+1
  ·rw[e]
  ·rw[Cqc (hf q (by omega) (by omega)),Bby q (by omega) fun c h1 h2=>hf c h1 (by omega)]
theorem Bbc(f:Nat->Bool){p:Nat}:∀q,p<=q->∃t,sts f q=sts f p++t
 |0,h=>by
  obtain rfl:p=0:=by omega
  exact⟨[],by simp⟩
 |q+1,h=>by
  by_cases e:p=q+1
  ·subst e;exact⟨[],by simp⟩
  ·obtain⟨t,ht⟩:=Bbc f (p:=p) q (by omega)
   exact⟨t++if f q=true then [q]else [],by rw[Ave,ht,List.append_assoc]⟩
theorem Bon(f:Nat->Bool){p q:Nat}(h:p<=q):(sts f p).length<=(sts f q).length:=by
 obtain⟨t,ht⟩:=Bbc f q h
 rw[ht,List.length_append]
 omega
theorem Apl(f:Nat->Bool)(n:Nat):(sts f n).length<=n:=by
 have:=List.length_filter_le f (List.range n)
 rwa [List.length_range]at this
theorem Blh:∀(n x:Nat),ds 2 n x=((List.range n).filter x.testBit).length
 |0,x=>rfl
 |n+1,x=>by
  rw[List.range_succ_eq_map,List.filter_cons,List.filter_map,]
  have e:(x.testBit ∘ Nat.succ)=(x/2).testBit:=by
   funext j
   exact Nat.testBit_succ x j
  rw[e]
  show x % 2+ds 2 n (x/2)=_
  rw[Blh n (x/2),Nat.testBit_zero]
  by_cases h:x % 2=1
  ·simp only[h,decide_true,if_true,List.length_cons,List.length_map]
   omega
  ·simp only[h,decide_false]
   simp
   omega
theorem Bne(f:Nat->Bool)(a:Nat):∀n,(sts f (a+n)).length=(sts f a).length+((List.range n).filter fun j=>f (a+j)).length
 |0=>by simp
 |n+1=>by
  rw[<- Nat.add_assoc,Ave,List.length_append,Bne f a n,List.range_succ,List.filter_append,List.length_append]
  by_cases h:f (a+n)=true<;>simp[h]<;>omega
theorem Bmq(f:Nat->Bool)(i:Nat):(sts f (64*i)).length+ds 2 64 (wd f i)=(sts f (64*(i+1))).length:=by
 rw[Nat.mul_add,Nat.mul_one,Bne,Blh]
 congr 2
 exact List.filter_congr fun j hj=>by
  have:=List.mem_range.1 hj
  rw[Agb]
  simp[this]
def rest(f:Nat->Bool)(p:Nat):Nat->Bool:=fun c=>f c&&decide (p<=c)
theorem Cbw(f:Nat->Bool):rest f 0=f:=by funext c;simp[rest]
theorem Bkc{f:Nat->Bool}{p q:Nat}(h:p<=q)(hf:∀c,p<=c->c<q->f c=false):rest f p=rest f q:=by
 funext c
 unfold rest
 by_cases h1:p<=c
 ·by_cases h2:c<q
  ·simp[hf c h1 h2]
  ·have:q<=c:=by omega
   simp[h1,this]
 ·have:¬q<=c:=by omega
  simp[h1,this]
theorem Cbu{f:Nat->Bool}{p i:Nat}(h:p<=64*i):wd (rest f p) i=wd f i:=Ang fun j hj=>by
 unfold rest
 have:p<=64*i+j:=by omega
 simp[this]
theorem Cie{f:Nat->Bool}{p q:Nat}(h:(sts f q).length=(sts f p).length):∀c,p<=c->c<q->f c=false:=by
 intro c h1 h2
 by_cases hc:f c=true
 ·have a:=Bon f h1
  have b:=Bon f (show c+1<=q from h2)
  rw[Bnf hc,List.length_append,List.length_singleton]at b
  omega
 ·simpa using hc
theorem Cbk{f:Nat->Bool}{p i:Nat}(h0:64*i<=p)(h1:p<=64*(i+1))(hlt:(sts f p).length<(sts f (64*(i+1))).length) :
  wd (rest f p) i≠0/\∃c,c=64*i+Lib.ctz 64 (wd (rest f p) i)/\p<=c/\c<64*(i+1)/\c/64=i/\sts f (c+1)=sts f p++[c]/\G5 (rest f p) c false=rest f (c+1):=by
 have hne:wd (rest f p) i≠0:=by
  intro he
  have:sts f (64*(i+1))=sts f p:=Bby _ h1 fun c hc1 hc2=>by
   have hb:=Agb (rest f p) i (c-64*i)
   rw[he,Nat.zero_testBit,show 64*i+(c-64*i)=c by omega]at hb
   have h64:c-64*i<64:=by omega
   simp[h64,rest,hc1]at hb
   exact hb
  rw[this]at hlt
  omega
 obtain⟨k1,k2,k3⟩:=Cjh (Afd (rest f p) i) hne
 generalize Lib.ctz 64 (wd (rest f p) i)=k at k1 k2 k3
 rw[Agb]at k2
 simp only[k1,decide_true,Bool.true_and]at k2
 have hp:p<=64*i+k/\f (64*i+k)=true:=by
  unfold rest at k2
  simp at k2
  exact⟨k2.2,k2.1⟩
 have Brb:∀c,p<=c->c<64*i+k->f c=false:=fun c hc1 hc2=>by
  have hb:=k3 (c-64*i) (by omega)
  rw[Agb,show 64*i+(c-64*i)=c by omega]at hb
  have h64:c-64*i<64:=by omega
  simp[h64,rest,hc1]at hb
  exact hb
 refine⟨hne,_,rfl,hp.1,by omega,by omega,?_,?_⟩
 ·rw[Bnf hp.2,Bby _ hp.1 Brb]
 ·rw[Bkc hp.1 Brb]
  funext c
  unfold G5 rest
  by_cases e:c=64*i+k
  ·rw[if_pos e,e]
   have:¬64*i+k+1<=64*i+k:=by omega
   simp
  ·rw[if_neg e]
   have:decide (64*i+k<=c)=decide (64*i+k+1<=c):=by rw[decide_eq_decide];omega
   rw[this]
theorem Cmt{f:Nat->Bool}{p c n:Nat}(h:sts f (c+1)=sts f p++[c])(hc:c+1<=n):(sts f n)[(sts f p).length]?=some c:=by
 obtain⟨t,ht⟩:=Bbc f n hc
 rw[ht,h,List.append_assoc,List.getElem?_append_right (J5 _),Nat.sub_self]
 rfl
end Go.Proofs.YtecnpoigegiooaaGreatDoor.Tbs
namespace Go.Proofs.YtecnpoigegiooaaGreatDoor.Tbs
open Tryz
open Go RowKit Com
def Num(w:World)(n:Nat)(e:Ending)(w':World):Prop:=e=.returned (.int .i64 n)/\Below w.heap.size w w'
theorem Abl(f:Nat->Bool)(w:World):Calls prog 231 #[.agg (wsA f)] w (Num w (sts f 512).length):=by
 have hb0:=Block.made w 174 (wsA f)
 have F0:=A3 w (.cells (wsA f) 174)
 go_enter func231,ntmps231
 go_wp2
 generalize w.alloc (.cells (wsA f) 174)=w0 at hb0 F0 |-
 obtain⟨d0,hd0⟩:∃d0,d0=w.heap.size:=⟨_,rfl⟩
 rw[<- hd0]at hb0 |-
 clear hd0
 replace hb0:=J0 hb0
 replace F0:=J0 F0
 go_loop [3,5] (fun n i=>∃(k t:Nat),k<=8/\i=.int .i64 k/\n=.int .i64 t/\t<=512/\Hid (t=(sts f (64*k)).length)) (fun _ i=>8-(intOf i).toNat)
 case atStart=>exact⟨0,0,by omega,rfl,rfl,by omega,J0 rfl⟩
 case round =>
  obtain⟨k,t,hk,rfl,rfl,ht0,hT⟩:=hrel
  by_cases hlt:k<8
  ·have E7:=hb0.out.cell k (Alr f hlt)
   have hon:=J0 (fun w=>Bjx (wd f k) (Afd f k) w)
   have Abf:=Bmq f k
   rw[<- hT.out]at Abf
   have hle:=Apl f (64*(k+1))
   have hd:ds 2 64 (wd f k)<=512:=by omega
   have ht2:t+ds 2 64 (wd f k)<=512:=by omega
   generalize wd f k=x at E7 hon Abf hd ht2
   generalize ds 2 64 x=m at hon Abf hd ht2
   replace Abf:=J0 Abf
   clear hT hle
   go_wp2_with((go_at_call 269;(with_reducible refine(hon.out _).mono ?_);rintro e w' ⟨rfl,rfl⟩))
   go_round
   case rel=>exact⟨k+1,t+m,by omega,by go_num,by go_num,ht2,Abf⟩
   case measure=>simp[intOf];omega
  ·obtain rfl:k=8:=by omega
   go_wp2
   go_ret
   exact⟨G6 (by rw[hT.out]),F0.out⟩
structure At8(w wr:World)(d0:Nat)(f:Nat->Bool)(p:Nat):Prop where
 own:Block wr d0 174 (wsA (rest f p))
 below:Below w.heap.size w wr
 low:w.heap.size<=d0
theorem At8.gap{w wr:World}{d0:Nat}{f:Nat->Bool}{p q:Nat}(h:At8 w wr d0 f p)(hpq:p<=q)(hf:∀c,p<=c->c<q->f c=false):At8 w wr d0 f q:=by
 have:=h.own
 rw[Bkc hpq hf]at this
 exact⟨this,h.below,h.low⟩
theorem At8.Cjg{w wr w':World}{d0:Nat}{f:Nat->Bool}{p c:Nat}(h:At8 w wr d0 f p)(hc:G5 (rest f p) c false=rest f (c+1)){e:Ending}(hb:Bit wr d0 0 174 (wsA (rest f p)) (rest f p) c false e w'):At8 w w' d0 f (c+1):=by
 obtain⟨_,h1,h2⟩:=hb
 rw[Nat.zero_add,Bnp,hc]at h1
 exact⟨h1,Adp h.below h2 h.low,h.low⟩
structure InW(f:Nat->Bool)(k j p t:Nat):Prop where
 lo:64*k<=p
 hi:p<=64*(k+1)
 len:t=(sts f p).length
 add:t=(sts f (64*k)).length+j
theorem Cgk(f:Nat->Bool)(n:Nat)(h2:n+1<=(sts f 512).length)(w:World)(T:Tab w):Calls prog 232 #[.agg (wsA f),.int .i64 ((n:Int)+1)] w (Num w ((sts f 512).getD n 0)):=by
 have hb0:=Block.made w 174 (wsA f)
 have F0:=A3 w (.cells (wsA f) 174)
 have hn:=Apl f 512
 have hn5:n<512:=by omega
 clear hn
 replace h2:=J0 h2
 go_enter func232,ntmps232
 go_wp2
 generalize w.alloc (.cells (wsA f) 174)=w0 at hb0 F0 |-
 obtain⟨d0,hd0⟩:∃d0,d0=w.heap.size:=⟨_,rfl⟩
 rw[<- hd0]at hb0 |-
 have hA:Hid (At8 w w0 d0 f 0):=J0 ⟨by rw[Cbw];exact hb0,F0,by omega⟩
 clear hd0 hb0 F0
 replace T:=J0 T
 go_step3
 go_wp2
 go_step3
 go_wp2
 go_loopg [1,5,7] 8 (fun g m c i wr=>∃(k t r:Nat) (x:Int),k+g=8/\i=.int .i64 k/\c=.int .i64 x/\m=.int .i64 ((r:Int)+1)/\Hid (t+r=n)/\r<=512/\Hid (t=(sts f (64*k)).length)/\Hid (At8 w wr d0 f (64*k)))
 case atStart=>exact⟨0,0,n,0,by omega,rfl,rfl,by simp,J0 (by omega),by omega,J0 rfl,hA⟩
 case round =>
  obtain⟨k,t,r,x,hk,rfl,rfl,rfl,htr,hr5,hT,hW⟩:=hrel
  cases gk with
  |zero =>
   exfalso
   obtain rfl:k=8:=by omega
   have e1:=hT.out
   have e2:=h2.out
   have e3:=htr.out
   simp only[show 64*8=512 from rfl]at e1
   omega
  |succ g =>
   have hlt:k<8:=by omega
   have E7:=hW.out.own.cell k (Alr _ hlt)
   rw[Cbu (J5 _)]at E7
   have hon:=J0 (fun w=>Bjx (wd f k) (Afd f k) w)
   have Abf:=Bmq f k
   have hle:=Apl f (64*(k+1))
   have hd:ds 2 64 (wd f k)<=512:=by omega
   generalize wd f k=y at E7 hon Abf hd
   generalize ds 2 64 y=N at hon Abf hd
   replace Abf:=J0 Abf
   clear hle
   replace hk:=J0 hk
   go_wp2_with((go_at_call 269;(with_reducible refine(hon.out _).mono ?_);rintro e w' ⟨rfl,rfl⟩))
   clear E7 hon
   go_loopg [1,5,14] N (fun g m c i wr=>∃(j p t r:Nat) (x:Int),j+g=N/\i=.int .i64 j/\c=.int .i64 x/\m=.int .i64 ((r:Int)+1)/\Hid (t+r=n)/\r<=512/\Hid (InW f k j p t)/\Hid (At8 w wr d0 f p))
   case atStart=>exact⟨0,64*k,t,r,x,by omega,rfl,rfl,rfl,htr,hr5,J0 ⟨J5 _,by omega,hT.out,hT.out⟩,hW⟩
   case round =>
    clear htr hT hW
    obtain⟨j,p,t,r,x,hj,rfl,rfl,rfl,htr,hr5,hI,hW⟩:=hrel
    cases gk with
    |zero =>
     have hj0:¬((j:Int)<(N:Int)):=by omega
     obtain rfl:j=N:=by omega
     have hlen:(sts f (64*(k+1))).length=(sts f p).length:=by
      have e1:=hI.out.len
      have e2:=hI.out.add
      have e3:=Abf.out
      omega
     have hW2:=J0 (hW.out.gap hI.out.hi (Cie hlen))
     have hT2:Hid (t=(sts f (64*(k+1))).length):=J0 (by rw[hlen];exact hI.out.len)
     clear hW hI Abf hlen
     go_wp2
     go_roundg g
     case measure=>omega
     case rel=>exact⟨k+1,t,r,x,by have:=hk.out;omega,by go_num,rfl,rfl,htr,hr5,hT2,hW2⟩
    |succ g2 =>
     have hj0:(j:Int)<(N:Int):=by omega
     have hnx:=Cbk hI.out.lo hI.out.hi (by rw[<- hI.out.len,hI.out.add,<- Abf.out];omega)
     obtain⟨hne,c,hc,hpc,hcl,hck,hs,E1⟩:=hnx
     have E7:=hW.out.own.cell k (Alr _ hlt)
     have htz:=J0 (fun w T=>Cqg (wd (rest f p) k) (Afd _ _) hne w T)
     have Bqx:=J0 (Azr (rest f p) c (by omega) d0 0 174 (wsA (rest f p)) _ hW.out.own (by rw[Nat.zero_add];exact Alr _ (by omega)))
     have hcv:(k:Int)*64+(Lib.ctz 64 (wd (rest f p) k):Nat)=(c:Int):=by omega
     have hTw:=J0 (T.out.below hW.out.below)
     have hc5:c<512:=by omega
     have hI2:Hid (InW f k (j+1) (c+1) (t+1)):=J0 ⟨by have:=hI.out.lo;omega,by omega,by rw[hs,List.length_append,<- hI.out.len];rfl,by have:=hI.out.add;omega⟩
     have Bqt:Hid ((sts f 512).getD t 0=c):=J0 (by
      have:=Cmt hs (show c+1<=512 by omega)
      rw[<- hI.out.len]at this
      rw[List.getD_eq_getElem?_getD,this]
      rfl)
     generalize Lib.ctz 64 (wd (rest f p) k)=z at htz hcv
     generalize wd (rest f p) k=y at E7 htz
     replace E1:=J0 E1
     clear hne hc hs hI Abf hpc hcl hck
     by_cases hr:r=0
     ·subst hr
      have htn:Hid (t=n):=J0 (by have:=htr.out;omega)
      have F0:=J0 hW.out.below
      clear Bqx hW
      go_wp2_with (first
       |(go_at_call 270;(with_reducible refine(htz.out _ hTw.out).mono ?_);rintro e w' ⟨rfl,rfl⟩))
      try rw[Exit.noGoto_ret]
      go_ret
      exact⟨G6 (by rw[<- htn.out,Bqt.out]),F0.out⟩
     ·obtain⟨r,rfl⟩:∃r',r=r'+1:=⟨r-1,by omega⟩
      have hrn:(((r+1:Nat):Int)==0)=false:=by simp;omega
      have Cud:Hid (t+1+r=n):=J0 (by have:=htr.out;omega)
      clear htr Bqt
      go_wp2_with (first
       |(go_at_call 270;(with_reducible refine(htz.out _ hTw.out).mono ?_);rintro e w' ⟨rfl,rfl⟩)
       |(go_at_call 106;(with_reducible refine(Bqx.out).mono ?_);rintro e w' ⟨⟨v',rfl⟩,hb',ho'⟩))
      have hW2:Hid (At8 w w' d0 f (c+1)):=J0 (hW.out.Cjg E1.out (e:=.returned v') ⟨⟨v',rfl⟩,hb',ho'⟩)
      clear hb' ho' hW
      go_roundg g2
      case measure=>omega
      case rel=>exact⟨j+1,c+1,t+1,r,c,by omega,by go_num,rfl,by go_num,Cud,by omega,hI2,hW2⟩
theorem Bmh(f:Nat->Bool)(n:Nat)(h1:1<=n)(h2:n<=(sts f 512).length)(w:World)(T:Tab w):Calls prog 232 #[.agg (wsA f),.int .i64 n] w (Num w ((sts f 512).getD (n-1) 0)):=by
 obtain⟨n,rfl⟩:∃m,n=m+1:=⟨n-1,by omega⟩
 exact Cgk f n h2 w T
theorem Arf:Z4 prog 47 3 .i64 8:=by
 have h:(prog.info? 3).map (fun i=>(i.zero,i.size,i.bytes))=some (some (.int .i64 0),1,8):=by kernel_rfl
 obtain⟨i,h0,h1,h2,h3⟩:=info_parts h
 exact⟨underlying47,i,h0,h1,h2,h3⟩
def Ab5(w:World)(l:List Int)(e:Ending)(w':World):Prop:=∃v,e=.returned v/\Own w' w.heap.size 3 .i64 v l/\Below w.heap.size w w'
def Aap(n:Nat)(f:Nat->Bool):List Value:=.int .i64 n::wsL f
def G2(w:World)(d n:Nat)(f:Nat->Bool):Prop:=Block w d 177 (Aap n f).toArray
theorem G2.blk{w:World}{d n:Nat}{f:Nat->Bool}(h:G2 w d n f):Block w d 177 (Aap n f).toArray:=h
theorem G2.cols{w:World}{d n:Nat}{f:Nat->Bool}(h:G2 w d n f):w.cell? ⟨d,0,none⟩=some (.int .i64 n):=Block.cell h 0 rfl
theorem Bkm{n:Nat}{f:Nat->Bool}{i:Nat}(hi:i<8):(Aap n f).toArray[1+i]?=some (.int .u64 (wd f i)):=by
 rw[List.getElem?_toArray,Nat.add_comm]
 exact Awo f hi
theorem G2.range {w:World} {d n:Nat} {f:Nat->Bool} (h:G2 w d n f):w.rangeAt d 1 (wsL f):=fun j v hv=>Block.cell h (1+j) (by
 rw[List.getElem?_toArray,Nat.add_comm]
 exact hv)
theorem G2.only{L:List Nat}{w w':World}{d n:Nat}{f:Nat->Bool}(h:G2 w d n f)(ho:A0 L w w')(hn:d∉L):G2 w' d n f:=Block.only h ho hn
theorem G2.below{w w':World}{d n:Nat}{f:Nat->Bool}(h:G2 w d n f)(hb:Below w.heap.size w w'):G2 w' d n f:=h.only (A0.A1 hb []) (by simp)
def Atb(n:Int):Bool:=decide (1<=n)&&decide (n<=512)
theorem Bjn{n:Int}(h:1<=n/\n<=512):Atb n=true:=by simp[Atb,h]
theorem Bie{n:Int}(h:¬(1<=n/\n<=512)):Atb n=false:=by
 unfold Atb
 rw[Bool.and_eq_false_iff]
 simp
 omega
theorem Btj(n:Int)(w:World):Calls prog 81 #[.int .i64 n] w fun e w'=>e=.returned (.bool (Atb n))/\w=w':=by
 by_cases h1:1<=n
 ·by_cases h2:n<=512
  ·rw[Bjn ⟨h1,h2⟩]
   go_enter func81,ntmps81
   go_wp2
   go_ret
   exact⟨rfl,rfl⟩
  ·rw[Bie (by omega)]
   go_enter func81,ntmps81
   go_wp2
   go_ret
   exact⟨G1 (by simp),rfl⟩
 ·rw[Bie (by omega)]
  go_enter func81,ntmps81
  go_wp2
  go_ret
  exact⟨G1 (by simp),rfl⟩
theorem Auv{d n:Nat}{f:Nat->Bool}(w:World)(h:G2 w d n f):Calls prog 229 #[.pointer (some ⟨d,0,none⟩)] w fun e w'=>e=.returned (.int .i64 n)/\w=w':=by
 have hc:=h.cols
 clear h
 go_enter func229,ntmps229
 go_wp2
 go_ret
 exact⟨rfl,rfl⟩
def Err(w:World)(k:Int)(e:Ending)(w':World):Prop:=e=.returned (.int .i64 k)/\w=w'
theorem Bio{w:World}{d n:Nat}{f:Nat->Bool}(h:G2 w d n f)(c:Nat)(hc:c<n):Calls prog 233 #[.pointer (some ⟨d,0,none⟩),.int .i64 c] w (Err w 0):=by
 have hC:=J0 (Auv w h)
 have h0:=h.cols
 have hn0:((n:Int)==0)=false:=by simp;omega
 have h1:decide ((c:Int)<0)=false:=by simp
 have h2:¬((n:Int)<=(c:Int)):=by omega
 clear h
 go_enter func233,ntmps233
 go_wp2_with((go_at_call 229;(with_reducible refine(hC.out).mono ?_);rintro e w' ⟨rfl,rfl⟩))
 go_ret
 exact⟨rfl,rfl⟩
def Bcc(w:World)(d n:Nat)(f:Nat->Bool)(k:Int)(e:Ending)(w':World):Prop:=e=.returned (.int .i64 k)/\G2 w' d n f/\A0 [d] w w'
theorem Biz{w w':World}{d n:Nat}{f:Nat->Bool}{c:Nat}{b:Bool}{e:Ending}(hb:Bit w d 1 177 (Aap n f).toArray f c b e w'):G2 w' d n (G5 f c b)/\A0 [d] w w':=by
 obtain⟨_,h1,h2⟩:=hb
 refine⟨?_,h2⟩
 have e1:(Aap n f).toArray.setIfInBounds (1+c/64) (.int .u64 (wd (G5 f c b) (c/64)))=(Aap n (G5 f c b)).toArray:=by
  rw[J1,Nat.add_comm]
  unfold Aap
  rw[J3,Bca fun j _ hne=>(Bkp f c b hne).symm]
 rw[e1]at h1
 exact h1
theorem Cpv{w:World}{d n:Nat}{f:Nat->Bool}(h:G2 w d n f)(hn:n<=512)(c:Nat)(hc:c<n):Calls prog 176 #[.pointer (some ⟨d,0,none⟩),.int .i64 c] w (Bcc w d n (G5 f c true) 0):=by
 have hR:=J0 (Bio h c hc)
 have hS:=J0 (Aqp f c (by omega) d 1 177 _ w h (Bkm (by omega)))
 clear h hc
 go_enter func176,ntmps176
 go_wp2_with (first
  |(go_at_call 233;(with_reducible refine(hR.out).mono ?_);rintro e w' ⟨rfl,rfl⟩)
  |(go_at_call 234;(with_reducible refine(hS.out).mono ?_);rintro e w' ⟨⟨v',rfl⟩,hb'⟩))
 have hb:=Biz (e:=.returned v') ⟨⟨v',rfl⟩,hb'⟩
 go_ret
 exact⟨rfl,hb.1,hb.2⟩
theorem Cny{w:World}{d n:Nat}{f:Nat->Bool}(h:G2 w d n f)(hn:n<=512)(c:Nat)(hc:c<n):Calls prog 249 #[.pointer (some ⟨d,0,none⟩),.int .i64 c] w (Bcc w d n (G5 f c false) 0):=by
 have hR:=J0 (Bio h c hc)
 have hS:=J0 (Azr f c (by omega) d 1 177 _ w h (Bkm (by omega)))
 clear h hc
 go_enter func249,ntmps249
 go_wp2_with (first
  |(go_at_call 233;(with_reducible refine(hR.out).mono ?_);rintro e w' ⟨rfl,rfl⟩)
  |(go_at_call 106;(with_reducible refine(hS.out).mono ?_);rintro e w' ⟨⟨v',rfl⟩,hb'⟩))
 have hb:=Biz (e:=.returned v') ⟨⟨v',rfl⟩,hb'⟩
 go_ret
 exact⟨rfl,hb.1,hb.2⟩
def A9(n:Nat)(c:Int):Nat:=if c<0 then 0 else if(n:Int)<=c then n-1 else c.toNat
theorem Aqk{n:Nat}(hn:1<=n)(c:Int):A9 n c<n:=by
 unfold A9
 split
 ·omega
 ·split<;>omega
theorem Aeo{w:World}{d n:Nat}{f:Nat->Bool}(h:G2 w d n f)(hn:1<=n)(hn2:n<=512)(c:Int):Calls prog 230 #[.pointer (some ⟨d,0,none⟩),.int .i64 c] w (Err w (A9 n c)):=by
 have h0:=h.cols
 clear h
 by_cases h1:c<0
 ·have hE:Hid (0=((A9 n c:Nat):Int)):=by show _=_;unfold A9;rw[if_pos h1];rfl
  go_enter func230,ntmps230
  go_wp2
  all_goals(first|omega|skip)
  all_goals
   go_ret
   exact⟨G6 (by first|(rw[<- hE.out];done)|(rw[<- hE.out];omega)),rfl⟩
 by_cases h2:(n:Int)<=c
 ·have hE:Hid ((n:Int)-1=((A9 n c:Nat):Int)):=by show _=_;unfold A9;rw[if_neg h1,if_pos h2];omega
  go_enter func230,ntmps230
  go_wp2
  all_goals(first|omega|skip)
  all_goals
   go_ret
   exact⟨G6 (by first|(rw[<- hE.out];done)|(rw[<- hE.out];omega)),rfl⟩
 ·obtain⟨k,rfl⟩:∃k:Nat,c=k:=⟨c.toNat,by omega⟩
  have hE:Hid ((k:Int)=((A9 n k:Nat):Int)):=by show _=_;unfold A9;rw[if_neg h1,if_neg h2];omega
  go_enter func230,ntmps230
  go_wp2
  all_goals(first|omega|skip)
  all_goals
   go_ret
   exact⟨G6 (by first|(rw[<- hE.out];done)|(rw[<- hE.out];omega)),rfl⟩
theorem Byr(n:Nat)(f g:Nat->Bool):(((Aap n f).toArray.toList.take 1++((wsA g).toList++(Aap n f).toArray.toList.drop (1+(wsA g).size))).toArray)=(Aap n g).toArray:=by
 rw[Ahp]
 simp only[Aap,wsA,List.take_succ_cons,List.take_zero]
 rw[List.drop_eq_nil_of_le (by simp[Alk])]
 simp
theorem Bqh(g:Nat->Bool):wsA g=#[.int .u64 (wd g 0),.int .u64 (wd g 1),.int .u64 (wd g 2),.int .u64 (wd g 3),.int .u64 (wd g 4),.int .u64 (wd g 5),.int .u64 (wd g 6),.int .u64 (wd g 7)]:=by
 simp[wsA,wsL,List.range_succ]
theorem Bop(n:Nat)(g:Nat->Bool):(Aap n g).toArray=#[.int .i64 n,.int .u64 (wd g 0),.int .u64 (wd g 1),.int .u64 (wd g 2),.int .u64 (wd g 3),.int .u64 (wd g 4),.int .u64 (wd g 5),.int .u64 (wd g 6),.int .u64 (wd g 7)]:=by simp[Aap,wsL,List.range_succ]
theorem G2.nine{w:World}{d n:Nat}{f:Nat->Bool}(h:G2 w d n f):w.cell? ⟨d,0,none⟩=some (.int .i64 n)/\w.cell? ⟨d,1,none⟩=some (.int .u64 (wd f 0))/\w.cell? ⟨d,2,none⟩=some (.int .u64 (wd f 1))/\w.cell? ⟨d,3,none⟩=some (.int .u64 (wd f 2))/\w.cell? ⟨d,4,none⟩=some (.int .u64 (wd f 3))/\w.cell? ⟨d,5,none⟩=some (.int .u64 (wd f 4))/\w.cell? ⟨d,6,none⟩=some (.int .u64 (wd f 5))/\w.cell? ⟨d,7,none⟩=some (.int .u64 (wd f 6))/\w.cell? ⟨d,8,none⟩=some (.int .u64 (wd f 7)):=by
 have hb:=h.blk
 rw[Bop]at hb
 exact⟨hb.cell 0 rfl,hb.cell 1 rfl,hb.cell 2 rfl,hb.cell 3 rfl,hb.cell 4 rfl,hb.cell 5 rfl,hb.cell 6 rfl,hb.cell 7 rfl,hb.cell 8 rfl⟩
theorem Ceu(n:Nat)(g:Nat->Bool):Array.foldl (fun(cs:Array Value) (x:Value×Nat)=>cs.setIfInBounds (1+x.snd) x.fst) #[.int .i64 n,.int .u64 0,.int .u64 0,.int .u64 0,.int .u64 0,.int .u64 0,.int .u64 0,.int .u64 0,.int .u64 0] (wsA g).zipIdx 0 8=(Aap n g).toArray:=by
 rw[Bop,Bqh]
 simp
theorem Bsy{w:World}{d n:Nat}{f:Nat->Bool}(h:G2 w d n f)(hn:1<=n):Calls prog 250 #[.pointer (some ⟨d,0,none⟩)] w (Bcc w d n (fun _=>false) 0):=by
 have hC:=J0 (Auv w h)
 have hn0:((n:Int)==0)=false:=by simp;omega
 have B9:=Alf (fun _=>false)
 have hsz:Hid (1+(wsA (fun _=>false)).size<=(Aap n f).toArray.size):=J0 (by rw[Ahp];simp[Aap,Alk])
 have hst:=Byr n f (fun _=>false)
 have E0:=Ara (fun _=>false)
 have hsz:=hsz.out
 rw[Bmg]at hst B9 E0 hsz
 replace hst:=J0 hst
 replace B9:=J0 B9
 replace E0:=J0 E0
 replace hsz:=J0 hsz
 replace h:=J0 h
 go_enter func250,ntmps250
 go_wp2_with (first
  |(go_at_call 229;(with_reducible refine(hC.out).mono ?_);rintro e w' ⟨rfl,rfl⟩)
  |(with_reducible refine J8 9 ?_;go_must(refine Akm rfl _ (.tmp 9) (.tmp 7) rfl h.out.blk Q8 rfl rfl hsz.out B9.out E0.out ?_);intro w1 hd1 ho1))
 rw[hst.out]at hd1
 go_ret
 exact⟨rfl,hd1,ho1⟩
theorem Cph(n:Nat)(h0:1<=n)(h1:n<=512)(w:World):Calls prog 56 #[.int .i64 n] w fun e w'=>∃d,e=.returned (.tuple #[.pointer (some ⟨d,0,none⟩),.int .i64 0])/\G2 w' d n (Aaa 0 n)/\Below w.heap.size w w'/\w.heap.size<=d:=by
 have hm:=J0 (Btj n w)
 rw[Bjn (by omega)]at hm
 have hf:=Azv 0 n (by omega) (by omega)
 have hs8:=Ahp (Aaa 0 n)
 have hfo:=J0 (Ceu n (Aaa 0 n))
 generalize Aaa 0 n=g at hf hs8 hfo |-
 replace hf:=J0 hf
 have hz8:(Q8).size=8:=rfl
 go_enter func56,ntmps56
 go_wp2_with (first
  |(go_at_call 81;(with_reducible refine(hm.out).mono ?_);rintro e w' ⟨rfl,rfl⟩)
  |(go_at_call 82;(with_reducible refine(hf.out _).mono ?_);rintro e w' ⟨rfl,hb'⟩))
 rw[hfo.out]
 go_ret2
 exact⟨_,rfl,Block.made w' _ _,A2 hb' (A3 _ _),hb'.size⟩
