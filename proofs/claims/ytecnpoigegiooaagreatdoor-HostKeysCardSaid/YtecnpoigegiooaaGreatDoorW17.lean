/- Part 17 of HostKeys. -/
import Derived.Test.YtecnpoigegiooaaGreatDoorW16
import Derived.Test.YtecnpoigegiooaaGreatDoorProg
import Derived.Maps.Own
import Derived.DeepKeys4
import Derived.Carry
import Derived.Orders
import Derived.RegionTactic
set_option maxHeartbeats 16000000
set_option maxRecDepth 100000
namespace Go.Proofs.YtecnpoigegiooaaGreatDoor.Tbs
open Tryz
open Go RowKit Com
def Aqy(f:Nat->Bool)(h:Nat)(k:Int):Nat:=if k<1 then h else if((sts (inF f 0 h) 512).length:Int)<k then 0 else(sts (inF f 0 h) 512).getD ((sts (inF f 0 h) 512).length-k.toNat) 0
def Aqw(n:Nat)(f:Nat->Bool)(h:Nat)(k:Int):Nat:=if k<1 then h else if((sts (inF f (h+1) n) 512).length:Int)<k then n-1 else(sts (inF f (h+1) n) 512).getD (k.toNat-1) 0
def Arn(n:Nat)(f:Nat->Bool)(c k:Int):Nat:=Aqy f (A9 n c) k
def X8(n:Nat)(f:Nat->Bool)(c k:Int):Nat:=Aqw n f (A9 n c) k
theorem Cim(f:Nat->Bool):(prog.info? 174).map (·.size)=some (wsL f).length:=by rw[Alk];kernel_rfl
theorem Awx(w:World):Block (w.alloc (.cells #[.int .u64 0,.int .u64 0,.int .u64 0,.int .u64 0,.int .u64 0,.int .u64 0,.int .u64 0,.int .u64 0] 174)) w.heap.size 174 Q8:=Block.made w _ Q8
theorem Atq{w w1 w2:World}{t:TypeId}(h1:Below w.heap.size w w1)(h2:A0 [w1.heap.size] (w1.alloc (.cells #[.int .u64 0,.int .u64 0,.int .u64 0,.int .u64 0,.int .u64 0,.int .u64 0,.int .u64 0,.int .u64 0] t)) w2):Below w.heap.size w w2 :=
 Adp (A2 h1 (A3 w1 _)) h2 h1.size
theorem Cgv{w:World}{d n:Nat}{f:Nat->Bool}(h:G2 w d n f)(hn:1<=n)(hn2:n<=512)(c k:Int)(T:Tab w):Calls prog 240 #[.pointer (some ⟨d,0,none⟩),.int .i64 c,.int .i64 k] w (Num w (Arn n f c k)):=by
 have hC:=J0 (Auv w h)
 have hH:=Aeo h hn hn2 c
 have hlt:=Aqk hn c
 have hn0:((n:Int)==0)=false:=by simp;omega
 unfold Arn
 generalize A9 n c=q at hH hlt |-
 replace hH:=J0 hH
 by_cases hk:k<1
 ·have hE:Hid (Aqy f q k=q):=by show _=_;unfold Aqy;rw[if_pos hk]
  clear h T
  go_enter func240,ntmps240
  go_wp2_with (first
   |(go_at_call 229;(with_reducible refine(hC.out).mono ?_);rintro e w' ⟨rfl,rfl⟩)
   |(go_at_call 230;(with_reducible refine(hH.out).mono ?_);rintro e w' ⟨rfl,rfl⟩))
  go_ret
  exact⟨G6 (by rw[hE.out]),Below.refl _ _⟩
 ·have hr0:=J0 h.range
  have hi:=J0 (Cim f)
  have hw:Hid (Calls prog 107 #[.agg (wsL f).toArray,.int .i64 0,.int .i64 q] w (Art w (inF f 0 q))):=J0 (Azl f 0 q (by omega) (by omega) w)
  have hEe:Aqy f q k=if((sts (inF f 0 q) 512).length:Int)<k then 0 else(sts (inF f 0 q) 512).getD ((sts (inF f 0 q) 512).length-k.toNat) 0:=by unfold Aqy;rw[if_neg hk]
  have hbd:=Apl (inF f 0 q) 512
  have Akf:=J0 (fun w=>Abl (inF f 0 q) w)
  have Amb:=J0 (fun w m h1 h2 T=>Bmh (inF f 0 q) m h1 h2 w T)
  have B9:=J0 (Alf (inF f 0 q))
  have E0:=J0 (Ara (inF f 0 q))
  have hsz:Hid (Q8.size=(wsA (inF f 0 q)).size):=J0 (by rw[Ahp];rfl)
  generalize inF f 0 q=g at hw hEe hbd Akf Amb B9 E0 hsz
  obtain⟨L,hL⟩:∃L,L=sts g 512:=⟨_,rfl⟩
  rw[<- hL]at hEe hbd
  obtain⟨m,hm⟩:∃m,m=L.length:=⟨_,rfl⟩
  have Ari:Hid (∀w,Calls prog 231 #[.agg (wsA g)] w (Num w m)):=J0 fun w=>by have:=Akf.out w;rw[<- hL,<- hm]at this;exact this
  rw[<- hm]at hEe hbd
  replace T:=J0 T
  by_cases hkm:(m:Int)<k
  ·rw[if_pos hkm]at hEe
   rw[hEe]
   clear h Akf Amb hEe hL hm
   go_enter func240,ntmps240
   go_wp2_with (first
    |(go_at_call 229;(with_reducible refine(hC.out).mono ?_);rintro e w' ⟨rfl,rfl⟩)
    |(go_at_call 230;(with_reducible refine(hH.out).mono ?_);rintro e w' ⟨rfl,rfl⟩)
    |(with_reducible refine J9 21 20 ?_;go_must(refine wpList_load_mid rfl _ (.tmp 20) rfl d 1 rfl (wsL f) _ hr0.out underlying174 rfl hi.out ?_))
    |(go_at_call 107;(with_reducible refine(hw.out).mono ?_);rintro e w1 ⟨rfl,hb1⟩)
    |(with_reducible refine J8 7 ?_;go_must(refine L8 rfl _ (.tmp 7) (.tmp 23) rfl (Awx w1) (wsA g) rfl rfl B9.out hsz.out E0.out ?_);intro w2 hd2 ho2;replace hd2:=J0 hd2)
    |(with_reducible refine J9 24 7 ?_;go_must(refine wpList_load_row rfl _ (.tmp 7) rfl w1.heap.size rfl _ (wsA g) (0,0) _ (blk hd2.out) underlying174 rfl B9.out ?_))
    |(go_at_call 231;(with_reducible refine(Ari.out _).mono ?_);rintro e w3 ⟨rfl,hb3⟩))
   go_ret
   exact⟨rfl,A2 (Atq hb1 ho2) hb3⟩
  ·obtain⟨K,rfl⟩:∃K:Nat,k=K:=⟨k.toNat,by omega⟩
   have hK1:1<=K:=by omega
   have hK2:K<=m:=by omega
   rw[if_neg hkm,Int.toNat_natCast]at hEe
   have hN:Hid (∀w,Tab w->Calls prog 232 #[.agg (wsA g),.int .i64 ((m:Int)-(K:Int)+1)] w (Num w (L.getD (m-K) 0))):=J0 fun w T=>by
    have:=Amb.out w (m-K+1) (by omega) (by rw[<- hL,<- hm];omega) T
    rw[<- hL,Nat.add_sub_cancel,show((m-K+1:Nat):Int)=(m:Int)-(K:Int)+1 by omega]at this
    exact this
   rw[hEe]
   generalize L.getD (m-K) 0=x at hN
   clear h Akf Amb hEe hL hm
   go_enter func240,ntmps240
   go_wp2_with (first
    |(go_at_call 229;(with_reducible refine(hC.out).mono ?_);rintro e w' ⟨rfl,rfl⟩)
    |(go_at_call 230;(with_reducible refine(hH.out).mono ?_);rintro e w' ⟨rfl,rfl⟩)
    |(with_reducible refine J9 21 20 ?_;go_must(refine wpList_load_mid rfl _ (.tmp 20) rfl d 1 rfl (wsL f) _ hr0.out underlying174 rfl hi.out ?_))
    |(go_at_call 107;(with_reducible refine(hw.out).mono ?_);rintro e w1 ⟨rfl,hb1⟩)
    |(with_reducible refine J8 7 ?_;go_must(refine L8 rfl _ (.tmp 7) (.tmp 23) rfl (Awx w1) (wsA g) rfl rfl B9.out hsz.out E0.out ?_);intro w2 hd2 ho2;replace hd2:=J0 hd2)
    |(with_reducible refine J9 24 7 ?_;go_must(refine wpList_load_row rfl _ (.tmp 7) rfl w1.heap.size rfl _ (wsA g) (0,0) _ (blk hd2.out) underlying174 rfl B9.out ?_))
    |(go_at_call 231;(with_reducible refine(Ari.out _).mono ?_);rintro e w3 ⟨rfl,hb3⟩)
    |(with_reducible refine J9 29 7 ?_;go_must(refine wpList_load_row rfl _ (.tmp 7) rfl w1.heap.size rfl _ (wsA g) (0,0) _ (blk (hd2.out.only (A0.A1 hb3 []) (by simp))) underlying174 rfl B9.out ?_))
    |(go_at_call 232;(with_reducible refine(hN.out _ (T.out.below (A2 (Atq hb1 ho2) hb3))).mono ?_);rintro e w4 ⟨rfl,hb4⟩))
   go_ret
   exact⟨rfl,A2 (A2 (Atq hb1 ho2) hb3) hb4⟩
theorem Cid{w:World}{b:Nat}(h:Block w b 174 Q8)(g:Nat->Bool):∃w',(storeCells ⟨b,0,none⟩ (wsA g).toList).run prog w=.ok () w'/\Block w' b 174 (wsA g)/\A0 [b] w w':=by
 have hz:Q8.size=8:=rfl
 have hl:(wsA g).toList.length=8:=by rw[Array.length_toList,Ahp]
 have G4:=run_storeCells_at prog b 0 174 (wsA g).toList 0 Q8 w h (by rw[hl,hz];omega) (fun x hx=>(Array.all_eq_true_iff_forall_mem.1 (Ara g)) x (by simpa using hx))
 refine⟨_,G4,?_,Adl w b _⟩
 have:=setRow_heap w b Q8 (Q8.toList.take (0+0)++((wsA g).toList++Q8.toList.drop (0+0+(wsA g).toList.length))).toArray 174 _ h
 rw[hl]at this |-
 simpa[Q8,Block]using this
theorem G2.Cse{w:World}{d n:Nat}{f:Nat->Bool}(h:G2 w d n f):∀w',Below w.heap.size w w'->(w'.cell? ⟨d,0,none⟩=some (.int .i64 n)/\w'.cell? ⟨d,1,none⟩=some (.int .u64 (wd f 0))/\w'.cell? ⟨d,2,none⟩=some (.int .u64 (wd f 1))/\w'.cell? ⟨d,3,none⟩=some (.int .u64 (wd f 2))/\w'.cell? ⟨d,4,none⟩=some (.int .u64 (wd f 3))/\w'.cell? ⟨d,5,none⟩=some (.int .u64 (wd f 4))/\w'.cell? ⟨d,6,none⟩=some (.int .u64 (wd f 5))/\w'.cell? ⟨d,7,none⟩=some (.int .u64 (wd f 6))/\w'.cell? ⟨d,8,none⟩=some (.int .u64 (wd f 7))):=fun _ hb=>(h.below hb).nine
theorem Anf{w:World}{d n:Nat}{f:Nat->Bool}(h:G2 w d n f)(hn:1<=n)(hn2:n<=512)(c k:Int)(T:Tab w):Calls prog 173 #[.pointer (some ⟨d,0,none⟩),.int .i64 c,.int .i64 k] w (Num w (X8 n f c k)):=by
 have hC:=J0 (Auv w h)
 have hH:=Aeo h hn hn2 c
 have hlt:=Aqk hn c
 have hn0:((n:Int)==0)=false:=by simp;omega
 unfold X8
 generalize A9 n c=q at hH hlt |-
 replace hH:=J0 hH
 by_cases hk:k<1
 ·have hE:Hid (Aqw n f q k=q):=by show _=_;unfold Aqw;rw[if_pos hk]
  clear h T
  go_enter func173,ntmps173
  go_wp2_with (first
   |(go_at_call 229;(with_reducible refine(hC.out).mono ?_);rintro e w' ⟨rfl,rfl⟩)
   |(go_at_call 230;(with_reducible refine(hH.out).mono ?_);rintro e w' ⟨rfl,rfl⟩))
  go_ret
  exact⟨G6 (by rw[hE.out]),Below.refl _ _⟩
 ·have hc:=h.nine
  have hS:=J0 h.Cse
  have hw:Hid (∀w,Calls prog 107 #[.agg #[.int .u64 (wd f 0),.int .u64 (wd f 1),.int .u64 (wd f 2),.int .u64 (wd f 3),.int .u64 (wd f 4),.int .u64 (wd f 5),.int .u64 (wd f 6),.int .u64 (wd f 7)],.int .i64 ((q:Int)+1),.int .i64 n] w (Art w (inF f (q+1) n))):=J0 fun w=>by
   have:=Azl f (q+1) n (by omega) (by omega) w
   rwa [Bqh]at this
  have hEe:Aqw n f q k=if((sts (inF f (q+1) n) 512).length:Int)<k then n-1 else(sts (inF f (q+1) n) 512).getD (k.toNat-1) 0:=by unfold Aqw;rw[if_neg hk]
  have hbd:=Apl (inF f (q+1) n) 512
  have Akf:=J0 (fun w=>Abl (inF f (q+1) n) w)
  have Amb:=J0 (fun w m h1 h2 T=>Bmh (inF f (q+1) n) m h1 h2 w T)
  have B9:=J0 (Alf (inF f (q+1) n))
  have Amd:=J0 (fun(w:World) (b:Nat) (h:Block w b 174 Q8)=>Cid h (inF f (q+1) n))
  have hs8:=Ahp (inF f (q+1) n)
  have hcut:=J0 (fun w' hb=>(h.below hb:G2 w' d n f))
  generalize inF f (q+1) n=g at hw hEe hbd Akf Amb B9 Amd hs8
  obtain⟨L,hL⟩:∃L,L=sts g 512:=⟨_,rfl⟩
  rw[<- hL]at hEe hbd
  obtain⟨m,hm⟩:∃m,m=L.length:=⟨_,rfl⟩
  have Ari:Hid (∀w,Calls prog 231 #[.agg (wsA g)] w (Num w m)):=J0 fun w=>by have:=Akf.out w;rw[<- hL,<- hm]at this;exact this
  rw[<- hm]at hEe hbd
  replace T:=J0 T
  replace hEe:=J0 hEe
  replace hL:=J0 hL
  replace hm:=J0 hm
  have hwr:IntKind.i64.wrap ((q:Int)+1)=(q:Int)+1:=IntWalk.i64_in _ (by omega)
  clear h Akf
  go_enter func173,ntmps173
  go_wp2_with (first
   |(go_at_call 229;(with_reducible refine(hC.out).mono ?_);rintro e w' ⟨rfl,rfl⟩)
   |(go_at_call 230;(with_reducible refine(hH.out).mono ?_);rintro e w' ⟨rfl,rfl⟩))
  have hdw:=C7 (Below.refl w.heap.size w) 1
  have hda:=C7 (A3 w (.cells #[.int .u64 0,.int .u64 0,.int .u64 0,.int .u64 0,.int .u64 0,.int .u64 0,.int .u64 0,.int .u64 0] 174)) 1
  have hma:Block ((w.alloc (.cells #[.int .u64 0,.int .u64 0,.int .u64 0,.int .u64 0,.int .u64 0,.int .u64 0,.int .u64 0,.int .u64 0] 174)).drew) w.heap.size 174 Q8:=(Awx w).only (M1 [] _) (by simp)
  replace hma:=J0 hma
  go_region_held3 (fun w'=>w'.cell? ⟨d,0,none⟩=some (.int .i64 n)/\w'.cell? ⟨d,1,none⟩=some (.int .u64 (wd f 0))/\w'.cell? ⟨d,2,none⟩=some (.int .u64 (wd f 1))/\w'.cell? ⟨d,3,none⟩=some (.int .u64 (wd f 2))/\w'.cell? ⟨d,4,none⟩=some (.int .u64 (wd f 3))/\w'.cell? ⟨d,5,none⟩=some (.int .u64 (wd f 4))/\w'.cell? ⟨d,6,none⟩=some (.int .u64 (wd f 5))/\w'.cell? ⟨d,7,none⟩=some (.int .u64 (wd f 6))/\w'.cell? ⟨d,8,none⟩=some (.int .u64 (wd f 7))) (first|exact hc|exact hS.out _ (by assumption)|go_keep)
   (first
    |(go_at_call 107;(with_reducible refine(hw.out w.drew).mono ?_);rintro e w1 ⟨rfl,hb1'⟩;have hb1:Below w.heap.size w w1:=A2 hdw hb1';obtain⟨w7,Axv,hB7,ho7⟩:=Amd.out _ _ (Awx w1);have hb8:=A2 hb1 (A3 w1 (.cells #[.int .u64 0,.int .u64 0,.int .u64 0,.int .u64 0,.int .u64 0,.int .u64 0,.int .u64 0,.int .u64 0] 174));have hb7:Below w.heap.size w w7:=Atq hb1 ho7)
    |(go_at_call 107;(with_reducible refine(hw.out (w.alloc (.cells #[.int .u64 0,.int .u64 0,.int .u64 0,.int .u64 0,.int .u64 0,.int .u64 0,.int .u64 0,.int .u64 0] 174)).drew).mono ?_);rintro e w1 ⟨rfl,hb1'⟩;have hb1:Below w.heap.size w w1:=A2 hda hb1';obtain⟨w7,Axv,hB7,ho7⟩:=Amd.out w1 _ (hma.out.only (A0.A1 hb1' []) (by simp));have hb7:Below w.heap.size w w7:=Adp hb1 ho7 (J5 _)))
  all_goals
   replace hB7:=J0 hB7
   replace hb7:=J0 hb7
   have hc7:=hcut.out w7 hb7.out
   have Bpa:=hc7.cols
   clear Axv ho7 hb1' hb1 hdw hda hS hc hwr
   by_cases hkm:(m:Int)<k
   ·have hE:=hEe.out
    rw[if_pos hkm]at hE
    replace hE:=J0 hE
    have hn1:(n:Int)-1=((n-1:Nat):Int):=by omega
    have hc9:=J0 (fun w8 (hb:Below w7.heap.size w7 w8)=>(hc7.below hb).cols)
    replace hn1:=J0 hn1
    clear hc7 Bpa
    go_wp2_with (first
     |(with_reducible refine J9 29 7 ?_;go_must(refine wpList_load_row rfl _ (.tmp 7) rfl _ rfl _ (wsA g) (0,0) _ (blk hB7.out) underlying174 rfl B9.out ?_))
     |(go_at_call 231;(with_reducible refine(Ari.out _).mono ?_);rintro e w8 ⟨rfl,hb8'⟩;have hcol8:=hc9.out w8 hb8'))
    go_ret
    exact⟨G6 (by rw[hn1.out,hE.out]),A2 hb7.out hb8'⟩
   ·obtain⟨K,rfl⟩:∃K:Nat,k=K:=⟨k.toNat,by omega⟩
    have hK1:1<=K:=by omega
    have hK2:K<=m:=by omega
    have hE:=hEe.out
    rw[if_neg hkm,Int.toNat_natCast]at hE
    have hN:Hid (∀w,Tab w->Calls prog 232 #[.agg (wsA g),.int .i64 K] w (Num w (L.getD (K-1) 0))):=J0 fun w T=>by
     have:=Amb.out w K hK1 (by rw[<- hL.out,<- hm.out];omega) T
     rw[<- hL.out]at this
     exact this
    generalize L.getD (K-1) 0=x at hN hE
    replace hE:=J0 hE
    clear hc7 Bpa
    go_wp2_with (first
     |(with_reducible refine J9 29 7 ?_;go_must(refine wpList_load_row rfl _ (.tmp 7) rfl _ rfl _ (wsA g) (0,0) _ (blk hB7.out) underlying174 rfl B9.out ?_))
     |(go_at_call 231;(with_reducible refine(Ari.out _).mono ?_);rintro e w8 ⟨rfl,hb8'⟩)
     |(with_reducible refine J9 37 7 ?_;go_must(refine wpList_load_row rfl _ (.tmp 7) rfl _ rfl _ (wsA g) (0,0) _ (blk (hB7.out.only (A0.A1 hb8' []) (by simp))) underlying174 rfl B9.out ?_))
     |(go_at_call 232;(with_reducible refine(hN.out _ (T.out.below (A2 hb7.out hb8'))).mono ?_);rintro e w9 ⟨rfl,hb9'⟩))
    go_ret
    exact⟨G6 (by rw[hE.out]),A2 (A2 hb7.out hb8') hb9'⟩
end Go.Proofs.YtecnpoigegiooaaGreatDoor.Tbs
namespace Go.Proofs.YtecnpoigegiooaaGreatDoor.Mds
open Tryz
structure Md where
 a0:Bool
 a1:Bool
 a2:Bool
 a3:Bool
 a4:Bool
 a5:Bool
 a6:Bool
 a7:Bool
def Md.get(m:Md):Nat->Bool
 |0=>m.a0
 |1=>m.a1
 |2=>m.a2
 |3=>m.a3
 |4=>m.a4
 |5=>m.a5
 |6=>m.a6
 |7=>m.a7
 |_=>false
def Md.set(m:Md)(k:Nat)(b:Bool):Md :=
 match k with
 |0=>{ m with a0:=b }
 |1=>{ m with a1:=b }
 |2=>{ m with a2:=b }
 |3=>{ m with a3:=b }
 |4=>{ m with a4:=b }
 |5=>{ m with a5:=b }
 |6=>{ m with a6:=b }
 |7=>{ m with a7:=b }
 |_=>m
def spot(p:Bool)(n:Int):Nat :=
 if p then
  if n=1 then 2 else if n=6 then 3 else if n=7 then 4 else if n=25 then 5 else if n=47 then 6 else if n=1047 then 6 else if n=1049 then 6 else if n=2004 then 7 else 8
 else if n=4 then 0 else if n=20 then 1 else 8
def pow:Nat->Int
 |0=>1
 |1=>2
 |2=>4
 |3=>8
 |4=>16
 |5=>32
 |6=>64
 |7=>128
 |_=>0
def one(b:Bool)(v:Int):Int:=if b then v else 0
def Md.bits(m:Md):Int:=one m.a0 1+one m.a1 2+one m.a2 4+one m.a3 8+one m.a4 16+one m.a5 32+one m.a6 64+one m.a7 128
def start:Md:=⟨false,false,false,false,true,true,false,false⟩
def Axa:Md:=⟨false,false,false,false,false,false,false,false⟩
def Md.put(m:Md)(p:Bool)(n:Int)(on:Bool):Md:=m.set (spot p n) on
def Md.has(m:Md)(p:Bool)(n:Int):Bool:=m.get (spot p n)
def known(p:Bool)(n:Int):Bool:=decide (spot p n<8)
theorem Bnd(p:Bool)(n:Int):spot p n<=8:=by
 unfold spot
 repeat' split
 all_goals omega
theorem small{k:Nat}(h:k<=8):k=0\/k=1\/k=2\/k=3\/k=4\/k=5\/k=6\/k=7\/k=8:=by omega
def Md.same(m x:Md):Bool:=m.a0==x.a0&&m.a1==x.a1&&m.a2==x.a2&&m.a3==x.a3&&m.a4==x.a4&&m.a5==x.a5&&m.a6==x.a6&&m.a7==x.a7
def G9(m:Md)(k:Nat)(on:Bool):Int:=if m.get k && !on then m.bits-pow k else if !m.get k&&on then m.bits+pow k else m.bits
end Go.Proofs.YtecnpoigegiooaaGreatDoor.Mds
namespace Go.Proofs.YtecnpoigegiooaaGreatDoor.Mds
open Tryz
open Go RowKit Com
open Go.Maps (Keyed)
open Go.ChangeMaps (setBlock heap_setBlock_same heap_setBlock_other)
theorem laidOut:laidOutB prog=true:=by kernel_rfl
theorem Brs:306<prog.types.size:=of_decide_eq_true (by kernel_rfl)
theorem Ctb:(match prog.underlying 306 with|some (.array _ _)|some (.struct _)=>true|_=>false)=true:=by kernel_rfl
theorem Cox:prog.keyTypeAt 2 306=true:=by kernel_rfl
theorem Asy:Keyed prog 306:=Keyed.of_law (deep_law_laid laidOut (m:=2) (by omega) Brs Cox Ctb)
theorem Cuo:prog.keyType 306=true:=by kernel_rfl
theorem cK:prog.cellsOf 306=2:=by kernel_rfl
theorem cB:prog.cellsOf 4=1:=by kernel_rfl
theorem cI:prog.cellsOf 3=1:=by kernel_rfl
def kv(p:Bool)(n:Int):Value:=.agg #[.bool p,.int .i64 n]
theorem Boe{p q:Bool}{n k:Int}(h:kv p n=kv q k):p=q/\n=k:=by
 unfold kv at h
 simpa using h
theorem Cfq(p:Bool){n:Int}(hw:(Lit.int .i64 n).wf=true)(D:Nat):prog.keyLits (D+1+1) 306 [.bool p,.int .i64 n]=some [.bool p,.int .i64 n]:=by
 simp[Program.keyLits,underlying306,underlying4,underlying3,hw,cK,cB,cI]
theorem Bxy(p:Bool)(n:Int):Value.formed prog 306 (kv p n)=true:=by
 simp[Value.formed,kv,underlying306,cK]
theorem Bcj(p:Bool){n:Int}(hw:(Lit.int .i64 n).wf=true):∃l,keyOf prog 306 (kv p n)=some l:=by
 obtain⟨D,hD⟩:∃D,prog.types.size+1=D+1+1:=⟨prog.types.size-1,by have:=Brs;omega⟩
 have hf:=Bxy p n
 have hl:=Cfq p hw D
 rw[<- hD]at hl
 refine⟨.string (keyBytes [.bool p,.int .i64 n]),?_⟩
 unfold keyOf
 rw[underlying306]
 dsimp only
 rw[Cuo,hf,if_pos (by rfl)]
 have e:(kv p n).cells.toList=[.bool p,.int .i64 n]:=rfl
 rw[e,hl]
 rfl
structure En where
 p:Bool
 n:Int
 f:Nat
def Y1:Nat->List En->List MapEntry
 |_,[]=>[]
 |i,e::r=>⟨kv e.p e.n,.func (.func e.f) #[] #[],i⟩::Y1 (i+1) r
theorem Bzz(i:Nat)(l:List En)(e:En):Y1 i (l++[e])=Y1 i l++[⟨kv e.p e.n,.func (.func e.f) #[] #[],i+l.length⟩]:=by
 induction l generalizing i with
 |nil=>rfl
 |cons x r ih =>
  simp only[List.cons_append,Y1,ih,List.length_cons]
  rw[Nat.add_right_comm,Nat.add_assoc]
theorem Bap{i:Nat}{l:List En}{y:MapEntry}(h:y∈Y1 i l):∃e∈l,y.key=kv e.p e.n/\y.val=.func (.func e.f) #[] #[]:=by
 induction l generalizing i with
 |nil=>simp[Y1]at h
 |cons x r ih =>
  rcases List.mem_cons.1 h with rfl|h
  ·exact⟨x,List.mem_cons_self,rfl,rfl⟩
  ·obtain⟨e,he,h2⟩:=ih h
   exact⟨e,List.mem_cons_of_mem _ he,h2⟩
theorem Cge{i:Nat}{l:List En}{e:En}(h:e∈l):∃y∈Y1 i l,y.key=kv e.p e.n:=by
 induction l generalizing i with
 |nil=>simp at h
 |cons x r ih =>
  rcases List.mem_cons.1 h with rfl|h
  ·exact⟨_,List.mem_cons_self,rfl⟩
  ·obtain⟨y,hy,h2⟩:=ih (i:=i+1) h
   exact⟨y,List.mem_cons_of_mem _ hy,h2⟩
def Mp(w:World)(b:Nat)(l:List En):Prop:=w.heap[b]?=some (.map (Y1 0 l).toArray l.length)
def Abb(l:List En):Prop:=∀e∈l,(Lit.int .i64 e.n).wf=true
theorem Mp.made(w:World):Mp (w.alloc (.map #[] 0)) w.heap.size []:=heap_alloc_new w _
theorem Blv{l:List En}(hl:Abb l):∀y∈(Y1 0 l).toArray.toList,∃k,keyOf prog 306 y.key=some k:=by
 intro y hy
 obtain⟨e,he,hk,-⟩:=Bap (by simpa using hy)
 rw[hk]
 exact Bcj e.p (hl e he)
theorem Clq{w:World}{b:Nat}{l:List En}(h:Mp w b l)(hl:Abb l)(p:Bool)(n:Int)(hw:(Lit.int .i64 n).wf=true)(f:Nat)(hne:∀e∈l,¬(e.p=p/\e.n=n)) :
  ∃w',(Instr.mapUpdate 303 (.map (some b)) (kv p n) (.func (.func f) #[] #[])).run prog w=.ok () w'/\Mp w' b (l++[⟨p,n,f⟩])/\A0 [b] w w':=by
 have hb:w.heap[b]?=some (.map (Y1 0 l).toArray l.length):=h
 obtain⟨k,hk⟩:=Bcj p hw
 refine⟨setBlock w b (.map ((Y1 0 l).toArray.push ⟨kv p n,.func (.func f) #[] #[],l.length⟩) (l.length+1)),?_,?_,?_⟩
 ·rcases Asy.find w hk (Y1 0 l).toArray.toList (Blv hl)with⟨h1,-⟩|⟨j,e0,h1,h2,h3⟩
  ·have h1':(Instr.findKey 306 (kv p n) (Y1 0 l)).run prog w=.ok none w:=by simpa using h1
   simp[Instr.mapUpdate,run_underlying underlying303,MapKept.run_getObj_map hb,Asy.check w false hk,h1',MapKept.run_setObj_map _ hb,Result.andThen,setBlock]
  ·exfalso
   obtain⟨e,he,hke,-⟩:=Bap (by simpa using List.mem_of_getElem? h2)
   obtain⟨q1,q2⟩:=Boe (hke.symm.trans h3)
   exact hne e he ⟨q1,q2⟩
 ·have:=heap_setBlock_same hb (.map ((Y1 0 l).toArray.push ⟨kv p n,.func (.func f) #[] #[],l.length⟩) (l.length+1))
  unfold Mp
  rw[this,Bzz]
  simp
 ·exact⟨rfl,rfl,rfl,by simp[setBlock],fun i _ hi=>heap_setBlock_other hb _ (by simpa using hi)⟩
theorem Baw{w:World}{b:Nat}{l:List En}(h:Mp w b l)(hl:Abb l)(p:Bool){n:Int}(hw:(Lit.int .i64 n).wf=true) :
  ((Instr.lookup 303 (.map (some b)) (kv p n) true).run prog w=.ok (.tuple #[.nilFunc,.bool false]) w/\∀e∈l,¬(e.p=p/\e.n=n)) \/
  ∃e∈l,e.p=p/\e.n=n/\(Instr.lookup 303 (.map (some b)) (kv p n) true).run prog w=.ok (.tuple #[.func (.func e.f) #[] #[],.bool true]) w:=by
 have hb:w.heap[b]?=some (.map (Y1 0 l).toArray l.length):=h
 obtain⟨k,hk⟩:=Bcj p hw
 have hz:(zeroValue 301).run prog w=.ok .nilFunc w:=by exact zeroValue301 w
 rcases Asy.find w hk (Y1 0 l).toArray.toList (Blv hl)with⟨h1,h2⟩|⟨j,e0,h1,h2,h3⟩
 ·have h1':(Instr.findKey 306 (kv p n) (Y1 0 l)).run prog w=.ok none w:=by simpa using h1
  refine .inl ⟨by simp[Instr.lookup,run_underlying underlying303,MapKept.run_getObj_map hb,Asy.check w _ hk,h1',hz,Result.andThen],?_⟩
  rintro e he ⟨rfl,rfl⟩
  obtain⟨y,hy,hky⟩:=Cge (i:=0) he
  exact h2 y (by simpa using hy) hky
 ·have h1':(Instr.findKey 306 (kv p n) (Y1 0 l)).run prog w=.ok (some (j,e0.val)) w:=by simpa using h1
  obtain⟨e,he,hke,hv⟩:=Bap (by simpa using List.mem_of_getElem? h2)
  obtain⟨q1,q2⟩:=Boe (hke.symm.trans h3)
  refine .inr ⟨e,he,q1,q2,?_⟩
  rw[<- hv]
  simp[Instr.lookup,run_underlying underlying303,MapKept.run_getObj_map hb,Asy.check w _ hk,h1',Result.andThen]
end Go.Proofs.YtecnpoigegiooaaGreatDoor.Mds
namespace Go.Proofs.YtecnpoigegiooaaGreatDoor.Mds
open Tryz
open Go RowKit Com
theorem Bhv{l:Array Bool}{i:Nat}(h:i<l.size)(c d:Bool):l.getD i c=l.getD i d:=by
 simp[Array.getD,h]
theorem Bvv{ops:Array Oper}{Q:Exit->Act->World->Prop}{i:Nat}{o:Oper}{a:Act}{w w':World}{K:Act->World->Prop}(ho:ops[i]?=some o)(hg:o.guard=none)(hd:o.dst=none){T:TypeId}{m k v:Operand}(hop:o.op=.insert T m k v)
  (G4:(Instr.mapUpdate T (a.eval m) (a.eval k) (a.eval v)).run prog w=.ok () w') (hK:K a w'):wpOp prog ops Q i K a w:=by
 unfold wpOp
 simp only[ho]
 rw[if_pos (by simp[Region.wanted,hg])]
 left
 unfold Oper.wp
 simp[execOp,hop,G4,Result.andThen]
 show K (a.put o.dst undef) w'
 rw[hd]
 exact hK
theorem Bix{xs:Array Edge}{n:Nat}{all:List Nat}{tail:Nat->Bool}(h:(xs.all fun e=>decide (e.on<n) && !all.contains e.on && !tail e.on)=true):∀e∈xs,e.on<n/\e.on∉all/\tail e.on=false:=by
 intro e he
 have:=Array.all_eq_true_iff_forall_mem.1 h e he
 simpa[and_assoc]using this
theorem Bko{xs:Array Edge}{md:Region.Mode}{i:Nat}(h:(xs.any fun e=>Region.binds md e&&e.on==i)=true):∃e∈xs,Region.binds md e=true/\e.on=i:=by
 obtain⟨e,he,hb⟩:=Array.any_eq_true'.1 h
 simp only[Bool.and_eq_true,beq_iff_eq]at hb
 exact⟨e,he,hb.1,hb.2⟩
theorem Buc{ops:Array Oper}{Q:Exit->Act->World->Prop}{i:Nat}{o:Oper}{a:Act}{w:World}{K:Act->World->Prop}{T:TypeId}(ho:ops[i]?=some o)(hg:o.guard=none)(hop:o.op=.makeMap T none)
  (hK:K (a.put o.dst (.map (some w.heap.size))) (w.alloc (.map #[] 0))):wpOp prog ops Q i K a w:=by
 unfold wpOp
 simp only[ho]
 rw[if_pos (by simp[Region.wanted,hg])]
 left
 have G4:=run_makeMap (P:=prog) T w
 unfold Oper.wp
 simp[execOp,hop,G4,Result.andThen]
 exact hK
theorem Cbc{l:Array Bool}{n:Nat}{tail:Nat->Bool}(hs:l.size=n)(h:∀j,j<n->(l.getD j true=false↔tail j=true)):l=((List.range n).map fun j=>!tail j).toArray:=by
 subst hs
 apply Array.ext
 ·simp
 intro j h1 h2
 have:=h j h1
 rw[show l.getD j true=l[j]by simp[Array.getD,h1]]at this
 simp only[List.getElem_toArray,List.getElem_map,List.getElem_range]
 cases hl:l[j]<;>cases ht:tail j<;>simp_all
theorem Ckv{ops:Array Oper}{Q:Exit->Act->World->Prop}{md:Region.Mode}{a:Act}{b:Nat}(ent:Nat->En)(all:List Nat)(tail:Nat->Bool)
  (hop:∀i∈all,∃o,ops[i]?=some o/\o.guard=none/\o.dst=none/\(o.after.all fun e=>decide (e.on<ops.size) && !all.contains e.on && !tail e.on)=true /\
   ∃m k v,o.op=.insert 303 m k v/\a.eval m=.map (some b)/\a.eval k=kv (ent i).p (ent i).n/\a.eval v=.func (.func (ent i).f) #[] #[])
  (Bpl:∀j,tail j=true->∃o,ops[j]?=some o/\∀i∈all,(o.after.any fun e=>Region.binds md e&&e.on==i)=true)
  (hw:∀i∈all,(Lit.int .i64 (ent i).n).wf=true) (Aoq:∀i∈all,∀j∈all,(ent i).p=(ent j).p->(ent i).n=(ent j).n->i=j)
  (w0:World) (f:Nat)
  (E3:∀listed l w,listed.size=ops.size->(∀j,j<ops.size->(listed.getD j true=false↔tail j=true))->Mp w b l->(∀e,e∈l↔∃i∈all,e=ent i)->A0 [b] w0 w->wpAny prog md ops Q f listed a w) :
  ∀(n:Nat) (todo:List Nat) (l:List En) (w:World) (listed:Array Bool),todo.length=n->todo.Nodup->(∀i∈todo,i∈all)->listed.size=ops.size->(∀j,j<ops.size->(listed.getD j true=false↔j∈todo\/tail j=true)) ->
   Mp w b l->(∀e,e∈l↔∃i∈all,i∉todo/\e=ent i)->A0 [b] w0 w->wpAny prog md ops Q (n+f) listed a w:=by
 have hin:∀i∈all,i<ops.size:=fun i hi=>by
  obtain⟨o,ho,_⟩:=hop i hi
  exact(Array.getElem?_eq_some_iff.1 ho).1
 intro n
 induction n with
 |zero =>
  intro todo l w listed hn hnd M3 hsz hl hm Akg ho
  have h0:todo=[]:=List.eq_nil_of_length_eq_zero hn
  subst h0
  rw[Nat.zero_add]
  exact E3 listed l w hsz (fun j hj=>by simpa using hl j hj) hm (fun e=>by simpa using Akg e) ho
 |succ n ih =>
  intro todo l w listed hn hnd M3 hsz hl hm Akg hon
  rw[Nat.add_right_comm]
  obtain⟨i0,hi0⟩:∃i0,i0∈todo:=by
   rcases todo with _|⟨x,r⟩
   ·simp at hn
   ·exact⟨x,List.mem_cons_self⟩
  have ready:∀i∈todo,i∈Region.ready md ops listed:=fun i hi=>by
   obtain⟨o,ho,_,_,haf,_⟩:=hop i (M3 i hi)
   refine mem_ready.2 ⟨(hl i (hin i (M3 i hi))).2 (.inl hi),o,ho,fun e he _=>?_⟩
   obtain⟨q1,q2,q3⟩:=Bix haf e he
   rw[Bhv (by omega) false true]
   cases hc:listed.getD e.on true
   ·rcases(hl e.on q1).1 hc with h|h
    ·exact absurd (M3 _ h) q2
    ·rw[q3]at h
     cases h
   ·rfl
  refine⟨fun h0=>(by have:=ready i0 hi0;rw[h0]at this;simp at this),fun i hi=>?_⟩
  obtain⟨hun,o',ho',F2⟩:=mem_ready.1 hi
  have hlt:i<ops.size:=(Array.getElem?_eq_some_iff.1 ho').1
  rcases(hl i hlt).1 hun with hit|htl
  case inr =>
   obtain⟨o2,ho2,hw2⟩:=Bpl i htl
   rw[ho']at ho2
   cases ho2
   obtain⟨e,he,hb,Bef⟩:=Bko (hw2 i0 (M3 i0 hi0))
   have h1:=F2 e he hb
   have h2:=(hl i0 (hin i0 (M3 i0 hi0))).2 (.inl hi0)
   rw[Bef,Bhv (by have:=hin i0 (M3 i0 hi0);omega) false true,h2]at h1
   cases h1
  obtain⟨o,ho,hg,hd,haf,m,k,v,Cua,em,ek,ev⟩:=hop i (M3 i hit)
  have Crl:Abb l:=fun e he=>by
   obtain⟨j,hj,_,rfl⟩:=(Akg e).1 he
   exact hw j hj
  have hne:∀e∈l,¬(e.p=(ent i).p/\e.n=(ent i).n):=by
   rintro e he ⟨q1,q2⟩
   obtain⟨j,hj,hjt,rfl⟩:=(Akg e).1 he
   have:=Aoq j hj i (M3 i hit) q1 q2
   subst this
   exact hjt hit
  obtain⟨w',G4,hm',hon'⟩:=Clq hm Crl (ent i).p (ent i).n (hw i (M3 i hit)) (ent i).f hne
  refine Bvv ho hg hd Cua (by rw[em,ek,ev];exact G4) ?_
  refine ih (todo.erase i) (l++[⟨(ent i).p,(ent i).n,(ent i).f⟩]) w' (listed.setIfInBounds i true) (by rw[List.length_erase_of_mem hit];omega) (hnd.erase i) (fun j hj=>M3 j (List.mem_of_mem_erase hj)) (by simpa using hsz) ?_ hm' ?_ (hon.trans hon')
  ·intro j hj
   by_cases hji:i=j
   ·subst hji
    have ht:listed.size > i:=by omega
    have h1:(listed.setIfInBounds i true).getD i true=true:=by simp[ht]
    rw[h1]
    constructor
    ·intro h
     cases h
    ·rintro(h|h)
     ·exact absurd h (hnd.not_mem_erase)
     ·obtain⟨o2,ho2,hw2⟩:=Bpl i h
      rw[ho]at ho2
      cases ho2
      obtain⟨e,he,hb,Bef⟩:=Bko (hw2 i (M3 i hit))
      exact absurd (M3 i hit) (Bef▸(Bix haf e he).2.1)
   ·rw[getD_set_ne true hji,hl j hj,List.mem_erase_of_ne (Ne.symm hji)]
  ·intro e
   rw[List.mem_append,Akg e,List.mem_singleton]
   constructor
   ·rintro(⟨j,hj,hjt,rfl⟩|rfl)
    ·exact⟨j,hj,fun h=>hjt (List.mem_of_mem_erase h),rfl⟩
    ·exact⟨i,M3 i hit,hnd.not_mem_erase,rfl⟩
   ·rintro⟨j,hj,hjt,rfl⟩
    by_cases hji:j=i
    ·subst hji
     exact .inr rfl
    ·exact .inl ⟨j,hj,fun h=>hjt ((List.mem_erase_of_ne hji).2 h),rfl⟩
def Bcy:Nat->Nat
 |0=>295
 |1=>296
 |2=>297
 |3=>298
 |4=>299
 |5=>300
 |6=>294
 |7=>301
 |_=>0
def tab:List En:=[⟨false,4,295⟩,⟨false,20,296⟩,⟨true,1,297⟩,⟨true,6,298⟩,⟨true,7,299⟩,⟨true,25,300⟩,⟨true,47,294⟩,⟨true,1047,294⟩,⟨true,1049,294⟩,⟨true,2004,301⟩]
def ent:Nat->En
 |2=>⟨false,4,295⟩
 |4=>⟨false,20,296⟩
 |6=>⟨true,1,297⟩
 |8=>⟨true,6,298⟩
 |10=>⟨true,7,299⟩
 |12=>⟨true,25,300⟩
 |15=>⟨true,47,294⟩
 |18=>⟨true,1047,294⟩
 |21=>⟨true,1049,294⟩
 |23=>⟨true,2004,301⟩
 |_=>⟨false,0,0⟩
def all:List Nat:=[2,4,6,8,10,12,15,18,21,23]
def tail(j:Nat):Bool:=j==24||j==25
theorem Cmv(e:En):(∃i∈all,e=ent i)↔e∈tab:=by
 have h:tab=all.map ent:=rfl
 rw[h,List.mem_map]
 exact⟨fun⟨i,hi,he⟩=>⟨i,hi,he.symm⟩,fun⟨i,hi,he⟩=>⟨i,hi,he.symm⟩⟩
theorem Crd(l:List En)(h:(l.all fun e=>(Lit.int .i64 e.n).wf)=true):Abb l:=fun e he=>List.all_eq_true.1 h e he
theorem Cei:Abb tab:=Crd _ (by decide)
theorem Cqd{p:Bool}{n:Int}{e:En}(he:e∈tab)(hp:e.p=p)(hn:e.n=n):spot p n<8/\e.f=Bcy (spot p n):=by
 subst hp
 subst hn
 simp only[tab,List.mem_cons,List.not_mem_nil,or_false]at he
 rcases he with rfl|rfl|rfl|rfl|rfl|rfl|rfl|rfl|rfl|rfl
 all_goals exact⟨by decide,rfl⟩
theorem Chx{p:Bool}{n:Int}(h:∀e∈tab,¬(e.p=p/\e.n=n)):spot p n=8:=by
 simp only[tab,List.mem_cons,List.not_mem_nil,or_false,forall_eq_or_imp,forall_eq]at h
 obtain⟨h0,h1,h2,h3,h4,h5,h6,h7,h8,h9⟩:=h
 cases p
 all_goals
  unfold spot
  simp at *
 ·rw[if_neg (by omega),if_neg (by omega)]
 ·rw[if_neg (by omega),if_neg (by omega),if_neg (by omega),if_neg (by omega),if_neg (by omega),if_neg (by omega),if_neg (by omega),if_neg (by omega)]
def Aqr(w:World)(b:Nat):Prop:=∃l,Mp w b l/\∀e,e∈l↔e∈tab
theorem Bgm{w:World}{b:Nat}(h:Aqr w b)(p:Bool){n:Int}(hw:(Lit.int .i64 n).wf=true) :
  (spot p n=8/\(Instr.lookup 303 (.map (some b)) (kv p n) true).run prog w=.ok (.tuple #[.nilFunc,.bool false]) w) \/
  (spot p n<8/\(Instr.lookup 303 (.map (some b)) (kv p n) true).run prog w=.ok (.tuple #[.func (.func (Bcy (spot p n))) #[] #[],.bool true]) w):=by
 obtain⟨l,hm,hl⟩:=h
 rcases Baw hm (fun e he=>Cei e ((hl e).1 he)) p hw with⟨h1,h2⟩|⟨e,he,hp,hn,hr⟩
 ·exact .inl ⟨Chx fun e he=>h2 e ((hl e).2 he),h1⟩
 ·obtain⟨q1,q2⟩:=Cqd ((hl e).1 he) hp hn
  rw[q2]at hr
  exact .inr ⟨q1,hr⟩
theorem Agz(w:World) :
  Calls prog 291 #[] w fun e w'=>∃b,e=.returned (.map (some b))/\Aqr w' b/\Below w.heap.size w w':=by
 go_enter func291,ntmps291
 go_wp2
 refine wp_region_any rfl ?_
 refine wpAny_take (i:=1) (oi:=⟨some 3,_,_,_,_,_⟩) (v:=.agg #[.bool false,.int .i64 4]) rfl (by kernel_rfl) (by kernel_rfl) (by kernel_rfl) (fun _ _ _ h=>h) (.inl ⟨by rfl,by intro w;go_simp⟩) ?_
 refine wpAny_take (i:=3) (oi:=⟨some 4,_,_,_,_,_⟩) (v:=.agg #[.bool false,.int .i64 20]) rfl (by kernel_rfl) (by kernel_rfl) (by kernel_rfl) (fun _ _ _ h=>h) (.inl ⟨by rfl,by intro w;go_simp⟩) ?_
 refine wpAny_take (i:=5) (oi:=⟨some 5,_,_,_,_,_⟩) (v:=.agg #[.bool true,.int .i64 1]) rfl (by kernel_rfl) (by kernel_rfl) (by kernel_rfl) (fun _ _ _ h=>h) (.inl ⟨by rfl,by intro w;go_simp⟩) ?_
 refine wpAny_take (i:=7) (oi:=⟨some 6,_,_,_,_,_⟩) (v:=.agg #[.bool true,.int .i64 6]) rfl (by kernel_rfl) (by kernel_rfl) (by kernel_rfl) (fun _ _ _ h=>h) (.inl ⟨by rfl,by intro w;go_simp⟩) ?_
 refine wpAny_take (i:=9) (oi:=⟨some 7,_,_,_,_,_⟩) (v:=.agg #[.bool true,.int .i64 7]) rfl (by kernel_rfl) (by kernel_rfl) (by kernel_rfl) (fun _ _ _ h=>h) (.inl ⟨by rfl,by intro w;go_simp⟩) ?_
 refine wpAny_take (i:=11) (oi:=⟨some 8,_,_,_,_,_⟩) (v:=.agg #[.bool true,.int .i64 25]) rfl (by kernel_rfl) (by kernel_rfl) (by kernel_rfl) (fun _ _ _ h=>h) (.inl ⟨by rfl,by intro w;go_simp⟩) ?_
 refine wpAny_take (i:=13) (oi:=⟨some 9,_,_,_,_,_⟩) (v:=.agg #[.bool true,.int .i64 47]) rfl (by kernel_rfl) (by kernel_rfl) (by kernel_rfl) (fun _ _ _ h=>h) (.inl ⟨by rfl,by intro w;go_simp⟩) ?_
 refine wpAny_take (i:=14) (oi:=⟨some 10,_,_,_,_,_⟩) (v:=.func (.func 294) #[] #[]) rfl (by kernel_rfl) (by kernel_rfl) (by kernel_rfl) (fun _ _ _ h=>h) (.inl ⟨by rfl,by intro w;go_simp⟩) ?_
 refine wpAny_take (i:=16) (oi:=⟨some 11,_,_,_,_,_⟩) (v:=.agg #[.bool true,.int .i64 1047]) rfl (by kernel_rfl) (by kernel_rfl) (by kernel_rfl) (fun _ _ _ h=>h) (.inl ⟨by rfl,by intro w;go_simp⟩) ?_
 refine wpAny_take (i:=17) (oi:=⟨some 12,_,_,_,_,_⟩) (v:=.func (.func 294) #[] #[]) rfl (by kernel_rfl) (by kernel_rfl) (by kernel_rfl) (fun _ _ _ h=>h) (.inl ⟨by rfl,by intro w;go_simp⟩) ?_
 refine wpAny_take (i:=19) (oi:=⟨some 13,_,_,_,_,_⟩) (v:=.agg #[.bool true,.int .i64 1049]) rfl (by kernel_rfl) (by kernel_rfl) (by kernel_rfl) (fun _ _ _ h=>h) (.inl ⟨by rfl,by intro w;go_simp⟩) ?_
 refine wpAny_take (i:=20) (oi:=⟨some 14,_,_,_,_,_⟩) (v:=.func (.func 294) #[] #[]) rfl (by kernel_rfl) (by kernel_rfl) (by kernel_rfl) (fun _ _ _ h=>h) (.inl ⟨by rfl,by intro w;go_simp⟩) ?_
 refine wpAny_take (i:=22) (oi:=⟨some 15,_,_,_,_,_⟩) (v:=.agg #[.bool true,.int .i64 2004]) rfl (by kernel_rfl) (by kernel_rfl) (by kernel_rfl) (fun _ _ _ h=>h) (.inl ⟨by rfl,by intro w;go_simp⟩) ?_
 refine wpAny_all (rs:=[0]) (by kernel_rfl) (by simp) ?_
 intro i hi
 obtain rfl:=List.mem_singleton.1 hi
 refine Buc (o:=⟨some 2,_,_,_,_,_⟩) rfl rfl rfl ?_
 refine Ckv ent all tail ?_ ?_ (of_decide_eq_true (by kernel_rfl)) (of_decide_eq_true (by kernel_rfl)) (w.drew.alloc (.map #[] 0)) 2 ?_ 10 all [] _ _ rfl (of_decide_eq_true (by kernel_rfl)) (fun _ h=>h) (by kernel_rfl) (of_decide_eq_true (by kernel_rfl)) (Mp.made w.drew) ?_ (A0.refl _ _)
 ·intro i hi
  simp only[all,List.mem_cons,List.not_mem_nil,or_false]at hi
  rcases hi with rfl|rfl|rfl|rfl|rfl|rfl|rfl|rfl|rfl|rfl
  all_goals exact⟨_,rfl,rfl,rfl,by kernel_rfl,_,_,_,rfl,rfl,rfl,rfl⟩
 ·intro j hj
  simp only[tail,Bool.or_eq_true,beq_iff_eq]at hj
  rcases hj with rfl|rfl
  all_goals exact⟨_,rfl,of_decide_eq_true (by kernel_rfl)⟩
 ·intro listed l w1 hs hl hm Akg ho
  have hL:=Cbc hs hl
  subst hL
  have hb:Below w.heap.size w w1:=((C7 (Below.refl w.heap.size w) 1).trans (A3 w.drew _)).trans (ho.below (by simp) (by simp))
  have hP:Aqr w1 w.drew.heap.size:=⟨l,hm,fun e=>(Akg e).trans (Cmv e)⟩
  refine wpAny_take (i:=24) (oi:=⟨some 16,_,_,_,_,_⟩) (v:=.map (some w.drew.heap.size)) rfl (by kernel_rfl) (by kernel_rfl) (by kernel_rfl) (fun _ _ _ h=>h) (.inl ⟨by rfl,by intro w;go_simp⟩) ?_
  refine wpAny_take (i:=25) (oi:=⟨some 0,_,_,_,_,_⟩) (v:=.map (some w.drew.heap.size)) rfl (by kernel_rfl) (by kernel_rfl) (by kernel_rfl) (fun _ _ _ h=>h) (.inl ⟨by rfl,by intro w;go_simp⟩) ?_
  refine wpAny_done (by kernel_rfl) ?_ _
  dsimp only [Act.put]
  go_wp2
  go_ret
  exact⟨_,rfl,hP,hb⟩
 ·intro e
  constructor
  ·intro h
   simp at h
  ·rintro⟨i,hi,h,_⟩
   exact absurd hi h
