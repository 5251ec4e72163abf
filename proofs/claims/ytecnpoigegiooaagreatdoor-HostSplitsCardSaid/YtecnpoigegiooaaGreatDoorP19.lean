/- Part 19 of HostSplits. -/
import Derived.Deep.MidRow
import Derived.Test.YtecnpoigegiooaaGreatDoorP18
import Derived.Test.YtecnpoigegiooaaGreatDoorProg
import Derived.Maps.Own
import Derived.DeepKeys4
import Derived.Carry
set_option maxHeartbeats 16000000
set_option maxRecDepth 100000
namespace Go.Proofs.YtecnpoigegiooaaGreatDoor.Tbs
open Go RowKit Com
def tabL (n:Nat) (f:Nat->Bool):List Value:=.int .i64 n::wsL f
def TabsIn (w:World) (d n:Nat) (f:Nat->Bool):Prop:=Block w d 177 (tabL n f).toArray
theorem TabsIn.blk {w:World} {d n:Nat} {f:Nat->Bool} (h:TabsIn w d n f):Block w d 177 (tabL n f).toArray:=h
theorem TabsIn.cols {w:World} {d n:Nat} {f:Nat->Bool} (h:TabsIn w d n f):w.cell? ⟨d,0,none⟩=some (.int .i64 n):=Block.cell h 0 rfl
theorem Cd2 {n:Nat} {f:Nat->Bool} {i:Nat} (hi:i<8):(tabL n f).toArray[1+i]?=some (.int .u64 (wd f i)):=by
 rw[List.getElem?_toArray,Nat.add_comm]
 exact Cd9 f hi
theorem TabsIn.range {w:World} {d n:Nat} {f:Nat->Bool} (h:TabsIn w d n f):w.rangeAt d 1 (wsL f):=fun j v hv=>Block.cell h (1+j) (by
 rw[List.getElem?_toArray,Nat.add_comm]
 exact hv)
theorem TabsIn.only {L:List Nat} {w w':World} {d n:Nat} {f:Nat->Bool} (h:TabsIn w d n f) (ho:Only L w w') (hn:d∉L):TabsIn w' d n f:=Block.only h ho hn
theorem TabsIn.below {w w':World} {d n:Nat} {f:Nat->Bool} (h:TabsIn w d n f) (hb:Below w.heap.size w w'):TabsIn w' d n f:=h.only (Only.of_below hb []) (by simp)
def mayB (n:Int):Bool:=decide (1<=n) && decide (n<=512)
theorem Ca7 {n:Int} (h:1<=n/\n<=512):mayB n=true:=by simp[mayB,h]
theorem Bt7 {n:Int} (h:¬(1<=n/\n<=512)):mayB n=false:=by
 unfold mayB
 rw[Bool.and_eq_false_iff]
 simp
 omega
theorem mayCount_any (n:Int) (w:World):Calls Tryz.prog 81 #[.int .i64 n] w fun e w'=>e=.returned (.bool (mayB n))/\w=w':=by
 by_cases h1:1<=n
 ·by_cases h2:n<=512
  ·rw[Ca7 ⟨h1,h2⟩]
   go_enter Tryz.func81,Tryz.ntmps81
   go_wp2
   go_ret
   exact⟨rfl,rfl⟩
  ·rw[Bt7 (by omega)]
   go_enter Tryz.func81,Tryz.ntmps81
   go_wp2
   go_ret
   exact⟨Ab6 (by simp),rfl⟩
 ·rw[Bt7 (by omega)]
  go_enter Tryz.func81,Tryz.ntmps81
  go_wp2
  go_ret
  exact⟨Ab6 (by simp),rfl⟩
theorem Bd0 {d n:Nat} {f:Nat->Bool} (w:World) (h:TabsIn w d n f):Calls Tryz.prog 229 #[.pointer (some ⟨d,0,none⟩)] w fun e w'=>e=.returned (.int .i64 n)/\w=w':=by
 have hc:=h.cols
 clear h
 go_enter Tryz.func229,Tryz.ntmps229
 go_wp2
 go_ret
 exact⟨rfl,rfl⟩
def Err (w:World) (k:Int) (e:Ending) (w':World):Prop:=e=.returned (.int .i64 k)/\w=w'
theorem Bv0 {w:World} {d n:Nat} {f:Nat->Bool} (h:TabsIn w d n f) (c:Nat) (hc:c<n):Calls Tryz.prog 233 #[.pointer (some ⟨d,0,none⟩),.int .i64 c] w (Err w 0):=by
 have hC:=J0 (Bd0 w h)
 have h0:=h.cols
 have hn0:((n:Int) == 0)=false:=by simp;omega
 have h1:decide ((c:Int)<0)=false:=by simp
 have h2:¬((n:Int)<=(c:Int)):=by omega
 clear h
 go_enter Tryz.func233,Tryz.ntmps233
 go_wp2_with ((go_at_call 229;(with_reducible refine(hC.out).mono ?_);rintro e w' ⟨rfl,rfl⟩))
 go_ret
 exact⟨rfl,rfl⟩
def Cf6 (w:World) (d n:Nat) (f:Nat->Bool) (k:Int) (e:Ending) (w':World):Prop:=e=.returned (.int .i64 k)/\TabsIn w' d n f/\Only [d] w w'
theorem By6 {w w':World} {d n:Nat} {f:Nat->Bool} {c:Nat} {b:Bool} {e:Ending} (hb:Bit w d 1 177 (tabL n f).toArray f c b e w'):TabsIn w' d n (putF f c b)/\Only [d] w w':=by
 obtain⟨_,h1,h2⟩:=hb
 refine⟨?_,h2⟩
 have e1:(tabL n f).toArray.setIfInBounds (1+c / 64) (.int .u64 (wd (putF f c b) (c / 64)))=(tabL n (putF f c b)).toArray:=by
  rw[J1,Nat.add_comm]
  unfold tabL
  rw[J3,By0 fun j _ hne=>(Cd5 f c b hne).symm]
 rw[e1] at h1
 exact h1
theorem set_ok {w:World} {d n:Nat} {f:Nat->Bool} (h:TabsIn w d n f) (hn:n<=512) (c:Nat) (hc:c<n):Calls Tryz.prog 176 #[.pointer (some ⟨d,0,none⟩),.int .i64 c] w (Cf6 w d n (putF f c true) 0):=by
 have hR:=J0 (Bv0 h c hc)
 have hS:=J0 (Bh8 f c (by omega) d 1 177 _ w h (Cd2 (by omega)))
 clear h hc
 go_enter Tryz.func176,Tryz.ntmps176
 go_wp2_with (first
  |(go_at_call 233;(with_reducible refine(hR.out).mono ?_);rintro e w' ⟨rfl,rfl⟩)
  |(go_at_call 234;(with_reducible refine(hS.out).mono ?_);rintro e w' ⟨⟨v',rfl⟩,hb'⟩))
 have hb:=By6 (e:=.returned v') ⟨⟨v',rfl⟩,hb'⟩
 go_ret
 exact⟨rfl,hb.1,hb.2⟩
theorem clr_ok {w:World} {d n:Nat} {f:Nat->Bool} (h:TabsIn w d n f) (hn:n<=512) (c:Nat) (hc:c<n):Calls Tryz.prog 249 #[.pointer (some ⟨d,0,none⟩),.int .i64 c] w (Cf6 w d n (putF f c false) 0):=by
 have hR:=J0 (Bv0 h c hc)
 have hS:=J0 (Be3 f c (by omega) d 1 177 _ w h (Cd2 (by omega)))
 clear h hc
 go_enter Tryz.func249,Tryz.ntmps249
 go_wp2_with (first
  |(go_at_call 233;(with_reducible refine(hR.out).mono ?_);rintro e w' ⟨rfl,rfl⟩)
  |(go_at_call 106;(with_reducible refine(hS.out).mono ?_);rintro e w' ⟨⟨v',rfl⟩,hb'⟩))
 have hb:=By6 (e:=.returned v') ⟨⟨v',rfl⟩,hb'⟩
 go_ret
 exact⟨rfl,hb.1,hb.2⟩
def Ab0 (n:Nat) (c:Int):Nat:=if c<0 then 0 else if (n:Int)<=c then n - 1 else c.toNat
theorem Bf8 {n:Nat} (hn:1<=n) (c:Int):Ab0 n c<n:=by
 unfold Ab0
 split
 ·omega
 ·split<;>omega
theorem Ah3 {w:World} {d n:Nat} {f:Nat->Bool} (h:TabsIn w d n f) (hn:1<=n) (hn2:n<=512) (c:Int):Calls Tryz.prog 230 #[.pointer (some ⟨d,0,none⟩),.int .i64 c] w (Err w (Ab0 n c)):=by
 have h0:=h.cols
 clear h
 by_cases h1:c<0
 ·have hE:Hid (0=((Ab0 n c:Nat):Int)):=by show _=_;unfold Ab0;rw[if_pos h1];rfl
  go_enter Tryz.func230,Tryz.ntmps230
  go_wp2
  all_goals (first|omega|skip)
  all_goals
   go_ret
   exact⟨Ab7 (by first|(rw[<- hE.out];done)|(rw[<- hE.out];omega)),rfl⟩
 by_cases h2:(n:Int)<=c
 ·have hE:Hid ((n:Int) - 1=((Ab0 n c:Nat):Int)):=by show _=_;unfold Ab0;rw[if_neg h1,if_pos h2];omega
  go_enter Tryz.func230,Tryz.ntmps230
  go_wp2
  all_goals (first|omega|skip)
  all_goals
   go_ret
   exact⟨Ab7 (by first|(rw[<- hE.out];done)|(rw[<- hE.out];omega)),rfl⟩
 ·obtain⟨k,rfl⟩:∃k:Nat,c=k:=⟨c.toNat,by omega⟩
  have hE:Hid ((k:Int)=((Ab0 n k:Nat):Int)):=by show _=_;unfold Ab0;rw[if_neg h1,if_neg h2];omega
  go_enter Tryz.func230,Tryz.ntmps230
  go_wp2
  all_goals (first|omega|skip)
  all_goals
   go_ret
   exact⟨Ab7 (by first|(rw[<- hE.out];done)|(rw[<- hE.out];omega)),rfl⟩
theorem tab_stored (n:Nat) (f g:Nat->Bool):(((tabL n f).toArray.toList.take 1++((wsA g).toList++(tabL n f).toArray.toList.drop (1+(wsA g).size))).toArray)=(tabL n g).toArray:=by
 rw[Ao8]
 simp only[tabL,wsA,List.take_succ_cons,List.take_zero]
 rw[List.drop_eq_nil_of_le (by simp[Bi5])]
 simp
theorem Cv6 (g:Nat->Bool):wsA g=#[.int .u64 (wd g 0),.int .u64 (wd g 1),.int .u64 (wd g 2),.int .u64 (wd g 3),.int .u64 (wd g 4),.int .u64 (wd g 5),.int .u64 (wd g 6),.int .u64 (wd g 7)]:=by
 simp[wsA,wsL,List.range_succ]
theorem Cr7 (n:Nat) (g:Nat->Bool):(tabL n g).toArray=#[.int .i64 n,.int .u64 (wd g 0),.int .u64 (wd g 1),.int .u64 (wd g 2),.int .u64 (wd g 3),.int .u64 (wd g 4),.int .u64 (wd g 5),.int .u64 (wd g 6),.int .u64 (wd g 7)]:=by simp[tabL,wsL,List.range_succ]
theorem TabsIn.nine {w:World} {d n:Nat} {f:Nat->Bool} (h:TabsIn w d n f):w.cell? ⟨d,0,none⟩=some (.int .i64 n)/\w.cell? ⟨d,1,none⟩=some (.int .u64 (wd f 0))/\w.cell? ⟨d,2,none⟩=some (.int .u64 (wd f 1))/\w.cell? ⟨d,3,none⟩=some (.int .u64 (wd f 2))/\w.cell? ⟨d,4,none⟩=some (.int .u64 (wd f 3))/\w.cell? ⟨d,5,none⟩=some (.int .u64 (wd f 4))/\w.cell? ⟨d,6,none⟩=some (.int .u64 (wd f 5))/\w.cell? ⟨d,7,none⟩=some (.int .u64 (wd f 6))/\w.cell? ⟨d,8,none⟩=some (.int .u64 (wd f 7)):=by
 have hb:=h.blk
 rw[Cr7] at hb
 exact⟨hb.cell 0 rfl,hb.cell 1 rfl,hb.cell 2 rfl,hb.cell 3 rfl,hb.cell 4 rfl,hb.cell 5 rfl,hb.cell 6 rfl,hb.cell 7 rfl,hb.cell 8 rfl⟩
theorem fold_tab (n:Nat) (g:Nat->Bool):Array.foldl (fun (cs:Array Value) (x:Value×Nat)=>cs.setIfInBounds (1+x.snd) x.fst) #[.int .i64 n,.int .u64 0,.int .u64 0,.int .u64 0,.int .u64 0,.int .u64 0,.int .u64 0,.int .u64 0,.int .u64 0] (wsA g).zipIdx 0 8=(tabL n g).toArray:=by
 rw[Cr7,Cv6]
 simp
theorem clearAll_any {w:World} {d n:Nat} {f:Nat->Bool} (h:TabsIn w d n f) (hn:1<=n):Calls Tryz.prog 250 #[.pointer (some ⟨d,0,none⟩)] w (Cf6 w d n (fun _=>false) 0):=by
 have hC:=J0 (Bd0 w h)
 have hn0:((n:Int) == 0)=false:=by simp;omega
 have hinf:=Au8 (fun _=>false)
 have hsz:Hid (1+(wsA (fun _=>false)).size<=(tabL n f).toArray.size):=J0 (by rw[Ao8];simp[tabL,Bi5])
 have hst:=tab_stored n f (fun _=>false)
 have hone:=Bv7 (fun _=>false)
 have hsz:=hsz.out
 rw[Ck2] at hst hinf hone hsz
 replace hst:=J0 hst
 replace hinf:=J0 hinf
 replace hone:=J0 hone
 replace hsz:=J0 hsz
 replace h:=J0 h
 go_enter Tryz.func250,Tryz.ntmps250
 go_wp2_with (first
  |(go_at_call 229;(with_reducible refine(hC.out).mono ?_);rintro e w' ⟨rfl,rfl⟩)
  |(with_reducible refine J8 9 ?_;go_must (refine Ad7 rfl _ (.tmp 9) (.tmp 7) rfl h.out.blk zero8 rfl rfl hsz.out hinf.out hone.out ?_);intro w1 hd1 ho1))
 rw[hst.out] at hd1
 go_ret
 exact⟨rfl,hd1,ho1⟩
theorem new_ok (n:Nat) (h0:1<=n) (h1:n<=512) (w:World):Calls Tryz.prog 56 #[.int .i64 n] w fun e w'=>∃d,e=.returned (.tuple #[.pointer (some ⟨d,0,none⟩),.int .i64 0])/\TabsIn w' d n (freshF 0 n)/\Below w.heap.size w w'/\w.heap.size<=d:=by
 have hm:=J0 (mayCount_any n w)
 rw[Ca7 (by omega)] at hm
 have hf:=Bf0 0 n (by omega) (by omega)
 have hs8:=Ao8 (freshF 0 n)
 have hfo:=J0 (fold_tab n (freshF 0 n))
 generalize freshF 0 n=g at hf hs8 hfo |-
 replace hf:=J0 hf
 have hz8:(zero8).size=8:=rfl
 go_enter Tryz.func56,Tryz.ntmps56
 go_wp2_with (first
  |(go_at_call 81;(with_reducible refine(hm.out).mono ?_);rintro e w' ⟨rfl,rfl⟩)
  |(go_at_call 82;(with_reducible refine(hf.out _).mono ?_);rintro e w' ⟨rfl,hb'⟩))
 rw[hfo.out]
 go_ret2
 exact⟨_,rfl,Block.made w' _ _,Aa0 hb' (Aa1 _ _),hb'.size⟩
def Bu6 (f:Nat->Bool) (h:Nat) (k:Int):Nat:=if k<1 then h else if ((sts (inF f 0 h) 512).length:Int)<k then 0 else (sts (inF f 0 h) 512).getD ((sts (inF f 0 h) 512).length - k.toNat) 0
def Bu1 (n:Nat) (f:Nat->Bool) (h:Nat) (k:Int):Nat:=if k<1 then h else if ((sts (inF f (h+1) n) 512).length:Int)<k then n - 1 else (sts (inF f (h+1) n) 512).getD (k.toNat - 1) 0
def prevF (n:Nat) (f:Nat->Bool) (c k:Int):Nat:=Bu6 f (Ab0 n c) k
def nextF (n:Nat) (f:Nat->Bool) (c k:Int):Nat:=Bu1 n f (Ab0 n c) k
theorem wsL_info (f:Nat->Bool):(Tryz.prog.info? 174).map (·.size)=some (wsL f).length:=by rw[Bi5];kernel_rfl
theorem Co7 (w:World):Block (w.alloc (.cells #[.int .u64 0,.int .u64 0,.int .u64 0,.int .u64 0,.int .u64 0,.int .u64 0,.int .u64 0,.int .u64 0] 174)) w.heap.size 174 zero8:=Block.made w _ zero8
theorem Aq5 {w w1 w2:World} {t:TypeId} (h1:Below w.heap.size w w1) (h2:Only [w1.heap.size] (w1.alloc (.cells #[.int .u64 0,.int .u64 0,.int .u64 0,.int .u64 0,.int .u64 0,.int .u64 0,.int .u64 0,.int .u64 0] t)) w2):Below w.heap.size w w2 :=
 Ag3 (Aa0 h1 (Aa1 w1 _)) h2 h1.size
theorem prev_any {w:World} {d n:Nat} {f:Nat->Bool} (h:TabsIn w d n f) (hn:1<=n) (hn2:n<=512) (c k:Int) (T:Tab w):Calls Tryz.prog 240 #[.pointer (some ⟨d,0,none⟩),.int .i64 c,.int .i64 k] w (Num w (prevF n f c k)):=by
 have hC:=J0 (Bd0 w h)
 have hH:=Ah3 h hn hn2 c
 have hlt:=Bf8 hn c
 have hn0:((n:Int) == 0)=false:=by simp;omega
 unfold prevF
 generalize Ab0 n c=q at hH hlt |-
 replace hH:=J0 hH
 by_cases hk:k<1
 ·have hE:Hid (Bu6 f q k=q):=by show _=_;unfold Bu6;rw[if_pos hk]
  clear h T
  go_enter Tryz.func240,Tryz.ntmps240
  go_wp2_with (first
   |(go_at_call 229;(with_reducible refine(hC.out).mono ?_);rintro e w' ⟨rfl,rfl⟩)
   |(go_at_call 230;(with_reducible refine(hH.out).mono ?_);rintro e w' ⟨rfl,rfl⟩))
  go_ret
  exact⟨Ab7 (by rw[hE.out]),Below.refl _ _⟩
 ·have hr0:=J0 h.range
  have hi:=J0 (wsL_info f)
  have hw:Hid (Calls Tryz.prog 107 #[.agg (wsL f).toArray,.int .i64 0,.int .i64 q] w (Ret8 w (inF f 0 q))):=J0 (Ba8 f 0 q (by omega) (by omega) w)
  have hEe:Bu6 f q k=if ((sts (inF f 0 q) 512).length:Int)<k then 0 else (sts (inF f 0 q) 512).getD ((sts (inF f 0 q) 512).length - k.toNat) 0:=by unfold Bu6;rw[if_neg hk]
  have hbd:=Aq4 (inF f 0 q) 512
  have hcnt:=J0 (fun w=>Ad5 (inF f 0 q) w)
  have hnth:=J0 (fun w m h1 h2 T=>Ck3 (inF f 0 q) m h1 h2 w T)
  have hinf:=J0 (Au8 (inF f 0 q))
  have hone:=J0 (Bv7 (inF f 0 q))
  have hsz:Hid (zero8.size=(wsA (inF f 0 q)).size):=J0 (by rw[Ao8];rfl)
  generalize inF f 0 q=g at hw hEe hbd hcnt hnth hinf hone hsz
  obtain⟨L,hL⟩:∃L,L=sts g 512:=⟨_,rfl⟩
  rw[<- hL] at hEe hbd
  obtain⟨m,hm⟩:∃m,m=L.length:=⟨_,rfl⟩
  have hcnt2:Hid (∀w,Calls Tryz.prog 231 #[.agg (wsA g)] w (Num w m)):=J0 fun w=>by have:=hcnt.out w;rw[<- hL,<- hm] at this;exact this
  rw[<- hm] at hEe hbd
  replace T:=J0 T
  by_cases hkm:(m:Int)<k
  ·rw[if_pos hkm] at hEe
   rw[hEe]
   clear h hcnt hnth hEe hL hm
   go_enter Tryz.func240,Tryz.ntmps240
   go_wp2_with (first
    |(go_at_call 229;(with_reducible refine(hC.out).mono ?_);rintro e w' ⟨rfl,rfl⟩)
    |(go_at_call 230;(with_reducible refine(hH.out).mono ?_);rintro e w' ⟨rfl,rfl⟩)
    |(with_reducible refine J9 21 20 ?_;go_must (refine wpList_load_mid rfl _ (.tmp 20) rfl d 1 rfl (wsL f) _ hr0.out Tryz.underlying174 rfl hi.out ?_))
    |(go_at_call 107;(with_reducible refine(hw.out).mono ?_);rintro e w1 ⟨rfl,hb1⟩)
    |(with_reducible refine J8 7 ?_;go_must (refine Aa3 rfl _ (.tmp 7) (.tmp 23) rfl (Co7 w1) (wsA g) rfl rfl hinf.out hsz.out hone.out ?_);intro w2 hd2 ho2;replace hd2:=J0 hd2)
    |(with_reducible refine J9 24 7 ?_;go_must (refine wpList_load_row rfl _ (.tmp 7) rfl w1.heap.size rfl _ (wsA g) (0,0) _ (blk hd2.out) Tryz.underlying174 rfl hinf.out ?_))
    |(go_at_call 231;(with_reducible refine(hcnt2.out _).mono ?_);rintro e w3 ⟨rfl,hb3⟩))
   go_ret
   exact⟨rfl,Aa0 (Aq5 hb1 ho2) hb3⟩
  ·obtain⟨K,rfl⟩:∃K:Nat,k=K:=⟨k.toNat,by omega⟩
   have hK1:1<=K:=by omega
   have hK2:K<=m:=by omega
   rw[if_neg hkm,Int.toNat_natCast] at hEe
   have hN:Hid (∀w,Tab w->Calls Tryz.prog 232 #[.agg (wsA g),.int .i64 ((m:Int) - (K:Int)+1)] w (Num w (L.getD (m - K) 0))):=J0 fun w T=>by
    have:=hnth.out w (m - K+1) (by omega) (by rw[<- hL,<- hm];omega) T
    rw[<- hL,Nat.add_sub_cancel,show ((m - K+1:Nat):Int)=(m:Int) - (K:Int)+1 by omega] at this
    exact this
   rw[hEe]
   generalize L.getD (m - K) 0=x at hN
   clear h hcnt hnth hEe hL hm
   go_enter Tryz.func240,Tryz.ntmps240
   go_wp2_with (first
    |(go_at_call 229;(with_reducible refine(hC.out).mono ?_);rintro e w' ⟨rfl,rfl⟩)
    |(go_at_call 230;(with_reducible refine(hH.out).mono ?_);rintro e w' ⟨rfl,rfl⟩)
    |(with_reducible refine J9 21 20 ?_;go_must (refine wpList_load_mid rfl _ (.tmp 20) rfl d 1 rfl (wsL f) _ hr0.out Tryz.underlying174 rfl hi.out ?_))
    |(go_at_call 107;(with_reducible refine(hw.out).mono ?_);rintro e w1 ⟨rfl,hb1⟩)
    |(with_reducible refine J8 7 ?_;go_must (refine Aa3 rfl _ (.tmp 7) (.tmp 23) rfl (Co7 w1) (wsA g) rfl rfl hinf.out hsz.out hone.out ?_);intro w2 hd2 ho2;replace hd2:=J0 hd2)
    |(with_reducible refine J9 24 7 ?_;go_must (refine wpList_load_row rfl _ (.tmp 7) rfl w1.heap.size rfl _ (wsA g) (0,0) _ (blk hd2.out) Tryz.underlying174 rfl hinf.out ?_))
    |(go_at_call 231;(with_reducible refine(hcnt2.out _).mono ?_);rintro e w3 ⟨rfl,hb3⟩)
    |(with_reducible refine J9 29 7 ?_;go_must (refine wpList_load_row rfl _ (.tmp 7) rfl w1.heap.size rfl _ (wsA g) (0,0) _ (blk (hd2.out.only (Only.of_below hb3 []) (by simp))) Tryz.underlying174 rfl hinf.out ?_))
    |(go_at_call 232;(with_reducible refine(hN.out _ (T.out.below (Aa0 (Aq5 hb1 ho2) hb3))).mono ?_);rintro e w4 ⟨rfl,hb4⟩))
   go_ret
   exact⟨rfl,Aa0 (Aa0 (Aq5 hb1 ho2) hb3) hb4⟩
theorem storing8 {w:World} {b:Nat} (h:Block w b 174 zero8) (g:Nat->Bool):∃w',(storeCells ⟨b,0,none⟩ (wsA g).toList).run Tryz.prog w=.ok () w'/\Block w' b 174 (wsA g)/\Only [b] w w':=by
 have hz:zero8.size=8:=rfl
 have hl:(wsA g).toList.length=8:=by rw[Array.length_toList,Ao8]
 have hrun:=run_storeCells_at Tryz.prog b 0 174 (wsA g).toList 0 zero8 w h (by rw[hl,hz];omega) (fun x hx=>(Array.all_eq_true_iff_forall_mem.1 (Bv7 g)) x (by simpa using hx))
 refine⟨_,hrun,?_,Ac7 w b _⟩
 have:=setRow_heap w b zero8 (zero8.toList.take (0+0)++((wsA g).toList++zero8.toList.drop (0+0+(wsA g).toList.length))).toArray 174 _ h
 rw[hl] at this |-
 simpa[zero8,Block] using this
theorem TabsIn.nineB {w:World} {d n:Nat} {f:Nat->Bool} (h:TabsIn w d n f):∀w',Below w.heap.size w w'->(w'.cell? ⟨d,0,none⟩=some (.int .i64 n)/\w'.cell? ⟨d,1,none⟩=some (.int .u64 (wd f 0))/\w'.cell? ⟨d,2,none⟩=some (.int .u64 (wd f 1))/\w'.cell? ⟨d,3,none⟩=some (.int .u64 (wd f 2))/\w'.cell? ⟨d,4,none⟩=some (.int .u64 (wd f 3))/\w'.cell? ⟨d,5,none⟩=some (.int .u64 (wd f 4))/\w'.cell? ⟨d,6,none⟩=some (.int .u64 (wd f 5))/\w'.cell? ⟨d,7,none⟩=some (.int .u64 (wd f 6))/\w'.cell? ⟨d,8,none⟩=some (.int .u64 (wd f 7))):=fun _ hb=>(h.below hb).nine
theorem next_any {w:World} {d n:Nat} {f:Nat->Bool} (h:TabsIn w d n f) (hn:1<=n) (hn2:n<=512) (c k:Int) (T:Tab w):Calls Tryz.prog 173 #[.pointer (some ⟨d,0,none⟩),.int .i64 c,.int .i64 k] w (Num w (nextF n f c k)):=by
 have hC:=J0 (Bd0 w h)
 have hH:=Ah3 h hn hn2 c
 have hlt:=Bf8 hn c
 have hn0:((n:Int) == 0)=false:=by simp;omega
 unfold nextF
 generalize Ab0 n c=q at hH hlt |-
 replace hH:=J0 hH
 by_cases hk:k<1
 ·have hE:Hid (Bu1 n f q k=q):=by show _=_;unfold Bu1;rw[if_pos hk]
  clear h T
  go_enter Tryz.func173,Tryz.ntmps173
  go_wp2_with (first
   |(go_at_call 229;(with_reducible refine(hC.out).mono ?_);rintro e w' ⟨rfl,rfl⟩)
   |(go_at_call 230;(with_reducible refine(hH.out).mono ?_);rintro e w' ⟨rfl,rfl⟩))
  go_ret
  exact⟨Ab7 (by rw[hE.out]),Below.refl _ _⟩
 ·have hc:=h.nine
  have hS:=J0 h.nineB
  have hw:Hid (∀w,Calls Tryz.prog 107 #[.agg #[.int .u64 (wd f 0),.int .u64 (wd f 1),.int .u64 (wd f 2),.int .u64 (wd f 3),.int .u64 (wd f 4),.int .u64 (wd f 5),.int .u64 (wd f 6),.int .u64 (wd f 7)],.int .i64 ((q:Int)+1),.int .i64 n] w (Ret8 w (inF f (q+1) n))):=J0 fun w=>by
   have:=Ba8 f (q+1) n (by omega) (by omega) w
   rwa [Cv6] at this
  have hEe:Bu1 n f q k=if ((sts (inF f (q+1) n) 512).length:Int)<k then n - 1 else (sts (inF f (q+1) n) 512).getD (k.toNat - 1) 0:=by unfold Bu1;rw[if_neg hk]
  have hbd:=Aq4 (inF f (q+1) n) 512
  have hcnt:=J0 (fun w=>Ad5 (inF f (q+1) n) w)
  have hnth:=J0 (fun w m h1 h2 T=>Ck3 (inF f (q+1) n) m h1 h2 w T)
  have hinf:=J0 (Au8 (inF f (q+1) n))
  have hsto:=J0 (fun (w:World) (b:Nat) (h:Block w b 174 zero8)=>storing8 h (inF f (q+1) n))
  have hs8:=Ao8 (inF f (q+1) n)
  have hcut:=J0 (fun w' hb=>(h.below hb:TabsIn w' d n f))
  generalize inF f (q+1) n=g at hw hEe hbd hcnt hnth hinf hsto hs8
  obtain⟨L,hL⟩:∃L,L=sts g 512:=⟨_,rfl⟩
  rw[<- hL] at hEe hbd
  obtain⟨m,hm⟩:∃m,m=L.length:=⟨_,rfl⟩
  have hcnt2:Hid (∀w,Calls Tryz.prog 231 #[.agg (wsA g)] w (Num w m)):=J0 fun w=>by have:=hcnt.out w;rw[<- hL,<- hm] at this;exact this
  rw[<- hm] at hEe hbd
  replace T:=J0 T
  replace hEe:=J0 hEe
  replace hL:=J0 hL
  replace hm:=J0 hm
  have hwr:IntKind.i64.wrap ((q:Int)+1)=(q:Int)+1:=IntWalk.i64_in _ (by omega)
  clear h hcnt
  go_enter Tryz.func173,Tryz.ntmps173
  go_wp2_with (first
   |(go_at_call 229;(with_reducible refine(hC.out).mono ?_);rintro e w' ⟨rfl,rfl⟩)
   |(go_at_call 230;(with_reducible refine(hH.out).mono ?_);rintro e w' ⟨rfl,rfl⟩))
  have hdw:=Aa4 (Below.refl w.heap.size w) 1
  have hda:=Aa4 (Aa1 w (.cells #[.int .u64 0,.int .u64 0,.int .u64 0,.int .u64 0,.int .u64 0,.int .u64 0,.int .u64 0,.int .u64 0] 174)) 1
  have hma:Block ((w.alloc (.cells #[.int .u64 0,.int .u64 0,.int .u64 0,.int .u64 0,.int .u64 0,.int .u64 0,.int .u64 0,.int .u64 0] 174)).drew) w.heap.size 174 zero8:=(Co7 w).only (Ab2 [] _) (by simp)
  replace hma:=J0 hma
  go_region_held3 (fun w'=>w'.cell? ⟨d,0,none⟩=some (.int .i64 n)/\w'.cell? ⟨d,1,none⟩=some (.int .u64 (wd f 0))/\w'.cell? ⟨d,2,none⟩=some (.int .u64 (wd f 1))/\w'.cell? ⟨d,3,none⟩=some (.int .u64 (wd f 2))/\w'.cell? ⟨d,4,none⟩=some (.int .u64 (wd f 3))/\w'.cell? ⟨d,5,none⟩=some (.int .u64 (wd f 4))/\w'.cell? ⟨d,6,none⟩=some (.int .u64 (wd f 5))/\w'.cell? ⟨d,7,none⟩=some (.int .u64 (wd f 6))/\w'.cell? ⟨d,8,none⟩=some (.int .u64 (wd f 7))) (first|exact hc|exact hS.out _ (by assumption)|go_keep)
   (first
    |(go_at_call 107;(with_reducible refine(hw.out w.drew).mono ?_);rintro e w1 ⟨rfl,hb1'⟩;have hb1:Below w.heap.size w w1:=Aa0 hdw hb1';obtain⟨w7,hst7,hB7,ho7⟩:=hsto.out _ _ (Co7 w1);have hb8:=Aa0 hb1 (Aa1 w1 (.cells #[.int .u64 0,.int .u64 0,.int .u64 0,.int .u64 0,.int .u64 0,.int .u64 0,.int .u64 0,.int .u64 0] 174));have hb7:Below w.heap.size w w7:=Aq5 hb1 ho7)
    |(go_at_call 107;(with_reducible refine(hw.out (w.alloc (.cells #[.int .u64 0,.int .u64 0,.int .u64 0,.int .u64 0,.int .u64 0,.int .u64 0,.int .u64 0,.int .u64 0] 174)).drew).mono ?_);rintro e w1 ⟨rfl,hb1'⟩;have hb1:Below w.heap.size w w1:=Aa0 hda hb1';obtain⟨w7,hst7,hB7,ho7⟩:=hsto.out w1 _ (hma.out.only (Only.of_below hb1' []) (by simp));have hb7:Below w.heap.size w w7:=Ag3 hb1 ho7 (J5 _)))
  all_goals
   replace hB7:=J0 hB7
   replace hb7:=J0 hb7
   have hc7:=hcut.out w7 hb7.out
   have hcol7:=hc7.cols
   clear hst7 ho7 hb1' hb1 hdw hda hS hc hwr
   by_cases hkm:(m:Int)<k
   ·have hE:=hEe.out
    rw[if_pos hkm] at hE
    replace hE:=J0 hE
    have hn1:(n:Int) - 1=((n - 1:Nat):Int):=by omega
    have hc9:=J0 (fun w8 (hb:Below w7.heap.size w7 w8)=>(hc7.below hb).cols)
    replace hn1:=J0 hn1
    clear hc7 hcol7
    go_wp2_with (first
     |(with_reducible refine J9 29 7 ?_;go_must (refine wpList_load_row rfl _ (.tmp 7) rfl _ rfl _ (wsA g) (0,0) _ (blk hB7.out) Tryz.underlying174 rfl hinf.out ?_))
     |(go_at_call 231;(with_reducible refine(hcnt2.out _).mono ?_);rintro e w8 ⟨rfl,hb8'⟩;have hcol8:=hc9.out w8 hb8'))
    go_ret
    exact⟨Ab7 (by rw[hn1.out,hE.out]),Aa0 hb7.out hb8'⟩
   ·obtain⟨K,rfl⟩:∃K:Nat,k=K:=⟨k.toNat,by omega⟩
    have hK1:1<=K:=by omega
    have hK2:K<=m:=by omega
    have hE:=hEe.out
    rw[if_neg hkm,Int.toNat_natCast] at hE
    have hN:Hid (∀w,Tab w->Calls Tryz.prog 232 #[.agg (wsA g),.int .i64 K] w (Num w (L.getD (K - 1) 0))):=J0 fun w T=>by
     have:=hnth.out w K hK1 (by rw[<- hL.out,<- hm.out];omega) T
     rw[<- hL.out] at this
     exact this
    generalize L.getD (K - 1) 0=x at hN hE
    replace hE:=J0 hE
    clear hc7 hcol7
    go_wp2_with (first
     |(with_reducible refine J9 29 7 ?_;go_must (refine wpList_load_row rfl _ (.tmp 7) rfl _ rfl _ (wsA g) (0,0) _ (blk hB7.out) Tryz.underlying174 rfl hinf.out ?_))
     |(go_at_call 231;(with_reducible refine(hcnt2.out _).mono ?_);rintro e w8 ⟨rfl,hb8'⟩)
     |(with_reducible refine J9 37 7 ?_;go_must (refine wpList_load_row rfl _ (.tmp 7) rfl _ rfl _ (wsA g) (0,0) _ (blk (hB7.out.only (Only.of_below hb8' []) (by simp))) Tryz.underlying174 rfl hinf.out ?_))
     |(go_at_call 232;(with_reducible refine(hN.out _ (T.out.below (Aa0 hb7.out hb8'))).mono ?_);rintro e w9 ⟨rfl,hb9'⟩))
    go_ret
    exact⟨Ab7 (by rw[hE.out]),Aa0 (Aa0 hb7.out hb8') hb9'⟩
end Go.Proofs.YtecnpoigegiooaaGreatDoor.Tbs
namespace Go.Proofs.YtecnpoigegiooaaGreatDoor.Mds
structure Md where
 a0:Bool
 a1:Bool
 a2:Bool
 a3:Bool
 a4:Bool
 a5:Bool
 a6:Bool
 a7:Bool
def Md.get (m:Md):Nat->Bool
 |0=>m.a0
 |1=>m.a1
 |2=>m.a2
 |3=>m.a3
 |4=>m.a4
 |5=>m.a5
 |6=>m.a6
 |7=>m.a7
 |_=>false
def Md.set (m:Md) (k:Nat) (b:Bool):Md :=
 match k with
 |0=>{ m with a0:=b }
 |1=>{ m with a1:=b }
 |2=>{ m with a2:=b }
 |3=>{ m with a3:=b }
 |4=>{ m with a4:=b }
 |5=>{ m with a5:=b }
 |6=>{ m with a6:=b }
 |7=>{ m with a7:=b }
 |_=>m
def spot (p:Bool) (n:Int):Nat :=
 if p then
  if n=1 then 2 else if n=6 then 3 else if n=7 then 4 else if n=25 then 5 else if n=47 then 6 else if n=1047 then 6 else if n=1049 then 6 else if n=2004 then 7 else 8
 else if n=4 then 0 else if n=20 then 1 else 8
def pow:Nat->Int
 |0=>1
 |1=>2
 |2=>4
 |3=>8
 |4=>16
 |5=>32
 |6=>64
 |7=>128
 |_=>0
def one (b:Bool) (v:Int):Int:=if b then v else 0
def Md.bits (m:Md):Int:=one m.a0 1+one m.a1 2+one m.a2 4+one m.a3 8+one m.a4 16+one m.a5 32+one m.a6 64+one m.a7 128
def start:Md:=⟨false,false,false,false,true,true,false,false⟩
def none0:Md:=⟨false,false,false,false,false,false,false,false⟩
def Md.put (m:Md) (p:Bool) (n:Int) (on:Bool):Md:=m.set (spot p n) on
def Md.has (m:Md) (p:Bool) (n:Int):Bool:=m.get (spot p n)
def known (p:Bool) (n:Int):Bool:=decide (spot p n<8)
theorem spot_le (p:Bool) (n:Int):spot p n<=8:=by
 unfold spot
 repeat' split
 all_goals omega
theorem small {k:Nat} (h:k<=8):k=0\/k=1\/k=2\/k=3\/k=4\/k=5\/k=6\/k=7\/k=8:=by omega
def Md.same (m x:Md):Bool:=m.a0 == x.a0 && m.a1 == x.a1 && m.a2 == x.a2 && m.a3 == x.a3 && m.a4 == x.a4 && m.a5 == x.a5 && m.a6 == x.a6 && m.a7 == x.a7
def turn (m:Md) (k:Nat) (on:Bool):Int:=if m.get k && !on then m.bits - pow k else if !m.get k && on then m.bits+pow k else m.bits
end Go.Proofs.YtecnpoigegiooaaGreatDoor.Mds
namespace Go.Proofs.YtecnpoigegiooaaGreatDoor.Mds
open Go RowKit Com
open Go.Maps (Keyed)
open Go.ChangeMaps (setBlock heap_setBlock_same heap_setBlock_other)
theorem laidOut:laidOutB Tryz.prog=true:=by kernel_rfl
theorem rowK:306<Tryz.prog.types.size:=of_decide_eq_true (by kernel_rfl)
theorem wideK:(match Tryz.prog.underlying 306 with|some (.array _ _)|some (.struct _)=>true|_=>false)=true:=by kernel_rfl
theorem keyAtK:Tryz.prog.keyTypeAt 2 306=true:=by kernel_rfl
theorem lawK:Keyed Tryz.prog 306:=Keyed.of_law (deep_law_laid laidOut (m:=2) (by omega) rowK keyAtK wideK)
theorem keyK:Tryz.prog.keyType 306=true:=by kernel_rfl
theorem cK:Tryz.prog.cellsOf 306=2:=by kernel_rfl
theorem cB:Tryz.prog.cellsOf 4=1:=by kernel_rfl
theorem cI:Tryz.prog.cellsOf 3=1:=by kernel_rfl
def kv (p:Bool) (n:Int):Value:=.agg #[.bool p,.int .i64 n]
theorem Cq5 {p q:Bool} {n k:Int} (h:kv p n=kv q k):p=q/\n=k:=by
 unfold kv at h
 simpa using h
theorem key_lits (p:Bool) {n:Int} (hw:(Lit.int .i64 n).wf=true) (D:Nat):Tryz.prog.keyLits (D+1+1) 306 [.bool p,.int .i64 n]=some [.bool p,.int .i64 n]:=by
 simp[Program.keyLits,Tryz.underlying306,Tryz.underlying4,Tryz.underlying3,hw,cK,cB,cI]
theorem key_formed (p:Bool) (n:Int):Value.formed Tryz.prog 306 (kv p n)=true:=by
 simp[Value.formed,kv,Tryz.underlying306,cK]
theorem Ci8 (p:Bool) {n:Int} (hw:(Lit.int .i64 n).wf=true):∃l,keyOf Tryz.prog 306 (kv p n)=some l:=by
 obtain⟨D,hD⟩:∃D,Tryz.prog.types.size+1=D+1+1:=⟨Tryz.prog.types.size - 1,by have:=rowK;omega⟩
 have hf:=key_formed p n
 have hl:=key_lits p hw D
 rw[<- hD] at hl
 refine⟨.string (keyBytes [.bool p,.int .i64 n]),?_⟩
 unfold keyOf
 rw[Tryz.underlying306]
 dsimp only
 rw[keyK,hf,if_pos (by rfl)]
 have e:(kv p n).cells.toList=[.bool p,.int .i64 n]:=rfl
 rw[e,hl]
 rfl
structure En where
 p:Bool
 n:Int
 f:Nat
def ents:Nat->List En->List MapEntry
 |_,[]=>[]
 |i,e::r=>⟨kv e.p e.n,.func (.func e.f) #[] #[],i⟩::ents (i+1) r
theorem ents_snoc (i:Nat) (l:List En) (e:En):ents i (l++[e])=ents i l++[⟨kv e.p e.n,.func (.func e.f) #[] #[],i+l.length⟩]:=by
 induction l generalizing i with
 |nil=>rfl
 |cons x r ih =>
  simp only[List.cons_append,ents,ih,List.length_cons]
  rw[Nat.add_right_comm,Nat.add_assoc]
theorem Bn1 {i:Nat} {l:List En} {y:MapEntry} (h:y∈ents i l):∃e∈l,y.key=kv e.p e.n/\y.val=.func (.func e.f) #[] #[]:=by
 induction l generalizing i with
 |nil=>simp[ents] at h
 |cons x r ih =>
  rcases List.mem_cons.1 h with rfl|h
  ·exact⟨x,List.mem_cons_self,rfl,rfl⟩
  ·obtain⟨e,he,h2⟩:=ih h
   exact⟨e,List.mem_cons_of_mem _ he,h2⟩
theorem mem_ents {i:Nat} {l:List En} {e:En} (h:e∈l):∃y∈ents i l,y.key=kv e.p e.n:=by
 induction l generalizing i with
 |nil=>simp at h
 |cons x r ih =>
  rcases List.mem_cons.1 h with rfl|h
  ·exact⟨_,List.mem_cons_self,rfl⟩
  ·obtain⟨y,hy,h2⟩:=ih (i:=i+1) h
   exact⟨y,List.mem_cons_of_mem _ hy,h2⟩
def Mp (w:World) (b:Nat) (l:List En):Prop:=w.heap[b]?=some (.map (ents 0 l).toArray l.length)
def Fine (l:List En):Prop:=∀e∈l,(Lit.int .i64 e.n).wf=true
theorem Mp.made (w:World):Mp (w.alloc (.map #[] 0)) w.heap.size []:=heap_alloc_new w _
theorem Ci9 {l:List En} (hl:Fine l):∀y∈(ents 0 l).toArray.toList,∃k,keyOf Tryz.prog 306 y.key=some k:=by
 intro y hy
 obtain⟨e,he,hk,-⟩:=Bn1 (by simpa using hy)
 rw[hk]
 exact Ci8 e.p (hl e he)
theorem put_new {w:World} {b:Nat} {l:List En} (h:Mp w b l) (hl:Fine l) (p:Bool) (n:Int) (hw:(Lit.int .i64 n).wf=true) (f:Nat) (hne:∀e∈l,¬(e.p=p/\e.n=n)) :
  ∃w',(Instr.mapUpdate 303 (.map (some b)) (kv p n) (.func (.func f) #[] #[])).run Tryz.prog w=.ok () w'/\Mp w' b (l++[⟨p,n,f⟩])/\Only [b] w w':=by
 have hb:w.heap[b]?=some (.map (ents 0 l).toArray l.length):=h
 obtain⟨k,hk⟩:=Ci8 p hw
 refine⟨setBlock w b (.map ((ents 0 l).toArray.push ⟨kv p n,.func (.func f) #[] #[],l.length⟩) (l.length+1)),?_,?_,?_⟩
 ·rcases lawK.find w hk (ents 0 l).toArray.toList (Ci9 hl) with ⟨h1,-⟩|⟨j,e0,h1,h2,h3⟩
  ·have h1':(Instr.findKey 306 (kv p n) (ents 0 l)).run Tryz.prog w=.ok none w:=by simpa using h1
   simp[Instr.mapUpdate,run_underlying Tryz.underlying303,MapKept.run_getObj_map hb,lawK.check w false hk,h1',MapKept.run_setObj_map _ hb,Result.andThen,setBlock]
  ·exfalso
   obtain⟨e,he,hke,-⟩:=Bn1 (by simpa using List.mem_of_getElem? h2)
   obtain⟨q1,q2⟩:=Cq5 (hke.symm.trans h3)
   exact hne e he ⟨q1,q2⟩
 ·have:=heap_setBlock_same hb (.map ((ents 0 l).toArray.push ⟨kv p n,.func (.func f) #[] #[],l.length⟩) (l.length+1))
  unfold Mp
  rw[this,ents_snoc]
  simp
 ·exact⟨rfl,rfl,rfl,by simp[setBlock],fun i _ hi=>heap_setBlock_other hb _ (by simpa using hi)⟩
theorem Bo9 {w:World} {b:Nat} {l:List En} (h:Mp w b l) (hl:Fine l) (p:Bool) {n:Int} (hw:(Lit.int .i64 n).wf=true) :
  ((Instr.lookup 303 (.map (some b)) (kv p n) true).run Tryz.prog w=.ok (.tuple #[.nilFunc,.bool false]) w/\∀e∈l,¬(e.p=p/\e.n=n)) \/
  ∃e∈l,e.p=p/\e.n=n/\(Instr.lookup 303 (.map (some b)) (kv p n) true).run Tryz.prog w=.ok (.tuple #[.func (.func e.f) #[] #[],.bool true]) w:=by
 have hb:w.heap[b]?=some (.map (ents 0 l).toArray l.length):=h
 obtain⟨k,hk⟩:=Ci8 p hw
 have hz:(zeroValue 301).run Tryz.prog w=.ok .nilFunc w:=by exact Tryz.zeroValue301 w
 rcases lawK.find w hk (ents 0 l).toArray.toList (Ci9 hl) with ⟨h1,h2⟩|⟨j,e0,h1,h2,h3⟩
 ·have h1':(Instr.findKey 306 (kv p n) (ents 0 l)).run Tryz.prog w=.ok none w:=by simpa using h1
  refine .inl ⟨by simp[Instr.lookup,run_underlying Tryz.underlying303,MapKept.run_getObj_map hb,lawK.check w _ hk,h1',hz,Result.andThen],?_⟩
  rintro e he ⟨rfl,rfl⟩
  obtain⟨y,hy,hky⟩:=mem_ents (i:=0) he
  exact h2 y (by simpa using hy) hky
 ·have h1':(Instr.findKey 306 (kv p n) (ents 0 l)).run Tryz.prog w=.ok (some (j,e0.val)) w:=by simpa using h1
  obtain⟨e,he,hke,hv⟩:=Bn1 (by simpa using List.mem_of_getElem? h2)
  obtain⟨q1,q2⟩:=Cq5 (hke.symm.trans h3)
  refine .inr ⟨e,he,q1,q2,?_⟩
  rw[<- hv]
  simp[Instr.lookup,run_underlying Tryz.underlying303,MapKept.run_getObj_map hb,lawK.check w _ hk,h1',Result.andThen]
