/- Part 46 of the proof that the card of HostNone holds. -/
import Derived.Deep.Cut
import Derived.Deep.CutBlock
import Derived.Test.YtbafmljidapmgaaGreatDoorN45
set_option maxHeartbeats 16000000
set_option maxRecDepth 100000
namespace Go.Proofs.YtbafmljidapmgaaGreatDoor.Utf
open Go RowKit Com
def DecIn (w:World) (d:Nat) (D:Dec):Prop:=Block w d 152 #[.int .i64 D.o,.int .i64 D.l,.int .i32 D.b,.int .u8 D.lo,.int .u8 D.hi]
theorem DecIn.blk {w:World} {d:Nat} {D:Dec} (h:DecIn w d D):Block w d 152 #[.int .i64 D.o,.int .i64 D.l,.int .i32 D.b,.int .u8 D.lo,.int .u8 D.hi]:=h
theorem DecIn.c0 {w:World} {d:Nat} {D:Dec} (h:DecIn w d D):w.cell? ⟨d,0,none⟩=some (.int .i64 D.o):=Block.cell h 0 rfl
theorem DecIn.c1 {w:World} {d:Nat} {D:Dec} (h:DecIn w d D):w.cell? ⟨d,1,none⟩=some (.int .i64 D.l):=Block.cell h 1 rfl
theorem DecIn.c2 {w:World} {d:Nat} {D:Dec} (h:DecIn w d D):w.cell? ⟨d,2,none⟩=some (.int .i32 D.b):=Block.cell h 2 rfl
theorem DecIn.c3 {w:World} {d:Nat} {D:Dec} (h:DecIn w d D):w.cell? ⟨d,3,none⟩=some (.int .u8 D.lo):=Block.cell h 3 rfl
theorem DecIn.c4 {w:World} {d:Nat} {D:Dec} (h:DecIn w d D):w.cell? ⟨d,4,none⟩=some (.int .u8 D.hi):=Block.cell h 4 rfl
theorem Ck0:(Tryz.prog.info? 152).map (·.size)=some 5:=by kernel_rfl
theorem Cm1:(Tryz.prog.info? 3).map (·.size)=some 1:=by kernel_rfl
theorem Cr8:(Tryz.prog.info? 21).map (·.size)=some 1:=by kernel_rfl
theorem Cm2:(Tryz.prog.info? 5).map (·.size)=some 1:=by kernel_rfl
structure Told (w:World) (B d:Nat) (v:Value) (out:List Int) (R:Dec×List Int) (v':Value) (w':World):Prop where
 dec:DecIn w' d R.1
 own:Own w' B 21 .i32 v' (out++R.2)
 only:Only (d::v.ownBlock.toList) w w'
 lies:∀ g,v'.ownBlock=some g->v.ownBlock=some g\/w.heap.size<=g
def Cl3 (w:World) (B d:Nat) (v:Value) (out:List Int) (R:Dec×List Int) (e:Ending) (w':World):Prop:=∃ v',e=.returned v'/\Told w B d v out R v' w'
theorem Bc9 {v:Value} {d:Nat} (h:v.ownBlock≠some d):∀ g,v.ownBlock=some g->g∉[d]:=fun g hg hm=>h (by rw [hg];simp at hm;rw [hm])
theorem Bc4 {w w1 w2:World} {B d:Nat} {v v':Value} {out m:List Int} {D:Dec} {o:Obj} (hd:DecIn w1 d D) (hap:v.ownBlock≠some d) (ho1:Only [d] w w1)
  (hown2:Own w2 B 21 .i32 v' (out++m)) (ho2:Only v.ownBlock.toList (w1.alloc o) w2) (hat:v'.ownBlock=v.ownBlock\/v'.ownBlock=some (w1.alloc o).heap.size):Told w B d v out (D,m) v' w2:=by
 have hs:=ho1.size
 refine ⟨(hd.alloc o).only ho2 (fun hm=>hap (by simpa using hm)),hown2,?_,fun g hg=>?_⟩
 ·exact (ho1.mono (by simp)).trans ((Only.alloc _ w1 o).trans (ho2.mono (fun k hk=>List.mem_cons_of_mem _ hk)))
 ·rcases hat with e|e
  ·left;rw [<- e];exact hg
  ·right
   rw [e] at hg
   simp at hg
   omega
theorem DecIn.num {w:World} {d:Nat} {a b c e f c':Int} (h:Block w d 152 #[.int .i64 a,.int .i64 b,.int .i32 c,.int .u8 e,.int .u8 f]) (hc:c=c'):DecIn w d ⟨a,b,c',e,f⟩:=by subst hc;exact h
theorem Ar8 {w w1:World} {B d:Nat} {v:Value} {out:List Int} {D:Dec} (hd:DecIn w1 d D) (hown:Own w B 21 .i32 v out) (hap:v.ownBlock≠some d) (ho1:Only [d] w w1):Told w B d v out (D,[]) v w1 :=
 ⟨hd,by simpa using hown.only ho1 (Bc9 hap),ho1.mono (by simp),fun g hg=>.inl hg⟩
theorem As7 (D:Dec) (d:Nat) (v:Value) (out:List Int) (B:Nat) (w:World) (hB:B<=w.heap.size) (hd:DecIn w d D) (hown:Own w B 21 .i32 v out) (hlen:out.length<=1048576) :
  Calls Tryz.prog 253 #[.pointer (some ⟨d,0,none⟩),v] w (Cl3 w B d v out (endF D)):=by
 have c0:=hd.c0
 by_cases ho:D.o=0
 ·have hE:Hid (endF D=(D,[])):=by show _=_;unfold endF;rw [if_pos ho]
  rw [ho] at c0
  clear ho
  go_enter Tryz.func253,Tryz.ntmps253
  go_wp2
  go_ret
  rw [hE.out]
  exact ⟨v,rfl,hd,by simpa using hown,Only.refl _ _,fun g hg=>.inl hg⟩
 ·have hE:Hid (endF D=(zero,[65533])):=by show _=_;unfold endF;rw [if_neg ho]
  have ho':(D.o == 0)=false:=by simpa using ho
  clear ho
  have hap:=hown.apart hd (by decide)
  go_enter Tryz.func253,Tryz.ntmps253
  go_wp2_with (first
   |(with_reducible show wpList _ _ _ (⟨none,.store _ (.tmp 13) _,_,_,_,_⟩::_) _ _;go_must (refine Aa4 rfl _ (.tmp 13) (.tmp 12) rfl hd.blk _ rfl rfl (by simpa using Ck0) (by simp) (by simp [Value.oneCell']) ?_);intro w1 hd1 ho1;clear c0)
   |(at_builtin;refine Ai8 Bt5 rfl _ _ rfl B v out [65533] _ (w1.heap.size+1) 1 rfl rfl ((hown.only ho1 (Bc9 hap)).alloc _) (Nums.one _ _ _ _) ?_ ?_ ?_ ?_;(have:=ho1.size;simp;omega);(simp;omega);(simp [maxLen];omega);intro v' w2 hown1 ho2 hat1))
  go_ret
  rw [hE.out]
  exact ⟨v',rfl,Bc4 (D:=zero) hd1 hap ho1 hown1 ho2 hat1⟩
theorem Bt4:∀ n:Int,0<=n->n<=255->bits .and .i32 n 31=n % 32/\bits .and .i32 n 15=n % 16/\bits .and .i32 n 7=n % 8/\bits .and .u8 n 63=n % 64:=by
 have hall:∀ m:Fin 256,bits .and .i32 m.val 31=m.val % 32/\bits .and .i32 m.val 15=m.val % 16/\bits .and .i32 m.val 7=m.val % 8/\bits .and .u8 m.val 63=m.val % 64:=by decide +kernel
 intro n h0 h1
 have e:((⟨n.toNat,by omega⟩:Fin 256).val:Int)=n:=by simp;omega
 have h:=hall ⟨n.toNat,by omega⟩
 rw [e] at h
 exact h
theorem Ah5 (b:Int) (hb0:0<=b) (hb1:b<=255) (d:Nat) (v:Value) (out:List Int) (B:Nat) (w:World) (hB:B<=w.heap.size) (hd:DecIn w d zero) (hown:Own w B 21 .i32 v out) (hlen:out.length<=1048576) :
  Calls Tryz.prog 252 #[.pointer (some ⟨d,0,none⟩),.int .u8 b,v] w (Cl3 w B d v out (Al0 zero b)):=by
 have hap:=hown.apart hd (by decide)
 by_cases h1:b<128
 ·have hE:Hid (Al0 zero b=(zero,[b])):=by show _=_;unfold Al0;rw [if_pos h1]
  go_enter Tryz.func252,Tryz.ntmps252
  go_wp2_with ((at_builtin;refine Ai8 Bt5 rfl _ _ rfl B v out [b] _ (w.heap.size+1) 1 rfl rfl (hown.alloc _) (Nums.one _ _ _ _) ?_ ?_ ?_ ?_;(simp;omega);(simp;omega);(simp [maxLen];omega);intro v' w2 hown1 ho2 hat1))
  go_ret
  rw [hE.out]
  exact ⟨v',rfl,Bc4 hd hap (Only.refl _ _) hown1 ho2 hat1⟩
 ·have hge:128<=b:=by omega
  have hf:=Aq6 b hge hb1 w
  rcases At7 b with ⟨c1,e⟩|⟨c1,c2,e⟩|⟨c1,c2,e⟩|⟨c1,c2,e⟩|⟨c1,c2,e⟩
  ·omega
  all_goals
   have hl:Ak3 b=if Ak8 b=0 then 0 else (Ak8 b:Int) - 1:=rfl
   have hE:Hid (Al0 zero b=if Ak8 b=0 then (zero,[65533]) else (⟨1,Ak8 b - 1,b - leadF (Ak8 b),loF b,hiF b⟩,[])):=by show _=_;unfold Al0;rw [if_neg h1]
   rw [e] at hl hE
   simp [leadF] at hl hE
   rw [hl] at hf
   replace hf:=J0 hf
   clear hl h1 e
  ·have hm:=J0 (Bt4 b hb0 hb1).1
   go_enter Tryz.func252,Tryz.ntmps252
   go_wp2_with (first
    |(go_at_call 297;refine (hf.out).mono ?_;rintro e w' ⟨rfl,rfl⟩)
    |(with_reducible show wpList _ _ _ (⟨none,.store _ (.tmp 42) _,_,_,_,_⟩::_) _ _;go_must (refine Aa4 rfl _ (.tmp 42) (.tmp 41) rfl hd.blk _ rfl rfl (by simpa using Ck0) (by simp) (by simp [Value.oneCell']) ?_);intro w1 hd1 ho1))
   go_ret
   rw [hE.out]
   exact ⟨v,rfl,Ar8 (DecIn.num hd1 (by have:=hm.out;omega)) hown hap ho1⟩
  ·have hm:=J0 (Bt4 b hb0 hb1).2.1
   go_enter Tryz.func252,Tryz.ntmps252
   go_wp2_with (first
    |(go_at_call 297;refine (hf.out).mono ?_;rintro e w' ⟨rfl,rfl⟩)
    |(with_reducible show wpList _ _ _ (⟨none,.store _ (.tmp 42) _,_,_,_,_⟩::_) _ _;go_must (refine Aa4 rfl _ (.tmp 42) (.tmp 41) rfl hd.blk _ rfl rfl (by simpa using Ck0) (by simp) (by simp [Value.oneCell']) ?_);intro w1 hd1 ho1))
   go_ret
   rw [hE.out]
   exact ⟨v,rfl,Ar8 (DecIn.num hd1 (by have:=hm.out;omega)) hown hap ho1⟩
  ·have hm:=J0 (Bt4 b hb0 hb1).2.2.1
   go_enter Tryz.func252,Tryz.ntmps252
   go_wp2_with (first
    |(go_at_call 297;refine (hf.out).mono ?_;rintro e w' ⟨rfl,rfl⟩)
    |(with_reducible show wpList _ _ _ (⟨none,.store _ (.tmp 42) _,_,_,_,_⟩::_) _ _;go_must (refine Aa4 rfl _ (.tmp 42) (.tmp 41) rfl hd.blk _ rfl rfl (by simpa using Ck0) (by simp) (by simp [Value.oneCell']) ?_);intro w1 hd1 ho1))
   go_ret
   rw [hE.out]
   exact ⟨v,rfl,Ar8 (DecIn.num hd1 (by have:=hm.out;omega)) hown hap ho1⟩
  ·go_enter Tryz.func252,Tryz.ntmps252
   go_wp2_with (first
    |(go_at_call 297;refine (hf.out).mono ?_;rintro e w' ⟨rfl,rfl⟩)
    |(at_builtin;refine Ai8 Bt5 rfl _ _ rfl B v out [65533] _ (w.heap.size+1) 1 rfl rfl (hown.alloc _) (Nums.one _ _ _ _) ?_ ?_ ?_ ?_;(simp;omega);(simp;omega);(simp [maxLen];omega);intro v' w2 hown1 ho2 hat1))
   go_ret
   rw [hE.out]
   exact ⟨v',rfl,Bc4 hd hap (Only.refl _ _) hown1 ho2 hat1⟩
theorem Bl5 (D:Dec) (hD:D.Ok) (x:Int) (ho:0<D.o) (hlo:D.lo<=x) (hhi:x<=D.hi) (d:Nat) (v:Value) (out:List Int) (B:Nat) (w:World) (hB:B<=w.heap.size) (hd:DecIn w d D) (hown:Own w B 21 .i32 v out) (hlen:out.length<=1048576) :
  Calls Tryz.prog 251 #[.pointer (some ⟨d,0,none⟩),.int .u8 x,v] w (Cl3 w B d v out (Bh1 D x)):=by
 have hap:=hown.apart hd (by decide)
 have c0:=hd.c0
 have o3:=hD.o3
 have l1:=hD.l1 ho
 have l3:=hD.l3
 have b0:=hD.b0
 have b3:=hD.b3
 have x0:=hD.lo ho
 have x1:=hD.hi ho
 have hx0:128<=x:=by omega
 have hx1:x<=191:=by omega
 clear x0 x1 hlo hhi hD
 by_cases hl:0<D.l - 1
 ·have hE:Hid (Bh1 D x=(⟨D.o+1,D.l - 1,D.b*64+(x - 128),128,191⟩,[])):=by show _=_;unfold Bh1;rw [if_pos hl]
  go_enter Tryz.func251,Tryz.ntmps251
  go_wp2_with (first
   |(with_reducible show wpList _ _ _ (⟨none,.store _ (.tmp 14) _,_,_,_,_⟩::_) _ _;go_must (refine Aa6 rfl _ (.tmp 14) (.tmp 12) rfl hd.blk (.int _ _) rfl rfl (by simp) (by exact Cm1) rfl ?_);intro w1 hd1 ho1;go_must (replace hd1:DecIn w1 d ⟨D.o+1,D.l,D.b,D.lo,D.hi⟩:=by simpa [DecIn] using hd1);clear c0;have c1:=hd1.c1)
   |(with_reducible show wpList _ _ _ (⟨none,.store _ (.tmp 21) _,_,_,_,_⟩::_) _ _;go_must (refine Aa6 rfl _ (.tmp 21) (.tmp 19) rfl hd1.blk (.int _ _) rfl rfl (by simp) (by exact Cm1) rfl ?_);intro w2 hd2 ho2;go_must (replace hd2:DecIn w2 d ⟨D.o+1,D.l - 1,D.b,D.lo,D.hi⟩:=by simpa [DecIn] using hd2);clear c1;have c2:=hd2.c2)
   |(with_reducible show wpList _ _ _ (⟨none,.store _ (.tmp 33) _,_,_,_,_⟩::_) _ _;go_must (refine Aa6 rfl _ (.tmp 33) (.tmp 31) rfl hd2.blk (.int _ _) rfl rfl (by simp) (by exact Cr8) rfl ?_);intro w3 hd3 ho3;go_must (replace hd3:DecIn w3 d ⟨D.o+1,D.l - 1,D.b*64+x % 64,D.lo,D.hi⟩:=by simpa [DecIn] using hd3);clear c2)
   |(with_reducible show wpList _ _ _ (⟨none,.store _ (.tmp 37) _,_,_,_,_⟩::_) _ _;go_must (refine Aa6 rfl _ (.tmp 37) (.const (.int .u8 128)) rfl hd3.blk (.int _ _) rfl rfl (by simp) (by exact Cm2) rfl ?_);intro w4 hd4 ho4;go_must (replace hd4:DecIn w4 d ⟨D.o+1,D.l - 1,D.b*64+x % 64,128,D.hi⟩:=by simpa [DecIn] using hd4))
   |(with_reducible show wpList _ _ _ (⟨none,.store _ (.tmp 39) _,_,_,_,_⟩::_) _ _;go_must (refine Aa6 rfl _ (.tmp 39) (.const (.int .u8 191)) rfl hd4.blk (.int _ _) rfl rfl (by simp) (by exact Cm2) rfl ?_);intro w5 hd5 ho5;go_must (replace hd5:DecIn w5 d ⟨D.o+1,D.l - 1,D.b*64+x % 64,128,191⟩:=by simpa [DecIn] using hd5);have c5:=hd5.c1;have c6:=hd5.c2))
  go_ret
  rw [hE.out]
  exact ⟨v,rfl,Ar8 (DecIn.num hd5 (by show D.b*64+x % 64=_;omega)) hown hap ((((ho1.trans ho2).trans ho3).trans ho4).trans ho5)⟩
 ·have hE:Hid (Bh1 D x=(zero,[D.b*64+(x - 128)])):=by show _=_;unfold Bh1;rw [if_neg hl]
  have hx:Hid (x % 64=x - 128):=by show _=_;omega
  go_enter Tryz.func251,Tryz.ntmps251
  go_wp2_with (first
   |(with_reducible show wpList _ _ _ (⟨none,.store _ (.tmp 14) _,_,_,_,_⟩::_) _ _;go_must (refine Aa6 rfl _ (.tmp 14) (.tmp 12) rfl hd.blk (.int _ _) rfl rfl (by simp) (by exact Cm1) rfl ?_);intro w1 hd1 ho1;go_must (replace hd1:DecIn w1 d ⟨D.o+1,D.l,D.b,D.lo,D.hi⟩:=by simpa [DecIn] using hd1);clear c0;have c1:=hd1.c1)
   |(with_reducible show wpList _ _ _ (⟨none,.store _ (.tmp 21) _,_,_,_,_⟩::_) _ _;go_must (refine Aa6 rfl _ (.tmp 21) (.tmp 19) rfl hd1.blk (.int _ _) rfl rfl (by simp) (by exact Cm1) rfl ?_);intro w2 hd2 ho2;go_must (replace hd2:DecIn w2 d ⟨D.o+1,D.l - 1,D.b,D.lo,D.hi⟩:=by simpa [DecIn] using hd2);clear c1;have c2:=hd2.c2)
   |(with_reducible show wpList _ _ _ (⟨none,.store _ (.tmp 33) _,_,_,_,_⟩::_) _ _;go_must (refine Aa6 rfl _ (.tmp 33) (.tmp 31) rfl hd2.blk (.int _ _) rfl rfl (by simp) (by exact Cr8) rfl ?_);intro w3 hd3 ho3;go_must (replace hd3:DecIn w3 d ⟨D.o+1,D.l - 1,D.b*64+x % 64,D.lo,D.hi⟩:=by simpa [DecIn] using hd3);clear c2)
   |(with_reducible show wpList _ _ _ (⟨none,.store _ (.tmp 37) _,_,_,_,_⟩::_) _ _;go_must (refine Aa6 rfl _ (.tmp 37) (.const (.int .u8 128)) rfl hd3.blk (.int _ _) rfl rfl (by simp) (by exact Cm2) rfl ?_);intro w4 hd4 ho4;go_must (replace hd4:DecIn w4 d ⟨D.o+1,D.l - 1,D.b*64+x % 64,128,D.hi⟩:=by simpa [DecIn] using hd4))
   |(with_reducible show wpList _ _ _ (⟨none,.store _ (.tmp 39) _,_,_,_,_⟩::_) _ _;go_must (refine Aa6 rfl _ (.tmp 39) (.const (.int .u8 191)) rfl hd4.blk (.int _ _) rfl rfl (by simp) (by exact Cm2) rfl ?_);intro w5 hd5 ho5;go_must (replace hd5:DecIn w5 d ⟨D.o+1,D.l - 1,D.b*64+x % 64,128,191⟩:=by simpa [DecIn] using hd5);have c5:=hd5.c1;have c6:=hd5.c2)
   |(with_reducible show wpList _ _ _ (⟨none,.store _ (.tmp 52) _,_,_,_,_⟩::_) _ _;go_must (refine Aa4 rfl _ (.tmp 52) (.tmp 51) rfl hd5.blk _ rfl rfl (by simpa using Ck0) (by simp) (by simp [Value.oneCell']) ?_);intro w6 hd6 ho6;clear c5 c6)
   |(at_builtin;refine Ai8 Bt5 rfl _ _ rfl B v out [_] _ (w6.heap.size+1) 1 rfl rfl ((hown.only (((((ho1.trans ho2).trans ho3).trans ho4).trans ho5).trans ho6) (Bc9 hap)).alloc _) (Nums.one _ _ _ _) ?_ ?_ ?_ ?_;(have:=(((((ho1.trans ho2).trans ho3).trans ho4).trans ho5).trans ho6).size;simp;omega);(simp;omega);(simp [maxLen];omega);intro v' w7 hown1 ho7 hat1))
  go_ret
  rw [hE.out]
  rw [hx.out] at hown1
  exact ⟨v',rfl,Bc4 (D:=zero) hd6 hap (((((ho1.trans ho2).trans ho3).trans ho4).trans ho5).trans ho6) hown1 ho7 hat1⟩
theorem Az5 {w w1 w2:World} {B d:Nat} {v v1 v2:Value} {out:List Int} {R1 R2:Dec×List Int} (h1:Told w B d v out R1 v1 w1) (h2:Told w1 B d v1 (out++R1.2) R2 v2 w2):Told w B d v out (R2.1,R1.2++R2.2) v2 w2:=by
 have hs:=h1.only.size
 refine ⟨h2.dec,by rw [<- List.append_assoc];exact h2.own,h1.only.then h2.only (fun k hk=>?_),fun g hg=>?_⟩
 ·rcases List.mem_cons.1 hk with rfl|hk
  ·exact .inl (List.mem_cons_self ..)
  ·rcases h1.lies k (by simpa using hk) with e|e
   ·exact .inl (List.mem_cons_of_mem _ (by simpa using e))
   ·exact .inr e
 ·rcases h2.lies g hg with e|e
  ·exact h1.lies g e
  ·exact .inr (by omega)
theorem Bn5 (D:Dec) (hD:D.Ok) (x:Int) (hx:IsByte x) (d:Nat) (v:Value) (out:List Int) (B:Nat) (w:World) (hB:B<=w.heap.size) (hd:DecIn w d D) (hown:Own w B 21 .i32 v out) (hlen:out.length<=1000000) :
  Calls Tryz.prog 194 #[.pointer (some ⟨d,0,none⟩),.int .u8 x,v] w (Cl3 w B d v out (takeF D x)):=by
 obtain ⟨hx0,hx1⟩:=hx
 have c0:=hd.c0
 have c3:=hd.c3
 have c4:=hd.c4
 have hne:¬ (0<D.o/\D.lo<=x/\x<=D.hi)->Hid (takeF D x=((Al0 zero x).1,(endF D).2++(Al0 zero x).2)):=fun h=>by
  show _=_
  unfold takeF
  rw [if_neg h,Ce8 hD]
 have hend:=J0 (As7 D d v out B w hB hd hown (by omega))
 have hz:=J0 (Ce8 hD)
 have hel:=Ce7 D
 by_cases ho:0<D.o
 ·by_cases hlo:D.lo<=x
  ·by_cases hhi:x<=D.hi
   ·have hE:Hid (takeF D x=Bh1 D x):=by show _=_;unfold takeF;rw [if_pos ⟨ho,hlo,hhi⟩]
    have hgo:=J0 (Bl5 D hD x ho hlo hhi d v out B w hB hd hown (by omega))
    clear hne hend hz hel hD
    go_enter Tryz.func194,Tryz.ntmps194
    go_wp2_with ((go_at_call 251;refine (hgo.out).mono ?_;rintro e w1 ⟨v',rfl,ht⟩))
    go_ret
    rw [hE.out]
    exact ⟨v',rfl,ht⟩
   ·have hE:=hne (by omega)
    clear hne hD
    go_enter Tryz.func194,Tryz.ntmps194
    go_wp2_with (first
     |(go_at_call 253;refine (hend.out).mono ?_;rintro e w1 ⟨v1,rfl,ht1⟩;have hd1:=ht1.dec;rw [hz.out] at hd1;have hs1:=ht1.only.size)
     |(go_at_call 252;refine (Ah5 x hx0 hx1 d v1 _ B w1 (by omega) hd1 ht1.own (by simp;omega)).mono ?_;rintro e w2 ⟨v2,rfl,ht2⟩))
    go_ret
    rw [hE.out]
    exact ⟨v2,rfl,Az5 ht1 ht2⟩
  ·have hE:=hne (by omega)
   clear hne hD
   go_enter Tryz.func194,Tryz.ntmps194
   go_wp2_with (first
    |(go_at_call 253;refine (hend.out).mono ?_;rintro e w1 ⟨v1,rfl,ht1⟩;have hd1:=ht1.dec;rw [hz.out] at hd1;have hs1:=ht1.only.size)
    |(go_at_call 252;refine (Ah5 x hx0 hx1 d v1 _ B w1 (by omega) hd1 ht1.own (by simp;omega)).mono ?_;rintro e w2 ⟨v2,rfl,ht2⟩))
   go_ret
   rw [hE.out]
   exact ⟨v2,rfl,Az5 ht1 ht2⟩
 ·have hE:=hne (by omega)
  clear hne hD
  go_enter Tryz.func194,Tryz.ntmps194
  go_wp2_with (first
   |(go_at_call 253;refine (hend.out).mono ?_;rintro e w1 ⟨v1,rfl,ht1⟩;have hd1:=ht1.dec;rw [hz.out] at hd1;have hs1:=ht1.only.size)
   |(go_at_call 252;refine (Ah5 x hx0 hx1 d v1 _ B w1 (by omega) hd1 ht1.own (by simp;omega)).mono ?_;rintro e w2 ⟨v2,rfl,ht2⟩))
  go_ret
  rw [hE.out]
  exact ⟨v2,rfl,Az5 ht1 ht2⟩
structure Fed (w:World) (d:Nat) (R:Dec×List Int) (v':Value) (w':World):Prop where
 dec:DecIn w' d R.1
 own:Own w' w.heap.size 21 .i32 v' R.2
 only:Only [d] w w'
def Feeds (w:World) (d:Nat) (R:Dec×List Int) (e:Ending) (w':World):Prop:=∃ v',e=.returned v'/\Fed w d R v' w'
theorem fed_of {w w':World} {d:Nat} {R:Dec×List Int} {v':Value} (h:Told w w.heap.size d (.slice none 0 0) [] R v' w'):Fed w d R v' w' :=
 ⟨h.dec,by simpa using h.own,by simpa [Value.ownBlock] using h.only⟩
theorem feed_any (D:Dec) (hD:D.Ok) (x:Int) (hx:IsByte x) (d:Nat) (w:World) (hd:DecIn w d D):Calls Tryz.prog 121 #[.pointer (some ⟨d,0,none⟩),.int .u8 x] w (Feeds w d (takeF D x)):=by
 have ht:=J0 (Bn5 D hD x hx d (.slice none 0 0) [] w.heap.size w (J5 _) hd (Own.nil _ _ _ _) (by simp))
 go_enter Tryz.func121,Tryz.ntmps121
 go_wp2_with ((go_at_call 194;refine (ht.out).mono ?_;rintro e w1 ⟨v',rfl,ht1⟩))
 go_ret
 exact ⟨v',rfl,fed_of ht1⟩
theorem new_any (w:World):Calls Tryz.prog 37 #[] w fun e w'=>e=.returned (.pointer (some ⟨w.heap.size,0,none⟩))/\DecIn w' w.heap.size zero/\Only [] w w':=by
 go_enter Tryz.func37,Tryz.ntmps37
 go_wp2
 go_ret
 exact ⟨rfl,Block.made _ _ _,Only.alloc _ _ _⟩
end Go.Proofs.YtbafmljidapmgaaGreatDoor.Utf
namespace Go.Proofs.YtbafmljidapmgaaGreatDoor.Hos
open Go RowKit Com Rw Lns Emu Scn
structure Hf (B:Zn) (w w':World):Prop where
 os:w'.os=w.os
 tape:w'.tape=w.tape
 output:w'.output=w.output
 size:w.heap.size<=w'.heap.size
 block:∀ k,k<w.heap.size->¬ B k->w'.heap[k]?=w.heap[k]?
section
variable {B B2:Zn} {L:List Nat} {ts:List TypeId} {w w1 w2 w':World} {n:Nat}
theorem Hf.refl (B:Zn) (w:World):Hf B w w:=⟨rfl,rfl,rfl,J5 _,fun _ _ _=>rfl⟩
theorem Hf.trans (h:Hf B w w1) (g:Hf B2 w1 w2) (hB:∀ k,k<w.heap.size->B2 k->B k):Hf B w w2 :=
 ⟨g.os.trans h.os,g.tape.trans h.tape,g.output.trans h.output,Nat.le_trans h.size g.size,fun k hk hn=>(g.block k (Nat.lt_of_lt_of_le hk h.size) (fun hb=>hn (hB k hk hb))).trans (h.block k hk hn)⟩
theorem Hf.mono (h:Hf B w w') (hB:∀ k,k<w.heap.size->B k->B2 k):Hf B2 w w':=⟨h.os,h.tape,h.output,h.size,fun k hk hn=>h.block k hk fun hb=>hn (hB k hk hb)⟩
theorem Hf.of_only (h:Only L w w'):Hf (·∈L) w w':=⟨h.os,h.tape,h.output,h.size,fun k hk hn=>h.block k hk hn⟩
theorem Hf.of_fr (h:Scn.Fr B ts w w'):Hf B w w':=⟨h.os,h.tape,h.output,h.size,fun k hk hn=>h.block k hk (.inl hn)⟩
theorem Hf.of_below (B:Zn) (h:Below w.heap.size w w'):Hf B w w':=⟨h.os,h.tape,h.output,h.size,fun k hk _=>h.block k hk⟩
theorem Hf.below (h:Hf B w w') (hn:n<=w.heap.size) (hB:∀ k,k<n->¬ B k):Below n w w':=⟨h.os,h.tape,h.output,h.size,fun k hk=>h.block k (by omega) (hB k hk)⟩
theorem Hf.blk {k:Nat} {t:TypeId} {cs:Array Value} (h:Hf B w w') (hb:Block w k t cs) (hn:¬ B k):Block w' k t cs:=(h.block k (Block.lt hb) hn).trans hb
end
def re (Z:Zn) (w w':World):Zn:=fun k=>(Z k/\k<w.heap.size)\/w'.heap.size<=k
section
variable {Z B:Zn} {W w w':World} {d t:Nat} {T:Ter}
theorem TZ.re (h:TZ Z W w d t T) (hf:Hf B w w') (hz:∀ k,k<w.heap.size->Z k->¬ B k) (hd:¬ B d) (hW:∀ k,k<W.heap.size->¬ B k) (h6:6<=W.heap.size):TZ (Hos.re Z w w') W w' d t T:=by
 obtain ⟨hl,_,_⟩:=h.low
 have hs:=hf.size
 have hWs:=h.below.size
 obtain ⟨P,hP⟩:=h.tv.tm
 have hk:Keep Z (Hos.re Z w w') w w':=⟨hs,fun k hk hz'=>hf.block k hk (hz k hk hz'),fun k hk hz'=>.inl ⟨hz',hk⟩,fun k hk=>.inr hk⟩
 refine ⟨⟨hf.blk h.tv.blk hd,P,hP.keep hk (fun k hk hz'=>?_) (hP.tbl.low (hf.below (by omega) (fun k hk=>hW k (by omega))))⟩,h.ok,h.below.trans (hf.below hWs hW),fun k hk hz'=>?_⟩
 ·rcases hz' with hz'|hz'
  ·exact hl k hk hz'.1
  ·omega
 ·rcases hz' with hz'|hz'
  ·exact h.out k hk hz'.1
  ·omega
end
structure HP where
 e:Nat
 dd:Nat
 dp:Nat
 d:Nat
 t:Nat
 pv:Value
 sv:Value
def endA (p:HP):Array Value:=#[.pointer (some ⟨p.dd,0,none⟩),.pointer (some ⟨p.dp,0,none⟩),.pointer (some ⟨p.d,0,none⟩),p.sv]
def HP.own (p:HP) (h k:Nat):Prop:=k=h\/k=p.e\/k=p.dd\/k=p.dp\/k=p.d\/p.pv.ownBlock=some k\/p.sv.ownBlock=some k
structure HX (Z:Zn) (W w:World) (h:Nat) (p:HP) (H:Hst):Prop where
 hb:Block w h 88 #[.pointer (some ⟨p.e,0,none⟩)]
 eb:Block w p.e 103 (endA p)
 dec:Utf.DecIn w p.dd H.dec
 par:Prs.ParIn w W.heap.size p.dp p.pv H.ps
 sent:Kys.Row w W.heap.size 5 p.sv H.sent
 tz:TZ Z W w p.d p.t H.T
 nz:∀ k,p.own h k->¬ Z k
 lo:W.heap.size<=h/\W.heap.size<=p.e/\W.heap.size<=p.dd/\W.heap.size<=p.d
 six:6<=W.heap.size
section
variable {Z B:Zn} {W w w':World} {h:Nat} {p:HP} {H:Hst}
theorem HX.lt (hx:HX Z W w h p H):∀ k,p.own h k->W.heap.size<=k/\k<w.heap.size:=by
 obtain ⟨l1,l2,l3,l4⟩:=hx.lo
 intro k hk
 rcases hk with rfl|rfl|rfl|rfl|rfl|hk|hk
 ·exact ⟨l1,Block.lt hx.hb⟩
 ·exact ⟨l2,Block.lt hx.eb⟩
 ·exact ⟨l3,Block.lt hx.dec⟩
 ·exact ⟨hx.par.low,hx.par.blk.lt⟩
 ·exact ⟨l4,Block.lt hx.tz.tv.blk⟩
 ·exact hx.par.own.lt k hk
 ·exact hx.sent.lt k hk
theorem HX.other (hx:HX Z W w h p H) (hf:Hf B w w') (h1:∀ k,k<w.heap.size->Z k->¬ B k) (h2:∀ k,p.own h k->¬ B k) (h3:∀ k,k<W.heap.size->¬ B k):HX (re Z w w') W w' h p H:=by
 have hs:=hf.size
 have hlt:=hx.lt
 refine ⟨hf.blk hx.hb (h2 _ (.inl rfl)),hf.blk hx.eb (h2 _ (.inr (.inl rfl))),hf.blk hx.dec (h2 _ (.inr (.inr (.inl rfl)))),⟨hf.blk hx.par.blk.blk (h2 _ (.inr (.inr (.inr (.inl rfl))))),Ac2 hx.par.own (fun g hg=>hf.block g (hlt g (.inr (.inr (.inr (.inr (.inr (.inl hg))))))).2 (h2 _ (.inr (.inr (.inr (.inr (.inr (.inl hg)))))))),hx.par.low⟩,Ad5 hx.sent (fun g hg=>hf.block g (hlt g (.inr (.inr (.inr (.inr (.inr (.inr hg))))))).2 (h2 _ (.inr (.inr (.inr (.inr (.inr (.inr hg)))))))),TZ.re hx.tz hf h1 (h2 _ (.inr (.inr (.inr (.inr (.inl rfl)))))) h3 hx.six,fun k hk hz=>?_,hx.lo,hx.six⟩
 rcases hz with hz|hz
 ·exact hx.nz k hk hz.1
 ·have:=(hlt k hk).2
  omega
end
