/- Part 13 of the proof that the card of EmuAside holds. -/
import Derived.Test.YtkjpjegmanpbfaaGreatDoorPA12
set_option maxHeartbeats 16000000
set_option maxRecDepth 100000
namespace Go.Proofs.YtkjpjegmanpbfaaGreatDoor.Scn
open Go RowKit Com Rw Lns
section
variable {B:Zn} {w w':World} {x s:Nat} {S:Scr}
theorem Ak7 (n:Int) (w:World):Calls Tryz.prog 76 #[.int .i64 n] w fun e w'=>e=.returned (.bool (decide (1<=n/\n<=512)))/\w=w':=by
 have hy:decide (1<=n/\n<=512)=true↔(1<=n/\n<=512):=decide_eq_true_iff
 generalize decide (1<=n/\n<=512)=y at hy |-
 replace hy:=J0 hy
 by_cases h1:1<=n
 ·go_enter Tryz.func76,Tryz.ntmps76
  go_wp2
  all_goals
   go_ret
   exact ⟨Ab6 (by rw [Bool.eq_iff_iff,hy.out];simp<;>omega),rfl⟩
 ·have h2:decide (1<=n)=false:=decide_eq_false h1
  go_enter Tryz.func76,Tryz.ntmps76
  go_wp2
  all_goals
   go_ret
   exact ⟨Ab6 (by symm;rw [Bool.eq_false_iff];intro h3;have:=hy.out.1 h3;omega),rfl⟩
theorem res_no (h:SC B w x s S) (hF:Fit S) (rows cols y:Int) (hno:¬ ((1<=rows/\rows<=512)/\(1<=cols/\cols<=512)/\0<=y/\y<S.L.length)) :
  Calls Tryz.prog 37 #[.pointer (some ⟨x,0,none⟩),.int .i64 rows,.int .i64 cols,.int .i64 y] w fun e w'=>e=.returned (.tuple #[.int .i64 0,.int .i64 2])/\w=w':=by
 have hmade:=J0 (Ai4 h hF.len)
 have h1:=fun w=>Ak7 rows w
 have h2:=fun w=>Ak7 cols w
 have h3:=Bv8 h hF.len y
 by_cases q1:1<=rows/\rows<=512
 ·rw [decide_eq_true q1] at h1
  by_cases q2:1<=cols/\cols<=512
  ·rw [decide_eq_true q2] at h2
   rw [decide_eq_false (fun hh=>hno ⟨q1,q2,hh⟩)] at h3
   replace h1:=J0 h1
   replace h2:=J0 h2
   replace h3:=J0 h3
   clear h hF hno q1 q2
   go_enter Tryz.func37,Tryz.ntmps37
   go_wp2_with (first
    |(go_at_call 75;(with_reducible refine (hmade.out).mono ?_);rintro e w' ⟨rfl,rfl⟩)
    |(go_at_call 76;(with_reducible refine (h1.out _).mono ?_);rintro e w' ⟨rfl,rfl⟩)
    |(go_at_call 76;(with_reducible refine (h2.out _).mono ?_);rintro e w' ⟨rfl,rfl⟩)
    |(go_at_call 77;(with_reducible refine (h3.out).mono ?_);rintro e w' ⟨rfl,rfl⟩))
   go_ret2
   exact ⟨rfl,rfl⟩
  ·rw [decide_eq_false q2] at h2
   replace h1:=J0 h1
   replace h2:=J0 h2
   clear h hF hno q1 q2 h3
   go_enter Tryz.func37,Tryz.ntmps37
   go_wp2_with (first
    |(go_at_call 75;(with_reducible refine (hmade.out).mono ?_);rintro e w' ⟨rfl,rfl⟩)
    |(go_at_call 76;(with_reducible refine (h1.out _).mono ?_);rintro e w' ⟨rfl,rfl⟩)
    |(go_at_call 76;(with_reducible refine (h2.out _).mono ?_);rintro e w' ⟨rfl,rfl⟩))
   go_ret2
   exact ⟨rfl,rfl⟩
 ·rw [decide_eq_false q1] at h1
  replace h1:=J0 h1
  clear h hF hno q1 h2 h3
  go_enter Tryz.func37,Tryz.ntmps37
  go_wp2_with (first
   |(go_at_call 75;(with_reducible refine (hmade.out).mono ?_);rintro e w' ⟨rfl,rfl⟩)
   |(go_at_call 76;(with_reducible refine (h1.out _).mono ?_);rintro e w' ⟨rfl,rfl⟩))
  go_ret2
  exact ⟨rfl,rfl⟩
theorem fate0 (h:SC B w x s S):Calls Tryz.prog 79 #[.pointer (some ⟨x,0,none⟩),.int .i64 0] w fun e w'=>e=.returned (.func (.func (if S.kp=true then 151 else 80)) #[.pointer (some ⟨x,0,none⟩)] #[])/\w=w':=by
 by_cases hk:S.kp=true
 ·rw [if_pos hk]
  exact Bn2 h hk _ rfl
 ·rw [if_neg hk]
  exact Bc1 h 0 (.inl (by simpa using hk))
theorem chg_any (h:SC B w x s S) (f k i m:Nat) (hf:f+k<=S.L.length) (hi:i<=S.L.length - k) (hm:S.L.length - k+m<=1000) (hnx:S.nx+m<=1000000) (hc1:1<=S.cols) (hc5:S.cols<=512) (hid:∀ p∈S.L,1<=p.1/\p.1<S.nx) (a:At) :
  Calls Tryz.prog 78 #[.pointer (some ⟨x,0,none⟩),.agg #[.int .i64 f,.int .i64 k],.agg #[.int .i64 i,.int .i64 m],.agg #[.int .u32 a.f,.int .u32 a.b,.int .u16 a.g],.func (.func (if S.kp=true then 151 else 80)) #[.pointer (some ⟨x,0,none⟩)] #[]] w (Did B w x s (chg S f k i m a S.kp)):=by
 by_cases hk:S.kp=true
 ·rw [if_pos hk,hk]
  exact Bu8 h f k i m hf hi hm hnx hc1 hc5 hid a
 ·rw [if_neg hk,show S.kp=false by simpa using hk]
  exact Am0 h f k i m hf hi hm hnx hc1 hc5 a
theorem res_yes (h:SC B w x s S) (hF:Fit S) (rows cols y:Nat) (hr1:1<=rows) (hr5:rows<=512) (hc1:1<=cols) (hc5:cols<=512) (hy:y<S.L.length) (hnx:S.nx+512<=1000000) :
  Calls Tryz.prog 37 #[.pointer (some ⟨x,0,none⟩),.int .i64 rows,.int .i64 cols,.int .i64 y] w fun e w'=>e=.returned (.tuple #[.int .i64 ((y - (y - (rows - 1)):Nat):Int),.int .i64 0])/\SC B w' x s (resS S rows cols y)/\Fr B PT w w':=by
 have hmade:=J0 (Ai4 h hF.len)
 have h1:=fun w=>Ak7 rows w
 rw [decide_eq_true (by omega)] at h1
 have h2:=fun w=>Ak7 cols w
 rw [decide_eq_true (by omega)] at h2
 have h3:=Bv8 h hF.len y
 rw [decide_eq_true (by omega)] at h3
 have hl1:=hF.len
 have hl5:=hF.len5
 have hfa:=fate0 h
 obtain ⟨ab,hab⟩:∃ ab,ab=y - (rows - 1):=⟨_,rfl⟩
 have hA:resA S rows y=chg S 0 ab 0 0 zeroAt S.kp:=by rw [hab];rfl
 have hch1:=chg_any h 0 ab 0 0 (by omega) (by omega) (by omega) (by omega) hF.c1 hF.c5 hF.ids zeroAt
 rw [<- hA] at hch1
 have hAl:(resA S rows y).L.length=S.L.length - ab:=by rw [hA,Ap0 (by omega)];omega
 have hAc:(resA S rows y).cols=S.cols:=rfl
 have hAn:(resA S rows y).nx=S.nx:=rfl
 have hcc:=hF.c1
 have hcc5:=hF.c5
 rw [<- hAc] at hcc hcc5
 rw [<- hAn] at hnx
 unfold resS
 generalize resA S rows y=S1 at hch1 hAl hcc hcc5 hnx |-
 rw [<- hab]
 obtain ⟨n1,hn1⟩:∃ n1,n1=S1.L.length:=⟨_,rfl⟩
 obtain ⟨e,he⟩:∃ e,e=min rows n1:=⟨_,rfl⟩
 obtain ⟨k,hk⟩:∃ k,k=n1 - e:=⟨_,rfl⟩
 obtain ⟨m,hm⟩:∃ m,m=rows - e:=⟨_,rfl⟩
 have hB:resB S1 rows=chg S1 e k e m zeroAt false:=by rw [hm,hk,he,hn1];rfl
 rw [hB]
 have hch2:=fun w' (hs:SC B w' x s S1)=>Am0 hs e k e m (by omega) (by omega) (by omega) (by omega) hcc hcc5 zeroAt
 have hBl:(chg S1 e k e m zeroAt false).L.length=rows:=by rw [Ap0 (by omega)];omega
 generalize chg S1 e k e m zeroAt false=S2 at hch2 hBl |-
 have hwd:=fun w' (hs:SC B w' x s S2)=>widen_sc hs (by omega) cols hc1 hc5
 have hwl:(Br1 S2 cols).L.length=rows:=by rw [<- hBl];exact List.length_map _
 generalize Br1 S2 cols=S3 at hwd hwl |-
 have hmg:=fun w' (hs:SC B w' x s S3)=>Ce7 hs (by omega) (by omega)
 generalize Bk1 S3=S4 at hmg |-
 have hx3:=fun w' (hs:SC B w' x s S1)=>hs.cells.2.2.2.1
 have hch1':∀ z:Int,z=(ab:Int)->Calls Tryz.prog 78 #[.pointer (some ⟨x,0,none⟩),.agg #[.int .i64 0,.int .i64 z],.agg #[.int .i64 0,.int .i64 0],.agg #[.int .u32 0,.int .u32 0,.int .u16 0],.func (.func (if S.kp=true then 151 else 80)) #[.pointer (some ⟨x,0,none⟩)] #[]] w (Did B w x s S1):=fun z hz=>by subst hz;exact hch1
 have hch2':∀ (ze zk zm:Int),ze=(e:Int)->zk=(k:Int)->zm=(m:Int)->∀ w' (hs:SC B w' x s S1),Calls Tryz.prog 78 #[.pointer (some ⟨x,0,none⟩),.agg #[.int .i64 ze,.int .i64 zk],.agg #[.int .i64 ze,.int .i64 zm],.agg #[.int .u32 0,.int .u32 0,.int .u16 0],.func (.func 80) #[.pointer (some ⟨x,0,none⟩)] #[]] w' (Did B w' x s S2):=fun ze zk zm h1 h2 h3=>by subst h1 h2 h3;exact hch2
 clear hch1 hch2
 have hw1:IntKind.i64.wrap ((rows:Int) - 1)=(rows:Int) - 1:=IntWalk.i64_in _ (by omega)
 have hw2:IntKind.i64.wrap ((y:Int) - ((rows:Int) - 1))=(y:Int) - ((rows:Int) - 1):=IntWalk.i64_in _ (by omega)
 have hw3:IntKind.i64.wrap ((n1:Int) - (rows:Int))=(n1:Int) - (rows:Int):=IntWalk.i64_in _ (by omega)
 have hw4:IntKind.i64.wrap ((rows:Int) - (n1:Int))=(rows:Int) - (n1:Int):=IntWalk.i64_in _ (by omega)
 have hw5:IntKind.i64.wrap ((y:Int) - ((y:Int) - ((rows:Int) - 1)))=((y - ab:Nat):Int)\/ab=0:=by
  rcases Nat.eq_zero_or_pos ab with h0|h0
  ·exact .inr h0
  ·left
   rw [show (y:Int) - ((y:Int) - ((rows:Int) - 1))=((y - ab:Nat):Int) by omega]
   exact IntWalk.i64_in _ (by omega)
 have hw6:IntKind.i64.wrap (y:Int)=(y:Int):=IntWalk.i64_in _ (by omega)
 have hmf:=mkf
 rw [<- hn1] at hx3
 generalize (if S.kp=true then 151 else 80)=fx at hfa hch1'
 have hyy:Hid ((y - ab:Nat)=y - ab):=J0 rfl
 obtain ⟨yy,hyy⟩:∃ yy,yy=y - ab:=⟨_,rfl⟩
 rw [<- hyy] at hw5 |-
 replace h1:=J0 h1
 replace h2:=J0 h2
 replace h3:=J0 h3
 replace hfa:=J0 hfa
 replace hwd:=J0 hwd
 replace hmg:=J0 hmg
 replace hx3:=J0 hx3
 rcases (show (y:Int) - ((rows:Int) - 1)<0\/(y:Int) - ((rows:Int) - 1)=0\/0<(y:Int) - ((rows:Int) - 1) by omega) with q|q|q
 ·rcases (show rows<=n1\/n1<rows by omega) with rr|rr
  ·have hcA:=J0 (hch1' 0 (by omega))
   have hri:(rows:Int)<=(n1:Int):=by omega
   have hcB:=J0 (hch2' rows ((n1:Int) - (rows:Int)) 0 (by omega) (by omega) (by omega))
   have hyo:Hid ((y:Int)=(yy:Int)):=J0 (by omega)
   clear hch1' hch2' hw5 hyy hab hA hB hF h hr1 hr5 hc1 hc5 hy hnx hl1 hl5 hAl hn1 he hk hm hBl hwl hcc hcc5 hAc hAn rr
   go_enter Tryz.func37,Tryz.ntmps37
   go_wp2_with (first
    |(go_at_call 75;(with_reducible refine (hmade.out).mono ?_);rintro e w' ⟨rfl,rfl⟩)
    |(go_at_call 76;(with_reducible refine (h1.out _).mono ?_);rintro e0 w' ⟨rfl,rfl⟩)
    |(go_at_call 76;(with_reducible refine (h2.out _).mono ?_);rintro e0 w' ⟨rfl,rfl⟩)
    |(go_at_call 77;(with_reducible refine (h3.out).mono ?_);rintro e w' ⟨rfl,rfl⟩)
    |(go_at_call 79;(with_reducible refine (hfa.out).mono ?_);rintro e w' ⟨rfl,rfl⟩)
    |(go_at_call 78;(with_reducible refine hcA.out.mono ?_);rintro r w1 ⟨⟨v1,rfl⟩,hs1,hf1⟩;obtain ⟨ao,c,c3⟩:=hx3.out _ hs1)
    |(go_at_call 78;(with_reducible refine (hcB.out _ hs1).mono ?_);rintro r w2 ⟨⟨v2,rfl⟩,hs2,hf2⟩)
    |(go_at_call 81;(with_reducible refine (hwd.out _ hs2).mono ?_);rintro r w3 ⟨⟨v3,rfl⟩,hs3,hf3⟩)
    |(go_at_call 82;(with_reducible refine (hmg.out _ hs3).mono ?_);rintro r w4 ⟨⟨v4,rfl⟩,hs4,hf4⟩))
   have hres:=J0 (And.intro hs4 (((hf1.trans hf2).trans hf3).trans hf4))
   go_ret2
   first|exact ⟨by rw [hyo.out];rfl,hres.out⟩|exact ⟨rfl,hres.out⟩
  ·have hcA:=J0 (hch1' 0 (by omega))
   have hri:(n1:Int)<(rows:Int):=by omega
   have hcB:=J0 (hch2' n1 0 ((rows:Int) - (n1:Int)) (by omega) (by omega) (by omega))
   have hyo:Hid ((y:Int)=(yy:Int)):=J0 (by omega)
   clear hch1' hch2' hw5 hyy hab hA hB hF h hr1 hr5 hc1 hc5 hy hnx hl1 hl5 hAl hn1 he hk hm hBl hwl hcc hcc5 hAc hAn rr
   go_enter Tryz.func37,Tryz.ntmps37
   go_wp2_with (first
    |(go_at_call 75;(with_reducible refine (hmade.out).mono ?_);rintro e w' ⟨rfl,rfl⟩)
    |(go_at_call 76;(with_reducible refine (h1.out _).mono ?_);rintro e0 w' ⟨rfl,rfl⟩)
    |(go_at_call 76;(with_reducible refine (h2.out _).mono ?_);rintro e0 w' ⟨rfl,rfl⟩)
    |(go_at_call 77;(with_reducible refine (h3.out).mono ?_);rintro e w' ⟨rfl,rfl⟩)
    |(go_at_call 79;(with_reducible refine (hfa.out).mono ?_);rintro e w' ⟨rfl,rfl⟩)
    |(go_at_call 78;(with_reducible refine hcA.out.mono ?_);rintro r w1 ⟨⟨v1,rfl⟩,hs1,hf1⟩;obtain ⟨ao,c,c3⟩:=hx3.out _ hs1)
    |(go_at_call 78;(with_reducible refine (hcB.out _ hs1).mono ?_);rintro r w2 ⟨⟨v2,rfl⟩,hs2,hf2⟩)
    |(go_at_call 81;(with_reducible refine (hwd.out _ hs2).mono ?_);rintro r w3 ⟨⟨v3,rfl⟩,hs3,hf3⟩)
    |(go_at_call 82;(with_reducible refine (hmg.out _ hs3).mono ?_);rintro r w4 ⟨⟨v4,rfl⟩,hs4,hf4⟩))
   have hres:=J0 (And.intro hs4 (((hf1.trans hf2).trans hf3).trans hf4))
   go_ret2
   first|exact ⟨by rw [hyo.out];rfl,hres.out⟩|exact ⟨rfl,hres.out⟩
 ·rcases (show rows<=n1\/n1<rows by omega) with rr|rr
  ·have hcA:=J0 (hch1' 0 (by omega))
   have hri:(rows:Int)<=(n1:Int):=by omega
   have hcB:=J0 (hch2' rows ((n1:Int) - (rows:Int)) 0 (by omega) (by omega) (by omega))
   have hyo:Hid ((y:Int)=(yy:Int)):=J0 (by omega)
   clear hch1' hch2' hw5 hyy hab hA hB hF h hr1 hr5 hc1 hc5 hy hnx hl1 hl5 hAl hn1 he hk hm hBl hwl hcc hcc5 hAc hAn rr
   go_enter Tryz.func37,Tryz.ntmps37
   go_wp2_with (first
    |(go_at_call 75;(with_reducible refine (hmade.out).mono ?_);rintro e w' ⟨rfl,rfl⟩)
    |(go_at_call 76;(with_reducible refine (h1.out _).mono ?_);rintro e0 w' ⟨rfl,rfl⟩)
    |(go_at_call 76;(with_reducible refine (h2.out _).mono ?_);rintro e0 w' ⟨rfl,rfl⟩)
    |(go_at_call 77;(with_reducible refine (h3.out).mono ?_);rintro e w' ⟨rfl,rfl⟩)
    |(go_at_call 79;(with_reducible refine (hfa.out).mono ?_);rintro e w' ⟨rfl,rfl⟩)
    |(go_at_call 78;(with_reducible refine hcA.out.mono ?_);rintro r w1 ⟨⟨v1,rfl⟩,hs1,hf1⟩;obtain ⟨ao,c,c3⟩:=hx3.out _ hs1)
    |(go_at_call 78;(with_reducible refine (hcB.out _ hs1).mono ?_);rintro r w2 ⟨⟨v2,rfl⟩,hs2,hf2⟩)
    |(go_at_call 81;(with_reducible refine (hwd.out _ hs2).mono ?_);rintro r w3 ⟨⟨v3,rfl⟩,hs3,hf3⟩)
    |(go_at_call 82;(with_reducible refine (hmg.out _ hs3).mono ?_);rintro r w4 ⟨⟨v4,rfl⟩,hs4,hf4⟩))
   have hres:=J0 (And.intro hs4 (((hf1.trans hf2).trans hf3).trans hf4))
   go_ret2
   first|exact ⟨by rw [hyo.out];rfl,hres.out⟩|exact ⟨rfl,hres.out⟩
  ·have hcA:=J0 (hch1' 0 (by omega))
   have hri:(n1:Int)<(rows:Int):=by omega
   have hcB:=J0 (hch2' n1 0 ((rows:Int) - (n1:Int)) (by omega) (by omega) (by omega))
   have hyo:Hid ((y:Int)=(yy:Int)):=J0 (by omega)
   clear hch1' hch2' hw5 hyy hab hA hB hF h hr1 hr5 hc1 hc5 hy hnx hl1 hl5 hAl hn1 he hk hm hBl hwl hcc hcc5 hAc hAn rr
   go_enter Tryz.func37,Tryz.ntmps37
   go_wp2_with (first
    |(go_at_call 75;(with_reducible refine (hmade.out).mono ?_);rintro e w' ⟨rfl,rfl⟩)
    |(go_at_call 76;(with_reducible refine (h1.out _).mono ?_);rintro e0 w' ⟨rfl,rfl⟩)
    |(go_at_call 76;(with_reducible refine (h2.out _).mono ?_);rintro e0 w' ⟨rfl,rfl⟩)
    |(go_at_call 77;(with_reducible refine (h3.out).mono ?_);rintro e w' ⟨rfl,rfl⟩)
    |(go_at_call 79;(with_reducible refine (hfa.out).mono ?_);rintro e w' ⟨rfl,rfl⟩)
    |(go_at_call 78;(with_reducible refine hcA.out.mono ?_);rintro r w1 ⟨⟨v1,rfl⟩,hs1,hf1⟩;obtain ⟨ao,c,c3⟩:=hx3.out _ hs1)
    |(go_at_call 78;(with_reducible refine (hcB.out _ hs1).mono ?_);rintro r w2 ⟨⟨v2,rfl⟩,hs2,hf2⟩)
    |(go_at_call 81;(with_reducible refine (hwd.out _ hs2).mono ?_);rintro r w3 ⟨⟨v3,rfl⟩,hs3,hf3⟩)
    |(go_at_call 82;(with_reducible refine (hmg.out _ hs3).mono ?_);rintro r w4 ⟨⟨v4,rfl⟩,hs4,hf4⟩))
   have hres:=J0 (And.intro hs4 (((hf1.trans hf2).trans hf3).trans hf4))
   go_ret2
   first|exact ⟨by rw [hyo.out];rfl,hres.out⟩|exact ⟨rfl,hres.out⟩
 ·rcases (show rows<=n1\/n1<rows by omega) with rr|rr
  ·have hcA:=J0 (hch1' ((y:Int) - ((rows:Int) - 1)) (by omega))
   have hri:(rows:Int)<=(n1:Int):=by omega
   have hcB:=J0 (hch2' rows ((n1:Int) - (rows:Int)) 0 (by omega) (by omega) (by omega))
   have hw7:IntKind.i64.wrap ((y:Int) - ((y:Int) - ((rows:Int) - 1)))=(yy:Int):=hw5.elim id (fun h0=>by omega)
   have hyo:Hid ((yy:Int)=(yy:Int)):=J0 rfl
   clear hch1' hch2' hw5 hyy hab hA hB hF h hr1 hr5 hc1 hc5 hy hnx hl1 hl5 hAl hn1 he hk hm hBl hwl hcc hcc5 hAc hAn rr
   go_enter Tryz.func37,Tryz.ntmps37
   go_wp2_with (first
    |(go_at_call 75;(with_reducible refine (hmade.out).mono ?_);rintro e w' ⟨rfl,rfl⟩)
    |(go_at_call 76;(with_reducible refine (h1.out _).mono ?_);rintro e0 w' ⟨rfl,rfl⟩)
    |(go_at_call 76;(with_reducible refine (h2.out _).mono ?_);rintro e0 w' ⟨rfl,rfl⟩)
    |(go_at_call 77;(with_reducible refine (h3.out).mono ?_);rintro e w' ⟨rfl,rfl⟩)
    |(go_at_call 79;(with_reducible refine (hfa.out).mono ?_);rintro e w' ⟨rfl,rfl⟩)
    |(go_at_call 78;(with_reducible refine hcA.out.mono ?_);rintro r w1 ⟨⟨v1,rfl⟩,hs1,hf1⟩;obtain ⟨ao,c,c3⟩:=hx3.out _ hs1)
    |(go_at_call 78;(with_reducible refine (hcB.out _ hs1).mono ?_);rintro r w2 ⟨⟨v2,rfl⟩,hs2,hf2⟩)
    |(go_at_call 81;(with_reducible refine (hwd.out _ hs2).mono ?_);rintro r w3 ⟨⟨v3,rfl⟩,hs3,hf3⟩)
    |(go_at_call 82;(with_reducible refine (hmg.out _ hs3).mono ?_);rintro r w4 ⟨⟨v4,rfl⟩,hs4,hf4⟩))
   have hres:=J0 (And.intro hs4 (((hf1.trans hf2).trans hf3).trans hf4))
   go_ret2
   first|exact ⟨by rw [hyo.out];rfl,hres.out⟩|exact ⟨rfl,hres.out⟩
  ·have hcA:=J0 (hch1' ((y:Int) - ((rows:Int) - 1)) (by omega))
   have hri:(n1:Int)<(rows:Int):=by omega
   have hcB:=J0 (hch2' n1 0 ((rows:Int) - (n1:Int)) (by omega) (by omega) (by omega))
   have hw7:IntKind.i64.wrap ((y:Int) - ((y:Int) - ((rows:Int) - 1)))=(yy:Int):=hw5.elim id (fun h0=>by omega)
   have hyo:Hid ((yy:Int)=(yy:Int)):=J0 rfl
   clear hch1' hch2' hw5 hyy hab hA hB hF h hr1 hr5 hc1 hc5 hy hnx hl1 hl5 hAl hn1 he hk hm hBl hwl hcc hcc5 hAc hAn rr
   go_enter Tryz.func37,Tryz.ntmps37
   go_wp2_with (first
    |(go_at_call 75;(with_reducible refine (hmade.out).mono ?_);rintro e w' ⟨rfl,rfl⟩)
    |(go_at_call 76;(with_reducible refine (h1.out _).mono ?_);rintro e0 w' ⟨rfl,rfl⟩)
    |(go_at_call 76;(with_reducible refine (h2.out _).mono ?_);rintro e0 w' ⟨rfl,rfl⟩)
    |(go_at_call 77;(with_reducible refine (h3.out).mono ?_);rintro e w' ⟨rfl,rfl⟩)
    |(go_at_call 79;(with_reducible refine (hfa.out).mono ?_);rintro e w' ⟨rfl,rfl⟩)
    |(go_at_call 78;(with_reducible refine hcA.out.mono ?_);rintro r w1 ⟨⟨v1,rfl⟩,hs1,hf1⟩;obtain ⟨ao,c,c3⟩:=hx3.out _ hs1)
    |(go_at_call 78;(with_reducible refine (hcB.out _ hs1).mono ?_);rintro r w2 ⟨⟨v2,rfl⟩,hs2,hf2⟩)
    |(go_at_call 81;(with_reducible refine (hwd.out _ hs2).mono ?_);rintro r w3 ⟨⟨v3,rfl⟩,hs3,hf3⟩)
    |(go_at_call 82;(with_reducible refine (hmg.out _ hs3).mono ?_);rintro r w4 ⟨⟨v4,rfl⟩,hs4,hf4⟩))
   have hres:=J0 (And.intro hs4 (((hf1.trans hf2).trans hf3).trans hf4))
   go_ret2
   first|exact ⟨by rw [hyo.out];rfl,hres.out⟩|exact ⟨rfl,hres.out⟩
end
section
variable {B:Zn} {w w':World} {x s nx most:Nat} {sv:Value} {R:List En} {S:Scr}
def newS (nx most rows cols:Nat) (kp:Bool) (R:List Ln):Scr:=Bk1 (chg { nx:=nx,most:=most,kp:=kp,cols:=cols,top:=0,bot:=0,L:=[],R:=R } 0 0 0 rows zeroAt false)
theorem Cf4 (nx most rows cols:Nat) (kp:Bool) (R:List Ln):(newS nx most rows cols kp R).L=Ad2 nx cols rows zeroAt:=by
 show insA (outA [] 0 0) 0 (Ad2 nx cols rows zeroAt)=_
 simp [insA,outA]
theorem newS_fit {nx most rows cols:Nat} {kp:Bool} {R:List Ln} (h1:1<=rows) (h5:rows<=512) (c1:1<=cols) (c5:cols<=512) (hn:1<=nx):Fit (newS nx most rows cols kp R):=by
 have hL:=Cf4 nx most rows cols kp R
 have hl:(newS nx most rows cols kp R).L.length=rows:=by rw [hL,Ag0]
 have hb:(newS nx most rows cols kp R).bot=(newS nx most rows cols kp R).L.length - 1:=rfl
 refine ⟨by omega,by omega,by omega,Nat.zero_le _,c1,c5,fun p hp=>?_,fun p hp=>?_,Nat.le_trans hn (Nat.le_add_right _ _)⟩
 ·rw [hL] at hp
  exact (Aq6 hp).1
 ·rw [hL] at hp
  have:=Aq6 hp
  refine ⟨by omega,?_⟩
  show p.1<((nx+rows:Nat):Int)
  omega
theorem there_any (h:SX 0 w s nx most sv R):Calls Tryz.prog 97 #[.pointer (some ⟨s,0,none⟩)] w fun e w'=>e=.returned (.bool true)/\w=w':=by
 have hn:=J0 (next_any h)
 have hp:(0:Int)<(nx:Int):=by
  obtain ⟨⟨o,P,h0,_⟩,_⟩:=h
  have:=h0.pos
  omega
 clear h
 go_enter Tryz.func97,Tryz.ntmps97
 go_wp2_with ((go_at_call 157;(with_reducible refine (hn.out).mono ?_);rintro e w' ⟨rfl,rfl⟩))
 go_ret
 first|exact ⟨rfl,rfl⟩|exact ⟨Ab6 (decide_eq_true (by omega)),rfl⟩
theorem there_nil (w:World):Calls Tryz.prog 97 #[.pointer none] w fun e w'=>e=.returned (.bool false)/\w=w':=by
 have hm:∀ w,Calls Tryz.prog 93 #[.pointer none] w fun e w'=>e=.returned (.bool false)/\w=w':=fun w=>by
  go_enter Tryz.func93,Tryz.ntmps93
  go_wp2
  go_ret
  exact ⟨rfl,rfl⟩
 have hn:∀ w,Calls Tryz.prog 157 #[.pointer none] w fun e w'=>e=.returned (.int .i64 0)/\w=w':=fun w=>by
  replace hm:=J0 hm
  go_enter Tryz.func157,Tryz.ntmps157
  go_wp2_with ((go_at_call 93;(with_reducible refine (hm.out _).mono ?_);rintro e w' ⟨rfl,rfl⟩))
  go_ret
  exact ⟨rfl,rfl⟩
 replace hn:=J0 hn
 clear hm
 go_enter Tryz.func97,Tryz.ntmps97
 go_wp2_with ((go_at_call 157;(with_reducible refine (hn.out _).mono ?_);rintro e w' ⟨rfl,rfl⟩))
 go_ret
 exact ⟨rfl,rfl⟩
theorem snew_no (rows cols:Int) (p:Option Addr) (kp:Bool) (w:World) (hno:¬ (1<=rows/\rows<=512)\/¬ (1<=cols/\cols<=512)\/p=none):Calls Tryz.prog 49 #[.int .i64 rows,.int .i64 cols,.pointer p,.bool kp] w fun e w'=>e=.returned (.tuple #[.pointer none,.int .i64 2])/\w=w':=by
 have h1:=fun w=>Ak7 rows w
 have h2:=fun w=>Ak7 cols w
 have h3:=J0 (fun w=>there_nil w)
 by_cases q1:1<=rows/\rows<=512
 ·rw [decide_eq_true q1] at h1
  by_cases q2:1<=cols/\cols<=512
  ·rw [decide_eq_true q2] at h2
   obtain rfl:p=none:=by
    rcases hno with h|h|h
    ·exact absurd q1 h
    ·exact absurd q2 h
    ·exact h
   replace h1:=J0 h1
   replace h2:=J0 h2
   clear hno q1 q2
   go_enter Tryz.func49,Tryz.ntmps49
   go_wp2_with (first
    |(go_at_call 76;(with_reducible refine (h1.out _).mono ?_);rintro e w' ⟨rfl,rfl⟩)
    |(go_at_call 76;(with_reducible refine (h2.out _).mono ?_);rintro e w' ⟨rfl,rfl⟩)
    |(go_at_call 97;(with_reducible refine (h3.out _).mono ?_);rintro e w' ⟨rfl,rfl⟩))
   go_ret2
   exact ⟨rfl,rfl⟩
  ·rw [decide_eq_false q2] at h2
   replace h1:=J0 h1
   replace h2:=J0 h2
   clear hno q1 q2
   go_enter Tryz.func49,Tryz.ntmps49
   go_wp2_with (first
    |(go_at_call 76;(with_reducible refine (h1.out _).mono ?_);rintro e w' ⟨rfl,rfl⟩)
    |(go_at_call 76;(with_reducible refine (h2.out _).mono ?_);rintro e w' ⟨rfl,rfl⟩))
   go_ret2
   exact ⟨rfl,rfl⟩
 ·rw [decide_eq_false q1] at h1
  replace h1:=J0 h1
  clear hno q1 h2
  go_enter Tryz.func49,Tryz.ntmps49
  go_wp2_with (first
   |(go_at_call 76;(with_reducible refine (h1.out _).mono ?_);rintro e w' ⟨rfl,rfl⟩))
  go_ret2
  exact ⟨rfl,rfl⟩
theorem By2 (h:SX 0 w s nx most sv R) (hz:B s/\(∀ g,sv.ownBlock=some g->B g)/\(∀ e∈R,B e.d/\B e.g)/\∀ k,w.heap.size<=k->B k) (hd:(R.map En.d).Nodup) (hg:(R.map En.g).Nodup) (rows cols:Nat) (kp:Bool) (hr1:1<=rows) (hr5:rows<=512) (hc1:1<=cols) (hc5:cols<=512) (hnx:nx+512<=1000000) :
  Calls Tryz.prog 49 #[.int .i64 rows,.int .i64 cols,.pointer (some ⟨s,0,none⟩),.bool kp] w fun e w'=>e=.returned (.tuple #[.pointer (some ⟨w.heap.size,0,none⟩),.int .i64 0])/\SC B w' w.heap.size s (newS nx most rows cols kp (vw R))/\Fr B PT w w':=by
 have h1:=fun w=>Ak7 rows w
 rw [decide_eq_true (by omega)] at h1
 have h2:=fun w=>Ak7 cols w
 rw [decide_eq_true (by omega)] at h2
 have h3:=there_any h
 have hb:=Aa1 w (.cells #[.pointer (some ⟨s,0,none⟩),.bool kp,.int .i64 cols,.slice none 0 0,.int .i64 0,.int .i64 0] 142)
 have hBw:LoX B (w.alloc (.cells #[.pointer (some ⟨s,0,none⟩),.bool kp,.int .i64 cols,.slice none 0 0,.int .i64 0,.int .i64 0] 142)) w.heap.size s sv (.slice none 0 0) R :=
  ⟨hz.2.2.2 _ (J5 _),hz.1,fun g hg=>(by cases hg),hz.2.1,hz.2.2.1,fun k hk=>hz.2.2.2 k (Nat.le_trans hb.size hk)⟩
 have hplt:=fun g hg=>(h.ptyp g hg).2.1
 have hS0:SC B (w.alloc (.cells #[.pointer (some ⟨s,0,none⟩),.bool kp,.int .i64 cols,.slice none 0 0,.int .i64 0,.int .i64 0] 142)) w.heap.size s { nx:=nx,most:=most,kp:=kp,cols:=cols,top:=0,bot:=0,L:=[],R:=vw R } :=
  ⟨sv,.slice none 0 0,[],R,⟨⟨Block.made w _ _,World.ownsRow_nil _ _ _ _,h.below hb,fun g hg=>(by cases hg),hBw,by simp⟩,by simp,by simp,by simpa using hd,by simpa using hg⟩,rfl,rfl⟩
 have hch:=Am0 hS0 0 0 0 rows (by simp) (by simp) (by simp;omega) (by show nx+rows<=_;omega) hc1 hc5 zeroAt
 have hch':Calls Tryz.prog 78 #[.pointer (some ⟨w.heap.size,0,none⟩),.agg #[.int .i64 0,.int .i64 0],.agg #[.int .i64 0,.int .i64 rows],.agg #[.int .u32 0,.int .u32 0,.int .u16 0],.func (.func 80) #[.pointer (some ⟨w.heap.size,0,none⟩)] #[]] (w.alloc (.cells #[.pointer (some ⟨s,0,none⟩),.bool kp,.int .i64 cols,.slice none 0 0,.int .i64 0,.int .i64 0] 142)) (Did B _ w.heap.size s _):=hch
 clear hch
 have hcl:(chg { nx:=nx,most:=most,kp:=kp,cols:=cols,top:=0,bot:=0,L:=[],R:=vw R } 0 0 0 rows zeroAt false).L.length=rows:=by rw [Ap0 (by simp)];simp
 have hm:=fun w' (hs:SC B w' w.heap.size s (chg { nx:=nx,most:=most,kp:=kp,cols:=cols,top:=0,bot:=0,L:=[],R:=vw R } 0 0 0 rows zeroAt false))=>Ce7 hs (by omega) (by omega)
 unfold newS
 generalize chg { nx:=nx,most:=most,kp:=kp,cols:=cols,top:=0,bot:=0,L:=[],R:=vw R } 0 0 0 rows zeroAt false=S1 at hch' hm hcl |-
 generalize Bk1 S1=S2 at hm |-
 have hmf:=mkf
 replace h1:=J0 h1
 replace h2:=J0 h2
 replace h3:=J0 h3
 replace hm:=J0 hm
 replace hch':=J0 hch'
 replace hb:=J0 hb
 clear h hd hg hS0 hr1 hr5 hc1 hc5 hnx hplt hcl
 go_enter Tryz.func49,Tryz.ntmps49
 go_wp2_with (first
  |(go_at_call 76;(with_reducible refine (h1.out _).mono ?_);rintro e w' ⟨rfl,rfl⟩)
  |(go_at_call 76;(with_reducible refine (h2.out _).mono ?_);rintro e w' ⟨rfl,rfl⟩)
  |(go_at_call 97;(with_reducible refine (h3.out).mono ?_);rintro e w' ⟨rfl,rfl⟩)
  |(go_at_call 78;(with_reducible refine hch'.out.mono ?_);rintro r w2 ⟨⟨v2,rfl⟩,hs2,hf2⟩)
  |(go_at_call 82;(with_reducible refine (hm.out _ hs2).mono ?_);rintro r w3 ⟨⟨v3,rfl⟩,hs3,hf3⟩))
 go_ret2
 exact ⟨rfl,hs3,((Fr.of_below hb.out).trans hf2).trans hf3⟩
end
