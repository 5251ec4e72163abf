/- Part 4 of HostSplits. -/
import Derived.Test.YtecnpoigegiooaaGreatDoorP03
import Derived.Deep.Cut
import Derived.Deep.CutRange
import Derived.Deep.CutBlock
set_option maxHeartbeats 16000000
set_option maxRecDepth 100000
namespace Go.Proofs.YtecnpoigegiooaaGreatDoor.Prs
open Go RowKit Com Par
theorem feed_csiIgnore (S:PS) (v:Value) (r:Int) (hr:Mid r) (B d:Nat) (w:World) (hd:ParIn w B d v S) (X:Stp) (hix:Ae7 S.st 118)
  (hcon:∀w1,w.heap.size<=w1.heap.size->ParIn w1 B d v S->Calls Tryz.prog 118 #[.pointer (some ⟨d,0,none⟩),.int .i32 r] w1 (Fed w1 B d v X)) :
  Calls Tryz.prog 59 #[.pointer (some ⟨d,0,none⟩),.int .i32 r] w (Fed w B d v X):=by
 have h0:=hd.blk.c0
 have hk:=J0 (fun w' (h:ParIn w' B d v S)=>h.blk.c0)
 have hdr:=J0 (hd.only (Ab2 [] w) (by simp) (by simp))
 obtain⟨ra,rb,rc,rd,re,rf,rg⟩:=hr
 replace hcon:=J0 hcon
 have hiy:∀w,(Instr.index 181 An4 (.int .u8 S.st)).run Tryz.prog w=.ok (.func (.func 118) #[] #[]) w:=hix
 clear hd hix
 generalize S.st=k at h0 hk hiy
 go_enter Tryz.func59,Tryz.ntmps59
 go_wp2_with fail
 go_region_with (first
  |(go_at_call 87;refine(Ah8 _).mono ?_;rintro e w1 ⟨rfl,hb1⟩;have k1:=hk.out _ (hdr.out.new hb1))
  |(go_at_call 118;refine(hcon.out _ hb1.size (hdr.out.new hb1)).mono ?_;rintro e w9 ⟨x,u,rfl,hf⟩;obtain⟨ax,nx,cx,rfl⟩:=hf.shape;replace hf:=J0 hf))
 all_goals go_wp2
 all_goals go_ret
 all_goals exact⟨_,u,rfl,(hf.out.after (Only.of_below hb1 [d])).after (Ab2 _ _)⟩
theorem Ap5 (S:PS) (v:Value) (r:Int) (hr:Mid r) (B d:Nat) (w:World) (hd:ParIn w B d v S) (X:Stp) (hix:Ae7 S.st 119)
  (hcon:∀w1,w.heap.size<=w1.heap.size->ParIn w1 B d v S->Calls Tryz.prog 119 #[.pointer (some ⟨d,0,none⟩),.int .i32 r] w1 (Fed w1 B d v X)) :
  Calls Tryz.prog 59 #[.pointer (some ⟨d,0,none⟩),.int .i32 r] w (Fed w B d v X):=by
 have h0:=hd.blk.c0
 have hk:=J0 (fun w' (h:ParIn w' B d v S)=>h.blk.c0)
 have hdr:=J0 (hd.only (Ab2 [] w) (by simp) (by simp))
 obtain⟨ra,rb,rc,rd,re,rf,rg⟩:=hr
 replace hcon:=J0 hcon
 have hiy:∀w,(Instr.index 181 An4 (.int .u8 S.st)).run Tryz.prog w=.ok (.func (.func 119) #[] #[]) w:=hix
 clear hd hix
 generalize S.st=k at h0 hk hiy
 go_enter Tryz.func59,Tryz.ntmps59
 go_wp2_with fail
 go_region_with (first
  |(go_at_call 87;refine(Ah8 _).mono ?_;rintro e w1 ⟨rfl,hb1⟩;have k1:=hk.out _ (hdr.out.new hb1))
  |(go_at_call 119;refine(hcon.out _ hb1.size (hdr.out.new hb1)).mono ?_;rintro e w9 ⟨x,u,rfl,hf⟩;obtain⟨ax,nx,cx,rfl⟩:=hf.shape;replace hf:=J0 hf))
 all_goals go_wp2
 all_goals go_ret
 all_goals exact⟨_,u,rfl,(hf.out.after (Only.of_below hb1 [d])).after (Ab2 _ _)⟩
theorem feed_osc (S:PS) (v:Value) (r:Int) (hr:Mid r) (B d:Nat) (w:World) (hd:ParIn w B d v S) (X:Stp) (hix:Ae7 S.st 120)
  (hcon:∀w1,w.heap.size<=w1.heap.size->ParIn w1 B d v S->Calls Tryz.prog 120 #[.pointer (some ⟨d,0,none⟩),.int .i32 r] w1 (Fed w1 B d v X)) :
  Calls Tryz.prog 59 #[.pointer (some ⟨d,0,none⟩),.int .i32 r] w (Fed w B d v X):=by
 have h0:=hd.blk.c0
 have hk:=J0 (fun w' (h:ParIn w' B d v S)=>h.blk.c0)
 have hdr:=J0 (hd.only (Ab2 [] w) (by simp) (by simp))
 obtain⟨ra,rb,rc,rd,re,rf,rg⟩:=hr
 replace hcon:=J0 hcon
 have hiy:∀w,(Instr.index 181 An4 (.int .u8 S.st)).run Tryz.prog w=.ok (.func (.func 120) #[] #[]) w:=hix
 clear hd hix
 generalize S.st=k at h0 hk hiy
 go_enter Tryz.func59,Tryz.ntmps59
 go_wp2_with fail
 go_region_with (first
  |(go_at_call 87;refine(Ah8 _).mono ?_;rintro e w1 ⟨rfl,hb1⟩;have k1:=hk.out _ (hdr.out.new hb1))
  |(go_at_call 120;refine(hcon.out _ hb1.size (hdr.out.new hb1)).mono ?_;rintro e w9 ⟨x,u,rfl,hf⟩;obtain⟨ax,nx,cx,rfl⟩:=hf.shape;replace hf:=J0 hf))
 all_goals go_wp2
 all_goals go_ret
 all_goals exact⟨_,u,rfl,(hf.out.after (Only.of_below hb1 [d])).after (Ab2 _ _)⟩
theorem feed_mid (S:PS) (hS:S.Ok) (v:Value) (r:Int) (h0:32<=r) (h1:r<127) (B d:Nat) (w:World) (hd:ParIn w B d v S) (hB:B<=w.heap.size) :
  Calls Tryz.prog 59 #[.pointer (some ⟨d,0,none⟩),.int .i32 r] w (Fed w B d v (stepF S r)):=by
 have hr:=mid_of h0 h1
 obtain⟨s0,s1⟩:=hS.st
 rcases(by omega:S.st=0\/S.st=1\/S.st=2\/S.st=3\/S.st=4\/S.st=5\/S.st=6\/S.st=7\/S.st=8\/S.st=9\/S.st=10\/S.st=11\/S.st=12\/S.st=13) with e|e|e|e|e|e|e|e|e|e|e|e|e|e
 ·rw[show stepF S r=groundF S r by unfold stepF;rw[if_pos e]]
  exact feed_ground S v r hr B d w hd _ (e▸stepAt0) (fun w1 _ h=>Bf1 S v r B d w1 h)
 ·rw[show stepF S r=escapeF S r by simp[stepF,e]]
  exact feed_escape S v r hr B d w hd _ (e▸stepAt1) (fun w1 _ h=>escape_any S hS v r B d w1 h)
 ·rw[show stepF S r=escInterF S r by simp[stepF,e]]
  exact feed_escapeInter S v r hr B d w hd _ (e▸stepAt2) (fun w1 _ h=>Bb4 S hS v r B d w1 h)
 ·rw[show stepF S r=entryF S r by simp[stepF,e]]
  exact Bj1 S v r hr B d w hd _ (e▸stepAt3) (fun w1 _ h=>Br9 S hS v r B d w1 h)
 ·rw[show stepF S r=paramF S r by simp[stepF,e]]
  exact Bj3 S v r hr B d w hd _ (e▸stepAt4) (fun w1 _ h=>Ax5 S hS v r B d w1 h)
 ·rw[show stepF S r=interF S r by simp[stepF,e]]
  exact Bj2 S v r hr B d w hd _ (e▸stepAt5) (fun w1 _ h=>Aw3 S hS v r B d w1 h)
 ·rw[show stepF S r=csiIgnF S r by simp[stepF,e]]
  exact feed_csiIgnore S v r hr B d w hd _ (e▸stepAt6) (fun w1 _ h=>csiIgn_any S hS v r B d w1 h)
 ·rw[show stepF S r=entryF S r by simp[stepF,e]]
  exact Bj1 S v r hr B d w hd _ (e▸stepAt7) (fun w1 _ h=>Br9 S hS v r B d w1 h)
 ·rw[show stepF S r=paramF S r by simp[stepF,e]]
  exact Bj3 S v r hr B d w hd _ (e▸stepAt8) (fun w1 _ h=>Ax5 S hS v r B d w1 h)
 ·rw[show stepF S r=interF S r by simp[stepF,e]]
  exact Bj2 S v r hr B d w hd _ (e▸stepAt9) (fun w1 _ h=>Aw3 S hS v r B d w1 h)
 ·rw[show stepF S r=([],S) by simp[stepF,e]]
  exact Ap5 S v r hr B d w hd _ (e▸stepAt10) (fun w1 _ h=>At7 S v r B d w1 h)
 ·rw[show stepF S r=([],S) by simp[stepF,e]]
  exact Ap5 S v r hr B d w hd _ (e▸stepAt11) (fun w1 _ h=>At7 S v r B d w1 h)
 ·rw[show stepF S r=oscF S r by simp[stepF,e]]
  exact feed_osc S v r hr B d w hd _ (e▸stepAt12) (fun w1 hs h=>Ck5 S hS v r B d w1 h (Nat.le_trans hB hs))
 ·rw[show stepF S r=([],S) by simp[stepF,e]]
  exact Ap5 S v r hr B d w hd _ (e▸stepAt13) (fun w1 _ h=>At7 S v r B d w1 h)
theorem feedN_control {S:PS} {r:Int} (h0:¬(r=24\/r=26)) (h1:¬r=27) (h:r<32):feedN S r=controlF S r:=by unfold feedN;rw[if_neg h0,if_neg h1,if_pos h]
theorem feedN_mid {S:PS} {r:Int} (h0:32<=r) (h:r<127):feedN S r=stepF S r:=by unfold feedN;rw[if_neg (by omega),if_neg (by omega),if_neg (by omega),if_pos h]
theorem feedN_upper {S:PS} {r:Int} (h0:127<r) (h:r<160):feedN S r=upperF S r:=by unfold feedN;rw[if_neg (by omega),if_neg (by omega),if_neg (by omega),if_neg (by omega),if_neg (by omega),if_pos h]
theorem Ap4 {S:PS} {r:Int} (h0:160<=r):feedN S r=beyondF S r:=by unfold feedN;rw[if_neg (by omega),if_neg (by omega),if_neg (by omega),if_neg (by omega),if_neg (by omega),if_neg (by omega)]
theorem feed_in (S:PS) (hS:S.Ok) (v:Value) (r:Int) (ra:¬r<0) (rb:¬1114111<r) (B d:Nat) (w:World) (hd:ParIn w B d v S) (hB:B<=w.heap.size) :
  Calls Tryz.prog 59 #[.pointer (some ⟨d,0,none⟩),.int .i32 r] w (Fed w B d v (feedN S r)):=by
 have hL:=hS.sq.num.len
 by_cases hmid:32<=r/\r<127
 ·rw[feedN_mid hmid.1 hmid.2]
  exact feed_mid S hS v r hmid.1 hmid.2 B d w hd hB
 have hd':=J0 hd
 clear hd
 by_cases h24:r=24\/r=26
 ·have hE:Hid (feedN S r=execLeadF S r):=by show _=_;unfold feedN;rw[if_pos h24]
  clear ra rb hmid
  rcases h24 with rfl|rfl
  all_goals
   go_enter Tryz.func59,Tryz.ntmps59
   go_wp2_with fail
   (refine(Bb5 S v hL _ B d w hd'.out).mono ?_;rintro e w9 ⟨x,u,rfl,hf⟩;obtain⟨ax,nx,cx,rfl⟩:=hf.shape;replace hf:=J0 hf;go_wp2_with fail;go_ret;rw[hE.out];exact⟨_,u,rfl,hf.out.after (Only.refl _ _)⟩)
 by_cases h27:r=27
 ·have hE:Hid (feedN S r=leadF S 1):=by show _=_;unfold feedN;rw[if_neg h24,if_pos h27]
  subst h27
  clear ra rb hmid h24
  go_enter Tryz.func59,Tryz.ntmps59
  go_wp2_with fail
  (refine(Ac6 S v hL 1 B d w hd'.out).mono ?_;rintro e w9 ⟨x,u,rfl,hf⟩;obtain⟨ax,nx,cx,rfl⟩:=hf.shape;replace hf:=J0 hf;go_wp2_with fail;go_ret;rw[hE.out];exact⟨_,u,rfl,hf.out.after (Only.refl _ _)⟩)
 have q24:(r == 24)=false:=by simp;omega
 have q26:(r == 26)=false:=by simp;omega
 have q27:(r == 27)=false:=by simpa using h27
 by_cases h32:r<32
 ·have hE:=J0 (feedN_control (S:=S) h24 h27 h32)
  clear h24 h27 hmid
  go_enter Tryz.func59,Tryz.ntmps59
  go_wp2_with fail
  (refine(An5 S hS v r B d w hd'.out).mono ?_;rintro e w9 ⟨x,u,rfl,hf⟩;obtain⟨ax,nx,cx,rfl⟩:=hf.shape;replace hf:=J0 hf;go_wp2_with fail;go_ret;rw[hE.out];exact⟨_,u,rfl,hf.out.after (Only.refl _ _)⟩)
 by_cases h127:r=127
 ·have hE:Hid (feedN S r=([],S)):=by show _=_;subst h127;rfl
  subst h127
  clear ra rb hmid h24 h27 q24 q26 q27 h32
  go_enter Tryz.func59,Tryz.ntmps59
  go_wp2_with fail
  go_ret
  rw[hE.out]
  exact An8 hd'.out
 have q127:(r == 127)=false:=by simpa using h127
 have h126:¬r<127:=by omega
 by_cases h160:r<160
 ·have hE:=J0 (feedN_upper (S:=S) (r:=r) (by omega) h160)
  clear h24 h27 hmid h127
  go_enter Tryz.func59,Tryz.ntmps59
  go_wp2_with fail
  (refine(upper_any S hS v r B d w hd'.out).mono ?_;rintro e w9 ⟨x,u,rfl,hf⟩;obtain⟨ax,nx,cx,rfl⟩:=hf.shape;replace hf:=J0 hf;go_wp2_with fail;go_ret;rw[hE.out];exact⟨_,u,rfl,hf.out.after (Only.refl _ _)⟩)
 ·have hE:=J0 (Ap4 (S:=S) (r:=r) (by omega))
  clear h24 h27 hmid h127
  go_enter Tryz.func59,Tryz.ntmps59
  go_wp2_with fail
  (refine(Az2 S hS v r B d w hd'.out hB).mono ?_;rintro e w9 ⟨x,u,rfl,hf⟩;obtain⟨ax,nx,cx,rfl⟩:=hf.shape;replace hf:=J0 hf;go_wp2_with fail;go_ret;rw[hE.out];exact⟨_,u,rfl,hf.out.after (Only.refl _ _)⟩)
theorem feed_any (S:PS) (hS:S.Ok) (v:Value) (r:Int) (B d:Nat) (w:World) (hd:ParIn w B d v S) (hB:B<=w.heap.size) :
  Calls Tryz.prog 59 #[.pointer (some ⟨d,0,none⟩),.int .i32 r] w (Fed w B d v (feedF S r)):=by
 by_cases ra:r<0
 ·have hE:Hid (feedF S r=beyondF S 65533):=by show _=_;unfold feedF normF;rw[if_pos (Or.inl ra)];exact Ap4 (by omega)
  have hd':=J0 hd
  clear hd
  go_enter Tryz.func59,Tryz.ntmps59
  go_wp2_with fail
  (refine(Az2 S hS v 65533 B d w hd'.out hB).mono ?_;rintro e w9 ⟨x,u,rfl,hf⟩;obtain⟨ax,nx,cx,rfl⟩:=hf.shape;replace hf:=J0 hf;go_wp2_with fail;go_ret;rw[hE.out];exact⟨_,u,rfl,hf.out.after (Only.refl _ _)⟩)
 by_cases rb:1114111<r
 ·have hE:Hid (feedF S r=beyondF S 65533):=by show _=_;unfold feedF normF;rw[if_pos (Or.inr rb)];exact Ap4 (by omega)
  have hd':=J0 hd
  clear hd
  go_enter Tryz.func59,Tryz.ntmps59
  go_wp2_with fail
  (refine(Az2 S hS v 65533 B d w hd'.out hB).mono ?_;rintro e w9 ⟨x,u,rfl,hf⟩;obtain⟨ax,nx,cx,rfl⟩:=hf.shape;replace hf:=J0 hf;go_wp2_with fail;go_ret;rw[hE.out];exact⟨_,u,rfl,hf.out.after (Only.refl _ _)⟩)
 ·rw[show feedF S r=feedN S r by unfold feedF normF;rw[if_neg (by omega)]]
  exact feed_in S hS v r ra rb B d w hd hB
theorem new_any (w:World):Calls Tryz.prog 20 #[] w fun e w'=>e=.returned (.pointer (some ⟨w.heap.size,0,none⟩))/\w'=w.alloc (.cells (parL start (.slice none 0 0)).toArray 115):=by
 go_enter Tryz.func20,Tryz.ntmps20
 go_wp2
 go_ret
 exact⟨rfl,rfl⟩
end Go.Proofs.YtecnpoigegiooaaGreatDoor.Prs
namespace Go.Proofs.YtecnpoigegiooaaGreatDoor.Utf
def Ak9 (a:Int):Nat:=if a<=127 then 1 else if 194<=a/\a<=223 then 2 else if 224<=a/\a<=239 then 3 else if 240<=a/\a<=244 then 4 else 0
def loF (a:Int):Int:=if a=224 then 160 else if a=240 then 144 else 128
def hiF (a:Int):Int:=if a=237 then 159 else if a=244 then 143 else 191
def leadF (s:Nat):Int:=if s=2 then 192 else if s=3 then 224 else if s=4 then 240 else 0
structure Dec where
 o:Int
 l:Int
 b:Int
 lo:Int
 hi:Int
deriving DecidableEq
def zero:Dec:=⟨0,0,0,0,0⟩
def Al2 (D:Dec) (a:Int):Dec×List Int :=
 if a<128 then (D,[a]) else if Ak9 a=0 then (D,[65533]) else (⟨1,Ak9 a - 1,a - leadF (Ak9 a),loF a,hiF a⟩,[])
def Bi7 (D:Dec) (x:Int):Dec×List Int :=
 if 0<D.l - 1 then (⟨D.o+1,D.l - 1,D.b*64+(x - 128),128,191⟩,[]) else (zero,[D.b*64+(x - 128)])
def endF (D:Dec):Dec×List Int:=if D.o=0 then (D,[]) else (zero,[65533])
def takeF (D:Dec) (x:Int):Dec×List Int :=
 if 0<D.o/\D.lo<=x/\x<=D.hi then Bi7 D x else ((Al2 (endF D).1 x).1,(endF D).2++(Al2 (endF D).1 x).2)
def runF:Dec->List Int->Dec×List Int
 |D,[]=>(D,[])
 |D,x::t=>((runF (takeF D x).1 t).1,(takeF D x).2++(runF (takeF D x).1 t).2)
def IsByte (x:Int):Prop:=0<=x/\x<=255
def Bytes (l:List Int):Prop:=∀x∈l,IsByte x
structure Dec.Ok (D:Dec):Prop where
 o0:0<=D.o
 o3:D.o<=3
 none_:D.o=0->D=zero
 l1:0<D.o->1<=D.l
 l3:D.o+D.l<=4
 b0:0<=D.b
 b1:D.o<=1->D.b<32
 b2:D.o<=2->D.b<2048
 b3:D.b<131072
 lo:0<D.o->128<=D.lo
 hi:0<D.o->D.hi<=191
 u8:0<=D.lo/\D.lo<=191/\0<=D.hi/\D.hi<=191
 l0:0<=D.l
theorem zero_ok:zero.Ok:=by constructor<;>simp[zero]
theorem sizeF_le (a:Int):Ak9 a<=4:=by unfold Ak9;split<;>(try split)<;>(try split)<;>(try split)<;>omega
theorem Au3 (a:Int):(a<=127/\Ak9 a=1)\/(194<=a/\a<=223/\Ak9 a=2)\/(224<=a/\a<=239/\Ak9 a=3)\/(240<=a/\a<=244/\Ak9 a=4)\/(128<=a/\(a<194\/244<a)/\Ak9 a=0):=by
 unfold Ak9
 by_cases h1:a<=127
 ·exact .inl ⟨h1,if_pos h1⟩
 ·rw[if_neg h1]
  by_cases h2:194<=a/\a<=223
  ·exact .inr (.inl ⟨h2.1,h2.2,if_pos h2⟩)
  ·rw[if_neg h2]
   by_cases h3:224<=a/\a<=239
   ·exact .inr (.inr (.inl ⟨h3.1,h3.2,if_pos h3⟩))
   ·rw[if_neg h3]
    by_cases h4:240<=a/\a<=244
    ·exact .inr (.inr (.inr (.inl ⟨h4.1,h4.2,if_pos h4⟩)))
    ·rw[if_neg h4]
     exact .inr (.inr (.inr (.inr ⟨by omega,by omega,rfl⟩)))
theorem loF_bd (a:Int):128<=loF a/\loF a<=160:=by unfold loF;split<;>(try split)<;>omega
theorem hiF_bd (a:Int):143<=hiF a/\hiF a<=191:=by unfold hiF;split<;>(try split)<;>omega
theorem leadF_bd (a:Int) (h:2<=Ak9 a):0<=a - leadF (Ak9 a)/\a - leadF (Ak9 a)<32:=by
 rcases Au3 a with ⟨_,e⟩|⟨h1,h2,e⟩|⟨h1,h2,e⟩|⟨h1,h2,e⟩|⟨h1,h2,e⟩<;>rw[e] at h |-<;>simp[leadF]<;>omega
theorem Ch3 {D:Dec} (h:D.Ok):(endF D).1=zero:=by
 unfold endF
 by_cases e:D.o=0
 ·rw[if_pos e];exact h.none_ e
 ·rw[if_neg e]
theorem begin_ok {a:Int} (_ha:IsByte a):(Al2 zero a).1.Ok:=by
 unfold Al2
 by_cases h1:a<128
 ·rw[if_pos h1];exact zero_ok
 ·rw[if_neg h1]
  by_cases h2:Ak9 a=0
  ·rw[if_pos h2];exact zero_ok
  ·rw[if_neg h2]
   have hs:2<=Ak9 a:=by rcases Au3 a with ⟨_,e⟩|⟨_,_,e⟩|⟨_,_,e⟩|⟨_,_,e⟩|⟨_,_,e⟩<;>omega
   have h4:=sizeF_le a
   have hl:=loF_bd a
   have hh:=hiF_bd a
   have hd:=leadF_bd a hs
   constructor<;>simp<;>omega
theorem goOn_ok {D:Dec} {x:Int} (h:D.Ok) (ho:0<D.o) (hlo:D.lo<=x) (hhi:x<=D.hi):(Bi7 D x).1.Ok:=by
 have h1:=h.lo ho
 have h2:=h.hi ho
 have h3:=h.l3
 have hb:=h.b0
 have hb1:=h.b1
 have hb2:=h.b2
 unfold Bi7
 by_cases hl:0<D.l - 1
 ·rw[if_pos hl]
  constructor<;>simp<;>omega
 ·rw[if_neg hl];exact zero_ok
theorem take_ok {D:Dec} {x:Int} (h:D.Ok) (hx:IsByte x):(takeF D x).1.Ok:=by
 unfold takeF
 by_cases c:0<D.o/\D.lo<=x/\x<=D.hi
 ·rw[if_pos c];exact goOn_ok h c.1 c.2.1 c.2.2
 ·rw[if_neg c]
  show (Al2 (endF D).1 x).1.Ok
  rw[Ch3 h];exact begin_ok hx
theorem Ch2 (D:Dec):(endF D).2.length<=1:=by unfold endF;split<;>simp
theorem Be0 (D:Dec) (a:Int):(Al2 D a).2.length<=1:=by unfold Al2;split<;>(try split)<;>simp
theorem take_len (D:Dec) (x:Int):(takeF D x).2.length<=2:=by
 unfold takeF
 split
 ·unfold Bi7;split<;>simp
 ·have h1:=Ch2 D
  have h2:=Be0 (endF D).1 x
  simp;omega
def OkAt (l:List Int) (i:Nat):Prop :=
 i=0\/(i=1/\loF (l.getD 0 0)<=l.getD 1 0/\l.getD 1 0<=hiF (l.getD 0 0))\/(2<=i/\128<=l.getD i 0/\l.getD i 0<=191)
instance (l:List Int) (i:Nat):Decidable (OkAt l i):=by unfold OkAt;infer_instance
end Go.Proofs.YtecnpoigegiooaaGreatDoor.Utf
namespace Go.Proofs.YtecnpoigegiooaaGreatDoor.Utf
open Go RowKit Com
theorem ret3 {a b c x y z:Int} {k l m:IntKind} (h1:a=x) (h2:b=y) (h3:c=z):Ending.returned (.tuple #[.int k a,.int l b,.int m c])=.returned (.tuple #[.int k x,.int l y,.int m z]):=by rw[h1,h2,h3]
def Ak1 (b:Int):Int:=if Ak9 b=0 then 0 else Ak9 b - 1
theorem follow_ways {b:Int} (h:128<=b) (h2:b<=255) :
  (b<194/\Ak1 b=0/\loF b=128/\hiF b=191)\/(194<=b/\b<=223/\Ak1 b=1/\loF b=128/\hiF b=191)\/(b=224/\Ak1 b=2/\loF b=160/\hiF b=191)\/(225<=b/\b<=236/\Ak1 b=2/\loF b=128/\hiF b=191) \/
  (b=237/\Ak1 b=2/\loF b=128/\hiF b=159)\/(b=238/\Ak1 b=2/\loF b=128/\hiF b=191)\/(b=239/\Ak1 b=2/\loF b=128/\hiF b=191) \/
  (b=240/\Ak1 b=3/\loF b=144/\hiF b=191)\/(241<=b/\b<=243/\Ak1 b=3/\loF b=128/\hiF b=191)\/(b=244/\Ak1 b=3/\loF b=128/\hiF b=143)\/(245<=b/\Ak1 b=0/\loF b=128/\hiF b=191):=by
 have hall:∀n:Fin 256,128<=(n.val:Int) ->
  ((n.val:Int)<194/\Ak1 n.val=0/\loF n.val=128/\hiF n.val=191)\/(194<=(n.val:Int)/\(n.val:Int)<=223/\Ak1 n.val=1/\loF n.val=128/\hiF n.val=191)\/((n.val:Int)=224/\Ak1 n.val=2/\loF n.val=160/\hiF n.val=191)\/(225<=(n.val:Int)/\(n.val:Int)<=236/\Ak1 n.val=2/\loF n.val=128/\hiF n.val=191) \/
  ((n.val:Int)=237/\Ak1 n.val=2/\loF n.val=128/\hiF n.val=159)\/((n.val:Int)=238/\Ak1 n.val=2/\loF n.val=128/\hiF n.val=191)\/((n.val:Int)=239/\Ak1 n.val=2/\loF n.val=128/\hiF n.val=191) \/
  ((n.val:Int)=240/\Ak1 n.val=3/\loF n.val=144/\hiF n.val=191)\/(241<=(n.val:Int)/\(n.val:Int)<=243/\Ak1 n.val=3/\loF n.val=128/\hiF n.val=191)\/((n.val:Int)=244/\Ak1 n.val=3/\loF n.val=128/\hiF n.val=143)\/(245<=(n.val:Int)/\Ak1 n.val=0/\loF n.val=128/\hiF n.val=191):=by decide +kernel
 have e:((⟨b.toNat,by omega⟩:Fin 256).val:Int)=b:=by simp;omega
 have hh:=hall ⟨b.toNat,by omega⟩
 rw[e] at hh
 exact hh h
theorem Aq8 (b:Int) (h:128<=b) (h2:b<=255) (w:World):Calls Tryz.prog 151 #[.int .u8 b] w fun e w'=>e=.returned (.tuple #[.int .i64 (Ak1 b),.int .u8 (loF b),.int .u8 (hiF b)])/\w=w':=by
 rcases follow_ways h h2 with ⟨c,e1,e2,e3⟩|⟨c,d,e1,e2,e3⟩|⟨rfl,e1,e2,e3⟩|⟨c,d,e1,e2,e3⟩|⟨rfl,e1,e2,e3⟩|⟨rfl,e1,e2,e3⟩|⟨rfl,e1,e2,e3⟩|⟨rfl,e1,e2,e3⟩|⟨c,d,e1,e2,e3⟩|⟨rfl,e1,e2,e3⟩|⟨c,e1,e2,e3⟩
 all_goals
  replace e1:=J0 e1
  replace e2:=J0 e2
  replace e3:=J0 e3
  go_enter Tryz.func151,Tryz.ntmps151
  go_wp2
  go_ret3
  exact⟨ret3 e1.out.symm e2.out.symm e3.out.symm,rfl⟩
theorem Bw0:Elem Tryz.prog 26 21 .i32 4:=by
 have h:(Tryz.prog.info? 21).map (fun i=>(i.zero,i.size,i.bytes))=some (some (.int .i32 0),1,4):=by kernel_rfl
 obtain⟨i,h0,h1,h2,h3⟩:=info_parts h
 exact⟨Tryz.underlying26,i,h0,h1,h2,h3⟩
def DecIn (w:World) (d:Nat) (D:Dec):Prop:=Block w d 107 #[.int .i64 D.o,.int .i64 D.l,.int .i32 D.b,.int .u8 D.lo,.int .u8 D.hi]
theorem DecIn.blk {w:World} {d:Nat} {D:Dec} (h:DecIn w d D):Block w d 107 #[.int .i64 D.o,.int .i64 D.l,.int .i32 D.b,.int .u8 D.lo,.int .u8 D.hi]:=h
theorem DecIn.c0 {w:World} {d:Nat} {D:Dec} (h:DecIn w d D):w.cell? ⟨d,0,none⟩=some (.int .i64 D.o):=Block.cell h 0 rfl
theorem DecIn.c1 {w:World} {d:Nat} {D:Dec} (h:DecIn w d D):w.cell? ⟨d,1,none⟩=some (.int .i64 D.l):=Block.cell h 1 rfl
theorem DecIn.c2 {w:World} {d:Nat} {D:Dec} (h:DecIn w d D):w.cell? ⟨d,2,none⟩=some (.int .i32 D.b):=Block.cell h 2 rfl
theorem DecIn.c3 {w:World} {d:Nat} {D:Dec} (h:DecIn w d D):w.cell? ⟨d,3,none⟩=some (.int .u8 D.lo):=Block.cell h 3 rfl
theorem DecIn.c4 {w:World} {d:Nat} {D:Dec} (h:DecIn w d D):w.cell? ⟨d,4,none⟩=some (.int .u8 D.hi):=Block.cell h 4 rfl
theorem Cn0:(Tryz.prog.info? 107).map (·.size)=some 5:=by kernel_rfl
theorem Cp0:(Tryz.prog.info? 3).map (·.size)=some 1:=by kernel_rfl
theorem Cv1:(Tryz.prog.info? 21).map (·.size)=some 1:=by kernel_rfl
theorem Cp1:(Tryz.prog.info? 5).map (·.size)=some 1:=by kernel_rfl
structure Told (w:World) (B d:Nat) (v:Value) (out:List Int) (R:Dec×List Int) (v':Value) (w':World):Prop where
 dec:DecIn w' d R.1
 own:Own w' B 21 .i32 v' (out++R.2)
 only:Only (d::v.ownBlock.toList) w w'
 lies:∀g,v'.ownBlock=some g->v.ownBlock=some g\/w.heap.size<=g
def Co5 (w:World) (B d:Nat) (v:Value) (out:List Int) (R:Dec×List Int) (e:Ending) (w':World):Prop:=∃v',e=.returned v'/\Told w B d v out R v' w'
theorem Bd9 {v:Value} {d:Nat} (h:v.ownBlock≠some d):∀g,v.ownBlock=some g->g∉[d]:=fun g hg hm=>h (by rw[hg];simp at hm;rw[hm])
theorem Ao7 {w w1 w2:World} {B d:Nat} {v v':Value} {out m:List Int} {D:Dec} {o:Obj} (hd:DecIn w1 d D) (hap:v.ownBlock≠some d) (ho1:Only [d] w w1)
  (hown2:Own w2 B 21 .i32 v' (out++m)) (ho2:Only v.ownBlock.toList (w1.alloc o) w2) (hat:v'.ownBlock=v.ownBlock\/v'.ownBlock=some (w1.alloc o).heap.size):Told w B d v out (D,m) v' w2:=by
 have hs:=ho1.size
 refine⟨(hd.alloc o).only ho2 (fun hm=>hap (by simpa using hm)),hown2,?_,fun g hg=>?_⟩
 ·exact(ho1.mono (by simp)).trans ((Only.alloc _ w1 o).trans (ho2.mono (fun k hk=>List.mem_cons_of_mem _ hk)))
 ·rcases hat with e|e
  ·left;rw[<- e];exact hg
  ·right
   rw[e] at hg
   simp at hg
   omega
theorem DecIn.num {w:World} {d:Nat} {a b c e f c':Int} (h:Block w d 107 #[.int .i64 a,.int .i64 b,.int .i32 c,.int .u8 e,.int .u8 f]) (hc:c=c'):DecIn w d ⟨a,b,c',e,f⟩:=by subst hc;exact h
theorem As0 {w w1:World} {B d:Nat} {v:Value} {out:List Int} {D:Dec} (hd:DecIn w1 d D) (hown:Own w B 21 .i32 v out) (hap:v.ownBlock≠some d) (ho1:Only [d] w w1):Told w B d v out (D,[]) v w1 :=
 ⟨hd,by simpa using hown.only ho1 (Bd9 hap),ho1.mono (by simp),fun g hg=>.inl hg⟩
theorem Az4 (D:Dec) (d:Nat) (v:Value) (out:List Int) (B:Nat) (w:World) (hB:B<=w.heap.size) (hd:DecIn w d D) (hown:Own w B 21 .i32 v out) (hlen:out.length<=1048576) :
  Calls Tryz.prog 110 #[.pointer (some ⟨d,0,none⟩),v] w (Co5 w B d v out (endF D)):=by
 have c0:=hd.c0
 by_cases ho:D.o=0
 ·have hE:Hid (endF D=(D,[])):=by show _=_;unfold endF;rw[if_pos ho]
  rw[ho] at c0
  clear ho
  go_enter Tryz.func110,Tryz.ntmps110
  go_wp2
  go_ret
  rw[hE.out]
  exact⟨v,rfl,hd,by simpa using hown,Only.refl _ _,fun g hg=>.inl hg⟩
 ·have hE:Hid (endF D=(zero,[65533])):=by show _=_;unfold endF;rw[if_neg ho]
  have ho':(D.o == 0)=false:=by simpa using ho
  clear ho
  have hap:=hown.apart hd (by decide)
  go_enter Tryz.func110,Tryz.ntmps110
  go_wp2_with (first
   |(with_reducible refine J8 13 ?_;go_must (refine Aa3 rfl _ (.tmp 13) (.tmp 12) rfl hd.blk _ rfl rfl (by simpa using Cn0) (by simp) (by simp[Value.oneCell']) ?_);intro w1 hd1 ho1;clear c0)
   |(at_builtin;refine Ai7 Bw0 rfl _ _ rfl B v out [65533] _ (w1.heap.size+1) 1 rfl rfl ((hown.only ho1 (Bd9 hap)).alloc _) (Nums.one _ _ _ _) ?_ ?_ ?_ ?_;(have:=ho1.size;simp;omega);(simp;omega);(simp[maxLen];omega);intro v' w2 hown1 ho2 hat1))
  go_ret
  rw[hE.out]
  exact⟨v',rfl,Ao7 (D:=zero) hd1 hap ho1 hown1 ho2 hat1⟩
theorem Bv9:∀n:Int,0<=n->n<=255->bits .and .i32 n 31=n % 32/\bits .and .i32 n 15=n % 16/\bits .and .i32 n 7=n % 8/\bits .and .u8 n 63=n % 64:=by
 have hall:∀m:Fin 256,bits .and .i32 m.val 31=m.val % 32/\bits .and .i32 m.val 15=m.val % 16/\bits .and .i32 m.val 7=m.val % 8/\bits .and .u8 m.val 63=m.val % 64:=by decide +kernel
 intro n h0 h1
 have e:((⟨n.toNat,by omega⟩:Fin 256).val:Int)=n:=by simp;omega
 have h:=hall ⟨n.toNat,by omega⟩
 rw[e] at h
 exact h
theorem Ah0 (b:Int) (hb0:0<=b) (hb1:b<=255) (d:Nat) (v:Value) (out:List Int) (B:Nat) (w:World) (hB:B<=w.heap.size) (hd:DecIn w d zero) (hown:Own w B 21 .i32 v out) (hlen:out.length<=1048576) :
  Calls Tryz.prog 109 #[.pointer (some ⟨d,0,none⟩),.int .u8 b,v] w (Co5 w B d v out (Al2 zero b)):=by
 have hap:=hown.apart hd (by decide)
 by_cases h1:b<128
 ·have hE:Hid (Al2 zero b=(zero,[b])):=by show _=_;unfold Al2;rw[if_pos h1]
  go_enter Tryz.func109,Tryz.ntmps109
  go_wp2_with ((at_builtin;refine Ai7 Bw0 rfl _ _ rfl B v out [b] _ (w.heap.size+1) 1 rfl rfl (hown.alloc _) (Nums.one _ _ _ _) ?_ ?_ ?_ ?_;(simp;omega);(simp;omega);(simp[maxLen];omega);intro v' w2 hown1 ho2 hat1))
  go_ret
  rw[hE.out]
  exact⟨v',rfl,Ao7 hd hap (Only.refl _ _) hown1 ho2 hat1⟩
 ·have hge:128<=b:=by omega
  have hf:=Aq8 b hge hb1 w
  rcases Au3 b with ⟨c1,e⟩|⟨c1,c2,e⟩|⟨c1,c2,e⟩|⟨c1,c2,e⟩|⟨c1,c2,e⟩
  ·omega
  all_goals
   have hl:Ak1 b=if Ak9 b=0 then 0 else (Ak9 b:Int) - 1:=rfl
   have hE:Hid (Al2 zero b=if Ak9 b=0 then (zero,[65533]) else (⟨1,Ak9 b - 1,b - leadF (Ak9 b),loF b,hiF b⟩,[])):=by show _=_;unfold Al2;rw[if_neg h1]
   rw[e] at hl hE
   simp[leadF] at hl hE
   rw[hl] at hf
   replace hf:=J0 hf
   clear hl h1 e
  ·have hm:=J0 (Bv9 b hb0 hb1).1
   go_enter Tryz.func109,Tryz.ntmps109
   go_wp2_with (first
    |(go_at_call 151;refine(hf.out).mono ?_;rintro e w' ⟨rfl,rfl⟩)
    |(with_reducible refine J8 42 ?_;go_must (refine Aa3 rfl _ (.tmp 42) (.tmp 41) rfl hd.blk _ rfl rfl (by simpa using Cn0) (by simp) (by simp[Value.oneCell']) ?_);intro w1 hd1 ho1))
   go_ret
   rw[hE.out]
   exact⟨v,rfl,As0 (DecIn.num hd1 (by have:=hm.out;omega)) hown hap ho1⟩
  ·have hm:=J0 (Bv9 b hb0 hb1).2.1
   go_enter Tryz.func109,Tryz.ntmps109
   go_wp2_with (first
    |(go_at_call 151;refine(hf.out).mono ?_;rintro e w' ⟨rfl,rfl⟩)
    |(with_reducible refine J8 42 ?_;go_must (refine Aa3 rfl _ (.tmp 42) (.tmp 41) rfl hd.blk _ rfl rfl (by simpa using Cn0) (by simp) (by simp[Value.oneCell']) ?_);intro w1 hd1 ho1))
   go_ret
   rw[hE.out]
   exact⟨v,rfl,As0 (DecIn.num hd1 (by have:=hm.out;omega)) hown hap ho1⟩
  ·have hm:=J0 (Bv9 b hb0 hb1).2.2.1
   go_enter Tryz.func109,Tryz.ntmps109
   go_wp2_with (first
    |(go_at_call 151;refine(hf.out).mono ?_;rintro e w' ⟨rfl,rfl⟩)
    |(with_reducible refine J8 42 ?_;go_must (refine Aa3 rfl _ (.tmp 42) (.tmp 41) rfl hd.blk _ rfl rfl (by simpa using Cn0) (by simp) (by simp[Value.oneCell']) ?_);intro w1 hd1 ho1))
   go_ret
   rw[hE.out]
   exact⟨v,rfl,As0 (DecIn.num hd1 (by have:=hm.out;omega)) hown hap ho1⟩
  ·go_enter Tryz.func109,Tryz.ntmps109
   go_wp2_with (first
    |(go_at_call 151;refine(hf.out).mono ?_;rintro e w' ⟨rfl,rfl⟩)
    |(at_builtin;refine Ai7 Bw0 rfl _ _ rfl B v out [65533] _ (w.heap.size+1) 1 rfl rfl (hown.alloc _) (Nums.one _ _ _ _) ?_ ?_ ?_ ?_;(simp;omega);(simp;omega);(simp[maxLen];omega);intro v' w2 hown1 ho2 hat1))
   go_ret
   rw[hE.out]
   exact⟨v',rfl,Ao7 hd hap (Only.refl _ _) hown1 ho2 hat1⟩
theorem Bn8 (D:Dec) (hD:D.Ok) (x:Int) (ho:0<D.o) (hlo:D.lo<=x) (hhi:x<=D.hi) (d:Nat) (v:Value) (out:List Int) (B:Nat) (w:World) (hB:B<=w.heap.size) (hd:DecIn w d D) (hown:Own w B 21 .i32 v out) (hlen:out.length<=1048576) :
  Calls Tryz.prog 108 #[.pointer (some ⟨d,0,none⟩),.int .u8 x,v] w (Co5 w B d v out (Bi7 D x)):=by
 have hap:=hown.apart hd (by decide)
 have c0:=hd.c0
 have o3:=hD.o3
 have l1:=hD.l1 ho
 have l3:=hD.l3
 have b0:=hD.b0
 have b3:=hD.b3
 have x0:=hD.lo ho
 have x1:=hD.hi ho
 have hx0:128<=x:=by omega
 have hx1:x<=191:=by omega
 clear x0 x1 hlo hhi hD
 by_cases hl:0<D.l - 1
 ·have hE:Hid (Bi7 D x=(⟨D.o+1,D.l - 1,D.b*64+(x - 128),128,191⟩,[])):=by show _=_;unfold Bi7;rw[if_pos hl]
  go_enter Tryz.func108,Tryz.ntmps108
  go_wp2_with (first
   |(with_reducible refine J8 14 ?_;go_must (refine Aa5 rfl _ (.tmp 14) (.tmp 12) rfl hd.blk (.int _ _) rfl rfl (by simp) (by exact Cp0) rfl ?_);intro w1 hd1 ho1;go_must (replace hd1:DecIn w1 d ⟨D.o+1,D.l,D.b,D.lo,D.hi⟩:=by simpa[DecIn] using hd1);clear c0;have c1:=hd1.c1)
   |(with_reducible refine J8 21 ?_;go_must (refine Aa5 rfl _ (.tmp 21) (.tmp 19) rfl hd1.blk (.int _ _) rfl rfl (by simp) (by exact Cp0) rfl ?_);intro w2 hd2 ho2;go_must (replace hd2:DecIn w2 d ⟨D.o+1,D.l - 1,D.b,D.lo,D.hi⟩:=by simpa[DecIn] using hd2);clear c1;have c2:=hd2.c2)
   |(with_reducible refine J8 33 ?_;go_must (refine Aa5 rfl _ (.tmp 33) (.tmp 31) rfl hd2.blk (.int _ _) rfl rfl (by simp) (by exact Cv1) rfl ?_);intro w3 hd3 ho3;go_must (replace hd3:DecIn w3 d ⟨D.o+1,D.l - 1,D.b*64+x % 64,D.lo,D.hi⟩:=by simpa[DecIn] using hd3);clear c2)
   |(with_reducible refine J8 37 ?_;go_must (refine Aa5 rfl _ (.tmp 37) (.const (.int .u8 128)) rfl hd3.blk (.int _ _) rfl rfl (by simp) (by exact Cp1) rfl ?_);intro w4 hd4 ho4;go_must (replace hd4:DecIn w4 d ⟨D.o+1,D.l - 1,D.b*64+x % 64,128,D.hi⟩:=by simpa[DecIn] using hd4))
   |(with_reducible refine J8 39 ?_;go_must (refine Aa5 rfl _ (.tmp 39) (.const (.int .u8 191)) rfl hd4.blk (.int _ _) rfl rfl (by simp) (by exact Cp1) rfl ?_);intro w5 hd5 ho5;go_must (replace hd5:DecIn w5 d ⟨D.o+1,D.l - 1,D.b*64+x % 64,128,191⟩:=by simpa[DecIn] using hd5);have c5:=hd5.c1;have c6:=hd5.c2))
  go_ret
  rw[hE.out]
  exact⟨v,rfl,As0 (DecIn.num hd5 (by show D.b*64+x % 64=_;omega)) hown hap ((((ho1.trans ho2).trans ho3).trans ho4).trans ho5)⟩
 ·have hE:Hid (Bi7 D x=(zero,[D.b*64+(x - 128)])):=by show _=_;unfold Bi7;rw[if_neg hl]
  have hx:Hid (x % 64=x - 128):=by show _=_;omega
  go_enter Tryz.func108,Tryz.ntmps108
  go_wp2_with (first
   |(with_reducible refine J8 14 ?_;go_must (refine Aa5 rfl _ (.tmp 14) (.tmp 12) rfl hd.blk (.int _ _) rfl rfl (by simp) (by exact Cp0) rfl ?_);intro w1 hd1 ho1;go_must (replace hd1:DecIn w1 d ⟨D.o+1,D.l,D.b,D.lo,D.hi⟩:=by simpa[DecIn] using hd1);clear c0;have c1:=hd1.c1)
   |(with_reducible refine J8 21 ?_;go_must (refine Aa5 rfl _ (.tmp 21) (.tmp 19) rfl hd1.blk (.int _ _) rfl rfl (by simp) (by exact Cp0) rfl ?_);intro w2 hd2 ho2;go_must (replace hd2:DecIn w2 d ⟨D.o+1,D.l - 1,D.b,D.lo,D.hi⟩:=by simpa[DecIn] using hd2);clear c1;have c2:=hd2.c2)
   |(with_reducible refine J8 33 ?_;go_must (refine Aa5 rfl _ (.tmp 33) (.tmp 31) rfl hd2.blk (.int _ _) rfl rfl (by simp) (by exact Cv1) rfl ?_);intro w3 hd3 ho3;go_must (replace hd3:DecIn w3 d ⟨D.o+1,D.l - 1,D.b*64+x % 64,D.lo,D.hi⟩:=by simpa[DecIn] using hd3);clear c2)
   |(with_reducible refine J8 37 ?_;go_must (refine Aa5 rfl _ (.tmp 37) (.const (.int .u8 128)) rfl hd3.blk (.int _ _) rfl rfl (by simp) (by exact Cp1) rfl ?_);intro w4 hd4 ho4;go_must (replace hd4:DecIn w4 d ⟨D.o+1,D.l - 1,D.b*64+x % 64,128,D.hi⟩:=by simpa[DecIn] using hd4))
   |(with_reducible refine J8 39 ?_;go_must (refine Aa5 rfl _ (.tmp 39) (.const (.int .u8 191)) rfl hd4.blk (.int _ _) rfl rfl (by simp) (by exact Cp1) rfl ?_);intro w5 hd5 ho5;go_must (replace hd5:DecIn w5 d ⟨D.o+1,D.l - 1,D.b*64+x % 64,128,191⟩:=by simpa[DecIn] using hd5);have c5:=hd5.c1;have c6:=hd5.c2)
   |(with_reducible refine J8 52 ?_;go_must (refine Aa3 rfl _ (.tmp 52) (.tmp 51) rfl hd5.blk _ rfl rfl (by simpa using Cn0) (by simp) (by simp[Value.oneCell']) ?_);intro w6 hd6 ho6;clear c5 c6)
   |(at_builtin;refine Ai7 Bw0 rfl _ _ rfl B v out [_] _ (w6.heap.size+1) 1 rfl rfl ((hown.only (((((ho1.trans ho2).trans ho3).trans ho4).trans ho5).trans ho6) (Bd9 hap)).alloc _) (Nums.one _ _ _ _) ?_ ?_ ?_ ?_;(have:=(((((ho1.trans ho2).trans ho3).trans ho4).trans ho5).trans ho6).size;simp;omega);(simp;omega);(simp[maxLen];omega);intro v' w7 hown1 ho7 hat1))
  go_ret
  rw[hE.out]
  rw[hx.out] at hown1
  exact⟨v',rfl,Ao7 (D:=zero) hd6 hap (((((ho1.trans ho2).trans ho3).trans ho4).trans ho5).trans ho6) hown1 ho7 hat1⟩
