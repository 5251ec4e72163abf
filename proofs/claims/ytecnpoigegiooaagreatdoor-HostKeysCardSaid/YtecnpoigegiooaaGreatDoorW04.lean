/- Part 4 of HostKeys. -/
import Derived.Test.YtecnpoigegiooaaGreatDoorW03
import Derived.Deep.Cut
import Derived.Deep.CutRange
import Derived.Deep.CutBlock
import Derived.Laws.CopyOwn
set_option maxHeartbeats 16000000
set_option maxRecDepth 100000
namespace Go.Proofs.YtecnpoigegiooaaGreatDoor.Prs
open Tryz
open Go RowKit Com Par
theorem Cef(S:PS)(hS:S.Ok)(v:Value)(r:Int)(h0:32<=r)(h1:r<127)(B d:Nat)(w:World)(hd:C9 w B d v S)(hB:B<=w.heap.size) :
  Calls prog 59 #[.pointer (some ⟨d,0,none⟩),.int .i32 r] w (Fed w B d v (I0 S r)):=by
 have hr:=Cpd h0 h1
 obtain⟨s0,s1⟩:=hS.st
 rcases(by omega:S.st=0\/S.st=1\/S.st=2\/S.st=3\/S.st=4\/S.st=5\/S.st=6\/S.st=7\/S.st=8\/S.st=9\/S.st=10\/S.st=11\/S.st=12\/S.st=13)with e|e|e|e|e|e|e|e|e|e|e|e|e|e
 ·rw[show I0 S r=Ank S r by unfold I0;rw[if_pos e]]
  exact Bur S v r hr B d w hd _ (e▸Cmi) (fun w1 _ h=>Bfp S v r B d w1 h)
 ·rw[show I0 S r=Y5 S r by simp[I0,e]]
  exact Buq S v r hr B d w hd _ (e▸Cmj) (fun w1 _ h=>Bxh S hS v r B d w1 h)
 ·rw[show I0 S r=Aem S r by simp[I0,e]]
  exact Brw S v r hr B d w hd _ (e▸Cmk) (fun w1 _ h=>Bff S hS v r B d w1 h)
 ·rw[show I0 S r=Afz S r by simp[I0,e]]
  exact Bgc S v r hr B d w hd _ (e▸Cml) (fun w1 _ h=>Bhq S hS v r B d w1 h)
 ·rw[show I0 S r=Aav S r by simp[I0,e]]
  exact Bge S v r hr B d w hd _ (e▸Cmm) (fun w1 _ h=>Aum S hS v r B d w1 h)
 ·rw[show I0 S r=Aau S r by simp[I0,e]]
  exact Bgd S v r hr B d w hd _ (e▸Cmn) (fun w1 _ h=>Auf S hS v r B d w1 h)
 ·rw[show I0 S r=Akx S r by simp[I0,e]]
  exact Bse S v r hr B d w hd _ (e▸Cmo) (fun w1 _ h=>Bwo S hS v r B d w1 h)
 ·rw[show I0 S r=Afz S r by simp[I0,e]]
  exact Bgc S v r hr B d w hd _ (e▸Cmp) (fun w1 _ h=>Bhq S hS v r B d w1 h)
 ·rw[show I0 S r=Aav S r by simp[I0,e]]
  exact Bge S v r hr B d w hd _ (e▸Cmq) (fun w1 _ h=>Aum S hS v r B d w1 h)
 ·rw[show I0 S r=Aau S r by simp[I0,e]]
  exact Bgd S v r hr B d w hd _ (e▸Cmr) (fun w1 _ h=>Auf S hS v r B d w1 h)
 ·rw[show I0 S r=([],S)by simp[I0,e]]
  exact Ayh S v r hr B d w hd _ (e▸Chz) (fun w1 _ h=>Ayq S v r B d w1 h)
 ·rw[show I0 S r=([],S)by simp[I0,e]]
  exact Ayh S v r hr B d w hd _ (e▸Cia) (fun w1 _ h=>Ayq S v r B d w1 h)
 ·rw[show I0 S r=Ach S r by simp[I0,e]]
  exact Ceg S v r hr B d w hd _ (e▸Cib) (fun w1 hs h=>Bmk S hS v r B d w1 h (Nat.le_trans hB hs))
 ·rw[show I0 S r=([],S)by simp[I0,e]]
  exact Ayh S v r hr B d w hd _ (e▸Cic) (fun w1 _ h=>Ayq S v r B d w1 h)
theorem Bsm{S:PS}{r:Int}(h0:¬(r=24\/r=26))(h1:¬r=27)(h:r<32):V9 S r=Adq S r:=by unfold V9;rw[if_neg h0,if_neg h1,if_pos h]
theorem Caf{S:PS}{r:Int}(h0:32<=r)(h:r<127):V9 S r=I0 S r:=by unfold V9;rw[if_neg (by omega),if_neg (by omega),if_neg (by omega),if_pos h]
theorem Bup{S:PS}{r:Int}(h0:127<r)(h:r<160):V9 S r=X6 S r:=by unfold V9;rw[if_neg (by omega),if_neg (by omega),if_neg (by omega),if_neg (by omega),if_neg (by omega),if_pos h]
theorem Ayg{S:PS}{r:Int}(h0:160<=r):V9 S r=Adv S r:=by unfold V9;rw[if_neg (by omega),if_neg (by omega),if_neg (by omega),if_neg (by omega),if_neg (by omega),if_neg (by omega)]
theorem Cjr(S:PS)(hS:S.Ok)(v:Value)(r:Int)(ra:¬r<0)(rb:¬1114111<r)(B d:Nat)(w:World)(hd:C9 w B d v S)(hB:B<=w.heap.size) :
  Calls prog 59 #[.pointer (some ⟨d,0,none⟩),.int .i32 r] w (Fed w B d v (V9 S r)):=by
 have hL:=hS.sq.num.len
 by_cases Y4:32<=r/\r<127
 ·rw[Caf Y4.1 Y4.2]
  exact Cef S hS v r Y4.1 Y4.2 B d w hd hB
 have hd':=J0 hd
 clear hd
 by_cases h24:r=24\/r=26
 ·have hE:Hid (V9 S r=Akt S r):=by show _=_;unfold V9;rw[if_pos h24]
  clear ra rb Y4
  rcases h24 with rfl|rfl
  all_goals
   go_enter func59,ntmps59
   go_wp2_with fail
   (refine(Bfg S v hL _ B d w hd'.out).mono ?_;rintro e w9 ⟨x,u,rfl,hf⟩;obtain⟨ax,nx,cx,rfl⟩:=hf.shape;replace hf:=J0 hf;go_wp2_with fail;go_ret;rw[hE.out];exact⟨_,u,rfl,hf.out.after (A0.refl _ _)⟩)
 by_cases h27:r=27
 ·have hE:Hid (V9 S r=E4 S 1):=by show _=_;unfold V9;rw[if_neg h24,if_pos h27]
  subst h27
  clear ra rb Y4 h24
  go_enter func59,ntmps59
  go_wp2_with fail
  (refine(U8 S v hL 1 B d w hd'.out).mono ?_;rintro e w9 ⟨x,u,rfl,hf⟩;obtain⟨ax,nx,cx,rfl⟩:=hf.shape;replace hf:=J0 hf;go_wp2_with fail;go_ret;rw[hE.out];exact⟨_,u,rfl,hf.out.after (A0.refl _ _)⟩)
 have q24:(r==24)=false:=by simp;omega
 have q26:(r==26)=false:=by simp;omega
 have q27:(r==27)=false:=by simpa using h27
 by_cases h32:r<32
 ·have hE:=J0 (Bsm (S:=S) h24 h27 h32)
  clear h24 h27 Y4
  go_enter func59,ntmps59
  go_wp2_with fail
  (refine(Ape S hS v r B d w hd'.out).mono ?_;rintro e w9 ⟨x,u,rfl,hf⟩;obtain⟨ax,nx,cx,rfl⟩:=hf.shape;replace hf:=J0 hf;go_wp2_with fail;go_ret;rw[hE.out];exact⟨_,u,rfl,hf.out.after (A0.refl _ _)⟩)
 by_cases Asc:r=127
 ·have hE:Hid (V9 S r=([],S)):=by show _=_;subst Asc;rfl
  subst Asc
  clear ra rb Y4 h24 h27 q24 q26 q27 h32
  go_enter func59,ntmps59
  go_wp2_with fail
  go_ret
  rw[hE.out]
  exact Aku hd'.out
 have q127:(r==127)=false:=by simpa using Asc
 have h126:¬r<127:=by omega
 by_cases Ctg:r<160
 ·have hE:=J0 (Bup (S:=S) (r:=r) (by omega) Ctg)
  clear h24 h27 Y4 Asc
  go_enter func59,ntmps59
  go_wp2_with fail
  (refine(Cda S hS v r B d w hd'.out).mono ?_;rintro e w9 ⟨x,u,rfl,hf⟩;obtain⟨ax,nx,cx,rfl⟩:=hf.shape;replace hf:=J0 hf;go_wp2_with fail;go_ret;rw[hE.out];exact⟨_,u,rfl,hf.out.after (A0.refl _ _)⟩)
 ·have hE:=J0 (Ayg (S:=S) (r:=r) (by omega))
  clear h24 h27 Y4 Asc
  go_enter func59,ntmps59
  go_wp2_with fail
  (refine(Ayx S hS v r B d w hd'.out hB).mono ?_;rintro e w9 ⟨x,u,rfl,hf⟩;obtain⟨ax,nx,cx,rfl⟩:=hf.shape;replace hf:=J0 hf;go_wp2_with fail;go_ret;rw[hE.out];exact⟨_,u,rfl,hf.out.after (A0.refl _ _)⟩)
theorem Ahj(S:PS)(hS:S.Ok)(v:Value)(r:Int)(B d:Nat)(w:World)(hd:C9 w B d v S)(hB:B<=w.heap.size) :
  Calls prog 59 #[.pointer (some ⟨d,0,none⟩),.int .i32 r] w (Fed w B d v (Q5 S r)):=by
 by_cases ra:r<0
 ·have hE:Hid (Q5 S r=Adv S 65533):=by show _=_;unfold Q5 Alq;rw[if_pos (Or.inl ra)];exact Ayg (by omega)
  have hd':=J0 hd
  clear hd
  go_enter func59,ntmps59
  go_wp2_with fail
  (refine(Ayx S hS v 65533 B d w hd'.out hB).mono ?_;rintro e w9 ⟨x,u,rfl,hf⟩;obtain⟨ax,nx,cx,rfl⟩:=hf.shape;replace hf:=J0 hf;go_wp2_with fail;go_ret;rw[hE.out];exact⟨_,u,rfl,hf.out.after (A0.refl _ _)⟩)
 by_cases rb:1114111<r
 ·have hE:Hid (Q5 S r=Adv S 65533):=by show _=_;unfold Q5 Alq;rw[if_pos (Or.inr rb)];exact Ayg (by omega)
  have hd':=J0 hd
  clear hd
  go_enter func59,ntmps59
  go_wp2_with fail
  (refine(Ayx S hS v 65533 B d w hd'.out hB).mono ?_;rintro e w9 ⟨x,u,rfl,hf⟩;obtain⟨ax,nx,cx,rfl⟩:=hf.shape;replace hf:=J0 hf;go_wp2_with fail;go_ret;rw[hE.out];exact⟨_,u,rfl,hf.out.after (A0.refl _ _)⟩)
 ·rw[show Q5 S r=V9 S r by unfold Q5 Alq;rw[if_neg (by omega)]]
  exact Cjr S hS v r ra rb B d w hd hB
theorem Bbp(w:World):Calls prog 20 #[] w fun e w'=>e=.returned (.pointer (some ⟨w.heap.size,0,none⟩))/\w'=w.alloc (.cells (F7 start (.slice none 0 0)).toArray 115):=by
 go_enter func20,ntmps20
 go_wp2
 go_ret
 exact⟨rfl,rfl⟩
end Go.Proofs.YtecnpoigegiooaaGreatDoor.Prs
namespace Go.Proofs.YtecnpoigegiooaaGreatDoor.Utf
open Tryz
def R8(a:Int):Nat:=if a<=127 then 1 else if 194<=a/\a<=223 then 2 else if 224<=a/\a<=239 then 3 else if 240<=a/\a<=244 then 4 else 0
def loF(a:Int):Int:=if a=224 then 160 else if a=240 then 144 else 128
def hiF(a:Int):Int:=if a=237 then 159 else if a=244 then 143 else 191
def E4(s:Nat):Int:=if s=2 then 192 else if s=3 then 224 else if s=4 then 240 else 0
structure Dec where
 o:Int
 l:Int
 b:Int
 lo:Int
 hi:Int
deriving DecidableEq
def zero:Dec:=⟨0,0,0,0,0⟩
def Abp(D:Dec)(a:Int):Dec×List Int :=
 if a<128 then(D,[a])else if R8 a=0 then(D,[65533])else(⟨1,R8 a-1,a-E4 (R8 a),loF a,hiF a⟩,[])
def Age(D:Dec)(x:Int):Dec×List Int :=
 if 0<D.l-1 then(⟨D.o+1,D.l-1,D.b*64+(x-128),128,191⟩,[])else(zero,[D.b*64+(x-128)])
def Q0(D:Dec):Dec×List Int:=if D.o=0 then(D,[])else(zero,[65533])
def M8(D:Dec)(x:Int):Dec×List Int :=
 if 0<D.o/\D.lo<=x/\x<=D.hi then Age D x else((Abp (Q0 D).1 x).1,(Q0 D).2++(Abp (Q0 D).1 x).2)
def S5:Dec->List Int->Dec×List Int
 |D,[]=>(D,[])
 |D,x::t=>((S5 (M8 D x).1 t).1,(M8 D x).2++(S5 (M8 D x).1 t).2)
def Aer(x:Int):Prop:=0<=x/\x<=255
def Bytes(l:List Int):Prop:=∀x∈l,Aer x
structure Dec.Ok(D:Dec):Prop where
 o0:0<=D.o
 o3:D.o<=3
 none_:D.o=0->D=zero
 l1:0<D.o->1<=D.l
 l3:D.o+D.l<=4
 b0:0<=D.b
 b1:D.o<=1->D.b<32
 b2:D.o<=2->D.b<2048
 b3:D.b<131072
 lo:0<D.o->128<=D.lo
 hi:0<D.o->D.hi<=191
 u8:0<=D.lo/\D.lo<=191/\0<=D.hi/\D.hi<=191
 l0:0<=D.l
theorem Avx:zero.Ok:=by constructor<;>simp[zero]
theorem Chv(a:Int):R8 a<=4:=by unfold R8;split<;>(try split)<;>(try split)<;>(try split)<;>omega
theorem Ayu(a:Int):(a<=127/\R8 a=1)\/(194<=a/\a<=223/\R8 a=2)\/(224<=a/\a<=239/\R8 a=3)\/(240<=a/\a<=244/\R8 a=4)\/(128<=a/\(a<194\/244<a)/\R8 a=0):=by
 unfold R8
 by_cases h1:a<=127
 ·exact .inl ⟨h1,if_pos h1⟩
 ·rw[if_neg h1]
  by_cases h2:194<=a/\a<=223
  ·exact .inr (.inl ⟨h2.1,h2.2,if_pos h2⟩)
  ·rw[if_neg h2]
   by_cases h3:224<=a/\a<=239
   ·exact .inr (.inr (.inl ⟨h3.1,h3.2,if_pos h3⟩))
   ·rw[if_neg h3]
    by_cases h4:240<=a/\a<=244
    ·exact .inr (.inr (.inr (.inl ⟨h4.1,h4.2,if_pos h4⟩)))
    ·rw[if_neg h4]
     exact .inr (.inr (.inr (.inr ⟨by omega,by omega,rfl⟩)))
theorem Cpb(a:Int):128<=loF a/\loF a<=160:=by unfold loF;split<;>(try split)<;>omega
theorem Coq(a:Int):143<=hiF a/\hiF a<=191:=by unfold hiF;split<;>(try split)<;>omega
theorem Cfu(a:Int)(h:2<=R8 a):0<=a-E4 (R8 a)/\a-E4 (R8 a)<32:=by
 rcases Ayu a with⟨_,e⟩|⟨h1,h2,e⟩|⟨h1,h2,e⟩|⟨h1,h2,e⟩|⟨h1,h2,e⟩<;>rw[e]at h |-<;>simp[E4]<;>omega
theorem Bcg{D:Dec}(h:D.Ok):(Q0 D).1=zero:=by
 unfold Q0
 by_cases e:D.o=0
 ·rw[if_pos e];exact h.none_ e
 ·rw[if_neg e]
theorem Cdl{a:Int}(_ha:Aer a):(Abp zero a).1.Ok:=by
 unfold Abp
 by_cases h1:a<128
 ·rw[if_pos h1];exact Avx
 ·rw[if_neg h1]
  by_cases h2:R8 a=0
  ·rw[if_pos h2];exact Avx
  ·rw[if_neg h2]
   have hs:2<=R8 a:=by rcases Ayu a with⟨_,e⟩|⟨_,_,e⟩|⟨_,_,e⟩|⟨_,_,e⟩|⟨_,_,e⟩<;>omega
   have h4:=Chv a
   have hl:=Cpb a
   have hh:=Coq a
   have hd:=Cfu a hs
   constructor<;>simp<;>omega
theorem Ckd{D:Dec}{x:Int}(h:D.Ok)(ho:0<D.o)(hlo:D.lo<=x)(hhi:x<=D.hi):(Age D x).1.Ok:=by
 have h1:=h.lo ho
 have h2:=h.hi ho
 have h3:=h.l3
 have hb:=h.b0
 have hb1:=h.b1
 have hb2:=h.b2
 unfold Age
 by_cases hl:0<D.l-1
 ·rw[if_pos hl]
  constructor<;>simp<;>omega
 ·rw[if_neg hl];exact Avx
theorem Bni{D:Dec}{x:Int}(h:D.Ok)(hx:Aer x):(M8 D x).1.Ok:=by
 unfold M8
 by_cases c:0<D.o/\D.lo<=x/\x<=D.hi
 ·rw[if_pos c];exact Ckd h c.1 c.2.1 c.2.2
 ·rw[if_neg c]
  show(Abp (Q0 D).1 x).1.Ok
  rw[Bcg h];exact Cdl hx
theorem Bli(D:Dec):(Q0 D).2.length<=1:=by unfold Q0;split<;>simp
theorem Azp(D:Dec)(a:Int):(Abp D a).2.length<=1:=by unfold Abp;split<;>(try split)<;>simp
theorem take_len(D:Dec)(x:Int):(M8 D x).2.length<=2:=by
 unfold M8
 split
 ·unfold Age;split<;>simp
 ·have h1:=Bli D
  have h2:=Azp (Q0 D).1 x
  simp;omega
def Bqi(l:List Int)(i:Nat):Prop :=
 i=0\/(i=1/\loF (l.getD 0 0)<=l.getD 1 0/\l.getD 1 0<=hiF (l.getD 0 0))\/(2<=i/\128<=l.getD i 0/\l.getD i 0<=191)
instance (l:List Int) (i:Nat):Decidable (Bqi l i):=by unfold Bqi;infer_instance
end Go.Proofs.YtecnpoigegiooaaGreatDoor.Utf
namespace Go.Proofs.YtecnpoigegiooaaGreatDoor.Utf
open Tryz
open Go RowKit Com
theorem Cuv{a b c x y z:Int}{k l m:IntKind}(h1:a=x)(h2:b=y)(h3:c=z):Ending.returned (.tuple #[.int k a,.int l b,.int m c])=.returned (.tuple #[.int k x,.int l y,.int m z]):=by rw[h1,h2,h3]
def Q7(b:Int):Int:=if R8 b=0 then 0 else R8 b-1
theorem Buv{b:Int}(h:128<=b)(h2:b<=255) :
  (b<194/\Q7 b=0/\loF b=128/\hiF b=191)\/(194<=b/\b<=223/\Q7 b=1/\loF b=128/\hiF b=191)\/(b=224/\Q7 b=2/\loF b=160/\hiF b=191)\/(225<=b/\b<=236/\Q7 b=2/\loF b=128/\hiF b=191) \/
  (b=237/\Q7 b=2/\loF b=128/\hiF b=159)\/(b=238/\Q7 b=2/\loF b=128/\hiF b=191)\/(b=239/\Q7 b=2/\loF b=128/\hiF b=191) \/
  (b=240/\Q7 b=3/\loF b=144/\hiF b=191)\/(241<=b/\b<=243/\Q7 b=3/\loF b=128/\hiF b=191)\/(b=244/\Q7 b=3/\loF b=128/\hiF b=143)\/(245<=b/\Q7 b=0/\loF b=128/\hiF b=191):=by
 have F2:∀n:Fin 256,128<=(n.val:Int) ->
  ((n.val:Int)<194/\Q7 n.val=0/\loF n.val=128/\hiF n.val=191)\/(194<=(n.val:Int)/\(n.val:Int)<=223/\Q7 n.val=1/\loF n.val=128/\hiF n.val=191)\/((n.val:Int)=224/\Q7 n.val=2/\loF n.val=160/\hiF n.val=191)\/(225<=(n.val:Int)/\(n.val:Int)<=236/\Q7 n.val=2/\loF n.val=128/\hiF n.val=191) \/
  ((n.val:Int)=237/\Q7 n.val=2/\loF n.val=128/\hiF n.val=159)\/((n.val:Int)=238/\Q7 n.val=2/\loF n.val=128/\hiF n.val=191)\/((n.val:Int)=239/\Q7 n.val=2/\loF n.val=128/\hiF n.val=191) \/
  ((n.val:Int)=240/\Q7 n.val=3/\loF n.val=144/\hiF n.val=191)\/(241<=(n.val:Int)/\(n.val:Int)<=243/\Q7 n.val=3/\loF n.val=128/\hiF n.val=191)\/((n.val:Int)=244/\Q7 n.val=3/\loF n.val=128/\hiF n.val=143)\/(245<=(n.val:Int)/\Q7 n.val=0/\loF n.val=128/\hiF n.val=191):=by decide +kernel
 have e:((⟨b.toNat,by omega⟩:Fin 256).val:Int)=b:=by simp;omega
 have hh:=F2 ⟨b.toNat,by omega⟩
 rw[e]at hh
 exact hh h
theorem Att(b:Int)(h:128<=b)(h2:b<=255)(w:World):Calls prog 151 #[.int .u8 b] w fun e w'=>e=.returned (.tuple #[.int .i64 (Q7 b),.int .u8 (loF b),.int .u8 (hiF b)])/\w=w':=by
 rcases Buv h h2 with⟨c,e1,e2,e3⟩|⟨c,d,e1,e2,e3⟩|⟨rfl,e1,e2,e3⟩|⟨c,d,e1,e2,e3⟩|⟨rfl,e1,e2,e3⟩|⟨rfl,e1,e2,e3⟩|⟨rfl,e1,e2,e3⟩|⟨rfl,e1,e2,e3⟩|⟨c,d,e1,e2,e3⟩|⟨rfl,e1,e2,e3⟩|⟨c,e1,e2,e3⟩
 all_goals
  replace e1:=J0 e1
  replace e2:=J0 e2
  replace e3:=J0 e3
  go_enter func151,ntmps151
  go_wp2
  go_ret3
  exact⟨Cuv e1.out.symm e2.out.symm e3.out.symm,rfl⟩
theorem Alm:Z4 prog 26 21 .i32 4:=by
 have h:(prog.info? 21).map (fun i=>(i.zero,i.size,i.bytes))=some (some (.int .i32 0),1,4):=by kernel_rfl
 obtain⟨i,h0,h1,h2,h3⟩:=info_parts h
 exact⟨underlying26,i,h0,h1,h2,h3⟩
def F1(w:World)(d:Nat)(D:Dec):Prop:=Block w d 107 #[.int .i64 D.o,.int .i64 D.l,.int .i32 D.b,.int .u8 D.lo,.int .u8 D.hi]
theorem F1.blk{w:World}{d:Nat}{D:Dec}(h:F1 w d D):Block w d 107 #[.int .i64 D.o,.int .i64 D.l,.int .i32 D.b,.int .u8 D.lo,.int .u8 D.hi]:=h
theorem F1.c0{w:World}{d:Nat}{D:Dec}(h:F1 w d D):w.cell? ⟨d,0,none⟩=some (.int .i64 D.o):=Block.cell h 0 rfl
theorem F1.c1{w:World}{d:Nat}{D:Dec}(h:F1 w d D):w.cell? ⟨d,1,none⟩=some (.int .i64 D.l):=Block.cell h 1 rfl
theorem F1.c2{w:World}{d:Nat}{D:Dec}(h:F1 w d D):w.cell? ⟨d,2,none⟩=some (.int .i32 D.b):=Block.cell h 2 rfl
theorem F1.c3{w:World}{d:Nat}{D:Dec}(h:F1 w d D):w.cell? ⟨d,3,none⟩=some (.int .u8 D.lo):=Block.cell h 3 rfl
theorem F1.c4{w:World}{d:Nat}{D:Dec}(h:F1 w d D):w.cell? ⟨d,4,none⟩=some (.int .u8 D.hi):=Block.cell h 4 rfl
theorem Arr:(prog.info? 107).map (·.size)=some 5:=by kernel_rfl
theorem Axc:(prog.info? 3).map (·.size)=some 1:=by kernel_rfl
theorem Bqe:(prog.info? 21).map (·.size)=some 1:=by kernel_rfl
theorem Axd:(prog.info? 5).map (·.size)=some 1:=by kernel_rfl
structure Told(w:World)(B d:Nat)(v:Value)(out:List Int)(R:Dec×List Int)(v':Value)(w':World):Prop where
 dec:F1 w' d R.1
 own:Own w' B 21 .i32 v' (out++R.2)
 only:A0 (d::v.ownBlock.toList) w w'
 Akj:∀g,v'.ownBlock=some g->v.ownBlock=some g\/w.heap.size<=g
def Awq(w:World)(B d:Nat)(v:Value)(out:List Int)(R:Dec×List Int)(e:Ending)(w':World):Prop:=∃v',e=.returned v'/\Told w B d v out R v' w'
theorem Azo{v:Value}{d:Nat}(h:v.ownBlock≠some d):∀g,v.ownBlock=some g->g∉[d]:=fun g hg hm=>h (by rw[hg];simp at hm;rw[hm])
theorem Avf{w w1 w2:World}{B d:Nat}{v v':Value}{out m:List Int}{D:Dec}{o:Obj}(hd:F1 w1 d D)(hap:v.ownBlock≠some d)(ho1:A0 [d] w w1)
  (L4:Own w2 B 21 .i32 v' (out++m)) (ho2:A0 v.ownBlock.toList (w1.alloc o) w2) (hat:v'.ownBlock=v.ownBlock\/v'.ownBlock=some (w1.alloc o).heap.size):Told w B d v out (D,m) v' w2:=by
 have hs:=ho1.size
 refine⟨(hd.alloc o).only ho2 (fun hm=>hap (by simpa using hm)),L4,?_,fun g hg=>?_⟩
 ·exact(ho1.mono (by simp)).trans ((A0.alloc _ w1 o).trans (ho2.mono (fun k hk=>List.mem_cons_of_mem _ hk)))
 ·rcases hat with e|e
  ·left;rw[<- e];exact hg
  ·right
   rw[e]at hg
   simp at hg
   omega
theorem F1.num{w:World}{d:Nat}{a b c e f c':Int}(h:Block w d 107 #[.int .i64 a,.int .i64 b,.int .i32 c,.int .u8 e,.int .u8 f])(hc:c=c'):F1 w d ⟨a,b,c',e,f⟩:=by subst hc;exact h
theorem Aua{w w1:World}{B d:Nat}{v:Value}{out:List Int}{D:Dec}(hd:F1 w1 d D)(C0:Own w B 21 .i32 v out)(hap:v.ownBlock≠some d)(ho1:A0 [d] w w1):Told w B d v out (D,[]) v w1 :=
 ⟨hd,by simpa using C0.only ho1 (Azo hap),ho1.mono (by simp),fun g hg=>.inl hg⟩
theorem Anh(D:Dec)(d:Nat)(v:Value)(out:List Int)(B:Nat)(w:World)(hB:B<=w.heap.size)(hd:F1 w d D)(C0:Own w B 21 .i32 v out)(hlen:out.length<=1048576) :
  Calls prog 110 #[.pointer (some ⟨d,0,none⟩),v] w (Awq w B d v out (Q0 D)):=by
 have c0:=hd.c0
 by_cases ho:D.o=0
 ·have hE:Hid (Q0 D=(D,[])):=by show _=_;unfold Q0;rw[if_pos ho]
  rw[ho]at c0
  clear ho
  go_enter func110,ntmps110
  go_wp2
  go_ret
  rw[hE.out]
  exact⟨v,rfl,hd,by simpa using C0,A0.refl _ _,fun g hg=>.inl hg⟩
 ·have hE:Hid (Q0 D=(zero,[65533])):=by show _=_;unfold Q0;rw[if_neg ho]
  have ho':(D.o==0)=false:=by simpa using ho
  clear ho
  have hap:=C0.apart hd (by decide)
  go_enter func110,ntmps110
  go_wp2_with (first
   |(with_reducible refine J8 13 ?_;go_must(refine L8 rfl _ (.tmp 13) (.tmp 12) rfl hd.blk _ rfl rfl (by simpa using Arr) (by simp) (by simp[Value.oneCell']) ?_);intro w1 hd1 ho1;clear c0)
   |(at_builtin;refine Akq Alm rfl _ _ rfl B v out [65533] _ (w1.heap.size+1) 1 rfl rfl ((C0.only ho1 (Azo hap)).alloc _) (A8.one _ _ _ _) ?_ ?_ ?_ ?_;(have:=ho1.size;simp;omega);(simp;omega);(simp[maxLen];omega);intro v' w2 Aah ho2 Ago))
  go_ret
  rw[hE.out]
  exact⟨v',rfl,Avf (D:=zero) hd1 hap ho1 Aah ho2 Ago⟩
theorem Bbg:∀n:Int,0<=n->n<=255->bits .and .i32 n 31=n % 32/\bits .and .i32 n 15=n % 16/\bits .and .i32 n 7=n % 8/\bits .and .u8 n 63=n % 64:=by
 have F2:∀m:Fin 256,bits .and .i32 m.val 31=m.val % 32/\bits .and .i32 m.val 15=m.val % 16/\bits .and .i32 m.val 7=m.val % 8/\bits .and .u8 m.val 63=m.val % 64:=by decide +kernel
 intro n h0 h1
 have e:((⟨n.toNat,by omega⟩:Fin 256).val:Int)=n:=by simp;omega
 have h:=F2 ⟨n.toNat,by omega⟩
 rw[e]at h
 exact h
theorem Ahb(b:Int)(hb0:0<=b)(hb1:b<=255)(d:Nat)(v:Value)(out:List Int)(B:Nat)(w:World)(hB:B<=w.heap.size)(hd:F1 w d zero)(C0:Own w B 21 .i32 v out)(hlen:out.length<=1048576) :
  Calls prog 109 #[.pointer (some ⟨d,0,none⟩),.int .u8 b,v] w (Awq w B d v out (Abp zero b)):=by
 have hap:=C0.apart hd (by decide)
 by_cases h1:b<128
 ·have hE:Hid (Abp zero b=(zero,[b])):=by show _=_;unfold Abp;rw[if_pos h1]
  go_enter func109,ntmps109
  go_wp2_with((at_builtin;refine Akq Alm rfl _ _ rfl B v out [b] _ (w.heap.size+1) 1 rfl rfl (C0.alloc _) (A8.one _ _ _ _) ?_ ?_ ?_ ?_;(simp;omega);(simp;omega);(simp[maxLen];omega);intro v' w2 Aah ho2 Ago))
  go_ret
  rw[hE.out]
  exact⟨v',rfl,Avf hd hap (A0.refl _ _) Aah ho2 Ago⟩
 ·have hge:128<=b:=by omega
  have hf:=Att b hge hb1 w
  rcases Ayu b with⟨c1,e⟩|⟨c1,c2,e⟩|⟨c1,c2,e⟩|⟨c1,c2,e⟩|⟨c1,c2,e⟩
  ·omega
  all_goals
   have hl:Q7 b=if R8 b=0 then 0 else(R8 b:Int)-1:=rfl
   have hE:Hid (Abp zero b=if R8 b=0 then(zero,[65533])else(⟨1,R8 b-1,b-E4 (R8 b),loF b,hiF b⟩,[])):=by show _=_;unfold Abp;rw[if_neg h1]
   rw[e]at hl hE
   simp[E4]at hl hE
   rw[hl]at hf
   replace hf:=J0 hf
   clear hl h1 e
  ·have hm:=J0 (Bbg b hb0 hb1).1
   go_enter func109,ntmps109
   go_wp2_with (first
    |(go_at_call 151;refine(hf.out).mono ?_;rintro e w' ⟨rfl,rfl⟩)
    |(with_reducible refine J8 42 ?_;go_must(refine L8 rfl _ (.tmp 42) (.tmp 41) rfl hd.blk _ rfl rfl (by simpa using Arr) (by simp) (by simp[Value.oneCell']) ?_);intro w1 hd1 ho1))
   go_ret
   rw[hE.out]
   exact⟨v,rfl,Aua (F1.num hd1 (by have:=hm.out;omega)) C0 hap ho1⟩
  ·have hm:=J0 (Bbg b hb0 hb1).2.1
   go_enter func109,ntmps109
   go_wp2_with (first
    |(go_at_call 151;refine(hf.out).mono ?_;rintro e w' ⟨rfl,rfl⟩)
    |(with_reducible refine J8 42 ?_;go_must(refine L8 rfl _ (.tmp 42) (.tmp 41) rfl hd.blk _ rfl rfl (by simpa using Arr) (by simp) (by simp[Value.oneCell']) ?_);intro w1 hd1 ho1))
   go_ret
   rw[hE.out]
   exact⟨v,rfl,Aua (F1.num hd1 (by have:=hm.out;omega)) C0 hap ho1⟩
  ·have hm:=J0 (Bbg b hb0 hb1).2.2.1
   go_enter func109,ntmps109
   go_wp2_with (first
    |(go_at_call 151;refine(hf.out).mono ?_;rintro e w' ⟨rfl,rfl⟩)
    |(with_reducible refine J8 42 ?_;go_must(refine L8 rfl _ (.tmp 42) (.tmp 41) rfl hd.blk _ rfl rfl (by simpa using Arr) (by simp) (by simp[Value.oneCell']) ?_);intro w1 hd1 ho1))
   go_ret
   rw[hE.out]
   exact⟨v,rfl,Aua (F1.num hd1 (by have:=hm.out;omega)) C0 hap ho1⟩
  ·go_enter func109,ntmps109
   go_wp2_with (first
    |(go_at_call 151;refine(hf.out).mono ?_;rintro e w' ⟨rfl,rfl⟩)
    |(at_builtin;refine Akq Alm rfl _ _ rfl B v out [65533] _ (w.heap.size+1) 1 rfl rfl (C0.alloc _) (A8.one _ _ _ _) ?_ ?_ ?_ ?_;(simp;omega);(simp;omega);(simp[maxLen];omega);intro v' w2 Aah ho2 Ago))
   go_ret
   rw[hE.out]
   exact⟨v',rfl,Avf hd hap (A0.refl _ _) Aah ho2 Ago⟩
theorem Cew(D:Dec)(hD:D.Ok)(x:Int)(ho:0<D.o)(hlo:D.lo<=x)(hhi:x<=D.hi)(d:Nat)(v:Value)(out:List Int)(B:Nat)(w:World)(hB:B<=w.heap.size)(hd:F1 w d D)(C0:Own w B 21 .i32 v out)(hlen:out.length<=1048576) :
  Calls prog 108 #[.pointer (some ⟨d,0,none⟩),.int .u8 x,v] w (Awq w B d v out (Age D x)):=by
 have hap:=C0.apart hd (by decide)
 have c0:=hd.c0
 have o3:=hD.o3
 have l1:=hD.l1 ho
 have l3:=hD.l3
 have b0:=hD.b0
 have b3:=hD.b3
 have x0:=hD.lo ho
 have x1:=hD.hi ho
 have hx0:128<=x:=by omega
 have hx1:x<=191:=by omega
 clear x0 x1 hlo hhi hD
 by_cases hl:0<D.l-1
 ·have hE:Hid (Age D x=(⟨D.o+1,D.l-1,D.b*64+(x-128),128,191⟩,[])):=by show _=_;unfold Age;rw[if_pos hl]
  go_enter func108,ntmps108
  go_wp2_with (first
   |(with_reducible refine J8 14 ?_;go_must(refine N9 rfl _ (.tmp 14) (.tmp 12) rfl hd.blk (.int _ _) rfl rfl (by simp) (by exact Axc) rfl ?_);intro w1 hd1 ho1;go_must(replace hd1:F1 w1 d ⟨D.o+1,D.l,D.b,D.lo,D.hi⟩:=by simpa[F1]using hd1);clear c0;have c1:=hd1.c1)
   |(with_reducible refine J8 21 ?_;go_must(refine N9 rfl _ (.tmp 21) (.tmp 19) rfl hd1.blk (.int _ _) rfl rfl (by simp) (by exact Axc) rfl ?_);intro w2 hd2 ho2;go_must(replace hd2:F1 w2 d ⟨D.o+1,D.l-1,D.b,D.lo,D.hi⟩:=by simpa[F1]using hd2);clear c1;have c2:=hd2.c2)
   |(with_reducible refine J8 33 ?_;go_must(refine N9 rfl _ (.tmp 33) (.tmp 31) rfl hd2.blk (.int _ _) rfl rfl (by simp) (by exact Bqe) rfl ?_);intro w3 hd3 ho3;go_must(replace hd3:F1 w3 d ⟨D.o+1,D.l-1,D.b*64+x % 64,D.lo,D.hi⟩:=by simpa[F1]using hd3);clear c2)
   |(with_reducible refine J8 37 ?_;go_must(refine N9 rfl _ (.tmp 37) (.const (.int .u8 128)) rfl hd3.blk (.int _ _) rfl rfl (by simp) (by exact Axd) rfl ?_);intro w4 hd4 ho4;go_must(replace hd4:F1 w4 d ⟨D.o+1,D.l-1,D.b*64+x % 64,128,D.hi⟩:=by simpa[F1]using hd4))
   |(with_reducible refine J8 39 ?_;go_must(refine N9 rfl _ (.tmp 39) (.const (.int .u8 191)) rfl hd4.blk (.int _ _) rfl rfl (by simp) (by exact Axd) rfl ?_);intro w5 hd5 ho5;go_must(replace hd5:F1 w5 d ⟨D.o+1,D.l-1,D.b*64+x % 64,128,191⟩:=by simpa[F1]using hd5);have c5:=hd5.c1;have c6:=hd5.c2))
  go_ret
  rw[hE.out]
  exact⟨v,rfl,Aua (F1.num hd5 (by show D.b*64+x % 64=_;omega)) C0 hap ((((ho1.trans ho2).trans ho3).trans ho4).trans ho5)⟩
 ·have hE:Hid (Age D x=(zero,[D.b*64+(x-128)])):=by show _=_;unfold Age;rw[if_neg hl]
  have hx:Hid (x % 64=x-128):=by show _=_;omega
  go_enter func108,ntmps108
  go_wp2_with (first
   |(with_reducible refine J8 14 ?_;go_must(refine N9 rfl _ (.tmp 14) (.tmp 12) rfl hd.blk (.int _ _) rfl rfl (by simp) (by exact Axc) rfl ?_);intro w1 hd1 ho1;go_must(replace hd1:F1 w1 d ⟨D.o+1,D.l,D.b,D.lo,D.hi⟩:=by simpa[F1]using hd1);clear c0;have c1:=hd1.c1)
   |(with_reducible refine J8 21 ?_;go_must(refine N9 rfl _ (.tmp 21) (.tmp 19) rfl hd1.blk (.int _ _) rfl rfl (by simp) (by exact Axc) rfl ?_);intro w2 hd2 ho2;go_must(replace hd2:F1 w2 d ⟨D.o+1,D.l-1,D.b,D.lo,D.hi⟩:=by simpa[F1]using hd2);clear c1;have c2:=hd2.c2)
   |(with_reducible refine J8 33 ?_;go_must(refine N9 rfl _ (.tmp 33) (.tmp 31) rfl hd2.blk (.int _ _) rfl rfl (by simp) (by exact Bqe) rfl ?_);intro w3 hd3 ho3;go_must(replace hd3:F1 w3 d ⟨D.o+1,D.l-1,D.b*64+x % 64,D.lo,D.hi⟩:=by simpa[F1]using hd3);clear c2)
   |(with_reducible refine J8 37 ?_;go_must(refine N9 rfl _ (.tmp 37) (.const (.int .u8 128)) rfl hd3.blk (.int _ _) rfl rfl (by simp) (by exact Axd) rfl ?_);intro w4 hd4 ho4;go_must(replace hd4:F1 w4 d ⟨D.o+1,D.l-1,D.b*64+x % 64,128,D.hi⟩:=by simpa[F1]using hd4))
   |(with_reducible refine J8 39 ?_;go_must(refine N9 rfl _ (.tmp 39) (.const (.int .u8 191)) rfl hd4.blk (.int _ _) rfl rfl (by simp) (by exact Axd) rfl ?_);intro w5 hd5 ho5;go_must(replace hd5:F1 w5 d ⟨D.o+1,D.l-1,D.b*64+x % 64,128,191⟩:=by simpa[F1]using hd5);have c5:=hd5.c1;have c6:=hd5.c2)
   |(with_reducible refine J8 52 ?_;go_must(refine L8 rfl _ (.tmp 52) (.tmp 51) rfl hd5.blk _ rfl rfl (by simpa using Arr) (by simp) (by simp[Value.oneCell']) ?_);intro w6 hd6 ho6;clear c5 c6)
   |(at_builtin;refine Akq Alm rfl _ _ rfl B v out [_] _ (w6.heap.size+1) 1 rfl rfl ((C0.only (((((ho1.trans ho2).trans ho3).trans ho4).trans ho5).trans ho6) (Azo hap)).alloc _) (A8.one _ _ _ _) ?_ ?_ ?_ ?_;(have:=(((((ho1.trans ho2).trans ho3).trans ho4).trans ho5).trans ho6).size;simp;omega);(simp;omega);(simp[maxLen];omega);intro v' w7 Aah ho7 Ago))
  go_ret
  rw[hE.out]
  rw[hx.out]at Aah
  exact⟨v',rfl,Avf (D:=zero) hd6 hap (((((ho1.trans ho2).trans ho3).trans ho4).trans ho5).trans ho6) Aah ho7 Ago⟩
theorem Azk{w w1 w2:World}{B d:Nat}{v v1 v2:Value}{out:List Int}{R1 R2:Dec×List Int}(h1:Told w B d v out R1 v1 w1)(h2:Told w1 B d v1 (out++R1.2) R2 v2 w2):Told w B d v out (R2.1,R1.2++R2.2) v2 w2:=by
 have hs:=h1.only.size
 refine⟨h2.dec,by rw[<- List.append_assoc];exact h2.own,h1.only.then h2.only (fun k hk=>?_),fun g hg=>?_⟩
 ·rcases List.mem_cons.1 hk with rfl|hk
  ·exact .inl (List.mem_cons_self ..)
  ·rcases h1.Akj k (by simpa using hk)with e|e
   ·exact .inl (List.mem_cons_of_mem _ (by simpa using e))
   ·exact .inr e
 ·rcases h2.Akj g hg with e|e
  ·exact h1.Akj g e
  ·exact .inr (by omega)
theorem Bbd(D:Dec)(hD:D.Ok)(x:Int)(hx:Aer x)(d:Nat)(v:Value)(out:List Int)(B:Nat)(w:World)(hB:B<=w.heap.size)(hd:F1 w d D)(C0:Own w B 21 .i32 v out)(hlen:out.length<=1000000) :
  Calls prog 83 #[.pointer (some ⟨d,0,none⟩),.int .u8 x,v] w (Awq w B d v out (M8 D x)):=by
 obtain⟨hx0,hx1⟩:=hx
 have c0:=hd.c0
 have c3:=hd.c3
 have c4:=hd.c4
 have hne:¬(0<D.o/\D.lo<=x/\x<=D.hi)->Hid (M8 D x=((Abp zero x).1,(Q0 D).2++(Abp zero x).2)):=fun h=>by
  show _=_
  unfold M8
  rw[if_neg h,Bcg hD]
 have E3:=J0 (Anh D d v out B w hB hd C0 (by omega))
 have hz:=J0 (Bcg hD)
 have hel:=Bli D
 by_cases ho:0<D.o
 ·by_cases hlo:D.lo<=x
  ·by_cases hhi:x<=D.hi
   ·have hE:Hid (M8 D x=Age D x):=by show _=_;unfold M8;rw[if_pos ⟨ho,hlo,hhi⟩]
    have hgo:=J0 (Cew D hD x ho hlo hhi d v out B w hB hd C0 (by omega))
    clear hne E3 hz hel hD
    go_enter func83,ntmps83
    go_wp2_with((go_at_call 108;refine(hgo.out).mono ?_;rintro e w1 ⟨v',rfl,ht⟩))
    go_ret
    rw[hE.out]
    exact⟨v',rfl,ht⟩
   ·have hE:=hne (by omega)
    clear hne hD
    go_enter func83,ntmps83
    go_wp2_with (first
     |(go_at_call 110;refine(E3.out).mono ?_;rintro e w1 ⟨v1,rfl,ht1⟩;have hd1:=ht1.dec;rw[hz.out]at hd1;have hs1:=ht1.only.size)
     |(go_at_call 109;refine(Ahb x hx0 hx1 d v1 _ B w1 (by omega) hd1 ht1.own (by simp;omega)).mono ?_;rintro e w2 ⟨v2,rfl,ht2⟩))
    go_ret
    rw[hE.out]
    exact⟨v2,rfl,Azk ht1 ht2⟩
  ·have hE:=hne (by omega)
   clear hne hD
   go_enter func83,ntmps83
   go_wp2_with (first
    |(go_at_call 110;refine(E3.out).mono ?_;rintro e w1 ⟨v1,rfl,ht1⟩;have hd1:=ht1.dec;rw[hz.out]at hd1;have hs1:=ht1.only.size)
    |(go_at_call 109;refine(Ahb x hx0 hx1 d v1 _ B w1 (by omega) hd1 ht1.own (by simp;omega)).mono ?_;rintro e w2 ⟨v2,rfl,ht2⟩))
   go_ret
   rw[hE.out]
   exact⟨v2,rfl,Azk ht1 ht2⟩
 ·have hE:=hne (by omega)
  clear hne hD
  go_enter func83,ntmps83
  go_wp2_with (first
   |(go_at_call 110;refine(E3.out).mono ?_;rintro e w1 ⟨v1,rfl,ht1⟩;have hd1:=ht1.dec;rw[hz.out]at hd1;have hs1:=ht1.only.size)
   |(go_at_call 109;refine(Ahb x hx0 hx1 d v1 _ B w1 (by omega) hd1 ht1.own (by simp;omega)).mono ?_;rintro e w2 ⟨v2,rfl,ht2⟩))
  go_ret
  rw[hE.out]
  exact⟨v2,rfl,Azk ht1 ht2⟩
structure Fed(w:World)(d:Nat)(R:Dec×List Int)(v':Value)(w':World):Prop where
 dec:F1 w' d R.1
 own:Own w' w.heap.size 21 .i32 v' R.2
 only:A0 [d] w w'
def Cqq(w:World)(d:Nat)(R:Dec×List Int)(e:Ending)(w':World):Prop:=∃v',e=.returned v'/\Fed w d R v' w'
theorem Cok{w w':World}{d:Nat}{R:Dec×List Int}{v':Value}(h:Told w w.heap.size d (.slice none 0 0) [] R v' w'):Fed w d R v' w' :=
 ⟨h.dec,by simpa using h.own,by simpa[Value.ownBlock]using h.only⟩
theorem Ahj(D:Dec)(hD:D.Ok)(x:Int)(hx:Aer x)(d:Nat)(w:World)(hd:F1 w d D):Calls prog 58 #[.pointer (some ⟨d,0,none⟩),.int .u8 x] w (Cqq w d (M8 D x)):=by
 have ht:=J0 (Bbd D hD x hx d (.slice none 0 0) [] w.heap.size w (J5 _) hd (Own.nil _ _ _ _) (by simp))
 go_enter func58,ntmps58
 go_wp2_with((go_at_call 83;refine(ht.out).mono ?_;rintro e w1 ⟨v',rfl,ht1⟩))
 go_ret
 exact⟨v',rfl,Cok ht1⟩
theorem Bbp(w:World):Calls prog 19 #[] w fun e w'=>e=.returned (.pointer (some ⟨w.heap.size,0,none⟩))/\F1 w' w.heap.size zero/\A0 [] w w':=by
 go_enter func19,ntmps19
 go_wp2
 go_ret
 exact⟨rfl,Block.made _ _ _,A0.alloc _ _ _⟩
end Go.Proofs.YtecnpoigegiooaaGreatDoor.Utf
namespace Go.Proofs.YtecnpoigegiooaaGreatDoor.Lns
open Tryz
open Go
section
variable {α β:Type}
def lg(P:List α)(o:Nat):List α:=P.drop o++P.take o
theorem Brp(P:List α):lg P 0=P:=by simp[lg]
theorem Awi(P:List α)(o:Nat):(lg P o).length=P.length:=by simp[lg];omega
theorem Csa(P:List α){o i:Nat}(ho:o<P.length)(hi:i<P.length):(lg P o)[i]?=P[(o+i) % P.length]?:=by
 unfold lg
 by_cases h:o+i<P.length
 ·rw[List.getElem?_append_left (by simp;omega),List.getElem?_drop,Nat.mod_eq_of_lt h]
 ·rw[List.getElem?_append_right (by simp;omega),List.length_drop,List.getElem?_take,if_pos (by omega),Nat.mod_eq_sub_mod (by omega),Nat.mod_eq_of_lt (by omega)]
  congr 1
  omega
theorem Coz(P:List α){o:Nat}(ho:o<P.length)(x:α):lg (P.set o x) ((o+1) % P.length)=(lg P o++[x]).drop 1:=by
 unfold lg
 have hd:P.drop o=P[o]::P.drop (o+1):=List.drop_eq_getElem_cons ho
 have C4:P.set o x=P.take o++x::P.drop (o+1):=by rw[List.set_eq_take_append_cons_drop,if_pos ho]
 have hl:(P.take o).length=o:=by simp;omega
 by_cases h:o+1<P.length
 ·rw[Nat.mod_eq_of_lt h,C4,hd]
  simp only[List.cons_append,List.drop_succ_cons,List.drop_zero]
  rw[List.drop_append,List.drop_eq_nil_of_le (by omega),hl,show o+1-o=1 by omega,List.take_append,List.take_of_length_le (by omega),hl,show o+1-o=1 by omega]
  simp
 ·have h1:P.length=o+1:=by omega
  rw[show(o+1) % P.length=0 from by rw[h1];exact Nat.mod_self _,C4,hd,List.drop_eq_nil_of_le (show P.length<=o+1 by omega)]
  simp
def O2(most:Nat)(L:List α)(x:α):List α:=if most<L.length+1 then(L++[x]).drop 1 else L++[x]
theorem Bin{most:Nat}{L:List α}{x e:α}(h:e∈O2 most L x):e∈L\/e=x:=by
 unfold O2 at h
 split at h
 ·simpa using List.mem_of_mem_drop h
 ·simpa using h
theorem Cbs(f:α->β)(most:Nat)(L:List α)(x:α):(O2 most L x).map f=O2 most (L.map f) (f x):=by
 unfold O2
 rw[List.length_map]
 split<;>simp
end
