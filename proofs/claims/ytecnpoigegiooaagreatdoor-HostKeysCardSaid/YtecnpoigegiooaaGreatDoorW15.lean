/- Part 15 of HostKeys. -/
import Derived.Test.YtecnpoigegiooaaGreatDoorW08
import Derived.Laws.Bits64b
import Derived.Lib.TrailingZeros
import Derived.Laws.Bits128
set_option maxHeartbeats 16000000
set_option maxRecDepth 100000
namespace Go.Proofs.YtecnpoigegiooaaGreatDoor.Rw
open Tryz
open Go RowKit Com
def Aa4(c:Cel):Bool:=(c.r != 32)||((decide (0<c.m.length))||(c.wide != 0))
theorem Bxi(c:Cel)(w:World):Calls prog 225 #[.agg (B6 c).toArray] w fun e w'=>e=.returned (.bool (Aa4 c))/\Below w.heap.size w w':=by
 obtain⟨r,m,wd,⟨af,ab,ag⟩⟩:=c
 obtain⟨p0,p1,p2,p3,hp⟩:∃p0 p1 p2 p3,Adj m=[p0,p1,p2,p3]:=by
  have h4:=Amp m
  generalize Adj m=q at h4
  match q,h4 with
  |[a,b,c,d],_=>exact⟨a,b,c,d,rfl⟩
 have hC:(B6 ⟨r,m,wd,⟨af,ab,ag⟩⟩).toArray=#[.int .i32 r,.int .i32 p0,.int .i32 p1,.int .i32 p2,.int .i32 p3,.int .u8 m.length,.int .u8 wd,.int .u32 af,.int .u32 ab,.int .u16 ag]:=by simp[B6,hp,R9]
 rw[hC]
 obtain⟨b,hb⟩:∃b,b=Aa4 ⟨r,m,wd,⟨af,ab,ag⟩⟩:=⟨_,rfl⟩
 rw[<- hb]
 unfold Aa4 at hb
 simp only at hb
 generalize m.length=k at hb |-
 replace hb:=J0 hb
 clear hp hC
 go_enter func225,ntmps225
 go_wp2
 all_goals
  go_ret
  exact⟨G1 (by rw[hb.out,Bool.eq_iff_iff];simp<;>omega),A3 _ _⟩
def Bcb(w:World)(sp:Option Addr)(L:List Cel):Prop:=∀i (hi:i<L.length),∃g o,sp=some ⟨g,o,none⟩/\g<w.heap.size/\∀j v,(B6 L[i])[j]?=some v->w.cell? ⟨g,o+i*10+j,none⟩=some v
def Cip(w:World)(L:List Cel)(e:Ending)(w':World):Prop:=∃n:Int,e=.returned (.int .i64 n)/\(0<=n↔L.any Aa4=true)/\-1<=n/\Below w.heap.size w w'
theorem Cav(L:List Cel)(sp:Option Addr)(c:Nat)(hc:c<=maxLen)(hl:L.length<=c)(w:World)(h:Bcb w sp L) :
  Calls prog 267 #[.slice sp L.length c,.func (.func 225) #[] #[]] w (Cip w L):=by
 unfold maxLen at hc
 obtain⟨m,hm⟩:∃m,m=L.length:=⟨_,rfl⟩
 rw[<- hm]at hl |-
 replace hm:=J0 hm
 replace h:=J0 h
 go_enter func267,ntmps267
 go_wp2
 go_loopw [8] (fun i wr=>∃k:Nat,k<=m/\i=.int .i64 k/\Hid (Below w.heap.size w wr/\(L.take k).any Aa4=false)) (fun i _=>m-(intOf i).toNat)
 case atStart=>exact⟨0,Nat.zero_le _,rfl,J0 ⟨Below.refl _ _,by simp⟩⟩
 case round =>
  obtain⟨k,hk,rfl,hR⟩:=hrel
  have hm':=hm.out
  obtain⟨hb,hn⟩:=hR.out
  by_cases hlt:k<m
  ·have hkl:k<L.length:=by omega
   obtain⟨g,o,rfl,hg,E7⟩:=h.out k hkl
   have hld:∀j v,(B6 L[k])[j]?=some v->wr.cell? ((⟨g,o+k*10,none⟩:Addr).add j)=some v:=fun j v hj=>by
    rw[Addr.add_lit,hb.cell hg]
    exact E7 j v hj
   have hfi:=fun w=>Bxi L[k] w
   have hC10:=Awg L[k]
   have htk:(L.take (k+1)).any Aa4=Aa4 L[k]:=by
    rw[List.take_add_one,List.getElem?_eq_getElem hkl,List.any_append,hn]
    simp
   have Ase:Aa4 L[k]=true->L.any Aa4=true:=fun hf=>List.any_eq_true.2 ⟨_,List.getElem_mem hkl,hf⟩
   generalize L[k]=c at hld hfi hC10 htk Ase
   generalize B6 c=C at hld hfi hC10
   replace hld:=J0 hld
   replace hC10:=J0 hC10
   replace hb:=J0 hb
   clear hn hm' E7
   by_cases hf:Aa4 c=true
   ·rw[hf]at hfi
    replace Ase:=J0 (Ase hf)
    replace hfi:=J0 hfi
    clear hf htk
    go_wp2_with (first
     |(with_reducible refine J9 15 14 ?_;go_must(refine Aix rfl 194 (.tmp 14) rfl ⟨g,o+k*10,none⟩ rfl C _ hld.out underlying194 rfl hC10.out ?_))
     |(go_at_call 225;(with_reducible refine(hfi.out _).mono ?_);rintro e w1 ⟨rfl,hb1⟩))
    go_ret
    exact⟨(k:Int),rfl,⟨fun _=>Ase.out,fun _=>by omega⟩,by omega,A2 hb.out hb1⟩
   ·have hf:Aa4 c=false:=by simpa using hf
    rw[hf]at hfi htk
    replace htk:=J0 htk
    replace hfi:=J0 hfi
    clear hf Ase
    go_wp2_with (first
     |(with_reducible refine J9 15 14 ?_;go_must(refine Aix rfl 194 (.tmp 14) rfl ⟨g,o+k*10,none⟩ rfl C _ hld.out underlying194 rfl hC10.out ?_))
     |(go_at_call 225;(with_reducible refine(hfi.out _).mono ?_);rintro e w1 ⟨rfl,hb1⟩))
    have hb2:=J0 (A2 hb.out hb1)
    clear hb1
    go_roundw
    case rel=>exact⟨k+1,by omega,by go_num,J0 ⟨hb2.out,htk.out⟩⟩
    case measure=>simp[intOf];omega
  ·obtain rfl:k=m:=by omega
   have hno:L.any Aa4=false:=by rw[<- List.take_of_length_le (l:=L) (i:=k) (by omega)];exact hn
   replace hno:=J0 hno
   replace hb:=J0 hb
   clear hn hm' hR
   go_wp2
   go_ret
   exact⟨-1,rfl,⟨fun h=>by omega,fun h=>by rw[hno.out]at h;cases h⟩,by omega,hb.out⟩
theorem Btb(L:List Cel)(sp:Option Addr)(c:Nat)(hc:c<=maxLen)(hl:L.length<=c)(w:World)(h:Bcb w sp L) :
  Calls prog 224 #[.slice sp L.length c,.func (.func 225) #[] #[]] w fun e w'=>e=.returned (.bool (L.any Aa4))/\Below w.heap.size w w':=by
 have hi:=J0 (Cav L sp c hc hl w h)
 generalize L.length=m at hi |-
 clear h hl hc
 go_enter func224,ntmps224
 go_wp2_with((go_at_call 267;(with_reducible refine(hi.out).mono ?_);rintro e w1 ⟨n,rfl,hn,hn1,hb1⟩;replace hn:=J0 hn))
 go_ret
 exact⟨G1 (by rw[Bool.eq_iff_iff];simpa using hn.out),hb1⟩
def Aes(l:List Cel)(k:Int):Bool:=!((l.drop k.toNat).any Aa4)
theorem Bzv(l:List Cel)(k:Int):l.drop (A9 k l.length)=l.drop k.toNat:=by
 unfold A9
 rcases Nat.le_total k.toNat l.length with h|h
 ·rw[Nat.min_eq_left h]
 ·rw[Nat.min_eq_right h,List.drop_length,List.drop_eq_nil_of_le h]
theorem Bwc{w:World}{d g n cap:Nat}{tail:List Value}{l:List Cel}(h:B7 w d g n cap tail l)(from':Int) :
  Calls prog 168 #[.pointer (some ⟨d,0,none⟩),.int .i64 from'] w fun e w'=>e=.returned (.bool (Aes l from'))/\Below w.heap.size w w':=by
 have hn:=h.pos
 have hn5:=h.small
 have hle:=h.le
 have hcm:=h.cap
 have hcm':=h.cap
 unfold maxLen at hcm'
 have hn0:((n:Int)==0)=false:=beq_eq_false_iff_ne.2 (by omega)
 have hlen:=J0 (Aas h)
 have hc:=h.slice
 have hcd:=h.drawn.slice
 have hp:A9 from' n<=n:=Nat.min_le_right _ _
 have hh:=Aeo from' n
 have hdr:=Bzv l from'
 rw[h.len]at hdr
 have hE:Aes l from' = !((l.drop (A9 from' n)).any Aa4):=by unfold Aes;rw[hdr]
 rw[hE]
 clear hE hdr
 generalize A9 from' n=p at hh hp |-
 obtain⟨ad1,Aef⟩:∃ad1,(if cap=p then(some ⟨g,0,none⟩:Option Addr)else some ⟨g,p*10,none⟩)=ad1:=⟨_,rfl⟩
 have Y2:∀w',Below w.heap.size w w'->Bcb w' ad1 (l.drop p):=by
  intro w' hb i hi
  have hi2:p+i<l.length:=by simp at hi;omega
  have hne:cap≠p:=by have:=h.len;omega
  refine⟨g,p*10,by rw[<- Aef,if_neg hne],(h.below hb).row.lt,fun j v hj=>?_⟩
  rw[List.getElem_drop]at hj
  have Brd:=(List.getElem?_eq_some_iff.1 hj).1
  rw[N3]at Brd
  have:=(h.below hb).at' hi2 Brd hj
  rw[show p*10+i*10+j=(p+i)*10+j by omega]
  exact this
 have hL:(l.drop p).length=n-p:=by rw[List.length_drop,h.len]
 have C6:=fun w' (hb:Below w.heap.size w w')=>Btb (l.drop p) ad1 (cap-p) (by omega) (by rw[hL];omega) w' (Y2 w' hb)
 rw[hL]at C6
 generalize (l.drop p).any Aa4=b at C6 |-
 have hsl:=fun w' (hb:Below w.heap.size w w')=>(h.below hb).slice
 replace C6:=J0 C6
 replace hsl:=J0 hsl
 replace hh:=J0 hh
 have hw0:(0:Int)<=(p:Int):=by omega
 have hw1:(p:Int)<=(n:Int):=by omega
 have hw2:p<=cap:=by omega
 have hbd:Below w.heap.size w w.drew:=C7 (Below.refl _ _) 1
 clear h Y2 hL
 go_enter func168,ntmps168
 go_wp2_with((go_at_call 99;(with_reducible refine(hlen.out).mono ?_);rintro e w' ⟨rfl,rfl⟩))
 go_region_held3 (fun w'=>w'.cell? ⟨d,0,none⟩=some (.slice (some ⟨g,0,none⟩) n cap))
  (first|exact hc|exact hcd|exact hsl.out _ hb1|go_keep)
  (first
   |(go_at_call 215;(with_reducible refine(hh.out _).mono ?_);rintro e w' ⟨rfl,rfl⟩)
   |(go_at_call 224;(with_reducible refine(C6.out _ hbd).mono ?_);rintro e w1 ⟨rfl,hb1'⟩;have hb1:Below w.heap.size w w1:=A2 hbd hb1'))
 go_wp2
 go_ret
 exact⟨rfl,hb1⟩
end Go.Proofs.YtecnpoigegiooaaGreatDoor.Rw
namespace Go.Proofs.YtecnpoigegiooaaGreatDoor.Tbs
open Tryz
open Go
def pack(g:Nat->Bool):Nat->Nat
 |0=>0
 |n+1=>pack g n ||| (if g n then 2^n else 0)
theorem Cgt(g:Nat->Bool)(n j:Nat):(pack g n).testBit j=(decide (j<n)&&g j):=by
 induction n with
 |zero=>simp[pack]
 |succ n ih =>
  rw[pack,Nat.testBit_or,ih]
  by_cases hj:j=n
  ·subst hj
   by_cases hg:g j=true
   ·simp[hg]
   ·simp[hg]
  ·have h2:(if g n=true then 2^n else 0).testBit j=false:=by
    split
    ·rw[Nat.testBit_two_pow];simp;omega
    ·simp
   rw[h2,Bool.or_false]
   have:decide (j<n+1)=decide (j<n):=by rw[decide_eq_decide];omega
   rw[this]
def wd(f:Nat->Bool)(i:Nat):Nat:=pack (fun j=>f (64*i+j)) 64
theorem Agb(f:Nat->Bool)(i j:Nat):(wd f i).testBit j=(decide (j<64)&&f (64*i+j)):=Cgt _ _ _
theorem Byc{x n:Nat}(h:∀j,n<=j->x.testBit j=false):x<2^n:=Nat.lt_pow_two_of_testBit x h
theorem Afd(f:Nat->Bool)(i:Nat):wd f i<18446744073709551616 :=
 Byc (n:=64) fun j hj=>by rw[Agb];simp;omega
theorem Aoj{f:Nat->Bool}{i x:Nat}(hx:x<18446744073709551616)(h:∀j,j<64->x.testBit j=f (64*i+j)):x=wd f i:=by
 apply Nat.eq_of_testBit_eq
 intro j
 rw[Agb]
 by_cases hj:j<64
 ·simp[hj,h j hj]
 ·simp only[hj,decide_false,Bool.false_and]
  exact Nat.testBit_lt_two_pow (Nat.lt_of_lt_of_le hx (show 2^64<=2^j from Nat.pow_le_pow_right (by decide) (by omega)))
theorem Ang{f g:Nat->Bool}{i:Nat}(h:∀j,j<64->f (64*i+j)=g (64*i+j)):wd f i=wd g i :=
 Aoj (Afd f i) fun j hj=>by rw[Agb];simp[hj,h j hj]
theorem Cne{f:Nat->Bool}{i:Nat}(h:∀j,j<64->f (64*i+j)=false):wd f i=0 :=
 (Aoj (by decide) fun j hj=>by simp[h j hj]).symm
def G5(f:Nat->Bool)(c:Nat)(b:Bool):Nat->Bool:=fun x=>if x=c then b else f x
theorem Cqn(f:Nat->Bool)(c:Nat):wd f (c/64) ||| 2^(c % 64)=wd (G5 f c true) (c/64) :=
 Aoj (show _<2^64 from Nat.or_lt_two_pow (Afd _ _) (Nat.pow_lt_pow_right (by decide) (by omega))) fun j hj=>by
  rw[Nat.testBit_or,Agb,Nat.testBit_two_pow]
  unfold G5
  by_cases e:j=c % 64
  ·have:64*(c/64)+j=c:=by omega
   rw[if_pos this,e]
   simp
  ·have:¬64*(c/64)+j=c:=by omega
   have e':¬c % 64=j:=fun h=>e h.symm
   simp[this,e',hj]
def sub(a b:Nat):Nat:=a &&& (18446744073709551615-b)
theorem Cli{b:Nat}(hb:b<18446744073709551616)(j:Nat):(18446744073709551615-b).testBit j=(decide (j<64) && !b.testBit j):=by
 have:=Nat.testBit_two_pow_sub_succ (x:=b) (n:=64) hb j
 rw[show 18446744073709551615-b=2^64-(b+1)by omega,this]
theorem Bng{a b:Nat}(hb:b<18446744073709551616)(j:Nat):(sub a b).testBit j=(a.testBit j&&decide (j<64) && !b.testBit j):=by
 unfold sub
 rw[Nat.testBit_and,Cli hb,Bool.and_assoc]
theorem Ab3{a b:Nat}(ha:a<18446744073709551616):sub a b<18446744073709551616:=Nat.lt_of_le_of_lt Nat.and_le_left ha
theorem Cqm(f:Nat->Bool)(c:Nat):sub (wd f (c/64)) (2^(c % 64))=wd (G5 f c false) (c/64):=by
 have hc:2^(c % 64)<18446744073709551616:=show _<2^64 from Nat.pow_lt_pow_right (by decide) (by omega)
 refine Aoj (Ab3 (Afd _ _)) fun j hj=>?_
 rw[Bng hc,Agb,Nat.testBit_two_pow]
 unfold G5
 by_cases e:j=c % 64
 ·have:64*(c/64)+j=c:=by omega
  rw[if_pos this,e]
  simp
 ·have:¬64*(c/64)+j=c:=by omega
  have e':¬c % 64=j:=fun h=>e h.symm
  simp[this,e',hj]
theorem Bkp(f:Nat->Bool)(c:Nat)(b:Bool){i:Nat}(h:i≠c/64):wd (G5 f c b) i=wd f i :=
 Ang fun j hj=>by
  unfold G5
  rw[if_neg (by omega)]
def Ajw(n:Int):Nat:=min n.toNat 64
def Abh(n:Int):Nat:=2^Ajw n-1
theorem Awj(n:Int):Abh n<18446744073709551616:=by
 have h1:0<2^Ajw n:=Nat.pow_pos (by decide)
 have h2:2^Ajw n<=2^64:=Nat.pow_le_pow_right (by decide) (by unfold Ajw;omega)
 unfold Abh
 omega
theorem Blx(n:Int)(j:Nat)(hj:j<64):(Abh n).testBit j=decide ((j:Int)<n):=by
 unfold Abh Ajw
 rw[Nat.testBit_two_pow_sub_one,decide_eq_decide]
 omega
def inF(f:Nat->Bool)(a b:Int):Nat->Bool:=fun c=>f c&&(decide (a<=(c:Int))&&decide ((c:Int)<b))
theorem Cta(f:Nat->Bool)(a b:Int)(i:Nat):wd f i &&& sub (Abh (b-64*(i:Int))) (Abh (a-64*(i:Int)))=wd (inF f a b) i:=by
 refine Aoj (Nat.lt_of_le_of_lt Nat.and_le_left (Afd _ _)) fun j hj=>?_
 rw[Nat.testBit_and,Agb,Bng (Awj _),Blx _ _ hj,Blx _ _ hj]
 unfold inF
 have e1:decide ((j:Int)<b-64*(i:Int))=decide (((64*i+j:Nat):Int)<b):=by rw[decide_eq_decide];omega
 have e2:(!decide ((j:Int)<a-64*(i:Int)))=decide (a<=((64*i+j:Nat):Int)):=by
  rw[<- decide_not,decide_eq_decide];omega
 rw[e1,e2]
 simp only[hj,decide_true,Bool.true_and,Bool.and_true]
 cases f (64*i+j)<;>cases decide (((64*i+j:Nat):Int)<b)<;>cases decide (a<=((64*i+j:Nat):Int))<;>rfl
def ds(b:Nat):Nat->Nat->Nat
 |0,_=>0
 |n+1,x=>x % b+ds b n (x/b)
def Dle(b m:Nat):Nat->Nat->Prop
 |0,x=>x=0
 |n+1,x=>x % b<=m/\Dle b m n (x/b)
theorem Dle.le{b m:Nat}(hb:2<=b):∀ {n x:Nat},Dle b m n x->(b-1)*x+m<=m*b^n
 |0,x,h=>by unfold Dle at h;subst h;simp
 |n+1,x,h=>by
  obtain⟨h1,h2⟩:=h
  have ih:=Dle.le hb h2
  have e:=Nat.div_add_mod x b
  have e2:(b-1)*x=b*((b-1)*(x/b))+(b-1)*(x % b):=by
   conv=>lhs;rw[<- e]
   rw[Nat.mul_add,<- Nat.mul_assoc,<- Nat.mul_assoc,Nat.mul_comm (b-1) b]
  have e3:m*b^(n+1)=b*(m*b^n):=by rw[Nat.pow_succ,<- Nat.mul_assoc,Nat.mul_comm]
  have e4:(b-1)*(x % b)<=(b-1)*m:=Nat.mul_le_mul_left _ h1
  have e5:b*((b-1)*(x/b)+m)<=b*(m*b^n):=Nat.mul_le_mul_left _ ih
  rw[Nat.mul_add]at e5
  have e6:(b-1)*m+m=b*m:=by
   conv=>rhs;rw[show b=(b-1)+1 by omega]
   rw[Nat.add_mul,Nat.one_mul]
  rw[e2,e3]
  omega
theorem Azn(k a m c:Nat)(hc:c<2^k):a &&& (2^k*m+c)=2^k*((a/2^k) &&& m)+((a % 2^k) &&& c):=by
 have hlt:(a % 2^k) &&& c<2^k:=Nat.lt_of_le_of_lt Nat.and_le_right hc
 apply Nat.eq_of_testBit_eq
 intro j
 rw[Nat.testBit_and,Nat.testBit_two_pow_mul_add _ hc,Nat.testBit_two_pow_mul_add _ hlt]
 by_cases hj:j<k
 ·simp[hj,Nat.testBit_and,Nat.testBit_mod_two_pow]
 ·simp only[hj,if_false,Nat.testBit_and,Nat.testBit_div_two_pow]
  rw[show j-k+k=j by omega]
theorem Bow(a m:Nat):a &&& (4*m+1)=4*((a/4) &&& m)+a % 2:=by
 have:=Azn 2 a m 1 (by decide)
 have e:=Nat.and_two_pow_sub_one_eq_mod (a % 4) 1
 rw[show 2^1-1=1 from rfl]at e
 simp only[show(2:Nat)^2=4 from rfl]at this
 rw[this,e]
 omega
theorem Bnn(a m:Nat):a &&& (16*m+3)=16*((a/16) &&& m)+a % 4:=by
 have:=Azn 4 a m 3 (by decide)
 have e:=Nat.and_two_pow_sub_one_eq_mod (a % 16) 2
 rw[show 2^2-1=3 from rfl]at e
 simp only[show(2:Nat)^4=16 from rfl]at this
 rw[this,e]
 omega
theorem Cix(a m:Nat):a &&& (256*m+15)=256*((a/256) &&& m)+a % 16:=by
 have:=Azn 8 a m 15 (by decide)
 have e:=Nat.and_two_pow_sub_one_eq_mod (a % 256) 4
 rw[show 2^4-1=15 from rfl]at e
 simp only[show(2:Nat)^8=256 from rfl]at this
 rw[this,e]
 omega
def mk(b c:Nat):Nat->Nat
 |0=>0
 |n+1=>b*mk b c n+c
theorem mk1:mk 4 1 32=6148914691236517205:=by decide
theorem mk2:mk 16 3 16=3689348814741910323:=by decide
theorem mk3:mk 256 15 8=1085102592571150095:=by decide
theorem Ab6:∀(n x:Nat),ds 4 n ((x/2 &&& mk 4 1 n)+(x &&& mk 4 1 n))=ds 2 (2*n) x/\Dle 4 2 n ((x/2 &&& mk 4 1 n)+(x &&& mk 4 1 n))
 |0,x=>by simp[ds,Dle,mk]
 |n+1,x=>by
  obtain⟨h1,h2⟩:=Ab6 n (x/4)
  have e:(x/2 &&& mk 4 1 (n+1))+(x &&& mk 4 1 (n+1))=4*((x/4/2 &&& mk 4 1 n)+(x/4 &&& mk 4 1 n))+(x/2 % 2+x % 2):=by
   show(x/2 &&& (4*mk 4 1 n+1))+(x &&& (4*mk 4 1 n+1))=_
   rw[Bow,Bow,show x/2/4=x/4/2 by omega]
   omega
  rw[e]
  generalize (x/4/2 &&& mk 4 1 n)+(x/4 &&& mk 4 1 n)=y at h1 h2
  have e1:(4*y+(x/2 % 2+x % 2)) % 4=x/2 % 2+x % 2:=by omega
  have e2:(4*y+(x/2 % 2+x % 2))/4=y:=by omega
  refine⟨?_,?_⟩
  ·show(4*y+(x/2 % 2+x % 2)) % 4+ds 4 n ((4*y+(x/2 % 2+x % 2))/4)=x % 2+(x/2 % 2+ds 2 (2*n) (x/2/2))
   rw[e1,e2,h1,show x/2/2=x/4 by omega]
   omega
  ·show(4*y+(x/2 % 2+x % 2)) % 4<=2/\Dle 4 2 n ((4*y+(x/2 % 2+x % 2))/4)
   rw[e1,e2]
   exact⟨by omega,h2⟩
theorem Ab7:∀(n x:Nat),Dle 4 2 (2*n) x->ds 16 n ((x/4 &&& mk 16 3 n)+(x &&& mk 16 3 n))=ds 4 (2*n) x/\Dle 16 4 n ((x/4 &&& mk 16 3 n)+(x &&& mk 16 3 n))
 |0,x,_=>by simp[ds,Dle,mk]
 |n+1,x,h=>by
  obtain⟨g1,g2,g3⟩:x % 4<=2/\x/4 % 4<=2/\Dle 4 2 (2*n) (x/4/4):=h
  rw[show x/4/4=x/16 by omega]at g3
  obtain⟨h1,h2⟩:=Ab7 n (x/16) g3
  have e:(x/4 &&& mk 16 3 (n+1))+(x &&& mk 16 3 (n+1))=16*((x/16/4 &&& mk 16 3 n)+(x/16 &&& mk 16 3 n))+(x/4 % 4+x % 4):=by
   show(x/4 &&& (16*mk 16 3 n+3))+(x &&& (16*mk 16 3 n+3))=_
   rw[Bnn,Bnn,show x/4/16=x/16/4 by omega]
   omega
  rw[e]
  generalize (x/16/4 &&& mk 16 3 n)+(x/16 &&& mk 16 3 n)=y at h1 h2
  have e1:(16*y+(x/4 % 4+x % 4)) % 16=x/4 % 4+x % 4:=by omega
  have e2:(16*y+(x/4 % 4+x % 4))/16=y:=by omega
  refine⟨?_,?_⟩
  ·show(16*y+(x/4 % 4+x % 4)) % 16+ds 16 n ((16*y+(x/4 % 4+x % 4))/16)=x % 4+(x/4 % 4+ds 4 (2*n) (x/4/4))
   rw[e1,e2,h1,show x/4/4=x/16 by omega]
   omega
  ·show(16*y+(x/4 % 4+x % 4)) % 16<=4/\Dle 16 4 n ((16*y+(x/4 % 4+x % 4))/16)
   rw[e1,e2]
   exact⟨by omega,h2⟩
theorem Dle.head{b m n x:Nat}(h:Dle b m n x):x % b<=m:=by
 cases n with
 |zero=>unfold Dle at h;subst h;simp
 |succ n=>exact h.1
theorem Bqg:∀(n x:Nat),Dle 16 4 (2*n) x->ds 256 n ((x/16+x) &&& mk 256 15 n)=ds 16 (2*n) x/\Dle 256 8 n ((x/16+x) &&& mk 256 15 n)
 |0,x,_=>by simp[ds,Dle,mk]
 |n+1,x,h=>by
  obtain⟨g1,g2,g3⟩:x % 16<=4/\x/16 % 16<=4/\Dle 16 4 (2*n) (x/16/16):=h
  rw[show x/16/16=x/256 by omega]at g3
  have g4:=g3.head
  obtain⟨h1,h2⟩:=Bqg n (x/256) g3
  have e:(x/16+x) &&& mk 256 15 (n+1)=256*((x/256/16+x/256) &&& mk 256 15 n)+(x/16 % 16+x % 16):=by
   show(x/16+x) &&& (256*mk 256 15 n+15)=_
   obtain⟨q,s,t,p,hx,hs,ht,hp⟩:∃q s t p,x=4096*q+256*p+16*s+t/\s<=4/\t<=4/\p<=4:=⟨x/4096,x/16 % 16,x % 16,x/256 % 16,by omega,g2,g1,g4⟩
   have k1:x/16=256*q+16*p+s:=by omega
   have k2:x/256=16*q+p:=by omega
   have k3:(16*q+p)/16=q:=by omega
   have k4:(256*q+16*p+s+x)/256=q+(16*q+p):=by omega
   have k5:(256*q+16*p+s+x) % 16=s+t:=by omega
   have k6:(256*q+16*p+s) % 16=s:=by omega
   have k7:x % 16=t:=by omega
   rw[Cix,k1,k2,k3,k4,k5,k6,k7]
  rw[e]
  generalize (x/256/16+x/256) &&& mk 256 15 n=y at h1 h2
  have e1:(256*y+(x/16 % 16+x % 16)) % 256=x/16 % 16+x % 16:=by omega
  have e2:(256*y+(x/16 % 16+x % 16))/256=y:=by omega
  refine⟨?_,?_⟩
  ·show(256*y+(x/16 % 16+x % 16)) % 256+ds 256 n ((256*y+(x/16 % 16+x % 16))/256)=x % 16+(x/16 % 16+ds 16 (2*n) (x/16/16))
   rw[e1,e2,h1,show x/16/16=x/256 by omega]
   omega
  ·show(256*y+(x/16 % 16+x % 16)) % 256<=8/\Dle 256 8 n ((256*y+(x/16 % 16+x % 16))/256)
   rw[e1,e2]
   exact⟨by omega,h2⟩
theorem Dle.cons{b m n x:Nat}(h:Dle b m (n+1) x):∃r y,r<=m/\x=r+b*y/\Dle b m n y/\ds b (n+1) x=r+ds b n y :=
 ⟨x % b,x/b,h.1,(Nat.mod_add_div x b).symm,h.2,rfl⟩
theorem Cdn{z:Nat}(h:Dle 256 8 8 z):∃a b c d e f g i:Nat,a<=8/\b<=8/\c<=8/\d<=8/\e<=8/\f<=8/\g<=8/\i<=8 /\
  z=a+256*(b+256*(c+256*(d+256*(e+256*(f+256*(g+256*i))))))/\ds 256 8 z=a+(b+(c+(d+(e+(f+(g+i)))))):=by
 obtain⟨a,z1,ha,rfl,h1,e1⟩:=h.cons
 obtain⟨b,z2,hb,rfl,h2,e2⟩:=h1.cons
 obtain⟨c,z3,hc,rfl,h3,e3⟩:=h2.cons
 obtain⟨d,z4,hd,rfl,h4,e4⟩:=h3.cons
 obtain⟨e,z5,he,rfl,h5,e5⟩:=h4.cons
 obtain⟨f,z6,hf,rfl,h6,e6⟩:=h5.cons
 obtain⟨g,z7,hg,rfl,h7,e7⟩:=h6.cons
 obtain⟨i,z8,hi,rfl,h8,e8⟩:=h7.cons
 unfold Dle at h8
 subst h8
 refine⟨a,b,c,d,e,f,g,i,ha,hb,hc,hd,he,hf,hg,hi,by rw[Nat.mul_zero,Nat.add_zero],?_⟩
 exact e1.trans (congrArg _ (e2.trans (congrArg _ (e3.trans (congrArg _ (e4.trans (congrArg _ (e5.trans (congrArg _ (e6.trans (congrArg _ (e7.trans (congrArg _ (e8.trans (Nat.add_zero i)))))))))))))))
theorem Crf{a b c d e f g i z:Nat}(ha:a<=8)(hz:z=a+256*(b+256*(c+256*(d+256*(e+256*(f+256*(g+256*i))))))) :
  z+z/256=(a+b)+256*((b+c)+256*((c+d)+256*((d+e)+256*((e+f)+256*((f+g)+256*((g+i)+256*i)))))):=by
 have h:z/256=b+256*(c+256*(d+256*(e+256*(f+256*(g+256*i))))):=by
  generalize b+256*(c+256*(d+256*(e+256*(f+256*(g+256*i)))))=y at hz
  omega
 rw[h,hz]
 omega
theorem Crg{a b c d e f g i z:Nat}(ha:a<=16)(hb:b<=16)(hz:z=a+256*(b+256*(c+256*(d+256*(e+256*(f+256*(g+256*i))))))) :
  z+z/65536=(a+c)+256*((b+d)+256*((c+e)+256*((d+f)+256*((e+g)+256*((f+i)+256*(g+256*i)))))):=by
 have h:z/65536=c+256*(d+256*(e+256*(f+256*(g+256*i)))):=by
  generalize c+256*(d+256*(e+256*(f+256*(g+256*i))))=y at hz
  omega
 rw[h,hz]
 omega
theorem Crh{a b c d e f g i z:Nat}(ha:a<=32)(hb:b<=32)(hc:c<=32)(hd:d<=32)(he:e<=32)(hz:z=a+256*(b+256*(c+256*(d+256*(e+256*(f+256*(g+256*i))))))) :
  (z+z/4294967296) % 128=a+e:=by
 have h:z/4294967296=e+256*(f+256*(g+256*i)):=by
  generalize e+256*(f+256*(g+256*i))=y at hz
  omega
 rw[h]
 have h2:z+(e+256*(f+256*(g+256*i)))=(a+e)+128*(2*(b+256*(c+256*(d+256*(e+256*(f+256*(g+256*i))))))+2*(f+256*(g+256*i))):=by
  rw[hz]
  omega
 rw[h2]
 generalize 2*(b+256*(c+256*(d+256*(e+256*(f+256*(g+256*i))))))+2*(f+256*(g+256*i))=y
 omega
theorem Cuu:(256:Nat)^8=18446744073709551616:=by decide
theorem Cod{z:Nat}(h:Dle 256 8 8 z):z<600000000000000000:=by
 have hle:=h.le (by decide)
 rw[Cuu]at hle
 omega
theorem Cer{z:Nat}(hb:z<600000000000000000):z+z/256<700000000000000000:=by omega
theorem Ces{z:Nat}(hb:z<700000000000000000):z+z/65536<800000000000000000:=by omega
theorem Cet{z:Nat}(hb:z<800000000000000000):z+z/4294967296<900000000000000000:=by omega
theorem Aeh{a b:Nat}(ha:a<=8)(hb:b<=8):a+b<=16:=by omega
theorem Asz{a b:Nat}(ha:a<=16)(hb:b<=16):a+b<=32:=by omega
theorem Ceq{z:Nat}(h:Dle 256 8 8 z):∃z1 z2 z3:Nat,z1=z+z/256/\z2=z1+z1/65536/\z3=z2+z2/4294967296/\z1<900000000000000000/\z2<900000000000000000/\z3<900000000000000000/\z3 % 128=ds 256 8 z:=by
 have b0:=Cod h
 obtain⟨a,b,c,d,e,f,g,i,ha,hb,hc,hd,he,hf,hg,hi,hz,hs⟩:=Cdn h
 clear h
 have f1:=Crf ha hz
 have b1:=Cer b0
 generalize hz1:z+z/256=z1 at f1 b1
 have f2:=Crg (a:=a+b) (b:=b+c) (c:=c+d) (d:=d+e) (e:=e+f) (f:=f+g) (g:=g+i) (i:=i) (Aeh ha hb) (Aeh hb hc) f1
 have b2:=Ces b1
 generalize hz2:z1+z1/65536=z2 at f2 b2
 have f3:=Crh (a:=a+b+(c+d)) (b:=b+c+(d+e)) (c:=c+d+(e+f)) (d:=d+e+(f+g)) (e:=e+f+(g+i)) (f:=f+g+i) (g:=g+i) (i:=i) (Asz (Aeh ha hb) (Aeh hc hd)) (Asz (Aeh hb hc) (Aeh hd he)) (Asz (Aeh hc hd) (Aeh he hf)) (Asz (Aeh hd he) (Aeh hf hg)) (Asz (Aeh he hf) (Aeh hg hi)) f2
 have b3:=Cet b2
 generalize hz3:z2+z2/4294967296=z3 at f3 b3
 refine⟨z1,z2,z3,rfl,hz2.symm,hz3.symm,Nat.lt_trans b1 (by decide),Nat.lt_trans b2 (by decide),b3,?_⟩
 rw[f3,hs]
 clear f1 f2 f3 hz hz1 hz2 hz3 hs b0 b1 b2 b3
 omega
end Go.Proofs.YtecnpoigegiooaaGreatDoor.Tbs
namespace Go.Proofs.YtecnpoigegiooaaGreatDoor.Tbs
open Tryz
open Go RowKit Com
theorem Bks{n:Nat}(h:n<18446744073709551616):IntKind.u64.wrap (n:Int)=(n:Int):=by
 rw[IntKind.wrap_u64]
 omega
theorem Bvd{a b:Nat}(h:a % 128=b):(a:Int) % 128=(b:Nat):=by omega
theorem Cvc(x:Nat)(hx:x<18446744073709551616):∃a b y c d z p q z1 z2 z3:Nat,
  bits BinOp.and IntKind.u64 ((x:Int)/2) 6148914691236517205=(a:Int)/\bits BinOp.and IntKind.u64 (x:Int) 6148914691236517205=(b:Int)/\IntKind.u64.wrap ((a:Int)+(b:Int))=(y:Int) /\
  bits BinOp.and IntKind.u64 ((y:Int)/4) 3689348814741910323=(c:Int)/\bits BinOp.and IntKind.u64 (y:Int) 3689348814741910323=(d:Int)/\IntKind.u64.wrap ((c:Int)+(d:Int))=(z:Int) /\
  IntKind.u64.wrap ((z:Int)/16+(z:Int))=(p:Int)/\bits BinOp.and IntKind.u64 (p:Int) 1085102592571150095=(q:Int) /\
  IntKind.u64.wrap ((q:Int)+(q:Int)/256)=(z1:Int)/\IntKind.u64.wrap ((z1:Int)+(z1:Int)/65536)=(z2:Int)/\IntKind.u64.wrap ((z2:Int)+(z2:Int)/4294967296)=(z3:Int) /\
  z3<900000000000000000/\(z3:Int) % 128=(ds 2 64 x:Nat):=by
 obtain⟨h1,d1⟩:=Ab6 32 x
 obtain⟨h2,d2⟩:=Ab7 16 _ d1
 obtain⟨h3,d3⟩:=Bqg 8 _ d2
 have b1:=d1.le (by decide)
 have b2:=d2.le (by decide)
 rw[mk1]at h1 d1 h2 d2 h3 d3 b1 b2
 rw[mk2]at h2 d2 h3 d3 b2
 rw[mk3]at h3 d3
 rw[show(4:Nat)^32=18446744073709551616 from by decide]at b1
 rw[show(16:Nat)^16=18446744073709551616 from by decide]at b2
 have a1:=bits_and_u64_nat (x/2) 6148914691236517205 (by omega) (by decide)
 have a2:=bits_and_u64_nat x 6148914691236517205 hx (by decide)
 generalize x/2 &&& 6148914691236517205=a at *
 generalize x &&& 6148914691236517205=b at *
 generalize hy:a+b=y at *
 have a3:=bits_and_u64_nat (y/4) 3689348814741910323 (by omega) (by decide)
 have a4:=bits_and_u64_nat y 3689348814741910323 (by omega) (by decide)
 generalize y/4 &&& 3689348814741910323=c at *
 generalize y &&& 3689348814741910323=d at *
 generalize hz:c+d=z at *
 have a5:=bits_and_u64_nat (z/16+z) 1085102592571150095 (by omega) (by decide)
 generalize hp:z/16+z=p at *
 generalize p &&& 1085102592571150095=q at *
 obtain⟨z1,z2,z3,e1,e2,e3,l1,l2,l3,e4⟩:=Ceq d3
 refine⟨a,b,y,c,d,z,p,q,z1,z2,z3,a1,a2,?_,a3,a4,?_,?_,a5,?_,?_,?_,l3,?_⟩
 ·rw[IntKind.wrap_u64];omega
 ·rw[IntKind.wrap_u64];omega
 ·rw[IntKind.wrap_u64];omega
 ·rw[IntKind.wrap_u64];omega
 ·rw[IntKind.wrap_u64];omega
 ·rw[IntKind.wrap_u64];omega
 ·have e5:ds 256 8 q=ds 2 64 x:=h3.trans (h2.trans h1)
  rw[e5]at e4
  exact Bvd e4
theorem Bjx(x:Nat)(hx:x<18446744073709551616)(w:World) :
  Calls prog 269 #[.int .u64 x] w fun e w'=>e=.returned (.int .i64 (ds 2 64 x))/\w=w':=by
 obtain⟨a,b,y,c,d,z,p,q,z1,z2,z3,a1,a2,a3,a4,a5,a6,a7,a8,a9,b1,b2,l3,hE⟩:=Cvc x hx
 replace hE:=J0 hE
 go_enter func269,ntmps269
 go_wp2
 go_ret
 exact⟨G6 ((i64_and127 _).trans hE.out),rfl⟩
structure Tab(w:World):Prop where
 size:3<w.heap.size
 cells:∀k,k<64->w.cell? ⟨3,k,none⟩=some (.int .u8 (Lib.deBruijn64tab.getD k 0))
theorem Tab.below{w w':World}(h:Tab w)(hb:Below w.heap.size w w'):Tab w' :=
 ⟨Nat.lt_of_lt_of_le h.size hb.size,fun k hk=>(hb.cell (p:=⟨3,k,none⟩) h.size).trans (h.cells k hk)⟩
theorem Cjh{x:Nat}(hx:x<18446744073709551616)(h0:x≠0):Lib.ctz 64 x<64/\x.testBit (Lib.ctz 64 x)=true/\∀j,j<Lib.ctz 64 x->x.testBit j=false:=by
 obtain⟨m,hm,hk⟩:=Lib.ctzFrom_spec 64 x (by omega) hx
 have e:Lib.ctz 64 x=Lib.ctzFrom 64 x:=by simp[Lib.ctz,h0]
 rw[e]
 generalize Lib.ctzFrom 64 x=k at hm hk
 refine⟨hk,?_,fun j hj=>?_⟩
 ·rw[hm,Nat.mul_comm,Nat.testBit_mul_two_pow]
  simp
 ·rw[hm,Nat.mul_comm,Nat.testBit_mul_two_pow]
  simp
  omega
theorem Cqh(x a:Nat)(hx:x<18446744073709551616)(hx0:x≠0)(N1:x &&& (18446744073709551616-x)=a) :
  IntKind.u64.wrap (bits BinOp.and IntKind.u64 (x:Int) (IntKind.u64.wrap (-(x:Int)))*285870213051353865)/288230376151711744=((a*285870213051353865 % 18446744073709551616/288230376151711744:Nat):Int):=by
 have e1:IntKind.u64.wrap (-(x:Int))=((18446744073709551616-x:Nat):Int):=by rw[IntKind.wrap_u64];omega
 rw[e1,bits_and_u64_nat x _ hx (by omega),N1,IntKind.wrap_u64]
 omega
theorem Cna(x k idx:Nat)(w:World)(hx0:((x:Int)==0)=false)
  (key:IntKind.u64.wrap (bits BinOp.and IntKind.u64 (x:Int) (IntKind.u64.wrap (-(x:Int)))*285870213051353865)/288230376151711744=(idx:Int))
  (hi:idx<64) (hk:k<64) (E7:w.cell? ⟨3,idx,none⟩=some (.int .u8 k)) :
  Calls prog 270 #[.int .u64 x] w fun e w'=>e=.returned (.int .i64 k)/\w=w':=by
 go_enter func270,ntmps270
 go_wp2_with(simp only[key])
 go_ret
 exact⟨rfl,rfl⟩
theorem Cqg(x:Nat)(hx:x<18446744073709551616)(h0:x≠0)(w:World)(T:Tab w) :
  Calls prog 270 #[.int .u64 x] w fun e w'=>e=.returned (.int .i64 (Lib.ctz 64 x))/\w=w':=by
 obtain⟨N1,hk⟩:=Lib.lowest_bit 64 x h0 hx
 obtain⟨hi,Aam⟩:=Lib.deBruijn64_at _ hk
 have E7:=T.cells _ hi
 rw[Aam]at E7
 exact Cna x _ _ w (by simp;omega) (Cqh x _ hx h0 N1) hi hk E7
def wsL(f:Nat->Bool):List Value:=(List.range 8).map fun i=>.int .u64 (wd f i)
def wsA(f:Nat->Bool):Array Value:=(wsL f).toArray
theorem Alk(f:Nat->Bool):(wsL f).length=8:=by simp[wsL]
theorem Ahp(f:Nat->Bool):(wsA f).size=8:=by simp[wsA,Alk]
theorem Awo(f:Nat->Bool){i:Nat}(hi:i<8):(wsL f)[i]?=some (.int .u64 (wd f i)):=by simp[wsL,hi]
theorem Alr(f:Nat->Bool){i:Nat}(hi:i<8):(wsA f)[i]?=some (.int .u64 (wd f i)):=by simpa[wsA]using Awo f hi
theorem Bca{f g:Nat->Bool}{i:Nat}(h:∀j,j<8->j≠i->wd f j=wd g j):(wsL f).set i (.int .u64 (wd g i))=wsL g:=by
 apply List.ext_getElem?
 intro j
 by_cases hj:j<8
 ·rw[Awo g hj]
  by_cases e:i=j
  ·subst e
   rw[List.getElem?_set_self (by rw[Alk];exact hj)]
  ·rw[List.getElem?_set_ne e,Awo f hj,h j hj (fun e'=>e e'.symm)]
 ·rw[List.getElem?_eq_none (by rw[List.length_set,Alk];omega),List.getElem?_eq_none (by rw[Alk];omega)]
theorem Cin{f g:Nat->Bool}(h:∀c,c<512->f c=g c):wsL f=wsL g:=by
 unfold wsL
 apply List.map_congr_left
 intro i hi
 rw[Ang (f:=f) (g:=g) fun j hj=>h _ (by have:=List.mem_range.1 hi;omega)]
theorem Ara(f:Nat->Bool):(wsA f).all (·.oneCell')=true:=by simp[wsA,wsL,Value.oneCell']
theorem Alf(f:Nat->Bool):(prog.info? 174).map (·.size)=some (wsA f).size:=by
 rw[Ahp]
 kernel_rfl
theorem Bcm{k:Nat}(h:k<64):2^k<18446744073709551616:=show _<2^64 from Nat.pow_lt_pow_right (by decide) h
theorem Blr(k:Nat):(2:Int)^k=((2^k:Nat):Int):=by rw[Int.natCast_pow];rfl
theorem Bkt{k:Nat}(h:k<64):IntKind.u64.wrap (2^k)=((2^k:Nat):Int):=by
 rw[Blr]
 exact Bks (Bcm h)
theorem Cga{k:Nat}(h:k<=64):IntKind.u64.wrap (IntKind.u64.wrap (2^k)-1)=((2^k-1:Nat):Int):=by
 have h1:0<2^k:=Nat.pow_pos (by decide)
 have h2:2^k<=18446744073709551616:=show _<=2^64 from Nat.pow_le_pow_right (by decide) h
 rw[Blr,IntKind.wrap_u64,IntKind.wrap_u64]
 generalize 2^k=x at h1 h2
 omega
theorem Bfz(a b:Nat)(ha:a<18446744073709551616)(hb:b<18446744073709551616):bits .andNot .u64 (a:Int) (b:Int)=(sub a b:Nat):=by
 have h1:(BitVec.ofInt 64 (a:Int)).toNat=a:=by
  rw[BitVec.ofInt_natCast,BitVec.toNat_ofNat];exact Nat.mod_eq_of_lt (by omega)
 have h2:(BitVec.ofInt 64 (b:Int)).toNat=b:=by
  rw[BitVec.ofInt_natCast,BitVec.toNat_ofNat];exact Nat.mod_eq_of_lt (by omega)
 show IntKind.u64.wrap ((BitVec.ofInt 64 (a:Int) &&& ~~~ (BitVec.ofInt 64 (b:Int))).toNat:Int)=_
 rw[BitVec.toNat_and,BitVec.toNat_not,h1,h2]
 exact Bks (Ab3 ha)
def Bit(w:World)(d o:Nat)(t:TypeId)(cs:Array Value)(f:Nat->Bool)(c:Nat)(b:Bool)(e:Ending)(w':World):Prop :=
 (∃v,e=.returned v)/\Block w' d t (cs.setIfInBounds (o+c/64) (.int .u64 (wd (G5 f c b) (c/64))))/\A0 [d] w w'
theorem Blc{w:World}{d o:Nat}{t:TypeId}{cs:Array Value}{f:Nat->Bool}{c:Nat}{b:Bool}(hb:Block w d t cs){v:Value}:Bit w d o t cs f c b (.returned v) ((w.setCell ⟨d,o+c/64,none⟩ (.int .u64 (wd (G5 f c b) (c/64)))).drew) :=
 ⟨⟨_,rfl⟩,(hb.set _ _).only (M1 [] _) (by simp),(A0.setCell w ⟨d,o+c/64,none⟩ _).trans (M1 [d] _)⟩
theorem Aqp(f:Nat->Bool)(c:Nat)(hc:c<512)(d o:Nat)(t:TypeId)(cs:Array Value)(w:World)(hb:Block w d t cs)(hat:cs[o+c/64]?=some (.int .u64 (wd f (c/64)))) :
  Calls prog 234 #[.pointer (some ⟨d,o,none⟩),.int .i64 c] w (Bit w d o t cs f c true):=by
 have E7:=hb.cell _ hat
 have hfr:=hb.free (o+c/64)
 have hq:c/64<8:=by omega
 have hr:c % 64<64:=by omega
 have hE:=Blc (o:=o) (f:=f) (c:=c) (b:=true) hb (v:=.tuple #[])
 have hor:bits BinOp.or IntKind.u64 (wd f (c/64)) (IntKind.u64.wrap (2^(c % 64)))=(wd (G5 f c true) (c/64):Nat):=by
  rw[Bkt hr,bits_or_u64_nat _ _ (Afd _ _) (Bcm hr),Cqn]
 generalize wd (G5 f c true) (c/64)=y at hor hE
 generalize wd f (c/64)=x at hor E7
 replace hE:=J0 hE
 clear hb hat
 go_enter func234,ntmps234
 go_wp2
 go_region
 go_end0
 exact hE.out
theorem Azr(f:Nat->Bool)(c:Nat)(hc:c<512)(d o:Nat)(t:TypeId)(cs:Array Value)(w:World)(hb:Block w d t cs)(hat:cs[o+c/64]?=some (.int .u64 (wd f (c/64)))) :
  Calls prog 106 #[.pointer (some ⟨d,o,none⟩),.int .i64 c] w (Bit w d o t cs f c false):=by
 have E7:=hb.cell _ hat
 have hfr:=hb.free (o+c/64)
 have hq:c/64<8:=by omega
 have hr:c % 64<64:=by omega
 have hE:=Blc (o:=o) (f:=f) (c:=c) (b:=false) hb (v:=.tuple #[])
 have hor:bits BinOp.andNot IntKind.u64 (wd f (c/64)) (IntKind.u64.wrap (2^(c % 64)))=(wd (G5 f c false) (c/64):Nat):=by
  rw[Bkt hr,Bfz _ _ (Afd _ _) (Bcm hr),Cqm]
 generalize wd (G5 f c false) (c/64)=y at hor hE
 generalize wd f (c/64)=x at hor E7
 replace hE:=J0 hE
 clear hb hat
 go_enter func106,ntmps106
 go_wp2
 go_region
 go_end0
 exact hE.out
theorem Aue(n:Int)(hlo:-9223372036854775808<=n)(hhi:n<=9223372036854775807)(w:World):Calls prog 150 #[.int .i64 n] w fun e w'=>e=.returned (.int .u64 (Abh n))/\w=w':=by
 by_cases h0:n<=0
 ·have hE:Hid (((0:Nat):Int)=(Abh n:Nat)):=by
   show _=_
   unfold Abh Ajw
   rw[show min n.toNat 64=0 by omega]
  go_enter func150,ntmps150
  go_wp2
  all_goals(first|omega|skip)
  all_goals
   go_ret
   exact⟨G6 hE.out,rfl⟩
 by_cases h1:64<n
 ·have hE:Hid (((18446744073709551615:Nat):Int)=(Abh n:Nat)):=by
   show _=_
   unfold Abh Ajw
   rw[show min n.toNat 64=64 by omega]
  go_enter func150,ntmps150
  go_wp2
  all_goals(first|omega|skip)
  all_goals
   go_ret
   exact⟨G6 hE.out,rfl⟩
 ·obtain⟨k,rfl⟩:∃k:Nat,n=k:=⟨n.toNat,by omega⟩
  have hk:1<=k/\k<=64:=by omega
  obtain⟨hk1,hk2⟩:=hk
  have hE:Hid (IntKind.u64.wrap (IntKind.u64.wrap (2^k)-1)=(Abh (k:Int):Nat)):=by
   show _=_
   unfold Abh Ajw
   rw[Cga hk2,show min (k:Int).toNat 64=k by omega]
  go_enter func150,ntmps150
  go_wp2
  all_goals(first|omega|skip)
  all_goals
   go_ret
   exact⟨G6 hE.out,rfl⟩
