/- Part 17 of HostSplits. -/
import Derived.Test.YtecnpoigegiooaaGreatDoorP09
import Derived.Laws.Bits64b
import Derived.Lib.TrailingZeros
import Derived.Laws.Bits128
set_option maxHeartbeats 16000000
set_option maxRecDepth 100000
namespace Go.Proofs.YtecnpoigegiooaaGreatDoor.Rw
open Go RowKit Com
def Aj5 (c:Cel):Bool:=(c.r != 32) || ((decide (0<c.m.length)) || (c.wide != 0))
theorem filled_any (c:Cel) (w:World):Calls Tryz.prog 225 #[.agg (cellC c).toArray] w fun e w'=>e=.returned (.bool (Aj5 c))/\Below w.heap.size w w':=by
 obtain⟨r,m,wd,⟨af,ab,ag⟩⟩:=c
 obtain⟨p0,p1,p2,p3,hp⟩:∃p0 p1 p2 p3,pad4 m=[p0,p1,p2,p3]:=by
  have h4:=pad4_length m
  generalize pad4 m=q at h4
  match q,h4 with
  |[a,b,c,d],_=>exact⟨a,b,c,d,rfl⟩
 have hC:(cellC ⟨r,m,wd,⟨af,ab,ag⟩⟩).toArray=#[.int .i32 r,.int .i32 p0,.int .i32 p1,.int .i32 p2,.int .i32 p3,.int .u8 m.length,.int .u8 wd,.int .u32 af,.int .u32 ab,.int .u16 ag]:=by simp[cellC,hp,attV]
 rw[hC]
 obtain⟨b,hb⟩:∃b,b=Aj5 ⟨r,m,wd,⟨af,ab,ag⟩⟩:=⟨_,rfl⟩
 rw[<- hb]
 unfold Aj5 at hb
 simp only at hb
 generalize m.length=k at hb |-
 replace hb:=J0 hb
 clear hp hC
 go_enter Tryz.func225,Tryz.ntmps225
 go_wp2
 all_goals
  go_ret
  exact⟨Ab6 (by rw[hb.out,Bool.eq_iff_iff];simp<;>omega),Aa1 _ _⟩
def Cf1 (w:World) (sp:Option Addr) (L:List Cel):Prop:=∀i (hi:i<L.length),∃g o,sp=some ⟨g,o,none⟩/\g<w.heap.size/\∀j v,(cellC L[i])[j]?=some v->w.cell? ⟨g,o+i*10+j,none⟩=some v
def IdxDone (w:World) (L:List Cel) (e:Ending) (w':World):Prop:=∃n:Int,e=.returned (.int .i64 n)/\(0<=n↔L.any Aj5=true)/\-1<=n/\Below w.heap.size w w'
theorem index_any (L:List Cel) (sp:Option Addr) (c:Nat) (hc:c<=maxLen) (hl:L.length<=c) (w:World) (h:Cf1 w sp L) :
  Calls Tryz.prog 267 #[.slice sp L.length c,.func (.func 225) #[] #[]] w (IdxDone w L):=by
 unfold maxLen at hc
 obtain⟨m,hm⟩:∃m,m=L.length:=⟨_,rfl⟩
 rw[<- hm] at hl |-
 replace hm:=J0 hm
 replace h:=J0 h
 go_enter Tryz.func267,Tryz.ntmps267
 go_wp2
 go_loopw [8] (fun i wr=>∃k:Nat,k<=m/\i=.int .i64 k/\Hid (Below w.heap.size w wr/\(L.take k).any Aj5=false)) (fun i _=>m - (intOf i).toNat)
 case atStart=>exact⟨0,Nat.zero_le _,rfl,J0 ⟨Below.refl _ _,by simp⟩⟩
 case round =>
  obtain⟨k,hk,rfl,hR⟩:=hrel
  have hm':=hm.out
  obtain⟨hb,hn⟩:=hR.out
  by_cases hlt:k<m
  ·have hkl:k<L.length:=by omega
   obtain⟨g,o,rfl,hg,hcell⟩:=h.out k hkl
   have hld:∀j v,(cellC L[k])[j]?=some v->wr.cell? ((⟨g,o+k*10,none⟩:Addr).add j)=some v:=fun j v hj=>by
    rw[Addr.add_lit,hb.cell hg]
    exact hcell j v hj
   have hfi:=fun w=>filled_any L[k] w
   have hC10:=Ca4 L[k]
   have htk:(L.take (k+1)).any Aj5=Aj5 L[k]:=by
    rw[List.take_add_one,List.getElem?_eq_getElem hkl,List.any_append,hn]
    simp
   have hany:Aj5 L[k]=true->L.any Aj5=true:=fun hf=>List.any_eq_true.2 ⟨_,List.getElem_mem hkl,hf⟩
   generalize L[k]=c at hld hfi hC10 htk hany
   generalize cellC c=C at hld hfi hC10
   replace hld:=J0 hld
   replace hC10:=J0 hC10
   replace hb:=J0 hb
   clear hn hm' hcell
   by_cases hf:Aj5 c=true
   ·rw[hf] at hfi
    replace hany:=J0 (hany hf)
    replace hfi:=J0 hfi
    clear hf htk
    go_wp2_with (first
     |(with_reducible refine J9 15 14 ?_;go_must (refine wpList_loadAt rfl 194 (.tmp 14) rfl ⟨g,o+k*10,none⟩ rfl C _ hld.out Tryz.underlying194 rfl hC10.out ?_))
     |(go_at_call 225;(with_reducible refine(hfi.out _).mono ?_);rintro e w1 ⟨rfl,hb1⟩))
    go_ret
    exact⟨(k:Int),rfl,⟨fun _=>hany.out,fun _=>by omega⟩,by omega,Aa0 hb.out hb1⟩
   ·have hf:Aj5 c=false:=by simpa using hf
    rw[hf] at hfi htk
    replace htk:=J0 htk
    replace hfi:=J0 hfi
    clear hf hany
    go_wp2_with (first
     |(with_reducible refine J9 15 14 ?_;go_must (refine wpList_loadAt rfl 194 (.tmp 14) rfl ⟨g,o+k*10,none⟩ rfl C _ hld.out Tryz.underlying194 rfl hC10.out ?_))
     |(go_at_call 225;(with_reducible refine(hfi.out _).mono ?_);rintro e w1 ⟨rfl,hb1⟩))
    have hb2:=J0 (Aa0 hb.out hb1)
    clear hb1
    go_roundw
    case rel=>exact⟨k+1,by omega,by go_num,J0 ⟨hb2.out,htk.out⟩⟩
    case measure=>simp[intOf];omega
  ·obtain rfl:k=m:=by omega
   have hno:L.any Aj5=false:=by rw[<- List.take_of_length_le (l:=L) (i:=k) (by omega)];exact hn
   replace hno:=J0 hno
   replace hb:=J0 hb
   clear hn hm' hR
   go_wp2
   go_ret
   exact⟨-1,rfl,⟨fun h=>by omega,fun h=>by rw[hno.out] at h;cases h⟩,by omega,hb.out⟩
theorem contains_any (L:List Cel) (sp:Option Addr) (c:Nat) (hc:c<=maxLen) (hl:L.length<=c) (w:World) (h:Cf1 w sp L) :
  Calls Tryz.prog 224 #[.slice sp L.length c,.func (.func 225) #[] #[]] w fun e w'=>e=.returned (.bool (L.any Aj5))/\Below w.heap.size w w':=by
 have hi:=J0 (index_any L sp c hc hl w h)
 generalize L.length=m at hi |-
 clear h hl hc
 go_enter Tryz.func224,Tryz.ntmps224
 go_wp2_with ((go_at_call 267;(with_reducible refine(hi.out).mono ?_);rintro e w1 ⟨n,rfl,hn,hn1,hb1⟩;replace hn:=J0 hn))
 go_ret
 exact⟨Ab6 (by rw[Bool.eq_iff_iff];simpa using hn.out),hb1⟩
def Ao9 (l:List Cel) (k:Int):Bool:=!((l.drop k.toNat).any Aj5)
theorem drop_held (l:List Cel) (k:Int):l.drop (Ab0 k l.length)=l.drop k.toNat:=by
 unfold Ab0
 rcases Nat.le_total k.toNat l.length with h|h
 ·rw[Nat.min_eq_left h]
 ·rw[Nat.min_eq_right h,List.drop_length,List.drop_eq_nil_of_le h]
theorem blank'_any {w:World} {d g n cap:Nat} {tail:List Value} {l:List Cel} (h:RowX w d g n cap tail l) (from':Int) :
  Calls Tryz.prog 168 #[.pointer (some ⟨d,0,none⟩),.int .i64 from'] w fun e w'=>e=.returned (.bool (Ao9 l from'))/\Below w.heap.size w w':=by
 have hn:=h.pos
 have hn5:=h.small
 have hle:=h.le
 have hcm:=h.cap
 have hcm':=h.cap
 unfold maxLen at hcm'
 have hn0:((n:Int) == 0)=false:=beq_eq_false_iff_ne.2 (by omega)
 have hlen:=J0 (Ag5 h)
 have hc:=h.slice
 have hcd:=h.drawn.slice
 have hp:Ab0 from' n<=n:=Nat.min_le_right _ _
 have hh:=Ah3 from' n
 have hdr:=drop_held l from'
 rw[h.len] at hdr
 have hE:Ao9 l from' = !((l.drop (Ab0 from' n)).any Aj5):=by unfold Ao9;rw[hdr]
 rw[hE]
 clear hE hdr
 generalize Ab0 from' n=p at hh hp |-
 obtain⟨ad1,had1⟩:∃ad1,(if cap=p then (some ⟨g,0,none⟩:Option Addr) else some ⟨g,p*10,none⟩)=ad1:=⟨_,rfl⟩
 have hcel:∀w',Below w.heap.size w w'->Cf1 w' ad1 (l.drop p):=by
  intro w' hb i hi
  have hi2:p+i<l.length:=by simp at hi;omega
  have hne:cap≠p:=by have:=h.len;omega
  refine⟨g,p*10,by rw[<- had1,if_neg hne],(h.below hb).row.lt,fun j v hj=>?_⟩
  rw[List.getElem_drop] at hj
  have hj10:=(List.getElem?_eq_some_iff.1 hj).1
  rw[cellC_length] at hj10
  have:=(h.below hb).at' hi2 hj10 hj
  rw[show p*10+i*10+j=(p+i)*10+j by omega]
  exact this
 have hL:(l.drop p).length=n - p:=by rw[List.length_drop,h.len]
 have hcon:=fun w' (hb:Below w.heap.size w w')=>contains_any (l.drop p) ad1 (cap - p) (by omega) (by rw[hL];omega) w' (hcel w' hb)
 rw[hL] at hcon
 generalize (l.drop p).any Aj5=b at hcon |-
 have hsl:=fun w' (hb:Below w.heap.size w w')=>(h.below hb).slice
 replace hcon:=J0 hcon
 replace hsl:=J0 hsl
 replace hh:=J0 hh
 have hw0:(0:Int)<=(p:Int):=by omega
 have hw1:(p:Int)<=(n:Int):=by omega
 have hw2:p<=cap:=by omega
 have hbd:Below w.heap.size w w.drew:=Aa4 (Below.refl _ _) 1
 clear h hcel hL
 go_enter Tryz.func168,Tryz.ntmps168
 go_wp2_with ((go_at_call 99;(with_reducible refine(hlen.out).mono ?_);rintro e w' ⟨rfl,rfl⟩))
 go_region_held3 (fun w'=>w'.cell? ⟨d,0,none⟩=some (.slice (some ⟨g,0,none⟩) n cap))
  (first|exact hc|exact hcd|exact hsl.out _ hb1|go_keep)
  (first
   |(go_at_call 215;(with_reducible refine(hh.out _).mono ?_);rintro e w' ⟨rfl,rfl⟩)
   |(go_at_call 224;(with_reducible refine(hcon.out _ hbd).mono ?_);rintro e w1 ⟨rfl,hb1'⟩;have hb1:Below w.heap.size w w1:=Aa0 hbd hb1'))
 go_wp2
 go_ret
 exact⟨rfl,hb1⟩
end Go.Proofs.YtecnpoigegiooaaGreatDoor.Rw
namespace Go.Proofs.YtecnpoigegiooaaGreatDoor.Tbs
open Go
def pack (g:Nat->Bool):Nat->Nat
 |0=>0
 |n+1=>pack g n ||| (if g n then 2 ^ n else 0)
theorem pack_bit (g:Nat->Bool) (n j:Nat):(pack g n).testBit j=(decide (j<n) && g j):=by
 induction n with
 |zero=>simp[pack]
 |succ n ih =>
  rw[pack,Nat.testBit_or,ih]
  by_cases hj:j=n
  ·subst hj
   by_cases hg:g j=true
   ·simp[hg]
   ·simp[hg]
  ·have h2:(if g n=true then 2 ^ n else 0).testBit j=false:=by
    split
    ·rw[Nat.testBit_two_pow];simp;omega
    ·simp
   rw[h2,Bool.or_false]
   have:decide (j<n+1)=decide (j<n):=by rw[decide_eq_decide];omega
   rw[this]
def wd (f:Nat->Bool) (i:Nat):Nat:=pack (fun j=>f (64*i+j)) 64
theorem wd_bit (f:Nat->Bool) (i j:Nat):(wd f i).testBit j=(decide (j<64) && f (64*i+j)):=pack_bit _ _ _
theorem lt_of_bits {x n:Nat} (h:∀j,n<=j->x.testBit j=false):x<2 ^ n:=Nat.lt_pow_two_of_testBit x h
theorem Bi3 (f:Nat->Bool) (i:Nat):wd f i<18446744073709551616 :=
 lt_of_bits (n:=64) fun j hj=>by rw[wd_bit];simp;omega
theorem Ce8 {f:Nat->Bool} {i x:Nat} (hx:x<18446744073709551616) (h:∀j,j<64->x.testBit j=f (64*i+j)):x=wd f i:=by
 apply Nat.eq_of_testBit_eq
 intro j
 rw[wd_bit]
 by_cases hj:j<64
 ·simp[hj,h j hj]
 ·simp only[hj,decide_false,Bool.false_and]
  exact Nat.testBit_lt_two_pow (Nat.lt_of_lt_of_le hx (show 2 ^ 64<=2 ^ j from Nat.pow_le_pow_right (by decide) (by omega)))
theorem As1 {f g:Nat->Bool} {i:Nat} (h:∀j,j<64->f (64*i+j)=g (64*i+j)):wd f i=wd g i :=
 Ce8 (Bi3 f i) fun j hj=>by rw[wd_bit];simp[hj,h j hj]
theorem wd_zero {f:Nat->Bool} {i:Nat} (h:∀j,j<64->f (64*i+j)=false):wd f i=0 :=
 (Ce8 (by decide) fun j hj=>by simp[h j hj]).symm
def putF (f:Nat->Bool) (c:Nat) (b:Bool):Nat->Bool:=fun x=>if x=c then b else f x
theorem wd_put (f:Nat->Bool) (c:Nat):wd f (c / 64) ||| 2 ^ (c % 64)=wd (putF f c true) (c / 64) :=
 Ce8 (show _<2 ^ 64 from Nat.or_lt_two_pow (Bi3 _ _) (Nat.pow_lt_pow_right (by decide) (by omega))) fun j hj=>by
  rw[Nat.testBit_or,wd_bit,Nat.testBit_two_pow]
  unfold putF
  by_cases e:j=c % 64
  ·have:64*(c / 64)+j=c:=by omega
   rw[if_pos this,e]
   simp
  ·have:¬64*(c / 64)+j=c:=by omega
   have e':¬c % 64=j:=fun h=>e h.symm
   simp[this,e',hj]
def sub (a b:Nat):Nat:=a &&& (18446744073709551615 - b)
theorem not_bit {b:Nat} (hb:b<18446744073709551616) (j:Nat):(18446744073709551615 - b).testBit j=(decide (j<64) && !b.testBit j):=by
 have:=Nat.testBit_two_pow_sub_succ (x:=b) (n:=64) hb j
 rw[show 18446744073709551615 - b=2 ^ 64 - (b+1) by omega,this]
theorem Cn5 {a b:Nat} (hb:b<18446744073709551616) (j:Nat):(sub a b).testBit j=(a.testBit j && decide (j<64) && !b.testBit j):=by
 unfold sub
 rw[Nat.testBit_and,not_bit hb,Bool.and_assoc]
theorem Cn6 {a b:Nat} (ha:a<18446744073709551616):sub a b<18446744073709551616:=Nat.lt_of_le_of_lt Nat.and_le_left ha
theorem wd_off (f:Nat->Bool) (c:Nat):sub (wd f (c / 64)) (2 ^ (c % 64))=wd (putF f c false) (c / 64):=by
 have hc:2 ^ (c % 64)<18446744073709551616:=show _<2 ^ 64 from Nat.pow_lt_pow_right (by decide) (by omega)
 refine Ce8 (Cn6 (Bi3 _ _)) fun j hj=>?_
 rw[Cn5 hc,wd_bit,Nat.testBit_two_pow]
 unfold putF
 by_cases e:j=c % 64
 ·have:64*(c / 64)+j=c:=by omega
  rw[if_pos this,e]
  simp
 ·have:¬64*(c / 64)+j=c:=by omega
  have e':¬c % 64=j:=fun h=>e h.symm
  simp[this,e',hj]
theorem Cd5 (f:Nat->Bool) (c:Nat) (b:Bool) {i:Nat} (h:i≠c / 64):wd (putF f c b) i=wd f i :=
 As1 fun j hj=>by
  unfold putF
  rw[if_neg (by omega)]
def Br7 (n:Int):Nat:=min n.toNat 64
def lowF (n:Int):Nat:=2 ^ Br7 n - 1
theorem Ca6 (n:Int):lowF n<18446744073709551616:=by
 have h1:0<2 ^ Br7 n:=Nat.pow_pos (by decide)
 have h2:2 ^ Br7 n<=2 ^ 64:=Nat.pow_le_pow_right (by decide) (by unfold Br7;omega)
 unfold lowF
 omega
theorem Cj1 (n:Int) (j:Nat) (hj:j<64):(lowF n).testBit j=decide ((j:Int)<n):=by
 unfold lowF Br7
 rw[Nat.testBit_two_pow_sub_one,decide_eq_decide]
 omega
def inF (f:Nat->Bool) (a b:Int):Nat->Bool:=fun c=>f c && (decide (a<=(c:Int)) && decide ((c:Int)<b))
theorem wd_in (f:Nat->Bool) (a b:Int) (i:Nat):wd f i &&& sub (lowF (b - 64*(i:Int))) (lowF (a - 64*(i:Int)))=wd (inF f a b) i:=by
 refine Ce8 (Nat.lt_of_le_of_lt Nat.and_le_left (Bi3 _ _)) fun j hj=>?_
 rw[Nat.testBit_and,wd_bit,Cn5 (Ca6 _),Cj1 _ _ hj,Cj1 _ _ hj]
 unfold inF
 have e1:decide ((j:Int)<b - 64*(i:Int))=decide (((64*i+j:Nat):Int)<b):=by rw[decide_eq_decide];omega
 have e2:(!decide ((j:Int)<a - 64*(i:Int)))=decide (a<=((64*i+j:Nat):Int)):=by
  rw[<- decide_not,decide_eq_decide];omega
 rw[e1,e2]
 simp only[hj,decide_true,Bool.true_and,Bool.and_true]
 cases f (64*i+j)<;>cases decide (((64*i+j:Nat):Int)<b)<;>cases decide (a<=((64*i+j:Nat):Int))<;>rfl
def ds (b:Nat):Nat->Nat->Nat
 |0,_=>0
 |n+1,x=>x % b+ds b n (x / b)
def Dle (b m:Nat):Nat->Nat->Prop
 |0,x=>x=0
 |n+1,x=>x % b<=m/\Dle b m n (x / b)
theorem Dle.le {b m:Nat} (hb:2<=b):∀ {n x:Nat},Dle b m n x->(b - 1)*x+m<=m*b ^ n
 |0,x,h=>by unfold Dle at h;subst h;simp
 |n+1,x,h=>by
  obtain⟨h1,h2⟩:=h
  have ih:=Dle.le hb h2
  have e:=Nat.div_add_mod x b
  have e2:(b - 1)*x=b*((b - 1)*(x / b))+(b - 1)*(x % b):=by
   conv=>lhs;rw[<- e]
   rw[Nat.mul_add,<- Nat.mul_assoc,<- Nat.mul_assoc,Nat.mul_comm (b - 1) b]
  have e3:m*b ^ (n+1)=b*(m*b ^ n):=by rw[Nat.pow_succ,<- Nat.mul_assoc,Nat.mul_comm]
  have e4:(b - 1)*(x % b)<=(b - 1)*m:=Nat.mul_le_mul_left _ h1
  have e5:b*((b - 1)*(x / b)+m)<=b*(m*b ^ n):=Nat.mul_le_mul_left _ ih
  rw[Nat.mul_add] at e5
  have e6:(b - 1)*m+m=b*m:=by
   conv=>rhs;rw[show b=(b - 1)+1 by omega]
   rw[Nat.add_mul,Nat.one_mul]
  rw[e2,e3]
  omega
theorem Bd8 (k a m c:Nat) (hc:c<2 ^ k):a &&& (2 ^ k*m+c)=2 ^ k*((a / 2 ^ k) &&& m)+((a % 2 ^ k) &&& c):=by
 have hlt:(a % 2 ^ k) &&& c<2 ^ k:=Nat.lt_of_le_of_lt Nat.and_le_right hc
 apply Nat.eq_of_testBit_eq
 intro j
 rw[Nat.testBit_and,Nat.testBit_two_pow_mul_add _ hc,Nat.testBit_two_pow_mul_add _ hlt]
 by_cases hj:j<k
 ·simp[hj,Nat.testBit_and,Nat.testBit_mod_two_pow]
 ·simp only[hj,if_false,Nat.testBit_and,Nat.testBit_div_two_pow]
  rw[show j - k+k=j by omega]
theorem and_4 (a m:Nat):a &&& (4*m+1)=4*((a / 4) &&& m)+a % 2:=by
 have:=Bd8 2 a m 1 (by decide)
 have e:=Nat.and_two_pow_sub_one_eq_mod (a % 4) 1
 rw[show 2 ^ 1 - 1=1 from rfl] at e
 simp only[show (2:Nat) ^ 2=4 from rfl] at this
 rw[this,e]
 omega
theorem and_16 (a m:Nat):a &&& (16*m+3)=16*((a / 16) &&& m)+a % 4:=by
 have:=Bd8 4 a m 3 (by decide)
 have e:=Nat.and_two_pow_sub_one_eq_mod (a % 16) 2
 rw[show 2 ^ 2 - 1=3 from rfl] at e
 simp only[show (2:Nat) ^ 4=16 from rfl] at this
 rw[this,e]
 omega
theorem and_256 (a m:Nat):a &&& (256*m+15)=256*((a / 256) &&& m)+a % 16:=by
 have:=Bd8 8 a m 15 (by decide)
 have e:=Nat.and_two_pow_sub_one_eq_mod (a % 256) 4
 rw[show 2 ^ 4 - 1=15 from rfl] at e
 simp only[show (2:Nat) ^ 8=256 from rfl] at this
 rw[this,e]
 omega
def mk (b c:Nat):Nat->Nat
 |0=>0
 |n+1=>b*mk b c n+c
theorem mk1:mk 4 1 32=6148914691236517205:=by decide
theorem mk2:mk 16 3 16=3689348814741910323:=by decide
theorem mk3:mk 256 15 8=1085102592571150095:=by decide
theorem Cv2:∀(n x:Nat),ds 4 n ((x / 2 &&& mk 4 1 n)+(x &&& mk 4 1 n))=ds 2 (2*n) x/\Dle 4 2 n ((x / 2 &&& mk 4 1 n)+(x &&& mk 4 1 n))
 |0,x=>by simp[ds,Dle,mk]
 |n+1,x=>by
  obtain⟨h1,h2⟩:=Cv2 n (x / 4)
  have e:(x / 2 &&& mk 4 1 (n+1))+(x &&& mk 4 1 (n+1))=4*((x / 4 / 2 &&& mk 4 1 n)+(x / 4 &&& mk 4 1 n))+(x / 2 % 2+x % 2):=by
   show (x / 2 &&& (4*mk 4 1 n+1))+(x &&& (4*mk 4 1 n+1))=_
   rw[and_4,and_4,show x / 2 / 4=x / 4 / 2 by omega]
   omega
  rw[e]
  generalize (x / 4 / 2 &&& mk 4 1 n)+(x / 4 &&& mk 4 1 n)=y at h1 h2
  have e1:(4*y+(x / 2 % 2+x % 2)) % 4=x / 2 % 2+x % 2:=by omega
  have e2:(4*y+(x / 2 % 2+x % 2)) / 4=y:=by omega
  refine⟨?_,?_⟩
  ·show (4*y+(x / 2 % 2+x % 2)) % 4+ds 4 n ((4*y+(x / 2 % 2+x % 2)) / 4)=x % 2+(x / 2 % 2+ds 2 (2*n) (x / 2 / 2))
   rw[e1,e2,h1,show x / 2 / 2=x / 4 by omega]
   omega
  ·show (4*y+(x / 2 % 2+x % 2)) % 4<=2/\Dle 4 2 n ((4*y+(x / 2 % 2+x % 2)) / 4)
   rw[e1,e2]
   exact⟨by omega,h2⟩
theorem Cv3:∀(n x:Nat),Dle 4 2 (2*n) x->ds 16 n ((x / 4 &&& mk 16 3 n)+(x &&& mk 16 3 n))=ds 4 (2*n) x/\Dle 16 4 n ((x / 4 &&& mk 16 3 n)+(x &&& mk 16 3 n))
 |0,x,_=>by simp[ds,Dle,mk]
 |n+1,x,h=>by
  obtain⟨g1,g2,g3⟩:x % 4<=2/\x / 4 % 4<=2/\Dle 4 2 (2*n) (x / 4 / 4):=h
  rw[show x / 4 / 4=x / 16 by omega] at g3
  obtain⟨h1,h2⟩:=Cv3 n (x / 16) g3
  have e:(x / 4 &&& mk 16 3 (n+1))+(x &&& mk 16 3 (n+1))=16*((x / 16 / 4 &&& mk 16 3 n)+(x / 16 &&& mk 16 3 n))+(x / 4 % 4+x % 4):=by
   show (x / 4 &&& (16*mk 16 3 n+3))+(x &&& (16*mk 16 3 n+3))=_
   rw[and_16,and_16,show x / 4 / 16=x / 16 / 4 by omega]
   omega
  rw[e]
  generalize (x / 16 / 4 &&& mk 16 3 n)+(x / 16 &&& mk 16 3 n)=y at h1 h2
  have e1:(16*y+(x / 4 % 4+x % 4)) % 16=x / 4 % 4+x % 4:=by omega
  have e2:(16*y+(x / 4 % 4+x % 4)) / 16=y:=by omega
  refine⟨?_,?_⟩
  ·show (16*y+(x / 4 % 4+x % 4)) % 16+ds 16 n ((16*y+(x / 4 % 4+x % 4)) / 16)=x % 4+(x / 4 % 4+ds 4 (2*n) (x / 4 / 4))
   rw[e1,e2,h1,show x / 4 / 4=x / 16 by omega]
   omega
  ·show (16*y+(x / 4 % 4+x % 4)) % 16<=4/\Dle 16 4 n ((16*y+(x / 4 % 4+x % 4)) / 16)
   rw[e1,e2]
   exact⟨by omega,h2⟩
theorem Dle.head {b m n x:Nat} (h:Dle b m n x):x % b<=m:=by
 cases n with
 |zero=>unfold Dle at h;subst h;simp
 |succ n=>exact h.1
theorem Cv4:∀(n x:Nat),Dle 16 4 (2*n) x->ds 256 n ((x / 16+x) &&& mk 256 15 n)=ds 16 (2*n) x/\Dle 256 8 n ((x / 16+x) &&& mk 256 15 n)
 |0,x,_=>by simp[ds,Dle,mk]
 |n+1,x,h=>by
  obtain⟨g1,g2,g3⟩:x % 16<=4/\x / 16 % 16<=4/\Dle 16 4 (2*n) (x / 16 / 16):=h
  rw[show x / 16 / 16=x / 256 by omega] at g3
  have g4:=g3.head
  obtain⟨h1,h2⟩:=Cv4 n (x / 256) g3
  have e:(x / 16+x) &&& mk 256 15 (n+1)=256*((x / 256 / 16+x / 256) &&& mk 256 15 n)+(x / 16 % 16+x % 16):=by
   show (x / 16+x) &&& (256*mk 256 15 n+15)=_
   obtain⟨q,s,t,p,hx,hs,ht,hp⟩:∃q s t p,x=4096*q+256*p+16*s+t/\s<=4/\t<=4/\p<=4:=⟨x / 4096,x / 16 % 16,x % 16,x / 256 % 16,by omega,g2,g1,g4⟩
   have k1:x / 16=256*q+16*p+s:=by omega
   have k2:x / 256=16*q+p:=by omega
   have k3:(16*q+p) / 16=q:=by omega
   have k4:(256*q+16*p+s+x) / 256=q+(16*q+p):=by omega
   have k5:(256*q+16*p+s+x) % 16=s+t:=by omega
   have k6:(256*q+16*p+s) % 16=s:=by omega
   have k7:x % 16=t:=by omega
   rw[and_256,k1,k2,k3,k4,k5,k6,k7]
  rw[e]
  generalize (x / 256 / 16+x / 256) &&& mk 256 15 n=y at h1 h2
  have e1:(256*y+(x / 16 % 16+x % 16)) % 256=x / 16 % 16+x % 16:=by omega
  have e2:(256*y+(x / 16 % 16+x % 16)) / 256=y:=by omega
  refine⟨?_,?_⟩
  ·show (256*y+(x / 16 % 16+x % 16)) % 256+ds 256 n ((256*y+(x / 16 % 16+x % 16)) / 256)=x % 16+(x / 16 % 16+ds 16 (2*n) (x / 16 / 16))
   rw[e1,e2,h1,show x / 16 / 16=x / 256 by omega]
   omega
  ·show (256*y+(x / 16 % 16+x % 16)) % 256<=8/\Dle 256 8 n ((256*y+(x / 16 % 16+x % 16)) / 256)
   rw[e1,e2]
   exact⟨by omega,h2⟩
theorem Dle.cons {b m n x:Nat} (h:Dle b m (n+1) x):∃r y,r<=m/\x=r+b*y/\Dle b m n y/\ds b (n+1) x=r+ds b n y :=
 ⟨x % b,x / b,h.1,(Nat.mod_add_div x b).symm,h.2,rfl⟩
theorem bytes_of {z:Nat} (h:Dle 256 8 8 z):∃a b c d e f g i:Nat,a<=8/\b<=8/\c<=8/\d<=8/\e<=8/\f<=8/\g<=8/\i<=8 /\
  z=a+256*(b+256*(c+256*(d+256*(e+256*(f+256*(g+256*i))))))/\ds 256 8 z=a+(b+(c+(d+(e+(f+(g+i)))))):=by
 obtain⟨a,z1,ha,rfl,h1,e1⟩:=h.cons
 obtain⟨b,z2,hb,rfl,h2,e2⟩:=h1.cons
 obtain⟨c,z3,hc,rfl,h3,e3⟩:=h2.cons
 obtain⟨d,z4,hd,rfl,h4,e4⟩:=h3.cons
 obtain⟨e,z5,he,rfl,h5,e5⟩:=h4.cons
 obtain⟨f,z6,hf,rfl,h6,e6⟩:=h5.cons
 obtain⟨g,z7,hg,rfl,h7,e7⟩:=h6.cons
 obtain⟨i,z8,hi,rfl,h8,e8⟩:=h7.cons
 unfold Dle at h8
 subst h8
 refine⟨a,b,c,d,e,f,g,i,ha,hb,hc,hd,he,hf,hg,hi,by rw[Nat.mul_zero,Nat.add_zero],?_⟩
 exact e1.trans (congrArg _ (e2.trans (congrArg _ (e3.trans (congrArg _ (e4.trans (congrArg _ (e5.trans (congrArg _ (e6.trans (congrArg _ (e7.trans (congrArg _ (e8.trans (Nat.add_zero i)))))))))))))))
theorem fold1 {a b c d e f g i z:Nat} (ha:a<=8) (hz:z=a+256*(b+256*(c+256*(d+256*(e+256*(f+256*(g+256*i))))))) :
  z+z / 256=(a+b)+256*((b+c)+256*((c+d)+256*((d+e)+256*((e+f)+256*((f+g)+256*((g+i)+256*i)))))):=by
 have h:z / 256=b+256*(c+256*(d+256*(e+256*(f+256*(g+256*i))))):=by
  generalize b+256*(c+256*(d+256*(e+256*(f+256*(g+256*i)))))=y at hz
  omega
 rw[h,hz]
 omega
theorem fold2 {a b c d e f g i z:Nat} (ha:a<=16) (hb:b<=16) (hz:z=a+256*(b+256*(c+256*(d+256*(e+256*(f+256*(g+256*i))))))) :
  z+z / 65536=(a+c)+256*((b+d)+256*((c+e)+256*((d+f)+256*((e+g)+256*((f+i)+256*(g+256*i)))))):=by
 have h:z / 65536=c+256*(d+256*(e+256*(f+256*(g+256*i)))):=by
  generalize c+256*(d+256*(e+256*(f+256*(g+256*i))))=y at hz
  omega
 rw[h,hz]
 omega
theorem fold3 {a b c d e f g i z:Nat} (ha:a<=32) (hb:b<=32) (hc:c<=32) (hd:d<=32) (he:e<=32) (hz:z=a+256*(b+256*(c+256*(d+256*(e+256*(f+256*(g+256*i))))))) :
  (z+z / 4294967296) % 128=a+e:=by
 have h:z / 4294967296=e+256*(f+256*(g+256*i)):=by
  generalize e+256*(f+256*(g+256*i))=y at hz
  omega
 rw[h]
 have h2:z+(e+256*(f+256*(g+256*i)))=(a+e)+128*(2*(b+256*(c+256*(d+256*(e+256*(f+256*(g+256*i))))))+2*(f+256*(g+256*i))):=by
  rw[hz]
  omega
 rw[h2]
 generalize 2*(b+256*(c+256*(d+256*(e+256*(f+256*(g+256*i))))))+2*(f+256*(g+256*i))=y
 omega
theorem pow8:(256:Nat) ^ 8=18446744073709551616:=by decide
theorem dle_lt {z:Nat} (h:Dle 256 8 8 z):z<600000000000000000:=by
 have hle:=h.le (by decide)
 rw[pow8] at hle
 omega
theorem fold_lt1 {z:Nat} (hb:z<600000000000000000):z+z / 256<700000000000000000:=by omega
theorem fold_lt2 {z:Nat} (hb:z<700000000000000000):z+z / 65536<800000000000000000:=by omega
theorem fold_lt3 {z:Nat} (hb:z<800000000000000000):z+z / 4294967296<900000000000000000:=by omega
theorem le16 {a b:Nat} (ha:a<=8) (hb:b<=8):a+b<=16:=by omega
theorem le32 {a b:Nat} (ha:a<=16) (hb:b<=16):a+b<=32:=by omega
theorem fold_all {z:Nat} (h:Dle 256 8 8 z):∃z1 z2 z3:Nat,z1=z+z / 256/\z2=z1+z1 / 65536/\z3=z2+z2 / 4294967296/\z1<900000000000000000/\z2<900000000000000000/\z3<900000000000000000/\z3 % 128=ds 256 8 z:=by
 have b0:=dle_lt h
 obtain⟨a,b,c,d,e,f,g,i,ha,hb,hc,hd,he,hf,hg,hi,hz,hs⟩:=bytes_of h
 clear h
 have f1:=fold1 ha hz
 have b1:=fold_lt1 b0
 generalize hz1:z+z / 256=z1 at f1 b1
 have f2:=fold2 (a:=a+b) (b:=b+c) (c:=c+d) (d:=d+e) (e:=e+f) (f:=f+g) (g:=g+i) (i:=i) (le16 ha hb) (le16 hb hc) f1
 have b2:=fold_lt2 b1
 generalize hz2:z1+z1 / 65536=z2 at f2 b2
 have f3:=fold3 (a:=a+b+(c+d)) (b:=b+c+(d+e)) (c:=c+d+(e+f)) (d:=d+e+(f+g)) (e:=e+f+(g+i)) (f:=f+g+i) (g:=g+i) (i:=i) (le32 (le16 ha hb) (le16 hc hd)) (le32 (le16 hb hc) (le16 hd he)) (le32 (le16 hc hd) (le16 he hf)) (le32 (le16 hd he) (le16 hf hg)) (le32 (le16 he hf) (le16 hg hi)) f2
 have b3:=fold_lt3 b2
 generalize hz3:z2+z2 / 4294967296=z3 at f3 b3
 refine⟨z1,z2,z3,rfl,hz2.symm,hz3.symm,Nat.lt_trans b1 (by decide),Nat.lt_trans b2 (by decide),b3,?_⟩
 rw[f3,hs]
 clear f1 f2 f3 hz hz1 hz2 hz3 hs b0 b1 b2 b3
 omega
end Go.Proofs.YtecnpoigegiooaaGreatDoor.Tbs
namespace Go.Proofs.YtecnpoigegiooaaGreatDoor.Tbs
open Go RowKit Com
theorem Cd7 {n:Nat} (h:n<18446744073709551616):IntKind.u64.wrap (n:Int)=(n:Int):=by
 rw[IntKind.wrap_u64]
 omega
theorem mod_cast128 {a b:Nat} (h:a % 128=b):(a:Int) % 128=(b:Nat):=by omega
theorem swar (x:Nat) (hx:x<18446744073709551616):∃a b y c d z p q z1 z2 z3:Nat,
  bits BinOp.and IntKind.u64 ((x:Int) / 2) 6148914691236517205=(a:Int)/\bits BinOp.and IntKind.u64 (x:Int) 6148914691236517205=(b:Int)/\IntKind.u64.wrap ((a:Int)+(b:Int))=(y:Int) /\
  bits BinOp.and IntKind.u64 ((y:Int) / 4) 3689348814741910323=(c:Int)/\bits BinOp.and IntKind.u64 (y:Int) 3689348814741910323=(d:Int)/\IntKind.u64.wrap ((c:Int)+(d:Int))=(z:Int) /\
  IntKind.u64.wrap ((z:Int) / 16+(z:Int))=(p:Int)/\bits BinOp.and IntKind.u64 (p:Int) 1085102592571150095=(q:Int) /\
  IntKind.u64.wrap ((q:Int)+(q:Int) / 256)=(z1:Int)/\IntKind.u64.wrap ((z1:Int)+(z1:Int) / 65536)=(z2:Int)/\IntKind.u64.wrap ((z2:Int)+(z2:Int) / 4294967296)=(z3:Int) /\
  z3<900000000000000000/\(z3:Int) % 128=(ds 2 64 x:Nat):=by
 obtain⟨h1,d1⟩:=Cv2 32 x
 obtain⟨h2,d2⟩:=Cv3 16 _ d1
 obtain⟨h3,d3⟩:=Cv4 8 _ d2
 have b1:=d1.le (by decide)
 have b2:=d2.le (by decide)
 rw[mk1] at h1 d1 h2 d2 h3 d3 b1 b2
 rw[mk2] at h2 d2 h3 d3 b2
 rw[mk3] at h3 d3
 rw[show (4:Nat) ^ 32=18446744073709551616 from by decide] at b1
 rw[show (16:Nat) ^ 16=18446744073709551616 from by decide] at b2
 have a1:=bits_and_u64_nat (x / 2) 6148914691236517205 (by omega) (by decide)
 have a2:=bits_and_u64_nat x 6148914691236517205 hx (by decide)
 generalize x / 2 &&& 6148914691236517205=a at *
 generalize x &&& 6148914691236517205=b at *
 generalize hy:a+b=y at *
 have a3:=bits_and_u64_nat (y / 4) 3689348814741910323 (by omega) (by decide)
 have a4:=bits_and_u64_nat y 3689348814741910323 (by omega) (by decide)
 generalize y / 4 &&& 3689348814741910323=c at *
 generalize y &&& 3689348814741910323=d at *
 generalize hz:c+d=z at *
 have a5:=bits_and_u64_nat (z / 16+z) 1085102592571150095 (by omega) (by decide)
 generalize hp:z / 16+z=p at *
 generalize p &&& 1085102592571150095=q at *
 obtain⟨z1,z2,z3,e1,e2,e3,l1,l2,l3,e4⟩:=fold_all d3
 refine⟨a,b,y,c,d,z,p,q,z1,z2,z3,a1,a2,?_,a3,a4,?_,?_,a5,?_,?_,?_,l3,?_⟩
 ·rw[IntKind.wrap_u64];omega
 ·rw[IntKind.wrap_u64];omega
 ·rw[IntKind.wrap_u64];omega
 ·rw[IntKind.wrap_u64];omega
 ·rw[IntKind.wrap_u64];omega
 ·rw[IntKind.wrap_u64];omega
 ·have e5:ds 256 8 q=ds 2 64 x:=h3.trans (h2.trans h1)
  rw[e5] at e4
  exact mod_cast128 e4
theorem Cb4 (x:Nat) (hx:x<18446744073709551616) (w:World) :
  Calls Tryz.prog 269 #[.int .u64 x] w fun e w'=>e=.returned (.int .i64 (ds 2 64 x))/\w=w':=by
 obtain⟨a,b,y,c,d,z,p,q,z1,z2,z3,a1,a2,a3,a4,a5,a6,a7,a8,a9,b1,b2,l3,hE⟩:=swar x hx
 replace hE:=J0 hE
 go_enter Tryz.func269,Tryz.ntmps269
 go_wp2
 go_ret
 exact⟨Ab7 ((i64_and127 _).trans hE.out),rfl⟩
structure Tab (w:World):Prop where
 size:3<w.heap.size
 cells:∀k,k<64->w.cell? ⟨3,k,none⟩=some (.int .u8 (Lib.deBruijn64tab.getD k 0))
theorem Tab.below {w w':World} (h:Tab w) (hb:Below w.heap.size w w'):Tab w' :=
 ⟨Nat.lt_of_lt_of_le h.size hb.size,fun k hk=>(hb.cell (p:=⟨3,k,none⟩) h.size).trans (h.cells k hk)⟩
theorem ctz_bit {x:Nat} (hx:x<18446744073709551616) (h0:x≠0):Lib.ctz 64 x<64/\x.testBit (Lib.ctz 64 x)=true/\∀j,j<Lib.ctz 64 x->x.testBit j=false:=by
 obtain⟨m,hm,hk⟩:=Lib.ctzFrom_spec 64 x (by omega) hx
 have e:Lib.ctz 64 x=Lib.ctzFrom 64 x:=by simp[Lib.ctz,h0]
 rw[e]
 generalize Lib.ctzFrom 64 x=k at hm hk
 refine⟨hk,?_,fun j hj=>?_⟩
 ·rw[hm,Nat.mul_comm,Nat.testBit_mul_two_pow]
  simp
 ·rw[hm,Nat.mul_comm,Nat.testBit_mul_two_pow]
  simp
  omega
theorem tz_key (x a:Nat) (hx:x<18446744073709551616) (hx0:x≠0) (hlow:x &&& (18446744073709551616 - x)=a) :
  IntKind.u64.wrap (bits BinOp.and IntKind.u64 (x:Int) (IntKind.u64.wrap (-(x:Int)))*285870213051353865) / 288230376151711744=((a*285870213051353865 % 18446744073709551616 / 288230376151711744:Nat):Int):=by
 have e1:IntKind.u64.wrap (-(x:Int))=((18446744073709551616 - x:Nat):Int):=by rw[IntKind.wrap_u64];omega
 rw[e1,bits_and_u64_nat x _ hx (by omega),hlow,IntKind.wrap_u64]
 omega
theorem tz_core (x k idx:Nat) (w:World) (hx0:((x:Int) == 0)=false)
  (key:IntKind.u64.wrap (bits BinOp.and IntKind.u64 (x:Int) (IntKind.u64.wrap (-(x:Int)))*285870213051353865) / 288230376151711744=(idx:Int))
  (hi:idx<64) (hk:k<64) (hcell:w.cell? ⟨3,idx,none⟩=some (.int .u8 k)) :
  Calls Tryz.prog 270 #[.int .u64 x] w fun e w'=>e=.returned (.int .i64 k)/\w=w':=by
 go_enter Tryz.func270,Tryz.ntmps270
 go_wp2_with (simp only[key])
 go_ret
 exact⟨rfl,rfl⟩
theorem tz_any (x:Nat) (hx:x<18446744073709551616) (h0:x≠0) (w:World) (T:Tab w) :
  Calls Tryz.prog 270 #[.int .u64 x] w fun e w'=>e=.returned (.int .i64 (Lib.ctz 64 x))/\w=w':=by
 obtain⟨hlow,hk⟩:=Lib.lowest_bit 64 x h0 hx
 obtain⟨hi,htab⟩:=Lib.deBruijn64_at _ hk
 have hcell:=T.cells _ hi
 rw[htab] at hcell
 exact tz_core x _ _ w (by simp;omega) (tz_key x _ hx h0 hlow) hi hk hcell
