/- Part 7 of HostSplits. -/
import Derived.Laws.MakeOwn
import Derived.Laws.Entries
import Derived.Test.YtecnpoigegiooaaGreatDoorP06
set_option maxHeartbeats 16000000
set_option maxRecDepth 100000
namespace Go.Proofs.YtecnpoigegiooaaGreatDoor.Rw
open Go RowKit Com
theorem Ay2 {P:Program} (t e:TypeId) (i:TypeInfo) (z:Value) (ht:P.underlying t=some (.slice e)) (hi:P.info? e=some i) (hz:i.zero=some z)
  (kl kc:IntKind) (n c:Nat) (hnc:n<=c) (hbytes:i.bytes*c<=281474976710656) (h63:c<=9223372036854775807) (w:World) :
  (Instr.makeSlice t (.int kl (n:Int)) (.int kc (c:Int))).run P w=.ok (.slice (some ⟨w.heap.size,0,none⟩) n c) (w.alloc (.cells (madeCells z.cells (c*i.size)) e)):=by
 have hb:(i.bytes:Int)*(c:Int)<=281474976710656:=by
  have h:((i.bytes*c:Nat):Int)<=281474976710656:=by omega
  rwa [Int.natCast_mul] at h
 have hr:=run_make (P:=P) w t e i z ht hi hz kl kc n c (by omega) (by omega) hb (by omega)
 simp only[Int.toNat_natCast] at hr
 exact hr
theorem Cj2 {α:Type} (f:α->List Value) (s:Nat) (hs:∀a,(f a).length=s) (h0:0<s) (a:α) (n:Nat):(madeCells (f a).toArray (n*s))=(fl f (List.replicate n a)).toArray:=by
 apply Array.ext'
 apply List.ext_getElem?
 intro j
 have hsz:(madeCells (f a).toArray (n*s)).toList.length=n*s:=by rw[Array.length_toList,size_madeCells]
 by_cases hj:j<n*s
 ·have hi:j / s<(List.replicate n a).length:=by rw[List.length_replicate];exact Nat.div_lt_of_lt_mul (by rw[Nat.mul_comm];exact hj)
  have hm:j % s<s:=Nat.mod_lt _ h0
  have e:=Bn4 hs hi hm
  have ej:j / s*s+j % s=j:=by rw[Nat.mul_comm];exact Nat.div_add_mod j s
  rw[ej] at e
  simp only[List.getElem_replicate] at e
  rw[e]
  simp only[madeCells,Array.toList_map,Array.toList_range,List.getElem?_map,List.getElem?_range hj,Option.map_some,List.size_toArray,hs]
  rw[List.getElem?_eq_getElem (by rw[hs];exact hm)]
  simp[getElem!_pos,hs,hm]
 ·rw[List.getElem?_eq_none (by omega)]
  rw[List.getElem?_eq_none (by simp only[Ab8 hs,List.length_replicate];omega)]
def zeroCel:Cel:=⟨0,[],0,⟨0,0,0⟩⟩
theorem infoC3:(Tryz.prog.info? 194).map (fun i=>(i.zero,i.size,decide (i.bytes<=100)))=some (some (.agg (cellC zeroCel).toArray),10,true):=by kernel_rfl
theorem make_cells (n:Nat) (hn:n<=512) (w:World):(Instr.makeSlice 189 (.int .i64 (n:Int)) (.int .i64 (n:Int))).run Tryz.prog w=.ok (.slice (some ⟨w.heap.size,0,none⟩) n n) (w.alloc (.cells (fl cellC (List.replicate n zeroCel)).toArray 194)):=by
 have h:=infoC3
 cases hq:Tryz.prog.info? 194 with
 |none=>simp[hq] at h
 |some i =>
  simp only[hq,Option.map_some,Option.some.injEq,Prod.mk.injEq,decide_eq_true_eq] at h
  obtain⟨hz,hs,hb⟩:=h
  have hm:i.bytes*n<=100*512:=Nat.mul_le_mul hb hn
  have:=Ay2 189 194 i _ Tryz.underlying189 hq hz .i64 .i64 n n (J5 _) (by omega) (by omega) w
  rw[this,hs]
  have e:(Value.agg (cellC zeroCel).toArray).cells=(cellC zeroCel).toArray:=rfl
  rw[e,Cj2 cellC 10 cellC_length (by omega)]
theorem rep_set {α:Type} (a z:α) (n k:Nat) (h:k<n):(List.replicate k a++List.replicate (n - k) z).set k a=List.replicate (k+1) a++List.replicate (n - (k+1)) z:=by
 rw[List.set_append_right _ _ (by simp),List.length_replicate,Nat.sub_self,show n - k=(n - (k+1))+1 by omega,List.replicate_succ (n:=n - (k+1)),J2,List.replicate_succ' (n:=k),List.append_assoc]
 rfl
def Made (w:World) (l:List Cel) (e:Ending) (w':World):Prop:=∃g,e=.returned (.slice (some ⟨g,0,none⟩) l.length l.length)/\Block w' g 194 (fl cellC l).toArray/\Below w.heap.size w w'/\w.heap.size<=g
structure Clrd (w wr:World) (bx g:Nat) (a:At) (l:List Cel):Prop where
 box:Block wr bx 51 (attV a).toArray
 row:Block wr g 194 (fl cellC l).toArray
 below:Below w.heap.size w wr
theorem cleared_any (n:Nat) (hn:n<=512) (a:At) (w:World) :
  Calls Tryz.prog 214 #[.int .i64 n,.agg #[.int .u32 a.f,.int .u32 a.b,.int .u16 a.g]] w (Made w (List.replicate n (clr a))):=by
 have hmk:=make_cells n hn
 have hb0:=Block.made w 51 (attV a).toArray
 have hc0:Clrd w ((w.alloc (.cells (attV a).toArray 51)).alloc (.cells (fl cellC (List.replicate n zeroCel)).toArray 194)) w.heap.size (w.heap.size+1) a (List.replicate n zeroCel):=by
  refine⟨hb0.alloc _,?_,((Below.refl _ _).alloc (J5 _) _).alloc (by simp) _⟩
  have:=Block.made (w.alloc (.cells (attV a).toArray 51)) 194 (fl cellC (List.replicate n zeroCel)).toArray
  simpa using this
 unfold attV at hc0
 clear hb0
 obtain⟨af,ab,ag⟩:=a
 simp only at hc0
 replace hmk:=J0 hmk
 replace hc0:=J0 hc0
 go_enter Tryz.func214,Tryz.ntmps214
 have hm2:=hmk.out
 go_wp2
 clear hm2
 obtain⟨g,hg⟩:∃g,g=w.heap.size+1:=⟨_,rfl⟩
 obtain⟨bx,hbx⟩:∃bx,bx=w.heap.size:=⟨_,rfl⟩
 have hge:w.heap.size<=g:=by omega
 have hne:bx≠g:=by omega
 have hc1:=hc0.out
 rw[<- hg] at hc1 |-
 rw[<- hbx] at hge |-
 have hc2:Clrd w ((w.alloc (.cells #[.int .u32 af,.int .u32 ab,.int .u16 ag] 51)).alloc (.cells (fl cellC (List.replicate n zeroCel)).toArray 194)) bx g ⟨af,ab,ag⟩ (List.replicate n zeroCel):=by rw[hbx];exact hc1
 clear hc1 hc0 hmk
 rw[hbx] at hge
 replace hg:=J0 hg
 replace hbx:=J0 hbx
 replace hc2:=J0 hc2
 generalize (w.alloc (.cells #[.int .u32 af,.int .u32 ab,.int .u16 ag] 51)).alloc (.cells (fl cellC (List.replicate n zeroCel)).toArray 194)=w0 at hc2 |-
 go_loopw [11] (fun i wr=>∃k:Nat,k<=n/\i=.int .i64 k/\Hid (Clrd w wr bx g ⟨af,ab,ag⟩ (List.replicate k (clr ⟨af,ab,ag⟩)++List.replicate (n - k) zeroCel))) (fun i _=>n - (intOf i).toNat)
 case atStart=>exact⟨0,Nat.zero_le _,rfl,J0 (by simpa using hc2.out)⟩
 case round =>
  obtain⟨k,hk,rfl,hR⟩:=hrel
  have hR:=hR.out
  by_cases hlt:k<n
  ·have hbg:wr.cell? ⟨bx,1,none⟩=some (.int .u32 ab):=hR.box.cell 1 rfl
   have hbl:=J0 (fun w=>Br3 ⟨0,ab,0⟩ w)
   have hC:cellC ⟨32,[],0,⟨0,ab,0⟩⟩=cellC (clr ⟨af,ab,ag⟩):=rfl
   have hset:=rep_set (clr ⟨af,ab,ag⟩) zeroCel n k hlt
   have hfs:=Ai8 cellC_length (List.replicate k (clr ⟨af,ab,ag⟩)++List.replicate (n - k) zeroCel) [clr ⟨af,ab,ag⟩] [] k (by simp;omega)
   rw[An3 _ _ _ (by simp;omega),hset,fl_one,List.append_nil,List.append_nil,<- hC] at hfs
   have hlen:(fl cellC (List.replicate k (clr ⟨af,ab,ag⟩)++List.replicate (n - k) zeroCel)).length=n*10:=by rw[Ab8 cellC_length];simp;omega
   have hkk:k*10+10<=n*10:=by omega
   have hnew:∀w5 w6,Below wr.heap.size wr w5->Block w6 g 194 (splice (fl cellC (List.replicate k (clr ⟨af,ab,ag⟩)++List.replicate (n - k) zeroCel)) (k*10) (cellC ⟨32,[],0,⟨0,ab,0⟩⟩)).toArray->Only [g] w5 w6->Clrd w w6 bx g ⟨af,ab,ag⟩ (List.replicate (k+1) (clr ⟨af,ab,ag⟩)++List.replicate (n - (k+1)) zeroCel):=by
    intro w5 w6 hb5 hb6 ho6
    rw[hfs] at hb6
    exact⟨(hR.box.only (Only.of_below hb5 []) (by simp)).only ho6 (by simpa using hne),hb6,(Aa0 hR.below hb5).trans (ho6.below (by have:=hR.below.size;have:=hb5.size;omega) (by simpa using hge))⟩
   have hrow:∀w5,Below wr.heap.size wr w5->Block w5 g 194 (fl cellC (List.replicate k (clr ⟨af,ab,ag⟩)++List.replicate (n - k) zeroCel)).toArray:=fun w5 hb5=>hR.row.only (Only.of_below hb5 []) (by simp)
   have hinf:=Ca4 ⟨32,[],0,⟨0,ab,0⟩⟩
   have hone:=Ak6 ⟨32,[],0,⟨0,ab,0⟩⟩
   have hCl:=cellC_length ⟨32,[],0,⟨0,ab,0⟩⟩
   simp only at hbl
   generalize cellC ⟨32,[],0,⟨0,ab,0⟩⟩=C at hbl hnew hinf hone hCl hC hfs
   generalize fl cellC (List.replicate k (clr ⟨af,ab,ag⟩)++List.replicate (n - k) zeroCel)=X at hnew hrow hlen hfs
   clear hfs hC hset hR
   replace hnew:=J0 hnew
   replace hrow:=J0 hrow
   replace hinf:=J0 hinf
   replace hone:=J0 hone
   replace hCl:=J0 hCl
   replace hlen:=J0 hlen
   go_wp2_with (first
    |((go_at_call 263;refine(hbl.out _).mono ?_;rintro e w5 ⟨rfl,hb5⟩))
    |(with_reducible refine J8 20 ?_;go_must (refine Af7 rfl 194 (.tmp 20) (.tmp 19) rfl (g:=g) (i:=k*10) (hrow.out _ hb5) C rfl rfl (by rw[hlen.out,hCl.out];exact hkk) (hinf.out) (hone.out) ?_);intro w6 hr6 ho6))
   replace hr6:=J0 (hnew.out _ _ hb5 hr6.out ho6)
   clear ho6 hb5
   go_roundw
   case rel=>exact⟨k+1,by omega,by go_num,hr6⟩
   case measure=>simp[intOf];omega
  ·obtain rfl:k=n:=by omega
   have hr:Hid (Block wr g 194 (fl cellC (List.replicate k (clr ⟨af,ab,ag⟩))).toArray):=J0 (by simpa using hR.row)
   have hb:=J0 hR.below
   clear hR
   go_wp2
   go_ret
   exact⟨g,by simp,hr.out,hb.out,hge⟩
theorem Bn0 (n:Nat) (hn:n<=512) (a:At) (w:World) :
  Calls Tryz.prog 214 #[.int .i64 n,.agg #[.int .u32 a.f,.int .u32 a.b,.int .u16 a.g]] w fun e w'=>∃g,e=.returned (.slice (some ⟨g,0,none⟩) n n)/\Block w' g 194 (fl cellC (List.replicate n (clr a))).toArray/\Below w.heap.size w w'/\w.heap.size<=g :=
 (cleared_any n hn a w).mono fun _ _ ⟨g,he,h⟩=>⟨g,by rw[he,List.length_replicate],h⟩
theorem Br6 {w:World} {g:Nat} {l:List Cel} (h:Block w g 194 (fl cellC l).toArray):∃ad,(some (⟨g,0,none⟩:Addr))=some ad/\∀j v,(fl cellC l)[j]?=some v->w.cell? (ad.add j)=some v :=
 ⟨_,rfl,fun j v hj=>by rw[Addr.add_lit,Nat.zero_add];exact h.cell j (by simpa using hj)⟩
theorem Bl1 {w:World} {d g n cap:Nat} {tail:List Value} {l:List Cel} (h:RowX w d g n cap tail l) (col k:Nat) (a:At) (hk:col+k<=n) (g2:Nat) (hb:Block w g2 194 (fl cellC (List.replicate k (clr a))).toArray) :
  Calls Tryz.prog 216 #[.pointer (some ⟨d,0,none⟩),.int .i64 col,.slice (some ⟨g2,0,none⟩) k k] w (Bq6 w d g n cap tail (Ac8 (splice l col (List.replicate k (clr a))) (col - 1) (min (col+k+1) n))):=by
 have:=Cm8 h col (List.replicate k (clr a)) (by simpa using hk) (some ⟨g2,0,none⟩) k (fun _=>Br6 hb)
 rw[List.length_replicate] at this
 exact this
theorem Bl0 {w:World} {d g n cap:Nat} {tail:List Value} {l:List Cel} (h:RowX w d g n cap tail l) (hwh:Aj0 l) (col k:Nat) (a:At) (hk:col+k<=n) (g2:Nat) (hb:Block w g2 194 (fl cellC (List.replicate k (clr a))).toArray) :
  Calls Tryz.prog 216 #[.pointer (some ⟨d,0,none⟩),.int .i64 col,.slice (some ⟨g2,0,none⟩) k k] w (Bq6 w d g n cap tail (setL l col (List.replicate k (clr a)))):=by
 have:=Bh8 h hwh col (List.replicate k (clr a)) (by simpa using hk) (some ⟨g2,0,none⟩) k (fun _=>Br6 hb)
 rw[List.length_replicate] at this
 exact this
theorem Ae5 {P:Program} {f:FuncId} {args:Array Value} {w:World} {n:Nat} {v:Value}
  (h:Calls P f args (w.drewN n) fun e w'=>e=.returned v/\w.drewN n=w'):Calls P f args (w.drewN n) fun e w''=>e=.returned v/\∃m,w''=w.drewN m :=
 h.mono fun _ _ ⟨he,hm⟩=>⟨he,n,hm.symm⟩
def Au9 (w:World) (d g n cap:Nat) (tail:List Value) (l:List Cel) (v:Value) (e:Ending) (w':World):Prop:=e=.returned v/\RowX w' d g n cap tail l/\Only [g] w w'
structure Like (w:World) (d g n cap:Nat) (tail:List Value) (l:List Cel) (w1:World):Prop where
 row:RowX w1 d g n cap tail l
 below:Below w.heap.size w w1
theorem RowX.like {w:World} {d g n cap:Nat} {tail:List Value} {l:List Cel} (h:RowX w d g n cap tail l):Like w d g n cap tail l w:=⟨h,Below.refl _ _⟩
theorem Like.next {w w1 w2:World} {d g n cap:Nat} {tail:List Value} {l:List Cel} (h:Like w d g n cap tail l w1) (hb:Below w1.heap.size w1 w2):Like w d g n cap tail l w2:=⟨h.row.below hb,Aa0 h.below hb⟩
theorem Like.stays {w w1:World} {d g n cap:Nat} {tail:List Value} {l:List Cel} (h:Like w d g n cap tail l w1):RowX w1 d g n cap tail l/\Only [g] w w1:=⟨h.row,Only.of_below h.below _⟩
theorem Like.turned {w w1 w2:World} {d g n cap:Nat} {tail:List Value} {l l':List Cel} (h:Like w d g n cap tail l w1) (hr:RowX w2 d g n cap tail l') (ho:Only [g] w1 w2):RowX w2 d g n cap tail l'/\Only [g] w w2:=⟨hr,(Only.of_below h.below _).trans ho⟩
section
variable {w:World}{d g n cap:Nat}{tail:List Value}{l:List Cel}
theorem Aw6 (h:RowX w d g n cap tail l) (a b c:Int):Like w d g n cap tail l (w.alloc (.cells #[.int .u32 a,.int .u32 b,.int .u16 c] 51)):=h.like.next (Aa1 _ _)
theorem Cl8 (h:RowX w d g n cap tail l) (col x:Int) (hc:-9223372036854775808<=col/\col<=9223372036854775807) (wide:Bool) (a:At) (hno:An2 x=false\/col<0\/(n:Int)<=col\/(wide=true/\(n:Int)<=col+1)) :
  Calls Tryz.prog 170 #[.pointer (some ⟨d,0,none⟩),.int .i64 col,.int .i32 x,.bool wide,.agg #[.int .u32 a.f,.int .u32 a.b,.int .u16 a.g]] w (Au9 w d g n cap tail l (.int .i64 2)):=by
 obtain⟨af,ab,ag⟩:=a
 have hn:=h.pos
 have hn5:=h.small
 have hn0:((n:Int) == 0)=false:=beq_eq_false_iff_ne.2 (by omega)
 have hL:=Aw6 h af ab ag
 have hlen:=J0 (Ag5 hL.row)
 have hyes:=J0 (fun j h0 h1=>Bf7 hL.row j h0 h1)
 have hnot:=J0 (fun j h0=>Ca2 hL.row j h0)
 have hres:=J0 hL.stays
 have hmp:=Ar4 x
 simp only
 by_cases h1:An2 x=false
 ·rw[h1] at hmp
  replace hmp:=J0 hmp
  clear hL h hno h1
  go_enter Tryz.func170,Tryz.ntmps170
  go_wp2_with (first|(go_at_call 99;(with_reducible refine(hlen.out).mono ?_);rintro e w' ⟨rfl,rfl⟩)|(go_at_call 220;(with_reducible refine(hmp.out _).mono ?_);rintro e w' ⟨rfl,rfl⟩))
  go_ret
  exact⟨rfl,hres.out⟩
 have h1:An2 x=true:=by simpa using h1
 rw[h1] at hmp
 replace hmp:=J0 hmp
 by_cases h2:col<0\/(n:Int)<=col
 ·replace h2:=J0 h2
  clear hL h hno h1
  go_enter Tryz.func170,Tryz.ntmps170
  go_wp2_with (first|(go_at_call 99;(with_reducible refine(hlen.out).mono ?_);rintro e w' ⟨rfl,rfl⟩)|(go_at_call 220;(with_reducible refine(hmp.out _).mono ?_);rintro e w' ⟨rfl,rfl⟩)|(go_at_call 219;(with_reducible refine(hnot.out _ h2.out).mono ?_);rintro e w' ⟨rfl,rfl⟩))
  go_ret
  exact⟨rfl,hres.out⟩
 ·obtain⟨hw,h3⟩:wide=true/\(n:Int)<=col+1:=by
   rcases hno with hh|hh|hh|hh
   ·simp[h1] at hh
   ·omega
   ·omega
   ·exact hh
  subst hw
  have h4:0<=col:=by omega
  have h5:col<n:=by omega
  clear hL h hno h1 h2
  go_enter Tryz.func170,Tryz.ntmps170
  go_wp2_with (first|(go_at_call 99;(with_reducible refine(hlen.out).mono ?_);rintro e w' ⟨rfl,rfl⟩)|(go_at_call 220;(with_reducible refine(hmp.out _).mono ?_);rintro e w' ⟨rfl,rfl⟩))
  with_reducible refine(hyes.out _ h4 h5).mono ?_
  rintro e w1 ⟨rfl,rfl⟩
  go_wp2_with fail
  with_reducible refine(hnot.out _ (Or.inr h3)).mono ?_
  rintro e w1 ⟨rfl,rfl⟩
  go_wp2_with fail
  go_ret
  exact⟨rfl,hres.out⟩
theorem put_yes (h:RowX w d g n cap tail l) (hwh:Aj0 l) (col:Nat) (x:Int) (wide:Bool) (a:At) (h1:An2 x=true) (h2:col+(cellsPut x wide a).length<=n) :
  Calls Tryz.prog 170 #[.pointer (some ⟨d,0,none⟩),.int .i64 col,.int .i32 x,.bool wide,.agg #[.int .u32 a.f,.int .u32 a.b,.int .u16 a.g]] w (Au9 w d g n cap tail (setL l col (cellsPut x wide a)) (.int .i64 0)):=by
 obtain⟨af,ab,ag⟩:=a
 have hn:=h.pos
 have hn5:=h.small
 have hn0:((n:Int) == 0)=false:=beq_eq_false_iff_ne.2 (by omega)
 have hL:=Aw6 h af ab ag
 have hlen:=J0 (Ag5 hL.row)
 have hyes:=J0 (fun j h0 h1=>Bf7 hL.row j h0 h1)
 have hmp:=Ar4 x
 rw[h1] at hmp
 replace hmp:=J0 hmp
 simp only
 cases wide
 ·have h3:col+1<=n:=by simpa[cellsPut] using h2
  have hset:=fun w1 (hb:Below (w.alloc (.cells #[.int .u32 af,.int .u32 ab,.int .u16 ag] 51)).heap.size (w.alloc (.cells #[.int .u32 af,.int .u32 ab,.int .u16 ag] 51)) w1) hs=>Bh8 (hL.row.below hb) hwh col (cellsPut x false ⟨af,ab,ag⟩) h2 (some ⟨w.heap.size+1,0,none⟩) 1 hs
  have hblk:=Block.made (w.alloc (.cells #[.int .u32 af,.int .u32 ab,.int .u16 ag] 51)) 194 (fl cellC (cellsPut x false ⟨af,ab,ag⟩)).toArray
  have e1:(fl cellC (cellsPut x false ⟨af,ab,ag⟩)).toArray=#[.int .i32 x,.int .i32 0,.int .i32 0,.int .i32 0,.int .i32 0,.int .u8 0,.int .u8 0,.int .u32 af,.int .u32 ab,.int .u16 ag]:=by simp[fl,cellsPut,cellC,pad4,attV]
  have hfin:=fun w1 w2 (hb:Below (w.alloc (.cells #[.int .u32 af,.int .u32 ab,.int .u16 ag] 51)).heap.size (w.alloc (.cells #[.int .u32 af,.int .u32 ab,.int .u16 ag] 51)) w1) (hr:RowX w2 d g n cap tail (setL l col (cellsPut x false ⟨af,ab,ag⟩))) (ho:Only [g] w1 w2)=>(hL.next hb).turned hr ho
  have hlen1:(cellsPut x false ⟨af,ab,ag⟩).length=1:=rfl
  have hs0:=hset _ (Aa1 _ _) (fun _=>⟨_,rfl,fun j v hj=>by
   rw[Addr.add_lit,Nat.zero_add]
   exact Block.cell (by simpa using hblk) j (by simpa using hj)⟩)
  rw[e1,hlen1] at hs0
  clear hset hblk e1
  replace hs0:=J0 hs0
  replace hfin:=J0 hfin
  clear hL h h1 h2
  go_enter Tryz.func170,Tryz.ntmps170
  go_wp2_with (first
   |(go_at_call 99;(with_reducible refine(hlen.out).mono ?_);rintro e w' ⟨rfl,rfl⟩)
   |(go_at_call 220;(with_reducible refine(hmp.out _).mono ?_);rintro e w' ⟨rfl,rfl⟩)
   |(go_at_call 219;(with_reducible refine(hyes.out _ (by omega) (by omega)).mono ?_);rintro e w' ⟨rfl,rfl⟩)
   |(go_at_call 216;(with_reducible refine(hs0.out).mono ?_);rintro e w2 ⟨⟨v2,rfl⟩,hR2,ho2⟩))
  go_ret
  exact⟨rfl,hfin.out _ _ (Aa1 _ _) hR2 ho2⟩
 ·have h3:col+1<n:=by simp[cellsPut] at h2;omega
  have hset:=fun w1 (hb:Below (w.alloc (.cells #[.int .u32 af,.int .u32 ab,.int .u16 ag] 51)).heap.size (w.alloc (.cells #[.int .u32 af,.int .u32 ab,.int .u16 ag] 51)) w1) hs=>Bh8 (hL.row.below hb) hwh col (cellsPut x true ⟨af,ab,ag⟩) h2 (some ⟨w.heap.size+1,0,none⟩) 2 hs
  have hblk:=Block.made (w.alloc (.cells #[.int .u32 af,.int .u32 ab,.int .u16 ag] 51)) 194 (fl cellC (cellsPut x true ⟨af,ab,ag⟩)).toArray
  have e1:(fl cellC (cellsPut x true ⟨af,ab,ag⟩)).toArray=#[.int .i32 x,.int .i32 0,.int .i32 0,.int .i32 0,.int .i32 0,.int .u8 0,.int .u8 1,.int .u32 af,.int .u32 ab,.int .u16 ag,.int .i32 0,.int .i32 0,.int .i32 0,.int .i32 0,.int .i32 0,.int .u8 0,.int .u8 2,.int .u32 af,.int .u32 ab,.int .u16 ag]:=by simp[fl,cellsPut,cellC,pad4,attV]
  have hfin:=fun w1 w2 (hb:Below (w.alloc (.cells #[.int .u32 af,.int .u32 ab,.int .u16 ag] 51)).heap.size (w.alloc (.cells #[.int .u32 af,.int .u32 ab,.int .u16 ag] 51)) w1) (hr:RowX w2 d g n cap tail (setL l col (cellsPut x true ⟨af,ab,ag⟩))) (ho:Only [g] w1 w2)=>(hL.next hb).turned hr ho
  have hlen1:(cellsPut x true ⟨af,ab,ag⟩).length=2:=rfl
  have hs0:=hset _ (Aa1 _ _) (fun _=>⟨_,rfl,fun j v hj=>by
   rw[Addr.add_lit,Nat.zero_add]
   exact Block.cell (by simpa using hblk) j (by simpa using hj)⟩)
  rw[e1,hlen1] at hs0
  clear hset hblk e1
  replace hs0:=J0 hs0
  replace hfin:=J0 hfin
  clear hL h h1 h2
  go_enter Tryz.func170,Tryz.ntmps170
  go_wp2_with (first
   |(go_at_call 99;(with_reducible refine(hlen.out).mono ?_);rintro e w' ⟨rfl,rfl⟩)
   |(go_at_call 220;(with_reducible refine(hmp.out _).mono ?_);rintro e w' ⟨rfl,rfl⟩)
   |(go_at_call 219;(with_reducible refine(hyes.out _ (by omega) (by omega)).mono ?_);rintro e w' ⟨rfl,rfl⟩)
   |(go_at_call 216;(with_reducible refine(hs0.out).mono ?_);rintro e w2 ⟨⟨v2,rfl⟩,hR2,ho2⟩))
  go_ret
  exact⟨rfl,hfin.out _ _ (Aa1 _ _) hR2 ho2⟩
end
theorem Like.drewN {w w1:World} {d g n cap:Nat} {tail:List Value} {l:List Cel} (h:Like w d g n cap tail l w1) (q:Nat):Like w d g n cap tail l (w1.drewN q):=h.next (Aa4 (Below.refl _ _) q)
section
variable {w:World}{d g n cap:Nat}{tail:List Value}{l:List Cel}
theorem Bs0 (h:RowX w d g n cap tail l) (hwh:Aj0 l) (lo hi:Int) (a:At) :
  Calls Tryz.prog 148 #[.pointer (some ⟨d,0,none⟩),.int .i64 lo,.int .i64 hi,.agg #[.int .u32 a.f,.int .u32 a.b,.int .u16 a.g]] w (Au9 w d g n cap tail (Av7 l (Ab0 lo n) (Ab0 hi n) a) (.int .i64 0)):=by
 have hh1:=Ah3 lo n
 have hh2:=Ah3 hi n
 have hp:Ab0 lo n<=n:=Nat.min_le_right _ _
 have hq:Ab0 hi n<=n:=Nat.min_le_right _ _
 generalize Ab0 lo n=p at hh1 hp |-
 generalize Ab0 hi n=q at hh2 hq |-
 obtain⟨af,ab,ag⟩:=a
 have hn:=h.pos
 have hn5:=h.small
 have hn0:((n:Int) == 0)=false:=beq_eq_false_iff_ne.2 (by omega)
 have hL:=Aw6 h af ab ag
 have hlen:=J0 (Ag5 hL.row)
 have hc:=hL.row.slice
 replace hh1:=J0 hh1
 replace hh2:=J0 hh2
 simp only
 by_cases hlt:p<q
 ·have hcl:=Bn0 (q - p) (by omega) ⟨af,ab,ag⟩
  rw[show ((q - p:Nat):Int)=(q:Int) - (p:Int) by omega] at hcl
  simp only at hcl
  have hE:Av7 l p q ⟨af,ab,ag⟩=setL l p (List.replicate (q - p) (clr ⟨af,ab,ag⟩)):=if_pos hlt
  rw[hE]
  have hpq:p+(q - p)<=n:=by omega
  generalize hk:q - p=k at hcl hpq |-
  replace hcl:=J0 hcl
  have hst:=fun w1 (h1:Like w d g n cap tail l w1) g2 hb=>Bl0 h1.row hwh p k ⟨af,ab,ag⟩ hpq g2 hb
  replace hst:=J0 hst
  replace hL:=J0 hL
  clear h hE hk
  go_enter Tryz.func148,Tryz.ntmps148
  go_wp2_with (first|(go_at_call 99;(with_reducible refine(hlen.out).mono ?_);rintro e w' ⟨rfl,rfl⟩))
  go_quiet ((first|(go_at_call 215;with_reducible exact Ae5 (hh1.out _))|(go_at_call 215;with_reducible exact Ae5 (hh2.out _))))
  go_wp2_with ((go_at_call 214;(with_reducible refine(hcl.out _).mono ?_);rintro e w2 ⟨g2,rfl,hb2,hbel2,hg2⟩))
  have hL2:=(hL.out.drewN nq).next hbel2
  with_reducible refine(hst.out _ hL2 g2 hb2).mono ?_
  rintro e w3 ⟨⟨v3,rfl⟩,hR3,ho3⟩
  have hres:=J0 (hL2.turned hR3 ho3)
  clear hL2 hR3 ho3 hb2 hbel2 hg2
  go_wp2
  go_ret
  exact⟨rfl,hres.out⟩
 ·have hE:Av7 l p q ⟨af,ab,ag⟩=l:=if_neg hlt
  rw[hE]
  replace hL:=J0 hL
  clear h hE
  go_enter Tryz.func148,Tryz.ntmps148
  go_wp2_with (first|(go_at_call 99;(with_reducible refine(hlen.out).mono ?_);rintro e w' ⟨rfl,rfl⟩))
  go_quiet ((first|(go_at_call 215;with_reducible exact Ae5 (hh1.out _))|(go_at_call 215;with_reducible exact Ae5 (hh2.out _))))
  go_wp2
  go_ret
  exact⟨rfl,(hL.out.drewN _).stays⟩
theorem Cc9 (h:RowX w d g n cap tail l) (col k:Int) :
  Calls Tryz.prog 226 #[.pointer (some ⟨d,0,none⟩),.int .i64 col,.int .i64 k] w fun e w'=>e=.returned (.tuple #[.int .i64 (Ab0 col n),.int .i64 (Ab0 k (n - Ab0 col n))])/\w=w':=by
 have hh1:=Ah3 col n
 have hp:Ab0 col n<=n:=Nat.min_le_right _ _
 have hn5:=h.small
 generalize Ab0 col n=p at hh1 hp |-
 have hh2:=Ah3 k (n - p)
 rw[show ((n - p:Nat):Int)=(n:Int) - (p:Int) by omega] at hh2
 generalize Ab0 k (n - p)=q at hh2 |-
 have hc:=h.slice
 replace hh1:=J0 hh1
 replace hh2:=J0 hh2
 clear h
 go_enter Tryz.func226,Tryz.ntmps226
 go_wp2_with fail
 with_reducible refine(hh1.out _).mono ?_
 rintro e w1 ⟨rfl,rfl⟩
 go_wp2_with fail
 with_reducible refine(hh2.out _).mono ?_
 rintro e w1 ⟨rfl,rfl⟩
 go_wp2_with fail
 go_ret2
 exact⟨rfl,rfl⟩
end
