/- Part 19 of the proof that the card of HostNone holds. -/
import Derived.Test.YtbafmljidapmgaaGreatDoorN18
import Derived.Test.YtbafmljidapmgaaGreatDoorN16
set_option maxHeartbeats 16000000
set_option maxRecDepth 100000
namespace Go.Proofs.YtbafmljidapmgaaGreatDoor.Kys
open Go RowKit Go.Sort Com
theorem elemB:Elem Tryz.prog 32 5 .u8 1:=⟨Tryz.underlying32,info_parts (by kernel_rfl)⟩
theorem dg_len {u:Nat} (h:u<18446744073709551616):(dgF (u:Int)).length=Lib.nDigits u/\Lib.nDigits u<=20:=by
 refine ⟨by simp [dgF,Lib.decDigits_length],?_⟩
 by_cases h1:1<=u
 ·have:=Lib.numDigits_eq u h1 h
  split at this<;>omega
 ·rw [show u=0 by omega,Lib.nDigits_small (by omega)]
  omega
theorem dg_bytes (u:Nat):Lib.strCells ⟨(Lib.decDigits u).toArray⟩=(dgF (u:Int)).map (Value.int .u8):=by
 simp [Lib.strCells,dgF]
theorem small_any (u:Nat) (h:u<100) (w:World):Calls Tryz.prog 354 #[.int .i64 u] w fun e w'=>e=.returned (.string ⟨(Lib.decDigits u).toArray⟩)/\w'=w :=
 Any.internal_strconv_small { lays with } u h w
theorem Ae8 (u:Nat) (h1:1<=u) (h2:u<18446744073709551616) (w:World) (htab:Lib.TabIs Tryz.prog w "internal/strconv.uint64pow10" .u64 Lib.pow10Tab) :
  Calls Tryz.prog 355 #[.int .u64 u] w fun e w'=>e=.returned (.int .i64 (Lib.nDigits u))/\w'=w :=
 Any.internal_strconv_numDigits { lays with } u h1 h2 w htab
def FmtIs (u:Nat) (w:World) (e:Ending) (w':World):Prop:=e=.returned (.tuple #[])/\Below w.heap.size w w'/\Nums w' (w.heap.size+1) .u8 (some ⟨w.heap.size,0,none⟩) (dgF (u:Int))
theorem fmt_any (u:Nat) (hu64:u<18446744073709551616) (w:World) :
  Calls Tryz.prog 356 #[.slice (some ⟨w.heap.size,0,none⟩) (Lib.nDigits u) 24,.int .u64 u] (w.alloc (.cells Lib.zeros24 350)) (FmtIs u w):=by
 have hn:=(dg_len hu64).2
 have hH0:=Lib.holds_zero0 w 350 (Lib.nDigits u) (by omega)
 have hfmt:=Any.internal_strconv_formatBase10 (P:=Tryz.prog) (ρ:=ren) { lays with } w.heap.size 0 24 u (Array.replicate (Lib.nDigits u) 0) (w.alloc (.cells Lib.zeros24 350)) hH0 (by rw [Array.size_replicate];exact Lib.lt_pow_nDigits u) hu64 (by rw [Array.size_replicate];omega)
 rw [Array.size_replicate] at hfmt
 refine hfmt.mono ?_
 rintro e w' ⟨rfl,k,v',dk,rfl,hF⟩
 obtain ⟨os,eo⟩:=Lib.fin_at w (.cells Lib.zeros24 350) dk k 0
 refine ⟨rfl,?_,fun i x hx=>⟨_,rfl,by simp,?_⟩⟩
 ·rw [eo]
  exact Lib.below_grow w.heap.size w (J5 _) k os
 ·have hi:i<(Lib.decDigits u).length:=by
   have:=(List.getElem?_eq_some_iff.1 hx).1
   simpa [dgF] using this
  have hxe:x=((Lib.decDigits u)[i].toNat:Int):=by
   have h2:(dgF (u:Int))[i]?=some ((Lib.decDigits u)[i].toNat:Int):=by simp [dgF,hi]
   rw [h2] at hx
   exact (Option.some.inj hx).symm
  rw [hxe,Lib.row_is_numeral hF i hi,Lib.add_plain,World.cell?_drewN]
  exact cell?_putRow (fun (b:UInt8)=>Value.int .u8 (b.toNat:Int)) _ w.heap.size 0 _ dk hH0 (by rw [hF.size,Array.size_replicate]) i (by rw [hF.size];rw [Lib.decDigits_length] at hi;exact hi)
def Put (B:Nat) (l:List Int) (w:World) (e:Ending) (w':World):Prop:=∃ v',e=.returned v'/\Row w' B 5 v' l/\Below B w w'
theorem uint_small (B u:Nat) (hu:u<100) (sv:Value) (l:List Int) (w:World) (h:Row w B 5 sv l) (hB:B<=w.heap.size) (hn:l.length+20<=140737488355328) :
  Calls Tryz.prog 292 #[sv,.int .u64 u,.int .i64 10] w (Put B (l++dgF (u:Int)) w):=by
 have hlen:=dg_len (u:=u) (by omega)
 go_enter Tryz.func292,Tryz.ntmps292
 go_wp2_with (first
  |(go_at_call 354;(with_reducible refine (small_any u hu _).mono ?_);rintro e w' ⟨rfl,rfl⟩)
  |(at_builtin;refine wpList_appS elemB Tryz.underlying9 rfl _ _ rfl B sv l (dgF (u:Int)) _ (dg_bytes u) rfl rfl h hB (by omega) ?_;intro v' w1 h1 ho1))
 go_ret
 exact ⟨v',rfl,h1,Ax4 (Below.refl _ _) h hB ho1⟩
theorem uint_big (B u:Nat) (hu:100<=u) (hu64:u<18446744073709551616) (sv:Value) (l:List Int) (w:World) (h:Row w B 5 sv l) (hB:B<=w.heap.size) (hn:l.length+20<=140737488355328)
  (htab:Lib.TabIs Tryz.prog w "internal/strconv.uint64pow10" .u64 Lib.pow10Tab) :
  Calls Tryz.prog 292 #[sv,.int .u64 u,.int .i64 10] w (Put B (l++dgF (u:Int)) w):=by
 have hlen:=dg_len (u:=u) (by omega)
 have hd20:=hlen.2
 have hal:Tryz.prog.arrayLen 350=24:=by kernel_rfl
 have hsl:∀ W,(Instr.sliceAt 350 (.pointer (some ⟨w.heap.size,0,none⟩)) none (some (.int .i64 (Lib.nDigits u:Int))) none).run Tryz.prog W=.ok (.slice (some ⟨w.heap.size,0,none⟩) (Lib.nDigits u) 24) W:=fun W=>by
  rw [run_sliceAt_array_h W 350 ⟨w.heap.size,0,none⟩ (by simp [Program.arrayLen,Program.elem,Tryz.underlying350]) .i64 (Lib.nDigits u:Int) (by omega) (by rw [hal];omega)]
  go_simp
 have hcount:=fun w'=>Ae8 u (by omega) hu64 w'
 have iu:(100:Int)<=(u:Int):=by omega
 have hfmt:=J0 (fmt_any u hu64 w)
 have ht:=J0 (Lib.tabIs_alloc htab (.cells Lib.zeros24 350))
 have hlen':=J0 hlen
 clear hal hlen htab
 go_enter Tryz.func292,Tryz.ntmps292
 go_wp2_with (first
  |(go_at_call 355;refine (hcount _ ht.out).mono ?_;rintro e w' ⟨rfl,rfl⟩)
  |(go_at_call 356;refine hfmt.out.mono ?_;rintro e w1 ⟨rfl,hb1,hn1⟩;have h1:=h.below hb1;have hb2:=J0 hb1;have hs1:=hb1.size;clear hb1)
  |(at_builtin;refine Au2 elemB rfl _ _ rfl B sv l (dgF (u:Int)) _ _ 24 rfl (by rw [hlen'.out.1];rfl) h1 hn1 (by omega) (by have:=hlen'.out.1;omega) ?_;intro v' w2 h2 ho2))
 go_ret
 exact ⟨v',rfl,h2,Ax4 (hb2.out.mono hB) h1 (by omega) ho2⟩
theorem uint_any (B u:Nat) (hu64:u<18446744073709551616) (sv:Value) (l:List Int) (w:World) (h:Row w B 5 sv l) (hB:B<=w.heap.size) (hn:l.length+20<=140737488355328)
  (htab:Lib.TabIs Tryz.prog w "internal/strconv.uint64pow10" .u64 Lib.pow10Tab) :
  Calls Tryz.prog 292 #[sv,.int .u64 u,.int .i64 10] w (Put B (l++dgF (u:Int)) w):=by
 by_cases hu:u<100
 ·exact uint_small B u hu sv l w h hB hn
 ·exact uint_big B u (by omega) hu64 sv l w h hB hn htab
theorem inner_any (B u:Nat) (hu:u<=9223372036854775807) (sv:Value) (l:List Int) (w:World) (h:Row w B 5 sv l) (hB:B<=w.heap.size) (hn:l.length+20<=140737488355328)
  (htab:Lib.TabIs Tryz.prog w "internal/strconv.uint64pow10" .u64 Lib.pow10Tab) :
  Calls Tryz.prog 239 #[sv,.int .i64 u,.int .i64 10] w (Put B (l++dgF (u:Int)) w):=by
 have hc:=J0 (uint_any B u (by omega) sv l w h hB hn htab)
 clear htab
 go_enter Tryz.func239,Tryz.ntmps239
 go_wp2_with ((go_at_call 292;(with_reducible refine (hc.out).mono ?_);rintro e w1 ⟨v1,rfl,h1,hb1⟩))
 go_ret
 exact ⟨v1,rfl,h1,hb1⟩
theorem Au5 (B u:Nat) (hu:u<=9223372036854775807) (sv:Value) (l:List Int) (w:World) (h:Row w B 5 sv l) (hB:B<=w.heap.size) (hn:l.length+20<=140737488355328)
  (htab:Lib.TabIs Tryz.prog w "internal/strconv.uint64pow10" .u64 Lib.pow10Tab) :
  Calls Tryz.prog 176 #[sv,.int .i64 u,.int .i64 10] w (Put B (l++dgF (u:Int)) w):=by
 have hc:=J0 (inner_any B u hu sv l w h hB hn htab)
 clear htab
 go_enter Tryz.func176,Tryz.ntmps176
 go_wp2_with ((go_at_call 239;(with_reducible refine (hc.out).mono ?_);rintro e w1 ⟨v1,rfl,h1,hb1⟩))
 go_ret
 exact ⟨v1,rfl,h1,hb1⟩
end Go.Proofs.YtbafmljidapmgaaGreatDoor.Kys
namespace Go.Proofs.YtbafmljidapmgaaGreatDoor.Kys
open Go RowKit Com
def Tab (w:World):Prop:=Lib.TabIs Tryz.prog w "internal/strconv.uint64pow10" .u64 Lib.pow10Tab
theorem Tab.is {w:World} (h:Tab w):Lib.TabIs Tryz.prog w "internal/strconv.uint64pow10" .u64 Lib.pow10Tab:=h
theorem Tab.below {w w':World} (h:Tab w) (hb:Below w.heap.size w w'):Tab w':=Lib.tabBelow_of_tabIs h.is w' hb
theorem Tab.alloc {w:World} (h:Tab w) (o:Obj):Tab (w.alloc o):=h.below (Aa1 w o)
def Cd2 (xs:List Int):Prop:=∀ x∈xs,0<=x/\x<=9223372036854775807
theorem Cq5 {x:Int} (h:0<=x/\x<=9223372036854775807):(dgF x).length<=20:=by
 obtain ⟨u,rfl⟩:∃ u:Nat,x=u:=⟨x.toNat,by omega⟩
 have:=dg_len (u:=u) (by omega)
 omega
theorem Ck6:∀ {xs:List Int},Cd2 xs->(tailF xs).length<=21*xs.length
 |[],_=>by simp [tailF]
 |x::t,h=>by
  have h1:=Cq5 (h x (by simp))
  have h2:=Ck6 (xs:=t) fun y hy=>h y (by simp [hy])
  simp [tailF]
  omega
theorem nums_le {xs:List Int} (h:Cd2 xs):(numsF xs).length<=21*xs.length:=by
 rcases xs with _|⟨x,t⟩
 ·simp [numsF]
 ·have h1:=Cq5 (h x (by simp))
  have h2:=Ck6 (xs:=t) fun y hy=>h y (by simp [hy])
  simp [numsF]
  omega
theorem nums_at0 {xs:List Int} (h:0<xs.length) (bs:List Int):bs++numsF (xs.take (0+1))=bs++numsF (xs.take 0)++dgF xs[0]:=by
 rw [List.take_succ_eq_append_getElem h]
 simp [numsF,tailF]
theorem nums_at {xs:List Int} {k:Nat} (hk:0<k) (h:k<xs.length) (bs:List Int):bs++numsF (xs.take (k+1))=bs++numsF (xs.take k)++[59]++dgF xs[k]:=by
 rw [List.take_succ_eq_append_getElem h,nums_snoc (by intro e;have:=congrArg List.length e;rw [List.length_take,List.length_nil] at this;omega)]
 simp
structure Cp9 (w:World) (bs xs:List Int) (k:Nat) (v:Value) (wr:World):Prop where
 row:Row wr w.heap.size 5 v (bs++numsF (xs.take k))
 below:Below w.heap.size w wr
theorem An4 (b:ByteArray) (bs:List Int) (hb:Lib.strCells b=bs.map (Value.int .u8)) (hbl:bs.length<=1000) (f:Int) (xs:List Int) (hx:Cd2 xs) (hxl:xs.length<=1000) (ao:Option Addr) (c:Nat) (w:World) (hn:Nums w w.heap.size .i64 ao xs) (hT:Tab w) :
  Calls Tryz.prog 105 #[.string b,.int .u8 f,.slice ao xs.length c] w (Put w.heap.size (ctlF bs xs f) w):=by
 have hlen:=fun k=>nums_le (xs:=xs.take k) fun y hy=>hx y (List.mem_of_mem_take hy)
 have hlen':∀ k,(bs++numsF (xs.take k)).length<=22000:=fun k=>by
  have h1:=hlen k
  have h2:(xs.take k).length<=xs.length:=by rw [List.length_take];omega
  rw [List.length_append]
  omega
 replace hlen':=J0 hlen'
 clear hlen
 go_enter Tryz.func105,Tryz.ntmps105
 go_wp2_with ((with_reducible show wpList _ _ _ (⟨some 11,.convert _ _ _,_,_,_,_⟩::_) _ _;go_must (refine wpList_bytes Tryz.underlying9 Tryz.underlying32 Tryz.underlying5 rfl (.tmp 10) rfl w.heap.size b bs hb rfl (J5 _) (by omega) ?_);intro v0 w0 h0 hb0))
 have hst:Hid (Cp9 w bs xs 0 v0 w0):=⟨by simpa [numsF] using h0,hb0⟩
 clear h0 hb0 hb
 go_loopw [7,14] (fun v i wr=>∃ k:Nat,i=.int .i64 k/\k<=xs.length/\Hid (Cp9 w bs xs k v wr)) (fun _ i _=>xs.length - (intOf i).toNat)
 case atStart=>exact ⟨0,rfl,by omega,hst⟩
 case round =>
  obtain ⟨k,rfl,hk,hat⟩:=hrel
  have hsz:=hat.out.below.size
  by_cases hlt:k<xs.length
  ·obtain ⟨ad,rfl,_,hcell⟩:=(hn.below hat.out.below (J5 _)).at hlt
   obtain ⟨u,hu⟩:∃ u:Nat,xs[k]=(u:Int):=⟨xs[k].toNat,by have:=hx _ (List.getElem_mem hlt);omega⟩
   have hul:u<=9223372036854775807:=by have:=hx _ (List.getElem_mem hlt);omega
   have htr:=J0 (hT.below hat.out.below)
   have hL:=J0 (hlen'.out k)
   by_cases h0:k=0
   ·subst h0
    have hnext:=J0 (nums_at0 hlt bs)
    rw [hu] at hnext hcell
    have hcell0:wr.cell? ad=some (.int .i64 u):=by simpa [Addr.add] using hcell
    clear hu hx hn hT hcell
    go_wp2_with ((go_at_call 176;refine (Au5 w.heap.size u hul _ _ _ hat.out.row hsz (by have:=hL.out;omega) htr.out.is).mono ?_;rintro e w1 ⟨v1,rfl,h1,hb1⟩;replace h1:=J0 h1;replace hb1:=J0 hb1))
    go_roundw
    case rel=>exact ⟨0+1,by go_num,by omega,⟨by rw [hnext.out];exact h1.out,hat.out.below.trans hb1.out⟩⟩
    case measure=>simp [intOf];omega
   ·have hnext:=J0 (nums_at (by omega) hlt bs)
    rw [hu] at hnext hcell
    have hrow:=hat.out.row
    have hbel:=J0 hat.out.below
    have hT':=J0 hT
    obtain ⟨acc,hacc⟩:∃ acc,acc=bs++numsF (xs.take k):=⟨_,rfl⟩
    rw [<- hacc] at hrow hnext hL
    clear hu hx hn hT hat hacc htr
    go_wp2_with (first
     |(at_builtin;refine Au2 elemB rfl (.tmp 21) (.tmp 22) rfl w.heap.size _ acc [59] _ _ 1 rfl rfl (hrow.alloc _) (Nums.one wr _ .u8 59) (by simp;omega) (by have:=hL.out;simp;omega) ?_;intro v2 w2 h2 ho2;have hb2:=J0 (Ax4 (hbel.out.trans ((Below.refl _ _).alloc hsz _)) (hrow.alloc _) (by simp;omega) ho2);have hs2:=hb2.out.size;replace h2:=J0 h2;clear ho2)
     |(go_at_call 176;refine (Au5 w.heap.size u hul _ _ _ h2.out hs2 (by have:=hL.out;simp;omega) (hT'.out.below hb2.out).is).mono ?_;rintro e w1 ⟨v1,rfl,h1,hb1⟩;replace h1:=J0 h1;replace hb1:=J0 hb1))
    go_roundw
    case rel=>exact ⟨k+1,by go_num,by omega,⟨by rw [hnext.out];exact h1.out,hb2.out.trans hb1.out⟩⟩
    case measure=>simp [intOf];omega
  ·have hkl:xs.take k=xs:=List.take_of_length_le (by omega)
   have hrow:=hat.out.row
   have hbel:=J0 hat.out.below
   have hL:=hlen'.out k
   rw [hkl] at hrow hL
   replace hL:=J0 hL
   have hE:Hid (ctlF bs xs f=bs++numsF xs++[f]):=rfl
   obtain ⟨acc,hacc⟩:∃ acc,acc=bs++numsF xs:=⟨_,rfl⟩
   rw [<- hacc] at hrow hL hE
   clear hkl hat hn hT hacc
   go_wp2_with (first
     |(at_builtin;refine Au2 elemB rfl (.tmp 28) (.tmp 30) rfl w.heap.size _ acc [f] _ _ 1 rfl rfl (hrow.alloc _) (Nums.one wr _ .u8 f) (by simp;omega) (by have:=hL.out;simp;omega) ?_;intro v2 w2 h2 ho2;have hb2:=J0 (Ax4 (hbel.out.trans ((Below.refl _ _).alloc hsz _)) (hrow.alloc _) (by simp;omega) ho2);replace h2:=J0 h2;clear ho2))
   go_ret
   exact ⟨v2,rfl,by rw [hE.out];exact h2.out,hb2.out⟩
end Go.Proofs.YtbafmljidapmgaaGreatDoor.Kys
namespace Go.Proofs.YtbafmljidapmgaaGreatDoor.Kys
open Go RowKit Com Mds
def kA (k:Ky):Array Value:=#[.int .u8 k.kd,.int .i32 k.r,.int .i64 k.n,.int .u8 k.md]
theorem Co0 {w w1:World} {l:List Int} {e:Ending} {w':World} (hb:Below w.heap.size w w1) (h:Put w1.heap.size l w1 e w'):Put w.heap.size l w e w':=by
 obtain ⟨v,he,hr,hb1⟩:=h
 exact ⟨v,he,hr.lower hb.size,Aa0 hb hb1⟩
theorem Cq4:Lib.strCells { data:=#[27,91] }=([27,91]:List Int).map (Value.int .u8):=rfl
theorem dev_b:Lib.strCells { data:=#[27,91,63] }=([27,91,63]:List Int).map (Value.int .u8):=rfl
theorem ctl1 (b:ByteArray) (bs:List Int) (hb:Lib.strCells b=bs.map (Value.int .u8)) (hbl:bs.length<=1000) (f:Int) (w:World) (hT:Tab w) {x:Int} (hx:0<=x/\x<=9223372036854775807) :
  Calls Tryz.prog 105 #[.string b,.int .u8 f,.slice (some ⟨w.heap.size,0,none⟩) 1 1] (w.alloc (.cells #[.int .i64 x] 3)) (Put w.heap.size (ctlF bs [x] f) w) :=
 (An4 b bs hb hbl f [x] (by simp [Cd2];exact hx) (by simp) _ 1 _ ((Nums.lit w 3 .i64 [x]).more (by simp)) (hT.alloc _)).mono fun _ _ h=>Co0 (Aa1 _ _) h
theorem ctl2 (b:ByteArray) (bs:List Int) (hb:Lib.strCells b=bs.map (Value.int .u8)) (hbl:bs.length<=1000) (f:Int) (w:World) (hT:Tab w) {x y:Int} (hx:0<=x/\x<=9223372036854775807) (hy:0<=y/\y<=9223372036854775807) :
  Calls Tryz.prog 105 #[.string b,.int .u8 f,.slice (some ⟨w.heap.size,0,none⟩) 2 2] (w.alloc (.cells #[.int .i64 x,.int .i64 y] 3)) (Put w.heap.size (ctlF bs [x,y] f) w) :=
 (An4 b bs hb hbl f [x,y] (by simp [Cd2];exact ⟨hx,hy⟩) (by simp) _ 2 _ ((Nums.lit w 3 .i64 [x,y]).more (by simp)) (hT.alloc _)).mono fun _ _ h=>Co0 (Aa1 _ _) h
theorem Cm6 {n:Nat} (h:10<=n) (h1:n<100):dgF (n:Int)=[48+((n / 10:Nat):Int),48+((n % 10:Nat):Int)]:=by
 rw [dg_big h,dg_small (by omega)]
 rfl
def k1:List Int:=[27,91,65]
def k2:List Int:=[27,79,65]
def k3:List Int:=[3]
def k4:List Int:=[27,91,49,53,126]
theorem text_of {w:World} {ao:Option Addr} {l:List Int} (h:Nums w w.heap.size .u8 ao l) (c:Nat):(convert 32 9 (.slice ao l.length c)).run Tryz.prog w=.ok (.string (strOfNums l)) w :=
 run_text h Tryz.underlying32 Tryz.underlying5 Tryz.underlying9 c
def mx (r:Int):Int:=if r<1 then 1 else r
theorem Cr2 {r:Int} (h:r<=9223372036854775807):0<=mx r/\mx r<=9223372036854775807:=by
 unfold mx
 split<;>omega
def curF (r c:Int):List Int:=ctlF [27,91] [mx r,mx c] 82
theorem cursor_any (r c:Int) (hr:r<=9223372036854775807) (hc:c<=9223372036854775807) (w:World) (hT:Tab w):Calls Tryz.prog 394 #[.int .i64 r,.int .i64 c] w (Put w.heap.size (curF r c) w):=by
 have hx:=Cr2 hr
 have hy:=Cr2 hc
 have hcon:=ctl2 _ _ Cq4 (by simp) 82 w hT hx hy
 have hE:=J0 (show curF r c=ctlF [27,91] [mx r,mx c] 82 from rfl)
 by_cases h1:r<1
 ·have e1:mx r=1:=if_pos h1
  rw [e1] at hcon hE
  by_cases h2:c<1
  ·have e2:mx c=1:=if_pos h2
   rw [e2] at hcon hE
   have m1:max r 1=1:=by omega
   have m2:max c 1=1:=by omega
   clear hx hy e1 e2 hT hr hc
   replace hcon:=J0 hcon
   go_enter Tryz.func394,Tryz.ntmps394
   go_wp2_with ((go_at_call 105;(with_reducible refine (hcon.out).mono ?_);rintro e w1 ⟨v1,rfl,hr1,hb1⟩))
   go_ret
   rw [hE.out]
   exact ⟨_,rfl,hr1,hb1⟩
  ·have e2:mx c=c:=if_neg h2
   rw [e2] at hcon hE
   have m1:max r 1=1:=by omega
   have m2:max c 1=c:=by omega
   clear hx hy e1 e2 hT hr hc
   replace hcon:=J0 hcon
   go_enter Tryz.func394,Tryz.ntmps394
   go_wp2_with ((go_at_call 105;(with_reducible refine (hcon.out).mono ?_);rintro e w1 ⟨v1,rfl,hr1,hb1⟩))
   go_ret
   rw [hE.out]
   exact ⟨_,rfl,hr1,hb1⟩
 ·have e1:mx r=r:=if_neg h1
  rw [e1] at hcon hE
  by_cases h2:c<1
  ·have e2:mx c=1:=if_pos h2
   rw [e2] at hcon hE
   have m1:max r 1=r:=by omega
   have m2:max c 1=1:=by omega
   clear hx hy e1 e2 hT hr hc
   replace hcon:=J0 hcon
   go_enter Tryz.func394,Tryz.ntmps394
   go_wp2_with ((go_at_call 105;(with_reducible refine (hcon.out).mono ?_);rintro e w1 ⟨v1,rfl,hr1,hb1⟩))
   go_ret
   rw [hE.out]
   exact ⟨_,rfl,hr1,hb1⟩
  ·have e2:mx c=c:=if_neg h2
   rw [e2] at hcon hE
   have m1:max r 1=r:=by omega
   have m2:max c 1=c:=by omega
   clear hx hy e1 e2 hT hr hc
   replace hcon:=J0 hcon
   go_enter Tryz.func394,Tryz.ntmps394
   go_wp2_with ((go_at_call 105;(with_reducible refine (hcon.out).mono ?_);rintro e w1 ⟨v1,rfl,hr1,hb1⟩))
   go_ret
   rw [hE.out]
   exact ⟨_,rfl,hr1,hb1⟩
def staF:List Int:=[27,91,48,110]
def devF:List Int:=[27,91,63,54,50,59,50,50,99]
theorem sta_is:ctlF [27,91] [0] 110=staF:=by
 show [27,91]++(dgF ((0:Nat):Int)++[])++[110]=staF
 rw [dg_small (by omega)]
 rfl
theorem dev_is:ctlF [27,91,63] [62,22] 99=devF:=by
 show [27,91,63]++(dgF ((62:Nat):Int)++(59::(dgF ((22:Nat):Int)++[])))++[99]=devF
 rw [Cm6 (by omega) (by omega),Cm6 (by omega) (by omega)]
 rfl
theorem status_any (w:World) (hT:Tab w):Calls Tryz.prog 393 #[] w (Put w.heap.size staF w):=by
 have hcon:=ctl1 _ _ Cq4 (by simp) 110 w hT (x:=0) (by omega)
 rw [sta_is] at hcon
 replace hcon:=J0 hcon
 clear hT
 go_enter Tryz.func393,Tryz.ntmps393
 go_wp2_with ((go_at_call 105;(with_reducible refine (hcon.out).mono ?_);rintro e w1 ⟨v1,rfl,hr1,hb1⟩))
 go_ret
 exact ⟨_,rfl,hr1,hb1⟩
theorem device_any (w:World) (hT:Tab w):Calls Tryz.prog 395 #[] w (Put w.heap.size devF w):=by
 have hcon:=ctl2 _ _ dev_b (by simp) 99 w hT (x:=62) (y:=22) (by omega) (by omega)
 rw [dev_is] at hcon
 replace hcon:=J0 hcon
 clear hT
 go_enter Tryz.func395,Tryz.ntmps395
 go_wp2_with ((go_at_call 105;(with_reducible refine (hcon.out).mono ?_);rintro e w1 ⟨v1,rfl,hr1,hb1⟩))
 go_ret
 exact ⟨_,rfl,hr1,hb1⟩
end Go.Proofs.YtbafmljidapmgaaGreatDoor.Kys
namespace Go.Proofs.YtbafmljidapmgaaGreatDoor.Cht
def inB (r a b:Int):Bool:=decide (a<=r) && decide (r<=b)
def mayF (r:Int):Bool:=decide (0<=r) && decide (r<=1114111) && !(decide (55296<=r) && decide (r<=57343))
def wrows:List (Int×Int×Int) :=
 [(0,31,0),(127,159,0),(768,879,0),(1155,1161,0),(1425,1469,0),(1552,1562,0),(1611,1631,0),(3633,3633,0),(3636,3642,0),(3655,3662,0),(4352,4447,2),(6832,6911,0),(7616,7679,0),(8203,8207,0),(8400,8447,0),(11904,12350,2),(12353,42191,2),(44032,55203,2),(63744,64255,2),(65024,65039,0),(65056,65071,0),(65072,65135,2),(65280,65376,2),(65504,65510,2),(127744,128591,2),(129280,129535,2),(131072,196605,2),(196608,262141,2),(917760,917999,0)]
def crows:List (Int×Int×Int) :=
 [(32,32,1),(48,57,2),(65,90,4),(97,122,3),(160,160,1),(192,214,4),(216,222,4),(223,246,3),(248,255,3),(8192,8202,1),(8239,8239,1),(8287,8287,1),(12288,12288,1)]
def graphs:List Int :=
 [9670,9618,9225,9228,9229,9226,176,177,9252,9227,9496,9488,9484,9492,9532,9146,9147,9472,9148,9149,9500,9508,9524,9516,9474,8804,8805,960,8800,163,183]
def scan:List (Int×Int×Int)->Int->Option Int
 |[],_=>none
 |x::l,r=>if r<x.1 then none else if r<=x.2.1 then some x.2.2 else scan l r
def widthF (r:Int):Int:=if mayF r then (scan wrows r).getD 1 else 0
def Cm5 (r:Int):Int:=if widthF r=0 then 0 else (scan crows r).getD (if r<128 then 5 else 6)
def Cj3:List (Int×Int×Int)->Bool
 |[]=>true
 |x::l=>decide (x.1<=x.2.1) && l.all (fun y=>decide (x.2.1<y.1)) && Cj3 l
theorem Bs6:∀ (l:List (Int×Int×Int)) (r:Int) (x:Int×Int×Int),Cj3 l=true->x∈l->x.1<=r->r<=x.2.1->scan l r=some x.2.2
 |[],_,_,_,h,_,_=>by cases h
 |y::l,r,x,hr,hx,h1,h2=>by
  simp only [Cj3,Bool.and_eq_true,decide_eq_true_eq,List.all_eq_true] at hr
  obtain ⟨⟨h0,hall⟩,hl⟩:=hr
  unfold scan
  rcases List.mem_cons.1 hx with rfl|hx
  ·rw [if_neg (by omega),if_pos h2]
  ·have:=hall x hx
   rw [if_neg (by omega),if_neg (by omega)]
   exact Bs6 l r x hl hx h1 h2
theorem Bs5:∀ (l:List (Int×Int×Int)) (r:Int),(∀ x∈l,¬ (x.1<=r/\r<=x.2.1))->scan l r=none
 |[],_,_=>rfl
 |y::l,r,h=>by
  have h0:=h y (List.mem_cons_self ..)
  unfold scan
  by_cases c:r<y.1
  ·rw [if_pos c]
  ·rw [if_neg c,if_neg (by omega)]
   exact Bs5 l r (fun x hx=>h x (List.mem_cons_of_mem _ hx))
theorem scan_drop (l:List (Int×Int×Int)) (r:Int) (k:Nat) (hk:k<l.length) :
  scan (l.drop k) r=if r<(l.getD k (0,0,0)).1 then none else if r<=(l.getD k (0,0,0)).2.1 then some (l.getD k (0,0,0)).2.2 else scan (l.drop (k+1)) r:=by
 rw [List.drop_eq_getElem_cons hk]
 simp [scan,List.getD,hk]
def anyIn (l:List (Int×Int)) (r:Int):Bool:=l.any fun p=>inB r p.1 p.2
def controls:List (Int×Int):=[(0,31),(127,159)]
def marks:List (Int×Int):=[(768,879),(1155,1161),(1425,1469),(1552,1562),(1611,1631),(3633,3633),(3636,3642),(3655,3662),(6832,6911),(7616,7679),(8203,8207),(8400,8447),(65024,65039),(65056,65071),(917760,917999)]
def wides:List (Int×Int):=[(4352,4447),(11904,12350),(12353,42191),(44032,55203),(63744,64255),(65072,65135),(65280,65376),(65504,65510),(127744,128591),(129280,129535),(131072,196605),(196608,262141)]
theorem anyIn_iff {l:List (Int×Int)} {r:Int}:anyIn l r=true↔∃ p∈l,p.1<=r/\r<=p.2:=by
 simp [anyIn,inB]
theorem Bv0:Cj3 wrows=true:=by decide
theorem At6 {l:List (Int×Int×Int)} {ps:List (Int×Int)} {v r:Int} (hl:Cj3 l=true) (hin:∀ p∈ps,(p.1,p.2,v)∈l) (h:anyIn ps r=true):scan l r=some v:=by
 obtain ⟨p,hp,h1,h2⟩:=anyIn_iff.1 h
 exact Bs6 l r (p.1,p.2,v) hl (hin p hp) h1 h2
theorem Bu6 {ps:List (Int×Int)} {r:Int} (h:anyIn ps r=false):∀ p∈ps,¬ (p.1<=r/\r<=p.2):=by
 intro p hp hh
 have:=anyIn_iff.2 ⟨p,hp,hh⟩
 rw [h] at this
 cases this
theorem width_no {r:Int} (h:mayF r=false):widthF r=0:=by simp [widthF,h]
theorem width_control {r:Int} (h:anyIn controls r=true):widthF r=0:=by
 unfold widthF
 rw [At6 Bv0 (v:=0) (by decide) h]
 simp
theorem width_mark {r:Int} (h:anyIn marks r=true):widthF r=0:=by
 unfold widthF
 rw [At6 Bv0 (v:=0) (by decide) h]
 simp
theorem width_wide {r:Int} (hm:mayF r=true) (h:anyIn wides r=true):widthF r=2:=by
 unfold widthF
 rw [At6 Bv0 (v:=2) (by decide) h,hm]
 simp
theorem width_else {r:Int} (hm:mayF r=true) (h1:anyIn controls r=false) (h2:anyIn marks r=false) (h3:anyIn wides r=false):widthF r=1:=by
 unfold widthF
 rw [hm,Bs5]
 ·simp
 ·intro x hx
  have hall:∀ x∈wrows,(x.1,x.2.1)∈controls\/(x.1,x.2.1)∈marks\/(x.1,x.2.1)∈wides:=by decide
  rcases hall x hx with h|h|h
  ·exact Bu6 h1 _ h
  ·exact Bu6 h2 _ h
  ·exact Bu6 h3 _ h
def upperF (r:Int):Int:=if Cm5 r=3/\Cm5 (r - 32)=4 then r - 32 else r
def Ak1 (r:Int):Int:=if r=95 then 32 else if 96<=r/\r<127 then graphs.getD (r - 96).toNat 0 else r
def Au7 (r:Int):Int:=if r=35 then 163 else r
def charsetF (s r:Int):Int:=if s=1 then Au7 r else if s=2 then Ak1 r else r
end Go.Proofs.YtbafmljidapmgaaGreatDoor.Cht
namespace Go.Proofs.YtbafmljidapmgaaGreatDoor.Cht
open Go RowKit
theorem Ab7 {a b:Bool} (h:a=b):Ending.returned (.bool a)=.returned (.bool b):=by rw [h]
theorem Ab4 {k:IntKind} {a b:Int} (h:a=b):Ending.returned (.int k a)=.returned (.int k b):=by rw [h]
theorem Cg8 (r:Int) (w:World):Calls Tryz.prog 305 #[.int .i32 r] w fun e w'=>e=.returned (.bool (mayF r))/\w=w':=by
 unfold mayF
 by_cases h1:55296<=r
 ·by_cases h2:r<=57343
  ·go_enter Tryz.func305,Tryz.ntmps305
   go_wp2
   go_ret
   exact ⟨Ab7 (by (rw [Bool.eq_iff_iff];simp)<;>omega),rfl⟩
  ·by_cases h3:r<=1114111
   all_goals
    go_enter Tryz.func305,Tryz.ntmps305
    go_wp2
    go_ret
    exact ⟨Ab7 (by (rw [Bool.eq_iff_iff];simp)<;>omega),rfl⟩
 ·by_cases h3:0<=r
  all_goals
   go_enter Tryz.func305,Tryz.ntmps305
   go_wp2
   go_ret
   exact ⟨Ab7 (by (rw [Bool.eq_iff_iff];simp)<;>omega),rfl⟩
structure Ae2 (g:Nat) (l:List (Int×Int×Int)) (w:World) (k:Nat):Prop where
 first:w.cell? ⟨g,k*3,none⟩=some (.int .i32 (l.getD k (0,0,0)).1)
 last:w.cell? ⟨g,k*3+1,none⟩=some (.int .i32 (l.getD k (0,0,0)).2.1)
 value:w.cell? ⟨g,k*3+2,none⟩=some (.int .u8 (l.getD k (0,0,0)).2.2)
structure Tabs (w:World):Prop where
 size:3<=w.heap.size
 widths:∀ k,k<29->Ae2 0 wrows w k
 graphics:∀ k,k<31->w.cell? ⟨1,k,none⟩=some (.int .i32 (graphs.getD k 0))
theorem wvalue (k:Nat) (h:k<29):0<=(wrows.getD k (0,0,0)).2.2/\(wrows.getD k (0,0,0)).2.2<=255:=by
 have hall:∀ k:Fin 29,0<=(wrows.getD k.val (0,0,0)).2.2/\(wrows.getD k.val (0,0,0)).2.2<=255:=by decide +kernel
 exact hall ⟨k,h⟩
theorem width_any (r:Int) (w:World) (T:Tabs w) :
  Calls Tryz.prog 265 #[.int .i32 r] w fun e w'=>e=.returned (.int .i64 (widthF r))/\w=w':=by
 have T':=J0 T.widths;clear T
 by_cases hm:mayF r=true
 ·have HW:Hid (widthF r=(scan wrows r).getD 1):=by show _=_;unfold widthF;rw [if_pos hm]
  go_enter Tryz.func265,Tryz.ntmps265
  go_wp2_with (go_at_call 305;refine (Cg8 _ _).mono ?_;rintro e w' ⟨rfl,rfl⟩)
  go_loop [7] (fun i=>∃ k:Nat,k<=29/\i=.int .i64 k/\Hid (scan wrows r=scan (wrows.drop k) r)) (fun i=>29 - (intOf i).toNat)
  case atStart=>exact ⟨0,by omega,rfl,rfl⟩
  case round =>
   obtain ⟨k,hk,rfl,hs⟩:=hrel
   by_cases hlt:k<29
   ·have R:=T'.out k hlt
    have c0:=R.first
    have c1:=R.last
    have c2:=R.value
    have HD:=J0 (scan_drop wrows r k hlt)
    obtain ⟨v0,v1⟩:=wvalue k hlt
    clear R
    generalize hrow:wrows.getD k (0,0,0)=row at c0 c1 c2 HD v0 v1
    clear hrow
    obtain ⟨x,y,z⟩:=row
    by_cases hx:r<x
    ·go_wp2
     go_ret
     exact ⟨Ab4 (by rw [HW.out,hs.out,HD.out,if_pos hx];rfl),rfl⟩
    ·by_cases hy:r<=y
     ·go_wp2
      go_ret
      exact ⟨Ab4 (by rw [HW.out,hs.out,HD.out,if_neg (show ¬ r<x by omega),if_pos hy,IntWalk.wrap64_in z ⟨by omega,by omega⟩];rfl),rfl⟩
     ·go_wp2
      go_round
      case rel=>exact ⟨k+1,by omega,by go_num,by rw [hs.out,HD.out,if_neg (show ¬ r<x by omega),if_neg (show ¬ r<=y by omega)];exact J0 rfl⟩
      case measure=>simp [intOf];omega
   ·go_wp2
    go_ret
    exact ⟨Ab4 (by rw [HW.out,hs.out,List.drop_of_length_le (by show 29<=k;omega)];rfl),rfl⟩
 ·have hm':mayF r=false:=by simpa using hm
  go_enter Tryz.func265,Tryz.ntmps265
  go_wp2_with (go_at_call 305;refine (Cg8 _ _).mono ?_;rintro e w' ⟨rfl,rfl⟩)
  go_ret
  exact ⟨Ab4 (by rw [width_no hm']),rfl⟩
theorem british_any (r:Int) (w:World) :
  Calls Tryz.prog 303 #[.int .i32 r] w fun e w'=>e=.returned (.int .i32 (Au7 r))/\w=w':=by
 by_cases h:r=35
 ·subst h
  go_enter Tryz.func303,Tryz.ntmps303
  go_wp2
  go_ret
  exact ⟨rfl,rfl⟩
 ·have hb:(r == 35)=false:=by simpa using h
  have HL:Hid (Au7 r=r):=by show _=_;unfold Au7;rw [if_neg h]
  clear h
  go_enter Tryz.func303,Tryz.ntmps303
  go_wp2
  go_ret
  exact ⟨Ab4 (by rw [HL.out]),rfl⟩
theorem graphic_any (r:Int) (w:World) (T:Tabs w) :
  Calls Tryz.prog 304 #[.int .i32 r] w fun e w'=>e=.returned (.int .i32 (Ak1 r))/\w=w':=by
 have TT:=J0 T.graphics;clear T
 by_cases h:r=95
 ·subst h
  go_enter Tryz.func304,Tryz.ntmps304
  go_wp2
  go_ret
  exact ⟨rfl,rfl⟩
 ·have hb:(r == 95)=false:=by simpa using h
  by_cases h1:96<=r
  ·by_cases h2:r<127
   ·have HL:Hid (Ak1 r=graphs.getD (r - 96).toNat 0):=by show _=_;unfold Ak1;rw [if_neg h,if_pos ⟨h1,h2⟩]
    clear h
    have hc:=TT.out (r - 96).toNat (by omega)
    generalize hg:graphs.getD (r - 96).toNat 0=g at hc HL
    clear hg
    go_enter Tryz.func304,Tryz.ntmps304
    go_wp2
    go_ret
    exact ⟨Ab4 (by rw [HL.out]),rfl⟩
   ·have HL:Hid (Ak1 r=r):=by show _=_;unfold Ak1;rw [if_neg h,if_neg (by omega)]
    clear h
    go_enter Tryz.func304,Tryz.ntmps304
    go_wp2
    go_ret
    exact ⟨Ab4 (by rw [HL.out]),rfl⟩
  ·have HL:Hid (Ak1 r=r):=by show _=_;unfold Ak1;rw [if_neg h,if_neg (by omega)]
   clear h
   go_enter Tryz.func304,Tryz.ntmps304
   go_wp2
   go_ret
   exact ⟨Ab4 (by rw [HL.out]),rfl⟩
theorem charset_any (s r:Int) (w:World) (T:Tabs w) :
  Calls Tryz.prog 264 #[.int .u8 s,.int .i32 r] w fun e w'=>e=.returned (.int .i32 (charsetF s r))/\w=w':=by
 have TT:=J0 T;clear T
 have fin:((s == 1)=true/\Hid (charsetF s r=Au7 r))\/((s == 1)=false/\(s == 2)=true/\Hid (charsetF s r=Ak1 r))\/((s == 1)=false/\(s == 2)=false/\Hid (charsetF s r=r)):=by
  by_cases h1:s=1
  ·exact .inl ⟨by simpa using h1,by show _=_;simp [charsetF,h1]⟩
  ·by_cases h2:s=2
   ·exact .inr (.inl ⟨by simpa using h1,by simpa using h2,by show _=_;simp [charsetF,h2]⟩)
   ·exact .inr (.inr ⟨by simpa using h1,by simpa using h2,by show _=_;simp [charsetF,h1,h2]⟩)
 rcases fin with ⟨h1,HL⟩|⟨h1,h2,HL⟩|⟨h1,h2,HL⟩
 all_goals
  go_enter Tryz.func264,Tryz.ntmps264
  go_wp2_with (first|(go_at_call 303;refine (british_any _ _).mono ?_;rintro e w' ⟨rfl,rfl⟩)|(go_at_call 304;refine (graphic_any _ _ TT.out).mono ?_;rintro e w' ⟨rfl,rfl⟩))
  go_ret
  exact ⟨Ab4 (by rw [HL.out]),rfl⟩
