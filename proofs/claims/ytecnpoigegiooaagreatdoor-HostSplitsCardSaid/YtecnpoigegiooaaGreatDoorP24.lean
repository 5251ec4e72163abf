/- Part 24 of HostSplits. -/
import Derived.Test.YtecnpoigegiooaaGreatDoorP23
import Derived.Test.YtecnpoigegiooaaGreatDoorP16
import Derived.Test.YtecnpoigegiooaaGreatDoorP22
set_option maxHeartbeats 16000000
set_option maxRecDepth 100000
namespace Go.Proofs.YtecnpoigegiooaaGreatDoor.Kys
open Go RowKit Com Mds
theorem Cr1 {w w1:World} {l:List Int} {e:Ending} {w':World} (hb:Below w.heap.size w w1) (h:Put w1.heap.size l w1 e w'):Put w.heap.size l w e w':=by
 obtain⟨v,he,hr,hb1⟩:=h
 exact⟨v,he,hr.lower hb.size,Aa0 hb hb1⟩
theorem Ct4:Lib.strCells { data:=#[27,91] }=([27,91]:List Int).map (Value.int .u8):=rfl
theorem dev_b:Lib.strCells { data:=#[27,91,63] }=([27,91,63]:List Int).map (Value.int .u8):=rfl
theorem ctl1 (b:ByteArray) (bs:List Int) (hb:Lib.strCells b=bs.map (Value.int .u8)) (hbl:bs.length<=1000) (f:Int) (w:World) (hT:Tab w) {x:Int} (hx:0<=x/\x<=9223372036854775807) :
  Calls Tryz.prog 50 #[.string b,.int .u8 f,.slice (some ⟨w.heap.size,0,none⟩) 1 1] (w.alloc (.cells #[.int .i64 x] 3)) (Put w.heap.size (ctlF bs [x] f) w) :=
 (An5 b bs hb hbl f [x] (by simp[Cf3];exact hx) (by simp) _ 1 _ ((Nums.lit w 3 .i64 [x]).more (by simp)) (hT.alloc _)).mono fun _ _ h=>Cr1 (Aa1 _ _) h
theorem ctl2 (b:ByteArray) (bs:List Int) (hb:Lib.strCells b=bs.map (Value.int .u8)) (hbl:bs.length<=1000) (f:Int) (w:World) (hT:Tab w) {x y:Int} (hx:0<=x/\x<=9223372036854775807) (hy:0<=y/\y<=9223372036854775807) :
  Calls Tryz.prog 50 #[.string b,.int .u8 f,.slice (some ⟨w.heap.size,0,none⟩) 2 2] (w.alloc (.cells #[.int .i64 x,.int .i64 y] 3)) (Put w.heap.size (ctlF bs [x,y] f) w) :=
 (An5 b bs hb hbl f [x,y] (by simp[Cf3];exact⟨hx,hy⟩) (by simp) _ 2 _ ((Nums.lit w 3 .i64 [x,y]).more (by simp)) (hT.alloc _)).mono fun _ _ h=>Cr1 (Aa1 _ _) h
theorem Cp5 {n:Nat} (h:10<=n) (h1:n<100):dgF (n:Int)=[48+((n / 10:Nat):Int),48+((n % 10:Nat):Int)]:=by
 rw[dg_big h,dg_small (by omega)]
 rfl
def k1:List Int:=[27,91,65]
def k2:List Int:=[27,79,65]
def k3:List Int:=[3]
def k4:List Int:=[27,91,49,53,126]
theorem text_of {w:World} {ao:Option Addr} {l:List Int} (h:Nums w w.heap.size .u8 ao l) (c:Nat):(convert 22 9 (.slice ao l.length c)).run Tryz.prog w=.ok (.string (strOfNums l)) w :=
 run_text h Tryz.underlying22 Tryz.underlying5 Tryz.underlying9 c
theorem held_mono {P:Program} {md:Region.Mode} {ops:Array Oper} {Q:Exit->Act->World->Prop} {S S':World->Prop} (h:∀w,S' w->S w):∀(fuel:Nat) (listed:Array Bool) (a:Act) (w:World),wpAnyH P md ops Q S' fuel listed a w->wpAnyH P md ops Q S fuel listed a w
 |0,_,_,_,H=>H
 |fuel+1,_,_,_,H=>⟨H.1,fun i hi=>wpOp_mono (fun a' w' h'=>⟨h _ h'.1,held_mono h fuel _ a' w' h'.2⟩) (H.2 i hi)⟩
def mx (r:Int):Int:=if r<1 then 1 else r
theorem Cu2 {r:Int} (h:r<=9223372036854775807):0<=mx r/\mx r<=9223372036854775807:=by
 unfold mx
 split<;>omega
def curF (r c:Int):List Int:=ctlF [27,91] [mx r,mx c] 82
theorem cursor_any (r c:Int) (hr:r<=9223372036854775807) (hc:c<=9223372036854775807) (w:World) (hT:Tab w):Calls Tryz.prog 255 #[.int .i64 r,.int .i64 c] w (Put w.heap.size (curF r c) w):=by
 have hx:=Cu2 hr
 have hy:=Cu2 hc
 have hcon:=ctl2 _ _ Ct4 (by simp) 82 w hT hx hy
 have hE:=J0 (show curF r c=ctlF [27,91] [mx r,mx c] 82 from rfl)
 by_cases h1:r<1
 ·have e1:mx r=1:=if_pos h1
  rw[e1] at hcon hE
  by_cases h2:c<1
  ·have e2:mx c=1:=if_pos h2
   rw[e2] at hcon hE
   have m1:max r 1=1:=by omega
   have m2:max c 1=1:=by omega
   clear hx hy e1 e2 hT hr hc
   replace hcon:=J0 hcon
   go_enter Tryz.func255,Tryz.ntmps255
   go_wp2_with ((go_at_call 50;(with_reducible refine(hcon.out).mono ?_);rintro e w1 ⟨v1,rfl,hr1,hb1⟩))
   go_ret
   rw[hE.out]
   exact⟨_,rfl,hr1,hb1⟩
  ·have e2:mx c=c:=if_neg h2
   rw[e2] at hcon hE
   have m1:max r 1=1:=by omega
   have m2:max c 1=c:=by omega
   clear hx hy e1 e2 hT hr hc
   replace hcon:=J0 hcon
   go_enter Tryz.func255,Tryz.ntmps255
   go_wp2_with ((go_at_call 50;(with_reducible refine(hcon.out).mono ?_);rintro e w1 ⟨v1,rfl,hr1,hb1⟩))
   go_ret
   rw[hE.out]
   exact⟨_,rfl,hr1,hb1⟩
 ·have e1:mx r=r:=if_neg h1
  rw[e1] at hcon hE
  by_cases h2:c<1
  ·have e2:mx c=1:=if_pos h2
   rw[e2] at hcon hE
   have m1:max r 1=r:=by omega
   have m2:max c 1=1:=by omega
   clear hx hy e1 e2 hT hr hc
   replace hcon:=J0 hcon
   go_enter Tryz.func255,Tryz.ntmps255
   go_wp2_with ((go_at_call 50;(with_reducible refine(hcon.out).mono ?_);rintro e w1 ⟨v1,rfl,hr1,hb1⟩))
   go_ret
   rw[hE.out]
   exact⟨_,rfl,hr1,hb1⟩
  ·have e2:mx c=c:=if_neg h2
   rw[e2] at hcon hE
   have m1:max r 1=r:=by omega
   have m2:max c 1=c:=by omega
   clear hx hy e1 e2 hT hr hc
   replace hcon:=J0 hcon
   go_enter Tryz.func255,Tryz.ntmps255
   go_wp2_with ((go_at_call 50;(with_reducible refine(hcon.out).mono ?_);rintro e w1 ⟨v1,rfl,hr1,hb1⟩))
   go_ret
   rw[hE.out]
   exact⟨_,rfl,hr1,hb1⟩
def staF:List Int:=[27,91,48,110]
def devF:List Int:=[27,91,63,54,50,59,50,50,99]
theorem sta_is:ctlF [27,91] [0] 110=staF:=by
 show [27,91]++(dgF ((0:Nat):Int)++[])++[110]=staF
 rw[dg_small (by omega)]
 rfl
theorem dev_is:ctlF [27,91,63] [62,22] 99=devF:=by
 show [27,91,63]++(dgF ((62:Nat):Int)++(59::(dgF ((22:Nat):Int)++[])))++[99]=devF
 rw[Cp5 (by omega) (by omega),Cp5 (by omega) (by omega)]
 rfl
theorem status_any (w:World) (hT:Tab w):Calls Tryz.prog 254 #[] w (Put w.heap.size staF w):=by
 have hcon:=ctl1 _ _ Ct4 (by simp) 110 w hT (x:=0) (by omega)
 rw[sta_is] at hcon
 replace hcon:=J0 hcon
 clear hT
 go_enter Tryz.func254,Tryz.ntmps254
 go_wp2_with ((go_at_call 50;(with_reducible refine(hcon.out).mono ?_);rintro e w1 ⟨v1,rfl,hr1,hb1⟩))
 go_ret
 exact⟨_,rfl,hr1,hb1⟩
theorem device_any (w:World) (hT:Tab w):Calls Tryz.prog 256 #[] w (Put w.heap.size devF w):=by
 have hcon:=ctl2 _ _ dev_b (by simp) 99 w hT (x:=62) (y:=22) (by omega) (by omega)
 rw[dev_is] at hcon
 replace hcon:=J0 hcon
 clear hT
 go_enter Tryz.func256,Tryz.ntmps256
 go_wp2_with ((go_at_call 50;(with_reducible refine(hcon.out).mono ?_);rintro e w1 ⟨v1,rfl,hr1,hb1⟩))
 go_ret
 exact⟨_,rfl,hr1,hb1⟩
end Go.Proofs.YtecnpoigegiooaaGreatDoor.Kys
namespace Go.Proofs.YtecnpoigegiooaaGreatDoor.Cht
def inB (r a b:Int):Bool:=decide (a<=r) && decide (r<=b)
def mayF (r:Int):Bool:=decide (0<=r) && decide (r<=1114111) && !(decide (55296<=r) && decide (r<=57343))
def wrows:List (Int×Int×Int) :=
 [(0,31,0),(127,159,0),(768,879,0),(1155,1161,0),(1425,1469,0),(1552,1562,0),(1611,1631,0),(3633,3633,0),(3636,3642,0),(3655,3662,0),(4352,4447,2),(6832,6911,0),(7616,7679,0),(8203,8207,0),(8400,8447,0),(11904,12350,2),(12353,42191,2),(44032,55203,2),(63744,64255,2),(65024,65039,0),(65056,65071,0),(65072,65135,2),(65280,65376,2),(65504,65510,2),(127744,128591,2),(129280,129535,2),(131072,196605,2),(196608,262141,2),(917760,917999,0)]
def crows:List (Int×Int×Int) :=
 [(32,32,1),(48,57,2),(65,90,4),(97,122,3),(160,160,1),(192,214,4),(216,222,4),(223,246,3),(248,255,3),(8192,8202,1),(8239,8239,1),(8287,8287,1),(12288,12288,1)]
def graphs:List Int :=
 [9670,9618,9225,9228,9229,9226,176,177,9252,9227,9496,9488,9484,9492,9532,9146,9147,9472,9148,9149,9500,9508,9524,9516,9474,8804,8805,960,8800,163,183]
def scan:List (Int×Int×Int)->Int->Option Int
 |[],_=>none
 |x::l,r=>if r<x.1 then none else if r<=x.2.1 then some x.2.2 else scan l r
def widthF (r:Int):Int:=if mayF r then (scan wrows r).getD 1 else 0
def Cp4 (r:Int):Int:=if widthF r=0 then 0 else (scan crows r).getD (if r<128 then 5 else 6)
def Cm3:List (Int×Int×Int)->Bool
 |[]=>true
 |x::l=>decide (x.1<=x.2.1) && l.all (fun y=>decide (x.2.1<y.1)) && Cm3 l
theorem Bv4:∀(l:List (Int×Int×Int)) (r:Int) (x:Int×Int×Int),Cm3 l=true->x∈l->x.1<=r->r<=x.2.1->scan l r=some x.2.2
 |[],_,_,_,h,_,_=>by cases h
 |y::l,r,x,hr,hx,h1,h2=>by
  simp only[Cm3,Bool.and_eq_true,decide_eq_true_eq,List.all_eq_true] at hr
  obtain⟨⟨h0,hall⟩,hl⟩:=hr
  unfold scan
  rcases List.mem_cons.1 hx with rfl|hx
  ·rw[if_neg (by omega),if_pos h2]
  ·have:=hall x hx
   rw[if_neg (by omega),if_neg (by omega)]
   exact Bv4 l r x hl hx h1 h2
theorem Bv3:∀(l:List (Int×Int×Int)) (r:Int),(∀x∈l,¬(x.1<=r/\r<=x.2.1))->scan l r=none
 |[],_,_=>rfl
 |y::l,r,h=>by
  have h0:=h y (List.mem_cons_self ..)
  unfold scan
  by_cases c:r<y.1
  ·rw[if_pos c]
  ·rw[if_neg c,if_neg (by omega)]
   exact Bv3 l r (fun x hx=>h x (List.mem_cons_of_mem _ hx))
theorem scan_drop (l:List (Int×Int×Int)) (r:Int) (k:Nat) (hk:k<l.length) :
  scan (l.drop k) r=if r<(l.getD k (0,0,0)).1 then none else if r<=(l.getD k (0,0,0)).2.1 then some (l.getD k (0,0,0)).2.2 else scan (l.drop (k+1)) r:=by
 rw[List.drop_eq_getElem_cons hk]
 simp[scan,List.getD,hk]
def anyIn (l:List (Int×Int)) (r:Int):Bool:=l.any fun p=>inB r p.1 p.2
def controls:List (Int×Int):=[(0,31),(127,159)]
def marks:List (Int×Int):=[(768,879),(1155,1161),(1425,1469),(1552,1562),(1611,1631),(3633,3633),(3636,3642),(3655,3662),(6832,6911),(7616,7679),(8203,8207),(8400,8447),(65024,65039),(65056,65071),(917760,917999)]
def wides:List (Int×Int):=[(4352,4447),(11904,12350),(12353,42191),(44032,55203),(63744,64255),(65072,65135),(65280,65376),(65504,65510),(127744,128591),(129280,129535),(131072,196605),(196608,262141)]
theorem anyIn_iff {l:List (Int×Int)} {r:Int}:anyIn l r=true↔∃p∈l,p.1<=r/\r<=p.2:=by
 simp[anyIn,inB]
theorem Bx5:Cm3 wrows=true:=by decide
theorem Au2 {l:List (Int×Int×Int)} {ps:List (Int×Int)} {v r:Int} (hl:Cm3 l=true) (hin:∀p∈ps,(p.1,p.2,v)∈l) (h:anyIn ps r=true):scan l r=some v:=by
 obtain⟨p,hp,h1,h2⟩:=anyIn_iff.1 h
 exact Bv4 l r (p.1,p.2,v) hl (hin p hp) h1 h2
theorem Bx0 {ps:List (Int×Int)} {r:Int} (h:anyIn ps r=false):∀p∈ps,¬(p.1<=r/\r<=p.2):=by
 intro p hp hh
 have:=anyIn_iff.2 ⟨p,hp,hh⟩
 rw[h] at this
 cases this
theorem width_no {r:Int} (h:mayF r=false):widthF r=0:=by simp[widthF,h]
theorem width_control {r:Int} (h:anyIn controls r=true):widthF r=0:=by
 unfold widthF
 rw[Au2 Bx5 (v:=0) (by decide) h]
 simp
theorem width_mark {r:Int} (h:anyIn marks r=true):widthF r=0:=by
 unfold widthF
 rw[Au2 Bx5 (v:=0) (by decide) h]
 simp
theorem width_wide {r:Int} (hm:mayF r=true) (h:anyIn wides r=true):widthF r=2:=by
 unfold widthF
 rw[Au2 Bx5 (v:=2) (by decide) h,hm]
 simp
theorem width_else {r:Int} (hm:mayF r=true) (h1:anyIn controls r=false) (h2:anyIn marks r=false) (h3:anyIn wides r=false):widthF r=1:=by
 unfold widthF
 rw[hm,Bv3]
 ·simp
 ·intro x hx
  have hall:∀x∈wrows,(x.1,x.2.1)∈controls\/(x.1,x.2.1)∈marks\/(x.1,x.2.1)∈wides:=by decide
  rcases hall x hx with h|h|h
  ·exact Bx0 h1 _ h
  ·exact Bx0 h2 _ h
  ·exact Bx0 h3 _ h
def upperF (r:Int):Int:=if Cp4 r=3/\Cp4 (r - 32)=4 then r - 32 else r
def Aj9 (r:Int):Int:=if r=95 then 32 else if 96<=r/\r<127 then graphs.getD (r - 96).toNat 0 else r
def Av3 (r:Int):Int:=if r=35 then 163 else r
def charsetF (s r:Int):Int:=if s=1 then Av3 r else if s=2 then Aj9 r else r
end Go.Proofs.YtecnpoigegiooaaGreatDoor.Cht
namespace Go.Proofs.YtecnpoigegiooaaGreatDoor.Cht
open Go RowKit
theorem Ab6 {a b:Bool} (h:a=b):Ending.returned (.bool a)=.returned (.bool b):=by rw[h]
theorem Ab7 {k:IntKind} {a b:Int} (h:a=b):Ending.returned (.int k a)=.returned (.int k b):=by rw[h]
theorem Cj3 (r:Int) (w:World):Calls Tryz.prog 159 #[.int .i32 r] w fun e w'=>e=.returned (.bool (mayF r))/\w=w':=by
 unfold mayF
 by_cases h1:55296<=r
 ·by_cases h2:r<=57343
  ·go_enter Tryz.func159,Tryz.ntmps159
   go_wp2
   go_ret
   exact⟨Ab6 (by (rw[Bool.eq_iff_iff];simp)<;>omega),rfl⟩
  ·by_cases h3:r<=1114111
   all_goals
    go_enter Tryz.func159,Tryz.ntmps159
    go_wp2
    go_ret
    exact⟨Ab6 (by (rw[Bool.eq_iff_iff];simp)<;>omega),rfl⟩
 ·by_cases h3:0<=r
  all_goals
   go_enter Tryz.func159,Tryz.ntmps159
   go_wp2
   go_ret
   exact⟨Ab6 (by (rw[Bool.eq_iff_iff];simp)<;>omega),rfl⟩
structure Ae1 (g:Nat) (l:List (Int×Int×Int)) (w:World) (k:Nat):Prop where
 first:w.cell? ⟨g,k*3,none⟩=some (.int .i32 (l.getD k (0,0,0)).1)
 last:w.cell? ⟨g,k*3+1,none⟩=some (.int .i32 (l.getD k (0,0,0)).2.1)
 value:w.cell? ⟨g,k*3+2,none⟩=some (.int .u8 (l.getD k (0,0,0)).2.2)
structure Tabs (w:World):Prop where
 size:3<=w.heap.size
 widths:∀k,k<29->Ae1 0 wrows w k
 graphics:∀k,k<31->w.cell? ⟨1,k,none⟩=some (.int .i32 (graphs.getD k 0))
theorem wvalue (k:Nat) (h:k<29):0<=(wrows.getD k (0,0,0)).2.2/\(wrows.getD k (0,0,0)).2.2<=255:=by
 have hall:∀k:Fin 29,0<=(wrows.getD k.val (0,0,0)).2.2/\(wrows.getD k.val (0,0,0)).2.2<=255:=by decide +kernel
 exact hall ⟨k,h⟩
theorem width_any (r:Int) (w:World) (T:Tabs w) :
  Calls Tryz.prog 122 #[.int .i32 r] w fun e w'=>e=.returned (.int .i64 (widthF r))/\w=w':=by
 have T':=J0 T.widths;clear T
 by_cases hm:mayF r=true
 ·have HW:Hid (widthF r=(scan wrows r).getD 1):=by show _=_;unfold widthF;rw[if_pos hm]
  go_enter Tryz.func122,Tryz.ntmps122
  go_wp2_with (go_at_call 159;refine(Cj3 _ _).mono ?_;rintro e w' ⟨rfl,rfl⟩)
  go_loop [7] (fun i=>∃k:Nat,k<=29/\i=.int .i64 k/\Hid (scan wrows r=scan (wrows.drop k) r)) (fun i=>29 - (intOf i).toNat)
  case atStart=>exact⟨0,by omega,rfl,rfl⟩
  case round =>
   obtain⟨k,hk,rfl,hs⟩:=hrel
   by_cases hlt:k<29
   ·have R:=T'.out k hlt
    have c0:=R.first
    have c1:=R.last
    have c2:=R.value
    have HD:=J0 (scan_drop wrows r k hlt)
    obtain⟨v0,v1⟩:=wvalue k hlt
    clear R
    generalize hrow:wrows.getD k (0,0,0)=row at c0 c1 c2 HD v0 v1
    clear hrow
    obtain⟨x,y,z⟩:=row
    by_cases hx:r<x
    ·go_wp2
     go_ret
     exact⟨Ab7 (by rw[HW.out,hs.out,HD.out,if_pos hx];rfl),rfl⟩
    ·by_cases hy:r<=y
     ·go_wp2
      go_ret
      exact⟨Ab7 (by rw[HW.out,hs.out,HD.out,if_neg (show ¬r<x by omega),if_pos hy,IntWalk.wrap64_in z ⟨by omega,by omega⟩];rfl),rfl⟩
     ·go_wp2
      go_round
      case rel=>exact⟨k+1,by omega,by go_num,by rw[hs.out,HD.out,if_neg (show ¬r<x by omega),if_neg (show ¬r<=y by omega)];exact J0 rfl⟩
      case measure=>simp[intOf];omega
   ·go_wp2
    go_ret
    exact⟨Ab7 (by rw[HW.out,hs.out,List.drop_of_length_le (by show 29<=k;omega)];rfl),rfl⟩
 ·have hm':mayF r=false:=by simpa using hm
  go_enter Tryz.func122,Tryz.ntmps122
  go_wp2_with (go_at_call 159;refine(Cj3 _ _).mono ?_;rintro e w' ⟨rfl,rfl⟩)
  go_ret
  exact⟨Ab7 (by rw[width_no hm']),rfl⟩
theorem british_any (r:Int) (w:World) :
  Calls Tryz.prog 157 #[.int .i32 r] w fun e w'=>e=.returned (.int .i32 (Av3 r))/\w=w':=by
 by_cases h:r=35
 ·subst h
  go_enter Tryz.func157,Tryz.ntmps157
  go_wp2
  go_ret
  exact⟨rfl,rfl⟩
 ·have hb:(r == 35)=false:=by simpa using h
  have HL:Hid (Av3 r=r):=by show _=_;unfold Av3;rw[if_neg h]
  clear h
  go_enter Tryz.func157,Tryz.ntmps157
  go_wp2
  go_ret
  exact⟨Ab7 (by rw[HL.out]),rfl⟩
theorem graphic_any (r:Int) (w:World) (T:Tabs w) :
  Calls Tryz.prog 158 #[.int .i32 r] w fun e w'=>e=.returned (.int .i32 (Aj9 r))/\w=w':=by
 have TT:=J0 T.graphics;clear T
 by_cases h:r=95
 ·subst h
  go_enter Tryz.func158,Tryz.ntmps158
  go_wp2
  go_ret
  exact⟨rfl,rfl⟩
 ·have hb:(r == 95)=false:=by simpa using h
  by_cases h1:96<=r
  ·by_cases h2:r<127
   ·have HL:Hid (Aj9 r=graphs.getD (r - 96).toNat 0):=by show _=_;unfold Aj9;rw[if_neg h,if_pos ⟨h1,h2⟩]
    clear h
    have hc:=TT.out (r - 96).toNat (by omega)
    generalize hg:graphs.getD (r - 96).toNat 0=g at hc HL
    clear hg
    go_enter Tryz.func158,Tryz.ntmps158
    go_wp2
    go_ret
    exact⟨Ab7 (by rw[HL.out]),rfl⟩
   ·have HL:Hid (Aj9 r=r):=by show _=_;unfold Aj9;rw[if_neg h,if_neg (by omega)]
    clear h
    go_enter Tryz.func158,Tryz.ntmps158
    go_wp2
    go_ret
    exact⟨Ab7 (by rw[HL.out]),rfl⟩
  ·have HL:Hid (Aj9 r=r):=by show _=_;unfold Aj9;rw[if_neg h,if_neg (by omega)]
   clear h
   go_enter Tryz.func158,Tryz.ntmps158
   go_wp2
   go_ret
   exact⟨Ab7 (by rw[HL.out]),rfl⟩
theorem charset_any (s r:Int) (w:World) (T:Tabs w) :
  Calls Tryz.prog 121 #[.int .u8 s,.int .i32 r] w fun e w'=>e=.returned (.int .i32 (charsetF s r))/\w=w':=by
 have TT:=J0 T;clear T
 have fin:((s == 1)=true/\Hid (charsetF s r=Av3 r))\/((s == 1)=false/\(s == 2)=true/\Hid (charsetF s r=Aj9 r))\/((s == 1)=false/\(s == 2)=false/\Hid (charsetF s r=r)):=by
  by_cases h1:s=1
  ·exact .inl ⟨by simpa using h1,by show _=_;simp[charsetF,h1]⟩
  ·by_cases h2:s=2
   ·exact .inr (.inl ⟨by simpa using h1,by simpa using h2,by show _=_;simp[charsetF,h2]⟩)
   ·exact .inr (.inr ⟨by simpa using h1,by simpa using h2,by show _=_;simp[charsetF,h1,h2]⟩)
 rcases fin with ⟨h1,HL⟩|⟨h1,h2,HL⟩|⟨h1,h2,HL⟩
 all_goals
  go_enter Tryz.func121,Tryz.ntmps121
  go_wp2_with (first|(go_at_call 157;refine(british_any _ _).mono ?_;rintro e w' ⟨rfl,rfl⟩)|(go_at_call 158;refine(graphic_any _ _ TT.out).mono ?_;rintro e w' ⟨rfl,rfl⟩))
  go_ret
  exact⟨Ab7 (by rw[HL.out]),rfl⟩
end Go.Proofs.YtecnpoigegiooaaGreatDoor.Cht
namespace Go.Proofs.YtecnpoigegiooaaGreatDoor.Emu
open Go Rw Scn
structure Cur where
 row:Nat
 col:Nat
 pend:Bool
structure Pen where
 a:At
 g0:Int
 g1:Int
 wh:Bool
structure Sav where
 c:Cur
 p:Pen
 org:Bool
structure Ev where
 k:Int
 ix:Nat
 line:Int
 col:Int
 wide:Bool
 r:Int
 bl:Bool
 la:Bool
 fr:Bool
 wr:Bool
structure Sh where
 cols:Nat
 top:Nat
 bot:Nat
 L:List Ln
 sv:Sav
structure Ter where
 m:Mds.Md
 c:Cur
 p:Pen
 nx:Nat
 most:Nat
 R:List Ln
 main:Sh
 other:Option Sh
 tn:Nat
 tf:Nat->Bool
 prints:Nat
 last:Ev
 jr:List Ev
 rp:List Int
structure AcT where
 kind:Int
 r:Int
 priv:Int
 params:List Int
 inter:List Int
 fin:Int
 text:List Int
def cur0:Cur:=⟨0,0,false⟩
def pen0:Pen:=⟨zeroAt,0,0,false⟩
def sav0:Sav:=⟨cur0,pen0,false⟩
def ev0:Ev:=⟨0,0,0,0,false,0,false,false,false,false⟩
def Sh.scr (h:Sh) (nx most:Nat) (kp:Bool) (R:List Ln):Scr:=⟨nx,most,kp,h.cols,h.top,h.bot,h.L,R⟩
def Sh.of (h:Sh) (S:Scr):Sh:={ h with cols:=S.cols,top:=S.top,bot:=S.bot,L:=S.L }
namespace Ter
def sh (T:Ter):Sh:=match T.other with|some o=>o|none=>T.main
def vis (T:Ter):Scr:=T.sh.scr T.nx T.most T.other.isNone T.R
def mscr (T:Ter):Scr:=T.main.scr T.nx T.most true T.R
def putVis (T:Ter) (S:Scr):Ter:=match T.other with
 |none=>{ T with nx:=S.nx,R:=S.R,main:=T.main.of S }
 |some o=>{ T with nx:=S.nx,R:=S.R,other:=some (o.of S) }
def putSv (T:Ter) (s:Sav):Ter:=match T.other with
 |none=>{ T with main:={ T.main with sv:=s } }
 |some o=>{ T with other:=some { o with sv:=s } }
end Ter
def Ba1 (i:Int) (n:Nat):Nat:=(min i ((n:Int) - 1)).toNat
def place (T:Ter) (row col:Int):Ter:={ T with c:=⟨Ba1 row T.vis.L.length,Ba1 col T.vis.cols,false⟩ }
def tell (T:Ter) (e:Ev):Ter:={ T with last:=e,jr:=T.jr++[e] }
def here (T:Ter) (k:Int):Ev:=⟨k,0,idAt T.vis.L T.c.row,T.c.col,false,0,false,false,false,false⟩
def tellOther (T:Ter):Ter:=tell T (here T 4)
def tellStraight (T:Ter):Ter:=tell T (here T 3)
def line (T:Ter):List Cel:=((T.vis.L[T.c.row]?).map (·.2)).getD []
def tellFeed (T:Ter) (wrap:Bool):Ter:=tell T { here T 3 with fr:=Ao9 (line T) 0,wr:=wrap }
def move (T:Ter) (row col:Int):Ter:=tellOther (place T row col)
def upT (S:Scr) (n:Int) (a:At):Scr:=upS S S.top n a (S.kp && decide (S.top=0))
def feed (T:Ter):Ter:=if T.c.row=T.vis.bot then place (T.putVis (upT T.vis 1 T.p.a)) T.c.row T.c.col else place T ((T.c.row:Int)+1) T.c.col
def putLine (T:Ter) (l:List Cel):Ter:=T.putVis (Ae0 T.vis T.c.row l)
def tellRune (T:Ter) (e:Ev) (r:Int):Ter:=tell { T with prints:=T.prints+1 } { e with ix:=T.prints,r:=r }
def isRuneAt (e:Ev) (line col:Int):Bool:=((e.k == 1) || (e.k == 2)) && ((e.line == line) && (e.col == col))
def setCol (T:Ter) (n:Nat):Ter:={ T with c:={ T.c with col:=n } }
def Ao3 (T:Ter):Int:=if T.c.pend then (T.c.col:Int) else (T.c.col:Int) - 1
def At4 (T:Ter) (c:Nat) (r:Int):Ter :=
 let T1:=putLine T (joiL (line T) c r)
 tellRune T1 { here T1 2 with col:=c,la:=isRuneAt T1.last (here T1 2).line c } r
def Bc5 (T:Ter) (r:Int):Ter :=
 if 0<=Ao3 T/\Ao3 T<((line T).length:Int) then At4 T (if W (line T) (Ao3 T).toNat=2 then (Ao3 T).toNat - 1 else (Ao3 T).toNat) r else T
def Ao6 (T:Ter) (w:Nat):Bool:=decide (T.vis.cols<T.c.col+w)
def makeWay (T:Ter) (w:Nat):Ter :=
 if T.m.a4 && (T.c.pend || Ao6 T w) then tellFeed (feed (setCol T 0)) true
 else if Ao6 T w then setCol T (T.c.col - 1) else T
def Ag1 (T:Ter) (w:Nat):Ev:={ here T 1 with wide:=decide (w=2),bl:=Ao9 (line T) T.c.col }
def Aa6 (T:Ter) (r:Int) (w:Nat):List Cel:=putL (if T.m.a0 then inL (line T) T.c.col w T.p.a else line T) T.c.col r (decide (w=2)) T.p.a
def By5 (T:Ter) (b:Nat) (wrap:Bool):Ter :=
 let T3:=place T T.c.row b
 { T3 with c:={ T3.c with pend:=wrap && decide (T3.c.col<b) } }
def putT (T:Ter) (r:Int) (w:Nat):Ter:=By5 (tellRune (putLine T (Aa6 T r w)) (Ag1 T w) r) (T.c.col+w) T.m.a4
def Bb9 (T:Ter) (R:Int):Ter :=
 let r:=Cht.charsetF (if T.p.wh then T.p.g1 else T.p.g0) R
 if Cht.widthF r=0 then Bc5 T r
 else if (T.vis.cols:Int)<Cht.widthF r then putT (makeWay T 1) 65533 1
 else putT (makeWay T (Cht.widthF r).toNat) r (Cht.widthF r).toNat
def stepBack (T:Ter):Ter:=move T T.c.row ((T.c.col:Int) - 1)
def nextTab (T:Ter):Ter:=tellStraight (place T T.c.row (Tbs.nextF T.tn T.tf T.c.col 1))
def newLine (T:Ter):Ter:=tellFeed (feed (if T.m.a1 then setCol T 0 else T)) false
def lineBegin (T:Ter):Ter:=tellStraight (place T T.c.row 0)
def setWh (T:Ter) (b:Bool):Ter:={ T with p:={ T.p with wh:=b } }
def rowDown (T:Ter):Ter:=tellOther (feed T)
def nextLine (T:Ter):Ter:=rowDown (setCol T 0)
def setTab (T:Ter):Ter:={ T with tf:=Tbs.putF T.tf T.c.col true }
def rowUp (T:Ter):Ter:=if T.c.row=T.vis.top then move (T.putVis (Ag0 T.vis T.vis.top 1 T.p.a)) T.c.row T.c.col else move T ((T.c.row:Int) - 1) T.c.col
def save (T:Ter):Ter:=T.putSv ⟨T.c,T.p,T.m.a3⟩
def setOrg (T:Ter) (b:Bool):Ter:={ T with m:={ T.m with a3:=b } }
def restored (T:Ter):Ter:={ T with c:={ T.sh.sv.c with pend:=T.sh.sv.c.pend && decide (T.sh.sv.c.col+1=T.vis.cols) },p:=T.sh.sv.p,m:={ T.m with a3:=T.sh.sv.org } }
def restore (T:Ter):Ter:=tellOther (restored T)
def Az6 (nx rows cols:Nat):Sh:=⟨cols,0,rows - 1,Ae9 nx cols rows zeroAt,sav0⟩
def Ag7 (T:Ter) (rows cols:Nat):Ter:={ T with nx:=T.nx+rows,R:=[],main:=Az6 T.nx rows cols,other:=none,tn:=cols,tf:=Tbs.freshF 0 cols,m:=Mds.start,c:=cur0,p:=pen0 }
def tellReset (T:Ter):Ter:=tell T (here T 5)
def reset (T:Ter):Ter:=tellReset (Ag7 T T.vis.L.length T.vis.cols)
def control (T:Ter) (r:Int):Ter :=
 if r=8 then stepBack T else if r=9 then nextTab T else if r=10\/r=11\/r=12 then newLine T else if r=13 then lineBegin T else if r=14 then setWh T true else if r=15 then setWh T false
 else if r=132 then rowDown T else if r=133 then nextLine T else if r=136 then setTab T else if r=141 then rowUp T else T
def Au4 (r:Int):Option Bool:=if r=40 then some false else if r=41 then some true else none
def Bp7 (f:Int):Option Int:=if f=48 then some 2 else if f=65 then some 1 else if f=66 then some 0 else none
def setG (T:Ter) (b:Bool) (v:Int):Ter:=if b then { T with p:={ T.p with g1:=v } } else { T with p:={ T.p with g0:=v } }
def choose (T:Ter) (x:AcT):Ter:=match x.inter with
 |[r]=>match Au4 r,Bp7 x.fin with
  |some b,some v=>setG T b v
  |_,_=>T
 |_=>T
def escape (T:Ter) (x:AcT):Ter :=
 if x.inter=[] then
  (if x.fin=55 then save T else if x.fin=56 then restore T else if x.fin=68 then rowDown T else if x.fin=69 then nextLine T else if x.fin=72 then setTab T else if x.fin=77 then rowUp T else if x.fin=99 then reset T else T)
 else choose T x
def Aj4 (v:Int):Int:=max 0 (min v 65535)
def atN (p:List Int) (i:Nat):Int:=match p[i]? with|some v=>Aj4 v|none=>0
def Aa2 (p:List Int) (i:Nat):Int:=max 1 (atN p i)
def above (T:Ter) (n:Int):Int:=if T.vis.top<=T.c.row then max (T.vis.top:Int) ((T.c.row:Int) - n) else (T.c.row:Int) - n
def below (T:Ter) (n:Int):Int:=if T.c.row<=T.vis.bot then min (T.vis.bot:Int) ((T.c.row:Int)+n) else (T.c.row:Int)+n
def counted (T:Ter) (n:Int):Int:=if T.m.a3 then min (T.vis.bot:Int) ((T.vis.top:Int)+n - 1) else n - 1
def home (T:Ter):Ter:=move T (counted T 1) 0
def goUp (T:Ter) (p:List Int):Ter:=move T (above T (Aa2 p 0)) T.c.col
def goDown (T:Ter) (p:List Int):Ter:=move T (below T (Aa2 p 0)) T.c.col
def goOn (T:Ter) (p:List Int):Ter:=move T T.c.row ((T.c.col:Int)+Aa2 p 0)
def goBack (T:Ter) (p:List Int):Ter:=move T T.c.row ((T.c.col:Int) - Aa2 p 0)
def Bw2 (T:Ter) (p:List Int):Ter:=move T (below T (Aa2 p 0)) 0
def Cs5 (T:Ter) (p:List Int):Ter:=move T (above T (Aa2 p 0)) 0
def toCol (T:Ter) (p:List Int):Ter:=move T T.c.row (Aa2 p 0 - 1)
def toPlace (T:Ter) (p:List Int):Ter:=move T (counted T (Aa2 p 0)) (Aa2 p 1 - 1)
def toRow (T:Ter) (p:List Int):Ter:=move T (counted T (Aa2 p 0)) T.c.col
def tabsOn (T:Ter) (p:List Int):Ter:=move T T.c.row (Tbs.nextF T.tn T.tf T.c.col (Aa2 p 0))
def tabsBack (T:Ter) (p:List Int):Ter:=move T T.c.row (Tbs.prevF T.tn T.tf T.c.col (Aa2 p 0))
def eraRows (L:List Ln) (f t:Nat) (cols:Nat) (a:At):List Ln:=L.mapIdx fun i p=>if f<=i/\i<t then (p.1,eraL p.2 0 cols a) else p
def eraseRows (T:Ter) (f t:Nat):Ter:=T.putVis { T.vis with L:=eraRows T.vis.L f t T.vis.cols T.p.a }
def An7 (T:Ter) (f t:Int):Ter:=tellOther (putLine T (eraL (line T) f t T.p.a))
def eraseLine (T:Ter) (n:Int):Ter:=if n=0 then An7 T T.c.col T.vis.cols else if n=1 then An7 T 0 ((T.c.col:Int)+1) else if n=2 then An7 T 0 T.vis.cols else T
def noBack (T:Ter):Ter:={ T with R:=[] }
def Al6 (T:Ter) (n:Int):Ter :=
 eraseLine (if n=0 then eraseRows T (T.c.row+1) T.vis.L.length else if n=1 then eraseRows T 0 T.c.row else if n=2 then eraseRows T 0 T.vis.L.length else if n=3 then noBack T else T) n
def eraseCells (T:Ter) (p:List Int):Ter:=An7 T T.c.col ((T.c.col:Int)+Aa2 p 0)
def insertCells (T:Ter) (p:List Int):Ter:=tellOther (putLine T (inL (line T) T.c.col (Aa2 p 0) T.p.a))
def deleteCells (T:Ter) (p:List Int):Ter:=tellOther (putLine T (deL (line T) T.c.col (Aa2 p 0) T.p.a))
def within (T:Ter):Prop:=T.vis.top<=T.c.row/\T.c.row<=T.vis.bot
instance (T:Ter):Decidable (within T):=by unfold within;infer_instance
def insertLines (T:Ter) (p:List Int):Ter:=if within T then move (T.putVis (Ag0 T.vis T.c.row (Aa2 p 0) T.p.a)) T.c.row 0 else T
def deleteLines (T:Ter) (p:List Int):Ter:=if within T then move (T.putVis (upS T.vis T.c.row (Aa2 p 0) T.p.a false)) T.c.row 0 else T
def scrollUp (T:Ter) (p:List Int):Ter:=tellOther (T.putVis (upT T.vis (Aa2 p 0) T.p.a))
def scrollDown (T:Ter) (p:List Int):Ter:=tellOther (T.putVis (Ag0 T.vis T.vis.top (Aa2 p 0) T.p.a))
def Bc6 (T:Ter) (p:List Int):Int:=if atN p 1 - 1<0\/(T.vis.L.length:Int)<=atN p 1 - 1 then (T.vis.L.length:Int) - 1 else atN p 1 - 1
def setMargins (T:Ter) (p:List Int):Ter:=if Aa2 p 0 - 1<Bc6 T p then home (T.putVis { T.vis with top:=(Aa2 p 0 - 1).toNat,bot:=(Bc6 T p).toNat }) else T
def clearTabs (T:Ter) (p:List Int):Ter:=if atN p 0=0 then { T with tf:=Tbs.putF T.tf T.c.col false } else if atN p 0=3 then { T with tf:=fun _=>false } else T
def toS (a:At):Sgr.At:=⟨a.f,a.b,a.g⟩
def ofS (a:Sgr.At):At:=⟨a.f,a.b,a.g⟩
def look (T:Ter) (p:List Int):Ter:={ T with p:={ T.p with a:=ofS (Sgr.applyF (toS T.p.a) p) } }
def putM (T:Ter) (pr:Bool) (on:Bool) (n:Int):Ter:={ T with m:=T.m.put pr n on }
def setModes (T:Ter) (p:List Int) (on:Bool):Ter:=p.foldl (fun T n=>putM T false on (Aj4 n)) T
def reply (T:Ter) (b:List Int):Ter:={ T with rp:=T.rp++b }
def report (T:Ter) (p:List Int):Ter:=if atN p 0=5 then reply T Kys.staF else if atN p 0=6 then reply T (Kys.curF ((T.c.row:Int) - counted T 1+1) ((T.c.col:Int)+1)) else T
def device (T:Ter) (p:List Int):Ter:=if atN p 0=0 then reply T Kys.devF else T
def setOrigin (T:Ter) (on:Bool):Ter:=home (setOrg T on)
def setSaved (T:Ter) (on:Bool):Ter:=if on then save T else restore T
def setAlt (T:Ter) (b:Bool):Ter:={ T with m:={ T.m with a6:=b } }
def showOther (T:Ter):Ter:={ T with nx:=T.nx+T.main.L.length,other:=some (Az6 T.nx T.main.L.length T.main.cols) }
def showMain (T:Ter):Ter:={ T with other:=none }
def setOther (T:Ter) (on:Bool):Ter:=if on=T.m.a6 then T else (fun T=>move T T.c.row T.c.col) (if on then showOther (setAlt T true) else showMain (setAlt T false))
def setOtherSaved (T:Ter) (on:Bool):Ter:=if on=T.m.a6 then T else if on then setOther (save T) true else restore (setOther T false)
def Bg8 (T:Ter) (n:Int) (on:Bool):Ter :=
 if n=6 then setOrigin T on else if n=47\/n=1047 then setOther T on else if n=1048 then setSaved T on else if n=1049 then setOtherSaved T on else putM T true on n
def Ac2 (T:Ter) (p:List Int) (on:Bool):Ter:=p.foldl (fun T n=>Bg8 T (Aj4 n) on) T
def plain (T:Ter) (f:Int) (p:List Int):Ter :=
 if f=65 then goUp T p else if f=66 then goDown T p else if f=67 then goOn T p else if f=68 then goBack T p else if f=69 then Bw2 T p else if f=70 then Cs5 T p
 else if f=71\/f=96 then toCol T p else if f=72\/f=102 then toPlace T p else if f=100 then toRow T p else if f=73 then tabsOn T p else if f=90 then tabsBack T p
 else if f=74 then Al6 T (atN p 0) else if f=75 then eraseLine T (atN p 0) else if f=88 then eraseCells T p else if f=64 then insertCells T p else if f=80 then deleteCells T p
 else if f=76 then insertLines T p else if f=77 then deleteLines T p else if f=83 then scrollUp T p else if f=84 then scrollDown T p else if f=114 then setMargins T p
 else if f=103 then clearTabs T p else if f=109 then look T p else if f=104 then setModes T p true else if f=108 then setModes T p false else if f=110 then report T p else if f=99 then device T p else T
def sequence (T:Ter) (x:AcT):Ter :=
 if x.inter=[] then
  (if x.priv=0 then plain T x.fin x.params else if x.priv=63 then (if x.fin=104 then Ac2 T x.params true else if x.fin=108 then Ac2 T x.params false else T) else T)
 else T
def doT (T:Ter) (x:AcT):Ter:=if x.kind=1 then Bb9 T x.r else if x.kind=2 then control T x.r else if x.kind=3 then escape T x else if x.kind=4 then sequence T x else T
def holdSv (s:Sav) (rows cols:Nat):Sav:={ s with c:={ s.c with row:=Ba1 s.c.row rows,col:=Ba1 s.c.col cols } }
def Sh.hold (h:Sh):Sh:={ h with sv:=holdSv h.sv h.L.length h.cols }
def Ba3 (rows cols:Int):Prop:=(1<=rows/\rows<=512)/\1<=cols/\cols<=512
instance (rows cols:Int):Decidable (Ba3 rows cols):=by unfold Ba3;infer_instance
def newT (rows cols most:Nat):Ter:=Ag7 ⟨Mds.none0,cur0,pen0,1,most,[],⟨0,0,0,[],sav0⟩,none,0,fun _=>false,0,ev0,[],[]⟩ rows cols
