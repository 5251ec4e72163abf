/- Part 23 of HostKeys. -/
import Derived.Test.YtecnpoigegiooaaGreatDoorW14
import Derived.Test.YtecnpoigegiooaaGreatDoorW22
set_option maxHeartbeats 16000000
set_option maxRecDepth 100000
namespace Go.Proofs.YtecnpoigegiooaaGreatDoor.Cht
open Tryz
def inB(r a b:Int):Bool:=decide (a<=r)&&decide (r<=b)
def Ags(r:Int):Bool:=decide (0<=r)&&decide (r<=1114111) && !(decide (55296<=r)&&decide (r<=57343))
def X9:List (Int×Int×Int) :=
 [(0,31,0),(127,159,0),(768,879,0),(1155,1161,0),(1425,1469,0),(1552,1562,0),(1611,1631,0),(3633,3633,0),(3636,3642,0),(3655,3662,0),(4352,4447,2),(6832,6911,0),(7616,7679,0),(8203,8207,0),(8400,8447,0),(11904,12350,2),(12353,42191,2),(44032,55203,2),(63744,64255,2),(65024,65039,0),(65056,65071,0),(65072,65135,2),(65280,65376,2),(65504,65510,2),(127744,128591,2),(129280,129535,2),(131072,196605,2),(196608,262141,2),(917760,917999,0)]
def Cqy:List (Int×Int×Int) :=
 [(32,32,1),(48,57,2),(65,90,4),(97,122,3),(160,160,1),(192,214,4),(216,222,4),(223,246,3),(248,255,3),(8192,8202,1),(8239,8239,1),(8287,8287,1),(12288,12288,1)]
def Ajr:List Int :=
 [9670,9618,9225,9228,9229,9226,176,177,9252,9227,9496,9488,9484,9492,9532,9146,9147,9472,9148,9149,9500,9508,9524,9516,9474,8804,8805,960,8800,163,183]
def scan:List (Int×Int×Int)->Int->Option Int
 |[],_=>none
 |x::l,r=>if r<x.1 then none else if r<=x.2.1 then some x.2.2 else scan l r
def L0(r:Int):Int:=if Ags r then(scan X9 r).getD 1 else 0
def Bnq(r:Int):Int:=if L0 r=0 then 0 else(scan Cqy r).getD (if r<128 then 5 else 6)
def Arq:List (Int×Int×Int)->Bool
 |[]=>true
 |x::l=>decide (x.1<=x.2.1)&&l.all (fun y=>decide (x.2.1<y.1))&&Arq l
theorem Bis:∀(l:List (Int×Int×Int)) (r:Int) (x:Int×Int×Int),Arq l=true->x∈l->x.1<=r->r<=x.2.1->scan l r=some x.2.2
 |[],_,_,_,h,_,_=>by cases h
 |y::l,r,x,hr,hx,h1,h2=>by
  simp only[Arq,Bool.and_eq_true,decide_eq_true_eq,List.all_eq_true]at hr
  obtain⟨⟨h0,F2⟩,hl⟩:=hr
  unfold scan
  rcases List.mem_cons.1 hx with rfl|hx
  ·rw[if_neg (by omega),if_pos h2]
  ·have:=F2 x hx
   rw[if_neg (by omega),if_neg (by omega)]
   exact Bis l r x hl hx h1 h2
theorem Bir:∀(l:List (Int×Int×Int)) (r:Int),(∀x∈l,¬(x.1<=r/\r<=x.2.1))->scan l r=none
 |[],_,_=>rfl
 |y::l,r,h=>by
  have h0:=h y (List.mem_cons_self ..)
  unfold scan
  by_cases c:r<y.1
  ·rw[if_pos c]
  ·rw[if_neg c,if_neg (by omega)]
   exact Bir l r (fun x hx=>h x (List.mem_cons_of_mem _ hx))
theorem Ccc(l:List (Int×Int×Int))(r:Int)(k:Nat)(hk:k<l.length) :
  scan (l.drop k) r=if r<(l.getD k (0,0,0)).1 then none else if r<=(l.getD k (0,0,0)).2.1 then some (l.getD k (0,0,0)).2.2 else scan (l.drop (k+1)) r:=by
 rw[List.drop_eq_getElem_cons hk]
 simp[scan,List.getD,hk]
def Acs(l:List (Int×Int))(r:Int):Bool:=l.any fun p=>inB r p.1 p.2
def Auw:List (Int×Int):=[(0,31),(127,159)]
def marks:List (Int×Int):=[(768,879),(1155,1161),(1425,1469),(1552,1562),(1611,1631),(3633,3633),(3636,3642),(3655,3662),(6832,6911),(7616,7679),(8203,8207),(8400,8447),(65024,65039),(65056,65071),(917760,917999)]
def Axe:List (Int×Int):=[(4352,4447),(11904,12350),(12353,42191),(44032,55203),(63744,64255),(65072,65135),(65280,65376),(65504,65510),(127744,128591),(129280,129535),(131072,196605),(196608,262141)]
theorem Bhj{l:List (Int×Int)}{r:Int}:Acs l r=true↔∃p∈l,p.1<=r/\r<=p.2:=by
 simp[Acs,inB]
theorem Bbv:Arq X9=true:=by decide
theorem Ayt{l:List (Int×Int×Int)}{ps:List (Int×Int)}{v r:Int}(hl:Arq l=true)(hin:∀p∈ps,(p.1,p.2,v)∈l)(h:Acs ps r=true):scan l r=some v:=by
 obtain⟨p,hp,h1,h2⟩:=Bhj.1 h
 exact Bis l r (p.1,p.2,v) hl (hin p hp) h1 h2
theorem Bbq{ps:List (Int×Int)}{r:Int}(h:Acs ps r=false):∀p∈ps,¬(p.1<=r/\r<=p.2):=by
 intro p hp hh
 have:=Bhj.2 ⟨p,hp,hh⟩
 rw[h]at this
 cases this
theorem Bkq{r:Int}(h:Ags r=false):L0 r=0:=by simp[L0,h]
theorem Bss{r:Int}(h:Acs Auw r=true):L0 r=0:=by
 unfold L0
 rw[Ayt Bbv (v:=0) (by decide) h]
 simp
theorem Byy{r:Int}(h:Acs marks r=true):L0 r=0:=by
 unfold L0
 rw[Ayt Bbv (v:=0) (by decide) h]
 simp
theorem Byz{r:Int}(hm:Ags r=true)(h:Acs Axe r=true):L0 r=2:=by
 unfold L0
 rw[Ayt Bbv (v:=2) (by decide) h,hm]
 simp
theorem Byx{r:Int}(hm:Ags r=true)(h1:Acs Auw r=false)(h2:Acs marks r=false)(h3:Acs Axe r=false):L0 r=1:=by
 unfold L0
 rw[hm,Bir]
 ·simp
 ·intro x hx
  have F2:∀x∈X9,(x.1,x.2.1)∈Auw\/(x.1,x.2.1)∈marks\/(x.1,x.2.1)∈Axe:=by decide
  rcases F2 x hx with h|h|h
  ·exact Bbq h1 _ h
  ·exact Bbq h2 _ h
  ·exact Bbq h3 _ h
def X6(r:Int):Int:=if Bnq r=3/\Bnq (r-32)=4 then r-32 else r
def Ahk(r:Int):Int:=if r=95 then 32 else if 96<=r/\r<127 then Ajr.getD (r-96).toNat 0 else r
def Apm(r:Int):Int:=if r=35 then 163 else r
def H5(s r:Int):Int:=if s=1 then Apm r else if s=2 then Ahk r else r
end Go.Proofs.YtecnpoigegiooaaGreatDoor.Cht
namespace Go.Proofs.YtecnpoigegiooaaGreatDoor.Cht
open Tryz
open Go RowKit
theorem G1{a b:Bool}(h:a=b):Ending.returned (.bool a)=.returned (.bool b):=by rw[h]
theorem G6{k:IntKind}{a b:Int}(h:a=b):Ending.returned (.int k a)=.returned (.int k b):=by rw[h]
theorem Alc(r:Int)(w:World):Calls prog 159 #[.int .i32 r] w fun e w'=>e=.returned (.bool (Ags r))/\w=w':=by
 unfold Ags
 by_cases h1:55296<=r
 ·by_cases h2:r<=57343
  ·go_enter func159,ntmps159
   go_wp2
   go_ret
   exact⟨G1 (by(rw[Bool.eq_iff_iff];simp)<;>omega),rfl⟩
  ·by_cases h3:r<=1114111
   all_goals
    go_enter func159,ntmps159
    go_wp2
    go_ret
    exact⟨G1 (by(rw[Bool.eq_iff_iff];simp)<;>omega),rfl⟩
 ·by_cases h3:0<=r
  all_goals
   go_enter func159,ntmps159
   go_wp2
   go_ret
   exact⟨G1 (by(rw[Bool.eq_iff_iff];simp)<;>omega),rfl⟩
structure G3(g:Nat)(l:List (Int×Int×Int))(w:World)(k:Nat):Prop where
 first:w.cell? ⟨g,k*3,none⟩=some (.int .i32 (l.getD k (0,0,0)).1)
 last:w.cell? ⟨g,k*3+1,none⟩=some (.int .i32 (l.getD k (0,0,0)).2.1)
 value:w.cell? ⟨g,k*3+2,none⟩=some (.int .u8 (l.getD k (0,0,0)).2.2)
structure Arv(w:World):Prop where
 size:3<=w.heap.size
 Cqo:∀k,k<29->G3 0 X9 w k
 Cex:∀k,k<31->w.cell? ⟨1,k,none⟩=some (.int .i32 (Ajr.getD k 0))
theorem Cqp(k:Nat)(h:k<29):0<=(X9.getD k (0,0,0)).2.2/\(X9.getD k (0,0,0)).2.2<=255:=by
 have F2:∀k:Fin 29,0<=(X9.getD k.val (0,0,0)).2.2/\(X9.getD k.val (0,0,0)).2.2<=255:=by decide +kernel
 exact F2 ⟨k,h⟩
theorem Bai(r:Int)(w:World)(T:Arv w) :
  Calls prog 122 #[.int .i32 r] w fun e w'=>e=.returned (.int .i64 (L0 r))/\w=w':=by
 have T':=J0 T.Cqo;clear T
 by_cases hm:Ags r=true
 ·have HW:Hid (L0 r=(scan X9 r).getD 1):=by show _=_;unfold L0;rw[if_pos hm]
  go_enter func122,ntmps122
  go_wp2_with(go_at_call 159;refine(Alc _ _).mono ?_;rintro e w' ⟨rfl,rfl⟩)
  go_loop [7] (fun i=>∃k:Nat,k<=29/\i=.int .i64 k/\Hid (scan X9 r=scan (X9.drop k) r)) (fun i=>29-(intOf i).toNat)
  case atStart=>exact⟨0,by omega,rfl,rfl⟩
  case round =>
   obtain⟨k,hk,rfl,hs⟩:=hrel
   by_cases hlt:k<29
   ·have R:=T'.out k hlt
    have c0:=R.first
    have c1:=R.last
    have c2:=R.value
    have HD:=J0 (Ccc X9 r k hlt)
    obtain⟨v0,v1⟩:=Cqp k hlt
    clear R
    generalize A6:X9.getD k (0,0,0)=row at c0 c1 c2 HD v0 v1
    clear A6
    obtain⟨x,y,z⟩:=row
    by_cases hx:r<x
    ·go_wp2
     go_ret
     exact⟨G6 (by rw[HW.out,hs.out,HD.out,if_pos hx];rfl),rfl⟩
    ·by_cases hy:r<=y
     ·go_wp2
      go_ret
      exact⟨G6 (by rw[HW.out,hs.out,HD.out,if_neg (show ¬r<x by omega),if_pos hy,IntWalk.wrap64_in z ⟨by omega,by omega⟩];rfl),rfl⟩
     ·go_wp2
      go_round
      case rel=>exact⟨k+1,by omega,by go_num,by rw[hs.out,HD.out,if_neg (show ¬r<x by omega),if_neg (show ¬r<=y by omega)];exact J0 rfl⟩
      case measure=>simp[intOf];omega
   ·go_wp2
    go_ret
    exact⟨G6 (by rw[HW.out,hs.out,List.drop_of_length_le (by show 29<=k;omega)];rfl),rfl⟩
 ·have hm':Ags r=false:=by simpa using hm
  go_enter func122,ntmps122
  go_wp2_with(go_at_call 159;refine(Alc _ _).mono ?_;rintro e w' ⟨rfl,rfl⟩)
  go_ret
  exact⟨G6 (by rw[Bkq hm']),rfl⟩
theorem Bue(r:Int)(w:World) :
  Calls prog 157 #[.int .i32 r] w fun e w'=>e=.returned (.int .i32 (Apm r))/\w=w':=by
 by_cases h:r=35
 ·subst h
  go_enter func157,ntmps157
  go_wp2
  go_ret
  exact⟨rfl,rfl⟩
 ·have hb:(r==35)=false:=by simpa using h
  have HL:Hid (Apm r=r):=by show _=_;unfold Apm;rw[if_neg h]
  clear h
  go_enter func157,ntmps157
  go_wp2
  go_ret
  exact⟨G6 (by rw[HL.out]),rfl⟩
theorem Buy(r:Int)(w:World)(T:Arv w) :
  Calls prog 158 #[.int .i32 r] w fun e w'=>e=.returned (.int .i32 (Ahk r))/\w=w':=by
 have TT:=J0 T.Cex;clear T
 by_cases h:r=95
 ·subst h
  go_enter func158,ntmps158
  go_wp2
  go_ret
  exact⟨rfl,rfl⟩
 ·have hb:(r==95)=false:=by simpa using h
  by_cases h1:96<=r
  ·by_cases h2:r<127
   ·have HL:Hid (Ahk r=Ajr.getD (r-96).toNat 0):=by show _=_;unfold Ahk;rw[if_neg h,if_pos ⟨h1,h2⟩]
    clear h
    have hc:=TT.out (r-96).toNat (by omega)
    generalize hg:Ajr.getD (r-96).toNat 0=g at hc HL
    clear hg
    go_enter func158,ntmps158
    go_wp2
    go_ret
    exact⟨G6 (by rw[HL.out]),rfl⟩
   ·have HL:Hid (Ahk r=r):=by show _=_;unfold Ahk;rw[if_neg h,if_neg (by omega)]
    clear h
    go_enter func158,ntmps158
    go_wp2
    go_ret
    exact⟨G6 (by rw[HL.out]),rfl⟩
  ·have HL:Hid (Ahk r=r):=by show _=_;unfold Ahk;rw[if_neg h,if_neg (by omega)]
   clear h
   go_enter func158,ntmps158
   go_wp2
   go_ret
   exact⟨G6 (by rw[HL.out]),rfl⟩
theorem Ayl(s r:Int)(w:World)(T:Arv w) :
  Calls prog 121 #[.int .u8 s,.int .i32 r] w fun e w'=>e=.returned (.int .i32 (H5 s r))/\w=w':=by
 have TT:=J0 T;clear T
 have fin:((s==1)=true/\Hid (H5 s r=Apm r))\/((s==1)=false/\(s==2)=true/\Hid (H5 s r=Ahk r))\/((s==1)=false/\(s==2)=false/\Hid (H5 s r=r)):=by
  by_cases h1:s=1
  ·exact .inl ⟨by simpa using h1,by show _=_;simp[H5,h1]⟩
  ·by_cases h2:s=2
   ·exact .inr (.inl ⟨by simpa using h1,by simpa using h2,by show _=_;simp[H5,h2]⟩)
   ·exact .inr (.inr ⟨by simpa using h1,by simpa using h2,by show _=_;simp[H5,h1,h2]⟩)
 rcases fin with⟨h1,HL⟩|⟨h1,h2,HL⟩|⟨h1,h2,HL⟩
 all_goals
  go_enter func121,ntmps121
  go_wp2_with(first|(go_at_call 157;refine(Bue _ _).mono ?_;rintro e w' ⟨rfl,rfl⟩)|(go_at_call 158;refine(Buy _ _ TT.out).mono ?_;rintro e w' ⟨rfl,rfl⟩))
  go_ret
  exact⟨G6 (by rw[HL.out]),rfl⟩
end Go.Proofs.YtecnpoigegiooaaGreatDoor.Cht
namespace Go.Proofs.YtecnpoigegiooaaGreatDoor.Emu
open Tryz
open Go Rw Scn
structure Cur where
 row:Nat
 col:Nat
 F6:Bool
structure Pen where
 a:At
 g0:Int
 g1:Int
 wh:Bool
structure Sav where
 c:Cur
 p:Pen
 org:Bool
structure Ev where
 k:Int
 ix:Nat
 line:Int
 col:Int
 wide:Bool
 r:Int
 bl:Bool
 la:Bool
 fr:Bool
 wr:Bool
structure Sh where
 cols:Nat
 top:Nat
 bot:Nat
 L:List Ln
 sv:Sav
structure Ter where
 m:Mds.Md
 c:Cur
 p:Pen
 nx:Nat
 most:Nat
 R:List Ln
 main:Sh
 other:Option Sh
 tn:Nat
 tf:Nat->Bool
 C5:Nat
 last:Ev
 jr:List Ev
 rp:List Int
structure AcT where
 kind:Int
 r:Int
 L7:Int
 params:List Int
 inter:List Int
 fin:Int
 text:List Int
def Acd:Cur:=⟨0,0,false⟩
def Aoy:Pen:=⟨zeroAt,0,0,false⟩
def Ate:Sav:=⟨Acd,Aoy,false⟩
def ev0:Ev:=⟨0,0,0,0,false,0,false,false,false,false⟩
def Sh.scr(h:Sh)(nx most:Nat)(kp:Bool)(R:List Ln):Scr:=⟨nx,most,kp,h.cols,h.top,h.bot,h.L,R⟩
def Sh.of(h:Sh)(S:Scr):Sh:={ h with cols:=S.cols,top:=S.top,bot:=S.bot,L:=S.L }
namespace Ter
open Tryz
def sh(T:Ter):Sh:=match T.other with|some o=>o|none=>T.main
def vis(T:Ter):Scr:=T.sh.scr T.nx T.most T.other.isNone T.R
def Afo(T:Ter):Scr:=T.main.scr T.nx T.most true T.R
def C2(T:Ter)(S:Scr):Ter:=match T.other with
 |none=>{ T with nx:=S.nx,R:=S.R,main:=T.main.of S }
 |some o=>{ T with nx:=S.nx,R:=S.R,other:=some (o.of S) }
def Acz(T:Ter)(s:Sav):Ter:=match T.other with
 |none=>{ T with main:={ T.main with sv:=s } }
 |some o=>{ T with other:=some { o with sv:=s } }
end Ter
def Acu(i:Int)(n:Nat):Nat:=(min i ((n:Int)-1)).toNat
def place(T:Ter)(row col:Int):Ter:={ T with c:=⟨Acu row T.vis.L.length,Acu col T.vis.cols,false⟩ }
def tell(T:Ter)(e:Ev):Ter:={ T with last:=e,jr:=T.jr++[e] }
def here(T:Ter)(k:Int):Ev:=⟨k,0,L6 T.vis.L T.c.row,T.c.col,false,0,false,false,false,false⟩
def U7(T:Ter):Ter:=tell T (here T 4)
def Apd(T:Ter):Ter:=tell T (here T 3)
def line(T:Ter):List Cel:=((T.vis.L[T.c.row]?).map (·.2)).getD []
def Acn(T:Ter)(wrap:Bool):Ter:=tell T { here T 3 with fr:=Aes (line T) 0,wr:=wrap }
def move(T:Ter)(row col:Int):Ter:=U7 (place T row col)
def upT(S:Scr)(n:Int)(a:At):Scr:=upS S S.top n a (S.kp&&decide (S.top=0))
def feed(T:Ter):Ter:=if T.c.row=T.vis.bot then place (T.C2 (upT T.vis 1 T.p.a)) T.c.row T.c.col else place T ((T.c.row:Int)+1) T.c.col
def C1(T:Ter)(l:List Cel):Ter:=T.C2 (Aa2 T.vis T.c.row l)
def I1(T:Ter)(e:Ev)(r:Int):Ter:=tell { T with C5:=T.C5+1 } { e with ix:=T.C5,r:=r }
def Acl(e:Ev)(line col:Int):Bool:=((e.k==1)||(e.k==2))&&((e.line==line)&&(e.col==col))
def F8(T:Ter)(n:Nat):Ter:={ T with c:={ T.c with col:=n } }
def Ahm(T:Ter):Int:=if T.c.F6 then(T.c.col:Int)else(T.c.col:Int)-1
def Aqm(T:Ter)(c:Nat)(r:Int):Ter :=
 let T1:=C1 T (Q1 (line T) c r)
 I1 T1 { here T1 2 with col:=c,la:=Acl T1.last (here T1 2).line c } r
def Alp(T:Ter)(r:Int):Ter :=
 if 0<=Ahm T/\Ahm T<((line T).length:Int)then Aqm T (if W (line T) (Ahm T).toNat=2 then(Ahm T).toNat-1 else(Ahm T).toNat) r else T
def Aa6(T:Ter)(w:Nat):Bool:=decide (T.vis.cols<T.c.col+w)
def M5(T:Ter)(w:Nat):Ter :=
 if T.m.a4&&(T.c.F6||Aa6 T w)then Acn (feed (F8 T 0)) true
 else if Aa6 T w then F8 T (T.c.col-1)else T
def M7(T:Ter)(w:Nat):Ev:={ here T 1 with wide:=decide (w=2),bl:=Aes (line T) T.c.col }
def Aa0(T:Ter)(r:Int)(w:Nat):List Cel:=Abi (if T.m.a0 then inL (line T) T.c.col w T.p.a else line T) T.c.col r (decide (w=2)) T.p.a
def Ab0(T:Ter)(b:Nat)(wrap:Bool):Ter :=
 let T3:=place T T.c.row b
 { T3 with c:={ T3.c with F6:=wrap&&decide (T3.c.col<b) } }
def Z7(T:Ter)(r:Int)(w:Nat):Ter:=Ab0 (I1 (C1 T (Aa0 T r w)) (M7 T w) r) (T.c.col+w) T.m.a4
def Anq(T:Ter)(R:Int):Ter :=
 let r:=Cht.H5 (if T.p.wh then T.p.g1 else T.p.g0) R
 if Cht.L0 r=0 then Alp T r
 else if(T.vis.cols:Int)<Cht.L0 r then Z7 (M5 T 1) 65533 1
 else Z7 (M5 T (Cht.L0 r).toNat) r (Cht.L0 r).toNat
def Avd(T:Ter):Ter:=move T T.c.row ((T.c.col:Int)-1)
def Avt(T:Ter):Ter:=Apd (place T T.c.row (Tbs.X8 T.tn T.tf T.c.col 1))
def Ajo(T:Ter):Ter:=Acn (feed (if T.m.a1 then F8 T 0 else T)) false
def Auh(T:Ter):Ter:=Apd (place T T.c.row 0)
def Agj(T:Ter)(b:Bool):Ter:={ T with p:={ T.p with wh:=b } }
def Aho(T:Ter):Ter:=U7 (feed T)
def Aji(T:Ter):Ter:=Aho (F8 T 0)
def Alj(T:Ter):Ter:={ T with tf:=Tbs.G5 T.tf T.c.col true }
def Aii(T:Ter):Ter:=if T.c.row=T.vis.top then move (T.C2 (L3 T.vis T.vis.top 1 T.p.a)) T.c.row T.c.col else move T ((T.c.row:Int)-1) T.c.col
def save(T:Ter):Ter:=T.Acz ⟨T.c,T.p,T.m.a3⟩
def Aev(T:Ter)(b:Bool):Ter:={ T with m:={ T.m with a3:=b } }
def Z8(T:Ter):Ter:={ T with c:={ T.sh.sv.c with F6:=T.sh.sv.c.F6&&decide (T.sh.sv.c.col+1=T.vis.cols) },p:=T.sh.sv.p,m:={ T.m with a3:=T.sh.sv.org } }
def restore(T:Ter):Ter:=U7 (Z8 T)
def Anj(nx rows cols:Nat):Sh:=⟨cols,0,rows-1,R5 nx cols rows zeroAt,Ate⟩
def Y6(T:Ter)(rows cols:Nat):Ter:={ T with nx:=T.nx+rows,R:=[],main:=Anj T.nx rows cols,other:=none,tn:=cols,tf:=Tbs.Aaa 0 cols,m:=Mds.start,c:=Acd,p:=Aoy }
def Bah(T:Ter):Ter:=tell T (here T 5)
def reset(T:Ter):Ter:=Bah (Y6 T T.vis.L.length T.vis.cols)
def control(T:Ter)(r:Int):Ter :=
 if r=8 then Avd T else if r=9 then Avt T else if r=10\/r=11\/r=12 then Ajo T else if r=13 then Auh T else if r=14 then Agj T true else if r=15 then Agj T false
 else if r=132 then Aho T else if r=133 then Aji T else if r=136 then Alj T else if r=141 then Aii T else T
def Ale(r:Int):Option Bool:=if r=40 then some false else if r=41 then some true else none
def Aa9(f:Int):Option Int:=if f=48 then some 2 else if f=65 then some 1 else if f=66 then some 0 else none
def Akl(T:Ter)(b:Bool)(v:Int):Ter:=if b then { T with p:={ T.p with g1:=v } }else { T with p:={ T.p with g0:=v } }
def choose(T:Ter)(x:AcT):Ter:=match x.inter with
 |[r]=>match Ale r,Aa9 x.fin with
  |some b,some v=>Akl T b v
  |_,_=>T
 |_=>T
def escape(T:Ter)(x:AcT):Ter :=
 if x.inter=[]then
  (if x.fin=55 then save T else if x.fin=56 then restore T else if x.fin=68 then Aho T else if x.fin=69 then Aji T else if x.fin=72 then Alj T else if x.fin=77 then Aii T else if x.fin=99 then reset T else T)
 else choose T x
def Abs(v:Int):Int:=max 0 (min v 65535)
def atN(p:List Int)(i:Nat):Int:=match p[i]? with|some v=>Abs v|none=>0
def A5(p:List Int)(i:Nat):Int:=max 1 (atN p i)
def Ajv(T:Ter)(n:Int):Int:=if T.vis.top<=T.c.row then max (T.vis.top:Int) ((T.c.row:Int)-n)else(T.c.row:Int)-n
def below(T:Ter)(n:Int):Int:=if T.c.row<=T.vis.bot then min (T.vis.bot:Int) ((T.c.row:Int)+n)else(T.c.row:Int)+n
def N4(T:Ter)(n:Int):Int:=if T.m.a3 then min (T.vis.bot:Int) ((T.vis.top:Int)+n-1)else n-1
def home(T:Ter):Ter:=move T (N4 T 1) 0
def goUp(T:Ter)(p:List Int):Ter:=move T (Ajv T (A5 p 0)) T.c.col
def goDown(T:Ter)(p:List Int):Ter:=move T (below T (A5 p 0)) T.c.col
def Asb(T:Ter)(p:List Int):Ter:=move T T.c.row ((T.c.col:Int)+A5 p 0)
def Aqt(T:Ter)(p:List Int):Ter:=move T T.c.row ((T.c.col:Int)-A5 p 0)
def Aqg(T:Ter)(p:List Int):Ter:=move T (below T (A5 p 0)) 0
def Arh(T:Ter)(p:List Int):Ter:=move T (Ajv T (A5 p 0)) 0
def Aoh(T:Ter)(p:List Int):Ter:=move T T.c.row (A5 p 0-1)
def Anm(T:Ter)(p:List Int):Ter:=move T (N4 T (A5 p 0)) (A5 p 1-1)
def Ars(T:Ter)(p:List Int):Ter:=move T (N4 T (A5 p 0)) T.c.col
def Aqz(T:Ter)(p:List Int):Ter:=move T T.c.row (Tbs.X8 T.tn T.tf T.c.col (A5 p 0))
def Aqa(T:Ter)(p:List Int):Ter:=move T T.c.row (Tbs.Arn T.tn T.tf T.c.col (A5 p 0))
def Aep(L:List Ln)(f t:Nat)(cols:Nat)(a:At):List Ln:=L.mapIdx fun i p=>if f<=i/\i<t then(p.1,M0 p.2 0 cols a)else p
def I6(T:Ter)(f t:Nat):Ter:=T.C2 { T.vis with L:=Aep T.vis.L f t T.vis.cols T.p.a }
def Akz(T:Ter)(f t:Int):Ter:=U7 (C1 T (M0 (line T) f t T.p.a))
def Ado(T:Ter)(n:Int):Ter:=if n=0 then Akz T T.c.col T.vis.cols else if n=1 then Akz T 0 ((T.c.col:Int)+1)else if n=2 then Akz T 0 T.vis.cols else T
def Adz(T:Ter):Ter:={ T with R:=[] }
def Ana(T:Ter)(n:Int):Ter :=
 Ado (if n=0 then I6 T (T.c.row+1) T.vis.L.length else if n=1 then I6 T 0 T.c.row else if n=2 then I6 T 0 T.vis.L.length else if n=3 then Adz T else T) n
def Azb(T:Ter)(p:List Int):Ter:=Akz T T.c.col ((T.c.col:Int)+A5 p 0)
def Atn(T:Ter)(p:List Int):Ter:=U7 (C1 T (inL (line T) T.c.col (A5 p 0) T.p.a))
def Atl(T:Ter)(p:List Int):Ter:=U7 (C1 T (deL (line T) T.c.col (A5 p 0) T.p.a))
def within(T:Ter):Prop:=T.vis.top<=T.c.row/\T.c.row<=T.vis.bot
instance (T:Ter):Decidable (within T):=by unfold within;infer_instance
def Amm(T:Ter)(p:List Int):Ter:=if within T then move (T.C2 (L3 T.vis T.c.row (A5 p 0) T.p.a)) T.c.row 0 else T
def Aml(T:Ter)(p:List Int):Ter:=if within T then move (T.C2 (upS T.vis T.c.row (A5 p 0) T.p.a false)) T.c.row 0 else T
def Apx(T:Ter)(p:List Int):Ter:=U7 (T.C2 (upT T.vis (A5 p 0) T.p.a))
def Apg(T:Ter)(p:List Int):Ter:=U7 (T.C2 (L3 T.vis T.vis.top (A5 p 0) T.p.a))
def Agg(T:Ter)(p:List Int):Int:=if atN p 1-1<0\/(T.vis.L.length:Int)<=atN p 1-1 then(T.vis.L.length:Int)-1 else atN p 1-1
def Amu(T:Ter)(p:List Int):Ter:=if A5 p 0-1<Agg T p then home (T.C2 { T.vis with top:=(A5 p 0-1).toNat,bot:=(Agg T p).toNat })else T
def Amv(T:Ter)(p:List Int):Ter:=if atN p 0=0 then { T with tf:=Tbs.G5 T.tf T.c.col false }else if atN p 0=3 then { T with tf:=fun _=>false }else T
def toS(a:At):Sgr.At:=⟨a.f,a.b,a.g⟩
def ofS(a:Sgr.At):At:=⟨a.f,a.b,a.g⟩
def look(T:Ter)(p:List Int):Ter:={ T with p:={ T.p with a:=ofS (Sgr.Acp (toS T.p.a) p) } }
def Aiw(T:Ter)(pr:Bool)(on:Bool)(n:Int):Ter:={ T with m:=T.m.put pr n on }
def W9(T:Ter)(p:List Int)(on:Bool):Ter:=p.foldl (fun T n=>Aiw T false on (Abs n)) T
def Agi(T:Ter)(b:List Int):Ter:={ T with rp:=T.rp++b }
def report(T:Ter)(p:List Int):Ter:=if atN p 0=5 then Agi T Kys.Amg else if atN p 0=6 then Agi T (Kys.Afg ((T.c.row:Int)-N4 T 1+1) ((T.c.col:Int)+1))else T
def device(T:Ter)(p:List Int):Ter:=if atN p 0=0 then Agi T Kys.Alw else T
def Baf(T:Ter)(on:Bool):Ter:=home (Aev T on)
def Apy(T:Ter)(on:Bool):Ter:=if on then save T else restore T
def O9(T:Ter)(b:Bool):Ter:={ T with m:={ T.m with a6:=b } }
def W7(T:Ter):Ter:={ T with nx:=T.nx+T.main.L.length,other:=some (Anj T.nx T.main.L.length T.main.cols) }
def Abm(T:Ter):Ter:={ T with other:=none }
def Q9(T:Ter)(on:Bool):Ter:=if on=T.m.a6 then T else(fun T=>move T T.c.row T.c.col) (if on then W7 (O9 T true)else Abm (O9 T false))
def Apb(T:Ter)(on:Bool):Ter:=if on=T.m.a6 then T else if on then Q9 (save T) true else restore (Q9 T false)
def Aig(T:Ter)(n:Int)(on:Bool):Ter :=
 if n=6 then Baf T on else if n=47\/n=1047 then Q9 T on else if n=1048 then Apy T on else if n=1049 then Apb T on else Aiw T true on n
def S7(T:Ter)(p:List Int)(on:Bool):Ter:=p.foldl (fun T n=>Aig T (Abs n) on) T
def plain(T:Ter)(f:Int)(p:List Int):Ter :=
 if f=65 then goUp T p else if f=66 then goDown T p else if f=67 then Asb T p else if f=68 then Aqt T p else if f=69 then Aqg T p else if f=70 then Arh T p
 else if f=71\/f=96 then Aoh T p else if f=72\/f=102 then Anm T p else if f=100 then Ars T p else if f=73 then Aqz T p else if f=90 then Aqa T p
 else if f=74 then Ana T (atN p 0)else if f=75 then Ado T (atN p 0)else if f=88 then Azb T p else if f=64 then Atn T p else if f=80 then Atl T p
 else if f=76 then Amm T p else if f=77 then Aml T p else if f=83 then Apx T p else if f=84 then Apg T p else if f=114 then Amu T p
 else if f=103 then Amv T p else if f=109 then look T p else if f=104 then W9 T p true else if f=108 then W9 T p false else if f=110 then report T p else if f=99 then device T p else T
def sequence(T:Ter)(x:AcT):Ter :=
 if x.inter=[]then
  (if x.L7=0 then plain T x.fin x.params else if x.L7=63 then(if x.fin=104 then S7 T x.params true else if x.fin=108 then S7 T x.params false else T)else T)
 else T
def doT(T:Ter)(x:AcT):Ter:=if x.kind=1 then Anq T x.r else if x.kind=2 then control T x.r else if x.kind=3 then escape T x else if x.kind=4 then sequence T x else T
def Cor(s:Sav)(rows cols:Nat):Sav:={ s with c:={ s.c with row:=Acu s.c.row rows,col:=Acu s.c.col cols } }
def Sh.hold(h:Sh):Sh:={ h with sv:=Cor h.sv h.L.length h.cols }
def Anl(rows cols:Int):Prop:=(1<=rows/\rows<=512)/\1<=cols/\cols<=512
instance (rows cols:Int):Decidable (Anl rows cols):=by unfold Anl;infer_instance
def Akk(rows cols most:Nat):Ter:=Y6 ⟨Mds.Axa,Acd,Aoy,1,most,[],⟨0,0,0,[],Ate⟩,none,0,fun _=>false,0,ev0,[],[]⟩ rows cols
end Go.Proofs.YtecnpoigegiooaaGreatDoor.Emu
namespace Go.Proofs.YtecnpoigegiooaaGreatDoor.Emu
open Tryz
open Go RowKit Com Rw Lns Scn
section
variable {Z Z':Zn}{w w':World}{x s nx most cols top bot n:Nat}{kp:Bool}{sv lv:Value}{xs:List Value}{L R:List En}
theorem LoX.Afp(h:LoX Z w x s sv lv R)(hZ:∀k,Z k->Z' k):LoX Z' w x s sv lv R:=⟨hZ _ h.x,hZ _ h.s,fun g hg=>hZ _ (h.l g hg),fun g hg=>hZ _ (h.p g hg),fun e he=>⟨hZ _ (h.r e he).1,hZ _ (h.r e he).2⟩,fun k hk=>hZ _ (h.up k hk)⟩
theorem E2.Afp(h:E2 Z w x s nx most kp cols sv lv top bot n xs L R)(hZ:∀k,Z k->Z' k):E2 Z' w x s nx most kp cols sv lv top bot n xs L R :=
 ⟨⟨h.ln.blk,h.ln.own,h.ln.st,h.ln.apart,LoX.Afp h.ln.lo hZ,h.ln.small⟩,h.rows,fun e he=>⟨hZ _ (h.zr e he).1,hZ _ (h.zr e he).2⟩,h.dd,h.gg⟩
theorem Aun{e:En}(h:O4 0 w e)(hd:w'.heap[e.d]?=w.heap[e.d]?)(hg:w'.heap[e.g]?=w.heap[e.g]?):O4 0 w' e:=by
 obtain⟨h1,h2,h3,n,cap,tail,hx⟩:=h
 exact⟨h1,h2,h3,n,cap,tail,⟨hd.trans hx.ptr,hg.trans hx.row,hx.len,hx.le,hx.cap,hx.pos,hx.small⟩⟩
theorem V4{B:Nat}{e:TypeId}{k n:Nat}{v:Value}{xs:List Value}(h:w.ownsRow B e k v n xs)(hv:∀g,v.ownBlock=some g->w'.heap[g]?=w.heap[g]?):w'.ownsRow B e k v n xs:=by
 refine⟨h.1,?_⟩
 rcases h.2 with h2|⟨g,cap,cur,rfl,hg,hh,r⟩
 ·exact .inl h2
 ·exact .inr ⟨g,cap,cur,rfl,hg,(hv g rfl).trans hh,r⟩
end
def Two(Z:Zn)(w:World)(s x1 x2:Nat)(S1 S2:Scr):Prop :=
 ∃sv R l1 L1 l2 L2,
  E2 Z w x1 s S1.nx S1.most S1.kp S1.cols sv l1 S1.top S1.bot L1.length (fl E5 L1) L1 R/\vw L1=S1.L/\vw R=S1.R /\
  E2 Z w x2 s S1.nx S1.most S2.kp S2.cols sv l2 S2.top S2.bot L2.length (fl E5 L2) L2 R/\vw L2=S2.L /\
  x1≠x2/\(∀g,l1.ownBlock=some g->l2.ownBlock≠some g)/\((L1++L2).map En.d).Nodup/\((L1++L2).map En.g).Nodup
section
variable {Z:Zn}{w w':World}{s x1 x2:Nat}{S1 S2:Scr}
theorem Bgp{α:Type}{f:α->Nat}{l m:List α}(h:((l++m).map f).Nodup):((m++l).map f).Nodup:=((List.perm_append_comm (l₁:=l) (l₂:=m)).map f).nodup_iff.1 h
theorem Two.swap(h:Two Z w s x1 x2 S1 S2):Two Z w s x2 x1 { S2 with nx:=S1.nx,most:=S1.most,R:=S1.R } S1:=by
 obtain⟨sv,R,l1,L1,l2,L2,h1,e1,eR,h2,e2,hx,hl,hd,hg⟩:=h
 exact⟨sv,R,l2,L2,l1,L1,h2,e2,eR,h1,e1,hx.symm,fun g h2 h1=>hl g h1 h2,Bgp hd,Bgp hg⟩
theorem Two.fr{B:Zn}{ts:List TypeId}(h:Two Z w s x1 x2 S1 S2)(hf:Scn.Fr B ts w w')(hn:P0 ts):Two Z w' s x1 x2 S1 S2:=by
 obtain⟨sv,R,l1,L1,l2,L2,h1,e1,eR,h2,e2,hx,hl,hd,hg⟩:=h
 have up:=hf.size
 exact⟨sv,R,l1,L1,l2,L2,h1.fr hf hn,e1,eR,h2.fr hf hn,e2,hx,hl,hd,hg⟩
theorem Two.sc1(h:Two Z w s x1 x2 S1 S2):SC Z w x1 s S1:=by
 obtain⟨sv,R,l1,L1,l2,L2,h1,e1,eR,h2,e2,hx,hl,hd,hg⟩:=h
 exact⟨sv,l1,L1,R,h1,e1,eR⟩
theorem Amo{α:Type}{f:α->Nat}{l m:List α}(h:((l++m).map f).Nodup){a b:α}(ha:a∈l)(hb:b∈m):f a≠f b:=by
 rw[List.map_append]at h
 exact(List.nodup_append.1 h).2.2 (f a) (List.mem_map_of_mem ha) (f b) (List.mem_map_of_mem hb)
theorem Aiz{α:Type}{f:α->Nat}{l m:List α}(hl:(l.map f).Nodup)(hm:(m.map f).Nodup)(h:∀a∈l,∀b∈m,f a≠f b):((l++m).map f).Nodup:=by
 rw[List.map_append,List.nodup_append]
 refine⟨hl,hm,fun a ha b hb=>?_⟩
 obtain⟨x,hx,rfl⟩:=List.mem_map.1 ha
 obtain⟨y,hy,rfl⟩:=List.mem_map.1 hb
 exact h x hx y hy
theorem Afs{α:Type}{f:α->Nat}{l m:List α}(h:((l++m).map f).Nodup):(l.map f).Nodup:=by
 rw[List.map_append]at h
 exact(List.nodup_append.1 h).1
theorem Afr{α:Type}{f:α->Nat}{l m:List α}(h:((l++m).map f).Nodup):(m.map f).Nodup:=by
 rw[List.map_append]at h
 exact(List.nodup_append.1 h).2.1
theorem Two.focus(h:Two Z w s x1 x2 S1 S2):∃Z1:Zn,(∀k,Z1 k->Z k)/\SC Z1 w x1 s S1 /\
  ∀w' S',SC Z1 w' x1 s S'->S'.most=S1.most->Scn.Fr Z1 PT w w'->Two Z w' s x1 x2 S' S2:=by
 obtain⟨sv,R,l1,L1,l2,L2,h1,e1,eR,h2,e2,hx,hl,hd,hg⟩:=h
 have tx2:=h2.ln.typ
 have ts:=h2.ln.st.typ
 have tl2:=fun g hg=>(h2.ln.Q2 g hg).2.2
 have Axp:=h2.ln.blk.lt
 have ne:∀ {k k':Nat} {t t':TypeId},Typ w k t->Typ w k' t'->t≠t'->k≠k':=fun h h' ht e=>ht (Typ.inj h (e▸h'))
 let F:Zn:=fun k=>k=x2\/l2.ownBlock=some k\/∃e∈L2,k=e.d\/k=e.g
 let Z1:Zn:=fun k=>Z k/\¬F k
 have nrow:∀ {k:Nat},Typ w k 191->(∀e∈L2,k≠e.d)->¬F k:=fun hk hd' hF=>by
  rcases hF with e|e|⟨e,he,e'|e'⟩
  ·exact ne hk tx2 (by decide) e
  ·exact ne hk (tl2 _ e) (by decide) rfl
  ·exact hd' e he e'
  ·exact ne hk (h2.rows e he).typ.2 (by decide) e'
 have ncel:∀ {k:Nat},Typ w k 194->(∀e∈L2,k≠e.g)->¬F k:=fun hk hd' hF=>by
  rcases hF with e|e|⟨e,he,e'|e'⟩
  ·exact ne hk tx2 (by decide) e
  ·exact ne hk (tl2 _ e) (by decide) rfl
  ·exact ne hk (h2.rows e he).typ.1 (by decide) e'
  ·exact hd' e he e'
 have nlin:∀ {k:Nat},Typ w k 188->l2.ownBlock≠some k->¬F k:=fun hk hn hF=>by
  rcases hF with e|e|⟨e,he,e'|e'⟩
  ·exact ne hk tx2 (by decide) e
  ·exact hn e
  ·exact ne hk (h2.rows e he).typ.1 (by decide) e'
  ·exact ne hk (h2.rows e he).typ.2 (by decide) e'
 have noth:∀ {k:Nat} {t:TypeId},Typ w k t->t≠188->t≠191->t≠194->k≠x2->¬F k:=fun hk n1 n2 n3 hn hF=>by
  rcases hF with e|e|⟨e,he,e'|e'⟩
  ·exact hn e
  ·exact ne hk (tl2 _ e) n1 rfl
  ·exact ne hk (h2.rows e he).typ.1 n2 e'
  ·exact ne hk (h2.rows e he).typ.2 n3 e'
 have hlo:LoX Z1 w x1 s sv l1 R:=by
  have lo:=h1.ln.lo
  refine⟨⟨lo.x,noth h1.ln.typ (by decide) (by decide) (by decide) hx⟩,⟨lo.s,noth ts (by decide) (by decide) (by decide) (ne ts tx2 (by decide))⟩,fun g hg=>⟨lo.l g hg,nlin (h1.ln.Q2 g hg).2.2 (hl g hg)⟩,
   fun g hg=>⟨lo.p g hg,nlin (h1.ln.st.Aci g hg).2.2 (fun e=>h2.ln.apart g e hg)⟩,fun e he=>?_,fun k hk=>⟨lo.up k hk,fun hF=>?_⟩⟩
  ·exact⟨⟨(lo.r e he).1,nrow (h1.ln.st.2 e he).typ.1 (fun e2 he2=>(Amo h2.dd he2 he).symm)⟩,⟨(lo.r e he).2,ncel (h1.ln.st.2 e he).typ.2 (fun e2 he2=>(Amo h2.gg he2 he).symm)⟩⟩
  ·rcases hF with e|e|⟨e,he,e'|e'⟩
   ·omega
   ·have:=(h2.ln.Q2 k e).2.1;omega
   ·have:=(Adw (h2.rows e he)).1;omega
   ·have:=(Adw (h2.rows e he)).2;omega
 have hm1:E2 Z1 w x1 s S1.nx S1.most S1.kp S1.cols sv l1 S1.top S1.bot L1.length (fl E5 L1) L1 R :=
  ⟨⟨h1.ln.blk,h1.ln.own,h1.ln.st,h1.ln.apart,hlo,h1.ln.small⟩,h1.rows,
   fun e he=>⟨⟨(h1.zr e he).1,nrow (h1.rows e he).typ.1 (fun e2 he2=>Amo hd he he2)⟩,⟨(h1.zr e he).2,ncel (h1.rows e he).typ.2 (fun e2 he2=>Amo hg he he2)⟩⟩,h1.dd,h1.gg⟩
 refine⟨Z1,fun k hk=>hk.1,⟨sv,l1,L1,R,hm1,e1,eR⟩,fun w' S' hS Crp hf=>?_⟩
 obtain⟨sv',l1',L1',R',m,f1,fR⟩:=hS
 have out:∀k,F k->¬Z1 k:=fun k hF hz=>hz.2 hF
 have same:∀k,k<w.heap.size->F k->w'.heap[k]?=w.heap[k]?:=fun k hk hF=>hf.block k hk (.inl (out k hF))
 have hb2:Block w' x2 168 #[.pointer (some ⟨s,0,none⟩),.bool S2.kp,.int .i64 S2.cols,l2,.int .i64 S2.top,.int .i64 S2.bot]:=(same x2 Axp (.inl rfl)).trans h2.ln.blk
 have ho2:=V4 (w':=w') h2.ln.own (fun g hg=>same g (h2.ln.Q2 g hg).2.1 (.inr (.inl hg)))
 have hr2:∀e∈L2,O4 0 w' e:=fun e he=>Aun (h2.rows e he) (same _ (Adw (h2.rows e he)).1 (.inr (.inr ⟨e,he,.inl rfl⟩))) (same _ (Adw (h2.rows e he)).2 (.inr (.inr ⟨e,he,.inr rfl⟩)))
 have hZ:∀k,Z1 k->Z k:=fun k hk=>hk.1
 refine⟨sv',R',l1',L1',l2,L2,E2.Afp m hZ,f1,fR,⟨⟨hb2,ho2,m.ln.st,fun g hg hs=>(m.ln.lo.p g hs).2 (.inr (.inl hg)),⟨h2.ln.lo.x,h2.ln.lo.s,h2.ln.lo.l,fun g hg=>hZ _ (m.ln.lo.p g hg),fun e he=>⟨hZ _ (m.ln.lo.r e he).1,hZ _ (m.ln.lo.r e he).2⟩,fun k hk=>hZ _ (m.ln.lo.up k hk)⟩,h2.ln.small⟩,hr2,h2.zr,?_,?_⟩,e2,hx,?_,?_,?_⟩
 ·exact Aiz (Afs h2.dd) (Afr m.dd) fun a ha b hb e=>(m.ln.lo.r b hb).1.2 (.inr (.inr ⟨a,ha,.inl e.symm⟩))
 ·exact Aiz (Afs h2.gg) (Afr m.gg) fun a ha b hb e=>(m.ln.lo.r b hb).2.2 (.inr (.inr ⟨a,ha,.inr e.symm⟩))
 ·exact fun g hg1 hg2=>(m.ln.lo.l g hg1).2 (.inr (.inl hg2))
 ·exact Aiz (Afs m.dd) (Afr hd) fun a ha b hb e=>(m.zr a ha).1.2 (.inr (.inr ⟨b,hb,.inl e⟩))
 ·exact Aiz (Afs m.gg) (Afr hg) fun a ha b hb e=>(m.zr a ha).2.2 (.inr (.inr ⟨b,hb,.inr e⟩))
end
