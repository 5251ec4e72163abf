/- Part 20 of the proof that the card of HostNone holds. -/
import Derived.Test.YtbafmljidapmgaaGreatDoorN12
import Derived.Test.YtbafmljidapmgaaGreatDoorN19
set_option maxHeartbeats 16000000
set_option maxRecDepth 100000
namespace Go.Proofs.YtbafmljidapmgaaGreatDoor.Emu
open Go Rw Scn
structure Cur where
 row:Nat
 col:Nat
 pend:Bool
structure Pen where
 a:At
 g0:Int
 g1:Int
 wh:Bool
structure Sav where
 c:Cur
 p:Pen
 org:Bool
structure Ev where
 k:Int
 ix:Nat
 line:Int
 col:Int
 wide:Bool
 r:Int
 bl:Bool
 la:Bool
 fr:Bool
 wr:Bool
structure Sh where
 cols:Nat
 top:Nat
 bot:Nat
 L:List Ln
 sv:Sav
structure Ter where
 m:Mds.Md
 c:Cur
 p:Pen
 nx:Nat
 most:Nat
 R:List Ln
 main:Sh
 other:Option Sh
 tn:Nat
 tf:Nat->Bool
 prints:Nat
 last:Ev
 jr:List Ev
 rp:List Int
structure AcT where
 kind:Int
 r:Int
 priv:Int
 params:List Int
 inter:List Int
 fin:Int
 text:List Int
def cur0:Cur:=⟨0,0,false⟩
def pen0:Pen:=⟨zeroAt,0,0,false⟩
def sav0:Sav:=⟨cur0,pen0,false⟩
def ev0:Ev:=⟨0,0,0,0,false,0,false,false,false,false⟩
def Sh.scr (h:Sh) (nx most:Nat) (kp:Bool) (R:List Ln):Scr:=⟨nx,most,kp,h.cols,h.top,h.bot,h.L,R⟩
def Sh.of (h:Sh) (S:Scr):Sh:={ h with cols:=S.cols,top:=S.top,bot:=S.bot,L:=S.L }
namespace Ter
def sh (T:Ter):Sh:=match T.other with|some o=>o|none=>T.main
def vis (T:Ter):Scr:=T.sh.scr T.nx T.most T.other.isNone T.R
def mscr (T:Ter):Scr:=T.main.scr T.nx T.most true T.R
def putVis (T:Ter) (S:Scr):Ter:=match T.other with
 |none=>{ T with nx:=S.nx,R:=S.R,main:=T.main.of S }
 |some o=>{ T with nx:=S.nx,R:=S.R,other:=some (o.of S) }
def putSv (T:Ter) (s:Sav):Ter:=match T.other with
 |none=>{ T with main:={ T.main with sv:=s } }
 |some o=>{ T with other:=some { o with sv:=s } }
end Ter
def Az1 (i:Int) (n:Nat):Nat:=(min i ((n:Int) - 1)).toNat
def place (T:Ter) (row col:Int):Ter:={ T with c:=⟨Az1 row T.vis.L.length,Az1 col T.vis.cols,false⟩ }
def tell (T:Ter) (e:Ev):Ter:={ T with last:=e,jr:=T.jr++[e] }
def here (T:Ter) (k:Int):Ev:=⟨k,0,idAt T.vis.L T.c.row,T.c.col,false,0,false,false,false,false⟩
def tellOther (T:Ter):Ter:=tell T (here T 4)
def tellStraight (T:Ter):Ter:=tell T (here T 3)
def line (T:Ter):List Cel:=((T.vis.L[T.c.row]?).map (·.2)).getD []
def tellFeed (T:Ter) (wrap:Bool):Ter:=tell T { here T 3 with fr:=Am6 (line T) 0,wr:=wrap }
def move (T:Ter) (row col:Int):Ter:=tellOther (place T row col)
def upT (S:Scr) (n:Int) (a:At):Scr:=upS S S.top n a (S.kp && decide (S.top=0))
def feed (T:Ter):Ter:=if T.c.row=T.vis.bot then place (T.putVis (upT T.vis 1 T.p.a)) T.c.row T.c.col else place T ((T.c.row:Int)+1) T.c.col
def putLine (T:Ter) (l:List Cel):Ter:=T.putVis (Ae3 T.vis T.c.row l)
def tellRune (T:Ter) (e:Ev) (r:Int):Ter:=tell { T with prints:=T.prints+1 } { e with ix:=T.prints,r:=r }
def isRuneAt (e:Ev) (line col:Int):Bool:=((e.k == 1) || (e.k == 2)) && ((e.line == line) && (e.col == col))
def setCol (T:Ter) (n:Nat):Ter:={ T with c:={ T.c with col:=n } }
def Ao2 (T:Ter):Int:=if T.c.pend then (T.c.col:Int) else (T.c.col:Int) - 1
def Ao1 (T:Ter) (c:Nat) (r:Int):Ter :=
 let T1:=putLine T (joiL (line T) c r)
 tellRune T1 { here T1 2 with col:=c,la:=isRuneAt T1.last (here T1 2).line c } r
def Bm0 (T:Ter) (r:Int):Ter :=
 if 0<=Ao2 T/\Ao2 T<((line T).length:Int) then Ao1 T (if W (line T) (Ao2 T).toNat=2 then (Ao2 T).toNat - 1 else (Ao2 T).toNat) r else T
def Ao6 (T:Ter) (w:Nat):Bool:=decide (T.vis.cols<T.c.col+w)
def makeWay (T:Ter) (w:Nat):Ter :=
 if T.m.a4 && (T.c.pend || Ao6 T w) then tellFeed (feed (setCol T 0)) true
 else if Ao6 T w then setCol T (T.c.col - 1) else T
def Ac3 (T:Ter) (w:Nat):Ev:={ here T 1 with wide:=decide (w=2),bl:=Am6 (line T) T.c.col }
def Aa3 (T:Ter) (r:Int) (w:Nat):List Cel:=putL (if T.m.a0 then inL (line T) T.c.col w T.p.a else line T) T.c.col r (decide (w=2)) T.p.a
def Bo5 (T:Ter) (b:Nat) (wrap:Bool):Ter :=
 let T3:=place T T.c.row b
 { T3 with c:={ T3.c with pend:=wrap && decide (T3.c.col<b) } }
def putT (T:Ter) (r:Int) (w:Nat):Ter:=Bo5 (tellRune (putLine T (Aa3 T r w)) (Ac3 T w) r) (T.c.col+w) T.m.a4
def Bi6 (T:Ter) (R:Int):Ter :=
 let r:=Cht.charsetF (if T.p.wh then T.p.g1 else T.p.g0) R
 if Cht.widthF r=0 then Bm0 T r
 else if (T.vis.cols:Int)<Cht.widthF r then putT (makeWay T 1) 65533 1
 else putT (makeWay T (Cht.widthF r).toNat) r (Cht.widthF r).toNat
def stepBack (T:Ter):Ter:=move T T.c.row ((T.c.col:Int) - 1)
def nextTab (T:Ter):Ter:=tellStraight (place T T.c.row (Tbs.nextF T.tn T.tf T.c.col 1))
def newLine (T:Ter):Ter:=tellFeed (feed (if T.m.a1 then setCol T 0 else T)) false
def lineBegin (T:Ter):Ter:=tellStraight (place T T.c.row 0)
def setWh (T:Ter) (b:Bool):Ter:={ T with p:={ T.p with wh:=b } }
def rowDown (T:Ter):Ter:=tellOther (feed T)
def nextLine (T:Ter):Ter:=rowDown (setCol T 0)
def setTab (T:Ter):Ter:={ T with tf:=Tbs.putF T.tf T.c.col true }
def rowUp (T:Ter):Ter:=if T.c.row=T.vis.top then move (T.putVis (Ag4 T.vis T.vis.top 1 T.p.a)) T.c.row T.c.col else move T ((T.c.row:Int) - 1) T.c.col
def save (T:Ter):Ter:=T.putSv ⟨T.c,T.p,T.m.a3⟩
def setOrg (T:Ter) (b:Bool):Ter:={ T with m:={ T.m with a3:=b } }
def restored (T:Ter):Ter:={ T with c:={ T.sh.sv.c with pend:=T.sh.sv.c.pend && decide (T.sh.sv.c.col+1=T.vis.cols) },p:=T.sh.sv.p,m:={ T.m with a3:=T.sh.sv.org } }
def restore (T:Ter):Ter:=tellOther (restored T)
def Ay7 (nx rows cols:Nat):Sh:=⟨cols,0,rows - 1,Ad4 nx cols rows zeroAt,sav0⟩
def Aj0 (T:Ter) (rows cols:Nat):Ter:={ T with nx:=T.nx+rows,R:=[],main:=Ay7 T.nx rows cols,other:=none,tn:=cols,tf:=Tbs.freshF 0 cols,m:=Mds.start,c:=cur0,p:=pen0 }
def tellReset (T:Ter):Ter:=tell T (here T 5)
def reset (T:Ter):Ter:=tellReset (Aj0 T T.vis.L.length T.vis.cols)
def control (T:Ter) (r:Int):Ter :=
 if r=8 then stepBack T else if r=9 then nextTab T else if r=10\/r=11\/r=12 then newLine T else if r=13 then lineBegin T else if r=14 then setWh T true else if r=15 then setWh T false
 else if r=132 then rowDown T else if r=133 then nextLine T else if r=136 then setTab T else if r=141 then rowUp T else T
def At9 (r:Int):Option Bool:=if r=40 then some false else if r=41 then some true else none
def Bn0 (f:Int):Option Int:=if f=48 then some 2 else if f=65 then some 1 else if f=66 then some 0 else none
def setG (T:Ter) (b:Bool) (v:Int):Ter:=if b then { T with p:={ T.p with g1:=v } } else { T with p:={ T.p with g0:=v } }
def choose (T:Ter) (x:AcT):Ter:=match x.inter with
 |[r]=>match At9 r,Bn0 x.fin with
  |some b,some v=>setG T b v
  |_,_=>T
 |_=>T
def escape (T:Ter) (x:AcT):Ter :=
 if x.inter=[] then
  (if x.fin=55 then save T else if x.fin=56 then restore T else if x.fin=68 then rowDown T else if x.fin=69 then nextLine T else if x.fin=72 then setTab T else if x.fin=77 then rowUp T else if x.fin=99 then reset T else T)
 else choose T x
def Al4 (v:Int):Int:=max 0 (min v 65535)
def atN (p:List Int) (i:Nat):Int:=match p[i]? with|some v=>Al4 v|none=>0
def Aa2 (p:List Int) (i:Nat):Int:=max 1 (atN p i)
def above (T:Ter) (n:Int):Int:=if T.vis.top<=T.c.row then max (T.vis.top:Int) ((T.c.row:Int) - n) else (T.c.row:Int) - n
def below (T:Ter) (n:Int):Int:=if T.c.row<=T.vis.bot then min (T.vis.bot:Int) ((T.c.row:Int)+n) else (T.c.row:Int)+n
def counted (T:Ter) (n:Int):Int:=if T.m.a3 then min (T.vis.bot:Int) ((T.vis.top:Int)+n - 1) else n - 1
def home (T:Ter):Ter:=move T (counted T 1) 0
def goUp (T:Ter) (p:List Int):Ter:=move T (above T (Aa2 p 0)) T.c.col
def goDown (T:Ter) (p:List Int):Ter:=move T (below T (Aa2 p 0)) T.c.col
def goOn (T:Ter) (p:List Int):Ter:=move T T.c.row ((T.c.col:Int)+Aa2 p 0)
def goBack (T:Ter) (p:List Int):Ter:=move T T.c.row ((T.c.col:Int) - Aa2 p 0)
def Bt8 (T:Ter) (p:List Int):Ter:=move T (below T (Aa2 p 0)) 0
def Cp4 (T:Ter) (p:List Int):Ter:=move T (above T (Aa2 p 0)) 0
def toCol (T:Ter) (p:List Int):Ter:=move T T.c.row (Aa2 p 0 - 1)
def toPlace (T:Ter) (p:List Int):Ter:=move T (counted T (Aa2 p 0)) (Aa2 p 1 - 1)
def toRow (T:Ter) (p:List Int):Ter:=move T (counted T (Aa2 p 0)) T.c.col
def tabsOn (T:Ter) (p:List Int):Ter:=move T T.c.row (Tbs.nextF T.tn T.tf T.c.col (Aa2 p 0))
def tabsBack (T:Ter) (p:List Int):Ter:=move T T.c.row (Tbs.prevF T.tn T.tf T.c.col (Aa2 p 0))
def eraRows (L:List Ln) (f t:Nat) (cols:Nat) (a:At):List Ln:=L.mapIdx fun i p=>if f<=i/\i<t then (p.1,eraL p.2 0 cols a) else p
def eraseRows (T:Ter) (f t:Nat):Ter:=T.putVis { T.vis with L:=eraRows T.vis.L f t T.vis.cols T.p.a }
def As8 (T:Ter) (f t:Int):Ter:=tellOther (putLine T (eraL (line T) f t T.p.a))
def eraseLine (T:Ter) (n:Int):Ter:=if n=0 then As8 T T.c.col T.vis.cols else if n=1 then As8 T 0 ((T.c.col:Int)+1) else if n=2 then As8 T 0 T.vis.cols else T
def noBack (T:Ter):Ter:={ T with R:=[] }
def Aq5 (T:Ter) (n:Int):Ter :=
 eraseLine (if n=0 then eraseRows T (T.c.row+1) T.vis.L.length else if n=1 then eraseRows T 0 T.c.row else if n=2 then eraseRows T 0 T.vis.L.length else if n=3 then noBack T else T) n
def eraseCells (T:Ter) (p:List Int):Ter:=As8 T T.c.col ((T.c.col:Int)+Aa2 p 0)
def insertCells (T:Ter) (p:List Int):Ter:=tellOther (putLine T (inL (line T) T.c.col (Aa2 p 0) T.p.a))
def deleteCells (T:Ter) (p:List Int):Ter:=tellOther (putLine T (deL (line T) T.c.col (Aa2 p 0) T.p.a))
def within (T:Ter):Prop:=T.vis.top<=T.c.row/\T.c.row<=T.vis.bot
instance (T:Ter):Decidable (within T):=by unfold within;infer_instance
def insertLines (T:Ter) (p:List Int):Ter:=if within T then move (T.putVis (Ag4 T.vis T.c.row (Aa2 p 0) T.p.a)) T.c.row 0 else T
def deleteLines (T:Ter) (p:List Int):Ter:=if within T then move (T.putVis (upS T.vis T.c.row (Aa2 p 0) T.p.a false)) T.c.row 0 else T
def scrollUp (T:Ter) (p:List Int):Ter:=tellOther (T.putVis (upT T.vis (Aa2 p 0) T.p.a))
def scrollDown (T:Ter) (p:List Int):Ter:=tellOther (T.putVis (Ag4 T.vis T.vis.top (Aa2 p 0) T.p.a))
def Bb1 (T:Ter) (p:List Int):Int:=if atN p 1 - 1<0\/(T.vis.L.length:Int)<=atN p 1 - 1 then (T.vis.L.length:Int) - 1 else atN p 1 - 1
def setMargins (T:Ter) (p:List Int):Ter:=if Aa2 p 0 - 1<Bb1 T p then home (T.putVis { T.vis with top:=(Aa2 p 0 - 1).toNat,bot:=(Bb1 T p).toNat }) else T
def clearTabs (T:Ter) (p:List Int):Ter:=if atN p 0=0 then { T with tf:=Tbs.putF T.tf T.c.col false } else if atN p 0=3 then { T with tf:=fun _=>false } else T
def toS (a:At):Sgr.At:=⟨a.f,a.b,a.g⟩
def ofS (a:Sgr.At):At:=⟨a.f,a.b,a.g⟩
def look (T:Ter) (p:List Int):Ter:={ T with p:={ T.p with a:=ofS (Sgr.applyF (toS T.p.a) p) } }
def putM (T:Ter) (pr:Bool) (on:Bool) (n:Int):Ter:={ T with m:=T.m.put pr n on }
def setModes (T:Ter) (p:List Int) (on:Bool):Ter:=p.foldl (fun T n=>putM T false on (Al4 n)) T
def reply (T:Ter) (b:List Int):Ter:={ T with rp:=T.rp++b }
def report (T:Ter) (p:List Int):Ter:=if atN p 0=5 then reply T Kys.staF else if atN p 0=6 then reply T (Kys.curF ((T.c.row:Int) - counted T 1+1) ((T.c.col:Int)+1)) else T
def device (T:Ter) (p:List Int):Ter:=if atN p 0=0 then reply T Kys.devF else T
def setOrigin (T:Ter) (on:Bool):Ter:=home (setOrg T on)
def setSaved (T:Ter) (on:Bool):Ter:=if on then save T else restore T
def setAlt (T:Ter) (b:Bool):Ter:={ T with m:={ T.m with a6:=b } }
def showOther (T:Ter):Ter:={ T with nx:=T.nx+T.main.L.length,other:=some (Ay7 T.nx T.main.L.length T.main.cols) }
def showMain (T:Ter):Ter:={ T with other:=none }
def setOther (T:Ter) (on:Bool):Ter:=if on=T.m.a6 then T else (fun T=>move T T.c.row T.c.col) (if on then showOther (setAlt T true) else showMain (setAlt T false))
def setOtherSaved (T:Ter) (on:Bool):Ter:=if on=T.m.a6 then T else if on then setOther (save T) true else restore (setOther T false)
def Ax0 (T:Ter) (n:Int) (on:Bool):Ter :=
 if n=6 then setOrigin T on else if n=47\/n=1047 then setOther T on else if n=1048 then setSaved T on else if n=1049 then setOtherSaved T on else putM T true on n
def Ac1 (T:Ter) (p:List Int) (on:Bool):Ter:=p.foldl (fun T n=>Ax0 T (Al4 n) on) T
def plain (T:Ter) (f:Int) (p:List Int):Ter :=
 if f=65 then goUp T p else if f=66 then goDown T p else if f=67 then goOn T p else if f=68 then goBack T p else if f=69 then Bt8 T p else if f=70 then Cp4 T p
 else if f=71\/f=96 then toCol T p else if f=72\/f=102 then toPlace T p else if f=100 then toRow T p else if f=73 then tabsOn T p else if f=90 then tabsBack T p
 else if f=74 then Aq5 T (atN p 0) else if f=75 then eraseLine T (atN p 0) else if f=88 then eraseCells T p else if f=64 then insertCells T p else if f=80 then deleteCells T p
 else if f=76 then insertLines T p else if f=77 then deleteLines T p else if f=83 then scrollUp T p else if f=84 then scrollDown T p else if f=114 then setMargins T p
 else if f=103 then clearTabs T p else if f=109 then look T p else if f=104 then setModes T p true else if f=108 then setModes T p false else if f=110 then report T p else if f=99 then device T p else T
def sequence (T:Ter) (x:AcT):Ter :=
 if x.inter=[] then
  (if x.priv=0 then plain T x.fin x.params else if x.priv=63 then (if x.fin=104 then Ac1 T x.params true else if x.fin=108 then Ac1 T x.params false else T) else T)
 else T
def doT (T:Ter) (x:AcT):Ter:=if x.kind=1 then Bi6 T x.r else if x.kind=2 then control T x.r else if x.kind=3 then escape T x else if x.kind=4 then sequence T x else T
def holdSv (s:Sav) (rows cols:Nat):Sav:={ s with c:={ s.c with row:=Az1 s.c.row rows,col:=Az1 s.c.col cols } }
def Sh.hold (h:Sh):Sh:={ h with sv:=holdSv h.sv h.L.length h.cols }
def Bf4 (rows cols:Int):Prop:=(1<=rows/\rows<=512)/\1<=cols/\cols<=512
instance (rows cols:Int):Decidable (Bf4 rows cols):=by unfold Bf4;infer_instance
def newT (rows cols most:Nat):Ter:=Aj0 ⟨Mds.none0,cur0,pen0,1,most,[],⟨0,0,0,[],sav0⟩,none,0,fun _=>false,0,ev0,[],[]⟩ rows cols
end Go.Proofs.YtbafmljidapmgaaGreatDoor.Emu
namespace Go.Proofs.YtbafmljidapmgaaGreatDoor.Emu
open Go RowKit Com Rw Lns Scn
section
variable {Z Z':Zn} {w w':World} {x s nx most cols top bot n:Nat} {kp:Bool} {sv lv:Value} {xs:List Value} {L R:List En}
theorem LoX.zone (h:LoX Z w x s sv lv R) (hZ:∀ k,Z k->Z' k):LoX Z' w x s sv lv R:=⟨hZ _ h.x,hZ _ h.s,fun g hg=>hZ _ (h.l g hg),fun g hg=>hZ _ (h.p g hg),fun e he=>⟨hZ _ (h.r e he).1,hZ _ (h.r e he).2⟩,fun k hk=>hZ _ (h.up k hk)⟩
theorem MidX.zone (h:MidX Z w x s nx most kp cols sv lv top bot n xs L R) (hZ:∀ k,Z k->Z' k):MidX Z' w x s nx most kp cols sv lv top bot n xs L R :=
 ⟨⟨h.ln.blk,h.ln.own,h.ln.st,h.ln.apart,LoX.zone h.ln.lo hZ,h.ln.small⟩,h.rows,fun e he=>⟨hZ _ (h.zr e he).1,hZ _ (h.zr e he).2⟩,h.dd,h.gg⟩
theorem Ax3 {e:En} (h:RowG 0 w e) (hd:w'.heap[e.d]?=w.heap[e.d]?) (hg:w'.heap[e.g]?=w.heap[e.g]?):RowG 0 w' e:=by
 obtain ⟨h1,h2,h3,n,cap,tail,hx⟩:=h
 exact ⟨h1,h2,h3,n,cap,tail,⟨hd.trans hx.ptr,hg.trans hx.row,hx.len,hx.le,hx.cap,hx.pos,hx.small⟩⟩
theorem Ac2 {B:Nat} {e:TypeId} {k n:Nat} {v:Value} {xs:List Value} (h:w.ownsRow B e k v n xs) (hv:∀ g,v.ownBlock=some g->w'.heap[g]?=w.heap[g]?):w'.ownsRow B e k v n xs:=by
 refine ⟨h.1,?_⟩
 rcases h.2 with h2|⟨g,cap,cur,rfl,hg,hh,r⟩
 ·exact .inl h2
 ·exact .inr ⟨g,cap,cur,rfl,hg,(hv g rfl).trans hh,r⟩
end
def Two (Z:Zn) (w:World) (s x1 x2:Nat) (S1 S2:Scr):Prop :=
 ∃ sv R l1 L1 l2 L2,
  MidX Z w x1 s S1.nx S1.most S1.kp S1.cols sv l1 S1.top S1.bot L1.length (fl Ab9 L1) L1 R/\vw L1=S1.L/\vw R=S1.R /\
  MidX Z w x2 s S1.nx S1.most S2.kp S2.cols sv l2 S2.top S2.bot L2.length (fl Ab9 L2) L2 R/\vw L2=S2.L /\
  x1≠x2/\(∀ g,l1.ownBlock=some g->l2.ownBlock≠some g)/\((L1++L2).map En.d).Nodup/\((L1++L2).map En.g).Nodup
section
variable {Z:Zn} {w w':World} {s x1 x2:Nat} {S1 S2:Scr}
theorem Bi3 {α:Type} {f:α->Nat} {l m:List α} (h:((l++m).map f).Nodup):((m++l).map f).Nodup:=((List.perm_append_comm (l₁:=l) (l₂:=m)).map f).nodup_iff.1 h
theorem Two.swap (h:Two Z w s x1 x2 S1 S2):Two Z w s x2 x1 { S2 with nx:=S1.nx,most:=S1.most,R:=S1.R } S1:=by
 obtain ⟨sv,R,l1,L1,l2,L2,h1,e1,eR,h2,e2,hx,hl,hd,hg⟩:=h
 exact ⟨sv,R,l2,L2,l1,L1,h2,e2,eR,h1,e1,hx.symm,fun g h2 h1=>hl g h1 h2,Bi3 hd,Bi3 hg⟩
theorem Two.fr {B:Zn} {ts:List TypeId} (h:Two Z w s x1 x2 S1 S2) (hf:Scn.Fr B ts w w') (hn:NoPT ts):Two Z w' s x1 x2 S1 S2:=by
 obtain ⟨sv,R,l1,L1,l2,L2,h1,e1,eR,h2,e2,hx,hl,hd,hg⟩:=h
 have up:=hf.size
 exact ⟨sv,R,l1,L1,l2,L2,h1.fr hf hn,e1,eR,h2.fr hf hn,e2,hx,hl,hd,hg⟩
theorem Two.sc1 (h:Two Z w s x1 x2 S1 S2):SC Z w x1 s S1:=by
 obtain ⟨sv,R,l1,L1,l2,L2,h1,e1,eR,h2,e2,hx,hl,hd,hg⟩:=h
 exact ⟨sv,l1,L1,R,h1,e1,eR⟩
theorem Ai6 {α:Type} {f:α->Nat} {l m:List α} (h:((l++m).map f).Nodup) {a b:α} (ha:a∈l) (hb:b∈m):f a≠f b:=by
 rw [List.map_append] at h
 exact (List.nodup_append.1 h).2.2 (f a) (List.mem_map_of_mem ha) (f b) (List.mem_map_of_mem hb)
theorem Ah4 {α:Type} {f:α->Nat} {l m:List α} (hl:(l.map f).Nodup) (hm:(m.map f).Nodup) (h:∀ a∈l,∀ b∈m,f a≠f b):((l++m).map f).Nodup:=by
 rw [List.map_append,List.nodup_append]
 refine ⟨hl,hm,fun a ha b hb=>?_⟩
 obtain ⟨x,hx,rfl⟩:=List.mem_map.1 ha
 obtain ⟨y,hy,rfl⟩:=List.mem_map.1 hb
 exact h x hx y hy
theorem Af0 {α:Type} {f:α->Nat} {l m:List α} (h:((l++m).map f).Nodup):(l.map f).Nodup:=by
 rw [List.map_append] at h
 exact (List.nodup_append.1 h).1
theorem Ad7 {α:Type} {f:α->Nat} {l m:List α} (h:((l++m).map f).Nodup):(m.map f).Nodup:=by
 rw [List.map_append] at h
 exact (List.nodup_append.1 h).2.1
theorem Two.focus (h:Two Z w s x1 x2 S1 S2):∃ Z1:Zn,(∀ k,Z1 k->Z k)/\SC Z1 w x1 s S1 /\
  ∀ w' S',SC Z1 w' x1 s S'->S'.most=S1.most->Scn.Fr Z1 PT w w'->Two Z w' s x1 x2 S' S2:=by
 obtain ⟨sv,R,l1,L1,l2,L2,h1,e1,eR,h2,e2,hx,hl,hd,hg⟩:=h
 have tx2:=h2.ln.typ
 have ts:=h2.ln.st.typ
 have tl2:=fun g hg=>(h2.ln.ltyp g hg).2.2
 have hlt2:=h2.ln.blk.lt
 have ne:∀ {k k':Nat} {t t':TypeId},Typ w k t->Typ w k' t'->t≠t'->k≠k':=fun h h' ht e=>ht (Typ.inj h (e▸h'))
 let F:Zn:=fun k=>k=x2\/l2.ownBlock=some k\/∃ e∈L2,k=e.d\/k=e.g
 let Z1:Zn:=fun k=>Z k/\¬ F k
 have nrow:∀ {k:Nat},Typ w k 301->(∀ e∈L2,k≠e.d)->¬ F k:=fun hk hd' hF=>by
  rcases hF with e|e|⟨e,he,e'|e'⟩
  ·exact ne hk tx2 (by decide) e
  ·exact ne hk (tl2 _ e) (by decide) rfl
  ·exact hd' e he e'
  ·exact ne hk (h2.rows e he).typ.2 (by decide) e'
 have ncel:∀ {k:Nat},Typ w k 304->(∀ e∈L2,k≠e.g)->¬ F k:=fun hk hd' hF=>by
  rcases hF with e|e|⟨e,he,e'|e'⟩
  ·exact ne hk tx2 (by decide) e
  ·exact ne hk (tl2 _ e) (by decide) rfl
  ·exact ne hk (h2.rows e he).typ.1 (by decide) e'
  ·exact hd' e he e'
 have nlin:∀ {k:Nat},Typ w k 298->l2.ownBlock≠some k->¬ F k:=fun hk hn hF=>by
  rcases hF with e|e|⟨e,he,e'|e'⟩
  ·exact ne hk tx2 (by decide) e
  ·exact hn e
  ·exact ne hk (h2.rows e he).typ.1 (by decide) e'
  ·exact ne hk (h2.rows e he).typ.2 (by decide) e'
 have noth:∀ {k:Nat} {t:TypeId},Typ w k t->t≠298->t≠301->t≠304->k≠x2->¬ F k:=fun hk n1 n2 n3 hn hF=>by
  rcases hF with e|e|⟨e,he,e'|e'⟩
  ·exact hn e
  ·exact ne hk (tl2 _ e) n1 rfl
  ·exact ne hk (h2.rows e he).typ.1 n2 e'
  ·exact ne hk (h2.rows e he).typ.2 n3 e'
 have hlo:LoX Z1 w x1 s sv l1 R:=by
  have lo:=h1.ln.lo
  refine ⟨⟨lo.x,noth h1.ln.typ (by decide) (by decide) (by decide) hx⟩,⟨lo.s,noth ts (by decide) (by decide) (by decide) (ne ts tx2 (by decide))⟩,fun g hg=>⟨lo.l g hg,nlin (h1.ln.ltyp g hg).2.2 (hl g hg)⟩,
   fun g hg=>⟨lo.p g hg,nlin (h1.ln.st.ptyp g hg).2.2 (fun e=>h2.ln.apart g e hg)⟩,fun e he=>?_,fun k hk=>⟨lo.up k hk,fun hF=>?_⟩⟩
  ·exact ⟨⟨(lo.r e he).1,nrow (h1.ln.st.2 e he).typ.1 (fun e2 he2=>(Ai6 h2.dd he2 he).symm)⟩,⟨(lo.r e he).2,ncel (h1.ln.st.2 e he).typ.2 (fun e2 he2=>(Ai6 h2.gg he2 he).symm)⟩⟩
  ·rcases hF with e|e|⟨e,he,e'|e'⟩
   ·omega
   ·have:=(h2.ln.ltyp k e).2.1;omega
   ·have:=(Aj8 (h2.rows e he)).1;omega
   ·have:=(Aj8 (h2.rows e he)).2;omega
 have hm1:MidX Z1 w x1 s S1.nx S1.most S1.kp S1.cols sv l1 S1.top S1.bot L1.length (fl Ab9 L1) L1 R :=
  ⟨⟨h1.ln.blk,h1.ln.own,h1.ln.st,h1.ln.apart,hlo,h1.ln.small⟩,h1.rows,
   fun e he=>⟨⟨(h1.zr e he).1,nrow (h1.rows e he).typ.1 (fun e2 he2=>Ai6 hd he he2)⟩,⟨(h1.zr e he).2,ncel (h1.rows e he).typ.2 (fun e2 he2=>Ai6 hg he he2)⟩⟩,h1.dd,h1.gg⟩
 refine ⟨Z1,fun k hk=>hk.1,⟨sv,l1,L1,R,hm1,e1,eR⟩,fun w' S' hS hmost hf=>?_⟩
 obtain ⟨sv',l1',L1',R',m,f1,fR⟩:=hS
 have out:∀ k,F k->¬ Z1 k:=fun k hF hz=>hz.2 hF
 have same:∀ k,k<w.heap.size->F k->w'.heap[k]?=w.heap[k]?:=fun k hk hF=>hf.block k hk (.inl (out k hF))
 have hb2:Block w' x2 259 #[.pointer (some ⟨s,0,none⟩),.bool S2.kp,.int .i64 S2.cols,l2,.int .i64 S2.top,.int .i64 S2.bot]:=(same x2 hlt2 (.inl rfl)).trans h2.ln.blk
 have ho2:=Ac2 (w':=w') h2.ln.own (fun g hg=>same g (h2.ln.ltyp g hg).2.1 (.inr (.inl hg)))
 have hr2:∀ e∈L2,RowG 0 w' e:=fun e he=>Ax3 (h2.rows e he) (same _ (Aj8 (h2.rows e he)).1 (.inr (.inr ⟨e,he,.inl rfl⟩))) (same _ (Aj8 (h2.rows e he)).2 (.inr (.inr ⟨e,he,.inr rfl⟩)))
 have hZ:∀ k,Z1 k->Z k:=fun k hk=>hk.1
 refine ⟨sv',R',l1',L1',l2,L2,MidX.zone m hZ,f1,fR,⟨⟨hb2,ho2,m.ln.st,fun g hg hs=>(m.ln.lo.p g hs).2 (.inr (.inl hg)),⟨h2.ln.lo.x,h2.ln.lo.s,h2.ln.lo.l,fun g hg=>hZ _ (m.ln.lo.p g hg),fun e he=>⟨hZ _ (m.ln.lo.r e he).1,hZ _ (m.ln.lo.r e he).2⟩,fun k hk=>hZ _ (m.ln.lo.up k hk)⟩,h2.ln.small⟩,hr2,h2.zr,?_,?_⟩,e2,hx,?_,?_,?_⟩
 ·exact Ah4 (Af0 h2.dd) (Ad7 m.dd) fun a ha b hb e=>(m.ln.lo.r b hb).1.2 (.inr (.inr ⟨a,ha,.inl e.symm⟩))
 ·exact Ah4 (Af0 h2.gg) (Ad7 m.gg) fun a ha b hb e=>(m.ln.lo.r b hb).2.2 (.inr (.inr ⟨a,ha,.inr e.symm⟩))
 ·exact fun g hg1 hg2=>(m.ln.lo.l g hg1).2 (.inr (.inl hg2))
 ·exact Ah4 (Af0 m.dd) (Ad7 hd) fun a ha b hb e=>(m.zr a ha).1.2 (.inr (.inr ⟨b,hb,.inl e⟩))
 ·exact Ah4 (Af0 m.gg) (Ad7 hg) fun a ha b hb e=>(m.zr a ha).2.2 (.inr (.inr ⟨b,hb,.inr e⟩))
end
