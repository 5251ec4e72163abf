/- Part 22 of the proof that the card of EmuNone holds. -/
import Derived.Test.YtkjpjegmanpbfaaGreatDoorPN21
import Derived.Test.YtkjpjegmanpbfaaGreatDoorPN13
import Derived.Test.YtkjpjegmanpbfaaGreatDoorPN14
import Derived.Test.YtkjpjegmanpbfaaGreatDoorPN16
import Derived.Test.YtkjpjegmanpbfaaGreatDoorPN18
import Derived.Test.YtkjpjegmanpbfaaGreatDoorPN20
set_option maxHeartbeats 16000000
set_option maxRecDepth 100000
namespace Go.Proofs.YtkjpjegmanpbfaaGreatDoor.Cht
open Go Go.RowKit
theorem british_any (r : Int) (w : World) :
  Calls Tryz.prog 99 #[.int .i32 r] w fun e w' => e = .returned (.int .i32 (britishF r)) ∧ w = w' := by
 by_cases h : r = 35
 ·subst h
  go_enter Tryz.func99, Tryz.ntmps99
  go_wp2
  go_ret
  exact ⟨rfl, rfl⟩
 ·have hb : (r == 35) = false := by simpa using h
  have HL : Hid (britishF r = r) := by show _ = _; unfold britishF; rw [if_neg h]
  clear h
  go_enter Tryz.func99, Tryz.ntmps99
  go_wp2
  go_ret
  exact ⟨ret_int (by rw [HL.out]), rfl⟩
theorem graphic_any (r : Int) (w : World) (T : Tabs w) :
  Calls Tryz.prog 100 #[.int .i32 r] w fun e w' => e = .returned (.int .i32 (graphicF r)) ∧ w = w' := by
 have TT := Lib.hid T.graphics; clear T
 by_cases h : r = 95
 ·subst h
  go_enter Tryz.func100, Tryz.ntmps100
  go_wp2
  go_ret
  exact ⟨rfl, rfl⟩
 ·have hb : (r == 95) = false := by simpa using h
  by_cases h1 : 96 ≤ r
  ·by_cases h2 : r < 127
   ·have HL : Hid (graphicF r = graphs.getD (r - 96).toNat 0) := by show _ = _; unfold graphicF; rw [if_neg h, if_pos ⟨h1, h2⟩]
    clear h
    have hc := TT.out (r - 96).toNat (by omega)
    generalize hg : graphs.getD (r - 96).toNat 0 = g at hc HL
    clear hg
    go_enter Tryz.func100, Tryz.ntmps100
    go_wp2
    go_ret
    exact ⟨ret_int (by rw [HL.out]), rfl⟩
   ·have HL : Hid (graphicF r = r) := by show _ = _; unfold graphicF; rw [if_neg h, if_neg (by omega)]
    clear h
    go_enter Tryz.func100, Tryz.ntmps100
    go_wp2
    go_ret
    exact ⟨ret_int (by rw [HL.out]), rfl⟩
  ·have HL : Hid (graphicF r = r) := by show _ = _; unfold graphicF; rw [if_neg h, if_neg (by omega)]
   clear h
   go_enter Tryz.func100, Tryz.ntmps100
   go_wp2
   go_ret
   exact ⟨ret_int (by rw [HL.out]), rfl⟩
theorem charset_any (s r : Int) (w : World) (T : Tabs w) :
  Calls Tryz.prog 53 #[.int .u8 s, .int .i32 r] w fun e w' => e = .returned (.int .i32 (charsetF s r)) ∧ w = w' := by
 have TT := Lib.hid T; clear T
 have fin : ((s == 1) = true ∧ Hid (charsetF s r = britishF r)) ∨ ((s == 1) = false ∧ (s == 2) = true ∧ Hid (charsetF s r = graphicF r)) ∨ ((s == 1) = false ∧ (s == 2) = false ∧ Hid (charsetF s r = r)) := by
  by_cases h1 : s = 1
  ·exact .inl ⟨by simpa using h1, by show _ = _; simp [charsetF, h1]⟩
  ·by_cases h2 : s = 2
   ·exact .inr (.inl ⟨by simpa using h1, by simpa using h2, by show _ = _; simp [charsetF, h2]⟩)
   ·exact .inr (.inr ⟨by simpa using h1, by simpa using h2, by show _ = _; simp [charsetF, h1, h2]⟩)
 rcases fin with ⟨h1, HL⟩ | ⟨h1, h2, HL⟩ | ⟨h1, h2, HL⟩
 all_goals
  go_enter Tryz.func53, Tryz.ntmps53
  go_wp2_with (first | (go_at_call 99; refine (british_any _ _).mono ?_; rintro e w' ⟨rfl, rfl⟩) | (go_at_call 100; refine (graphic_any _ _ TT.out).mono ?_; rintro e w' ⟨rfl, rfl⟩))
  go_ret
  exact ⟨ret_int (by rw [HL.out]), rfl⟩
end Go.Proofs.YtkjpjegmanpbfaaGreatDoor.Cht
namespace Go.Proofs.YtkjpjegmanpbfaaGreatDoor.Emu
open Go Go.Proofs.YtkjpjegmanpbfaaGreatDoor.Rw Go.Proofs.YtkjpjegmanpbfaaGreatDoor.Scn
structure Cur where
 row : Nat
 col : Nat
 pend : Bool
structure Pen where
 a : At
 g0 : Int
 g1 : Int
 wh : Bool
structure Sav where
 c : Cur
 p : Pen
 org : Bool
structure Ev where
 k : Int
 ix : Nat
 line : Int
 col : Int
 wide : Bool
 r : Int
 bl : Bool
 la : Bool
 fr : Bool
 wr : Bool
structure Sh where
 cols : Nat
 top : Nat
 bot : Nat
 L : List Ln
 sv : Sav
structure Ter where
 m : Mds.Md
 c : Cur
 p : Pen
 nx : Nat
 most : Nat
 R : List Ln
 main : Sh
 other : Option Sh
 tn : Nat
 tf : Nat → Bool
 prints : Nat
 last : Ev
 jr : List Ev
 rp : List Int
structure AcT where
 kind : Int
 r : Int
 priv : Int
 params : List Int
 inter : List Int
 fin : Int
 text : List Int
def cur0 : Cur := ⟨0, 0, false⟩
def pen0 : Pen := ⟨zeroAt, 0, 0, false⟩
def sav0 : Sav := ⟨cur0, pen0, false⟩
def ev0 : Ev := ⟨0, 0, 0, 0, false, 0, false, false, false, false⟩
def Sh.scr (h : Sh) (nx most : Nat) (kp : Bool) (R : List Ln) : Scr := ⟨nx, most, kp, h.cols, h.top, h.bot, h.L, R⟩
def Sh.of (h : Sh) (S : Scr) : Sh := { h with cols := S.cols, top := S.top, bot := S.bot, L := S.L }
namespace Ter
def sh (T : Ter) : Sh := match T.other with | some o => o | none => T.main
def vis (T : Ter) : Scr := T.sh.scr T.nx T.most T.other.isNone T.R
def mscr (T : Ter) : Scr := T.main.scr T.nx T.most true T.R
def putVis (T : Ter) (S : Scr) : Ter := match T.other with
 | none => { T with nx := S.nx, R := S.R, main := T.main.of S }
 | some o => { T with nx := S.nx, R := S.R, other := some (o.of S) }
def putSv (T : Ter) (s : Sav) : Ter := match T.other with
 | none => { T with main := { T.main with sv := s } }
 | some o => { T with other := some { o with sv := s } }
end Ter
def heldN (i : Int) (n : Nat) : Nat := (min i ((n : Int) - 1)).toNat
def place (T : Ter) (row col : Int) : Ter := { T with c := ⟨heldN row T.vis.L.length, heldN col T.vis.cols, false⟩ }
def tell (T : Ter) (e : Ev) : Ter := { T with last := e, jr := T.jr ++ [e] }
def here (T : Ter) (k : Int) : Ev := ⟨k, 0, idAt T.vis.L T.c.row, T.c.col, false, 0, false, false, false, false⟩
def tellOther (T : Ter) : Ter := tell T (here T 4)
def tellStraight (T : Ter) : Ter := tell T (here T 3)
def line (T : Ter) : List Cel := ((T.vis.L[T.c.row]?).map (·.2)).getD []
def tellFeed (T : Ter) (wrap : Bool) : Ter := tell T { here T 3 with fr := blankF (line T) 0, wr := wrap }
def move (T : Ter) (row col : Int) : Ter := tellOther (place T row col)
def upT (S : Scr) (n : Int) (a : At) : Scr := upS S S.top n a (S.kp && decide (S.top = 0))
def feed (T : Ter) : Ter := if T.c.row = T.vis.bot then place (T.putVis (upT T.vis 1 T.p.a)) T.c.row T.c.col else place T ((T.c.row : Int) + 1) T.c.col
def putLine (T : Ter) (l : List Cel) : Ter := T.putVis (putAt T.vis T.c.row l)
def tellRune (T : Ter) (e : Ev) (r : Int) : Ter := tell { T with prints := T.prints + 1 } { e with ix := T.prints, r := r }
def isRuneAt (e : Ev) (line col : Int) : Bool := ((e.k == 1) || (e.k == 2)) && ((e.line == line) && (e.col == col))
def setCol (T : Ter) (n : Nat) : Ter := { T with c := { T.c with col := n } }
def joinCol (T : Ter) : Int := if T.c.pend then (T.c.col : Int) else (T.c.col : Int) - 1
def joinAtT (T : Ter) (c : Nat) (r : Int) : Ter :=
 let T1 := putLine T (joiL (line T) c r)
 tellRune T1 { here T1 2 with col := c, la := isRuneAt T1.last (here T1 2).line c } r
def joinT (T : Ter) (r : Int) : Ter :=
 if 0 ≤ joinCol T ∧ joinCol T < ((line T).length : Int) then joinAtT T (if W (line T) (joinCol T).toNat = 2 then (joinCol T).toNat - 1 else (joinCol T).toNat) r else T
def tight (T : Ter) (w : Nat) : Bool := decide (T.vis.cols < T.c.col + w)
def makeWay (T : Ter) (w : Nat) : Ter :=
 if T.m.a4 && (T.c.pend || tight T w) then tellFeed (feed (setCol T 0)) true
 else if tight T w then setCol T (T.c.col - 1) else T
def putEv (T : Ter) (w : Nat) : Ev := { here T 1 with wide := decide (w = 2), bl := blankF (line T) T.c.col }
def putCells (T : Ter) (r : Int) (w : Nat) : List Cel := putL (if T.m.a0 then inL (line T) T.c.col w T.p.a else line T) T.c.col r (decide (w = 2)) T.p.a
def behind (T : Ter) (b : Nat) (wrap : Bool) : Ter :=
 let T3 := place T T.c.row b
 { T3 with c := { T3.c with pend := wrap && decide (T3.c.col < b) } }
def putT (T : Ter) (r : Int) (w : Nat) : Ter := behind (tellRune (putLine T (putCells T r w)) (putEv T w) r) (T.c.col + w) T.m.a4
def printT (T : Ter) (R : Int) : Ter :=
 let r := Cht.charsetF (if T.p.wh then T.p.g1 else T.p.g0) R
 if Cht.widthF r = 0 then joinT T r
 else if (T.vis.cols : Int) < Cht.widthF r then putT (makeWay T 1) 65533 1
 else putT (makeWay T (Cht.widthF r).toNat) r (Cht.widthF r).toNat
def stepBack (T : Ter) : Ter := move T T.c.row ((T.c.col : Int) - 1)
def nextTab (T : Ter) : Ter := tellStraight (place T T.c.row (Tbs.nextF T.tn T.tf T.c.col 1))
def newLine (T : Ter) : Ter := tellFeed (feed (if T.m.a1 then setCol T 0 else T)) false
def lineBegin (T : Ter) : Ter := tellStraight (place T T.c.row 0)
def setWh (T : Ter) (b : Bool) : Ter := { T with p := { T.p with wh := b } }
def rowDown (T : Ter) : Ter := tellOther (feed T)
def nextLine (T : Ter) : Ter := rowDown (setCol T 0)
def setTab (T : Ter) : Ter := { T with tf := Tbs.putF T.tf T.c.col true }
def rowUp (T : Ter) : Ter := if T.c.row = T.vis.top then move (T.putVis (downS T.vis T.vis.top 1 T.p.a)) T.c.row T.c.col else move T ((T.c.row : Int) - 1) T.c.col
def save (T : Ter) : Ter := T.putSv ⟨T.c, T.p, T.m.a3⟩
def setOrg (T : Ter) (b : Bool) : Ter := { T with m := { T.m with a3 := b } }
def restored (T : Ter) : Ter := { T with c := { T.sh.sv.c with pend := T.sh.sv.c.pend && decide (T.sh.sv.c.col + 1 = T.vis.cols) }, p := T.sh.sv.p, m := { T.m with a3 := T.sh.sv.org } }
def restore (T : Ter) : Ter := tellOther (restored T)
def freshSh (nx rows cols : Nat) : Sh := ⟨cols, 0, rows - 1, freshS nx cols rows zeroAt, sav0⟩
def begin' (T : Ter) (rows cols : Nat) : Ter := { T with nx := T.nx + rows, R := [], main := freshSh T.nx rows cols, other := none, tn := cols, tf := Tbs.freshF 0 cols, m := Mds.start, c := cur0, p := pen0 }
def tellReset (T : Ter) : Ter := tell T (here T 5)
def reset (T : Ter) : Ter := tellReset (begin' T T.vis.L.length T.vis.cols)
def control (T : Ter) (r : Int) : Ter :=
 if r = 8 then stepBack T else if r = 9 then nextTab T else if r = 10 ∨ r = 11 ∨ r = 12 then newLine T else if r = 13 then lineBegin T else if r = 14 then setWh T true else if r = 15 then setWh T false
 else if r = 132 then rowDown T else if r = 133 then nextLine T else if r = 136 then setTab T else if r = 141 then rowUp T else T
def whichOf (r : Int) : Option Bool := if r = 40 then some false else if r = 41 then some true else none
def setOf (f : Int) : Option Int := if f = 48 then some 2 else if f = 65 then some 1 else if f = 66 then some 0 else none
def setG (T : Ter) (b : Bool) (v : Int) : Ter := if b then { T with p := { T.p with g1 := v } } else { T with p := { T.p with g0 := v } }
def choose (T : Ter) (x : AcT) : Ter := match x.inter with
 | [r] => match whichOf r, setOf x.fin with
  | some b, some v => setG T b v
  | _, _ => T
 | _ => T
def escape (T : Ter) (x : AcT) : Ter :=
 if x.inter = [] then
  (if x.fin = 55 then save T else if x.fin = 56 then restore T else if x.fin = 68 then rowDown T else if x.fin = 69 then nextLine T else if x.fin = 72 then setTab T else if x.fin = 77 then rowUp T else if x.fin = 99 then reset T else T)
 else choose T x
def clampN (v : Int) : Int := max 0 (min v 65535)
def atN (p : List Int) (i : Nat) : Int := match p[i]? with | some v => clampN v | none => 0
def countN (p : List Int) (i : Nat) : Int := max 1 (atN p i)
def above (T : Ter) (n : Int) : Int := if T.vis.top ≤ T.c.row then max (T.vis.top : Int) ((T.c.row : Int) - n) else (T.c.row : Int) - n
def below (T : Ter) (n : Int) : Int := if T.c.row ≤ T.vis.bot then min (T.vis.bot : Int) ((T.c.row : Int) + n) else (T.c.row : Int) + n
def counted (T : Ter) (n : Int) : Int := if T.m.a3 then min (T.vis.bot : Int) ((T.vis.top : Int) + n - 1) else n - 1
def home (T : Ter) : Ter := move T (counted T 1) 0
def goUp (T : Ter) (p : List Int) : Ter := move T (above T (countN p 0)) T.c.col
def goDown (T : Ter) (p : List Int) : Ter := move T (below T (countN p 0)) T.c.col
def goOn (T : Ter) (p : List Int) : Ter := move T T.c.row ((T.c.col : Int) + countN p 0)
def goBack (T : Ter) (p : List Int) : Ter := move T T.c.row ((T.c.col : Int) - countN p 0)
def goDownB (T : Ter) (p : List Int) : Ter := move T (below T (countN p 0)) 0
def goUpB (T : Ter) (p : List Int) : Ter := move T (above T (countN p 0)) 0
def toCol (T : Ter) (p : List Int) : Ter := move T T.c.row (countN p 0 - 1)
def toPlace (T : Ter) (p : List Int) : Ter := move T (counted T (countN p 0)) (countN p 1 - 1)
def toRow (T : Ter) (p : List Int) : Ter := move T (counted T (countN p 0)) T.c.col
def tabsOn (T : Ter) (p : List Int) : Ter := move T T.c.row (Tbs.nextF T.tn T.tf T.c.col (countN p 0))
def tabsBack (T : Ter) (p : List Int) : Ter := move T T.c.row (Tbs.prevF T.tn T.tf T.c.col (countN p 0))
def eraRows (L : List Ln) (f t : Nat) (cols : Nat) (a : At) : List Ln := L.mapIdx fun i p => if f ≤ i ∧ i < t then (p.1, eraL p.2 0 cols a) else p
def eraseRows (T : Ter) (f t : Nat) : Ter := T.putVis { T.vis with L := eraRows T.vis.L f t T.vis.cols T.p.a }
def eraseIn (T : Ter) (f t : Int) : Ter := tellOther (putLine T (eraL (line T) f t T.p.a))
def eraseLine (T : Ter) (n : Int) : Ter := if n = 0 then eraseIn T T.c.col T.vis.cols else if n = 1 then eraseIn T 0 ((T.c.col : Int) + 1) else if n = 2 then eraseIn T 0 T.vis.cols else T
def noBack (T : Ter) : Ter := { T with R := [] }
def eraseScr (T : Ter) (n : Int) : Ter :=
 eraseLine (if n = 0 then eraseRows T (T.c.row + 1) T.vis.L.length else if n = 1 then eraseRows T 0 T.c.row else if n = 2 then eraseRows T 0 T.vis.L.length else if n = 3 then noBack T else T) n
def eraseCells (T : Ter) (p : List Int) : Ter := eraseIn T T.c.col ((T.c.col : Int) + countN p 0)
def insertCells (T : Ter) (p : List Int) : Ter := tellOther (putLine T (inL (line T) T.c.col (countN p 0) T.p.a))
def deleteCells (T : Ter) (p : List Int) : Ter := tellOther (putLine T (deL (line T) T.c.col (countN p 0) T.p.a))
def within (T : Ter) : Prop := T.vis.top ≤ T.c.row ∧ T.c.row ≤ T.vis.bot
instance (T : Ter) : Decidable (within T) := by unfold within; infer_instance
def insertLines (T : Ter) (p : List Int) : Ter := if within T then move (T.putVis (downS T.vis T.c.row (countN p 0) T.p.a)) T.c.row 0 else T
def deleteLines (T : Ter) (p : List Int) : Ter := if within T then move (T.putVis (upS T.vis T.c.row (countN p 0) T.p.a false)) T.c.row 0 else T
def scrollUp (T : Ter) (p : List Int) : Ter := tellOther (T.putVis (upT T.vis (countN p 0) T.p.a))
def scrollDown (T : Ter) (p : List Int) : Ter := tellOther (T.putVis (downS T.vis T.vis.top (countN p 0) T.p.a))
def margB (T : Ter) (p : List Int) : Int := if atN p 1 - 1 < 0 ∨ (T.vis.L.length : Int) ≤ atN p 1 - 1 then (T.vis.L.length : Int) - 1 else atN p 1 - 1
def setMargins (T : Ter) (p : List Int) : Ter := if countN p 0 - 1 < margB T p then home (T.putVis { T.vis with top := (countN p 0 - 1).toNat, bot := (margB T p).toNat }) else T
def clearTabs (T : Ter) (p : List Int) : Ter := if atN p 0 = 0 then { T with tf := Tbs.putF T.tf T.c.col false } else if atN p 0 = 3 then { T with tf := fun _ => false } else T
def toS (a : At) : Sgr.At := ⟨a.f, a.b, a.g⟩
def ofS (a : Sgr.At) : At := ⟨a.f, a.b, a.g⟩
def look (T : Ter) (p : List Int) : Ter := { T with p := { T.p with a := ofS (Sgr.applyF (toS T.p.a) p) } }
def putM (T : Ter) (pr : Bool) (on : Bool) (n : Int) : Ter := { T with m := T.m.put pr n on }
def setModes (T : Ter) (p : List Int) (on : Bool) : Ter := p.foldl (fun T n => putM T false on (clampN n)) T
def reply (T : Ter) (b : List Int) : Ter := { T with rp := T.rp ++ b }
def report (T : Ter) (p : List Int) : Ter := if atN p 0 = 5 then reply T Kys.staF else if atN p 0 = 6 then reply T (Kys.curF ((T.c.row : Int) - counted T 1 + 1) ((T.c.col : Int) + 1)) else T
def device (T : Ter) (p : List Int) : Ter := if atN p 0 = 0 then reply T Kys.devF else T
def setOrigin (T : Ter) (on : Bool) : Ter := home (setOrg T on)
def setSaved (T : Ter) (on : Bool) : Ter := if on then save T else restore T
def setAlt (T : Ter) (b : Bool) : Ter := { T with m := { T.m with a6 := b } }
def showOther (T : Ter) : Ter := { T with nx := T.nx + T.main.L.length, other := some (freshSh T.nx T.main.L.length T.main.cols) }
def showMain (T : Ter) : Ter := { T with other := none }
def setOther (T : Ter) (on : Bool) : Ter := if on = T.m.a6 then T else (fun T => move T T.c.row T.c.col) (if on then showOther (setAlt T true) else showMain (setAlt T false))
def setOtherSaved (T : Ter) (on : Bool) : Ter := if on = T.m.a6 then T else if on then setOther (save T) true else restore (setOther T false)
def priv1 (T : Ter) (n : Int) (on : Bool) : Ter :=
 if n = 6 then setOrigin T on else if n = 47 ∨ n = 1047 then setOther T on else if n = 1048 then setSaved T on else if n = 1049 then setOtherSaved T on else putM T true on n
def privates (T : Ter) (p : List Int) (on : Bool) : Ter := p.foldl (fun T n => priv1 T (clampN n) on) T
def plain (T : Ter) (f : Int) (p : List Int) : Ter :=
 if f = 65 then goUp T p else if f = 66 then goDown T p else if f = 67 then goOn T p else if f = 68 then goBack T p else if f = 69 then goDownB T p else if f = 70 then goUpB T p
 else if f = 71 ∨ f = 96 then toCol T p else if f = 72 ∨ f = 102 then toPlace T p else if f = 100 then toRow T p else if f = 73 then tabsOn T p else if f = 90 then tabsBack T p
 else if f = 74 then eraseScr T (atN p 0) else if f = 75 then eraseLine T (atN p 0) else if f = 88 then eraseCells T p else if f = 64 then insertCells T p else if f = 80 then deleteCells T p
 else if f = 76 then insertLines T p else if f = 77 then deleteLines T p else if f = 83 then scrollUp T p else if f = 84 then scrollDown T p else if f = 114 then setMargins T p
 else if f = 103 then clearTabs T p else if f = 109 then look T p else if f = 104 then setModes T p true else if f = 108 then setModes T p false else if f = 110 then report T p else if f = 99 then device T p else T
def sequence (T : Ter) (x : AcT) : Ter :=
 if x.inter = [] then
  (if x.priv = 0 then plain T x.fin x.params else if x.priv = 63 then (if x.fin = 104 then privates T x.params true else if x.fin = 108 then privates T x.params false else T) else T)
 else T
def doT (T : Ter) (x : AcT) : Ter := if x.kind = 1 then printT T x.r else if x.kind = 2 then control T x.r else if x.kind = 3 then escape T x else if x.kind = 4 then sequence T x else T
def maySize (rows cols : Int) : Prop := (1 ≤ rows ∧ rows ≤ 512) ∧ 1 ≤ cols ∧ cols ≤ 512
instance (rows cols : Int) : Decidable (maySize rows cols) := by unfold maySize; infer_instance
def newT (rows cols most : Nat) : Ter := begin' ⟨Mds.none0, cur0, pen0, 1, most, [], ⟨0, 0, 0, [], sav0⟩, none, 0, fun _ => false, 0, ev0, [], []⟩ rows cols
end Go.Proofs.YtkjpjegmanpbfaaGreatDoor.Emu
namespace Go.Proofs.YtkjpjegmanpbfaaGreatDoor.Emu
open Go Go.RowKit Go.Proofs.YtkjpjegmanpbfaaGreatDoor.Com Go.Proofs.YtkjpjegmanpbfaaGreatDoor.Rw Go.Proofs.YtkjpjegmanpbfaaGreatDoor.Lns Go.Proofs.YtkjpjegmanpbfaaGreatDoor.Scn
section
variable {Z Z' : Zn} {w w' : World} {x s nx most cols top bot n : Nat} {kp : Bool} {sv lv : Value} {xs : List Value} {L R : List En}
theorem LoX.zone (h : LoX Z w x s sv lv R) (hZ : ∀ k, Z k → Z' k) : LoX Z' w x s sv lv R := ⟨hZ _ h.x, hZ _ h.s, fun g hg => hZ _ (h.l g hg), fun g hg => hZ _ (h.p g hg), fun e he => ⟨hZ _ (h.r e he).1, hZ _ (h.r e he).2⟩, fun k hk => hZ _ (h.up k hk)⟩
theorem MidX.zone (h : MidX Z w x s nx most kp cols sv lv top bot n xs L R) (hZ : ∀ k, Z k → Z' k) : MidX Z' w x s nx most kp cols sv lv top bot n xs L R :=
 ⟨⟨h.ln.blk, h.ln.own, h.ln.st, h.ln.apart, LoX.zone h.ln.lo hZ, h.ln.small⟩, h.rows, fun e he => ⟨hZ _ (h.zr e he).1, hZ _ (h.zr e he).2⟩, h.dd, h.gg⟩
theorem rowG_heap {e : En} (h : RowG 0 w e) (hd : w'.heap[e.d]? = w.heap[e.d]?) (hg : w'.heap[e.g]? = w.heap[e.g]?) : RowG 0 w' e := by
 obtain ⟨h1, h2, h3, n, cap, tail, hx⟩ := h
 exact ⟨h1, h2, h3, n, cap, tail, ⟨hd.trans hx.ptr, hg.trans hx.row, hx.len, hx.le, hx.cap, hx.pos, hx.small⟩⟩
theorem owns_heap {B : Nat} {e : TypeId} {k n : Nat} {v : Value} {xs : List Value} (h : w.ownsRow B e k v n xs) (hv : ∀ g, v.ownBlock = some g → w'.heap[g]? = w.heap[g]?) : w'.ownsRow B e k v n xs := by
 refine ⟨h.1, ?_⟩
 rcases h.2 with h2 | ⟨g, cap, cur, rfl, hg, hh, r⟩
 ·exact .inl h2
 ·exact .inr ⟨g, cap, cur, rfl, hg, (hv g rfl).trans hh, r⟩
end
def Two (Z : Zn) (w : World) (s x1 x2 : Nat) (S1 S2 : Scr) : Prop :=
 ∃ sv R l1 L1 l2 L2,
  MidX Z w x1 s S1.nx S1.most S1.kp S1.cols sv l1 S1.top S1.bot L1.length (fl lineC L1) L1 R ∧ vw L1 = S1.L ∧ vw R = S1.R ∧
  MidX Z w x2 s S1.nx S1.most S2.kp S2.cols sv l2 S2.top S2.bot L2.length (fl lineC L2) L2 R ∧ vw L2 = S2.L ∧
  x1 ≠ x2 ∧ (∀ g, l1.ownBlock = some g → l2.ownBlock ≠ some g) ∧ ((L1 ++ L2).map En.d).Nodup ∧ ((L1 ++ L2).map En.g).Nodup
section
variable {Z : Zn} {w w' : World} {s x1 x2 : Nat} {S1 S2 : Scr}
theorem nodup_swap {α : Type} {f : α → Nat} {l m : List α} (h : ((l ++ m).map f).Nodup) : ((m ++ l).map f).Nodup := ((List.perm_append_comm (l₁ := l) (l₂ := m)).map f).nodup_iff.1 h
theorem Two.swap (h : Two Z w s x1 x2 S1 S2) : Two Z w s x2 x1 { S2 with nx := S1.nx, most := S1.most, R := S1.R } S1 := by
 obtain ⟨sv, R, l1, L1, l2, L2, h1, e1, eR, h2, e2, hx, hl, hd, hg⟩ := h
 exact ⟨sv, R, l2, L2, l1, L1, h2, e2, eR, h1, e1, hx.symm, fun g h2 h1 => hl g h1 h2, nodup_swap hd, nodup_swap hg⟩
theorem Two.fr {B : Zn} {ts : List TypeId} (h : Two Z w s x1 x2 S1 S2) (hf : Scn.Fr B ts w w') (hn : NoPT ts) : Two Z w' s x1 x2 S1 S2 := by
 obtain ⟨sv, R, l1, L1, l2, L2, h1, e1, eR, h2, e2, hx, hl, hd, hg⟩ := h
 have up := hf.size
 exact ⟨sv, R, l1, L1, l2, L2, h1.fr hf hn, e1, eR, h2.fr hf hn, e2, hx, hl, hd, hg⟩
theorem Two.sc1 (h : Two Z w s x1 x2 S1 S2) : SC Z w x1 s S1 := by
 obtain ⟨sv, R, l1, L1, l2, L2, h1, e1, eR, h2, e2, hx, hl, hd, hg⟩ := h
 exact ⟨sv, l1, L1, R, h1, e1, eR⟩
theorem nodup_apart {α : Type} {f : α → Nat} {l m : List α} (h : ((l ++ m).map f).Nodup) {a b : α} (ha : a ∈ l) (hb : b ∈ m) : f a ≠ f b := by
 rw [List.map_append] at h
 exact (List.nodup_append.1 h).2.2 (f a) (List.mem_map_of_mem ha) (f b) (List.mem_map_of_mem hb)
theorem nodup_both {α : Type} {f : α → Nat} {l m : List α} (hl : (l.map f).Nodup) (hm : (m.map f).Nodup) (h : ∀ a ∈ l, ∀ b ∈ m, f a ≠ f b) : ((l ++ m).map f).Nodup := by
 rw [List.map_append, List.nodup_append]
 refine ⟨hl, hm, fun a ha b hb => ?_⟩
 obtain ⟨x, hx, rfl⟩ := List.mem_map.1 ha
 obtain ⟨y, hy, rfl⟩ := List.mem_map.1 hb
 exact h x hx y hy
theorem nodup_left {α : Type} {f : α → Nat} {l m : List α} (h : ((l ++ m).map f).Nodup) : (l.map f).Nodup := by
 rw [List.map_append] at h
 exact (List.nodup_append.1 h).1
theorem nodup_right {α : Type} {f : α → Nat} {l m : List α} (h : ((l ++ m).map f).Nodup) : (m.map f).Nodup := by
 rw [List.map_append] at h
 exact (List.nodup_append.1 h).2.1
theorem Two.focus (h : Two Z w s x1 x2 S1 S2) : ∃ Z1 : Zn, (∀ k, Z1 k → Z k) ∧ SC Z1 w x1 s S1 ∧
  ∀ w' S', SC Z1 w' x1 s S' → S'.most = S1.most → Scn.Fr Z1 PT w w' → Two Z w' s x1 x2 S' S2 := by
 obtain ⟨sv, R, l1, L1, l2, L2, h1, e1, eR, h2, e2, hx, hl, hd, hg⟩ := h
 have tx2 := h2.ln.typ
 have ts := h2.ln.st.typ
 have tl2 := fun g hg => (h2.ln.ltyp g hg).2.2
 have hlt2 := h2.ln.blk.lt
 have ne : ∀ {k k' : Nat} {t t' : TypeId}, Typ w k t → Typ w k' t' → t ≠ t' → k ≠ k' := fun h h' ht e => ht (Typ.inj h (e ▸ h'))
 let F : Zn := fun k => k = x2 ∨ l2.ownBlock = some k ∨ ∃ e ∈ L2, k = e.d ∨ k = e.g
 let Z1 : Zn := fun k => Z k ∧ ¬ F k
 have nrow : ∀ {k : Nat}, Typ w k 154 → (∀ e ∈ L2, k ≠ e.d) → ¬ F k := fun hk hd' hF => by
  rcases hF with e | e | ⟨e, he, e' | e'⟩
  ·exact ne hk tx2 (by decide) e
  ·exact ne hk (tl2 _ e) (by decide) rfl
  ·exact hd' e he e'
  ·exact ne hk (h2.rows e he).typ.2 (by decide) e'
 have ncel : ∀ {k : Nat}, Typ w k 157 → (∀ e ∈ L2, k ≠ e.g) → ¬ F k := fun hk hd' hF => by
  rcases hF with e | e | ⟨e, he, e' | e'⟩
  ·exact ne hk tx2 (by decide) e
  ·exact ne hk (tl2 _ e) (by decide) rfl
  ·exact ne hk (h2.rows e he).typ.1 (by decide) e'
  ·exact hd' e he e'
 have nlin : ∀ {k : Nat}, Typ w k 151 → l2.ownBlock ≠ some k → ¬ F k := fun hk hn hF => by
  rcases hF with e | e | ⟨e, he, e' | e'⟩
  ·exact ne hk tx2 (by decide) e
  ·exact hn e
  ·exact ne hk (h2.rows e he).typ.1 (by decide) e'
  ·exact ne hk (h2.rows e he).typ.2 (by decide) e'
 have noth : ∀ {k : Nat} {t : TypeId}, Typ w k t → t ≠ 151 → t ≠ 154 → t ≠ 157 → k ≠ x2 → ¬ F k := fun hk n1 n2 n3 hn hF => by
  rcases hF with e | e | ⟨e, he, e' | e'⟩
  ·exact hn e
  ·exact ne hk (tl2 _ e) n1 rfl
  ·exact ne hk (h2.rows e he).typ.1 n2 e'
  ·exact ne hk (h2.rows e he).typ.2 n3 e'
 have hlo : LoX Z1 w x1 s sv l1 R := by
  have lo := h1.ln.lo
  refine ⟨⟨lo.x, noth h1.ln.typ (by decide) (by decide) (by decide) hx⟩, ⟨lo.s, noth ts (by decide) (by decide) (by decide) (ne ts tx2 (by decide))⟩, fun g hg => ⟨lo.l g hg, nlin (h1.ln.ltyp g hg).2.2 (hl g hg)⟩,
   fun g hg => ⟨lo.p g hg, nlin (h1.ln.st.ptyp g hg).2.2 (fun e => h2.ln.apart g e hg)⟩, fun e he => ?_, fun k hk => ⟨lo.up k hk, fun hF => ?_⟩⟩
  ·exact ⟨⟨(lo.r e he).1, nrow (h1.ln.st.2 e he).typ.1 (fun e2 he2 => (nodup_apart h2.dd he2 he).symm)⟩, ⟨(lo.r e he).2, ncel (h1.ln.st.2 e he).typ.2 (fun e2 he2 => (nodup_apart h2.gg he2 he).symm)⟩⟩
  ·rcases hF with e | e | ⟨e, he, e' | e'⟩
   ·omega
   ·have := (h2.ln.ltyp k e).2.1; omega
   ·have := (rowG_lt (h2.rows e he)).1; omega
   ·have := (rowG_lt (h2.rows e he)).2; omega
 have hm1 : MidX Z1 w x1 s S1.nx S1.most S1.kp S1.cols sv l1 S1.top S1.bot L1.length (fl lineC L1) L1 R :=
  ⟨⟨h1.ln.blk, h1.ln.own, h1.ln.st, h1.ln.apart, hlo, h1.ln.small⟩, h1.rows,
   fun e he => ⟨⟨(h1.zr e he).1, nrow (h1.rows e he).typ.1 (fun e2 he2 => nodup_apart hd he he2)⟩, ⟨(h1.zr e he).2, ncel (h1.rows e he).typ.2 (fun e2 he2 => nodup_apart hg he he2)⟩⟩, h1.dd, h1.gg⟩
 refine ⟨Z1, fun k hk => hk.1, ⟨sv, l1, L1, R, hm1, e1, eR⟩, fun w' S' hS hmost hf => ?_⟩
 obtain ⟨sv', l1', L1', R', m, f1, fR⟩ := hS
 have out : ∀ k, F k → ¬ Z1 k := fun k hF hz => hz.2 hF
 have same : ∀ k, k < w.heap.size → F k → w'.heap[k]? = w.heap[k]? := fun k hk hF => hf.block k hk (.inl (out k hF))
 have hb2 : Block w' x2 142 #[.pointer (some ⟨s, 0, none⟩), .bool S2.kp, .int .i64 S2.cols, l2, .int .i64 S2.top, .int .i64 S2.bot] := (same x2 hlt2 (.inl rfl)).trans h2.ln.blk
 have ho2 := owns_heap (w' := w') h2.ln.own (fun g hg => same g (h2.ln.ltyp g hg).2.1 (.inr (.inl hg)))
 have hr2 : ∀ e ∈ L2, RowG 0 w' e := fun e he => rowG_heap (h2.rows e he) (same _ (rowG_lt (h2.rows e he)).1 (.inr (.inr ⟨e, he, .inl rfl⟩))) (same _ (rowG_lt (h2.rows e he)).2 (.inr (.inr ⟨e, he, .inr rfl⟩)))
 have hZ : ∀ k, Z1 k → Z k := fun k hk => hk.1
 refine ⟨sv', R', l1', L1', l2, L2, MidX.zone m hZ, f1, fR, ⟨⟨hb2, ho2, m.ln.st, fun g hg hs => (m.ln.lo.p g hs).2 (.inr (.inl hg)), ⟨h2.ln.lo.x, h2.ln.lo.s, h2.ln.lo.l, fun g hg => hZ _ (m.ln.lo.p g hg), fun e he => ⟨hZ _ (m.ln.lo.r e he).1, hZ _ (m.ln.lo.r e he).2⟩, fun k hk => hZ _ (m.ln.lo.up k hk)⟩, h2.ln.small⟩, hr2, h2.zr, ?_, ?_⟩, e2, hx, ?_, ?_, ?_⟩
 ·exact nodup_both (nodup_left h2.dd) (nodup_right m.dd) fun a ha b hb e => (m.ln.lo.r b hb).1.2 (.inr (.inr ⟨a, ha, .inl e.symm⟩))
 ·exact nodup_both (nodup_left h2.gg) (nodup_right m.gg) fun a ha b hb e => (m.ln.lo.r b hb).2.2 (.inr (.inr ⟨a, ha, .inr e.symm⟩))
 ·exact fun g hg1 hg2 => (m.ln.lo.l g hg1).2 (.inr (.inl hg2))
 ·exact nodup_both (nodup_left m.dd) (nodup_right hd) fun a ha b hb e => (m.zr a ha).1.2 (.inr (.inr ⟨b, hb, .inl e⟩))
 ·exact nodup_both (nodup_left m.gg) (nodup_right hg) fun a ha b hb e => (m.zr a ha).2.2 (.inr (.inr ⟨b, hb, .inr e⟩))
end
end Go.Proofs.YtkjpjegmanpbfaaGreatDoor.Emu
