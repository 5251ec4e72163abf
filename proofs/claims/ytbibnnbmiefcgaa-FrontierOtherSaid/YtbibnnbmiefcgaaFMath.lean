/-
  frontier, in plain words: an event, what it makes of the frontier, and what it is.
-/
import Derived.Test.YtbibnnbmiefcgaaMem3
namespace Go.Proofs.Ytbibnnbmiefcgaa.Fro
open Go Go.RowKit Go.Proofs.Ytbibnnbmiefcgaa.Com

/-- An event. -/
structure Ev where
  k : Int
  ix : Int
  ln : Int
  cl : Int
  wd : Bool
  r : Int
  bl : Bool
  la : Bool
  fr : Bool
  wr : Bool
abbrev evV (e : Ev) : Value := .agg #[.int .u8 e.k, .int .u64 e.ix, .int .i64 e.ln, .int .i64 e.cl, .bool e.wd, .int .i32 e.r, .bool e.bl, .bool e.la, .bool e.fr, .bool e.wr]
def evL (e : Ev) : List Value := [.int .u8 e.k, .int .u64 e.ix, .int .i64 e.ln, .int .i64 e.cl, .bool e.wd, .int .i32 e.r, .bool e.bl, .bool e.la, .bool e.fr, .bool e.wr]
theorem evL_len (e : Ev) : (evL e).length = 10 := rfl
/-- A kind is a byte. -/
def Ev.Ok (e : Ev) : Prop := 0 ≤ e.k ∧ e.k ≤ 255
instance : Inhabited Ev := ⟨⟨0, 0, 0, 0, false, 0, false, false, false, false⟩⟩

/-- A frontier: off or not; the last print's kind. -/
structure Fr where
  off : Bool
  la : Int
def Fr.new : Fr := ⟨false, 0⟩
def Fr.Ok (S : Fr) : Prop := 0 ≤ S.la ∧ S.la ≤ 3
theorem Fr.new_ok : Fr.new.Ok := ⟨by decide, by decide⟩
def printK (S : Fr) (e : Ev) (echo : Bool) : Int := if echo = true then 1 else if (S.off || !e.bl) = true then 3 else 2
def joinB (S : Fr) (e : Ev) : Bool := e.la && S.la != 0
/-- What an event is. -/
def kindF (S : Fr) (e : Ev) (echo : Bool) : Int := if e.k = 1 then printK S e echo else if e.k = 2 then (if joinB S e = true then S.la else 3) else 0
/-- What it leaves. -/
def nextF (S : Fr) (e : Ev) (echo : Bool) : Fr :=
  if e.k = 1 then ⟨S.off || !e.bl, printK S e echo⟩
  else if e.k = 2 then S
  else if e.k = 3 then ⟨S.off && !e.fr, S.la⟩
  else if e.k = 4 then ⟨true, S.la⟩
  else if e.k = 5 then Fr.new
  else S
theorem printK_in (S : Fr) (e : Ev) (echo : Bool) : 1 ≤ printK S e echo ∧ printK S e echo ≤ 3 := by
  unfold printK
  repeat' split
  all_goals decide
theorem nextF_ok {S : Fr} (h : S.Ok) (e : Ev) (echo : Bool) : (nextF S e echo).Ok := by
  unfold nextF
  have := printK_in S e echo
  unfold Fr.Ok at *
  repeat' split
  all_goals first | exact h | exact Fr.new_ok | (dsimp only; omega)
theorem kindF_in {S : Fr} (h : S.Ok) (e : Ev) (echo : Bool) : 0 ≤ kindF S e echo ∧ kindF S e echo ≤ 3 := by
  unfold kindF
  have := printK_in S e echo
  unfold Fr.Ok at h
  repeat' split
  all_goals first | omega | decide
end Go.Proofs.Ytbibnnbmiefcgaa.Fro
