/-
  row: Join.
-/
import Derived.Test.YtleooelhnnfjbaaROps3
namespace Go.Proofs.Ytleooelhnnfjbaa.Rw
open Go Go.RowKit Go.Proofs.Ytleooelhnnfjbaa.Com

def addMark (c : Cel) (x : Int) : Cel := ⟨c.r, c.m ++ [x], c.wide, c.a⟩
theorem splice_put {α : Type} (cur vs : List α) (off i : Nat) (v : α) (h : off + vs.length ≤ cur.length) (hi : i < vs.length) : splice cur off (vs.set i v) = (splice cur off vs).set (off + i) v := by
  unfold splice
  rw [List.set_append_right _ _ (by simp; omega), List.length_take, Nat.min_eq_left (by omega), Nat.add_sub_cancel_left, List.set_append_left _ _ hi, List.length_set]
section
variable {w : World} {d g n cap : Nat} {tail : List Value} {l : List Cel}
/-- The place whose marks are meant: of a right half the left half. -/
def joinAt (l : List Cel) (i : Nat) : Nat := if W l i = 2 then i - 1 else i
theorem joinAt_lt {l : List Cel} {i : Nat} (h : i < l.length) : joinAt l i < l.length := by unfold joinAt; split <;> omega
def joinL (l : List Cel) (i : Nat) (x : Int) : List Cel := match l[joinAt l i]? with
  | some c => if c.m.length < 4 then l.set (joinAt l i) (addMark c x) else l
  | none => l
def joinV (l : List Cel) (i : Nat) : Int := match l[joinAt l i]? with
  | some c => if c.m.length < 4 then 0 else 8
  | none => 8

end
end Go.Proofs.Ytleooelhnnfjbaa.Rw
