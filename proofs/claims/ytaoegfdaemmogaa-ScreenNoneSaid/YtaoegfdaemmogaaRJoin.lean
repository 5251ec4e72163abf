/-
  row: Join.
-/
import Derived.Test.YtaoegfdaemmogaaROps3
namespace Go.Proofs.Ytaoegfdaemmogaa.Rw
open Go Go.RowKit Go.Proofs.Ytaoegfdaemmogaa.Com

def addMark (c : Cel) (x : Int) : Cel := ⟨c.r, c.m ++ [x], c.wide, c.a⟩
theorem pad4_add {m : List Int} (h : m.length < 4) (x : Int) : pad4 (m ++ [x]) = (pad4 m).set m.length x := by
  unfold pad4
  match m, h with
  | [], _ => rfl
  | [_], _ => rfl
  | [_, _], _ => rfl
  | [_, _, _], _ => rfl
theorem cellC_add {c : Cel} (h : c.m.length < 4) (x : Int) : cellC (addMark c x) = ((cellC c).set (1 + c.m.length) (.int .i32 x)).set 5 (.int .u8 ((c.m.length : Int) + 1)) := by
  obtain ⟨r, m, wd, a⟩ := c
  simp only at h
  unfold cellC addMark
  simp only [pad4_add h]
  match m, h with
  | [], _ => rfl
  | [_], _ => rfl
  | [_, _], _ => rfl
  | [_, _, _], _ => rfl
theorem splice_put {α : Type} (cur vs : List α) (off i : Nat) (v : α) (h : off + vs.length ≤ cur.length) (hi : i < vs.length) : splice cur off (vs.set i v) = (splice cur off vs).set (off + i) v := by
  unfold splice
  rw [List.set_append_right _ _ (by simp; omega), List.length_take, Nat.min_eq_left (by omega), Nat.add_sub_cancel_left, List.set_append_left _ _ hi, List.length_set]
theorem RowX.marked {w : World} {d g n cap : Nat} {tail : List Value} {l : List Cel} (h : RowX w d g n cap tail l) {i : Nat} (hi : i < l.length) (hm : l[i].m.length < 4) (x : Int) :
    fl cellC (l.set i (addMark l[i] x)) ++ tail = ((Rw.fl cellC l ++ tail).set (i * 10 + (1 + l[i].m.length)) (.int .i32 x)).set (i * 10 + 5) (.int .u8 ((l[i].m.length : Int) + 1)) := by
  have hfit := h.fits (i := i) (by rw [← h.len]; exact hi) l[i]
  have e1 := fl_splice cellC_length l [addMark l[i] x] tail i (by simp; omega)
  have e0 := fl_splice cellC_length l [l[i]] tail i (by simp; omega)
  rw [fl_one, splice_set _ _ _ hi] at e1 e0
  rw [List.set_getElem_self] at e0
  rw [← e1, cellC_add hm, splice_put _ _ _ _ _ (by simpa using hfit) (by simp [cellC_length]), splice_put _ _ _ _ _ hfit (by rw [cellC_length]; omega), e0]
theorem cellC_mark (c : Cel) {k : Nat} (hk : k < 4) : ∃ v, (cellC c)[1 + k]? = some (.int .i32 v) := by
  unfold cellC
  rw [show 1 + k = k + 1 by omega, List.getElem?_cons_succ, List.getElem?_append_left (by simp [pad4_length]; omega), List.getElem?_map, List.getElem?_eq_getElem (by rw [pad4_length]; exact hk)]
  exact ⟨_, rfl⟩

section
variable {w : World} {d g n cap : Nat} {tail : List Value} {l : List Cel}
/-- The place whose marks are meant: of a right half the left half. -/
def joinAt (l : List Cel) (i : Nat) : Nat := if W l i = 2 then i - 1 else i
theorem joinAt_lt {l : List Cel} {i : Nat} (h : i < l.length) : joinAt l i < l.length := by unfold joinAt; split <;> omega
def joinL (l : List Cel) (i : Nat) (x : Int) : List Cel := match l[joinAt l i]? with
  | some c => if c.m.length < 4 then l.set (joinAt l i) (addMark c x) else l
  | none => l
def joinV (l : List Cel) (i : Nat) : Int := match l[joinAt l i]? with
  | some c => if c.m.length < 4 then 0 else 8
  | none => 8

end
end Go.Proofs.Ytaoegfdaemmogaa.Rw
