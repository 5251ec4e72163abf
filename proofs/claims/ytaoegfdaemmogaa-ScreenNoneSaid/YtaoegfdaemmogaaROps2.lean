/-
  row: Insert, Delete.
-/
import Derived.Test.YtaoegfdaemmogaaROps
namespace Go.Proofs.Ytaoegfdaemmogaa.Rw
open Go Go.RowKit Go.Proofs.Ytaoegfdaemmogaa.Com

theorem ins_splice {l : List Cel} {col k : Nat} (a : At) (h : col + k ≤ l.length) : splice (splice l (col + k) ((l.drop col).take (l.length - col - k))) col (List.replicate k (clr a)) = insX l col k a := by
  have hM : ((l.drop col).take (l.length - col - k)).length = l.length - col - k := by simp
  unfold insX
  generalize (l.drop col).take (l.length - col - k) = M at hM
  have e1 : splice l (col + k) M = l.take (col + k) ++ M := by
    unfold splice
    rw [hM, List.drop_eq_nil_of_le (by omega), List.append_nil]
  rw [e1]
  unfold splice
  rw [List.take_append_of_le_length (by simp; omega), List.take_take, Nat.min_eq_left (by omega), List.length_replicate]
  congr 2
  rw [List.drop_append, List.drop_eq_nil_of_le (by simp; omega)]
  simp only [List.nil_append, List.length_take, Nat.min_eq_left h, Nat.sub_self, List.drop_zero]
theorem del_splice {l : List Cel} {col k : Nat} (a : At) (h : col + k ≤ l.length) : splice (splice l col (l.drop (col + k))) (l.length - k) (List.replicate k (clr a)) = l.take col ++ (l.drop (col + k) ++ List.replicate k (clr a)) := by
  have hM : (l.drop (col + k)).length = l.length - k - col := by simp; omega
  generalize l.drop (col + k) = M at hM
  unfold splice
  have e0 : (l.take col ++ (M ++ l.drop (col + M.length))).length = l.length := by simp; omega
  have e1 : (l.take col ++ (M ++ l.drop (col + M.length))).take (l.length - k) = l.take col ++ M := by
    rw [← List.append_assoc, List.take_append_of_le_length (by simp; omega), List.take_of_length_le (by simp; omega)]
  rw [e1, List.length_replicate, List.drop_eq_nil_of_le (by rw [e0]; omega), List.append_nil, List.append_assoc]
/-- Some of a row's cells, one behind the other. -/
theorem RowX.part {w : World} {d g n cap : Nat} {tail : List Value} {l : List Cel} (h : RowX w d g n cap tail l) (c m : Nat) (hc : c + m ≤ n) : ∀ j v, (fl cellC ((l.drop c).take m))[j]? = some v → w.cell? ((⟨g, c * 10, none⟩ : Addr).add j) = some v := by
  intro j v hj
  rw [Addr.add_lit]
  refine h.row.cell _ ?_
  have hl := h.len
  rw [← fl_take cellC_length _ _ (by simp; omega), ← fl_drop cellC_length _ _ (by omega), List.getElem?_take] at hj
  split at hj
  · rw [List.getElem?_drop] at hj
    have hlt := (List.getElem?_eq_some_iff.1 hj).1
    simp only [List.getElem?_toArray]
    rw [List.getElem?_append_left hlt]
    exact hj
  · cases hj
theorem part_length (l : List Cel) (c m : Nat) (h : c + m ≤ l.length) : (fl cellC ((l.drop c).take m)).length = m * 10 := by rw [fl_length cellC_length]; simp; omega
theorem RowX.curLen {w : World} {d g n cap : Nat} {tail : List Value} {l : List Cel} (h : RowX w d g n cap tail l) : (fl cellC l ++ tail).length = n * 10 + tail.length := by rw [List.length_append, fl_length cellC_length, h.len]
/-- Behind a copy into the row's own block. -/
theorem RowX.copied {w w' : World} {d g n cap : Nat} {tail : List Value} {l : List Cel} (h : RowX w d g n cap tail l) (at' : Nat) (M : List Cel) (hM : at' + M.length ≤ n) (hb : Block w' g 113 (splice (Rw.fl cellC l ++ tail) (at' * 10) (Rw.fl cellC M)).toArray) (ho : Only [g] w w') :
    RowX w' d g n cap tail (splice l at' M) := by
  have hl := h.len
  refine h.turned ho ?_ (length_splice _ _ _ (by omega))
  rw [← fl_splice cellC_length l M tail at' (by omega)]
  exact hb
theorem Block.box {w : World} {bx : Nat} {f b g : Int} (h : Block w bx 36 #[.int .u32 f, .int .u32 b, .int .u16 g]) : w.cell? ⟨bx, 0, none⟩ = some (.int .u32 f) ∧ w.cell? ⟨bx, 1, none⟩ = some (.int .u32 b) ∧ w.cell? ⟨bx, 2, none⟩ = some (.int .u16 g) := ⟨h.cell 0 rfl, h.cell 1 rfl, h.cell 2 rfl⟩

section
variable {w : World} {d g n cap : Nat} {tail : List Value} {l : List Cel}

end
end Go.Proofs.Ytaoegfdaemmogaa.Rw
