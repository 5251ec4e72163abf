/-
  lines: plain lists: a ring as a list, what a push leaves, the last place of a number.
-/
import Derived.Laws.CopyOwn
namespace Go.Proofs.Ytaoegfdaemmogaa.Lns
open Go
section
variable {α β : Type}

/-- The ring's places, from the oldest one on. -/
def lg (P : List α) (o : Nat) : List α := P.drop o ++ P.take o
theorem lg_0 (P : List α) : lg P 0 = P := by simp [lg]
theorem lg_len (P : List α) (o : Nat) : (lg P o).length = P.length := by simp [lg]; omega
theorem lg_at (P : List α) {o i : Nat} (ho : o < P.length) (hi : i < P.length) : (lg P o)[i]? = P[(o + i) % P.length]? := by
  unfold lg
  by_cases h : o + i < P.length
  · rw [List.getElem?_append_left (by simp; omega), List.getElem?_drop, Nat.mod_eq_of_lt h]
  · rw [List.getElem?_append_right (by simp; omega), List.length_drop, List.getElem?_take, if_pos (by omega), Nat.mod_eq_sub_mod (by omega), Nat.mod_eq_of_lt (by omega)]
    congr 1
    omega
theorem lg_put (P : List α) {o : Nat} (ho : o < P.length) (x : α) : lg (P.set o x) ((o + 1) % P.length) = (lg P o ++ [x]).drop 1 := by
  unfold lg
  have hd : P.drop o = P[o] :: P.drop (o + 1) := List.drop_eq_getElem_cons ho
  have hset : P.set o x = P.take o ++ x :: P.drop (o + 1) := by rw [List.set_eq_take_append_cons_drop, if_pos ho]
  have hl : (P.take o).length = o := by simp; omega
  by_cases h : o + 1 < P.length
  · rw [Nat.mod_eq_of_lt h, hset, hd]
    simp only [List.cons_append, List.drop_succ_cons, List.drop_zero]
    rw [List.drop_append, List.drop_eq_nil_of_le (by omega), hl, show o + 1 - o = 1 by omega, List.take_append, List.take_of_length_le (by omega), hl, show o + 1 - o = 1 by omega]
    simp
  · have h1 : P.length = o + 1 := by omega
    rw [show (o + 1) % P.length = 0 from by rw [h1]; exact Nat.mod_self _, hset, hd, List.drop_eq_nil_of_le (show P.length ≤ o + 1 by omega)]
    simp

/-- What a push leaves. -/
def pushL (most : Nat) (L : List α) (x : α) : List α := if most < L.length + 1 then (L ++ [x]).drop 1 else L ++ [x]
theorem pushL_le {most : Nat} {L : List α} (h : L.length ≤ most) (x : α) : (pushL most L x).length ≤ most := by
  unfold pushL
  split
  · simp; omega
  · simp; omega
theorem pushL_mem {most : Nat} {L : List α} {x e : α} (h : e ∈ pushL most L x) : e ∈ L ∨ e = x := by
  unfold pushL at h
  split at h
  · simpa using List.mem_of_mem_drop h
  · simpa using h
theorem pushL_map (f : α → β) (most : Nat) (L : List α) (x : α) : (pushL most L x).map f = pushL most (L.map f) (f x) := by
  unfold pushL
  rw [List.length_map]
  split <;> simp

/-- The last place below k that has the number, or -1. -/
def findTo [DecidableEq α] (L : List α) (x : α) : Nat → Int
  | 0 => -1
  | k + 1 => if L[k]? = some x then k else findTo L x k
theorem findTo_succ [DecidableEq α] (L : List α) (x : α) (k : Nat) : findTo L x (k + 1) = if L[k]? = some x then (k : Int) else findTo L x k := rfl
def findF [DecidableEq α] (L : List α) (x : α) : Int := findTo L x L.length
theorem findTo_range [DecidableEq α] (L : List α) (x : α) (k : Nat) : -1 ≤ findTo L x k ∧ findTo L x k < k := by
  induction k with
  | zero => simp [findTo]
  | succ k ih =>
    unfold findTo
    split <;> omega
theorem findTo_none [DecidableEq α] {L : List α} {x : α} {k : Nat} (h : ∀ i, i < k → L[i]? ≠ some x) : findTo L x k = -1 := by
  induction k with
  | zero => rfl
  | succ k ih =>
    unfold findTo
    rw [if_neg (h k (by omega))]
    exact ih fun i hi => h i (by omega)
theorem findTo_at [DecidableEq α] {L : List α} {x : α} {k j : Nat} (hj : j < k) (h : L[j]? = some x) (hn : ∀ i, j < i → i < k → L[i]? ≠ some x) : findTo L x k = j := by
  induction k with
  | zero => omega
  | succ k ih =>
    unfold findTo
    by_cases e : j = k
    · subst e; rw [if_pos h]
    · rw [if_neg (hn k (by omega) (by omega))]
      exact ih (by omega) fun i h1 h2 => hn i h1 (by omega)
end
end Go.Proofs.Ytaoegfdaemmogaa.Lns
