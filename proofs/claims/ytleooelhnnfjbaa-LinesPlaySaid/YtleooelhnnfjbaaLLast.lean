/-
  lines: plain lists: the ids of the last lines that were pushed.
-/
import Derived.Test.YtleooelhnnfjbaaLMath
namespace Go.Proofs.Ytleooelhnnfjbaa.Lns
open Go

/-- The ids of the last ones of k lines. -/
def lastIds (most k : Nat) : List Int := ((List.range k).map fun i : Nat => (i : Int) + 1).drop (k - most)
theorem lastIds_len (most k : Nat) : (lastIds most k).length = min k most := by simp [lastIds]; omega
theorem lastIds_at (most k i : Nat) (h : i < min k most) : (lastIds most k)[i]? = some (((k - most + i : Nat) : Int) + 1) := by
  unfold lastIds
  rw [List.getElem?_drop, List.getElem?_map, List.getElem?_range (by omega)]
  rfl
theorem lastIds_next (most k : Nat) : pushL most (lastIds most k) ((k : Int) + 1) = lastIds most (k + 1) := by
  have hl := lastIds_len most k
  unfold pushL
  rw [hl]
  have e : lastIds most k ++ [(k : Int) + 1] = ((List.range (k + 1)).map fun i : Nat => (i : Int) + 1).drop (k - most) := by
    unfold lastIds
    rw [List.range_succ, List.map_append, List.drop_append_of_le_length (by simp)]
    rfl
  rw [e]
  split
  · rw [List.drop_drop]
    unfold lastIds
    congr 1
    omega
  · unfold lastIds
    congr 1
    omega
theorem lastIds_find (most k i : Nat) (h : i < min k most) : findF (lastIds most k) (((k - most + i : Nat) : Int) + 1) = i := by
  unfold findF
  refine findTo_at (by rw [lastIds_len]; exact h) (lastIds_at most k i h) fun j h1 h2 => ?_
  rw [lastIds_len] at h2
  rw [lastIds_at most k j h2]
  intro e
  have := Option.some.inj e
  omega
theorem lastIds_gone (most k : Nat) (x : Int) (h : x ≤ ((k - most : Nat) : Int) ∨ (k : Int) < x) : findF (lastIds most k) x = -1 := by
  unfold findF
  refine findTo_none fun i hi => ?_
  rw [lastIds_len] at hi
  rw [lastIds_at most k i hi]
  intro e
  have := Option.some.inj e
  omega
end Go.Proofs.Ytleooelhnnfjbaa.Lns
