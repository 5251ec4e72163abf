/-
  typed, in plain words: keys that were all typed at one tick.
-/
import Derived.Test.YtkaeicaidomghaaYMath
namespace Go.Proofs.Ytkaeicaidomghaa.Tpd
open Go Go.RowKit Go.Proofs.Ytkaeicaidomghaa.Com

def keysAt (l : List Int) (t : Int) : List Key := l.map fun r => (r, t)
def lastN (l : List Int) : List Int := l.drop (l.length - 64)
theorem keysAt_len (l : List Int) (t : Int) : (keysAt l t).length = l.length := by simp [keysAt]
theorem push_few {l : List Int} (h : l.length < 64) (t r : Int) : pushK (keysAt l t) (r, t) = keysAt (l ++ [r]) t := by
  unfold pushK
  rw [if_neg (by rw [keysAt_len]; omega)]
  simp [keysAt]
theorem push_last (l : List Int) (t r : Int) : pushK (keysAt (lastN l) t) (r, t) = keysAt (lastN (l ++ [r])) t := by
  have e : ∀ m : List Int, keysAt m t ++ [(r, t)] = keysAt (m ++ [r]) t := fun m => by simp [keysAt]
  unfold pushK lastN
  by_cases h : 64 ≤ l.length
  · rw [if_pos (by rw [keysAt_len, List.length_drop]; omega)]
    unfold keysAt
    rw [← List.map_drop, List.drop_drop, show l.length - 64 + 1 = (l ++ [r]).length - 64 by rw [List.length_append, List.length_singleton]; omega, List.drop_append_of_le_length (by rw [List.length_append, List.length_singleton]; omega)]
    exact e _
  · rw [if_neg (by rw [keysAt_len, List.length_drop]; omega), show l.length - 64 = 0 by omega, show (l ++ [r]).length - 64 = 0 by rw [List.length_append, List.length_singleton]; omega]
    exact e _
theorem wait_all {life now t : Int} (h : now < t + life) (l : List Int) : waitL life now (keysAt l t) = l := by
  induction l with
  | nil => rfl
  | cons r l ih =>
    have : waits life now (r, t) = true := by simp [waits]; omega
    simp only [waitL, keysAt, List.map_cons, List.filter_cons, this, if_true] at ih ⊢
    rw [ih]
theorem wait_none {life now t : Int} (h : t + life ≤ now) (l : List Int) : waitL life now (keysAt l t) = [] := by
  induction l with
  | nil => rfl
  | cons r l ih =>
    have : waits life now (r, t) = false := by simp [waits]; omega
    simp only [waitL, keysAt, List.map_cons, List.filter_cons, this] at ih ⊢
    simpa using ih
theorem gone_zero {life now t : Int} (h : now < t + life) (l : List Int) : goneN life now (keysAt l t) = 0 := by
  cases l with
  | nil => rfl
  | cons r l =>
    have : waits life now (r, t) = true := by simp [waits]; omega
    simp [goneN, keysAt, this]
theorem gone_len {life now t : Int} (h : t + life ≤ now) (l : List Int) : goneN life now (keysAt l t) = l.length := by
  induction l with
  | nil => rfl
  | cons r l ih =>
    have : waits life now (r, t) = false := by simp [waits]; omega
    simp only [goneN, keysAt, List.map_cons] at ih ⊢
    rw [List.takeWhile_cons_of_pos (by simp [this]), List.length_cons, ih, List.length_cons]
theorem takeB_cons {life now t : Int} (h : now < t + life) (r x : Int) (l : List Int) : takeB life now (keysAt (r :: l) t) x = (r == x) := by
  unfold takeB
  rw [gone_zero h]
  rfl
theorem takeK_yes {life now t : Int} (h : now < t + life) (r : Int) (l : List Int) : takeK life now (keysAt (r :: l) t) r = keysAt l t := by
  unfold takeK
  rw [gone_zero h]
  simp [isFirstB, keysAt]
theorem takeK_no {life now t : Int} (h : now < t + life) {r x : Int} (hx : x ≠ r) (l : List Int) : takeK life now (keysAt (r :: l) t) x = keysAt (r :: l) t := by
  unfold takeK
  rw [gone_zero h]
  simp [isFirstB, keysAt, Ne.symm hx]
theorem takeB_nil (life now x : Int) : takeB life now [] x = false := rfl
theorem takeK_nil (life now x : Int) : takeK life now [] x = [] := rfl
theorem takeB_gone {life now t : Int} (h : t + life ≤ now) (l : List Int) (x : Int) : takeB life now (keysAt l t) x = false := by
  unfold takeB
  rw [gone_len h, List.drop_eq_nil_of_le (by rw [keysAt_len]; omega)]
  rfl
theorem take_snoc' {l : List Int} {k : Nat} {x : Int} (h : l[k]? = some x) : l.take (k + 1) = l.take k ++ [x] := by
  rw [List.take_add_one, h]
  rfl
theorem drop_at {l : List Int} {k : Nat} {x : Int} (h : l[k]? = some x) : l.drop k = x :: l.drop (k + 1) := by
  obtain ⟨hk, rfl⟩ := List.getElem?_eq_some_iff.1 h
  exact List.drop_eq_getElem_cons hk
end Go.Proofs.Ytkaeicaidomghaa.Tpd
