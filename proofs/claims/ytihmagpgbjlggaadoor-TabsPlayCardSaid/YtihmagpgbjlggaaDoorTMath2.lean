/-
  tabs: stops as a rising list; one after the other out of the words. No program.
-/
import Derived.Test.YtihmagpgbjlggaaDoorTBits
namespace Go.Proofs.YtihmagpgbjlggaaDoor.Tbs
open Go

def sts (f : Nat → Bool) (n : Nat) : List Nat := (List.range n).filter f
theorem sts_zero (f : Nat → Bool) : sts f 0 = [] := rfl
theorem sts_succ (f : Nat → Bool) (n : Nat) : sts f (n + 1) = sts f n ++ if f n = true then [n] else [] := by
  unfold sts
  rw [List.range_succ, List.filter_append]
  congr 1
  by_cases h : f n = true <;> simp [h]
theorem sts_yes {f : Nat → Bool} {n : Nat} (h : f n = true) : sts f (n + 1) = sts f n ++ [n] := by rw [sts_succ, if_pos h]
theorem sts_no {f : Nat → Bool} {n : Nat} (h : f n = false) : sts f (n + 1) = sts f n := by rw [sts_succ, if_neg (by simp [h]), List.append_nil]
theorem sts_gap {f : Nat → Bool} {p : Nat} : ∀ q, p ≤ q → (∀ c, p ≤ c → c < q → f c = false) → sts f q = sts f p
  | 0, h, _ => by
    obtain rfl : p = 0 := by omega
    rfl
  | q + 1, h, hf => by
    by_cases e : p = q + 1
    · rw [e]
    · rw [sts_no (hf q (by omega) (by omega)), sts_gap q (by omega) fun c h1 h2 => hf c h1 (by omega)]
theorem sts_more (f : Nat → Bool) {p : Nat} : ∀ q, p ≤ q → ∃ t, sts f q = sts f p ++ t
  | 0, h => by
    obtain rfl : p = 0 := by omega
    exact ⟨[], by simp⟩
  | q + 1, h => by
    by_cases e : p = q + 1
    · subst e; exact ⟨[], by simp⟩
    · obtain ⟨t, ht⟩ := sts_more f (p := p) q (by omega)
      exact ⟨t ++ if f q = true then [q] else [], by rw [sts_succ, ht, List.append_assoc]⟩
theorem sts_le (f : Nat → Bool) {p q : Nat} (h : p ≤ q) : (sts f p).length ≤ (sts f q).length := by
  obtain ⟨t, ht⟩ := sts_more f q h
  rw [ht, List.length_append]
  omega
theorem sts_bound (f : Nat → Bool) (n : Nat) : (sts f n).length ≤ n := by
  have := List.length_filter_le f (List.range n)
  rwa [List.length_range] at this
theorem sts_mem {f : Nat → Bool} {n c : Nat} : c ∈ sts f n ↔ c < n ∧ f c = true := by unfold sts; rw [List.mem_filter, List.mem_range]
theorem sts_congr {f g : Nat → Bool} {n : Nat} (h : ∀ c, c < n → f c = g c) : sts f n = sts g n := by
  unfold sts
  exact List.filter_congr fun c hc => h c (List.mem_range.1 hc)

/-! How many stops a word has. -/
theorem ds_bits : ∀ (n x : Nat), ds 2 n x = ((List.range n).filter x.testBit).length
  | 0, x => rfl
  | n + 1, x => by
    rw [List.range_succ_eq_map, List.filter_cons, List.filter_map, ]
    have e : (x.testBit ∘ Nat.succ) = (x / 2).testBit := by
      funext j
      exact Nat.testBit_succ x j
    rw [e]
    show x % 2 + ds 2 n (x / 2) = _
    rw [ds_bits n (x / 2), Nat.testBit_zero]
    by_cases h : x % 2 = 1
    · simp only [h, decide_true, if_true, List.length_cons, List.length_map]
      omega
    · simp only [h, decide_false]
      simp
      omega
theorem sts_add (f : Nat → Bool) (a : Nat) : ∀ n, (sts f (a + n)).length = (sts f a).length + ((List.range n).filter fun j => f (a + j)).length
  | 0 => by simp
  | n + 1 => by
    rw [← Nat.add_assoc, sts_succ, List.length_append, sts_add f a n, List.range_succ, List.filter_append, List.length_append]
    by_cases h : f (a + n) = true <;> simp [h] <;> omega
theorem pop_sts (f : Nat → Bool) (i : Nat) : (sts f (64 * i)).length + ds 2 64 (wd f i) = (sts f (64 * (i + 1))).length := by
  rw [Nat.mul_add, Nat.mul_one, sts_add, ds_bits]
  congr 2
  exact List.filter_congr fun j hj => by
    have := List.mem_range.1 hj
    rw [wd_bit]
    simp [this]

/-! The stops from p on. -/
def rest (f : Nat → Bool) (p : Nat) : Nat → Bool := fun c => f c && decide (p ≤ c)
theorem rest_zero (f : Nat → Bool) : rest f 0 = f := by funext c; simp [rest]
theorem rest_gap {f : Nat → Bool} {p q : Nat} (h : p ≤ q) (hf : ∀ c, p ≤ c → c < q → f c = false) : rest f p = rest f q := by
  funext c
  unfold rest
  by_cases h1 : p ≤ c
  · by_cases h2 : c < q
    · simp [hf c h1 h2]
    · have : q ≤ c := by omega
      simp [h1, this]
  · have : ¬ q ≤ c := by omega
    simp [h1, this]
theorem rest_word {f : Nat → Bool} {p i : Nat} (h : p ≤ 64 * i) : wd (rest f p) i = wd f i := wd_congr fun j hj => by
  unfold rest
  have : p ≤ 64 * i + j := by omega
  simp [this]
theorem sts_same {f : Nat → Bool} {p q : Nat} (h : (sts f q).length = (sts f p).length) : ∀ c, p ≤ c → c < q → f c = false := by
  intro c h1 h2
  by_cases hc : f c = true
  · have a := sts_le f h1
    have b := sts_le f (show c + 1 ≤ q from h2)
    rw [sts_yes hc, List.length_append, List.length_singleton] at b
    omega
  · simpa using hc
/-- The next stop of a word, where there is one. -/
theorem next_stop {f : Nat → Bool} {p i : Nat} (h0 : 64 * i ≤ p) (h1 : p ≤ 64 * (i + 1)) (hlt : (sts f p).length < (sts f (64 * (i + 1))).length) :
    wd (rest f p) i ≠ 0 ∧ ∃ c, c = 64 * i + Lib.ctz 64 (wd (rest f p) i) ∧ p ≤ c ∧ c < 64 * (i + 1) ∧ c / 64 = i ∧ sts f (c + 1) = sts f p ++ [c] ∧ putF (rest f p) c false = rest f (c + 1) := by
  have hne : wd (rest f p) i ≠ 0 := by
    intro he
    have : sts f (64 * (i + 1)) = sts f p := sts_gap _ h1 fun c hc1 hc2 => by
      have hb := wd_bit (rest f p) i (c - 64 * i)
      rw [he, Nat.zero_testBit, show 64 * i + (c - 64 * i) = c by omega] at hb
      have h64 : c - 64 * i < 64 := by omega
      simp [h64, rest, hc1] at hb
      exact hb
    rw [this] at hlt
    omega
  obtain ⟨k1, k2, k3⟩ := ctz_bit (wd_lt (rest f p) i) hne
  generalize Lib.ctz 64 (wd (rest f p) i) = k at k1 k2 k3
  rw [wd_bit] at k2
  simp only [k1, decide_true, Bool.true_and] at k2
  have hp : p ≤ 64 * i + k ∧ f (64 * i + k) = true := by
    unfold rest at k2
    simp at k2
    exact ⟨k2.2, k2.1⟩
  have hgap : ∀ c, p ≤ c → c < 64 * i + k → f c = false := fun c hc1 hc2 => by
    have hb := k3 (c - 64 * i) (by omega)
    rw [wd_bit, show 64 * i + (c - 64 * i) = c by omega] at hb
    have h64 : c - 64 * i < 64 := by omega
    simp [h64, rest, hc1] at hb
    exact hb
  refine ⟨hne, _, rfl, hp.1, by omega, by omega, ?_, ?_⟩
  · rw [sts_yes hp.2, sts_gap _ hp.1 hgap]
  · rw [rest_gap hp.1 hgap]
    funext c
    unfold putF rest
    by_cases e : c = 64 * i + k
    · rw [if_pos e, e]
      have : ¬ 64 * i + k + 1 ≤ 64 * i + k := by omega
      simp
    · rw [if_neg e]
      have : decide (64 * i + k ≤ c) = decide (64 * i + k + 1 ≤ c) := by rw [decide_eq_decide]; omega
      rw [this]
theorem sts_get {f : Nat → Bool} {p c n : Nat} (h : sts f (c + 1) = sts f p ++ [c]) (hc : c + 1 ≤ n) : (sts f n)[(sts f p).length]? = some c := by
  obtain ⟨t, ht⟩ := sts_more f n hc
  rw [ht, h, List.append_assoc, List.getElem?_append_right (Nat.le_refl _), Nat.sub_self]
  rfl

end Go.Proofs.YtihmagpgbjlggaaDoor.Tbs
