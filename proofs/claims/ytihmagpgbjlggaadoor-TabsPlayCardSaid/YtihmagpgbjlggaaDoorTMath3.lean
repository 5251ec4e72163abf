/-
  tabs: so many steps are one step so many times. No program.
-/
import Derived.Test.YtihmagpgbjlggaaDoorTPrev
namespace Go.Proofs.YtihmagpgbjlggaaDoor.Tbs
open Go

theorem range_sorted (n : Nat) : (List.range n).Pairwise (· < ·) := List.pairwise_lt_range
theorem sts_sorted (f : Nat → Bool) (n : Nat) : (sts f n).Pairwise (· < ·) := (range_sorted n).filter _
theorem in_mem {f : Nat → Bool} {a b : Int} {c : Nat} : c ∈ sts (inF f a b) 512 ↔ c < 512 ∧ f c = true ∧ a ≤ (c : Int) ∧ (c : Int) < b := by
  rw [sts_mem]
  unfold inF
  simp
/-- Of a rising list what is behind, and what is ahead of, one of its numbers. -/
theorem sorted_gt : ∀ {L : List Nat} (_ : L.Pairwise (· < ·)) {k : Nat} (hk : k < L.length), L.filter (fun c => decide (L[k] < c)) = L.drop (k + 1)
  | [], _, _, hk => by simp at hk
  | x :: L, h, 0, _ => by
    obtain ⟨h1, h2⟩ := List.pairwise_cons.1 h
    rw [List.getElem_cons_zero, List.filter_cons_of_neg (by simp), List.drop_succ_cons, List.drop_zero]
    exact List.filter_eq_self.2 fun c hc => by simpa using h1 c hc
  | x :: L, h, k + 1, hk => by
    obtain ⟨h1, h2⟩ := List.pairwise_cons.1 h
    have hk' : k < L.length := by simpa using hk
    have hx := h1 L[k] (List.getElem_mem hk')
    rw [List.getElem_cons_succ, List.filter_cons_of_neg (by simp; omega), List.drop_succ_cons]
    exact sorted_gt h2 hk'
theorem sorted_lt : ∀ {L : List Nat} (_ : L.Pairwise (· < ·)) {k : Nat} (hk : k < L.length), L.filter (fun c => decide (c < L[k])) = L.take k
  | [], _, _, hk => by simp at hk
  | x :: L, h, 0, _ => by
    obtain ⟨h1, h2⟩ := List.pairwise_cons.1 h
    rw [List.getElem_cons_zero, List.filter_cons_of_neg (by simp), List.take_zero]
    exact List.filter_eq_nil_iff.2 fun c hc => by have := h1 c hc; simp; omega
  | x :: L, h, k + 1, hk => by
    obtain ⟨h1, h2⟩ := List.pairwise_cons.1 h
    have hk' : k < L.length := by simpa using hk
    have hx := h1 L[k] (List.getElem_mem hk')
    rw [List.getElem_cons_succ, List.filter_cons_of_pos (by simpa using hx), List.take_succ_cons]
    rw [sorted_lt h2 hk']
theorem in_more (f : Nat → Bool) (n h x : Nat) (hx : h ≤ x) : sts (inF f ((x : Int) + 1) n) 512 = (sts (inF f ((h : Int) + 1) n) 512).filter (fun c => decide (x < c)) := by
  unfold sts
  rw [List.filter_filter]
  apply List.filter_congr
  intro c _
  unfold inF
  have e1 : decide ((x : Int) + 1 ≤ (c : Int)) = decide (x < c) := by rw [decide_eq_decide]; omega
  rw [e1]
  by_cases hc : x < c
  · have e2 : decide ((h : Int) + 1 ≤ (c : Int)) = true := by simp; omega
    simp [hc, e2]
  · simp [hc]
theorem in_less (f : Nat → Bool) (h x : Nat) (hx : x ≤ h) : sts (inF f 0 x) 512 = (sts (inF f 0 h) 512).filter (fun c => decide (c < x)) := by
  unfold sts
  rw [List.filter_filter]
  apply List.filter_congr
  intro c _
  unfold inF
  have e1 : decide ((c : Int) < (x : Int)) = decide (c < x) := by rw [decide_eq_decide]; omega
  rw [e1]
  by_cases hc : c < x
  · have e2 : c < h := by omega
    simp [hc, e2]
  · simp [hc]

theorem next_zero (n : Nat) (f : Nat → Bool) (h : Nat) : nextAt n f h 0 = h := if_pos (by omega)
theorem prev_zero (f : Nat → Bool) (h : Nat) : prevAt f h 0 = h := if_pos (by omega)
theorem next_in {n : Nat} {f : Nat → Bool} {h k : Nat} (h1 : 1 ≤ k) (h2 : k ≤ (sts (inF f ((h : Int) + 1) n) 512).length) : nextAt n f h k = (sts (inF f ((h : Int) + 1) n) 512)[k - 1] := by
  unfold nextAt
  rw [if_neg (by omega), if_neg (by omega), Int.toNat_natCast, List.getD_eq_getElem?_getD, List.getElem?_eq_getElem (by omega)]
  rfl
theorem next_out {n : Nat} {f : Nat → Bool} {h k : Nat} (h1 : 1 ≤ k) (h2 : (sts (inF f ((h : Int) + 1) n) 512).length < k) : nextAt n f h k = n - 1 := by
  unfold nextAt
  rw [if_neg (by omega), if_pos (by omega)]
theorem prev_in {f : Nat → Bool} {h k : Nat} (h1 : 1 ≤ k) (h2 : k ≤ (sts (inF f 0 h) 512).length) : prevAt f h k = (sts (inF f 0 h) 512)[(sts (inF f 0 h) 512).length - k] := by
  unfold prevAt
  rw [if_neg (by omega), if_neg (by omega), Int.toNat_natCast, List.getD_eq_getElem?_getD, List.getElem?_eq_getElem (by omega)]
  rfl
theorem prev_out {f : Nat → Bool} {h k : Nat} (h1 : 1 ≤ k) (h2 : (sts (inF f 0 h) 512).length < k) : prevAt f h k = 0 := by
  unfold prevAt
  rw [if_neg (by omega), if_pos (by omega)]
theorem next_lt {n : Nat} (hn : 1 ≤ n) (f : Nat → Bool) {h : Nat} (hh : h < n) (k : Nat) : nextAt n f h k < n := by
  by_cases h0 : k = 0
  · subst h0; rw [show ((0 : Nat) : Int) = 0 from rfl, next_zero]; exact hh
  by_cases h2 : k ≤ (sts (inF f ((h : Int) + 1) n) 512).length
  · rw [next_in (by omega) h2]
    have := (in_mem.1 (List.getElem_mem (by omega : k - 1 < (sts (inF f ((h : Int) + 1) n) 512).length))).2.2.2
    omega
  · rw [next_out (by omega) (by omega)]; omega
theorem prev_le (f : Nat → Bool) (h k : Nat) : prevAt f h k ≤ h := by
  by_cases h0 : k = 0
  · subst h0; rw [show ((0 : Nat) : Int) = 0 from rfl, prev_zero]; omega
  by_cases h2 : k ≤ (sts (inF f 0 h) 512).length
  · rw [prev_in (by omega) h2]
    have := (in_mem.1 (List.getElem_mem (by omega : (sts (inF f 0 h) 512).length - k < (sts (inF f 0 h) 512).length))).2.2.2
    omega
  · rw [prev_out (by omega) (by omega)]; omega
theorem next_ge {n : Nat} (f : Nat → Bool) {h : Nat} (hh : h < n) : h ≤ nextAt n f h 1 := by
  by_cases h2 : 1 ≤ (sts (inF f ((h : Int) + 1) n) 512).length
  · rw [show (1 : Int) = ((1 : Nat) : Int) from rfl, next_in (k := 1) (by omega) h2]
    have := (in_mem.1 (List.getElem_mem (by omega : 1 - 1 < (sts (inF f ((h : Int) + 1) n) 512).length))).2.2.1
    omega
  · rw [show (1 : Int) = ((1 : Nat) : Int) from rfl, next_out (k := 1) (by omega) (by omega)]; omega

theorem idx_eq {L : List Nat} {i j : Nat} (hi : i < L.length) (hj : j < L.length) (e : i = j) : L[i] = L[j] := by subst e; rfl
/-- k + 1 steps are k steps and one. -/
theorem next_step {n : Nat} (hn : 1 ≤ n) (f : Nat → Bool) {h : Nat} (_hh : h < n) (k : Nat) : nextAt n f (nextAt n f h k) 1 = nextAt n f h ((k : Int) + 1) := by
  rw [show ((k : Int) + 1) = ((k + 1 : Nat) : Int) by omega, show (1 : Int) = ((1 : Nat) : Int) from rfl]
  by_cases h0 : k = 0
  · subst h0
    rw [show ((0 : Nat) : Int) = 0 from rfl, next_zero]
  by_cases h2 : k ≤ (sts (inF f ((h : Int) + 1) n) 512).length
  · rw [next_in (by omega) h2]
    have hk : k - 1 < (sts (inF f ((h : Int) + 1) n) 512).length := by omega
    have hge := (in_mem.1 (List.getElem_mem hk)).2.2.1
    have hmore := in_more f n h (sts (inF f ((h : Int) + 1) n) 512)[k - 1] (by omega)
    rw [sorted_gt (sts_sorted _ _) hk, show k - 1 + 1 = k by omega] at hmore
    by_cases h3 : k + 1 ≤ (sts (inF f ((h : Int) + 1) n) 512).length
    · rw [next_in (k := k + 1) (by omega) h3, next_in (k := 1) (by omega) (by rw [hmore, List.length_drop]; omega)]
      simp only [hmore, List.getElem_drop]
      exact idx_eq _ _ (by omega)
    · rw [next_out (k := k + 1) (by omega) (by omega), next_out (k := 1) (by omega) (by rw [hmore, List.length_drop]; omega)]
  · rw [next_out (h := h) (k := k) (by omega) (by omega), next_out (k := k + 1) (by omega) (by omega)]
    have hnil : sts (inF f (((n - 1 : Nat) : Int) + 1) n) 512 = [] := by
      apply List.eq_nil_iff_forall_not_mem.2
      intro c hc
      have := (in_mem.1 hc).2.2
      omega
    rw [next_out (k := 1) (by omega) (by rw [hnil]; simp)]
theorem prev_step (f : Nat → Bool) (h k : Nat) : prevAt f (prevAt f h k) 1 = prevAt f h ((k : Int) + 1) := by
  rw [show ((k : Int) + 1) = ((k + 1 : Nat) : Int) by omega, show (1 : Int) = ((1 : Nat) : Int) from rfl]
  by_cases h0 : k = 0
  · subst h0
    rw [show ((0 : Nat) : Int) = 0 from rfl, prev_zero]
  by_cases h2 : k ≤ (sts (inF f 0 h) 512).length
  · rw [prev_in (by omega) h2]
    have hk : (sts (inF f 0 h) 512).length - k < (sts (inF f 0 h) 512).length := by omega
    have hge := (in_mem.1 (List.getElem_mem hk)).2.2.2
    have hless := in_less f h (sts (inF f 0 h) 512)[(sts (inF f 0 h) 512).length - k] (by omega)
    rw [sorted_lt (sts_sorted _ _) hk] at hless
    by_cases h3 : k + 1 ≤ (sts (inF f 0 h) 512).length
    · rw [prev_in (k := k + 1) (by omega) h3, prev_in (k := 1) (by omega) (by rw [hless, List.length_take]; omega)]
      simp only [hless, List.getElem_take, List.length_take]
      exact idx_eq _ _ (by omega)
    · rw [prev_out (k := k + 1) (by omega) (by omega), prev_out (k := 1) (by omega) (by rw [hless, List.length_take]; omega)]
  · rw [prev_out (h := h) (k := k) (by omega) (by omega), prev_out (k := k + 1) (by omega) (by omega)]
    have hnil : sts (inF f 0 ((0 : Nat) : Int)) 512 = [] := by
      apply List.eq_nil_iff_forall_not_mem.2
      intro c hc
      have := (in_mem.1 hc).2.2
      omega
    rw [prev_out (k := 1) (by omega) (by rw [hnil]; simp)]

theorem sorted_head : ∀ {L : List Nat} (_ : L.Pairwise (· < ·)) (h : 0 < L.length) {s : Nat} (_ : s ∈ L), L[0] ≤ s
  | x :: L, hp, _, s, hs => by
    rcases List.mem_cons.1 hs with rfl | hs
    · exact Nat.le_refl _
    · exact Nat.le_of_lt ((List.pairwise_cons.1 hp).1 s hs)
theorem sorted_last : ∀ {L : List Nat} (_ : L.Pairwise (· < ·)) (h : 0 < L.length) {s : Nat} (_ : s ∈ L), s ≤ L[L.length - 1]
  | [x], _, _, s, hs => by simp at hs; simp [hs]
  | x :: y :: L, hp, _, s, hs => by
    obtain ⟨h1, h2⟩ := List.pairwise_cons.1 hp
    have hl : (x :: y :: L)[(x :: y :: L).length - 1] = (y :: L)[(y :: L).length - 1] := by simp
    rw [hl]
    rcases List.mem_cons.1 hs with rfl | hs
    · exact Nat.le_of_lt (h1 _ (List.getElem_mem _))
    · exact sorted_last h2 (by simp) hs
/-- No stop lies between. -/
theorem next_none {n : Nat} {f : Nat → Bool} {h s : Nat} (hs : s ∈ sts f 512) (h1 : h < s) : nextAt n f h 1 ≤ s ∨ n ≤ s := by
  by_cases hsn : n ≤ s
  · exact .inr hsn
  · have hm : s ∈ sts (inF f ((h : Int) + 1) n) 512 := in_mem.2 ⟨(sts_mem.1 hs).1, (sts_mem.1 hs).2, by omega, by omega⟩
    have h0 : 0 < (sts (inF f ((h : Int) + 1) n) 512).length := List.length_pos_of_mem hm
    left
    rw [show (1 : Int) = ((1 : Nat) : Int) from rfl, next_in (k := 1) (by omega) h0]
    exact sorted_head (sts_sorted _ _) h0 hm
theorem next_pass {n : Nat} (hn : 1 ≤ n) {f : Nat → Bool} {h s : Nat} (hh : h < n) (hs : s ∈ sts f 512) (h1 : h < s) : ¬ s < nextAt n f h 1 := by
  have h2 := next_lt hn f hh 1
  simp only [show ((1 : Nat) : Int) = 1 from rfl] at h2
  rcases next_none (n := n) hs h1 with h3 | h3 <;> omega
theorem prev_pass {f : Nat → Bool} {h s : Nat} (hs : s ∈ sts f 512) (h1 : s < h) : ¬ prevAt f h 1 < s := by
  have hm : s ∈ sts (inF f 0 h) 512 := in_mem.2 ⟨(sts_mem.1 hs).1, (sts_mem.1 hs).2, by omega, by omega⟩
  have h0 : 0 < (sts (inF f 0 h) 512).length := List.length_pos_of_mem hm
  rw [show (1 : Int) = ((1 : Nat) : Int) from rfl, prev_in (k := 1) (by omega) h0]
  have := sorted_last (sts_sorted _ _) h0 hm
  omega
theorem held_id {n h : Nat} (hh : h < n) : heldF n h = h := by
  unfold heldF
  rw [if_neg (by omega), if_neg (by omega), Int.toNat_natCast]

end Go.Proofs.YtihmagpgbjlggaaDoor.Tbs
