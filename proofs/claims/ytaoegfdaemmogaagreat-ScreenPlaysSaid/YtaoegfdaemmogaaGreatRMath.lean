/-
  row: plain lists of cells: halves that are left alone, what becomes of them, a part that is laid over. row: the reference's cells, each of which knows which it was: halves whose other half is not where it must be.
-/
import Derived.Laws.CopyOwn
namespace Go.Proofs.YtaoegfdaemmogaaGreat.Rw
open Go

structure At where
  f : Int
  b : Int
  g : Int
structure Cel where
  r : Int
  m : List Int
  wide : Int
  a : At

/-- Which half the cell at i is: 0 whole or none, 1 left, 2 right. -/
def W (l : List Cel) (i : Nat) : Int := match l[i]? with
  | some c => c.wide
  | none => 0
theorem W_at {l : List Cel} {i : Nat} (h : i < l.length) : W l i = l[i].wide := by unfold W; rw [List.getElem?_eq_getElem h]
theorem W_out {l : List Cel} {i : Nat} (h : l.length ≤ i) : W l i = 0 := by unfold W; rw [List.getElem?_eq_none h]
theorem W_of {l l' : List Cel} {i j : Nat} (h : l[i]? = l'[j]?) : W l i = W l' j := by unfold W; rw [h]

def Alone (l : List Cel) (i : Nat) : Prop := (W l i = 1 ∧ W l (i + 1) ≠ 2) ∨ (W l i = 2 ∧ (i = 0 ∨ W l (i - 1) ≠ 1))
instance (l : List Cel) (i : Nat) : Decidable (Alone l i) := by unfold Alone; infer_instance
theorem Alone.lt {l : List Cel} {i : Nat} (h : Alone l i) : i < l.length := by
  rcases Nat.lt_or_ge i l.length with h1 | h1
  · exact h1
  · have := W_out h1
    unfold Alone at h
    omega

def blank1 (c : Cel) : Cel := ⟨32, [], 0, c.a⟩
def clr (a : At) : Cel := ⟨32, [], 0, ⟨0, a.b, 0⟩⟩
def zeroAt : At := ⟨0, 0, 0⟩

/-- Those between a and b that are alone are blank. -/
def mendTo (l : List Cel) (a b : Nat) : List Cel := l.mapIdx fun i c => if a ≤ i ∧ i < b ∧ Alone l i then blank1 c else c
def mendAll (l : List Cel) : List Cel := l.mapIdx fun i c => if Alone l i then blank1 c else c
theorem mendTo_length (l : List Cel) (a b : Nat) : (mendTo l a b).length = l.length := by simp [mendTo]
theorem mendAll_length (l : List Cel) : (mendAll l).length = l.length := by simp [mendAll]
theorem mendTo_at (l : List Cel) (a b i : Nat) : (mendTo l a b)[i]? = l[i]?.map fun c => if a ≤ i ∧ i < b ∧ Alone l i then blank1 c else c := by simp [mendTo]
theorem mendAll_at (l : List Cel) (i : Nat) : (mendAll l)[i]? = l[i]?.map fun c => if Alone l i then blank1 c else c := by simp [mendAll]
theorem W_mendTo (l : List Cel) (a b i : Nat) : W (mendTo l a b) i = if a ≤ i ∧ i < b ∧ Alone l i then 0 else W l i := by
  unfold W
  rw [mendTo_at]
  cases l[i]? with
  | none => simp
  | some c => simp only [Option.map_some]; split <;> rfl
theorem W_mendAll (l : List Cel) (i : Nat) : W (mendAll l) i = if Alone l i then 0 else W l i := by
  unfold W
  rw [mendAll_at]
  cases l[i]? with
  | none => simp
  | some c => simp only [Option.map_some]; split <;> rfl
theorem mend_none (l : List Cel) (a : Nat) : mendTo l a a = l := by
  apply List.ext_getElem?
  intro i
  rw [mendTo_at]
  cases l[i]? with
  | none => rfl
  | some c => simp only [Option.map_some]; rw [if_neg (by omega)]
theorem alone_mendTo (l : List Cel) (a b i : Nat) : Alone (mendTo l a b) i ↔ Alone l i ∧ ¬ (a ≤ i ∧ i < b) := by
  have h0 := W_mendTo l a b i
  have h1 := W_mendTo l a b (i + 1)
  have h2 := W_mendTo l a b (i - 1)
  have e : i ≠ 0 → i - 1 + 1 = i := by omega
  by_cases ci : Alone l i
  · by_cases r : a ≤ i ∧ i < b
    · rw [if_pos ⟨r.1, r.2, ci⟩] at h0
      simp [r, Alone, h0]
    · rw [if_neg (fun h => r ⟨h.1, h.2.1⟩)] at h0
      simp only [ci, r, not_false_eq_true, and_self, iff_true]
      unfold Alone at ci ⊢
      rw [h0]
      rcases ci with ⟨c1, c2⟩ | ⟨c1, c2⟩
      · left
        refine ⟨c1, ?_⟩
        rw [h1]
        split
        · decide
        · exact c2
      · right
        refine ⟨c1, ?_⟩
        rcases c2 with c2 | c2
        · exact .inl c2
        · right
          rw [h2]
          split
          · decide
          · exact c2
  · rw [if_neg (fun h => ci h.2.2)] at h0
    simp only [ci, false_and, iff_false]
    intro hA
    unfold Alone at hA
    rw [h0] at hA
    rcases hA with ⟨c1, c2⟩ | ⟨c1, c2⟩
    · have hw : W l (i + 1) = 2 := by
        apply Decidable.byContradiction
        intro hn
        exact ci (.inl ⟨c1, hn⟩)
      have : ¬ Alone l (i + 1) := by
        unfold Alone
        simp [hw, c1]
      rw [h1, if_neg (fun h => this h.2.2)] at c2
      exact c2 hw
    · have h3 : i ≠ 0 ∧ W l (i - 1) = 1 := by
        refine ⟨fun hn => ci (.inr ⟨c1, .inl hn⟩), ?_⟩
        apply Decidable.byContradiction
        intro hn
        exact ci (.inr ⟨c1, .inr hn⟩)
      have : ¬ Alone l (i - 1) := by
        unfold Alone
        rw [e h3.1]
        simp [h3.2, c1]
      rw [h2, if_neg (fun h => this h.2.2)] at c2
      rcases c2 with c2 | c2
      · exact h3.1 c2
      · exact c2 h3.2

/-- One more. -/
theorem mend_snoc (l : List Cel) (a b : Nat) (hab : a ≤ b) : mendTo l a (b + 1) = if h : b < l.length ∧ Alone l b then (mendTo l a b).set b (blank1 (l[b]'h.1)) else mendTo l a b := by
  apply List.ext_getElem?
  intro i
  rw [mendTo_at]
  by_cases h : b < l.length ∧ Alone l b
  · rw [dif_pos h, List.getElem?_set, mendTo_length, mendTo_at]
    by_cases e : b = i
    · subst e
      rw [if_pos rfl, if_pos h.1, List.getElem?_eq_getElem h.1]
      simp only [Option.map_some]
      rw [if_pos ⟨hab, by omega, h.2⟩]
    · rw [if_neg e]
      cases l[i]? with
      | none => rfl
      | some c =>
        simp only [Option.map_some]
        congr 1
        by_cases c1 : a ≤ i ∧ i < b ∧ Alone l i
        · rw [if_pos c1, if_pos ⟨c1.1, by omega, c1.2.2⟩]
        · rw [if_neg c1, if_neg (fun hh => c1 ⟨hh.1, by omega, hh.2.2⟩)]
  · rw [dif_neg h, mendTo_at]
    rcases hq : l[i]? with _ | c
    · rfl
    · have hi := (List.getElem?_eq_some_iff.1 hq).1
      simp only [Option.map_some]
      congr 1
      by_cases c1 : a ≤ i ∧ i < b ∧ Alone l i
      · rw [if_pos c1, if_pos ⟨c1.1, by omega, c1.2.2⟩]
      · rw [if_neg c1, if_neg (fun hh => c1 ⟨hh.1, by
          rcases Nat.lt_or_ge i b with h1 | h1
          · exact h1
          · obtain rfl : i = b := by omega
            exact absurd ⟨hi, hh.2.2⟩ h, hh.2.2⟩)]
theorem mendTo_all {l : List Cel} {a b : Nat} (h : ∀ i, Alone l i → a ≤ i ∧ i < b) : mendTo l a b = mendAll l := by
  apply List.ext_getElem?
  intro i
  rw [mendTo_at, mendAll_at]
  cases l[i]? with
  | none => rfl
  | some c =>
    simp only [Option.map_some]
    congr 1
    by_cases c1 : Alone l i
    · rw [if_pos c1, if_pos ⟨(h i c1).1, (h i c1).2, c1⟩]
    · rw [if_neg c1, if_neg (fun hh => c1 hh.2.2)]
theorem mend_mend {l : List Cel} {a b c d : Nat} (h : ∀ i, Alone l i → (a ≤ i ∧ i < b) ∨ (c ≤ i ∧ i < d)) : mendTo (mendTo l a b) c d = mendAll l := by
  apply List.ext_getElem?
  intro i
  rw [mendTo_at, mendAll_at, mendTo_at]
  cases l[i]? with
  | none => rfl
  | some x =>
    simp only [Option.map_some]
    congr 1
    have ha := alone_mendTo l a b i
    by_cases c1 : Alone l i
    · rw [if_pos c1]
      by_cases r : a ≤ i ∧ i < b
      · rw [if_neg (fun hh : c ≤ i ∧ i < d ∧ Alone (mendTo l a b) i => (ha.1 hh.2.2).2 r), if_pos ⟨r.1, r.2, c1⟩]
      · have := h i c1
        rw [if_pos ⟨by omega, by omega, ha.2 ⟨c1, r⟩⟩, if_neg (fun hh => r ⟨hh.1, hh.2.1⟩)]
    · rw [if_neg c1, if_neg (fun hh : c ≤ i ∧ i < d ∧ Alone (mendTo l a b) i => c1 (ha.1 hh.2.2).1), if_neg (fun hh => c1 hh.2.2)]

/-- Halves stand side by side. -/
def Whole (l : List Cel) : Prop := ∀ i, ¬ Alone l i
theorem whole_iff (l : List Cel) : Whole l ↔ W l 0 ≠ 2 ∧ ∀ i, (W l i = 1 ↔ W l (i + 1) = 2) := by
  constructor
  · intro h
    refine ⟨fun h0 => h 0 (.inr ⟨h0, .inl rfl⟩), fun i => ⟨fun h1 => ?_, fun h2 => ?_⟩⟩
    · apply Decidable.byContradiction
      intro hn
      exact h i (.inl ⟨h1, hn⟩)
    · apply Decidable.byContradiction
      intro hn
      exact h (i + 1) (.inr ⟨h2, .inr (by simpa using hn)⟩)
  · intro ⟨h0, h⟩ i hA
    rcases hA with ⟨c1, c2⟩ | ⟨c1, c2⟩
    · exact c2 ((h i).1 c1)
    · rcases i with _ | i
      · exact h0 c1
      · have := (h i).2 c1
        rcases c2 with c2 | c2
        · omega
        · exact c2 (by simpa using this)
theorem whole_mendAll (l : List Cel) : Whole (mendAll l) := by
  intro i
  have : mendAll l = mendTo l 0 l.length := (mendTo_all (fun i h => ⟨Nat.zero_le _, h.lt⟩)).symm
  rw [this, alone_mendTo]
  intro ⟨h, hn⟩
  exact hn ⟨Nat.zero_le _, h.lt⟩
theorem mendAll_whole {l : List Cel} (h : Whole l) : mendAll l = l := by
  rw [← mendTo_all (a := 0) (b := 0) (fun i hi => absurd hi (h i)), mend_none]
theorem mendTo_whole {l : List Cel} (h : Whole l) (a b : Nat) : mendTo l a b = l := by
  rw [mendTo_all (fun i hi => absurd hi (h i)), mendAll_whole h]

theorem W_splice {l cs : List Cel} {col : Nat} (h : col + cs.length ≤ l.length) (i : Nat) :
    W (splice l col cs) i = if i < col then W l i else if i < col + cs.length then W cs (i - col) else W l i := by
  unfold splice
  by_cases h1 : i < col
  · rw [if_pos h1]
    apply W_of
    rw [List.getElem?_append_left (by simp; omega), List.getElem?_take, if_pos h1]
  · rw [if_neg h1]
    by_cases h2 : i < col + cs.length
    · rw [if_pos h2]
      apply W_of
      rw [List.getElem?_append_right (by simp; omega), List.length_take, Nat.min_eq_left (by omega), List.getElem?_append_left (by omega)]
    · rw [if_neg h2]
      apply W_of
      rw [List.getElem?_append_right (by simp; omega), List.length_take, Nat.min_eq_left (by omega), List.getElem?_append_right (by omega), List.getElem?_drop]
      congr 1
      omega
theorem alone_splice {l cs : List Cel} {col : Nat} (h : col + cs.length ≤ l.length) (hl : Whole l) : ∀ i, Alone (splice l col cs) i → col - 1 ≤ i ∧ i < min (col + cs.length + 1) l.length := by
  intro i hA
  have hlt := hA.lt
  rw [length_splice l col cs h] at hlt
  rw [whole_iff] at hl
  have a0 := W_splice h i
  have a1 := W_splice h (i + 1)
  have a2 := W_splice h (i - 1)
  refine ⟨?_, ?_⟩
  · apply Decidable.byContradiction
    intro hn
    rw [if_pos (by omega)] at a0 a1 a2
    have := hl.2 i
    rcases hA with ⟨c1, c2⟩ | ⟨c1, c2⟩
    · exact c2 (by rw [a1]; exact this.1 (a0 ▸ c1))
    · rcases i with _ | i
      · exact hl.1 (a0 ▸ c1)
      · have h3 := (hl.2 i).2 (a0 ▸ c1)
        rcases c2 with c2 | c2
        · omega
        · exact c2 (by rw [a2]; simpa using h3)
  · apply Decidable.byContradiction
    intro hn
    rw [if_neg (by omega), if_neg (by omega)] at a0 a1 a2
    have := hl.2 i
    rcases hA with ⟨c1, c2⟩ | ⟨c1, c2⟩
    · exact c2 (by rw [a1]; exact this.1 (a0 ▸ c1))
    · rcases i with _ | i
      · exact hl.1 (a0 ▸ c1)
      · have h3 := (hl.2 i).2 (a0 ▸ c1)
        rcases c2 with c2 | c2
        · omega
        · exact c2 (by rw [a2]; simpa using h3)

theorem W_whole0 {l : List Cel} (h : ∀ c ∈ l, c.wide = 0) (i : Nat) : W l i = 0 := by
  rcases Nat.lt_or_ge i l.length with h1 | h1
  · rw [W_at h1]; exact h _ (List.getElem_mem h1)
  · exact W_out h1
theorem whole_zero {l : List Cel} (h : ∀ c ∈ l, c.wide = 0) : Whole l := by
  rw [whole_iff]
  have := W_whole0 h
  exact ⟨by rw [this]; decide, fun i => by rw [this, this]; decide⟩
theorem whole_clr (n : Nat) (a : At) : Whole (List.replicate n (clr a)) := whole_zero (fun c hc => by rw [(List.mem_replicate.1 hc).2]; rfl)
theorem whole_pair (x : Int) (a : At) : Whole [⟨x, [], 1, a⟩, ⟨0, [], 2, a⟩] := by
  rw [whole_iff]
  refine ⟨by simp [W], fun i => ?_⟩
  rcases i with _ | _ | i <;> simp [W]

/-! The calls. -/
def setL (l : List Cel) (col : Nat) (cs : List Cel) : List Cel := mendAll (splice l col cs)
theorem setL_length {l cs : List Cel} {col : Nat} (h : col + cs.length ≤ l.length) : (setL l col cs).length = l.length := by rw [setL, mendAll_length, length_splice _ _ _ h]
theorem setL_eq {l cs : List Cel} {col : Nat} (h : col + cs.length ≤ l.length) (hl : Whole l) : mendTo (splice l col cs) (col - 1) (min (col + cs.length + 1) l.length) = setL l col cs := mendTo_all (alone_splice h hl)
theorem setL_nil {l : List Cel} {col : Nat} (hl : Whole l) : setL l col [] = l := by
  unfold setL splice
  simp only [List.nil_append, List.length_nil, Nat.add_zero, List.take_append_drop]
  exact mendAll_whole hl

def cellsPut (x : Int) (wide : Bool) (a : At) : List Cel := if wide then [⟨x, [], 1, a⟩, ⟨0, [], 2, a⟩] else [⟨x, [], 0, a⟩]
theorem whole_cells (x : Int) (wide : Bool) (a : At) : Whole (cellsPut x wide a) := by
  cases wide
  · exact whole_zero (by simp [cellsPut])
  · exact whole_pair x a
def eraseL (l : List Cel) (lo hi : Nat) (a : At) : List Cel := if lo < hi then setL l lo (List.replicate (hi - lo) (clr a)) else l
def insX (l : List Cel) (col n : Nat) (a : At) : List Cel := l.take col ++ (List.replicate n (clr a) ++ (l.drop col).take (l.length - col - n))
def insL (l : List Cel) (col n : Nat) (a : At) : List Cel := mendAll (insX l col n a)
def delX (l : List Cel) (col n : Nat) (a : At) : List Cel := (setL l col (List.replicate n (clr a))).take col ++ ((setL l col (List.replicate n (clr a))).drop (col + n) ++ List.replicate n (clr a))
def delL (l : List Cel) (col n : Nat) (a : At) : List Cel := delX l col n a
def resX (l : List Cel) (cols : Nat) : List Cel := l.take cols ++ List.replicate (cols - l.length) (clr zeroAt)
def resL (l : List Cel) (cols : Nat) : List Cel := mendAll (resX l cols)

theorem insX_length {l : List Cel} {col n : Nat} (a : At) (h : col + n ≤ l.length) : (insX l col n a).length = l.length := by simp [insX]; omega
theorem W_insX {l : List Cel} {col n : Nat} (a : At) (h : col + n ≤ l.length) (i : Nat) :
    W (insX l col n a) i = if i < col then W l i else if i < col + n then 0 else if i < l.length then W l (i - n) else 0 := by
  unfold insX
  by_cases h1 : i < col
  · rw [if_pos h1]
    apply W_of
    rw [List.getElem?_append_left (by simp; omega), List.getElem?_take, if_pos h1]
  · rw [if_neg h1]
    by_cases h2 : i < col + n
    · rw [if_pos h2]
      unfold W
      rw [List.getElem?_append_right (by simp; omega), List.length_take, Nat.min_eq_left (by omega), List.getElem?_append_left (by simp; omega), List.getElem?_replicate, if_pos (by omega)]
      rfl
    · rw [if_neg h2]
      by_cases h3 : i < l.length
      · rw [if_pos h3]
        apply W_of
        rw [List.getElem?_append_right (by simp; omega), List.length_take, Nat.min_eq_left (by omega), List.getElem?_append_right (by simp; omega), List.getElem?_take, List.length_replicate, if_pos (by omega), List.getElem?_drop]
        congr 1
        omega
      · rw [if_neg h3]
        exact W_out (by have := insX_length a h; unfold insX at this; omega)
theorem alone_insX {l : List Cel} {col n : Nat} (a : At) (h : col + n ≤ l.length) (hl : Whole l) : ∀ i, Alone (insX l col n a) i → (col - 1 ≤ i ∧ i < min (col + n + 1) l.length) ∨ (l.length - 1 ≤ i ∧ i < l.length) := by
  intro i hA
  have hlt := hA.lt
  rw [insX_length a h] at hlt
  rw [whole_iff] at hl
  have a0 := W_insX a h i
  have a1 := W_insX a h (i + 1)
  have a2 := W_insX a h (i - 1)
  apply Decidable.byContradiction
  intro hn
  have hcase : i + 1 < col ∨ (col + n < i ∧ i + 1 < l.length) := by omega
  rcases hcase with hc | ⟨hc, hd⟩
  · rw [if_pos (by omega)] at a0 a1 a2
    have := hl.2 i
    rcases hA with ⟨c1, c2⟩ | ⟨c1, c2⟩
    · exact c2 (by rw [a1]; exact this.1 (a0 ▸ c1))
    · rcases i with _ | i
      · exact hl.1 (a0 ▸ c1)
      · have h3 := (hl.2 i).2 (a0 ▸ c1)
        rcases c2 with c2 | c2
        · omega
        · exact c2 (by rw [a2]; simpa using h3)
  · rw [if_neg (by omega), if_neg (by omega), if_pos (by omega)] at a0 a1 a2
    have := hl.2 (i - n)
    rcases hA with ⟨c1, c2⟩ | ⟨c1, c2⟩
    · exact c2 (by rw [a1, show i + 1 - n = i - n + 1 by omega]; exact this.1 (a0 ▸ c1))
    · have h3 := (hl.2 (i - 1 - n)).2 (by rw [show i - 1 - n + 1 = i - n by omega, ← a0]; exact c1)
      rcases c2 with c2 | c2
      · omega
      · exact c2 (by rw [a2]; exact h3)

theorem W_delX {l : List Cel} {col n : Nat} (a : At) (h : col + n ≤ l.length) (i : Nat) :
    W (delX l col n a) i = if i < col then W (setL l col (List.replicate n (clr a))) i else if i + n < l.length then W (setL l col (List.replicate n (clr a))) (i + n) else 0 := by
  have hs : (setL l col (List.replicate n (clr a))).length = l.length := setL_length (by simpa using h)
  unfold delX
  generalize setL l col (List.replicate n (clr a)) = s at hs
  by_cases h1 : i < col
  · rw [if_pos h1]
    apply W_of
    rw [List.getElem?_append_left (by simp; omega), List.getElem?_take, if_pos h1]
  · rw [if_neg h1]
    by_cases h2 : i + n < l.length
    · rw [if_pos h2]
      apply W_of
      rw [List.getElem?_append_right (by simp; omega), List.length_take, Nat.min_eq_left (by omega), List.getElem?_append_left (by simp; omega), List.getElem?_drop]
      congr 1
      omega
    · rw [if_neg h2]
      unfold W
      rw [List.getElem?_append_right (by simp; omega), List.length_take, Nat.min_eq_left (by omega), List.getElem?_append_right (by simp; omega), List.getElem?_replicate]
      split <;> rename_i hq <;> split at hq <;> first | (simp only [Option.some.injEq] at hq; rw [← hq]; rfl) | rfl | cases hq
theorem delX_length {l : List Cel} {col n : Nat} (a : At) (h : col + n ≤ l.length) : (delX l col n a).length = l.length := by
  have hs : (setL l col (List.replicate n (clr a))).length = l.length := setL_length (by simpa using h)
  simp [delX, hs]; omega
theorem W_clr (n i : Nat) (a : At) : W (List.replicate n (clr a)) i = 0 := W_whole0 (fun c hc => by rw [(List.mem_replicate.1 hc).2]; rfl) i
theorem W_set_clr {l : List Cel} {col n : Nat} (a : At) (h : col + n ≤ l.length) {i : Nat} (h1 : col ≤ i) (h2 : i < col + n) : W (setL l col (List.replicate n (clr a))) i = 0 := by
  have hh : col + (List.replicate n (clr a)).length ≤ l.length := by simpa using h
  have h0 : W (splice l col (List.replicate n (clr a))) i = 0 := by
    rw [W_splice hh, if_neg (by omega), if_pos (by simp; omega), W_clr]
  rw [setL, W_mendAll, h0]
  split <;> rfl
theorem whole_setL (l cs : List Cel) (col : Nat) : Whole (setL l col cs) := whole_mendAll _
theorem whole_delX {l : List Cel} {col n : Nat} (a : At) (h : col + n ≤ l.length) (hl : Whole l) : Whole (delX l col n a) := by
  by_cases hn : n = 0
  · subst hn
    have e : delX l col 0 a = l := by
      unfold delX
      simp only [List.replicate_zero, Nat.add_zero, List.append_nil]
      rw [setL_nil hl, List.take_append_drop]
    rw [e]; exact hl
  have hs := whole_setL l (List.replicate n (clr a)) col
  have hlen : (setL l col (List.replicate n (clr a))).length = l.length := setL_length (by simpa using h)
  have hz := fun i h1 h2 => W_set_clr a h (i := i) h1 h2
  have hw := W_delX a h
  have ho := fun i (hi : l.length ≤ i) => W_out (l := setL l col (List.replicate n (clr a))) (i := i) (by omega)
  rw [whole_iff] at hs ⊢
  generalize setL l col (List.replicate n (clr a)) = s at hs hz hw ho hlen
  refine ⟨?_, fun i => ?_⟩
  · rw [hw]
    by_cases c0 : 0 < col
    · rw [if_pos c0]; exact hs.1
    · rw [if_neg c0]
      split
      · rename_i hlt
        have h1 := hz (n - 1) (by omega) (by omega)
        have h2 := (hs.2 (n - 1)).2
        rw [show n - 1 + 1 = 0 + n by omega] at h2
        intro hh
        have := h2 hh
        omega
      · decide
  · rw [hw i, hw (i + 1)]
    by_cases c0 : i + 1 < col
    · rw [if_pos (by omega), if_pos c0]; exact hs.2 i
    · rw [if_neg c0]
      by_cases c1 : i < col
      · obtain rfl : col = i + 1 := by omega
        rw [if_pos (by omega)]
        have h0 := hz (i + 1) (by omega) (by omega)
        have h1 := (hs.2 i).1
        have h3 := hz (i + n) (by omega) (by omega)
        have h4 := (hs.2 (i + n)).2
        constructor
        · intro hh
          have := h1 hh
          omega
        · intro hh
          split at hh
          · rw [show i + 1 + n = i + n + 1 by omega] at hh
            have := h4 hh
            omega
          · omega
      · rw [if_neg c1]
        by_cases c2 : i + 1 + n < l.length
        · rw [if_pos (by omega), if_pos c2, show i + 1 + n = i + n + 1 by omega]
          exact hs.2 (i + n)
        · rw [if_neg c2]
          have h5 := (hs.2 (i + n)).1
          have h6 := ho (i + n + 1) (by omega)
          constructor
          · intro hh
            split at hh
            · have := h5 hh
              omega
            · omega
          · intro hh
            omega

theorem resX_length (l : List Cel) (cols : Nat) : (resX l cols).length = cols := by simp [resX]; omega
theorem W_resX (l : List Cel) (cols i : Nat) : W (resX l cols) i = if i < cols then W l i else 0 := by
  unfold resX
  by_cases h0 : i < cols
  · rw [if_pos h0]
    by_cases h1 : i < l.length
    · apply W_of
      rw [List.getElem?_append_left (by simp; omega), List.getElem?_take, if_pos h0]
    · rw [W_out (l := l) (by omega)]
      unfold W
      rw [List.getElem?_append_right (by simp; omega), List.getElem?_replicate]
      split <;> rename_i hq <;> split at hq <;> first | (simp only [Option.some.injEq] at hq; rw [← hq]; rfl) | rfl | cases hq
  · rw [if_neg h0]
    exact W_out (by have := resX_length l cols; unfold resX at this; omega)
theorem alone_resX {l : List Cel} {cols : Nat} (hl : Whole l) : ∀ i, Alone (resX l cols) i → cols - 1 ≤ i ∧ i < cols := by
  intro i hA
  have hlt := hA.lt
  rw [resX_length] at hlt
  rw [whole_iff] at hl
  have a0 := W_resX l cols i
  have a1 := W_resX l cols (i + 1)
  have a2 := W_resX l cols (i - 1)
  refine ⟨?_, hlt⟩
  apply Decidable.byContradiction
  intro hn
  rw [if_pos (by omega)] at a0 a1 a2
  have := hl.2 i
  rcases hA with ⟨c1, c2⟩ | ⟨c1, c2⟩
  · exact c2 (by rw [a1]; exact this.1 (a0 ▸ c1))
  · rcases i with _ | i
    · exact hl.1 (a0 ▸ c1)
    · have h3 := (hl.2 i).2 (a0 ▸ c1)
      rcases c2 with c2 | c2
      · omega
      · exact c2 (by rw [a2]; simpa using h3)

end Go.Proofs.YtaoegfdaemmogaaGreat.Rw
namespace Go.Proofs.YtaoegfdaemmogaaGreat.Rw
open Go

def aloneW (l : List Cel) (f : Nat → Int) (k : Nat) : Prop := (W l k = 1 ∧ (k + 1 = l.length ∨ f (k + 1) ≠ f k + 1)) ∨ (W l k = 2 ∧ (k = 0 ∨ f (k - 1) ≠ f k - 1))
instance (l : List Cel) (f : Nat → Int) (k : Nat) : Decidable (aloneW l f k) := by unfold aloneW; infer_instance
/-- Behind k rounds. -/
def wholeTo (l : List Cel) (f : Nat → Int) (k : Nat) : List Cel := l.mapIdx fun i c => if i < k ∧ aloneW l f i then blank1 c else c
def wasTo (l : List Cel) (f : Nat → Int) (k i : Nat) : Int := if i < k ∧ aloneW l f i then -2 else f i
structure Ready (l : List Cel) (f : Nat → Int) : Prop where
  pos : ∀ k, W l k ≠ 0 → 0 ≤ f k
  seq : ∀ k, W l (k + 1) = 2 → aloneW l f k → aloneW l f (k + 1)
  low : ∀ k, -2 ≤ f k
  high : ∀ k, f k ≤ 100000
/-- Each cell is new, or the one that it was. -/
structure Prov (l X : List Cel) (f : Nat → Int) : Prop where
  cell : ∀ k, k < X.length → (f k = -1 ∧ W X k = 0) ∨ ∃ j : Nat, f k = j ∧ j < l.length ∧ W X k = W l j
  low : ∀ k, -2 ≤ f k
  high : ∀ k, f k ≤ 100000
theorem lt_of_W {l : List Cel} {k : Nat} (h : W l k ≠ 0) : k < l.length := by
  rcases Nat.lt_or_ge k l.length with h1 | h1
  · exact h1
  · exact absurd (W_out h1) h
theorem Prov.ready {l X : List Cel} {f : Nat → Int} (h : Prov l X f) (hl : Whole l) : Ready X f := by
  rw [whole_iff] at hl
  refine ⟨fun k hk => ?_, fun k h2 ha => ?_, h.low, h.high⟩
  · rcases h.cell k (lt_of_W hk) with ⟨_, h0⟩ | ⟨j, hj, _⟩
    · exact absurd h0 hk
    · omega
  · refine .inr ⟨h2, .inr ?_⟩
    rw [Nat.add_sub_cancel]
    intro he
    have hk1 := lt_of_W (l := X) (k := k + 1) (by omega)
    rcases h.cell (k + 1) hk1 with ⟨_, h0⟩ | ⟨j, hj, hjl, hw⟩
    · omega
    · have hwj : W l j = 2 := by omega
      have hj0 : j ≠ 0 := fun e => hl.1 (by rw [← e]; exact hwj)
      obtain ⟨i, rfl⟩ : ∃ i, j = i + 1 := ⟨j - 1, by omega⟩
      have hwi := (hl.2 i).2 hwj
      rcases h.cell k (by omega) with ⟨h1, _⟩ | ⟨j', hj', _, hw'⟩
      · omega
      · obtain rfl : j' = i := by omega
        have hXk : W X k = 1 := by omega
        rcases ha with ⟨_, h3⟩ | ⟨h3, _⟩
        · omega
        · omega
theorem wholeTo_length (l : List Cel) (f : Nat → Int) (k : Nat) : (wholeTo l f k).length = l.length := by simp [wholeTo]
theorem wholeTo_at (l : List Cel) (f : Nat → Int) (k i : Nat) : (wholeTo l f k)[i]? = l[i]?.map fun c => if i < k ∧ aloneW l f i then blank1 c else c := by simp [wholeTo]
theorem Prov.alone {l X : List Cel} {f : Nat → Int} (h : Prov l X f) (hl : Whole l) (hadj : ∀ k, W X k = 1 → W X (k + 1) = 2 → f (k + 1) = f k + 1) (k : Nat) : aloneW X f k ↔ Alone X k := by
  rw [whole_iff] at hl
  unfold aloneW Alone
  have hout : k + 1 = X.length → W X (k + 1) = 0 := fun e => W_out (by omega)
  constructor
  · rintro (⟨h1, h2⟩ | ⟨h1, h2⟩)
    · refine .inl ⟨h1, fun h3 => ?_⟩
      rcases h2 with h2 | h2
      · have := hout h2; omega
      · exact h2 (hadj k h1 h3)
    · refine .inr ⟨h1, ?_⟩
      rcases h2 with h2 | h2
      · exact .inl h2
      · by_cases h0 : k = 0
        · exact .inl h0
        · obtain ⟨i, rfl⟩ : ∃ i, k = i + 1 := ⟨k - 1, by omega⟩
          rw [Nat.add_sub_cancel] at h2 ⊢
          refine .inr fun h3 => h2 ?_
          have := hadj i h3 h1
          omega
  · rintro (⟨h1, h2⟩ | ⟨h1, h2⟩)
    · refine .inl ⟨h1, ?_⟩
      by_cases he : k + 1 = X.length
      · exact .inl he
      · right
        intro hf
        have hk := lt_of_W (l := X) (k := k) (by omega)
        rcases h.cell k hk with ⟨_, h0⟩ | ⟨j, hj, hjl, hw⟩
        · omega
        · have hw1 := (hl.2 j).1 (by omega)
          rcases h.cell (k + 1) (by omega) with ⟨h5, _⟩ | ⟨j', hj', _, hw'⟩
          · omega
          · obtain rfl : j' = j + 1 := by omega
            omega
    · refine .inr ⟨h1, ?_⟩
      rcases h2 with h2 | h2
      · exact .inl h2
      · by_cases h0 : k = 0
        · exact .inl h0
        · right
          obtain ⟨i, rfl⟩ : ∃ i, k = i + 1 := ⟨k - 1, by omega⟩
          rw [Nat.add_sub_cancel] at h2 ⊢
          intro hf
          have hk := lt_of_W (l := X) (k := i + 1) (by omega)
          rcases h.cell (i + 1) hk with ⟨_, h5⟩ | ⟨j, hj, hjl, hw⟩
          · omega
          · have hwj : W l j = 2 := by omega
            have hj0 : j ≠ 0 := fun e => hl.1 (by rw [← e]; exact hwj)
            obtain ⟨j0, rfl⟩ : ∃ j0, j = j0 + 1 := ⟨j - 1, by omega⟩
            have hwi := (hl.2 j0).2 hwj
            rcases h.cell i (by omega) with ⟨h6, _⟩ | ⟨j', hj', _, hw'⟩
            · omega
            · obtain rfl : j' = j0 := by omega
              omega
theorem Prov.whole {l X : List Cel} {f : Nat → Int} (h : Prov l X f) (hl : Whole l) (hadj : ∀ k, W X k = 1 → W X (k + 1) = 2 → f (k + 1) = f k + 1) : wholeTo X f X.length = mendAll X := by
  apply List.ext_getElem?
  intro i
  rw [wholeTo_at, mendAll_at]
  have ha := h.alone hl hadj i
  rcases hq : X[i]? with _ | c
  · rfl
  · have hi := (List.getElem?_eq_some_iff.1 hq).1
    simp only [Option.map_some]
    congr 1
    by_cases hA : Alone X i
    · rw [if_pos hA, if_pos ⟨hi, ha.2 hA⟩]
    · rw [if_neg hA, if_neg (fun hh => hA (ha.1 hh.2))]

/-! Which each was. -/
def fSet (lo hi : Nat) (i : Nat) : Int := if lo ≤ i ∧ i < hi then -1 else i
def fIns (n col k : Nat) (i : Nat) : Int := if n ≤ i then -1 else if i < col then i else if i < col + k then -1 else (i : Int) - k
def fDel (n col k : Nat) (i : Nat) : Int := if i < col then i else if i + k < n then (i : Int) + k else -1
def fRes (n : Nat) (i : Nat) : Int := if i < n then i else -1
end Go.Proofs.YtaoegfdaemmogaaGreat.Rw
