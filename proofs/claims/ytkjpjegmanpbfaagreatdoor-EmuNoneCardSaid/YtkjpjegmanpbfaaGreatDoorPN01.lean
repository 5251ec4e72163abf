/- Part 1 of the proof that the card of EmuNone holds. -/
import Derived.Laws.CopyOwn
set_option maxHeartbeats 16000000
set_option maxRecDepth 100000
namespace Go.Proofs.YtkjpjegmanpbfaaGreatDoor.Rw
open Go
structure At where
 f : Int
 b : Int
 g : Int
structure Cel where
 r : Int
 m : List Int
 wide : Int
 a : At
def W (l : List Cel) (i : Nat) : Int := match l[i]? with
 | some c => c.wide
 | none => 0
theorem W_at {l : List Cel} {i : Nat} (h : i < l.length) : W l i = l[i].wide := by unfold W; rw [List.getElem?_eq_getElem h]
theorem W_out {l : List Cel} {i : Nat} (h : l.length ≤ i) : W l i = 0 := by unfold W; rw [List.getElem?_eq_none h]
theorem W_of {l l' : List Cel} {i j : Nat} (h : l[i]? = l'[j]?) : W l i = W l' j := by unfold W; rw [h]
def Alone (l : List Cel) (i : Nat) : Prop := (W l i = 1 ∧ W l (i + 1) ≠ 2) ∨ (W l i = 2 ∧ (i = 0 ∨ W l (i - 1) ≠ 1))
instance (l : List Cel) (i : Nat) : Decidable (Alone l i) := by unfold Alone; infer_instance
theorem Alone.lt {l : List Cel} {i : Nat} (h : Alone l i) : i < l.length := by
 rcases Nat.lt_or_ge i l.length with h1 | h1
 ·exact h1
 ·have := W_out h1
  unfold Alone at h
  omega
def blank1 (c : Cel) : Cel := ⟨32, [], 0, c.a⟩
def clr (a : At) : Cel := ⟨32, [], 0, ⟨0, a.b, 0⟩⟩
def zeroAt : At := ⟨0, 0, 0⟩
def mendTo (l : List Cel) (a b : Nat) : List Cel := l.mapIdx fun i c => if a ≤ i ∧ i < b ∧ Alone l i then blank1 c else c
def mendAll (l : List Cel) : List Cel := l.mapIdx fun i c => if Alone l i then blank1 c else c
theorem mendTo_length (l : List Cel) (a b : Nat) : (mendTo l a b).length = l.length := by simp [mendTo]
theorem mendAll_length (l : List Cel) : (mendAll l).length = l.length := by simp [mendAll]
theorem mendTo_at (l : List Cel) (a b i : Nat) : (mendTo l a b)[i]? = l[i]?.map fun c => if a ≤ i ∧ i < b ∧ Alone l i then blank1 c else c := by simp [mendTo]
theorem mendAll_at (l : List Cel) (i : Nat) : (mendAll l)[i]? = l[i]?.map fun c => if Alone l i then blank1 c else c := by simp [mendAll]
theorem W_mendTo (l : List Cel) (a b i : Nat) : W (mendTo l a b) i = if a ≤ i ∧ i < b ∧ Alone l i then 0 else W l i := by
 unfold W
 rw [mendTo_at]
 cases l[i]? with
 | none => simp
 | some c => simp only [Option.map_some]; split <;> rfl
theorem W_mendAll (l : List Cel) (i : Nat) : W (mendAll l) i = if Alone l i then 0 else W l i := by
 unfold W
 rw [mendAll_at]
 cases l[i]? with
 | none => simp
 | some c => simp only [Option.map_some]; split <;> rfl
theorem mend_none (l : List Cel) (a : Nat) : mendTo l a a = l := by
 apply List.ext_getElem?
 intro i
 rw [mendTo_at]
 cases l[i]? with
 | none => rfl
 | some c => simp only [Option.map_some]; rw [if_neg (by omega)]
theorem alone_mendTo (l : List Cel) (a b i : Nat) : Alone (mendTo l a b) i ↔ Alone l i ∧ ¬ (a ≤ i ∧ i < b) := by
 have h0 := W_mendTo l a b i
 have h1 := W_mendTo l a b (i + 1)
 have h2 := W_mendTo l a b (i - 1)
 have e : i ≠ 0 → i - 1 + 1 = i := by omega
 by_cases ci : Alone l i
 ·by_cases r : a ≤ i ∧ i < b
  ·rw [if_pos ⟨r.1, r.2, ci⟩] at h0
   simp [r, Alone, h0]
  ·rw [if_neg (fun h => r ⟨h.1, h.2.1⟩)] at h0
   simp only [ci, r, not_false_eq_true, and_self, iff_true]
   unfold Alone at ci ⊢
   rw [h0]
   rcases ci with ⟨c1, c2⟩ | ⟨c1, c2⟩
   ·left
    refine ⟨c1, ?_⟩
    rw [h1]
    split
    ·decide
    ·exact c2
   ·right
    refine ⟨c1, ?_⟩
    rcases c2 with c2 | c2
    ·exact .inl c2
    ·right
     rw [h2]
     split
     ·decide
     ·exact c2
 ·rw [if_neg (fun h => ci h.2.2)] at h0
  simp only [ci, false_and, iff_false]
  intro hA
  unfold Alone at hA
  rw [h0] at hA
  rcases hA with ⟨c1, c2⟩ | ⟨c1, c2⟩
  ·have hw : W l (i + 1) = 2 := by
    apply Decidable.byContradiction
    intro hn
    exact ci (.inl ⟨c1, hn⟩)
   have : ¬ Alone l (i + 1) := by
    unfold Alone
    simp [hw, c1]
   rw [h1, if_neg (fun h => this h.2.2)] at c2
   exact c2 hw
  ·have h3 : i ≠ 0 ∧ W l (i - 1) = 1 := by
    refine ⟨fun hn => ci (.inr ⟨c1, .inl hn⟩), ?_⟩
    apply Decidable.byContradiction
    intro hn
    exact ci (.inr ⟨c1, .inr hn⟩)
   have : ¬ Alone l (i - 1) := by
    unfold Alone
    rw [e h3.1]
    simp [h3.2, c1]
   rw [h2, if_neg (fun h => this h.2.2)] at c2
   rcases c2 with c2 | c2
   ·exact h3.1 c2
   ·exact c2 h3.2
theorem mend_snoc (l : List Cel) (a b : Nat) (hab : a ≤ b) : mendTo l a (b + 1) = if h : b < l.length ∧ Alone l b then (mendTo l a b).set b (blank1 (l[b]'h.1)) else mendTo l a b := by
 apply List.ext_getElem?
 intro i
 rw [mendTo_at]
 by_cases h : b < l.length ∧ Alone l b
 ·rw [dif_pos h, List.getElem?_set, mendTo_length, mendTo_at]
  by_cases e : b = i
  ·subst e
   rw [if_pos rfl, if_pos h.1, List.getElem?_eq_getElem h.1]
   simp only [Option.map_some]
   rw [if_pos ⟨hab, by omega, h.2⟩]
  ·rw [if_neg e]
   cases l[i]? with
   | none => rfl
   | some c =>
    simp only [Option.map_some]
    congr 1
    by_cases c1 : a ≤ i ∧ i < b ∧ Alone l i
    ·rw [if_pos c1, if_pos ⟨c1.1, by omega, c1.2.2⟩]
    ·rw [if_neg c1, if_neg (fun hh => c1 ⟨hh.1, by omega, hh.2.2⟩)]
 ·rw [dif_neg h, mendTo_at]
  rcases hq : l[i]? with _ | c
  ·rfl
  ·have hi := (List.getElem?_eq_some_iff.1 hq).1
   simp only [Option.map_some]
   congr 1
   by_cases c1 : a ≤ i ∧ i < b ∧ Alone l i
   ·rw [if_pos c1, if_pos ⟨c1.1, by omega, c1.2.2⟩]
   ·rw [if_neg c1, if_neg (fun hh => c1 ⟨hh.1, by
     rcases Nat.lt_or_ge i b with h1 | h1
     ·exact h1
     ·obtain rfl : i = b := by omega
      exact absurd ⟨hi, hh.2.2⟩ h, hh.2.2⟩)]
theorem mendTo_all {l : List Cel} {a b : Nat} (h : ∀ i, Alone l i → a ≤ i ∧ i < b) : mendTo l a b = mendAll l := by
 apply List.ext_getElem?
 intro i
 rw [mendTo_at, mendAll_at]
 cases l[i]? with
 | none => rfl
 | some c =>
  simp only [Option.map_some]
  congr 1
  by_cases c1 : Alone l i
  ·rw [if_pos c1, if_pos ⟨(h i c1).1, (h i c1).2, c1⟩]
  ·rw [if_neg c1, if_neg (fun hh => c1 hh.2.2)]
theorem mend_mend {l : List Cel} {a b c d : Nat} (h : ∀ i, Alone l i → (a ≤ i ∧ i < b) ∨ (c ≤ i ∧ i < d)) : mendTo (mendTo l a b) c d = mendAll l := by
 apply List.ext_getElem?
 intro i
 rw [mendTo_at, mendAll_at, mendTo_at]
 cases l[i]? with
 | none => rfl
 | some x =>
  simp only [Option.map_some]
  congr 1
  have ha := alone_mendTo l a b i
  by_cases c1 : Alone l i
  ·rw [if_pos c1]
   by_cases r : a ≤ i ∧ i < b
   ·rw [if_neg (fun hh : c ≤ i ∧ i < d ∧ Alone (mendTo l a b) i => (ha.1 hh.2.2).2 r), if_pos ⟨r.1, r.2, c1⟩]
   ·have := h i c1
    rw [if_pos ⟨by omega, by omega, ha.2 ⟨c1, r⟩⟩, if_neg (fun hh => r ⟨hh.1, hh.2.1⟩)]
  ·rw [if_neg c1, if_neg (fun hh : c ≤ i ∧ i < d ∧ Alone (mendTo l a b) i => c1 (ha.1 hh.2.2).1), if_neg (fun hh => c1 hh.2.2)]
def Whole (l : List Cel) : Prop := ∀ i, ¬ Alone l i
theorem whole_iff (l : List Cel) : Whole l ↔ W l 0 ≠ 2 ∧ ∀ i, (W l i = 1 ↔ W l (i + 1) = 2) := by
 constructor
 ·intro h
  refine ⟨fun h0 => h 0 (.inr ⟨h0, .inl rfl⟩), fun i => ⟨fun h1 => ?_, fun h2 => ?_⟩⟩
  ·apply Decidable.byContradiction
   intro hn
   exact h i (.inl ⟨h1, hn⟩)
  ·apply Decidable.byContradiction
   intro hn
   exact h (i + 1) (.inr ⟨h2, .inr (by simpa using hn)⟩)
 ·intro ⟨h0, h⟩ i hA
  rcases hA with ⟨c1, c2⟩ | ⟨c1, c2⟩
  ·exact c2 ((h i).1 c1)
  ·rcases i with _ | i
   ·exact h0 c1
   ·have := (h i).2 c1
    rcases c2 with c2 | c2
    ·omega
    ·exact c2 (by simpa using this)
theorem whole_mendAll (l : List Cel) : Whole (mendAll l) := by
 intro i
 have : mendAll l = mendTo l 0 l.length := (mendTo_all (fun i h => ⟨Nat.zero_le _, h.lt⟩)).symm
 rw [this, alone_mendTo]
 intro ⟨h, hn⟩
 exact hn ⟨Nat.zero_le _, h.lt⟩
theorem mendAll_whole {l : List Cel} (h : Whole l) : mendAll l = l := by
 rw [← mendTo_all (a := 0) (b := 0) (fun i hi => absurd hi (h i)), mend_none]
theorem mendTo_whole {l : List Cel} (h : Whole l) (a b : Nat) : mendTo l a b = l := by
 rw [mendTo_all (fun i hi => absurd hi (h i)), mendAll_whole h]
theorem W_splice {l cs : List Cel} {col : Nat} (h : col + cs.length ≤ l.length) (i : Nat) :
  W (splice l col cs) i = if i < col then W l i else if i < col + cs.length then W cs (i - col) else W l i := by
 unfold splice
 by_cases h1 : i < col
 ·rw [if_pos h1]
  apply W_of
  rw [List.getElem?_append_left (by simp; omega), List.getElem?_take, if_pos h1]
 ·rw [if_neg h1]
  by_cases h2 : i < col + cs.length
  ·rw [if_pos h2]
   apply W_of
   rw [List.getElem?_append_right (by simp; omega), List.length_take, Nat.min_eq_left (by omega), List.getElem?_append_left (by omega)]
  ·rw [if_neg h2]
   apply W_of
   rw [List.getElem?_append_right (by simp; omega), List.length_take, Nat.min_eq_left (by omega), List.getElem?_append_right (by omega), List.getElem?_drop]
   congr 1
   omega
theorem alone_splice {l cs : List Cel} {col : Nat} (h : col + cs.length ≤ l.length) (hl : Whole l) : ∀ i, Alone (splice l col cs) i → col - 1 ≤ i ∧ i < min (col + cs.length + 1) l.length := by
 intro i hA
 have hlt := hA.lt
 rw [length_splice l col cs h] at hlt
 rw [whole_iff] at hl
 have a0 := W_splice h i
 have a1 := W_splice h (i + 1)
 have a2 := W_splice h (i - 1)
 refine ⟨?_, ?_⟩
 ·apply Decidable.byContradiction
  intro hn
  rw [if_pos (by omega)] at a0 a1 a2
  have := hl.2 i
  rcases hA with ⟨c1, c2⟩ | ⟨c1, c2⟩
  ·exact c2 (by rw [a1]; exact this.1 (a0 ▸ c1))
  ·rcases i with _ | i
   ·exact hl.1 (a0 ▸ c1)
   ·have h3 := (hl.2 i).2 (a0 ▸ c1)
    rcases c2 with c2 | c2
    ·omega
    ·exact c2 (by rw [a2]; simpa using h3)
 ·apply Decidable.byContradiction
  intro hn
  rw [if_neg (by omega), if_neg (by omega)] at a0 a1 a2
  have := hl.2 i
  rcases hA with ⟨c1, c2⟩ | ⟨c1, c2⟩
  ·exact c2 (by rw [a1]; exact this.1 (a0 ▸ c1))
  ·rcases i with _ | i
   ·exact hl.1 (a0 ▸ c1)
   ·have h3 := (hl.2 i).2 (a0 ▸ c1)
    rcases c2 with c2 | c2
    ·omega
    ·exact c2 (by rw [a2]; simpa using h3)
theorem W_whole0 {l : List Cel} (h : ∀ c ∈ l, c.wide = 0) (i : Nat) : W l i = 0 := by
 rcases Nat.lt_or_ge i l.length with h1 | h1
 ·rw [W_at h1]; exact h _ (List.getElem_mem h1)
 ·exact W_out h1
theorem whole_zero {l : List Cel} (h : ∀ c ∈ l, c.wide = 0) : Whole l := by
 rw [whole_iff]
 have := W_whole0 h
 exact ⟨by rw [this]; decide, fun i => by rw [this, this]; decide⟩
theorem whole_clr (n : Nat) (a : At) : Whole (List.replicate n (clr a)) := whole_zero (fun c hc => by rw [(List.mem_replicate.1 hc).2]; rfl)
def setL (l : List Cel) (col : Nat) (cs : List Cel) : List Cel := mendAll (splice l col cs)
theorem setL_length {l cs : List Cel} {col : Nat} (h : col + cs.length ≤ l.length) : (setL l col cs).length = l.length := by rw [setL, mendAll_length, length_splice _ _ _ h]
theorem setL_eq {l cs : List Cel} {col : Nat} (h : col + cs.length ≤ l.length) (hl : Whole l) : mendTo (splice l col cs) (col - 1) (min (col + cs.length + 1) l.length) = setL l col cs := mendTo_all (alone_splice h hl)
theorem setL_nil {l : List Cel} {col : Nat} (hl : Whole l) : setL l col [] = l := by
 unfold setL splice
 simp only [List.nil_append, List.length_nil, Nat.add_zero, List.take_append_drop]
 exact mendAll_whole hl
def cellsPut (x : Int) (wide : Bool) (a : At) : List Cel := if wide then [⟨x, [], 1, a⟩, ⟨0, [], 2, a⟩] else [⟨x, [], 0, a⟩]
def eraseL (l : List Cel) (lo hi : Nat) (a : At) : List Cel := if lo < hi then setL l lo (List.replicate (hi - lo) (clr a)) else l
def insX (l : List Cel) (col n : Nat) (a : At) : List Cel := l.take col ++ (List.replicate n (clr a) ++ (l.drop col).take (l.length - col - n))
def insL (l : List Cel) (col n : Nat) (a : At) : List Cel := mendAll (insX l col n a)
def delX (l : List Cel) (col n : Nat) (a : At) : List Cel := (setL l col (List.replicate n (clr a))).take col ++ ((setL l col (List.replicate n (clr a))).drop (col + n) ++ List.replicate n (clr a))
def delL (l : List Cel) (col n : Nat) (a : At) : List Cel := delX l col n a
theorem insX_length {l : List Cel} {col n : Nat} (a : At) (h : col + n ≤ l.length) : (insX l col n a).length = l.length := by simp [insX]; omega
theorem W_insX {l : List Cel} {col n : Nat} (a : At) (h : col + n ≤ l.length) (i : Nat) :
  W (insX l col n a) i = if i < col then W l i else if i < col + n then 0 else if i < l.length then W l (i - n) else 0 := by
 unfold insX
 by_cases h1 : i < col
 ·rw [if_pos h1]
  apply W_of
  rw [List.getElem?_append_left (by simp; omega), List.getElem?_take, if_pos h1]
 ·rw [if_neg h1]
  by_cases h2 : i < col + n
  ·rw [if_pos h2]
   unfold W
   rw [List.getElem?_append_right (by simp; omega), List.length_take, Nat.min_eq_left (by omega), List.getElem?_append_left (by simp; omega), List.getElem?_replicate, if_pos (by omega)]
   rfl
  ·rw [if_neg h2]
   by_cases h3 : i < l.length
   ·rw [if_pos h3]
    apply W_of
    rw [List.getElem?_append_right (by simp; omega), List.length_take, Nat.min_eq_left (by omega), List.getElem?_append_right (by simp; omega), List.getElem?_take, List.length_replicate, if_pos (by omega), List.getElem?_drop]
    congr 1
    omega
   ·rw [if_neg h3]
    exact W_out (by have := insX_length a h; unfold insX at this; omega)
theorem alone_insX {l : List Cel} {col n : Nat} (a : At) (h : col + n ≤ l.length) (hl : Whole l) : ∀ i, Alone (insX l col n a) i → (col - 1 ≤ i ∧ i < min (col + n + 1) l.length) ∨ (l.length - 1 ≤ i ∧ i < l.length) := by
 intro i hA
 have hlt := hA.lt
 rw [insX_length a h] at hlt
 rw [whole_iff] at hl
 have a0 := W_insX a h i
 have a1 := W_insX a h (i + 1)
 have a2 := W_insX a h (i - 1)
 apply Decidable.byContradiction
 intro hn
 have hcase : i + 1 < col ∨ (col + n < i ∧ i + 1 < l.length) := by omega
 rcases hcase with hc | ⟨hc, hd⟩
 ·rw [if_pos (by omega)] at a0 a1 a2
  have := hl.2 i
  rcases hA with ⟨c1, c2⟩ | ⟨c1, c2⟩
  ·exact c2 (by rw [a1]; exact this.1 (a0 ▸ c1))
  ·rcases i with _ | i
   ·exact hl.1 (a0 ▸ c1)
   ·have h3 := (hl.2 i).2 (a0 ▸ c1)
    rcases c2 with c2 | c2
    ·omega
    ·exact c2 (by rw [a2]; simpa using h3)
 ·rw [if_neg (by omega), if_neg (by omega), if_pos (by omega)] at a0 a1 a2
  have := hl.2 (i - n)
  rcases hA with ⟨c1, c2⟩ | ⟨c1, c2⟩
  ·exact c2 (by rw [a1, show i + 1 - n = i - n + 1 by omega]; exact this.1 (a0 ▸ c1))
  ·have h3 := (hl.2 (i - 1 - n)).2 (by rw [show i - 1 - n + 1 = i - n by omega, ← a0]; exact c1)
   rcases c2 with c2 | c2
   ·omega
   ·exact c2 (by rw [a2]; exact h3)
theorem W_delX {l : List Cel} {col n : Nat} (a : At) (h : col + n ≤ l.length) (i : Nat) :
  W (delX l col n a) i = if i < col then W (setL l col (List.replicate n (clr a))) i else if i + n < l.length then W (setL l col (List.replicate n (clr a))) (i + n) else 0 := by
 have hs : (setL l col (List.replicate n (clr a))).length = l.length := setL_length (by simpa using h)
 unfold delX
 generalize setL l col (List.replicate n (clr a)) = s at hs
 by_cases h1 : i < col
 ·rw [if_pos h1]
  apply W_of
  rw [List.getElem?_append_left (by simp; omega), List.getElem?_take, if_pos h1]
 ·rw [if_neg h1]
  by_cases h2 : i + n < l.length
  ·rw [if_pos h2]
   apply W_of
   rw [List.getElem?_append_right (by simp; omega), List.length_take, Nat.min_eq_left (by omega), List.getElem?_append_left (by simp; omega), List.getElem?_drop]
   congr 1
   omega
  ·rw [if_neg h2]
   unfold W
   rw [List.getElem?_append_right (by simp; omega), List.length_take, Nat.min_eq_left (by omega), List.getElem?_append_right (by simp; omega), List.getElem?_replicate]
   split <;> rename_i hq <;> split at hq <;> first | (simp only [Option.some.injEq] at hq; rw [← hq]; rfl) | rfl | cases hq
theorem delX_length {l : List Cel} {col n : Nat} (a : At) (h : col + n ≤ l.length) : (delX l col n a).length = l.length := by
 have hs : (setL l col (List.replicate n (clr a))).length = l.length := setL_length (by simpa using h)
 simp [delX, hs]; omega
theorem W_clr (n i : Nat) (a : At) : W (List.replicate n (clr a)) i = 0 := W_whole0 (fun c hc => by rw [(List.mem_replicate.1 hc).2]; rfl) i
theorem W_set_clr {l : List Cel} {col n : Nat} (a : At) (h : col + n ≤ l.length) {i : Nat} (h1 : col ≤ i) (h2 : i < col + n) : W (setL l col (List.replicate n (clr a))) i = 0 := by
 have hh : col + (List.replicate n (clr a)).length ≤ l.length := by simpa using h
 have h0 : W (splice l col (List.replicate n (clr a))) i = 0 := by
  rw [W_splice hh, if_neg (by omega), if_pos (by simp; omega), W_clr]
 rw [setL, W_mendAll, h0]
 split <;> rfl
theorem whole_setL (l cs : List Cel) (col : Nat) : Whole (setL l col cs) := whole_mendAll _
theorem whole_delX {l : List Cel} {col n : Nat} (a : At) (h : col + n ≤ l.length) (hl : Whole l) : Whole (delX l col n a) := by
 by_cases hn : n = 0
 ·subst hn
  have e : delX l col 0 a = l := by
   unfold delX
   simp only [List.replicate_zero, Nat.add_zero, List.append_nil]
   rw [setL_nil hl, List.take_append_drop]
  rw [e]; exact hl
 have hs := whole_setL l (List.replicate n (clr a)) col
 have hlen : (setL l col (List.replicate n (clr a))).length = l.length := setL_length (by simpa using h)
 have hz := fun i h1 h2 => W_set_clr a h (i := i) h1 h2
 have hw := W_delX a h
 have ho := fun i (hi : l.length ≤ i) => W_out (l := setL l col (List.replicate n (clr a))) (i := i) (by omega)
 rw [whole_iff] at hs ⊢
 generalize setL l col (List.replicate n (clr a)) = s at hs hz hw ho hlen
 refine ⟨?_, fun i => ?_⟩
 ·rw [hw]
  by_cases c0 : 0 < col
  ·rw [if_pos c0]; exact hs.1
  ·rw [if_neg c0]
   split
   ·rename_i hlt
    have h1 := hz (n - 1) (by omega) (by omega)
    have h2 := (hs.2 (n - 1)).2
    rw [show n - 1 + 1 = 0 + n by omega] at h2
    intro hh
    have := h2 hh
    omega
   ·decide
 ·rw [hw i, hw (i + 1)]
  by_cases c0 : i + 1 < col
  ·rw [if_pos (by omega), if_pos c0]; exact hs.2 i
  ·rw [if_neg c0]
   by_cases c1 : i < col
   ·obtain rfl : col = i + 1 := by omega
    rw [if_pos (by omega)]
    have h0 := hz (i + 1) (by omega) (by omega)
    have h1 := (hs.2 i).1
    have h3 := hz (i + n) (by omega) (by omega)
    have h4 := (hs.2 (i + n)).2
    constructor
    ·intro hh
     have := h1 hh
     omega
    ·intro hh
     split at hh
     ·rw [show i + 1 + n = i + n + 1 by omega] at hh
      have := h4 hh
      omega
     ·omega
   ·rw [if_neg c1]
    by_cases c2 : i + 1 + n < l.length
    ·rw [if_pos (by omega), if_pos c2, show i + 1 + n = i + n + 1 by omega]
     exact hs.2 (i + n)
    ·rw [if_neg c2]
     have h5 := (hs.2 (i + n)).1
     have h6 := ho (i + n + 1) (by omega)
     constructor
     ·intro hh
      split at hh
      ·have := h5 hh
       omega
      ·omega
     ·intro hh
      omega
end Go.Proofs.YtkjpjegmanpbfaaGreatDoor.Rw
