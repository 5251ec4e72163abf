/-
  row: the reference's cells, each of which knows which it was: halves whose other half is not where it must be.
-/
import Derived.Test.YtaoegfdaemmogaaRMath
namespace Go.Proofs.Ytaoegfdaemmogaa.Rw
open Go

def aloneW (l : List Cel) (f : Nat → Int) (k : Nat) : Prop := (W l k = 1 ∧ (k + 1 = l.length ∨ f (k + 1) ≠ f k + 1)) ∨ (W l k = 2 ∧ (k = 0 ∨ f (k - 1) ≠ f k - 1))
instance (l : List Cel) (f : Nat → Int) (k : Nat) : Decidable (aloneW l f k) := by unfold aloneW; infer_instance
/-- Behind k rounds. -/
def wholeTo (l : List Cel) (f : Nat → Int) (k : Nat) : List Cel := l.mapIdx fun i c => if i < k ∧ aloneW l f i then blank1 c else c
def wasTo (l : List Cel) (f : Nat → Int) (k i : Nat) : Int := if i < k ∧ aloneW l f i then -2 else f i
structure Ready (l : List Cel) (f : Nat → Int) : Prop where
  pos : ∀ k, W l k ≠ 0 → 0 ≤ f k
  seq : ∀ k, W l (k + 1) = 2 → aloneW l f k → aloneW l f (k + 1)
  low : ∀ k, -2 ≤ f k
  high : ∀ k, f k ≤ 100000
/-- Each cell is new, or the one that it was. -/
structure Prov (l X : List Cel) (f : Nat → Int) : Prop where
  cell : ∀ k, k < X.length → (f k = -1 ∧ W X k = 0) ∨ ∃ j : Nat, f k = j ∧ j < l.length ∧ W X k = W l j
  low : ∀ k, -2 ≤ f k
  high : ∀ k, f k ≤ 100000
theorem lt_of_W {l : List Cel} {k : Nat} (h : W l k ≠ 0) : k < l.length := by
  rcases Nat.lt_or_ge k l.length with h1 | h1
  · exact h1
  · exact absurd (W_out h1) h
theorem Prov.ready {l X : List Cel} {f : Nat → Int} (h : Prov l X f) (hl : Whole l) : Ready X f := by
  rw [whole_iff] at hl
  refine ⟨fun k hk => ?_, fun k h2 ha => ?_, h.low, h.high⟩
  · rcases h.cell k (lt_of_W hk) with ⟨_, h0⟩ | ⟨j, hj, _⟩
    · exact absurd h0 hk
    · omega
  · refine .inr ⟨h2, .inr ?_⟩
    rw [Nat.add_sub_cancel]
    intro he
    have hk1 := lt_of_W (l := X) (k := k + 1) (by omega)
    rcases h.cell (k + 1) hk1 with ⟨_, h0⟩ | ⟨j, hj, hjl, hw⟩
    · omega
    · have hwj : W l j = 2 := by omega
      have hj0 : j ≠ 0 := fun e => hl.1 (by rw [← e]; exact hwj)
      obtain ⟨i, rfl⟩ : ∃ i, j = i + 1 := ⟨j - 1, by omega⟩
      have hwi := (hl.2 i).2 hwj
      rcases h.cell k (by omega) with ⟨h1, _⟩ | ⟨j', hj', _, hw'⟩
      · omega
      · obtain rfl : j' = i := by omega
        have hXk : W X k = 1 := by omega
        rcases ha with ⟨_, h3⟩ | ⟨h3, _⟩
        · omega
        · omega
theorem wholeTo_length (l : List Cel) (f : Nat → Int) (k : Nat) : (wholeTo l f k).length = l.length := by simp [wholeTo]
theorem wholeTo_at (l : List Cel) (f : Nat → Int) (k i : Nat) : (wholeTo l f k)[i]? = l[i]?.map fun c => if i < k ∧ aloneW l f i then blank1 c else c := by simp [wholeTo]
theorem Prov.alone {l X : List Cel} {f : Nat → Int} (h : Prov l X f) (hl : Whole l) (hadj : ∀ k, W X k = 1 → W X (k + 1) = 2 → f (k + 1) = f k + 1) (k : Nat) : aloneW X f k ↔ Alone X k := by
  rw [whole_iff] at hl
  unfold aloneW Alone
  have hout : k + 1 = X.length → W X (k + 1) = 0 := fun e => W_out (by omega)
  constructor
  · rintro (⟨h1, h2⟩ | ⟨h1, h2⟩)
    · refine .inl ⟨h1, fun h3 => ?_⟩
      rcases h2 with h2 | h2
      · have := hout h2; omega
      · exact h2 (hadj k h1 h3)
    · refine .inr ⟨h1, ?_⟩
      rcases h2 with h2 | h2
      · exact .inl h2
      · by_cases h0 : k = 0
        · exact .inl h0
        · obtain ⟨i, rfl⟩ : ∃ i, k = i + 1 := ⟨k - 1, by omega⟩
          rw [Nat.add_sub_cancel] at h2 ⊢
          refine .inr fun h3 => h2 ?_
          have := hadj i h3 h1
          omega
  · rintro (⟨h1, h2⟩ | ⟨h1, h2⟩)
    · refine .inl ⟨h1, ?_⟩
      by_cases he : k + 1 = X.length
      · exact .inl he
      · right
        intro hf
        have hk := lt_of_W (l := X) (k := k) (by omega)
        rcases h.cell k hk with ⟨_, h0⟩ | ⟨j, hj, hjl, hw⟩
        · omega
        · have hw1 := (hl.2 j).1 (by omega)
          rcases h.cell (k + 1) (by omega) with ⟨h5, _⟩ | ⟨j', hj', _, hw'⟩
          · omega
          · obtain rfl : j' = j + 1 := by omega
            omega
    · refine .inr ⟨h1, ?_⟩
      rcases h2 with h2 | h2
      · exact .inl h2
      · by_cases h0 : k = 0
        · exact .inl h0
        · right
          obtain ⟨i, rfl⟩ : ∃ i, k = i + 1 := ⟨k - 1, by omega⟩
          rw [Nat.add_sub_cancel] at h2 ⊢
          intro hf
          have hk := lt_of_W (l := X) (k := i + 1) (by omega)
          rcases h.cell (i + 1) hk with ⟨_, h5⟩ | ⟨j, hj, hjl, hw⟩
          · omega
          · have hwj : W l j = 2 := by omega
            have hj0 : j ≠ 0 := fun e => hl.1 (by rw [← e]; exact hwj)
            obtain ⟨j0, rfl⟩ : ∃ j0, j = j0 + 1 := ⟨j - 1, by omega⟩
            have hwi := (hl.2 j0).2 hwj
            rcases h.cell i (by omega) with ⟨h6, _⟩ | ⟨j', hj', _, hw'⟩
            · omega
            · obtain rfl : j' = j0 := by omega
              omega
theorem Prov.whole {l X : List Cel} {f : Nat → Int} (h : Prov l X f) (hl : Whole l) (hadj : ∀ k, W X k = 1 → W X (k + 1) = 2 → f (k + 1) = f k + 1) : wholeTo X f X.length = mendAll X := by
  apply List.ext_getElem?
  intro i
  rw [wholeTo_at, mendAll_at]
  have ha := h.alone hl hadj i
  rcases hq : X[i]? with _ | c
  · rfl
  · have hi := (List.getElem?_eq_some_iff.1 hq).1
    simp only [Option.map_some]
    congr 1
    by_cases hA : Alone X i
    · rw [if_pos hA, if_pos ⟨hi, ha.2 hA⟩]
    · rw [if_neg hA, if_neg (fun hh => hA (ha.1 hh.2))]

/-! Which each was. -/
def fSet (lo hi : Nat) (i : Nat) : Int := if lo ≤ i ∧ i < hi then -1 else i
def fIns (n col k : Nat) (i : Nat) : Int := if n ≤ i then -1 else if i < col then i else if i < col + k then -1 else (i : Int) - k
def fDel (n col k : Nat) (i : Nat) : Int := if i < col then i else if i + k < n then (i : Int) + k else -1
def fRes (n : Nat) (i : Nat) : Int := if i < n then i else -1
end Go.Proofs.Ytaoegfdaemmogaa.Rw
