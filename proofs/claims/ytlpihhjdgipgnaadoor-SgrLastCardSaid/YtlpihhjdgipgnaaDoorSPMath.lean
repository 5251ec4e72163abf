/-
  sgr: what the laws on parts and on last numbers say of the plain functions.
-/
import Derived.Test.YtlpihhjdgipgnaaDoorSFol
namespace Go.Proofs.YtlpihhjdgipgnaaDoor.Sgr
open Go

/-- No number leads to a colour that follows. -/
def Bare (l : List Int) : Prop := ∀ n ∈ l, n ≠ 38 ∧ n ≠ 48
theorem run_app : ∀ (l m : List Int) (a : At), Bare l → runF a (l ++ m) = runF (runF a l) m := by
  intro l
  induction l with
  | nil => intro m a _; rw [run_nil]; rfl
  | cons n t ih =>
    intro m a h
    have h1 := h n (List.mem_cons_self ..)
    rw [List.cons_append, run_one a _ h1.1 h1.2, run_one a _ h1.1 h1.2]
    exact ih m _ (fun x hx => h x (List.mem_cons_of_mem _ hx))
theorem apply_app {a : At} {l m : List Int} (hl : l ≠ []) (hm : m ≠ []) (h : Bare l) : applyF a (l ++ m) = applyF (applyF a l) m := by
  unfold applyF
  rw [if_neg (by simp [hl]), if_neg hm, if_neg hl, run_app l m a h]

/-! An attribute that may be stays one. -/
theorem or_small {x y : Int} (h0 : 0 ≤ x) (h1 : x < 256) (g0 : 0 ≤ y) (g1 : y < 256) : orF x y < 256 := by
  obtain ⟨a, rfl⟩ := as_bv h0 (by omega)
  obtain ⟨b, rfl⟩ := as_bv g0 (by omega)
  rw [orF_bv, BitVec.toNat_or]
  have := Nat.or_lt_two_pow (n := 8) (x := a.toNat) (y := b.toNat) (by omega) (by omega)
  omega
theorem not_small {x y : Int} (h0 : 0 ≤ x) (h1 : x < 256) (g0 : 0 ≤ y) (g1 : y < 256) : notF x y < 256 := by
  obtain ⟨a, rfl⟩ := as_bv h0 (by omega)
  obtain ⟨b, rfl⟩ := as_bv g0 (by omega)
  rw [notF_bv, BitVec.toNat_and]
  have := Nat.and_le_left (n := a.toNat) (m := (~~~b).toNat)
  omega
theorem col_of {c : Int} (h : c ≤ 256 ∨ (16777216 ≤ c ∧ c < 33554432)) : colF c = true := by simpa [colF] using h
theorem of_col {c : Int} (h : colF c = true) : c ≤ 256 ∨ (16777216 ≤ c ∧ c < 33554432) := by simpa [colF] using h
theorem named_col {u b no c n : Int} (h : colF c = true) : colF (namedF u b no c n) = true := by
  unfold namedF
  split
  · exact col_of (.inl (by omega))
  · split
    · exact col_of (.inl (by omega))
    · split
      · exact col_of (.inl (by omega))
      · exact h
theorem fol_col {c : Int} (l : List Int) (h : colF c = true) : colF (folF c l).1 = true := by
  rcases fol_cases l with ⟨y, t, rfl⟩ | ⟨x, y, z, t, rfl⟩ | hD
  · rw [fol_five]
    dsimp only
    split
    · rename_i hb; simp only [isB, decide_eq_true_eq] at hb; exact col_of (.inl (by omega))
    · exact h
  · rw [fol_two]
    dsimp only
    split
    · rename_i hb; simp only [Bool.and_eq_true] at hb; have := rgb_in hb.1.1 hb.1.2 hb.2; exact col_of (.inr ⟨by omega, by omega⟩)
    · exact h
  · rw [fol_dumb hD]; exact h
structure MayP (a : At) : Prop where
  ok : a.Ok
  g : a.g < 256
  f : colF a.f = true
  b : colF a.b = true
theorem may_p {a : At} (ha : a.Ok) (h : mayF a = true) : MayP a := by
  simp only [mayF, Bool.and_eq_true, decide_eq_true_eq] at h
  exact ⟨ha, h.1.1, h.1.2, h.2⟩
theorem p_may {a : At} (h : MayP a) : mayF a = true := by simp [mayF, h.g, h.f, h.b]
theorem zero_may : MayP zero := ⟨zero_ok, by simp [zero], by decide, by decide⟩
theorem one_may {a : At} (h : MayP a) (n : Int) : MayP (oneF a n) := by
  refine ⟨one_ok h.ok n, ?_, ?_, ?_⟩ <;> unfold oneF <;> split
  · simp [zero]
  · have he := end_in n
    have hf := flag_in n
    have h1 := not_small h.ok.g0 h.g (y := endF n) (by omega) (by omega)
    have h2 := notF_in h.ok.g0 h.ok.g1 (y := endF n) (by omega) (by omega)
    exact or_small h2.1 h1 (by omega) (by omega)
  · decide
  · exact named_col h.f
  · decide
  · exact named_col h.b
theorem run_may : ∀ (k : Nat) (l : List Int) (a : At), l.length ≤ k → MayP a → MayP (runF a l) := by
  intro k
  induction k with
  | zero => intro l a hl h; obtain rfl : l = [] := List.eq_nil_of_length_eq_zero (by omega); rw [run_nil]; exact h
  | succ k ih =>
    intro l a hl h
    rcases l with _ | ⟨n, t⟩
    · rw [run_nil]; exact h
    · simp at hl
      by_cases h1 : n = 38
      · subst h1; rw [run_fg]; exact ih _ _ (by have := fol_len a.f t; omega) ⟨fg_ok h.ok t, h.g, fol_col t h.f, h.b⟩
      by_cases h2 : n = 48
      · subst h2; rw [run_bg]; exact ih _ _ (by have := fol_len a.b t; omega) ⟨bg_ok h.ok t, h.g, h.f, fol_col t h.b⟩
      rw [run_one a t h1 h2]
      exact ih _ _ hl (one_may h n)
theorem apply_may {a : At} (ha : a.Ok) (h : mayF a = true) (l : List Int) : mayF (applyF a l) = true := by
  unfold applyF
  split
  · exact p_may zero_may
  · exact p_may (run_may _ l a (Nat.le_refl _) (may_p ha h))

/-! The last number of a kind. -/
theorem one_twice {a : At} (ha : a.Ok) (n : Int) : oneF (oneF a n) n = oneF a n := by
  have hb := one_ok ha n
  rcases kinds n with h | h | h | h | h | h | h | ⟨h0, h1, h2, h3, h4, h5, h6⟩
  · subst h; rw [one_zero, one_zero]
  · have hf := flag_in n
    rw [one_set hb h, one_set ha h]
    simp only [At.mk.injEq, true_and]
    exact orF_twice ha.g0 ha.g1 (by omega) (by omega)
  · have hf := end_in n
    rw [one_off hb h, one_off ha h]
    simp only [At.mk.injEq, true_and]
    exact notF_twice ha.g0 ha.g1 (by omega) (by omega)
  · rw [one_fg hb h, one_fg ha h]
    simp only [At.mk.injEq, and_true]
    unfold namedF
    (repeat' split) <;> omega
  · rw [one_bg hb h, one_bg ha h]
    simp only [At.mk.injEq, and_true, true_and]
    unfold namedF
    (repeat' split) <;> omega
  · subst h
    rw [show oneF (oneF a 38) 38 = oneF a 38 from ?_]
    unfold oneF
    rw [if_neg (by decide), if_neg (by decide)]
    simp only [At.mk.injEq]
    have hn := notF_in ha.g0 ha.g1 (y := endF 38) (by decide) (by decide)
    refine ⟨?_, ?_, ?_⟩
    · unfold namedF; (repeat' split) <;> omega
    · unfold namedF; (repeat' split) <;> omega
    · rw [show flagF 38 = 0 by decide, show endF 38 = 0 by decide, notF_zero ha.g0 ha.g1, orF_zero ha.g0 ha.g1, notF_zero ha.g0 ha.g1, orF_zero ha.g0 ha.g1]
  · subst h
    unfold oneF
    rw [if_neg (by decide), if_neg (by decide)]
    simp only [At.mk.injEq]
    refine ⟨?_, ?_, ?_⟩
    · unfold namedF; (repeat' split) <;> omega
    · unfold namedF; (repeat' split) <;> omega
    · rw [show flagF 48 = 0 by decide, show endF 48 = 0 by decide, notF_zero ha.g0 ha.g1, orF_zero ha.g0 ha.g1, notF_zero ha.g0 ha.g1, orF_zero ha.g0 ha.g1]
  · rw [one_none ha h0 h1 h2 h3 h4 h5 h6, one_none ha h0 h1 h2 h3 h4 h5 h6]

/-- A number that sets a flag, and the one that takes it away. -/
inductive Pair : Int → Int → Prop
  | bold : Pair 1 22
  | faint : Pair 2 22
  | italic : Pair 3 23
  | under : Pair 4 24
  | blink : Pair 5 25
  | inverse : Pair 7 27
  | hidden : Pair 8 28
  | strike : Pair 9 29
theorem pair_bits {p q : Int} (h : Pair p q) : (p = 1 ∨ p = 2 ∨ p = 3 ∨ p = 4 ∨ p = 5 ∨ p = 7 ∨ p = 8 ∨ p = 9) ∧ (q = 22 ∨ q = 23 ∨ q = 24 ∨ q = 25 ∨ q = 27 ∨ q = 28 ∨ q = 29) ∧
    ∃ (y z : BitVec 16) (i : Nat), flagF p = (y.toNat : Int) ∧ endF q = (z.toNat : Int) ∧ y &&& ~~~z = 0#16 ∧ i < 16 ∧ y.getLsbD i = true ∧ z.getLsbD i = true := by
  cases h
  · exact ⟨by omega, by omega, 1#16, 3#16, 0, by decide, by decide, by decide, by decide, by decide, by decide⟩
  · exact ⟨by omega, by omega, 2#16, 3#16, 1, by decide, by decide, by decide, by decide, by decide, by decide⟩
  · exact ⟨by omega, by omega, 4#16, 4#16, 2, by decide, by decide, by decide, by decide, by decide, by decide⟩
  · exact ⟨by omega, by omega, 8#16, 8#16, 3, by decide, by decide, by decide, by decide, by decide, by decide⟩
  · exact ⟨by omega, by omega, 16#16, 16#16, 4, by decide, by decide, by decide, by decide, by decide, by decide⟩
  · exact ⟨by omega, by omega, 32#16, 32#16, 5, by decide, by decide, by decide, by decide, by decide, by decide⟩
  · exact ⟨by omega, by omega, 64#16, 64#16, 6, by decide, by decide, by decide, by decide, by decide, by decide⟩
  · exact ⟨by omega, by omega, 128#16, 128#16, 7, by decide, by decide, by decide, by decide, by decide, by decide⟩
theorem pair_gone {a : At} (ha : a.Ok) {p q : Int} (h : Pair p q) : oneF (oneF a p) q = oneF a q := by
  obtain ⟨hp, hq, y, z, i, e1, e2, e3, _⟩ := pair_bits h
  rw [one_off (one_ok ha p) hq, one_off ha hq, one_set ha hp]
  simp only [At.mk.injEq, true_and]
  rw [e1, e2]
  exact notF_orF ha.g0 ha.g1 y z e3
theorem pair_back {a : At} (ha : a.Ok) {p q : Int} (h : Pair p q) : oneF (oneF a q) p ≠ oneF a q := by
  obtain ⟨hp, hq, y, z, i, e1, e2, _, hi, hy, hz⟩ := pair_bits h
  rw [one_set (one_ok ha q) hp, one_off ha hq]
  intro e
  simp only [At.mk.injEq, true_and] at e
  rw [e1, e2] at e
  exact orF_ne ha.g0 ha.g1 y z i hi hy hz e

end Go.Proofs.YtlpihhjdgipgnaaDoor.Sgr
