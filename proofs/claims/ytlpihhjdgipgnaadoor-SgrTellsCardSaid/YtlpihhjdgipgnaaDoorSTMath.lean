/-
  sgr: the numbers of an attribute, and that they make it.
-/
import Derived.Test.YtlpihhjdgipgnaaDoorSPMath
import Derived.Test.YtlpihhjdgipgnaaDoorSLeaf
namespace Go.Proofs.YtlpihhjdgipgnaaDoor.Sgr
open Go

def hasF (g x : Int) : Bool := bits .and .u16 g x != 0
/-- The numbers of the flags that are set, of the first k. -/
def flagsTo (g : Int) : Nat → List Int
  | 0 => []
  | k + 1 => flagsTo g k ++ (if hasF g (flagF (tab.getD k 0)) then [tab.getD k 0] else [])
def rTo (g : Int) : Nat → List Int
  | 0 => []
  | k + 1 => rTo g k ++ (if flagF (k + 1) ≠ 0 ∧ hasF g (flagF (k + 1)) = true then [(k : Int) + 1] else [])
def numF (u b fo c : Int) : List Int :=
  if c = 0 then [] else if 16777216 ≤ c then [fo, 2, c / 65536 % 256, c / 256 % 256, c % 256] else if c ≤ 8 then [u + (c - 1)] else if c ≤ 16 then [b + (c - 1)] else [fo, 5, c - 1]
def numbersF (a : At) : List Int := (0 :: flagsTo a.g 8) ++ numF 30 82 38 a.f ++ numF 40 92 48 a.b

theorem to_same (g : Int) : rTo g 9 = flagsTo g 8 := by
  simp [rTo, flagsTo, tab, flagF]
theorem run_fold : ∀ (l : List Int) (a : At), Bare l → runF a l = l.foldl oneF a := by
  intro l
  induction l with
  | nil => intro a _; rw [run_nil]; rfl
  | cons n t ih =>
    intro a h
    have h1 := h n (List.mem_cons_self ..)
    rw [run_one a t h1.1 h1.2, List.foldl_cons]
    exact ih _ (fun x hx => h x (List.mem_cons_of_mem _ hx))
theorem flags_mem (g : Int) : ∀ k, k ≤ 8 → ∀ n ∈ flagsTo g k, 1 ≤ n ∧ n ≤ 9 := by
  have ht : ∀ k : Fin 8, 1 ≤ tab.getD k.val 0 ∧ tab.getD k.val 0 ≤ 9 := by decide
  intro k
  induction k with
  | zero => intro _ n hn; cases hn
  | succ k ih =>
    intro hk n hn
    rw [flagsTo] at hn
    rcases List.mem_append.1 hn with hn | hn
    · exact ih (by omega) n hn
    · split at hn
      · simp only [List.mem_singleton] at hn; rw [hn]; exact ht ⟨k, by omega⟩
      · cases hn
theorem flags_len (g : Int) : ∀ k, (flagsTo g k).length ≤ k := by
  intro k
  induction k with
  | zero => simp [flagsTo]
  | succ k ih =>
    rw [flagsTo, List.length_append]
    split <;> simp <;> omega
theorem rto_len (g : Int) : ∀ k, (rTo g k).length ≤ k := by
  intro k
  induction k with
  | zero => simp [rTo]
  | succ k ih =>
    rw [rTo, List.length_append]
    split <;> simp <;> omega
theorem flags_bare (g : Int) : Bare (flagsTo g 8) := fun n hn => by
  have := flags_mem g 8 (Nat.le_refl _) n hn
  exact ⟨by omega, by omega⟩
theorem num_len (u b fo c : Int) : (numF u b fo c).length ≤ 5 := by
  unfold numF
  (repeat' split) <;> simp
theorem flags_make {g : Int} (h0 : 0 ≤ g) (h1 : g < 256) : runF zero (flagsTo g 8) = ⟨0, 0, g⟩ := by
  rw [run_fold _ _ (flags_bare g)]
  have hall : ∀ m : Fin 256, (flagsTo (m.val : Int) 8).foldl oneF zero = ⟨0, 0, (m.val : Int)⟩ := by decide +kernel
  obtain ⟨n, rfl⟩ : ∃ n : Nat, g = n := ⟨g.toNat, by omega⟩
  exact hall ⟨n, by omega⟩
theorem fg_make {f g : Int} (h : colF f = true) (h0 : 0 ≤ f) (hg : 0 ≤ g) (hg1 : g < 256) (m : List Int) : runF ⟨0, 0, g⟩ (numF 30 82 38 f ++ m) = runF ⟨f, 0, g⟩ m := by
  have hok : At.Ok ⟨0, 0, g⟩ := ⟨by simp, by simp, by simp, by simp, hg, by simp only; omega⟩
  have hc := of_col h
  unfold numF
  by_cases h1 : f = 0
  · subst h1; rfl
  rw [if_neg h1]
  by_cases h2 : 16777216 ≤ f
  · rw [if_pos h2]
    simp only [List.cons_append, List.nil_append]
    rw [run_fg, fol_two, if_pos (by simp [isB]; omega)]
    have : rgbF (f / 65536 % 256) (f / 256 % 256) (f % 256) = f := by unfold rgbF; omega
    rw [this]
  rw [if_neg h2]
  by_cases h3 : f ≤ 8
  · rw [if_pos h3, List.singleton_append, run_one _ _ (by omega) (by omega), one_fg hok (by omega)]
    have : namedF 30 82 39 0 (30 + (f - 1)) = f := by unfold namedF; rw [if_pos (by omega)]; omega
    rw [this]
  rw [if_neg h3]
  by_cases h4 : f ≤ 16
  · rw [if_pos h4, List.singleton_append, run_one _ _ (by omega) (by omega), one_fg hok (by omega)]
    have : namedF 30 82 39 0 (82 + (f - 1)) = f := by unfold namedF; rw [if_neg (by omega), if_pos (by omega)]; omega
    rw [this]
  · rw [if_neg h4]
    simp only [List.cons_append, List.nil_append]
    rw [run_fg, fol_five, if_pos (by simp [isB]; omega)]
    have : f - 1 + 1 = f := by omega
    rw [this]
theorem bg_make {f b g : Int} (h : colF b = true) (h0 : 0 ≤ b) (hf0 : 0 ≤ f) (hf1 : f ≤ 4294967295) (hg : 0 ≤ g) (hg1 : g < 256) : runF ⟨f, 0, g⟩ (numF 40 92 48 b) = ⟨f, b, g⟩ := by
  have hok : At.Ok ⟨f, 0, g⟩ := ⟨hf0, hf1, by simp, by simp, hg, by simp only; omega⟩
  have hc := of_col h
  unfold numF
  by_cases h1 : b = 0
  · subst h1; rw [if_pos rfl, run_nil]
  rw [if_neg h1]
  by_cases h2 : 16777216 ≤ b
  · rw [if_pos h2]
    rw [run_bg, fol_two, if_pos (by simp [isB]; omega)]
    have : rgbF (b / 65536 % 256) (b / 256 % 256) (b % 256) = b := by unfold rgbF; omega
    rw [this, run_nil]
  rw [if_neg h2]
  by_cases h3 : b ≤ 8
  · rw [if_pos h3, run_one _ _ (by omega) (by omega), one_bg hok (by omega), run_nil]
    have : namedF 40 92 49 0 (40 + (b - 1)) = b := by unfold namedF; rw [if_pos (by omega)]; omega
    rw [this]
  rw [if_neg h3]
  by_cases h4 : b ≤ 16
  · rw [if_pos h4, run_one _ _ (by omega) (by omega), one_bg hok (by omega), run_nil]
    have : namedF 40 92 49 0 (92 + (b - 1)) = b := by unfold namedF; rw [if_neg (by omega), if_pos (by omega)]; omega
    rw [this]
  · rw [if_neg h4]
    rw [run_bg, fol_five, if_pos (by simp [isB]; omega)]
    have : b - 1 + 1 = b := by omega
    rw [this, run_nil]
/-- What Numbers tells makes the attribute out of any other one. -/
theorem tells_back {a : At} (h : MayP a) (b : At) : applyF b (numbersF a) = a := by
  unfold applyF numbersF
  rw [if_neg (by simp), List.append_assoc, List.cons_append, run_one _ _ (by decide) (by decide), one_zero, run_app _ _ _ (flags_bare a.g), flags_make h.ok.g0 h.g, fg_make h.f h.ok.f0 h.ok.g0 h.g, bg_make h.b h.ok.b0 h.ok.f0 h.ok.f1 h.ok.g0 h.g]

/-! Which colours are told by parts. -/
theorem and_pow (n i : Nat) : n &&& 2 ^ i = if n.testBit i = true then 2 ^ i else 0 := by
  apply Nat.eq_of_testBit_eq
  intro j
  rw [Nat.testBit_and, Nat.testBit_two_pow]
  by_cases h : i = j
  · subst h
    cases n.testBit i <;> simp
  · split
    · rw [Nat.testBit_two_pow]; simp [h]
    · simp [h]
theorem and_bit (n : Nat) (h : n < 33554432) : bits .and .u32 (n : Int) 16777216 = if 16777216 ≤ n then 16777216 else 0 := by
  show IntKind.u32.wrap (((BitVec.ofInt 32 (n : Int) &&& BitVec.ofInt 32 (16777216 : Int)).toNat : Nat) : Int) = _
  have e : (BitVec.ofInt 32 (n : Int) &&& BitVec.ofInt 32 (16777216 : Int)).toNat = n &&& 16777216 := by
    rw [BitVec.toNat_and, BitVec.ofInt_natCast, BitVec.toNat_ofNat, Nat.mod_eq_of_lt (by omega)]
    rfl
  rw [e, show (16777216 : Nat) = 2 ^ 24 from by kernel_rfl, and_pow]
  by_cases hn : 2 ^ 24 ≤ n
  · rw [if_pos hn]
    obtain ⟨k, rfl⟩ : ∃ k, n = 2 ^ 24 + k := ⟨n - 2 ^ 24, by omega⟩
    rw [Nat.testBit_two_pow_add_eq, Nat.testBit_lt_two_pow (by omega), if_pos (by decide)]
    exact IntWalk.u32_in 16777216 (by omega)
  · rw [if_neg hn, Nat.testBit_lt_two_pow (by omega), if_neg (by decide)]
    exact IntWalk.u32_in 0 (by omega)
theorem and_bit_int {c : Int} (h0 : 0 ≤ c) (h : c < 33554432) : (bits .and .u32 c 16777216 != 0) = decide (16777216 ≤ c) := by
  obtain ⟨n, rfl⟩ : ∃ n : Nat, c = n := ⟨c.toNat, by omega⟩
  rw [and_bit n (by omega)]
  by_cases hn : 16777216 ≤ n
  · rw [if_pos hn, decide_eq_true (by omega)]; decide
  · rw [if_neg hn, decide_eq_false (by omega)]; decide
theorem and_255 {c : Int} (h0 : 0 ≤ c) (h : c ≤ 4294967295) : bits .and .u32 c 255 = c % 256 := by
  obtain ⟨n, rfl⟩ : ∃ n : Nat, c = n := ⟨c.toNat, by omega⟩
  show IntKind.u32.wrap (((BitVec.ofInt 32 (n : Int) &&& BitVec.ofInt 32 (255 : Int)).toNat : Nat) : Int) = _
  have e : (BitVec.ofInt 32 (n : Int) &&& BitVec.ofInt 32 (255 : Int)).toNat = n &&& 255 := by
    rw [BitVec.toNat_and, BitVec.ofInt_natCast, BitVec.toNat_ofNat, Nat.mod_eq_of_lt (by omega)]
    rfl
  rw [e, show (255 : Nat) = 2 ^ 8 - 1 from by decide, Nat.and_two_pow_sub_one_eq_mod]
  rw [IntWalk.u32_in _ (by omega)]
  omega

end Go.Proofs.YtlpihhjdgipgnaaDoor.Sgr
