/-
  sgr: the plain functions that the calls compute, and what is true of them. No program.
-/
import Derived.WalkKit
namespace Go.Proofs.YtlpihhjdgipgnaaDoor.Sgr
open Go

structure At where
  f : Int
  b : Int
  g : Int
deriving DecidableEq

def zero : At := ⟨0, 0, 0⟩
def orF (x y : Int) : Int := bits .or .u16 x y
def notF (x y : Int) : Int := bits .andNot .u16 x y

/-- What an attribute's fields can be. -/
structure At.Ok (a : At) : Prop where
  f0 : 0 ≤ a.f
  f1 : a.f ≤ 4294967295
  b0 : 0 ≤ a.b
  b1 : a.b ≤ 4294967295
  g0 : 0 ≤ a.g
  g1 : a.g ≤ 65535
theorem zero_ok : zero.Ok := by constructor <;> simp [zero]

/-! Bits. -/
theorem ofInt_bv (x : BitVec 16) : BitVec.ofInt 16 (x.toNat : Int) = x := by simp
theorem as_bv {x : Int} (h0 : 0 ≤ x) (h1 : x ≤ 65535) : ∃ a : BitVec 16, x = (a.toNat : Int) := ⟨BitVec.ofNat 16 x.toNat, by simp; omega⟩
theorem wrap_bv (x : BitVec 16) : IntKind.u16.wrap (x.toNat : Int) = x.toNat := by
  have := x.isLt
  simp [IntKind.wrap, IntKind.bits, IntKind.signed]
  omega
theorem orF_bv (x y : BitVec 16) : orF x.toNat y.toNat = ((x ||| y).toNat : Int) := by
  show IntKind.u16.wrap (((BitVec.ofInt 16 (x.toNat : Int) ||| BitVec.ofInt 16 (y.toNat : Int)).toNat : Nat) : Int) = _
  rw [ofInt_bv, ofInt_bv, wrap_bv]
theorem notF_bv (x y : BitVec 16) : notF x.toNat y.toNat = ((x &&& ~~~y).toNat : Int) := by
  show IntKind.u16.wrap (((BitVec.ofInt 16 (x.toNat : Int) &&& ~~~ (BitVec.ofInt 16 (y.toNat : Int))).toNat : Nat) : Int) = _
  rw [ofInt_bv, ofInt_bv, wrap_bv]
theorem bv_lt (a : BitVec 16) : 0 ≤ (a.toNat : Int) ∧ (a.toNat : Int) ≤ 65535 := by have := a.isLt; omega
theorem orF_in {x y : Int} (h0 : 0 ≤ x) (h1 : x ≤ 65535) (g0 : 0 ≤ y) (g1 : y ≤ 65535) : 0 ≤ orF x y ∧ orF x y ≤ 65535 := by
  obtain ⟨a, rfl⟩ := as_bv h0 h1
  obtain ⟨b, rfl⟩ := as_bv g0 g1
  rw [orF_bv]; exact bv_lt _
theorem notF_in {x y : Int} (h0 : 0 ≤ x) (h1 : x ≤ 65535) (g0 : 0 ≤ y) (g1 : y ≤ 65535) : 0 ≤ notF x y ∧ notF x y ≤ 65535 := by
  obtain ⟨a, rfl⟩ := as_bv h0 h1
  obtain ⟨b, rfl⟩ := as_bv g0 g1
  rw [notF_bv]; exact bv_lt _
theorem orF_zero {x : Int} (h0 : 0 ≤ x) (h1 : x ≤ 65535) : orF x 0 = x := by
  obtain ⟨a, rfl⟩ := as_bv h0 h1
  have := orF_bv a 0
  simpa using this
theorem notF_zero {x : Int} (h0 : 0 ≤ x) (h1 : x ≤ 65535) : notF x 0 = x := by
  obtain ⟨a, rfl⟩ := as_bv h0 h1
  have h := notF_bv a 0
  have e : a &&& ~~~(0 : BitVec 16) = a := by rw [show (~~~(0 : BitVec 16)) = BitVec.allOnes 16 by decide, BitVec.and_allOnes]
  rw [e] at h
  exact h
theorem orF_twice {x y : Int} (h0 : 0 ≤ x) (h1 : x ≤ 65535) (g0 : 0 ≤ y) (g1 : y ≤ 65535) : orF (orF x y) y = orF x y := by
  obtain ⟨a, rfl⟩ := as_bv h0 h1
  obtain ⟨b, rfl⟩ := as_bv g0 g1
  rw [orF_bv, orF_bv, BitVec.or_assoc, BitVec.or_self]
theorem notF_twice {x y : Int} (h0 : 0 ≤ x) (h1 : x ≤ 65535) (g0 : 0 ≤ y) (g1 : y ≤ 65535) : notF (notF x y) y = notF x y := by
  obtain ⟨a, rfl⟩ := as_bv h0 h1
  obtain ⟨b, rfl⟩ := as_bv g0 g1
  rw [notF_bv, notF_bv, BitVec.and_assoc, BitVec.and_self]
/-- What is set and then taken away by more. -/
theorem notF_orF {x : Int} (h0 : 0 ≤ x) (h1 : x ≤ 65535) (y z : BitVec 16) (h : y &&& ~~~z = 0#16) : notF (orF x y.toNat) z.toNat = notF x z.toNat := by
  obtain ⟨a, rfl⟩ := as_bv h0 h1
  rw [orF_bv, notF_bv, notF_bv]
  have : (a ||| y) &&& ~~~z = a &&& ~~~z := by
    apply BitVec.eq_of_getLsbD_eq
    intro i hi
    have hy : (y &&& ~~~z).getLsbD i = false := by rw [h]; simp
    rw [BitVec.getLsbD_and] at hy
    rw [BitVec.getLsbD_and, BitVec.getLsbD_and, BitVec.getLsbD_or]
    revert hy
    cases a.getLsbD i <;> cases y.getLsbD i <;> cases (~~~z).getLsbD i <;> simp
  rw [this]
/-- What was taken away and is set again is another one. -/
theorem orF_ne {x : Int} (h0 : 0 ≤ x) (h1 : x ≤ 65535) (y z : BitVec 16) (i : Nat) (_hi : i < 16) (hy : y.getLsbD i = true) (hz : z.getLsbD i = true) : orF (notF x z.toNat) y.toNat ≠ notF x z.toNat := by
  obtain ⟨a, rfl⟩ := as_bv h0 h1
  rw [notF_bv, orF_bv]
  intro e
  have e' : ((a &&& ~~~z) ||| y).toNat = (a &&& ~~~z).toNat := by exact_mod_cast e
  have := congrArg (·.getLsbD i) (BitVec.eq_of_toNat_eq e')
  simp [hy, hz] at this

/-! One number. -/
def flagF (n : Int) : Int := if n = 1 then 1 else if n = 2 then 2 else if n = 3 then 4 else if n = 4 then 8 else if n = 5 then 16 else if n = 7 then 32 else if n = 8 then 64 else if n = 9 then 128 else 0
def endF (n : Int) : Int := if n = 22 then 3 else if 22 < n then flagF (n - 20) else 0
def namedF (u b no c n : Int) : Int := if u ≤ n ∧ n < u + 8 then n - u + 1 else if b + 8 ≤ n ∧ n < b + 16 then n - b + 1 else if n = no then 0 else c
def oneF (a : At) (n : Int) : At := if n = 0 then zero else ⟨namedF 30 82 39 a.f n, namedF 40 92 49 a.b n, orF (notF a.g (endF n)) (flagF n)⟩
def isB (n : Int) : Bool := decide (0 ≤ n ∧ n ≤ 255)
def rgbF (x y z : Int) : Int := 16777216 + x * 65536 + y * 256 + z
def folF (c : Int) (l : List Int) : Int × List Int :=
  if 2 ≤ l.length ∧ l.getD 0 0 = 5 then (if isB (l.getD 1 0) then l.getD 1 0 + 1 else c, l.drop 2)
  else if 4 ≤ l.length ∧ l.getD 0 0 = 2 then (if isB (l.getD 1 0) && isB (l.getD 2 0) && isB (l.getD 3 0) then rgbF (l.getD 1 0) (l.getD 2 0) (l.getD 3 0) else c, l.drop 4)
  else (c, [])
theorem fol_len (c : Int) (l : List Int) : (folF c l).2.length ≤ l.length := by
  unfold folF
  split
  · simp
  · split <;> simp
def runF (a : At) : List Int → At
  | [] => a
  | n :: t => if n = 38 then runF ⟨(folF a.f t).1, a.b, a.g⟩ (folF a.f t).2 else if n = 48 then runF ⟨a.f, (folF a.b t).1, a.g⟩ (folF a.b t).2 else runF (oneF a n) t
termination_by l => l.length
decreasing_by
  · have := fol_len a.f t; simp; omega
  · have := fol_len a.b t; simp; omega
  · simp
def applyF (a : At) (l : List Int) : At := if l = [] then zero else runF a l

theorem run_nil (a : At) : runF a [] = a := by rw [runF]
theorem run_fg (a : At) (t : List Int) : runF a (38 :: t) = runF ⟨(folF a.f t).1, a.b, a.g⟩ (folF a.f t).2 := by rw [runF, if_pos rfl]
theorem run_bg (a : At) (t : List Int) : runF a (48 :: t) = runF ⟨a.f, (folF a.b t).1, a.g⟩ (folF a.b t).2 := by rw [runF, if_neg (by decide), if_pos rfl]
theorem run_one (a : At) {n : Int} (t : List Int) (h1 : n ≠ 38) (h2 : n ≠ 48) : runF a (n :: t) = runF (oneF a n) t := by rw [runF, if_neg h1, if_neg h2]

theorem flag_in (n : Int) : 0 ≤ flagF n ∧ flagF n ≤ 255 := by unfold flagF; (repeat' split) <;> omega
theorem end_in (n : Int) : 0 ≤ endF n ∧ endF n ≤ 255 := by
  have := flag_in (n - 20)
  unfold endF; (repeat' split) <;> omega
theorem named_in {u b no c n : Int} (h0 : 0 ≤ c) (h1 : c ≤ 4294967295) : 0 ≤ namedF u b no c n ∧ namedF u b no c n ≤ 4294967295 := by unfold namedF; (repeat' split) <;> omega
theorem rgb_in {x y z : Int} (hx : isB x = true) (hy : isB y = true) (hz : isB z = true) : 16777216 ≤ rgbF x y z ∧ rgbF x y z < 33554432 := by
  simp only [isB, decide_eq_true_eq] at hx hy hz
  unfold rgbF
  omega
theorem fol_in {c : Int} (l : List Int) (h0 : 0 ≤ c) (h1 : c ≤ 4294967295) : 0 ≤ (folF c l).1 ∧ (folF c l).1 ≤ 4294967295 := by
  unfold folF
  split
  · dsimp only
    split
    · rename_i h; simp only [isB, decide_eq_true_eq] at h; omega
    · omega
  · split
    · dsimp only
      split
      · rename_i h; simp only [Bool.and_eq_true] at h; have := rgb_in h.1.1 h.1.2 h.2; omega
      · omega
    · exact ⟨h0, h1⟩
theorem one_ok {a : At} (h : a.Ok) (n : Int) : (oneF a n).Ok := by
  unfold oneF
  split
  · exact zero_ok
  · have he := end_in n
    have hf := flag_in n
    have hn := notF_in h.g0 h.g1 (y := endF n) (by omega) (by omega)
    have ho := orF_in hn.1 hn.2 (y := flagF n) (by omega) (by omega)
    have h1 := named_in (u := 30) (b := 82) (no := 39) (n := n) h.f0 h.f1
    have h2 := named_in (u := 40) (b := 92) (no := 49) (n := n) h.b0 h.b1
    exact ⟨h1.1, h1.2, h2.1, h2.2, ho.1, ho.2⟩
theorem fg_ok {a : At} (h : a.Ok) (l : List Int) : At.Ok ⟨(folF a.f l).1, a.b, a.g⟩ := ⟨(fol_in l h.f0 h.f1).1, (fol_in l h.f0 h.f1).2, h.b0, h.b1, h.g0, h.g1⟩
theorem bg_ok {a : At} (h : a.Ok) (l : List Int) : At.Ok ⟨a.f, (folF a.b l).1, a.g⟩ := ⟨h.f0, h.f1, (fol_in l h.b0 h.b1).1, (fol_in l h.b0 h.b1).2, h.g0, h.g1⟩
theorem run_ok : ∀ (k : Nat) (l : List Int) (a : At), l.length ≤ k → a.Ok → (runF a l).Ok := by
  intro k
  induction k with
  | zero => intro l a hl h; obtain rfl : l = [] := List.eq_nil_of_length_eq_zero (by omega); rw [run_nil]; exact h
  | succ k ih =>
    intro l a hl h
    rcases l with _ | ⟨n, t⟩
    · rw [run_nil]; exact h
    · simp at hl
      by_cases h1 : n = 38
      · subst h1; rw [run_fg]; exact ih _ _ (by have := fol_len a.f t; omega) (fg_ok h t)
      by_cases h2 : n = 48
      · subst h2; rw [run_bg]; exact ih _ _ (by have := fol_len a.b t; omega) (bg_ok h t)
      rw [run_one a t h1 h2]
      exact ih _ _ hl (one_ok h n)
theorem apply_ok {a : At} (h : a.Ok) (l : List Int) : (applyF a l).Ok := by
  unfold applyF
  split
  · exact zero_ok
  · exact run_ok _ l a (Nat.le_refl _) h

/-! What the kinds of numbers are. -/
inductive Kind (n : Int) : Prop
  | zero (h : n = 0)
  | set (h : n = 1 ∨ n = 2 ∨ n = 3 ∨ n = 4 ∨ n = 5 ∨ n = 7 ∨ n = 8 ∨ n = 9)
  | off (h : n = 22 ∨ n = 23 ∨ n = 24 ∨ n = 25 ∨ n = 27 ∨ n = 28 ∨ n = 29)
  | fg (h : (30 ≤ n ∧ n ≤ 37) ∨ (90 ≤ n ∧ n ≤ 97) ∨ n = 39)
  | bg (h : (40 ≤ n ∧ n ≤ 47) ∨ (100 ≤ n ∧ n ≤ 107) ∨ n = 49)
  | fgc (h : n = 38)
  | bgc (h : n = 48)
  | none (h0 : n ≠ 0) (h1 : ¬ (1 ≤ n ∧ n ≤ 5)) (h2 : ¬ (7 ≤ n ∧ n ≤ 9)) (h3 : ¬ (22 ≤ n ∧ n ≤ 25)) (h4 : ¬ (27 ≤ n ∧ n ≤ 49)) (h5 : ¬ (90 ≤ n ∧ n ≤ 97)) (h6 : ¬ (100 ≤ n ∧ n ≤ 107))
theorem kinds (n : Int) : Kind n := by
  by_cases h0 : n = 0
  · exact .zero h0
  by_cases h1 : n = 1 ∨ n = 2 ∨ n = 3 ∨ n = 4 ∨ n = 5 ∨ n = 7 ∨ n = 8 ∨ n = 9
  · exact .set h1
  by_cases h2 : n = 22 ∨ n = 23 ∨ n = 24 ∨ n = 25 ∨ n = 27 ∨ n = 28 ∨ n = 29
  · exact .off h2
  by_cases h3 : (30 ≤ n ∧ n ≤ 37) ∨ (90 ≤ n ∧ n ≤ 97) ∨ n = 39
  · exact .fg h3
  by_cases h4 : (40 ≤ n ∧ n ≤ 47) ∨ (100 ≤ n ∧ n ≤ 107) ∨ n = 49
  · exact .bg h4
  by_cases h5 : n = 38
  · exact .fgc h5
  by_cases h6 : n = 48
  · exact .bgc h6
  exact .none h0 (by omega) (by omega) (by omega) (by omega) (by omega) (by omega)

/-! The reference's words of one number. -/
def rflagF (n : Int) : Int × Int := if n = 22 then (3, 2) else if flagF n ≠ 0 then (flagF n, 1) else if 23 ≤ n ∧ flagF (n - 20) ≠ 0 then (flagF (n - 20), 2) else (0, 0)
def baseF (n : Int) : Int × Bool :=
  if 30 ≤ n ∧ n ≤ 37 then (n - 29, false) else if 40 ≤ n ∧ n ≤ 47 then (n - 39, true) else if 90 ≤ n ∧ n ≤ 97 then (n - 81, false) else if 100 ≤ n ∧ n ≤ 107 then (n - 91, true)
  else if n = 39 then (0, false) else if n = 49 then (0, true) else (999, false)

theorem flag_none {n : Int} (h : ¬ (n = 1 ∨ n = 2 ∨ n = 3 ∨ n = 4 ∨ n = 5 ∨ n = 7 ∨ n = 8 ∨ n = 9)) : flagF n = 0 := by
  unfold flagF
  (repeat' split) <;> omega
theorem end_none {n : Int} (h : ¬ (n = 22 ∨ n = 23 ∨ n = 24 ∨ n = 25 ∨ n = 27 ∨ n = 28 ∨ n = 29)) : endF n = 0 := by
  unfold endF
  split
  · omega
  · split
    · exact flag_none (by omega)
    · rfl
theorem named_none {u b no c n : Int} (h : ¬ (u ≤ n ∧ n < u + 8)) (h' : ¬ (b + 8 ≤ n ∧ n < b + 16)) (hn : n ≠ no) : namedF u b no c n = c := by unfold namedF; rw [if_neg h, if_neg h', if_neg hn]

theorem one_zero (a : At) : oneF a 0 = zero := if_pos rfl
theorem one_set {a : At} (ha : a.Ok) {n : Int} (h : n = 1 ∨ n = 2 ∨ n = 3 ∨ n = 4 ∨ n = 5 ∨ n = 7 ∨ n = 8 ∨ n = 9) : oneF a n = ⟨a.f, a.b, orF a.g (flagF n)⟩ := by
  unfold oneF
  rw [if_neg (by omega), named_none (by omega) (by omega) (by omega), named_none (by omega) (by omega) (by omega), end_none (by omega), notF_zero ha.g0 ha.g1]
theorem one_off {a : At} (ha : a.Ok) {n : Int} (h : n = 22 ∨ n = 23 ∨ n = 24 ∨ n = 25 ∨ n = 27 ∨ n = 28 ∨ n = 29) : oneF a n = ⟨a.f, a.b, notF a.g (endF n)⟩ := by
  have he := end_in n
  have hn := notF_in ha.g0 ha.g1 (y := endF n) (by omega) (by omega)
  unfold oneF
  rw [if_neg (by omega), named_none (by omega) (by omega) (by omega), named_none (by omega) (by omega) (by omega), flag_none (by omega), orF_zero hn.1 hn.2]
theorem one_fg {a : At} (ha : a.Ok) {n : Int} (h : (30 ≤ n ∧ n ≤ 37) ∨ (90 ≤ n ∧ n ≤ 97) ∨ n = 39) : oneF a n = ⟨namedF 30 82 39 a.f n, a.b, a.g⟩ := by
  unfold oneF
  rw [if_neg (by omega), named_none (u := 40) (by omega) (by omega) (by omega), flag_none (by omega), end_none (by omega), notF_zero ha.g0 ha.g1, orF_zero ha.g0 ha.g1]
theorem one_bg {a : At} (ha : a.Ok) {n : Int} (h : (40 ≤ n ∧ n ≤ 47) ∨ (100 ≤ n ∧ n ≤ 107) ∨ n = 49) : oneF a n = ⟨a.f, namedF 40 92 49 a.b n, a.g⟩ := by
  unfold oneF
  rw [if_neg (by omega), named_none (u := 30) (by omega) (by omega) (by omega), flag_none (by omega), end_none (by omega), notF_zero ha.g0 ha.g1, orF_zero ha.g0 ha.g1]
theorem one_none {a : At} (ha : a.Ok) {n : Int} (h0 : n ≠ 0) (h1 : ¬ (1 ≤ n ∧ n ≤ 5)) (h2 : ¬ (7 ≤ n ∧ n ≤ 9)) (h3 : ¬ (22 ≤ n ∧ n ≤ 25)) (h4 : ¬ (27 ≤ n ∧ n ≤ 49)) (h5 : ¬ (90 ≤ n ∧ n ≤ 97)) (h6 : ¬ (100 ≤ n ∧ n ≤ 107)) : oneF a n = a := by
  unfold oneF
  rw [if_neg h0, named_none (by omega) (by omega) (by omega), named_none (by omega) (by omega) (by omega), flag_none (by omega), end_none (by omega), notF_zero ha.g0 ha.g1, orF_zero ha.g0 ha.g1]

/-! Which may be. -/
def colF (c : Int) : Bool := decide (c ≤ 256 ∨ (16777216 ≤ c ∧ c < 33554432))
def mayF (a : At) : Bool := decide (a.g < 256) && colF a.f && colF a.b

end Go.Proofs.YtlpihhjdgipgnaaDoor.Sgr
