/-
  tabs: words of bits as flags; how many bits are set, as the library reckons it; stops as a rising list. No program.
-/
import Derived.Laws.Bits64b
import Derived.Lib.TrailingZeros
namespace Go.Proofs.YtihmagpgbjlggaaDoor.Tbs
open Go

/-! Words of bits. -/
def pack (g : Nat → Bool) : Nat → Nat
  | 0 => 0
  | n + 1 => pack g n ||| (if g n then 2 ^ n else 0)
theorem pack_bit (g : Nat → Bool) (n j : Nat) : (pack g n).testBit j = (decide (j < n) && g j) := by
  induction n with
  | zero => simp [pack]
  | succ n ih =>
    rw [pack, Nat.testBit_or, ih]
    by_cases hj : j = n
    · subst hj
      by_cases hg : g j = true
      · simp [hg]
      · simp [hg]
    · have h2 : (if g n = true then 2 ^ n else 0).testBit j = false := by
        split
        · rw [Nat.testBit_two_pow]; simp; omega
        · simp
      rw [h2, Bool.or_false]
      have : decide (j < n + 1) = decide (j < n) := by rw [decide_eq_decide]; omega
      rw [this]
def wd (f : Nat → Bool) (i : Nat) : Nat := pack (fun j => f (64 * i + j)) 64
theorem wd_bit (f : Nat → Bool) (i j : Nat) : (wd f i).testBit j = (decide (j < 64) && f (64 * i + j)) := pack_bit _ _ _
theorem lt_of_bits {x n : Nat} (h : ∀ j, n ≤ j → x.testBit j = false) : x < 2 ^ n := Nat.lt_pow_two_of_testBit x h
theorem wd_lt (f : Nat → Bool) (i : Nat) : wd f i < 18446744073709551616 :=
  lt_of_bits (n := 64) fun j hj => by rw [wd_bit]; simp; omega
theorem wd_eq {f : Nat → Bool} {i x : Nat} (hx : x < 18446744073709551616) (h : ∀ j, j < 64 → x.testBit j = f (64 * i + j)) : x = wd f i := by
  apply Nat.eq_of_testBit_eq
  intro j
  rw [wd_bit]
  by_cases hj : j < 64
  · simp [hj, h j hj]
  · simp only [hj, decide_false, Bool.false_and]
    exact Nat.testBit_lt_two_pow (Nat.lt_of_lt_of_le hx (show 2 ^ 64 ≤ 2 ^ j from Nat.pow_le_pow_right (by decide) (by omega)))
theorem wd_congr {f g : Nat → Bool} {i : Nat} (h : ∀ j, j < 64 → f (64 * i + j) = g (64 * i + j)) : wd f i = wd g i :=
  wd_eq (wd_lt f i) fun j hj => by rw [wd_bit]; simp [hj, h j hj]
theorem wd_zero {f : Nat → Bool} {i : Nat} (h : ∀ j, j < 64 → f (64 * i + j) = false) : wd f i = 0 :=
  (wd_eq (by decide) fun j hj => by simp [h j hj]).symm

theorem wd_or (f g : Nat → Bool) (i : Nat) : wd f i ||| wd g i = wd (fun c => f c || g c) i :=
  wd_eq (show _ < 2 ^ 64 from Nat.or_lt_two_pow (wd_lt _ _) (wd_lt _ _)) fun j hj => by simp [Nat.testBit_or, wd_bit, hj]
/-- One bit in, one bit out. -/
def putF (f : Nat → Bool) (c : Nat) (b : Bool) : Nat → Bool := fun x => if x = c then b else f x
theorem wd_put (f : Nat → Bool) (c : Nat) : wd f (c / 64) ||| 2 ^ (c % 64) = wd (putF f c true) (c / 64) :=
  wd_eq (show _ < 2 ^ 64 from Nat.or_lt_two_pow (wd_lt _ _) (Nat.pow_lt_pow_right (by decide) (by omega))) fun j hj => by
    rw [Nat.testBit_or, wd_bit, Nat.testBit_two_pow]
    unfold putF
    by_cases e : j = c % 64
    · have : 64 * (c / 64) + j = c := by omega
      rw [if_pos this, e]
      simp
    · have : ¬ 64 * (c / 64) + j = c := by omega
      have e' : ¬ c % 64 = j := fun h => e h.symm
      simp [this, e', hj]
/-- a without the bits of b. -/
def sub (a b : Nat) : Nat := a &&& (18446744073709551615 - b)
theorem not_bit {b : Nat} (hb : b < 18446744073709551616) (j : Nat) : (18446744073709551615 - b).testBit j = (decide (j < 64) && !b.testBit j) := by
  have := Nat.testBit_two_pow_sub_succ (x := b) (n := 64) hb j
  rw [show 18446744073709551615 - b = 2 ^ 64 - (b + 1) by omega, this]
theorem sub_bit {a b : Nat} (hb : b < 18446744073709551616) (j : Nat) : (sub a b).testBit j = (a.testBit j && decide (j < 64) && !b.testBit j) := by
  unfold sub
  rw [Nat.testBit_and, not_bit hb, Bool.and_assoc]
theorem sub_lt {a b : Nat} (ha : a < 18446744073709551616) : sub a b < 18446744073709551616 := Nat.lt_of_le_of_lt Nat.and_le_left ha
theorem wd_off (f : Nat → Bool) (c : Nat) : sub (wd f (c / 64)) (2 ^ (c % 64)) = wd (putF f c false) (c / 64) := by
  have hc : 2 ^ (c % 64) < 18446744073709551616 := show _ < 2 ^ 64 from Nat.pow_lt_pow_right (by decide) (by omega)
  refine wd_eq (sub_lt (wd_lt _ _)) fun j hj => ?_
  rw [sub_bit hc, wd_bit, Nat.testBit_two_pow]
  unfold putF
  by_cases e : j = c % 64
  · have : 64 * (c / 64) + j = c := by omega
    rw [if_pos this, e]
    simp
  · have : ¬ 64 * (c / 64) + j = c := by omega
    have e' : ¬ c % 64 = j := fun h => e h.symm
    simp [this, e', hj]
/-- Another word stays as it is. -/
theorem wd_other (f : Nat → Bool) (c : Nat) (b : Bool) {i : Nat} (h : i ≠ c / 64) : wd (putF f c b) i = wd f i :=
  wd_congr fun j hj => by
    unfold putF
    rw [if_neg (by omega)]

/-- How many bits are below n, held within 0 and 64. -/
def clamp (n : Int) : Nat := min n.toNat 64
def lowF (n : Int) : Nat := 2 ^ clamp n - 1
theorem low_lt (n : Int) : lowF n < 18446744073709551616 := by
  have h1 : 0 < 2 ^ clamp n := Nat.pow_pos (by decide)
  have h2 : 2 ^ clamp n ≤ 2 ^ 64 := Nat.pow_le_pow_right (by decide) (by unfold clamp; omega)
  unfold lowF
  omega
theorem low_bit (n : Int) (j : Nat) (hj : j < 64) : (lowF n).testBit j = decide ((j : Int) < n) := by
  unfold lowF clamp
  rw [Nat.testBit_two_pow_sub_one, decide_eq_decide]
  omega
/-- The stops from a on, below b. -/
def inF (f : Nat → Bool) (a b : Int) : Nat → Bool := fun c => f c && (decide (a ≤ (c : Int)) && decide ((c : Int) < b))
theorem wd_in (f : Nat → Bool) (a b : Int) (i : Nat) : wd f i &&& sub (lowF (b - 64 * (i : Int))) (lowF (a - 64 * (i : Int))) = wd (inF f a b) i := by
  refine wd_eq (Nat.lt_of_le_of_lt Nat.and_le_left (wd_lt _ _)) fun j hj => ?_
  rw [Nat.testBit_and, wd_bit, sub_bit (low_lt _), low_bit _ _ hj, low_bit _ _ hj]
  unfold inF
  have e1 : decide ((j : Int) < b - 64 * (i : Int)) = decide (((64 * i + j : Nat) : Int) < b) := by rw [decide_eq_decide]; omega
  have e2 : (!decide ((j : Int) < a - 64 * (i : Int))) = decide (a ≤ ((64 * i + j : Nat) : Int)) := by
    rw [← decide_not, decide_eq_decide]; omega
  rw [e1, e2]
  simp only [hj, decide_true, Bool.true_and, Bool.and_true]
  cases f (64 * i + j) <;> cases decide (((64 * i + j : Nat) : Int) < b) <;> cases decide (a ≤ ((64 * i + j : Nat) : Int)) <;> rfl

/-! How many bits are set: by the digits of a number. -/
def ds (b : Nat) : Nat → Nat → Nat
  | 0, _ => 0
  | n + 1, x => x % b + ds b n (x / b)
/-- Its n digits are no more than m, and there are no others. -/
def Dle (b m : Nat) : Nat → Nat → Prop
  | 0, x => x = 0
  | n + 1, x => x % b ≤ m ∧ Dle b m n (x / b)
theorem Dle.le {b m : Nat} (hb : 2 ≤ b) : ∀ {n x : Nat}, Dle b m n x → (b - 1) * x + m ≤ m * b ^ n
  | 0, x, h => by unfold Dle at h; subst h; simp
  | n + 1, x, h => by
    obtain ⟨h1, h2⟩ := h
    have ih := Dle.le hb h2
    have e := Nat.div_add_mod x b
    have e2 : (b - 1) * x = b * ((b - 1) * (x / b)) + (b - 1) * (x % b) := by
      conv => lhs; rw [← e]
      rw [Nat.mul_add, ← Nat.mul_assoc, ← Nat.mul_assoc, Nat.mul_comm (b - 1) b]
    have e3 : m * b ^ (n + 1) = b * (m * b ^ n) := by rw [Nat.pow_succ, ← Nat.mul_assoc, Nat.mul_comm]
    have e4 : (b - 1) * (x % b) ≤ (b - 1) * m := Nat.mul_le_mul_left _ h1
    have e5 : b * ((b - 1) * (x / b) + m) ≤ b * (m * b ^ n) := Nat.mul_le_mul_left _ ih
    rw [Nat.mul_add] at e5
    have e6 : (b - 1) * m + m = b * m := by
      conv => rhs; rw [show b = (b - 1) + 1 by omega]
      rw [Nat.add_mul, Nat.one_mul]
    rw [e2, e3]
    omega
theorem and_split (k a m c : Nat) (hc : c < 2 ^ k) : a &&& (2 ^ k * m + c) = 2 ^ k * ((a / 2 ^ k) &&& m) + ((a % 2 ^ k) &&& c) := by
  have hlt : (a % 2 ^ k) &&& c < 2 ^ k := Nat.lt_of_le_of_lt Nat.and_le_right hc
  apply Nat.eq_of_testBit_eq
  intro j
  rw [Nat.testBit_and, Nat.testBit_two_pow_mul_add _ hc, Nat.testBit_two_pow_mul_add _ hlt]
  by_cases hj : j < k
  · simp [hj, Nat.testBit_and, Nat.testBit_mod_two_pow]
  · simp only [hj, if_false, Nat.testBit_and, Nat.testBit_div_two_pow]
    rw [show j - k + k = j by omega]
theorem and_4 (a m : Nat) : a &&& (4 * m + 1) = 4 * ((a / 4) &&& m) + a % 2 := by
  have := and_split 2 a m 1 (by decide)
  have e := Nat.and_two_pow_sub_one_eq_mod (a % 4) 1
  rw [show 2 ^ 1 - 1 = 1 from rfl] at e
  simp only [show (2 : Nat) ^ 2 = 4 from rfl] at this
  rw [this, e]
  omega
theorem and_16 (a m : Nat) : a &&& (16 * m + 3) = 16 * ((a / 16) &&& m) + a % 4 := by
  have := and_split 4 a m 3 (by decide)
  have e := Nat.and_two_pow_sub_one_eq_mod (a % 16) 2
  rw [show 2 ^ 2 - 1 = 3 from rfl] at e
  simp only [show (2 : Nat) ^ 4 = 16 from rfl] at this
  rw [this, e]
  omega
theorem and_256 (a m : Nat) : a &&& (256 * m + 15) = 256 * ((a / 256) &&& m) + a % 16 := by
  have := and_split 8 a m 15 (by decide)
  have e := Nat.and_two_pow_sub_one_eq_mod (a % 256) 4
  rw [show 2 ^ 4 - 1 = 15 from rfl] at e
  simp only [show (2 : Nat) ^ 8 = 256 from rfl] at this
  rw [this, e]
  omega
/-- The masks. -/
def mk (b c : Nat) : Nat → Nat
  | 0 => 0
  | n + 1 => b * mk b c n + c
theorem mk1 : mk 4 1 32 = 6148914691236517205 := by decide
theorem mk2 : mk 16 3 16 = 3689348814741910323 := by decide
theorem mk3 : mk 256 15 8 = 1085102592571150095 := by decide

theorem step1 : ∀ (n x : Nat), ds 4 n ((x / 2 &&& mk 4 1 n) + (x &&& mk 4 1 n)) = ds 2 (2 * n) x ∧ Dle 4 2 n ((x / 2 &&& mk 4 1 n) + (x &&& mk 4 1 n))
  | 0, x => by simp [ds, Dle, mk]
  | n + 1, x => by
    obtain ⟨h1, h2⟩ := step1 n (x / 4)
    have e : (x / 2 &&& mk 4 1 (n + 1)) + (x &&& mk 4 1 (n + 1)) = 4 * ((x / 4 / 2 &&& mk 4 1 n) + (x / 4 &&& mk 4 1 n)) + (x / 2 % 2 + x % 2) := by
      show (x / 2 &&& (4 * mk 4 1 n + 1)) + (x &&& (4 * mk 4 1 n + 1)) = _
      rw [and_4, and_4, show x / 2 / 4 = x / 4 / 2 by omega]
      omega
    rw [e]
    generalize (x / 4 / 2 &&& mk 4 1 n) + (x / 4 &&& mk 4 1 n) = y at h1 h2
    have e1 : (4 * y + (x / 2 % 2 + x % 2)) % 4 = x / 2 % 2 + x % 2 := by omega
    have e2 : (4 * y + (x / 2 % 2 + x % 2)) / 4 = y := by omega
    refine ⟨?_, ?_⟩
    · show (4 * y + (x / 2 % 2 + x % 2)) % 4 + ds 4 n ((4 * y + (x / 2 % 2 + x % 2)) / 4) = x % 2 + (x / 2 % 2 + ds 2 (2 * n) (x / 2 / 2))
      rw [e1, e2, h1, show x / 2 / 2 = x / 4 by omega]
      omega
    · show (4 * y + (x / 2 % 2 + x % 2)) % 4 ≤ 2 ∧ Dle 4 2 n ((4 * y + (x / 2 % 2 + x % 2)) / 4)
      rw [e1, e2]
      exact ⟨by omega, h2⟩
theorem step2 : ∀ (n x : Nat), Dle 4 2 (2 * n) x → ds 16 n ((x / 4 &&& mk 16 3 n) + (x &&& mk 16 3 n)) = ds 4 (2 * n) x ∧ Dle 16 4 n ((x / 4 &&& mk 16 3 n) + (x &&& mk 16 3 n))
  | 0, x, _ => by simp [ds, Dle, mk]
  | n + 1, x, h => by
    obtain ⟨g1, g2, g3⟩ : x % 4 ≤ 2 ∧ x / 4 % 4 ≤ 2 ∧ Dle 4 2 (2 * n) (x / 4 / 4) := h
    rw [show x / 4 / 4 = x / 16 by omega] at g3
    obtain ⟨h1, h2⟩ := step2 n (x / 16) g3
    have e : (x / 4 &&& mk 16 3 (n + 1)) + (x &&& mk 16 3 (n + 1)) = 16 * ((x / 16 / 4 &&& mk 16 3 n) + (x / 16 &&& mk 16 3 n)) + (x / 4 % 4 + x % 4) := by
      show (x / 4 &&& (16 * mk 16 3 n + 3)) + (x &&& (16 * mk 16 3 n + 3)) = _
      rw [and_16, and_16, show x / 4 / 16 = x / 16 / 4 by omega]
      omega
    rw [e]
    generalize (x / 16 / 4 &&& mk 16 3 n) + (x / 16 &&& mk 16 3 n) = y at h1 h2
    have e1 : (16 * y + (x / 4 % 4 + x % 4)) % 16 = x / 4 % 4 + x % 4 := by omega
    have e2 : (16 * y + (x / 4 % 4 + x % 4)) / 16 = y := by omega
    refine ⟨?_, ?_⟩
    · show (16 * y + (x / 4 % 4 + x % 4)) % 16 + ds 16 n ((16 * y + (x / 4 % 4 + x % 4)) / 16) = x % 4 + (x / 4 % 4 + ds 4 (2 * n) (x / 4 / 4))
      rw [e1, e2, h1, show x / 4 / 4 = x / 16 by omega]
      omega
    · show (16 * y + (x / 4 % 4 + x % 4)) % 16 ≤ 4 ∧ Dle 16 4 n ((16 * y + (x / 4 % 4 + x % 4)) / 16)
      rw [e1, e2]
      exact ⟨by omega, h2⟩
theorem Dle.head {b m n x : Nat} (h : Dle b m n x) : x % b ≤ m := by
  cases n with
  | zero => unfold Dle at h; subst h; simp
  | succ n => exact h.1
theorem step3 : ∀ (n x : Nat), Dle 16 4 (2 * n) x → ds 256 n ((x / 16 + x) &&& mk 256 15 n) = ds 16 (2 * n) x ∧ Dle 256 8 n ((x / 16 + x) &&& mk 256 15 n)
  | 0, x, _ => by simp [ds, Dle, mk]
  | n + 1, x, h => by
    obtain ⟨g1, g2, g3⟩ : x % 16 ≤ 4 ∧ x / 16 % 16 ≤ 4 ∧ Dle 16 4 (2 * n) (x / 16 / 16) := h
    rw [show x / 16 / 16 = x / 256 by omega] at g3
    have g4 := g3.head
    obtain ⟨h1, h2⟩ := step3 n (x / 256) g3
    have e : (x / 16 + x) &&& mk 256 15 (n + 1) = 256 * ((x / 256 / 16 + x / 256) &&& mk 256 15 n) + (x / 16 % 16 + x % 16) := by
      show (x / 16 + x) &&& (256 * mk 256 15 n + 15) = _
      obtain ⟨q, s, t, p, hx, hs, ht, hp⟩ : ∃ q s t p, x = 4096 * q + 256 * p + 16 * s + t ∧ s ≤ 4 ∧ t ≤ 4 ∧ p ≤ 4 := ⟨x / 4096, x / 16 % 16, x % 16, x / 256 % 16, by omega, g2, g1, g4⟩
      have k1 : x / 16 = 256 * q + 16 * p + s := by omega
      have k2 : x / 256 = 16 * q + p := by omega
      have k3 : (16 * q + p) / 16 = q := by omega
      have k4 : (256 * q + 16 * p + s + x) / 256 = q + (16 * q + p) := by omega
      have k5 : (256 * q + 16 * p + s + x) % 16 = s + t := by omega
      have k6 : (256 * q + 16 * p + s) % 16 = s := by omega
      have k7 : x % 16 = t := by omega
      rw [and_256, k1, k2, k3, k4, k5, k6, k7]
    rw [e]
    generalize (x / 256 / 16 + x / 256) &&& mk 256 15 n = y at h1 h2
    have e1 : (256 * y + (x / 16 % 16 + x % 16)) % 256 = x / 16 % 16 + x % 16 := by omega
    have e2 : (256 * y + (x / 16 % 16 + x % 16)) / 256 = y := by omega
    refine ⟨?_, ?_⟩
    · show (256 * y + (x / 16 % 16 + x % 16)) % 256 + ds 256 n ((256 * y + (x / 16 % 16 + x % 16)) / 256) = x % 16 + (x / 16 % 16 + ds 16 (2 * n) (x / 16 / 16))
      rw [e1, e2, h1, show x / 16 / 16 = x / 256 by omega]
      omega
    · show (256 * y + (x / 16 % 16 + x % 16)) % 256 ≤ 8 ∧ Dle 256 8 n ((256 * y + (x / 16 % 16 + x % 16)) / 256)
      rw [e1, e2]
      exact ⟨by omega, h2⟩
theorem Dle.cons {b m n x : Nat} (h : Dle b m (n + 1) x) : ∃ r y, r ≤ m ∧ x = r + b * y ∧ Dle b m n y ∧ ds b (n + 1) x = r + ds b n y :=
  ⟨x % b, x / b, h.1, (Nat.mod_add_div x b).symm, h.2, rfl⟩
/-- The bytes of a word one by one. -/
theorem bytes_of {z : Nat} (h : Dle 256 8 8 z) : ∃ a b c d e f g i : Nat, a ≤ 8 ∧ b ≤ 8 ∧ c ≤ 8 ∧ d ≤ 8 ∧ e ≤ 8 ∧ f ≤ 8 ∧ g ≤ 8 ∧ i ≤ 8 ∧
    z = a + 256 * (b + 256 * (c + 256 * (d + 256 * (e + 256 * (f + 256 * (g + 256 * i)))))) ∧ ds 256 8 z = a + (b + (c + (d + (e + (f + (g + i)))))) := by
  obtain ⟨a, z1, ha, rfl, h1, e1⟩ := h.cons
  obtain ⟨b, z2, hb, rfl, h2, e2⟩ := h1.cons
  obtain ⟨c, z3, hc, rfl, h3, e3⟩ := h2.cons
  obtain ⟨d, z4, hd, rfl, h4, e4⟩ := h3.cons
  obtain ⟨e, z5, he, rfl, h5, e5⟩ := h4.cons
  obtain ⟨f, z6, hf, rfl, h6, e6⟩ := h5.cons
  obtain ⟨g, z7, hg, rfl, h7, e7⟩ := h6.cons
  obtain ⟨i, z8, hi, rfl, h8, e8⟩ := h7.cons
  unfold Dle at h8
  subst h8
  refine ⟨a, b, c, d, e, f, g, i, ha, hb, hc, hd, he, hf, hg, hi, by rw [Nat.mul_zero, Nat.add_zero], ?_⟩
  exact e1.trans (congrArg _ (e2.trans (congrArg _ (e3.trans (congrArg _ (e4.trans (congrArg _ (e5.trans (congrArg _ (e6.trans (congrArg _ (e7.trans (congrArg _ (e8.trans (Nat.add_zero i)))))))))))))))
theorem fold1 {a b c d e f g i z : Nat} (ha : a ≤ 8) (hz : z = a + 256 * (b + 256 * (c + 256 * (d + 256 * (e + 256 * (f + 256 * (g + 256 * i))))))) :
    z + z / 256 = (a + b) + 256 * ((b + c) + 256 * ((c + d) + 256 * ((d + e) + 256 * ((e + f) + 256 * ((f + g) + 256 * ((g + i) + 256 * i)))))) := by
  have h : z / 256 = b + 256 * (c + 256 * (d + 256 * (e + 256 * (f + 256 * (g + 256 * i))))) := by
    generalize b + 256 * (c + 256 * (d + 256 * (e + 256 * (f + 256 * (g + 256 * i))))) = y at hz
    omega
  rw [h, hz]
  omega
theorem fold2 {a b c d e f g i z : Nat} (ha : a ≤ 16) (hb : b ≤ 16) (hz : z = a + 256 * (b + 256 * (c + 256 * (d + 256 * (e + 256 * (f + 256 * (g + 256 * i))))))) :
    z + z / 65536 = (a + c) + 256 * ((b + d) + 256 * ((c + e) + 256 * ((d + f) + 256 * ((e + g) + 256 * ((f + i) + 256 * (g + 256 * i)))))) := by
  have h : z / 65536 = c + 256 * (d + 256 * (e + 256 * (f + 256 * (g + 256 * i)))) := by
    generalize c + 256 * (d + 256 * (e + 256 * (f + 256 * (g + 256 * i)))) = y at hz
    omega
  rw [h, hz]
  omega
theorem fold3 {a b c d e f g i z : Nat} (ha : a ≤ 32) (hb : b ≤ 32) (hc : c ≤ 32) (hd : d ≤ 32) (he : e ≤ 32) (hz : z = a + 256 * (b + 256 * (c + 256 * (d + 256 * (e + 256 * (f + 256 * (g + 256 * i))))))) :
    (z + z / 4294967296) % 128 = a + e := by
  have h : z / 4294967296 = e + 256 * (f + 256 * (g + 256 * i)) := by
    generalize e + 256 * (f + 256 * (g + 256 * i)) = y at hz
    omega
  rw [h]
  have h2 : z + (e + 256 * (f + 256 * (g + 256 * i))) = (a + e) + 128 * (2 * (b + 256 * (c + 256 * (d + 256 * (e + 256 * (f + 256 * (g + 256 * i)))))) + 2 * (f + 256 * (g + 256 * i))) := by
    rw [hz]
    omega
  rw [h2]
  generalize 2 * (b + 256 * (c + 256 * (d + 256 * (e + 256 * (f + 256 * (g + 256 * i)))))) + 2 * (f + 256 * (g + 256 * i)) = y
  omega
theorem pow8 : (256 : Nat) ^ 8 = 18446744073709551616 := by decide
theorem dle_lt {z : Nat} (h : Dle 256 8 8 z) : z < 600000000000000000 := by
  have hle := h.le (by decide)
  rw [pow8] at hle
  omega
theorem fold_lt1 {z : Nat} (hb : z < 600000000000000000) : z + z / 256 < 700000000000000000 := by omega
theorem fold_lt2 {z : Nat} (hb : z < 700000000000000000) : z + z / 65536 < 800000000000000000 := by omega
theorem fold_lt3 {z : Nat} (hb : z < 800000000000000000) : z + z / 4294967296 < 900000000000000000 := by omega
theorem le16 {a b : Nat} (ha : a ≤ 8) (hb : b ≤ 8) : a + b ≤ 16 := by omega
theorem le32 {a b : Nat} (ha : a ≤ 16) (hb : b ≤ 16) : a + b ≤ 32 := by omega
/-- The three foldings of the library. -/
theorem fold_all {z : Nat} (h : Dle 256 8 8 z) : ∃ z1 z2 z3 : Nat, z1 = z + z / 256 ∧ z2 = z1 + z1 / 65536 ∧ z3 = z2 + z2 / 4294967296 ∧ z1 < 900000000000000000 ∧ z2 < 900000000000000000 ∧ z3 < 900000000000000000 ∧ z3 % 128 = ds 256 8 z := by
  have b0 := dle_lt h
  obtain ⟨a, b, c, d, e, f, g, i, ha, hb, hc, hd, he, hf, hg, hi, hz, hs⟩ := bytes_of h
  clear h
  have f1 := fold1 ha hz
  have b1 := fold_lt1 b0
  generalize hz1 : z + z / 256 = z1 at f1 b1
  have f2 := fold2 (a := a + b) (b := b + c) (c := c + d) (d := d + e) (e := e + f) (f := f + g) (g := g + i) (i := i) (le16 ha hb) (le16 hb hc) f1
  have b2 := fold_lt2 b1
  generalize hz2 : z1 + z1 / 65536 = z2 at f2 b2
  have f3 := fold3 (a := a + b + (c + d)) (b := b + c + (d + e)) (c := c + d + (e + f)) (d := d + e + (f + g)) (e := e + f + (g + i)) (f := f + g + i) (g := g + i) (i := i) (le32 (le16 ha hb) (le16 hc hd)) (le32 (le16 hb hc) (le16 hd he)) (le32 (le16 hc hd) (le16 he hf)) (le32 (le16 hd he) (le16 hf hg)) (le32 (le16 he hf) (le16 hg hi)) f2
  have b3 := fold_lt3 b2
  generalize hz3 : z2 + z2 / 4294967296 = z3 at f3 b3
  refine ⟨z1, z2, z3, rfl, hz2.symm, hz3.symm, Nat.lt_trans b1 (by decide), Nat.lt_trans b2 (by decide), b3, ?_⟩
  rw [f3, hs]
  clear f1 f2 f3 hz hz1 hz2 hz3 hs b0 b1 b2 b3
  omega

end Go.Proofs.YtihmagpgbjlggaaDoor.Tbs
