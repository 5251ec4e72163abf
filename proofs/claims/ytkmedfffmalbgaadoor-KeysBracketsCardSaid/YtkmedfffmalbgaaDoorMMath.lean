/-
  modes: eight flags as a plain struct; where a number's one stands among them; their bits.
-/
namespace Go.Proofs.YtkmedfffmalbgaaDoor.Mds

/-- Eight flags. -/
structure Md where
  a0 : Bool
  a1 : Bool
  a2 : Bool
  a3 : Bool
  a4 : Bool
  a5 : Bool
  a6 : Bool
  a7 : Bool

def Md.get (m : Md) : Nat → Bool
  | 0 => m.a0
  | 1 => m.a1
  | 2 => m.a2
  | 3 => m.a3
  | 4 => m.a4
  | 5 => m.a5
  | 6 => m.a6
  | 7 => m.a7
  | _ => false
def Md.set (m : Md) (k : Nat) (b : Bool) : Md :=
  match k with
  | 0 => { m with a0 := b }
  | 1 => { m with a1 := b }
  | 2 => { m with a2 := b }
  | 3 => { m with a3 := b }
  | 4 => { m with a4 := b }
  | 5 => { m with a5 := b }
  | 6 => { m with a6 := b }
  | 7 => { m with a7 := b }
  | _ => m
/-- Where the flag of a number stands; 8: it is of none. -/
def spot (p : Bool) (n : Int) : Nat :=
  if p then
    if n = 1 then 2 else if n = 6 then 3 else if n = 7 then 4 else if n = 25 then 5 else if n = 47 then 6 else if n = 1047 then 6 else if n = 1049 then 6 else if n = 2004 then 7 else 8
  else if n = 4 then 0 else if n = 20 then 1 else 8
/-- The flag's bit. -/
def pow : Nat → Int
  | 0 => 1
  | 1 => 2
  | 2 => 4
  | 3 => 8
  | 4 => 16
  | 5 => 32
  | 6 => 64
  | 7 => 128
  | _ => 0
def one (b : Bool) (v : Int) : Int := if b then v else 0
def Md.bits (m : Md) : Int := one m.a0 1 + one m.a1 2 + one m.a2 4 + one m.a3 8 + one m.a4 16 + one m.a5 32 + one m.a6 64 + one m.a7 128
def ofBits (k : Int) : Md := ⟨decide (k % 2 = 1), decide (k / 2 % 2 = 1), decide (k / 4 % 2 = 1), decide (k / 8 % 2 = 1), decide (k / 16 % 2 = 1), decide (k / 32 % 2 = 1), decide (k / 64 % 2 = 1), decide (k / 128 % 2 = 1)⟩
def start : Md := ⟨false, false, false, false, true, true, false, false⟩
def none0 : Md := ⟨false, false, false, false, false, false, false, false⟩

/-- What Put leaves, what Get says. -/
def Md.put (m : Md) (p : Bool) (n : Int) (on : Bool) : Md := m.set (spot p n) on
def Md.has (m : Md) (p : Bool) (n : Int) : Bool := m.get (spot p n)
def known (p : Bool) (n : Int) : Bool := decide (spot p n < 8)

theorem spot_le (p : Bool) (n : Int) : spot p n ≤ 8 := by
  unfold spot
  repeat' split
  all_goals omega
theorem small {k : Nat} (h : k ≤ 8) : k = 0 ∨ k = 1 ∨ k = 2 ∨ k = 3 ∨ k = 4 ∨ k = 5 ∨ k = 6 ∨ k = 7 ∨ k = 8 := by omega
theorem get_set (m : Md) {k : Nat} (hk : k < 8) (b : Bool) : (m.set k b).get k = b := by
  rcases small (Nat.le_of_lt hk) with rfl | rfl | rfl | rfl | rfl | rfl | rfl | rfl | rfl
  all_goals first | rfl | omega
theorem set_none (m : Md) (b : Bool) : m.set 8 b = m := rfl
theorem get_none (m : Md) : m.get 8 = false := rfl
theorem get_other (m : Md) {k j : Nat} (hk : k ≤ 8) (hj : j ≤ 8) (h : j ≠ k) (b : Bool) : (m.set k b).get j = m.get j := by
  rcases small hk with rfl | rfl | rfl | rfl | rfl | rfl | rfl | rfl | rfl
  all_goals rcases small hj with rfl | rfl | rfl | rfl | rfl | rfl | rfl | rfl | rfl
  all_goals first | rfl | exact absurd rfl h
theorem set_set (m : Md) {k : Nat} (hk : k ≤ 8) (b c : Bool) : (m.set k b).set k c = m.set k c := by
  rcases small hk with rfl | rfl | rfl | rfl | rfl | rfl | rfl | rfl | rfl
  all_goals rfl
theorem set_get (m : Md) {k : Nat} (hk : k ≤ 8) : m.set k (m.get k) = m := by
  rcases small hk with rfl | rfl | rfl | rfl | rfl | rfl | rfl | rfl | rfl
  all_goals rfl

def Md.same (m x : Md) : Bool := m.a0 == x.a0 && m.a1 == x.a1 && m.a2 == x.a2 && m.a3 == x.a3 && m.a4 == x.a4 && m.a5 == x.a5 && m.a6 == x.a6 && m.a7 == x.a7
theorem same_eq {m x : Md} (h : m.same x = true) : m = x := by
  obtain ⟨m0, m1, m2, m3, m4, m5, m6, m7⟩ := m
  obtain ⟨x0, x1, x2, x3, x4, x5, x6, x7⟩ := x
  simp only [Md.same, Bool.and_eq_true, beq_iff_eq] at h
  obtain ⟨⟨⟨⟨⟨⟨⟨rfl, rfl⟩, rfl⟩, rfl⟩, rfl⟩, rfl⟩, rfl⟩, rfl⟩ := h
  rfl
theorem one_cases (b : Bool) (v : Int) : (b = true ∧ one b v = v) ∨ (b = false ∧ one b v = 0) := by
  cases b
  · exact .inr ⟨rfl, rfl⟩
  · exact .inl ⟨rfl, rfl⟩
theorem bits_ge (m : Md) : 0 ≤ m.bits := by
  unfold Md.bits
  have h0 := one_cases m.a0 1
  have h1 := one_cases m.a1 2
  have h2 := one_cases m.a2 4
  have h3 := one_cases m.a3 8
  have h4 := one_cases m.a4 16
  have h5 := one_cases m.a5 32
  have h6 := one_cases m.a6 64
  have h7 := one_cases m.a7 128
  omega
theorem bits_lt (m : Md) : m.bits < 256 := by
  unfold Md.bits
  have h0 := one_cases m.a0 1
  have h1 := one_cases m.a1 2
  have h2 := one_cases m.a2 4
  have h3 := one_cases m.a3 8
  have h4 := one_cases m.a4 16
  have h5 := one_cases m.a5 32
  have h6 := one_cases m.a6 64
  have h7 := one_cases m.a7 128
  omega
set_option maxRecDepth 100000 in
theorem of_bits (m : Md) : ofBits m.bits = m := by
  refine same_eq ?_
  obtain ⟨a0, a1, a2, a3, a4, a5, a6, a7⟩ := m
  revert a0 a1 a2 a3 a4 a5 a6 a7
  decide
theorem one_of {b : Bool} {v x : Int} (h : (b = true → x = v) ∧ (b = false → x = 0)) : one b v = x := by
  cases b
  · exact (h.2 rfl).symm
  · exact (h.1 rfl).symm
theorem bits_of {k : Int} (h0 : 0 ≤ k) (h1 : k < 256) : (ofBits k).bits = k := by
  unfold Md.bits ofBits
  dsimp only
  rw [one_of (x := k % 2) (by simp; omega), one_of (x := k / 2 % 2 * 2) (by simp; omega), one_of (x := k / 4 % 2 * 4) (by simp; omega), one_of (x := k / 8 % 2 * 8) (by simp; omega), one_of (x := k / 16 % 2 * 16) (by simp; omega), one_of (x := k / 32 % 2 * 32) (by simp; omega), one_of (x := k / 64 % 2 * 64) (by simp; omega), one_of (x := k / 128 % 2 * 128) (by simp; omega)]
  omega
/-- The reference's way to tell a flag, and to turn it. -/
theorem bits_get (m : Md) {k : Nat} (hk : k < 8) : decide (m.bits / pow k % 2 = 1) = m.get k := by
  have h := of_bits m
  have hl := bits_lt m
  have hg := bits_ge m
  generalize m.bits = x at *
  subst h
  rcases small (Nat.le_of_lt hk) with rfl | rfl | rfl | rfl | rfl | rfl | rfl | rfl | rfl
  all_goals first | omega | (show decide (x / _ % 2 = 1) = decide (_ = 1); simp [pow])
def turn (m : Md) (k : Nat) (on : Bool) : Int := if m.get k && !on then m.bits - pow k else if !m.get k && on then m.bits + pow k else m.bits
set_option maxRecDepth 100000 in
theorem turn_of (m : Md) {k : Nat} (hk : k < 8) (on : Bool) : ofBits (turn m k on) = m.set k on := by
  refine same_eq ?_
  obtain ⟨a0, a1, a2, a3, a4, a5, a6, a7⟩ := m
  rcases small (Nat.le_of_lt hk) with rfl | rfl | rfl | rfl | rfl | rfl | rfl | rfl | rfl
  all_goals first | omega | (clear hk; revert on a0 a1 a2 a3 a4 a5 a6 a7; decide)
set_option maxRecDepth 100000 in
theorem turn_in (m : Md) {k : Nat} (hk : k < 8) (on : Bool) : 0 ≤ turn m k on ∧ turn m k on < 256 := by
  obtain ⟨a0, a1, a2, a3, a4, a5, a6, a7⟩ := m
  rcases small (Nat.le_of_lt hk) with rfl | rfl | rfl | rfl | rfl | rfl | rfl | rfl | rfl
  all_goals first | omega | (clear hk; revert on a0 a1 a2 a3 a4 a5 a6 a7; decide)

end Go.Proofs.YtkmedfffmalbgaaDoor.Mds
