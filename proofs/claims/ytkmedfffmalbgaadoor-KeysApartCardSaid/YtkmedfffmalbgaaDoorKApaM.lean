/-
  keys: two keys without Mods that are no runes have the same bytes just if they are the same. No program.
-/
import Derived.Test.YtkmedfffmalbgaaDoorKTyp
namespace Go.Proofs.YtkmedfffmalbgaaDoor.Kys
open Go

/-- Two digits at most. -/
def digs (n : Int) : List Int := if n < 10 then [48 + n] else [48 + n / 10, 48 + n % 10]
theorem dg_digs {n : Int} (h0 : 0 ≤ n) (h : n < 100) : dgF n = digs n := by
  obtain ⟨u, rfl⟩ : ∃ u : Nat, n = u := ⟨n.toNat, by omega⟩
  unfold digs
  by_cases h1 : u < 10
  · rw [if_pos (by omega), dg_small h1]
  · rw [if_neg (by omega), dg_big (by omega), dg_small (by omega)]
    simp only [List.cons_append, List.nil_append, Int.natCast_ediv, Int.natCast_emod]
    rfl
/-- A key's bytes, without Mods. -/
def litK (c n : Bool) (k : Ky) : List Int :=
  if letF k ≠ 0 then (if k.kd = 12 ∨ c = true then [27, 79, letF k] else [27, 91, letF k]) else if numF k ≠ 0 then [27, 91] ++ digs (numF k) ++ [126] else typedF n k
theorem num_lt {k : Ky} (hm : k.may) : 0 ≤ numF k ∧ numF k < 100 := by
  rcases num_ways k hm with ⟨_, e⟩ | ⟨_, e⟩ | ⟨_, e⟩ | ⟨_, e⟩ | ⟨_, _, e⟩ | ⟨_, _, e⟩ | ⟨_, _, e⟩ | ⟨_, _, e⟩ | ⟨_, _, e⟩ | ⟨_, _, e⟩ | ⟨_, _, e⟩ | ⟨_, _, e⟩ | ⟨_, _, e⟩ | ⟨_, e⟩ <;> omega
theorem enc_lit (c n : Bool) {k : Ky} (hm : k.may) (h0 : k.md = 0) : encK c n k = litK c n k := by
  unfold encK litK
  by_cases h1 : letF k ≠ 0
  · rw [if_pos h1, if_pos h1]
    unfold letteredF
    rw [if_neg (by rw [h0]; decide)]
    rfl
  · rw [if_neg h1, if_neg h1]
    by_cases h2 : numF k ≠ 0
    · rw [if_pos h2, if_pos h2]
      unfold numberedF
      rw [if_neg (by rw [h0]; decide)]
      unfold ctlF
      rw [nums_first, dg_digs (num_lt hm).1 (num_lt hm).2]
    · rw [if_neg h2, if_neg h2]
      unfold altF
      rw [if_neg (by rw [h0]; decide)]
/-- All of them. -/
def allK : List Ky := [⟨2, 0, 0, 0⟩, ⟨3, 0, 0, 0⟩, ⟨4, 0, 0, 0⟩, ⟨5, 0, 0, 0⟩, ⟨6, 0, 0, 0⟩, ⟨7, 0, 0, 0⟩, ⟨8, 0, 0, 0⟩, ⟨9, 0, 0, 0⟩, ⟨10, 0, 0, 0⟩, ⟨11, 0, 0, 0⟩,
  ⟨12, 0, 1, 0⟩, ⟨12, 0, 2, 0⟩, ⟨12, 0, 3, 0⟩, ⟨12, 0, 4, 0⟩, ⟨12, 0, 5, 0⟩, ⟨12, 0, 6, 0⟩, ⟨12, 0, 7, 0⟩, ⟨12, 0, 8, 0⟩, ⟨12, 0, 9, 0⟩, ⟨12, 0, 10, 0⟩, ⟨12, 0, 11, 0⟩, ⟨12, 0, 12, 0⟩,
  ⟨13, 0, 0, 0⟩, ⟨14, 0, 0, 0⟩, ⟨15, 0, 0, 0⟩, ⟨16, 0, 0, 0⟩]
theorem all_k {k : Ky} (hm : k.may) (h0 : k.md = 0) (h1 : k.kd ≠ 1) : k ∈ allK := by
  obtain ⟨kd, r, n, md⟩ := k
  obtain ⟨h2, h3, _, h4⟩ := hm
  dsimp only at *
  subst h0
  rcases h4 with h4 | ⟨h4, h5, h6, h7⟩ | ⟨_, h4, h5, h6⟩
  · exact absurd h4.1 h1
  · subst h4
    subst h5
    rcases (show n = 1 ∨ n = 2 ∨ n = 3 ∨ n = 4 ∨ n = 5 ∨ n = 6 ∨ n = 7 ∨ n = 8 ∨ n = 9 ∨ n = 10 ∨ n = 11 ∨ n = 12 by omega) with rfl | rfl | rfl | rfl | rfl | rfl | rfl | rfl | rfl | rfl | rfl | rfl <;> decide
  · subst h5
    subst h6
    rcases (show kd = 2 ∨ kd = 3 ∨ kd = 4 ∨ kd = 5 ∨ kd = 6 ∨ kd = 7 ∨ kd = 8 ∨ kd = 9 ∨ kd = 10 ∨ kd = 11 ∨ kd = 13 ∨ kd = 14 ∨ kd = 15 ∨ kd = 16 by omega) with rfl | rfl | rfl | rfl | rfl | rfl | rfl | rfl | rfl | rfl | rfl | rfl | rfl | rfl <;> decide
set_option maxRecDepth 100000 in
theorem lit_len : ∀ c n : Bool, ∀ a ∈ allK, 1 ≤ (litK c n a).length ∧ (litK c n a).length ≤ 8 := by decide
set_option maxRecDepth 100000 in
theorem lit_byte : ∀ c n : Bool, ∀ a ∈ allK, ∀ x ∈ litK c n a, 0 ≤ x ∧ x ≤ 255 := by decide
/-- Which key the bytes are of. -/
def findK (c n : Bool) (l : List Int) : Option Ky := allK.find? fun k => litK c n k == l
set_option maxRecDepth 100000 in
theorem find_lit : ∀ c n : Bool, ∀ a ∈ allK, findK c n (litK c n a) = some a := by decide
theorem lit_inj {c n : Bool} {a b : Ky} (ha : a ∈ allK) (hb : b ∈ allK) (h : litK c n a = litK c n b) : a = b := by
  have h1 := find_lit c n a ha
  rw [h, find_lit c n b hb] at h1
  exact (Option.some.inj h1).symm
theorem str_inj {l m : List Int} (hl : ∀ x ∈ l, 0 ≤ x ∧ x ≤ 255) (hm : ∀ x ∈ m, 0 ≤ x ∧ x ≤ 255) (h : strOfNums l = strOfNums m) : l = m := by
  have h1 := congrArg (fun s : ByteArray => s.data.toList) h
  simp only [strOfNums_data] at h1
  have key : ∀ (l m : List Int), (∀ x ∈ l, 0 ≤ x ∧ x ≤ 255) → (∀ x ∈ m, 0 ≤ x ∧ x ≤ 255) → l.map (fun n => UInt8.ofNat n.toNat) = m.map (fun n => UInt8.ofNat n.toNat) → l = m := by
    intro l
    induction l with
    | nil => intro m _ _ h; cases m with
      | nil => rfl
      | cons y m => simp at h
    | cons x l ih =>
      intro m hl hm h
      cases m with
      | nil => simp at h
      | cons y m =>
        simp only [List.map_cons, List.cons.injEq] at h
        have hx := hl x (by simp)
        have hy := hm y (by simp)
        have h2 := congrArg UInt8.toNat h.1
        rw [UInt8.toNat_ofNat_of_lt' (by simp [UInt8.size]; omega), UInt8.toNat_ofNat_of_lt' (by simp [UInt8.size]; omega)] at h2
        rw [show x = y by omega, ih m (fun z hz => hl z (by simp [hz])) (fun z hz => hm z (by simp [hz])) h.2]
  exact key l m hl hm h1

end Go.Proofs.YtkmedfffmalbgaaDoor.Kys
