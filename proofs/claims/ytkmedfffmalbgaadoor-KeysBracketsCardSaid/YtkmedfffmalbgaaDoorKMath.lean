/-
  keys: what a number's digits are, which key may be, and which bytes it has, as plain functions.
-/
import Derived.Lib.ItoaNum
namespace Go.Proofs.YtkmedfffmalbgaaDoor.Kys

/-- A number's decimal digits, as bytes' numbers. -/
def dgF (n : Int) : List Int := (Go.Lib.decDigits n.toNat).map fun b => (b.toNat : Int)
theorem dg_small {n : Nat} (h : n < 10) : dgF (n : Int) = [48 + (n : Int)] := by
  unfold dgF
  rw [Int.toNat_natCast, Go.Lib.decDigits, dif_pos h]
  simp only [List.map_cons, List.map_nil]
  congr 1
  rw [UInt8.toNat_ofNat_of_lt' (by simp [UInt8.size]; omega)]
  omega
theorem dg_big {n : Nat} (h : 10 ≤ n) : dgF (n : Int) = dgF ((n / 10 : Nat) : Int) ++ [48 + ((n % 10 : Nat) : Int)] := by
  unfold dgF
  rw [Int.toNat_natCast, Int.toNat_natCast]
  conv => lhs; rw [Go.Lib.decDigits, dif_neg (by omega)]
  rw [List.map_append]
  congr 1
  simp only [List.map_cons, List.map_nil]
  congr 1
  rw [UInt8.toNat_ofNat_of_lt' (by simp [UInt8.size]; omega)]
  omega
theorem dg_byte (n : Int) : ∀ x ∈ dgF n, 0 ≤ x ∧ x ≤ 255 := by
  intro x hx
  obtain ⟨b, _, rfl⟩ := List.mem_map.1 hx
  have := b.toNat_lt
  omega
/-- Numbers, each with ; ahead; without one ahead of the first. -/
def tailF : List Int → List Int
  | [] => []
  | n :: t => 59 :: dgF n ++ tailF t
def numsF : List Int → List Int
  | [] => []
  | n :: t => dgF n ++ tailF t
theorem tail_snoc (l : List Int) (x : Int) : tailF (l ++ [x]) = tailF l ++ (59 :: dgF x) := by
  induction l with
  | nil => simp [tailF]
  | cons n t ih => simp [tailF, ih]
theorem nums_first (x : Int) : numsF [x] = dgF x := by simp [numsF, tailF]
theorem nums_snoc {l : List Int} (h : l ≠ []) (x : Int) : numsF (l ++ [x]) = numsF l ++ (59 :: dgF x) := by
  cases l with
  | nil => exact absurd rfl h
  | cons n t => simp [numsF, tail_snoc]
/-- What control puts behind one another. -/
def ctlF (b : List Int) (l : List Int) (f : Int) : List Int := b ++ numsF l ++ [f]

/-- A key's four numbers. -/
structure Ky where
  kd : Int
  r : Int
  n : Int
  md : Int
deriving DecidableEq
structure Ky.Ok (k : Ky) : Prop where
  kd : 0 ≤ k.kd ∧ k.kd ≤ 255
  r : -2147483648 ≤ k.r ∧ k.r ≤ 2147483647
  n : -9223372036854775808 ≤ k.n ∧ k.n ≤ 9223372036854775807
  md : 0 ≤ k.md ∧ k.md ≤ 255
def mayR (r : Int) : Prop := 0 ≤ r ∧ r ≤ 1114111 ∧ (r < 55296 ∨ 57343 < r)
instance (r : Int) : Decidable (mayR r) := by unfold mayR; infer_instance
def Ky.may (k : Ky) : Prop :=
  1 ≤ k.kd ∧ k.kd ≤ 16 ∧ k.md ≤ 7 ∧ (k.kd = 1 ∧ mayR k.r ∧ k.n = 0 ∨ k.kd = 12 ∧ k.r = 0 ∧ 1 ≤ k.n ∧ k.n ≤ 12 ∨ k.kd ≠ 1 ∧ k.kd ≠ 12 ∧ k.r = 0 ∧ k.n = 0)
instance (k : Ky) : Decidable k.may := by unfold Ky.may; infer_instance
/-- A key's letter; 0: none. -/
def letF (k : Ky) : Int :=
  if k.kd = 2 then 65 else if k.kd = 3 then 66 else if k.kd = 4 then 67 else if k.kd = 5 then 68 else if k.kd = 6 then 70 else if k.kd = 7 then 72 else if k.kd = 12 ∧ k.n ≤ 4 then 79 + k.n else 0
/-- A key's number; 0: none. -/
def numF (k : Ky) : Int :=
  if k.kd = 8 then 2 else if k.kd = 9 then 3 else if k.kd = 10 then 5 else if k.kd = 11 then 6 else if k.kd = 12 ∧ 4 < k.n then (if k.n = 5 then 15 else if k.n ≤ 10 then k.n + 11 else k.n + 12) else 0
def letteredF (cur : Bool) (k : Ky) (f : Int) : List Int :=
  if k.md ≠ 0 then ctlF [27, 91] [1, k.md + 1] f else if k.kd = 12 ∨ cur = true then ctlF [27, 79] [] f else ctlF [27, 91] [] f
def numberedF (k : Ky) (n : Int) : List Int := if k.md ≠ 0 then ctlF [27, 91] [n, k.md + 1] 126 else ctlF [27, 91] [n] 126
def encF (r : Int) : List Int :=
  if r < 0 ∨ 1114111 < r ∨ (55296 ≤ r ∧ r ≤ 57343) then [239, 191, 189]
  else if r < 128 then [r]
  else if r < 2048 then [192 + r / 64, 128 + r % 64]
  else if r < 65536 then [224 + r / 4096, 128 + r / 64 % 64, 128 + r % 64]
  else [240 + r / 262144, 128 + r / 4096 % 64, 128 + r / 64 % 64, 128 + r % 64]
def ctrlF (r : Int) : List Int :=
  if 64 ≤ r ∧ r ≤ 95 ∨ 97 ≤ r ∧ r ≤ 122 then [r % 32] else if r = 32 then [0] else if r = 63 then [127] else encF r
def typedF (nl : Bool) (k : Ky) : List Int :=
  if k.kd = 13 then (if nl = true then [13, 10] else [13])
  else if k.kd = 14 then (if k.md % 2 = 1 then [27, 91, 90] else [9])
  else if k.kd = 15 then (if k.md / 4 % 2 = 1 then [8] else [127])
  else if k.kd = 16 then [27]
  else if k.md / 4 % 2 = 1 then ctrlF k.r else encF k.r
def altF (k : Ky) (b : List Int) : List Int := if k.md / 2 % 2 = 1 then 27 :: b else b
/-- The bytes of a key that may be. -/
def encK (cur nl : Bool) (k : Ky) : List Int :=
  if letF k ≠ 0 then letteredF cur k (letF k) else if numF k ≠ 0 then numberedF k (numF k) else altF k (typedF nl k)

theorem enc_byte (r : Int) : ∀ x ∈ encF r, 0 ≤ x ∧ x ≤ 255 := by
  unfold encF
  intro x hx
  split at hx
  · simp at hx; omega
  · split at hx
    · simp at hx; omega
    · split at hx
      · simp at hx; omega
      · split at hx <;> (simp at hx; omega)
theorem enc_len (r : Int) : 1 ≤ (encF r).length ∧ (encF r).length ≤ 4 := by
  unfold encF
  split
  · simp
  · split
    · simp
    · split
      · simp
      · split <;> simp

/-- What is sent of one rune of a pasted text; p: whether a 13 stands ahead of it. -/
def pasted (r : Int) : Prop := r = 9 ∨ 32 ≤ r ∧ r ≤ 126 ∨ 160 ≤ r ∧ mayR r
instance (r : Int) : Decidable (pasted r) := by unfold pasted; infer_instance
def oneP (p : Bool) (r : Int) : List Int :=
  if r = 10 then (if p = true then [] else [13]) else if r = 13 then [13] else if pasted r then encF r else []
def is13 (r : Int) : Bool := decide (r = 13)
def plainP : Bool → List Int → List Int
  | _, [] => []
  | p, r :: t => oneP p r ++ plainP (is13 r) t
def b200 : List Int := [27, 91, 50, 48, 48, 126]
def b201 : List Int := [27, 91, 50, 48, 49, 126]
def pasteF (on : Bool) (l : List Int) : List Int := if on = true then b200 ++ plainP false l ++ b201 else plainP false l
theorem one_len (p : Bool) (r : Int) : (oneP p r).length ≤ 4 := by
  unfold oneP
  have := enc_len r
  split
  · split <;> simp
  · split
    · simp
    · split
      · omega
      · simp
theorem plain_len : ∀ (l : List Int) (p : Bool), (plainP p l).length ≤ 4 * l.length
  | [], _ => by simp [plainP]
  | r :: t, p => by
    have := plain_len t (is13 r)
    have := one_len p r
    simp [plainP]
    omega
/-- Whether what stands ahead of place i is a 13. -/
def ahead (l : List Int) : Nat → Bool
  | 0 => false
  | i + 1 => is13 (l.getD i 0)
theorem plain_snoc : ∀ (l : List Int) (p : Bool) (x : Int), plainP p (l ++ [x]) = plainP p l ++ oneP (if l = [] then p else is13 (l.getLast?.getD 0)) x
  | [], p, x => by simp [plainP]
  | r :: t, p, x => by
    have := plain_snoc t (is13 r) x
    simp only [List.cons_append, plainP, this, List.append_assoc]
    congr 2
    rcases t with _ | ⟨y, t⟩
    · simp
    · simp [List.getLast?_cons_cons]
theorem plain_next {l : List Int} {i : Nat} (h : i < l.length) : plainP false (l.take (i + 1)) = plainP false (l.take i) ++ oneP (ahead l i) l[i] := by
  rw [List.take_succ_eq_append_getElem h, plain_snoc]
  congr 2
  rcases i with _ | i
  · simp [ahead]
  · have hne : l.take (i + 1) ≠ [] := by
      intro e
      have := congrArg List.length e
      rw [List.length_take, List.length_nil] at this
      omega
    rw [if_neg hne]
    have : (l.take (i + 1)).getLast? = l[i]? := by
      rw [List.getLast?_eq_getElem?, List.length_take, Nat.min_eq_left (by omega), List.getElem?_take]
      simp
    rw [this]
    simp [ahead, List.getD]

end Go.Proofs.YtkmedfffmalbgaaDoor.Kys
