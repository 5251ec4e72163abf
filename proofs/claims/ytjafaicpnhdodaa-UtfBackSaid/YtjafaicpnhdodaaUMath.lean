/-
  Bytes as runes: the plain functions that the calls compute, and what is true of them. No program.
-/
namespace Go.Proofs.Ytjafaicpnhdodaa.Utf

def sizeF (a : Int) : Nat := if a ≤ 127 then 1 else if 194 ≤ a ∧ a ≤ 223 then 2 else if 224 ≤ a ∧ a ≤ 239 then 3 else if 240 ≤ a ∧ a ≤ 244 then 4 else 0
def loF (a : Int) : Int := if a = 224 then 160 else if a = 240 then 144 else 128
def hiF (a : Int) : Int := if a = 237 then 159 else if a = 244 then 143 else 191
def leadF (s : Nat) : Int := if s = 2 then 192 else if s = 3 then 224 else if s = 4 then 240 else 0

structure Dec where
  o : Int
  l : Int
  b : Int
  lo : Int
  hi : Int
deriving DecidableEq

def zero : Dec := ⟨0, 0, 0, 0, 0⟩
def beginF (D : Dec) (a : Int) : Dec × List Int :=
  if a < 128 then (D, [a]) else if sizeF a = 0 then (D, [65533]) else (⟨1, sizeF a - 1, a - leadF (sizeF a), loF a, hiF a⟩, [])
def goOnF (D : Dec) (x : Int) : Dec × List Int :=
  if 0 < D.l - 1 then (⟨D.o + 1, D.l - 1, D.b * 64 + (x - 128), 128, 191⟩, []) else (zero, [D.b * 64 + (x - 128)])
def endF (D : Dec) : Dec × List Int := if D.o = 0 then (D, []) else (zero, [65533])
def takeF (D : Dec) (x : Int) : Dec × List Int :=
  if 0 < D.o ∧ D.lo ≤ x ∧ x ≤ D.hi then goOnF D x else ((beginF (endF D).1 x).1, (endF D).2 ++ (beginF (endF D).1 x).2)
def runF : Dec → List Int → Dec × List Int
  | D, [] => (D, [])
  | D, x :: t => ((runF (takeF D x).1 t).1, (takeF D x).2 ++ (runF (takeF D x).1 t).2)
def decF (l : List Int) : List Int := (runF zero l).2 ++ (endF (runF zero l).1).2

def IsByte (x : Int) : Prop := 0 ≤ x ∧ x ≤ 255
def Bytes (l : List Int) : Prop := ∀ x ∈ l, IsByte x

/-- What a decoder can be. -/
structure Dec.Ok (D : Dec) : Prop where
  o0 : 0 ≤ D.o
  o3 : D.o ≤ 3
  none_ : D.o = 0 → D = zero
  l1 : 0 < D.o → 1 ≤ D.l
  l3 : D.o + D.l ≤ 4
  b0 : 0 ≤ D.b
  b1 : D.o ≤ 1 → D.b < 32
  b2 : D.o ≤ 2 → D.b < 2048
  b3 : D.b < 131072
  lo : 0 < D.o → 128 ≤ D.lo
  hi : 0 < D.o → D.hi ≤ 191
  u8 : 0 ≤ D.lo ∧ D.lo ≤ 191 ∧ 0 ≤ D.hi ∧ D.hi ≤ 191
  l0 : 0 ≤ D.l

theorem zero_ok : zero.Ok := by constructor <;> simp [zero]
theorem sizeF_le (a : Int) : sizeF a ≤ 4 := by unfold sizeF; split <;> (try split) <;> (try split) <;> (try split) <;> omega
theorem sizeF_cases (a : Int) : (a ≤ 127 ∧ sizeF a = 1) ∨ (194 ≤ a ∧ a ≤ 223 ∧ sizeF a = 2) ∨ (224 ≤ a ∧ a ≤ 239 ∧ sizeF a = 3) ∨ (240 ≤ a ∧ a ≤ 244 ∧ sizeF a = 4) ∨ (128 ≤ a ∧ (a < 194 ∨ 244 < a) ∧ sizeF a = 0) := by
  unfold sizeF
  by_cases h1 : a ≤ 127
  · exact .inl ⟨h1, if_pos h1⟩
  · rw [if_neg h1]
    by_cases h2 : 194 ≤ a ∧ a ≤ 223
    · exact .inr (.inl ⟨h2.1, h2.2, if_pos h2⟩)
    · rw [if_neg h2]
      by_cases h3 : 224 ≤ a ∧ a ≤ 239
      · exact .inr (.inr (.inl ⟨h3.1, h3.2, if_pos h3⟩))
      · rw [if_neg h3]
        by_cases h4 : 240 ≤ a ∧ a ≤ 244
        · exact .inr (.inr (.inr (.inl ⟨h4.1, h4.2, if_pos h4⟩)))
        · rw [if_neg h4]
          exact .inr (.inr (.inr (.inr ⟨by omega, by omega, rfl⟩)))
theorem loF_bd (a : Int) : 128 ≤ loF a ∧ loF a ≤ 160 := by unfold loF; split <;> (try split) <;> omega
theorem hiF_bd (a : Int) : 143 ≤ hiF a ∧ hiF a ≤ 191 := by unfold hiF; split <;> (try split) <;> omega
theorem leadF_bd (a : Int) (h : 2 ≤ sizeF a) : 0 ≤ a - leadF (sizeF a) ∧ a - leadF (sizeF a) < 32 := by
  rcases sizeF_cases a with ⟨_, e⟩ | ⟨h1, h2, e⟩ | ⟨h1, h2, e⟩ | ⟨h1, h2, e⟩ | ⟨h1, h2, e⟩ <;> rw [e] at h ⊢ <;> simp [leadF] <;> omega

theorem end_ok {D : Dec} (h : D.Ok) : (endF D).1 = zero := by
  unfold endF
  by_cases e : D.o = 0
  · rw [if_pos e]; exact h.none_ e
  · rw [if_neg e]
theorem begin_ok {a : Int} (_ha : IsByte a) : (beginF zero a).1.Ok := by
  unfold beginF
  by_cases h1 : a < 128
  · rw [if_pos h1]; exact zero_ok
  · rw [if_neg h1]
    by_cases h2 : sizeF a = 0
    · rw [if_pos h2]; exact zero_ok
    · rw [if_neg h2]
      have hs : 2 ≤ sizeF a := by rcases sizeF_cases a with ⟨_, e⟩ | ⟨_, _, e⟩ | ⟨_, _, e⟩ | ⟨_, _, e⟩ | ⟨_, _, e⟩ <;> omega
      have h4 := sizeF_le a
      have hl := loF_bd a
      have hh := hiF_bd a
      have hd := leadF_bd a hs
      constructor <;> simp <;> omega
theorem goOn_ok {D : Dec} {x : Int} (h : D.Ok) (ho : 0 < D.o) (hlo : D.lo ≤ x) (hhi : x ≤ D.hi) : (goOnF D x).1.Ok := by
  have h1 := h.lo ho
  have h2 := h.hi ho
  have h3 := h.l3
  have hb := h.b0
  have hb1 := h.b1
  have hb2 := h.b2
  unfold goOnF
  by_cases hl : 0 < D.l - 1
  · rw [if_pos hl]
    constructor <;> simp <;> omega
  · rw [if_neg hl]; exact zero_ok
theorem take_ok {D : Dec} {x : Int} (h : D.Ok) (hx : IsByte x) : (takeF D x).1.Ok := by
  unfold takeF
  by_cases c : 0 < D.o ∧ D.lo ≤ x ∧ x ≤ D.hi
  · rw [if_pos c]; exact goOn_ok h c.1 c.2.1 c.2.2
  · rw [if_neg c]
    show (beginF (endF D).1 x).1.Ok
    rw [end_ok h]; exact begin_ok hx
theorem run_ok : ∀ (l : List Int) {D : Dec}, D.Ok → Bytes l → (runF D l).1.Ok
  | [], _, h, _ => h
  | x :: t, _, h, hb => run_ok t (take_ok h (hb x (List.mem_cons_self ..))) (fun y hy => hb y (List.mem_cons_of_mem _ hy))

theorem run_append : ∀ (l m : List Int) (D : Dec), runF D (l ++ m) = ((runF (runF D l).1 m).1, (runF D l).2 ++ (runF (runF D l).1 m).2)
  | [], _, _ => rfl
  | x :: t, m, D => by
    show ((runF (takeF D x).1 (t ++ m)).1, (takeF D x).2 ++ (runF (takeF D x).1 (t ++ m)).2) = _
    rw [run_append t m]
    simp only [runF, List.append_assoc]
theorem run_snoc (l : List Int) (x : Int) (D : Dec) : runF D (l ++ [x]) = ((takeF (runF D l).1 x).1, (runF D l).2 ++ (takeF (runF D l).1 x).2) := by
  rw [run_append]; simp [runF]

/-! What is told is short, and small. -/
theorem end_len (D : Dec) : (endF D).2.length ≤ 1 := by unfold endF; split <;> simp
theorem begin_len (D : Dec) (a : Int) : (beginF D a).2.length ≤ 1 := by unfold beginF; split <;> (try split) <;> simp
theorem take_len (D : Dec) (x : Int) : (takeF D x).2.length ≤ 2 := by
  unfold takeF
  split
  · unfold goOnF; split <;> simp
  · have h1 := end_len D
    have h2 := begin_len (endF D).1 x
    simp; omega
def wait (D : Dec) : Nat := if D.o = 0 then 0 else 1
theorem take_wait {D : Dec} (h : D.Ok) (x : Int) : (takeF D x).2.length + wait (takeF D x).1 ≤ 1 + wait D := by
  unfold takeF
  by_cases c : 0 < D.o ∧ D.lo ≤ x ∧ x ≤ D.hi
  · rw [if_pos c]
    unfold goOnF
    have hw : wait D = 1 := by unfold wait; rw [if_neg (by omega)]
    split
    · simp only [List.length_nil]; unfold wait; split <;> split <;> omega
    · rw [hw]; simp [wait, zero]
  · rw [if_neg c]
    show ((endF D).2 ++ (beginF (endF D).1 x).2).length + wait (beginF (endF D).1 x).1 ≤ _
    rw [end_ok h, List.length_append]
    have h1 : (endF D).2.length = wait D := by unfold endF wait; split <;> simp
    have h2 : (beginF zero x).2.length + wait (beginF zero x).1 ≤ 1 := by
      unfold beginF
      split
      · simp [wait, zero]
      · split
        · simp [wait, zero]
        · simp [wait]
    omega
theorem run_wait : ∀ (l : List Int) {D : Dec}, D.Ok → Bytes l → (runF D l).2.length + wait (runF D l).1 ≤ l.length + wait D
  | [], _, _, _ => by simp [runF]
  | x :: t, D, h, hb => by
    have h1 := take_wait h x
    have h2 := run_wait t (take_ok h (hb x (List.mem_cons_self ..))) (fun y hy => hb y (List.mem_cons_of_mem _ hy))
    simp only [runF, List.length_append, List.length_cons]
    omega
theorem dec_len {l : List Int} (hb : Bytes l) : (decF l).length ≤ l.length := by
  have h := run_wait l zero_ok hb
  have h1 : (endF (runF zero l).1).2.length = wait (runF zero l).1 := by unfold endF wait; split <;> simp
  have h2 : wait zero = 0 := rfl
  unfold decF
  rw [List.length_append]
  omega
theorem run_len {l : List Int} (hb : Bytes l) : (runF zero l).2.length ≤ l.length := by
  have h := run_wait l zero_ok hb
  have h2 : wait zero = 0 := rfl
  omega

def Small (x : Int) : Prop := 0 ≤ x ∧ x < 8388608
theorem take_small {D : Dec} {x : Int} (h : D.Ok) (hx : IsByte x) : ∀ y ∈ (takeF D x).2, Small y := by
  have hx1 := hx.1
  have hx2 := hx.2
  unfold takeF
  by_cases c : 0 < D.o ∧ D.lo ≤ x ∧ x ≤ D.hi
  · rw [if_pos c]
    have h1 := h.lo c.1
    have h2 := h.hi c.1
    have hb := h.b0
    have hb3 := h.b3
    unfold goOnF
    split
    · simp
    · simp [Small]; omega
  · rw [if_neg c]
    intro y hy
    have hy' : y ∈ (endF D).2 ∨ y ∈ (beginF zero x).2 := by
      have h3 : y ∈ (endF D).2 ++ (beginF (endF D).1 x).2 := hy
      rw [end_ok h] at h3
      exact List.mem_append.1 h3
    rcases hy' with hy | hy
    · unfold endF at hy
      split at hy
      · simp at hy
      · simp at hy; subst hy; simp [Small]
    · unfold beginF at hy
      split at hy
      · simp at hy; subst hy; unfold Small; omega
      · split at hy
        · simp at hy; subst hy; simp [Small]
        · simp at hy
theorem run_small : ∀ (l : List Int) {D : Dec}, D.Ok → Bytes l → ∀ y ∈ (runF D l).2, Small y
  | [], _, _, _, y, hy => by simp [runF] at hy
  | x :: t, D, h, hb, y, hy => by
    simp only [runF, List.mem_append] at hy
    rcases hy with hy | hy
    · exact take_small h (hb x (List.mem_cons_self ..)) y hy
    · exact run_small t (take_ok h (hb x (List.mem_cons_self ..))) (fun z hz => hb z (List.mem_cons_of_mem _ hz)) y hy
theorem dec_small {l : List Int} (hb : Bytes l) : ∀ y ∈ decF l, Small y := by
  intro y hy
  rcases List.mem_append.1 hy with hy | hy
  · exact run_small l zero_ok hb y hy
  · unfold endF at hy
    split at hy
    · simp at hy
    · simp at hy; subst hy; simp [Small]

/-! The reference: how much of a sequence stands at the beginning. -/
def OkAt (l : List Int) (i : Nat) : Prop :=
  i = 0 ∨ (i = 1 ∧ loF (l.getD 0 0) ≤ l.getD 1 0 ∧ l.getD 1 0 ≤ hiF (l.getD 0 0)) ∨ (2 ≤ i ∧ 128 ≤ l.getD i 0 ∧ l.getD i 0 ≤ 191)
instance (l : List Int) (i : Nat) : Decidable (OkAt l i) := by unfold OkAt; infer_instance
def cntF (l : List Int) : Nat → Nat → Nat
  | 0, i => i
  | f + 1, i => if i < sizeF (l.getD 0 0) ∧ i < l.length ∧ OkAt l i then cntF l f (i + 1) else i
def beginsF (l : List Int) : Nat := cntF l 4 0
def valF (l : List Int) (s : Nat) : Nat → Int
  | 0 => l.getD 0 0 - leadF s
  | i + 1 => valF l s i * 64 + l.getD (i + 1) 0 - 128

structure Counted (l : List Int) (n : Nat) : Prop where
  ok : ∀ j, j < n → OkAt l j
  size : n ≤ sizeF (l.getD 0 0)
  len : n ≤ l.length
  stop : n = sizeF (l.getD 0 0) ∨ n = l.length ∨ ¬ OkAt l n
theorem cnt_counted (l : List Int) : ∀ (f i : Nat), (∀ j, j < i → OkAt l j) → i ≤ sizeF (l.getD 0 0) → i ≤ l.length → sizeF (l.getD 0 0) ≤ i + f → Counted l (cntF l f i)
  | 0, i, h1, h2, h3, h4 => ⟨h1, h2, h3, .inl (by simp only [cntF]; omega)⟩
  | f + 1, i, h1, h2, h3, h4 => by
    unfold cntF
    by_cases c : i < sizeF (l.getD 0 0) ∧ i < l.length ∧ OkAt l i
    · rw [if_pos c]
      refine cnt_counted l f (i + 1) (fun j hj => ?_) (by omega) (by omega) (by omega)
      by_cases e : j = i
      · rw [e]; exact c.2.2
      · exact h1 j (by omega)
    · rw [if_neg c]
      refine ⟨h1, h2, h3, ?_⟩
      by_cases e1 : i = sizeF (l.getD 0 0)
      · exact .inl e1
      · by_cases e2 : i = l.length
        · exact .inr (.inl e2)
        · exact .inr (.inr (fun h => c ⟨by omega, by omega, h⟩))
theorem begins_counted (l : List Int) : Counted l (beginsF l) :=
  cnt_counted l 4 0 (fun j hj => by omega) (by omega) (by omega) (by have := sizeF_le (l.getD 0 0); omega)

/-- What a decoder is behind i + 1 bytes of a sequence. -/
def decAt (l : List Int) (i : Nat) : Dec :=
  ⟨i + 1, (sizeF (l.getD 0 0) : Int) - (i + 1), valF l (sizeF (l.getD 0 0)) i, if i = 0 then loF (l.getD 0 0) else 128, if i = 0 then hiF (l.getD 0 0) else 191⟩
theorem okAt_bd {l : List Int} {i : Nat} (h : OkAt l (i + 1)) : (decAt l i).lo ≤ l.getD (i + 1) 0 ∧ l.getD (i + 1) 0 ≤ (decAt l i).hi := by
  unfold decAt
  rcases h with h | ⟨h, h1, h2⟩ | ⟨h, h1, h2⟩
  · omega
  · have e : i = 0 := by omega
    subst e
    exact ⟨h1, h2⟩
  · have e : i ≠ 0 := by omega
    simp only [if_neg e]
    exact ⟨h1, h2⟩
theorem okAt_of {l : List Int} {i : Nat} (h : (decAt l i).lo ≤ l.getD (i + 1) 0 ∧ l.getD (i + 1) 0 ≤ (decAt l i).hi) : OkAt l (i + 1) := by
  unfold decAt at h
  by_cases e : i = 0
  · subst e
    exact .inr (.inl ⟨rfl, h.1, h.2⟩)
  · simp only [if_neg e] at h
    exact .inr (.inr ⟨by omega, h.1, h.2⟩)
theorem drop_cons {l : List Int} {i : Nat} (h : i < l.length) : l.drop i = l.getD i 0 :: l.drop (i + 1) := by
  rw [List.drop_eq_getElem_cons h]
  congr 1
  simp [List.getD, List.getElem?_eq_getElem h]
/-- Behind i + 1 good bytes. -/
theorem run_part {l : List Int} : ∀ (i : Nat), i + 1 < sizeF (l.getD 0 0) → i < l.length → (∀ j, j ≤ i → OkAt l j) → runF zero l = runF (decAt l i) (l.drop (i + 1))
  | 0, hs, hl, _ => by
    have hd := drop_cons (l := l) (i := 0) hl
    rw [List.drop_zero] at hd
    have hx : ¬ l.getD 0 0 < 128 := by rcases sizeF_cases (l.getD 0 0) with ⟨_, e⟩ | ⟨_, _, e⟩ | ⟨_, _, e⟩ | ⟨_, _, e⟩ | ⟨_, _, e⟩ <;> omega
    have ht : takeF zero (l.getD 0 0) = (decAt l 0, []) := by
      unfold takeF
      rw [if_neg (by simp [zero])]
      have he : endF zero = (zero, []) := rfl
      rw [he]
      unfold beginF
      rw [if_neg hx, if_neg (by omega)]
      simp only [List.append_nil]
      unfold decAt
      simp [valF]
    generalize l.getD 0 0 = a at ht hd
    generalize decAt l 0 = D at ht ⊢
    generalize l.drop (0 + 1) = t at hd ⊢
    rw [hd]
    simp [runF, ht]
  | i + 1, hs, hl, hok => by
    rw [run_part i (by omega) (by omega) (fun j hj => hok j (by omega)), drop_cons (l := l) (i := i + 1) (by omega)]
    have hb := okAt_bd (hok (i + 1) (Nat.le_refl _))
    have ht : takeF (decAt l i) (l.getD (i + 1) 0) = (decAt l (i + 1), []) := by
      unfold takeF
      rw [if_pos ⟨by show (0 : Int) < i + 1; omega, hb.1, hb.2⟩]
      unfold goOnF
      rw [if_pos (by show (0 : Int) < _ - (i + 1) - 1; omega)]
      unfold decAt
      simp only [Prod.mk.injEq, and_true, Dec.mk.injEq, if_neg (Nat.succ_ne_zero i), valF]
      omega
    show ((runF (takeF _ _).1 _).1, (takeF _ _).2 ++ (runF (takeF _ _).1 _).2) = _
    rw [ht]
    simp

/-- What is told of l is out, and what is told of rest. -/
def Step (l out rest : List Int) : Prop := runF zero l = ((runF zero rest).1, out ++ (runF zero rest).2)
theorem zero_take (x : Int) (t : List Int) (h : sizeF x < 2) : Step (x :: t) (if sizeF x = 0 then [65533] else [x]) t := by
  have ht : takeF zero x = (zero, if sizeF x = 0 then [65533] else [x]) := by
    unfold takeF
    rw [if_neg (by simp [zero])]
    have he : endF zero = (zero, []) := rfl
    rw [he]
    unfold beginF
    rcases sizeF_cases x with ⟨h1, e⟩ | ⟨_, _, e⟩ | ⟨_, _, e⟩ | ⟨_, _, e⟩ | ⟨h1, _, e⟩
    · rw [if_pos (by omega), e]; simp
    · omega
    · omega
    · omega
    · rw [if_neg (by omega), e]; simp
  unfold Step
  simp [runF, ht]
theorem begins_one {l : List Int} (hl : 0 < l.length) (h : 1 ≤ sizeF (l.getD 0 0)) : 1 ≤ beginsF l := by
  have c := begins_counted l
  rcases Nat.lt_or_ge (beginsF l) 1 with h1 | h1
  · have e : beginsF l = 0 := by omega
    rcases c.stop with s | s | s
    · omega
    · omega
    · rw [e] at s; exact absurd (Or.inl rfl) s
  · exact h1
theorem step_none {l : List Int} (hl : 0 < l.length) (h : beginsF l = 0) : Step l [65533] (l.drop 1) := by
  have h0 : sizeF (l.getD 0 0) = 0 := by
    rcases Nat.eq_zero_or_pos (sizeF (l.getD 0 0)) with e | e
    · exact e
    · have := begins_one hl e; omega
  have hz := zero_take (l.getD 0 0) (l.drop 1) (by omega)
  rw [if_pos h0, ← drop_cons (l := l) (i := 0) hl] at hz
  exact hz
theorem step_whole {l : List Int} (hl : 0 < l.length) (h0 : beginsF l ≠ 0) (h : beginsF l = sizeF (l.getD 0 0)) : Step l [valF l (beginsF l) (beginsF l - 1)] (l.drop (beginsF l)) := by
  have c := begins_counted l
  rw [h] at h0 ⊢
  by_cases h1 : sizeF (l.getD 0 0) = 1
  · have hz := zero_take (l.getD 0 0) (l.drop 1) (by omega)
    rw [if_neg h0, ← drop_cons (l := l) (i := 0) hl] at hz
    rw [h1]
    have e : valF l 1 (1 - 1) = l.getD 0 0 := by simp [valF, leadF]
    rw [e]
    exact hz
  · obtain ⟨k, hk⟩ : ∃ k, sizeF (l.getD 0 0) = k + 2 := ⟨sizeF (l.getD 0 0) - 2, by omega⟩
    have hlen : k + 2 ≤ l.length := by have := c.len; omega
    have hp := run_part (l := l) k (by omega) (by omega) (fun j hj => c.ok j (by omega))
    have hb := okAt_bd (c.ok (k + 1) (by omega))
    rw [drop_cons (l := l) (i := k + 1) (by omega)] at hp
    have ht : takeF (decAt l k) (l.getD (k + 1) 0) = (zero, [valF l (k + 2) (k + 1)]) := by
      unfold takeF
      rw [if_pos ⟨by show (0 : Int) < k + 1; omega, hb.1, hb.2⟩]
      unfold goOnF
      rw [if_neg (by show ¬ (0 : Int) < _ - (k + 1) - 1; omega)]
      unfold decAt
      rw [hk]
      simp only [Prod.mk.injEq, true_and, valF, List.cons.injEq, and_true]
      omega
    unfold Step
    rw [hp, hk]
    show ((runF (takeF _ _).1 _).1, (takeF _ _).2 ++ (runF (takeF _ _).1 _).2) = _
    rw [ht]
    rfl
theorem step_open {l : List Int} (hl : 0 < l.length) (h1 : beginsF l ≠ sizeF (l.getD 0 0)) (h2 : beginsF l = l.length) : (runF zero l).2 = [] ∧ (runF zero l).1.o = l.length := by
  have c := begins_counted l
  obtain ⟨k, hk⟩ : ∃ k, l.length = k + 1 := ⟨l.length - 1, by omega⟩
  have hs := c.size
  have hp := run_part (l := l) k (by omega) (by omega) (fun j hj => c.ok j (by omega))
  rw [List.drop_of_length_le (by omega)] at hp
  rw [hp, hk]
  exact ⟨rfl, rfl⟩
theorem step_part {l : List Int} (_hl : 0 < l.length) (h0 : beginsF l ≠ 0) (h1 : beginsF l ≠ sizeF (l.getD 0 0)) (h2 : beginsF l ≠ l.length) : Step l [65533] (l.drop (beginsF l)) := by
  have c := begins_counted l
  obtain ⟨k, hk⟩ : ∃ k, beginsF l = k + 1 := ⟨beginsF l - 1, by omega⟩
  have hs := c.size
  have hn := c.len
  have hp := run_part (l := l) k (by omega) (by omega) (fun j hj => c.ok j (by omega))
  have hno : ¬ OkAt l (k + 1) := by
    rcases c.stop with s | s | s
    · exact absurd s h1
    · exact absurd s h2
    · rw [hk] at s; exact s
  have hd := drop_cons (l := l) (i := k + 1) (by omega)
  have ht : takeF (decAt l k) (l.getD (k + 1) 0) = ((takeF zero (l.getD (k + 1) 0)).1, [65533] ++ (takeF zero (l.getD (k + 1) 0)).2) := by
    have h3 : takeF (decAt l k) (l.getD (k + 1) 0) = ((beginF zero (l.getD (k + 1) 0)).1, [65533] ++ (beginF zero (l.getD (k + 1) 0)).2) := by
      unfold takeF
      rw [if_neg (fun hc => hno (okAt_of hc.2))]
      have he : endF (decAt l k) = (zero, [65533]) := by
        unfold endF
        rw [if_neg (by show ¬ ((k : Int) + 1 = 0); omega)]
      rw [he]
    have h4 : takeF zero (l.getD (k + 1) 0) = beginF zero (l.getD (k + 1) 0) := by
      unfold takeF
      rw [if_neg (by simp [zero])]
      have he : endF zero = (zero, []) := rfl
      rw [he]
      rfl
    rw [h3, h4]
  unfold Step
  rw [hp, hk, hd]
  show ((runF (takeF _ _).1 _).1, (takeF _ _).2 ++ (runF (takeF _ _).1 _).2) = ((runF (takeF _ _).1 _).1, [65533] ++ ((takeF _ _).2 ++ (runF (takeF _ _).1 _).2))
  rw [ht]
  rfl

end Go.Proofs.Ytjafaicpnhdodaa.Utf
