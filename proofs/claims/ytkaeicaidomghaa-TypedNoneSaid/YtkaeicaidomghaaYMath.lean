/-
  typed, in plain words: keys in a ring of 64 places, and what each call leaves of them.
-/
import Derived.Test.YtkaeicaidomghaaMem3
namespace Go.Proofs.Ytkaeicaidomghaa.Tpd
open Go Go.RowKit Go.Proofs.Ytkaeicaidomghaa.Com

/-- A key: its rune, its tick. -/
abbrev Key := Int × Int
/-- What stands in a ring's places. -/
abbrev Pl := Nat → Key
def cellP (p : Pl) (k : Nat) : Value := if k % 2 = 0 then .int .i32 (p (k / 2)).1 else .int .i64 (p (k / 2)).2
def plL (p : Pl) : List Value := (List.range 128).map (cellP p)
/-- A list's 132 cells. -/
def tyL (life last : Int) (p : Pl) (f n : Nat) : List Value := .int .i64 life :: .int .i64 last :: (plL p ++ [.int .i64 f, .int .i64 n])
theorem plL_len (p : Pl) : (plL p).length = 128 := by simp [plL]
theorem tyL_len (life last : Int) (p : Pl) (f n : Nat) : (tyL life last p f n).length = 132 := by simp [tyL, plL_len]
theorem plL_at (p : Pl) {k : Nat} (h : k < 128) : (plL p)[k]? = some (cellP p k) := by simp [plL, h]
section at_
variable (life last : Int) (p : Pl) (f n : Nat)
theorem tyL_life : (tyL life last p f n)[0]? = some (.int .i64 life) := rfl
theorem tyL_last : (tyL life last p f n)[1]? = some (.int .i64 last) := rfl
theorem tyL_pl {k : Nat} (h : k < 128) : (tyL life last p f n)[k + 2]? = some (cellP p k) := by
  show (plL p ++ _)[k]? = _
  rw [List.getElem?_append_left (by rw [plL_len]; exact h), plL_at p h]
theorem tyL_r {i : Nat} (h : i < 64) : (tyL life last p f n)[2 + i * 2]? = some (.int .i32 (p i).1) := by
  rw [show 2 + i * 2 = i * 2 + 2 by omega, tyL_pl life last p f n (by omega)]
  unfold cellP
  rw [if_pos (by omega), show i * 2 / 2 = i by omega]
theorem tyL_t {i : Nat} (h : i < 64) : (tyL life last p f n)[2 + i * 2 + 1]? = some (.int .i64 (p i).2) := by
  rw [show 2 + i * 2 + 1 = (i * 2 + 1) + 2 by omega, tyL_pl life last p f n (by omega)]
  unfold cellP
  rw [if_neg (by omega), show (i * 2 + 1) / 2 = i by omega]
theorem tyL_f : (tyL life last p f n)[130]? = some (.int .i64 f) := by
  show (plL p ++ _)[128]? = _
  rw [List.getElem?_append_right (by rw [plL_len]; omega), plL_len]
  rfl
theorem tyL_n : (tyL life last p f n)[131]? = some (.int .i64 n) := by
  show (plL p ++ _)[129]? = _
  rw [List.getElem?_append_right (by rw [plL_len]; omega), plL_len]
  rfl
end at_

/-- One place turns. -/
def setP (p : Pl) (i : Nat) (x : Key) : Pl := fun j => if j = i then x else p j
theorem setP_same (p : Pl) (i : Nat) (x : Key) : setP p i x i = x := if_pos rfl
theorem setP_other (p : Pl) {i j : Nat} (x : Key) (h : j ≠ i) : setP p i x j = p j := if_neg h
section set_
variable (life last : Int) (p : Pl) (f n : Nat)
theorem set_last (y : Int) : (tyL life last p f n).set 1 (.int .i64 y) = tyL life y p f n := rfl
theorem set_f (y : Nat) : (tyL life last p f n).set 130 (.int .i64 y) = tyL life last p y n := by
  unfold tyL
  simp only [List.set_cons_succ]
  rw [List.set_append_right _ _ (by rw [plL_len]; omega), plL_len]
  rfl
theorem set_n (y : Nat) : (tyL life last p f n).set 131 (.int .i64 y) = tyL life last p f y := by
  unfold tyL
  simp only [List.set_cons_succ]
  rw [List.set_append_right _ _ (by rw [plL_len]; omega), plL_len]
  rfl
theorem set_pl {i : Nat} (h : i < 64) (x : Key) : ((tyL life last p f n).set (2 + i * 2) (.int .i32 x.1)).set (2 + i * 2 + 1) (.int .i64 x.2) = tyL life last (setP p i x) f n := by
  unfold tyL
  rw [show 2 + i * 2 + 1 = (i * 2 + 1) + 1 + 1 by omega, show 2 + i * 2 = (i * 2) + 1 + 1 by omega]
  simp only [List.set_cons_succ]
  rw [List.set_append_left _ _ (by rw [plL_len]; omega), List.set_append_left _ _ (by rw [List.length_set, plL_len]; omega)]
  congr 3
  apply List.ext_getElem?
  intro k
  by_cases hk : k < 128
  · rw [plL_at _ hk, List.getElem?_set, List.getElem?_set, plL_at _ hk, List.length_set, plL_len]
    unfold cellP setP
    by_cases h1 : i * 2 + 1 = k
    · subst h1
      rw [if_pos rfl, if_pos (by omega), if_neg (by omega), if_pos (by omega)]
    · by_cases h2 : i * 2 = k
      · subst h2
        rw [if_neg h1, if_pos rfl, if_pos (by omega), if_pos (by omega), if_pos (by omega)]
      · rw [if_neg h1, if_neg h2, if_neg (show ¬ k / 2 = i by omega)]
  · rw [List.getElem?_eq_none (by rw [List.length_set, List.length_set, plL_len]; omega), List.getElem?_eq_none (by rw [plL_len]; omega)]
end set_

/-- Where the i-th key stands. -/
def pos (f i : Nat) : Nat := (f + i) % 64
theorem pos_lt (f i : Nat) : pos f i < 64 := Nat.mod_lt _ (by omega)
theorem pos_zero {f : Nat} (h : f < 64) : pos f 0 = f := by unfold pos; omega
theorem pos_add (f k i : Nat) : pos (pos f k) i = pos f (k + i) := by unfold pos; omega
theorem pos_ne {f i j : Nat} (hi : i < 64) (hj : j < 64) (h : i ≠ j) : pos f i ≠ pos f j := by unfold pos; omega
/-- The places show the keys ks, from f on. -/
def Shows (p : Pl) (f : Nat) (ks : List Key) : Prop := ∀ i (h : i < ks.length), p (pos f i) = ks[i]
theorem Shows.nil (p : Pl) (f : Nat) : Shows p f [] := fun i h => by simp at h
/-- Some places are wiped, from the first one on. -/
def wipe (p : Pl) (f : Nat) : Nat → Pl
  | 0 => p
  | k + 1 => setP (wipe p f k) (pos f k) (0, 0)
theorem wipe_other (p : Pl) (f : Nat) {k j : Nat} (h : ∀ i, i < k → j ≠ pos f i) : wipe p f k j = p j := by
  induction k with
  | zero => rfl
  | succ k ih =>
    show setP _ _ _ j = _
    rw [setP_other _ _ (h k (by omega))]
    exact ih (fun i hi => h i (by omega))
theorem Shows.drop {p : Pl} {f : Nat} {ks : List Key} (h : Shows p f ks) (h64 : ks.length ≤ 64) (k : Nat) (hk : k ≤ ks.length) : Shows (wipe p f k) (pos f k) (ks.drop k) := by
  intro i hi
  rw [List.length_drop] at hi
  rw [List.getElem_drop, ← h (k + i) (by omega), wipe_other, pos_add]
  intro j hj
  rw [pos_add]
  exact pos_ne (by omega) (by omega) (by omega)
theorem Shows.push {p : Pl} {f : Nat} {ks : List Key} (h : Shows p f ks) (h64 : ks.length < 64) (x : Key) : Shows (setP p (pos f ks.length) x) f (ks ++ [x]) := by
  intro i hi
  rw [List.length_append, List.length_singleton] at hi
  by_cases hl : i < ks.length
  · rw [List.getElem_append_left hl, setP_other _ _ (pos_ne (by omega) (by omega) (by omega)), h i hl]
  · have e : i = ks.length := by omega
    subst e
    rw [setP_same]
    simp

/-- Behind one more key: the first one goes where there are 64. -/
def pushK (ks : List Key) (x : Key) : List Key := (if ks.length = 64 then ks.drop 1 else ks) ++ [x]
theorem pushK_len {ks : List Key} (h : ks.length ≤ 64) (x : Key) : (pushK ks x).length ≤ 64 := by
  unfold pushK
  split <;> simp <;> omega
/-- Whether a key is awaited. -/
def waits (life now : Int) (k : Key) : Bool := decide (now < k.2 + life)
/-- How many are awaited no more, from the first one on. -/
def goneN (life now : Int) (ks : List Key) : Nat := (ks.takeWhile (fun k => !waits life now k)).length
theorem goneN_le (life now : Int) (ks : List Key) : goneN life now ks ≤ ks.length := by
  unfold goneN
  have := (List.takeWhile_sublist (p := fun k => !waits life now k) (l := ks)).length_le
  exact this
def isFirstB (ks : List Key) (r : Int) : Bool := match ks with
  | [] => false
  | k :: _ => k.1 == r
/-- What Take leaves. -/
def takeK (life now : Int) (ks : List Key) (r : Int) : List Key := (ks.drop (goneN life now ks)).drop (if isFirstB (ks.drop (goneN life now ks)) r then 1 else 0)
def takeB (life now : Int) (ks : List Key) (r : Int) : Bool := isFirstB (ks.drop (goneN life now ks)) r
/-- What Waits tells. -/
def waitL (life now : Int) (ks : List Key) : List Int := (ks.filter (waits life now)).map (·.1)
/-- Ticks within bounds, and a rune that is an int32. -/
def Tick (ks : List Key) : Prop := ∀ k ∈ ks, 0 ≤ k.2 ∧ k.2 ≤ 1099511627776
theorem Tick.sub {ks l : List Key} (h : Tick ks) (hs : l.Sublist ks) : Tick l := fun k hk => h k (hs.subset hk)
theorem Tick.drop {ks : List Key} (h : Tick ks) (n : Nat) : Tick (ks.drop n) := h.sub (List.drop_sublist _ _)
theorem Tick.push {ks : List Key} (h : Tick ks) {x : Key} (hx : 0 ≤ x.2 ∧ x.2 ≤ 1099511627776) : Tick (pushK ks x) := fun k hk => by
  unfold pushK at hk
  rcases List.mem_append.1 hk with hk | hk
  · split at hk
    · exact h.drop 1 k hk
    · exact h k hk
  · simp at hk
    subst hk
    exact hx
end Go.Proofs.Ytkaeicaidomghaa.Tpd
