/-
  What the package chartab computes, as plain functions on integers, and that they are the document's.
-/
namespace Go.Proofs.YtjffiikdfoejhaaDoor.Cht

def inB (r a b : Int) : Bool := decide (a ≤ r) && decide (r ≤ b)
theorem inB_self (r a : Int) : inB r a a = (r == a) := by
  unfold inB
  rw [Bool.eq_iff_iff]
  simp
  omega
def mayF (r : Int) : Bool := decide (0 ≤ r) && decide (r ≤ 1114111) && !(decide (55296 ≤ r) && decide (r ≤ 57343))
/-- The rows of the table of widths: first, last, width. -/
def wrows : List (Int × Int × Int) :=
  [(0, 31, 0), (127, 159, 0), (768, 879, 0), (1155, 1161, 0), (1425, 1469, 0), (1552, 1562, 0), (1611, 1631, 0), (3633, 3633, 0), (3636, 3642, 0), (3655, 3662, 0), (4352, 4447, 2), (6832, 6911, 0), (7616, 7679, 0), (8203, 8207, 0), (8400, 8447, 0), (11904, 12350, 2), (12353, 42191, 2), (44032, 55203, 2), (63744, 64255, 2), (65024, 65039, 0), (65056, 65071, 0), (65072, 65135, 2), (65280, 65376, 2), (65504, 65510, 2), (127744, 128591, 2), (129280, 129535, 2), (131072, 196605, 2), (196608, 262141, 2), (917760, 917999, 0)]
def crows : List (Int × Int × Int) :=
  [(32, 32, 1), (48, 57, 2), (65, 90, 4), (97, 122, 3), (160, 160, 1), (192, 214, 4), (216, 222, 4), (223, 246, 3), (248, 255, 3), (8192, 8202, 1), (8239, 8239, 1), (8287, 8287, 1), (12288, 12288, 1)]
def graphs : List Int :=
  [9670, 9618, 9225, 9228, 9229, 9226, 176, 177, 9252, 9227, 9496, 9488, 9484, 9492, 9532, 9146, 9147, 9472, 9148, 9149, 9500, 9508, 9524, 9516, 9474, 8804, 8805, 960, 8800, 163, 183]
/-- The search that stops at the first row beyond r. -/
def scan : List (Int × Int × Int) → Int → Option Int
  | [], _ => none
  | x :: l, r => if r < x.1 then none else if r ≤ x.2.1 then some x.2.2 else scan l r
def widthF (r : Int) : Int := if mayF r then (scan wrows r).getD 1 else 0
def classF (r : Int) : Int := if widthF r = 0 then 0 else (scan crows r).getD (if r < 128 then 5 else 6)

def rises : List (Int × Int × Int) → Bool
  | [] => true
  | x :: l => decide (x.1 ≤ x.2.1) && l.all (fun y => decide (x.2.1 < y.1)) && rises l

theorem scan_some : ∀ (l : List (Int × Int × Int)) (r : Int) (x : Int × Int × Int), rises l = true → x ∈ l → x.1 ≤ r → r ≤ x.2.1 → scan l r = some x.2.2
  | [], _, _, _, h, _, _ => by cases h
  | y :: l, r, x, hr, hx, h1, h2 => by
    simp only [rises, Bool.and_eq_true, decide_eq_true_eq, List.all_eq_true] at hr
    obtain ⟨⟨h0, hall⟩, hl⟩ := hr
    unfold scan
    rcases List.mem_cons.1 hx with rfl | hx
    · rw [if_neg (by omega), if_pos h2]
    · have := hall x hx
      rw [if_neg (by omega), if_neg (by omega)]
      exact scan_some l r x hl hx h1 h2

theorem scan_none : ∀ (l : List (Int × Int × Int)) (r : Int), (∀ x ∈ l, ¬ (x.1 ≤ r ∧ r ≤ x.2.1)) → scan l r = none
  | [], _, _ => rfl
  | y :: l, r, h => by
    have h0 := h y (List.mem_cons_self ..)
    unfold scan
    by_cases c : r < y.1
    · rw [if_pos c]
    · rw [if_neg c, if_neg (by omega)]
      exact scan_none l r (fun x hx => h x (List.mem_cons_of_mem _ hx))

/-- What a search over the rows from k on finds. -/
theorem scan_drop (l : List (Int × Int × Int)) (r : Int) (k : Nat) (hk : k < l.length) :
    scan (l.drop k) r = if r < (l.getD k (0, 0, 0)).1 then none else if r ≤ (l.getD k (0, 0, 0)).2.1 then some (l.getD k (0, 0, 0)).2.2 else scan (l.drop (k + 1)) r := by
  rw [List.drop_eq_getElem_cons hk]
  simp [scan, List.getD, hk]

def anyIn (l : List (Int × Int)) (r : Int) : Bool := l.any fun p => inB r p.1 p.2
def controls : List (Int × Int) := [(0, 31), (127, 159)]
def marks : List (Int × Int) := [(768, 879), (1155, 1161), (1425, 1469), (1552, 1562), (1611, 1631), (3633, 3633), (3636, 3642), (3655, 3662), (6832, 6911), (7616, 7679), (8203, 8207), (8400, 8447), (65024, 65039), (65056, 65071), (917760, 917999)]
def wides : List (Int × Int) := [(4352, 4447), (11904, 12350), (12353, 42191), (44032, 55203), (63744, 64255), (65072, 65135), (65280, 65376), (65504, 65510), (127744, 128591), (129280, 129535), (131072, 196605), (196608, 262141)]
def blanks : List (Int × Int) := [(32, 32), (160, 160), (8192, 8202), (8239, 8239), (8287, 8287), (12288, 12288)]
def smalls : List (Int × Int) := [(97, 122), (223, 246), (248, 255)]
def capitals : List (Int × Int) := [(65, 90), (192, 214), (216, 222)]

theorem anyIn_iff {l : List (Int × Int)} {r : Int} : anyIn l r = true ↔ ∃ p ∈ l, p.1 ≤ r ∧ r ≤ p.2 := by
  simp [anyIn, inB]

theorem rises_w : rises wrows = true := by decide
theorem rises_c : rises crows = true := by decide

theorem scan_of_any {l : List (Int × Int × Int)} {ps : List (Int × Int)} {v r : Int} (hl : rises l = true) (hin : ∀ p ∈ ps, (p.1, p.2, v) ∈ l) (h : anyIn ps r = true) : scan l r = some v := by
  obtain ⟨p, hp, h1, h2⟩ := anyIn_iff.1 h
  exact scan_some l r (p.1, p.2, v) hl (hin p hp) h1 h2

theorem not_any {ps : List (Int × Int)} {r : Int} (h : anyIn ps r = false) : ∀ p ∈ ps, ¬ (p.1 ≤ r ∧ r ≤ p.2) := by
  intro p hp hh
  have := anyIn_iff.2 ⟨p, hp, hh⟩
  rw [h] at this
  cases this

theorem width_no {r : Int} (h : mayF r = false) : widthF r = 0 := by simp [widthF, h]
theorem width_control {r : Int} (h : anyIn controls r = true) : widthF r = 0 := by
  unfold widthF
  rw [scan_of_any rises_w (v := 0) (by decide) h]
  simp
theorem width_mark {r : Int} (h : anyIn marks r = true) : widthF r = 0 := by
  unfold widthF
  rw [scan_of_any rises_w (v := 0) (by decide) h]
  simp
theorem width_wide {r : Int} (hm : mayF r = true) (h : anyIn wides r = true) : widthF r = 2 := by
  unfold widthF
  rw [scan_of_any rises_w (v := 2) (by decide) h, hm]
  simp
theorem width_else {r : Int} (hm : mayF r = true) (h1 : anyIn controls r = false) (h2 : anyIn marks r = false) (h3 : anyIn wides r = false) : widthF r = 1 := by
  unfold widthF
  rw [hm, scan_none]
  · simp
  · intro x hx
    have hall : ∀ x ∈ wrows, (x.1, x.2.1) ∈ controls ∨ (x.1, x.2.1) ∈ marks ∨ (x.1, x.2.1) ∈ wides := by decide
    rcases hall x hx with h | h | h
    · exact not_any h1 _ h
    · exact not_any h2 _ h
    · exact not_any h3 _ h

theorem class_none {r : Int} (h : widthF r = 0) : classF r = 0 := by simp [classF, h]
theorem class_blank {r : Int} (h : widthF r ≠ 0) (hb : anyIn blanks r = true) : classF r = 1 := by
  unfold classF
  rw [if_neg h, scan_of_any rises_c (v := 1) (by decide) hb]; rfl
theorem class_digit {r : Int} (h : widthF r ≠ 0) (hb : inB r 48 57 = true) : classF r = 2 := by
  unfold classF
  rw [if_neg h, scan_of_any (ps := [(48, 57)]) rises_c (v := 2) (by decide) (by simpa [anyIn] using hb)]; rfl
theorem class_small {r : Int} (h : widthF r ≠ 0) (hb : anyIn smalls r = true) : classF r = 3 := by
  unfold classF
  rw [if_neg h, scan_of_any rises_c (v := 3) (by decide) hb]; rfl
theorem class_capital {r : Int} (h : widthF r ≠ 0) (hb : anyIn capitals r = true) : classF r = 4 := by
  unfold classF
  rw [if_neg h, scan_of_any rises_c (v := 4) (by decide) hb]; rfl
theorem class_else {r : Int} (h : widthF r ≠ 0) (h1 : anyIn blanks r = false) (h2 : inB r 48 57 = false) (h3 : anyIn smalls r = false) (h4 : anyIn capitals r = false) :
    classF r = if r < 128 then 5 else 6 := by
  unfold classF
  rw [if_neg h, scan_none]
  · rfl
  · intro x hx
    have hall : ∀ x ∈ crows, (x.1, x.2.1) ∈ blanks ∨ (x.1, x.2.1) ∈ [((48 : Int), (57 : Int))] ∨ (x.1, x.2.1) ∈ smalls ∨ (x.1, x.2.1) ∈ capitals := by decide
    have h2' : anyIn [(48, 57)] r = false := by simpa [anyIn] using h2
    rcases hall x hx with h | h | h | h
    · exact not_any h1 _ h
    · exact not_any h2' _ h
    · exact not_any h3 _ h
    · exact not_any h4 _ h

/-! Letters lie below 256; there all can be looked through. -/
theorem letters_small : ∀ r : Fin 256, (classF (r.val : Int) = 3) = (anyIn smalls (r.val : Int) = true) ∧ (classF (r.val : Int) = 4) = (anyIn capitals (r.val : Int) = true) ∧ (anyIn smalls (r.val : Int) = true ∨ anyIn capitals (r.val : Int) = true → widthF (r.val : Int) = 1) := by
  decide +kernel

theorem scan_mem : ∀ (l : List (Int × Int × Int)) (r v : Int), scan l r = some v → ∃ x ∈ l, x.1 ≤ r ∧ r ≤ x.2.1 ∧ x.2.2 = v
  | [], _, _, h => by cases h
  | y :: l, r, v, h => by
    unfold scan at h
    by_cases c : r < y.1
    · rw [if_pos c] at h; cases h
    · rw [if_neg c] at h
      by_cases d : r ≤ y.2.1
      · rw [if_pos d] at h
        exact ⟨y, List.mem_cons_self .., by omega, d, by simpa using h⟩
      · rw [if_neg d] at h
        obtain ⟨x, hx, hh⟩ := scan_mem l r v h
        exact ⟨x, List.mem_cons_of_mem _ hx, hh⟩

theorem class_row {r v : Int} (h : classF r = v) (h0 : v ≠ 0) (h5 : v ≠ 5) (h6 : v ≠ 6) : ∃ x ∈ crows, x.1 ≤ r ∧ r ≤ x.2.1 ∧ x.2.2 = v := by
  unfold classF at h
  by_cases c : widthF r = 0
  · rw [if_pos c] at h; omega
  · rw [if_neg c] at h
    cases hs : scan crows r with
    | none =>
      rw [hs] at h
      by_cases d : r < 128
      · rw [if_pos d] at h; exact absurd h.symm h5
      · rw [if_neg d] at h; exact absurd h.symm h6
    | some u =>
      rw [hs] at h
      obtain rfl : u = v := h
      exact scan_mem _ _ _ hs

theorem capitals_bound {r : Int} (h : anyIn capitals r = true) : 65 ≤ r ∧ r ≤ 222 := by
  obtain ⟨p, hp, h1, h2⟩ := anyIn_iff.1 h
  have hall : ∀ p ∈ capitals, 65 ≤ p.1 ∧ p.2 ≤ 222 := by decide
  have := hall p hp
  omega
theorem smalls_bound {r : Int} (h : anyIn smalls r = true) : 97 ≤ r ∧ r ≤ 255 := by
  obtain ⟨p, hp, h1, h2⟩ := anyIn_iff.1 h
  have hall : ∀ p ∈ smalls, 97 ≤ p.1 ∧ p.2 ≤ 255 := by decide
  have := hall p hp
  omega

theorem capital_iff (r : Int) : classF r = 4 ↔ anyIn capitals r = true := by
  constructor
  · intro h
    obtain ⟨x, hx, h1, h2, h3⟩ := class_row h (by omega) (by omega) (by omega)
    have hall : ∀ x ∈ crows, x.2.2 = 4 → (x.1, x.2.1) ∈ capitals := by decide
    exact anyIn_iff.2 ⟨_, hall x hx h3, h1, h2⟩
  · intro h
    obtain ⟨b1, b2⟩ := capitals_bound h
    have hl := (letters_small ⟨r.toNat, by omega⟩).2.1
    have e : ((r.toNat : Nat) : Int) = r := by omega
    simp only [e] at hl
    rw [hl]; exact h
theorem small_iff (r : Int) : classF r = 3 ↔ anyIn smalls r = true := by
  constructor
  · intro h
    obtain ⟨x, hx, h1, h2, h3⟩ := class_row h (by omega) (by omega) (by omega)
    have hall : ∀ x ∈ crows, x.2.2 = 3 → (x.1, x.2.1) ∈ smalls := by decide
    exact anyIn_iff.2 ⟨_, hall x hx h3, h1, h2⟩
  · intro h
    obtain ⟨b1, b2⟩ := smalls_bound h
    have hl := (letters_small ⟨r.toNat, by omega⟩).1
    have e : ((r.toNat : Nat) : Int) = r := by omega
    simp only [e] at hl
    rw [hl]; exact h

def lowerF (r : Int) : Int := if classF r = 4 then r + 32 else r
def upperF (r : Int) : Int := if classF r = 3 ∧ classF (r - 32) = 4 then r - 32 else r

/-- What holds of the letters below 256. -/
def turnsB (r : Int) : Bool :=
  decide (lowerF (lowerF r) = lowerF r) && decide (upperF (upperF r) = upperF r) && decide (widthF (lowerF r) = widthF r) && decide (widthF (upperF r) = widthF r)
    && (if classF r = 4 then decide (classF (lowerF r) = 3) && decide (upperF (lowerF r) = r) else decide (lowerF r = r) && (decide (upperF r = r) || (decide (classF (upperF r) = 4) && decide (lowerF (upperF r) = r))))

theorem turns_small : ∀ r : Fin 256, turnsB (r.val : Int) = true := by decide +kernel
theorem turns_all (r : Int) : turnsB r = true := by
  by_cases h : 0 ≤ r ∧ r < 256
  · have := turns_small ⟨r.toNat, by omega⟩
    have e : ((r.toNat : Nat) : Int) = r := by omega
    simpa only [e] using this
  · have h4 : classF r ≠ 4 := fun hc => by have := capitals_bound ((capital_iff r).1 hc); omega
    have h3 : classF r ≠ 3 := fun hc => by have := smalls_bound ((small_iff r).1 hc); omega
    have hl : lowerF r = r := by simp [lowerF, h4]
    have hu : upperF r = r := by simp [upperF, h3]
    simp [turnsB, hl, hu, h4]

theorem width_range (r : Int) : widthF r = 0 ∨ widthF r = 1 ∨ widthF r = 2 := by
  unfold widthF
  by_cases c : mayF r = true
  · rw [if_pos c]
    cases hs : scan wrows r with
    | none => exact .inr (.inl rfl)
    | some v =>
      obtain ⟨x, hx, _, _, rfl⟩ := scan_mem _ _ _ hs
      have hall : ∀ x ∈ wrows, x.2.2 = 0 ∨ x.2.2 = 2 := by decide
      rcases hall x hx with e | e
      · exact .inl e
      · exact .inr (.inr e)
  · rw [if_neg c]; exact .inl rfl
theorem class_range (r : Int) : 0 ≤ classF r ∧ classF r ≤ 6 := by
  unfold classF
  by_cases c : widthF r = 0
  · rw [if_pos c]; omega
  · rw [if_neg c]
    cases hs : scan crows r with
    | none =>
      show 0 ≤ (if r < 128 then (5 : Int) else 6) ∧ (if r < 128 then (5 : Int) else 6) ≤ 6
      split <;> omega
    | some v =>
      obtain ⟨x, hx, _, _, rfl⟩ := scan_mem _ _ _ hs
      have hall : ∀ x ∈ crows, 1 ≤ x.2.2 ∧ x.2.2 ≤ 4 := by decide
      have := hall x hx
      show 0 ≤ x.2.2 ∧ x.2.2 ≤ 6
      omega
theorem class_zero (r : Int) : classF r = 0 ↔ widthF r = 0 := by
  constructor
  · intro h
    by_cases c : widthF r = 0
    · exact c
    · unfold classF at h
      rw [if_neg c] at h
      cases hs : scan crows r with
      | none =>
        rw [hs] at h
        by_cases d : r < 128
        · rw [if_pos d] at h; cases h
        · rw [if_neg d] at h; cases h
      | some v =>
        rw [hs] at h
        obtain ⟨x, hx, _, _, e⟩ := scan_mem _ _ _ hs
        have hall : ∀ x ∈ crows, 1 ≤ x.2.2 := by decide
        have := hall x hx
        have h' : v = 0 := h
        omega
  · exact class_none

/-! Charsets. -/
def graphicF (r : Int) : Int := if r = 95 then 32 else if 96 ≤ r ∧ r < 127 then graphs.getD (r - 96).toNat 0 else r
def britishF (r : Int) : Int := if r = 35 then 163 else r
def charsetF (s r : Int) : Int := if s = 1 then britishF r else if s = 2 then graphicF r else r

theorem charset_width (s r : Int) (h1 : 32 ≤ r) (h2 : r ≤ 126) : widthF (charsetF s r) = 1 := by
  have hall : ∀ k : Fin 127, 32 ≤ (k.val : Int) → widthF (k.val : Int) = 1 ∧ widthF (graphicF (k.val : Int)) = 1 := by decide +kernel
  have hk := hall ⟨r.toNat, by omega⟩
  have e : ((r.toNat : Nat) : Int) = r := by omega
  simp only [e] at hk
  obtain ⟨a, b⟩ := hk h1
  unfold charsetF britishF
  split
  · split
    · decide +kernel
    · exact a
  · split
    · exact b
    · exact a

/-! Names. The table stands with its last row first. -/
def nameTab : List (Int × ByteArray × Int) :=
  [(96, ⟨#[103, 114, 97, 118, 101]⟩, 3), (39, ⟨#[116, 105, 99, 107]⟩, 3), (34, ⟨#[113, 117, 111, 116, 101]⟩, 3), (125, ⟨#[114, 105, 103, 104, 116, 32, 98, 114, 97, 99, 101]⟩, 3), (123, ⟨#[108, 101, 102, 116, 32, 98, 114, 97, 99, 101]⟩, 3), (93, ⟨#[114, 105, 103, 104, 116, 32, 98, 114, 97, 99, 107, 101, 116]⟩, 3), (91, ⟨#[108, 101, 102, 116, 32, 98, 114, 97, 99, 107, 101, 116]⟩, 3), (41, ⟨#[114, 105, 103, 104, 116, 32, 112, 97, 114, 101, 110]⟩, 3), (40, ⟨#[108, 101, 102, 116, 32, 112, 97, 114, 101, 110]⟩, 3), (94, ⟨#[99, 97, 114, 101, 116]⟩, 2), (126, ⟨#[116, 105, 108, 100, 101]⟩, 2), (124, ⟨#[98, 97, 114]⟩, 2), (92, ⟨#[98, 97, 99, 107, 115, 108, 97, 115, 104]⟩, 2), (62, ⟨#[103, 114, 101, 97, 116, 101, 114]⟩, 2), (60, ⟨#[108, 101, 115, 115]⟩, 2), (95, ⟨#[108, 105, 110, 101]⟩, 2), (45, ⟨#[100, 97, 115, 104]⟩, 2), (58, ⟨#[99, 111, 108, 111, 110]⟩, 2), (59, ⟨#[115, 101, 109, 105, 99, 111, 108, 111, 110]⟩, 2), (44, ⟨#[99, 111, 109, 109, 97]⟩, 2), (61, ⟨#[101, 113, 117, 97, 108, 115]⟩, 1), (43, ⟨#[112, 108, 117, 115]⟩, 1), (42, ⟨#[115, 116, 97, 114]⟩, 1), (35, ⟨#[110, 117, 109, 98, 101, 114]⟩, 1), (47, ⟨#[115, 108, 97, 115, 104]⟩, 1), (38, ⟨#[97, 110, 100]⟩, 1), (37, ⟨#[112, 101, 114, 99, 101, 110, 116]⟩, 1), (36, ⟨#[100, 111, 108, 108, 97, 114]⟩, 1), (64, ⟨#[97, 116]⟩, 1), (33, ⟨#[98, 97, 110, 103]⟩, 1), (63, ⟨#[113, 117, 101, 115, 116, 105, 111, 110]⟩, 1), (46, ⟨#[100, 111, 116]⟩, 1)]
def nameFind : List (Int × ByteArray × Int) → Int → ByteArray × Int
  | [], _ => (⟨#[]⟩, 0)
  | x :: l, r => if r = x.1 then x.2 else nameFind l r
def nameF (r : Int) : ByteArray × Int := nameFind nameTab r

theorem nameFind_none : ∀ (l : List (Int × ByteArray × Int)) (r : Int), (∀ x ∈ l, r ≠ x.1) → nameFind l r = (⟨#[]⟩, 0)
  | [], _, _ => rfl
  | x :: l, r, h => by
    unfold nameFind
    rw [if_neg (h x (List.mem_cons_self ..))]
    exact nameFind_none l r (fun y hy => h y (List.mem_cons_of_mem _ hy))

theorem name_none {r : Int} (h : classF r ≠ 5) : nameF r = (⟨#[]⟩, 0) := by
  refine nameFind_none _ _ fun x hx e => h ?_
  have hall : ∀ x ∈ nameTab.map (·.1), classF x = 5 := by decide +kernel
  rw [e]
  exact hall _ (List.mem_map_of_mem hx)

theorem nameFind_cases : ∀ (l : List (Int × ByteArray × Int)) (r : Int), nameFind l r = (⟨#[]⟩, 0) ∨ ∃ x ∈ l, r = x.1 ∧ nameFind l r = x.2
  | [], _ => .inl rfl
  | x :: l, r => by
    unfold nameFind
    by_cases e : r = x.1
    · rw [if_pos e]; exact .inr ⟨x, List.mem_cons_self .., e, rfl⟩
    · rw [if_neg e]
      rcases nameFind_cases l r with h | ⟨y, hy, h⟩
      · exact .inl h
      · exact .inr ⟨y, List.mem_cons_of_mem _ hy, h⟩

/-- A rune without a name, or a sign with one of a level from 1 to 3. -/
theorem name_cases (r : Int) : nameF r = (⟨#[]⟩, 0) ∨ (classF r = 5 ∧ widthF r = 1 ∧ mayF r = true ∧ (nameF r).1.toList.isEmpty = false ∧ 1 ≤ (nameF r).2 ∧ (nameF r).2 ≤ 3) := by
  rcases nameFind_cases nameTab r with h | ⟨x, hx, rfl, h⟩
  · exact .inl h
  · have hall : ∀ x ∈ nameTab.map (fun x => (x.1, x.2.1.toList.isEmpty, x.2.2)), classF x.1 = 5 ∧ widthF x.1 = 1 ∧ mayF x.1 = true ∧ x.2.1 = false ∧ 1 ≤ x.2.2 ∧ x.2.2 ≤ 3 := by decide +kernel
    have := hall _ (List.mem_map_of_mem hx)
    refine .inr ⟨this.1, this.2.1, this.2.2.1, ?_⟩
    show (nameFind nameTab x.1).1.toList.isEmpty = false ∧ 1 ≤ (nameFind nameTab x.1).2 ∧ (nameFind nameTab x.1).2 ≤ 3
    rw [h]
    exact this.2.2.2

theorem may_of_width {r : Int} (h : widthF r ≠ 0) : mayF r = true := by
  cases c : mayF r with
  | true => rfl
  | false => exact absurd (width_no c) h

/-- The four and the last facts on letters, as the walks' tests have them. -/
theorem turns_facts (r : Int) : (lowerF (lowerF r) != lowerF r) = false ∧ (upperF (upperF r) != upperF r) = false ∧ (widthF (lowerF r) != widthF r) = false ∧ (widthF (upperF r) != widthF r) = false
    ∧ ((classF r == 4) = true ∧ (classF (lowerF r) == 3) = true ∧ (upperF (lowerF r) == r) = true ∨ (classF r == 4) = false ∧ (lowerF r == r) = true ∧ ((upperF r == r) = true ∨ (upperF r == r) = false ∧ (classF (upperF r) == 4) = true ∧ (lowerF (upperF r) == r) = true)) := by
  have h := turns_all r
  unfold turnsB at h
  simp only [Bool.and_eq_true, decide_eq_true_eq] at h
  obtain ⟨⟨⟨⟨a, b⟩, c⟩, d⟩, e⟩ := h
  refine ⟨by simpa using a, by simpa using b, by simpa using c, by simpa using d, ?_⟩
  by_cases h4 : classF r = 4
  · rw [if_pos h4] at e
    simp only [Bool.and_eq_true, decide_eq_true_eq] at e
    exact .inl ⟨by simpa using h4, by simpa using e.1, by simpa using e.2⟩
  · rw [if_neg h4] at e
    simp only [Bool.and_eq_true, Bool.or_eq_true, decide_eq_true_eq] at e
    refine .inr ⟨by simpa using h4, by simpa using e.1, ?_⟩
    by_cases hu : upperF r = r
    · exact .inl (by simpa using hu)
    · rcases e.2 with e2 | e2
      · exact absurd e2 hu
      · exact .inr ⟨by simpa using hu, by simpa using e2.1, by simpa using e2.2⟩

end Go.Proofs.YtjffiikdfoejhaaDoor.Cht
