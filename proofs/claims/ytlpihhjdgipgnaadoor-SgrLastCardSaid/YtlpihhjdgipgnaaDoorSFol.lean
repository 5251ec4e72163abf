/-
  sgr: the colour that follows.
-/
import Derived.Test.YtlpihhjdgipgnaaDoorSOne
namespace Go.Proofs.YtlpihhjdgipgnaaDoor.Sgr
open Go Go.RowKit Go.Proofs.YtlpihhjdgipgnaaDoor.Com

/-- What follow tells: the colour, and a piece of the list. -/
def Fol (w : World) (B : Nat) (R : Int × List Int) (e : Ending) (w' : World) : Prop :=
  ∃ x y, e = .returned (.tuple #[.int .u32 R.1, .slice x R.2.length y]) ∧ R.2.length ≤ y ∧ y ≤ maxLen ∧ Nums w B .i64 x R.2 ∧ Below w.heap.size w w'

theorem add_none (ad : Addr) : ad.add 0 = ad := by simp [Addr.add]
theorem all_one (x : Int) : allB [x] = isB x := by simp [allB]
theorem all_three (x y z : Int) : allB [x, y, z] = (isB x && isB y && isB z) := by simp [allB, Bool.and_assoc]
/-- A list from its place k on, as it is sliced. -/
theorem sliced {w : World} {B : Nat} {ad : Addr} {l : List Int} {cp : Nat} (h : Nums w B .i64 (some ad) l) (k : Nat) (hl : l.length ≤ cp) : Nums w B .i64 (if cp = k then some ad else some (ad.add k)) (l.drop k) := by
  by_cases e : cp = k
  · rw [List.drop_of_length_le (by omega)]
    exact Nums.nil _ _ _ _
  · rw [if_neg e]
    have := h.piece k l.length
    rwa [List.take_length] at this
theorem fol_slot {w w' : World} {B : Nat} {c c' : Int} {t : List Int} {N y : Nat} {x : Option Addr} (hN : t.length = N) (hc : c = c') (h1 : N ≤ y) (h2 : y ≤ maxLen) (h3 : Nums w B .i64 x t) (h4 : Below w.heap.size w w') :
    Fol w B (c', t) (.returned (.tuple #[.int .u32 c, .slice x N y])) w' := by
  subst hN
  subst hc
  exact ⟨x, y, rfl, h1, h2, h3, h4⟩

set_option maxHeartbeats 2000000 in
theorem follow_five (c : Int) (y : Int) (t : List Int) (ao : Option Addr) (cp B : Nat) (hl : t.length + 2 ≤ cp) (hm : cp ≤ maxLen) (w : World) (hn : Nums w B .i64 ao (5 :: y :: t)) (hB : B ≤ w.heap.size) :
    Calls Tryd.prog 15 #[.int .u32 c, .slice ao ((5 :: y :: t : List Int).length) cp] w (Fol w B (if isB y then y + 1 else c, t)) := by
  obtain ⟨ad, rfl, hb0, c0⟩ := hn 0 5 rfl
  obtain ⟨ad', e', hb1, c1⟩ := hn 1 y rfl
  cases e'
  rw [add_none] at c0
  rw [show ad.add 1 = ⟨ad.block, ad.off + 1, none⟩ from rfl] at c1
  have hd := sliced hn 2 hl
  rw [show (5 :: y :: t : List Int).drop 2 = t from rfl, show ad.add 2 = ⟨ad.block, ad.off + 2, none⟩ from rfl] at hd
  obtain ⟨q, hq⟩ : ∃ q, q = (if cp = 2 then some ad else some (⟨ad.block, ad.off + 2, none⟩ : Addr)) := ⟨_, rfl⟩
  rw [← hq] at hd
  replace hd := Lib.hid hd
  replace hq := Lib.hid hq
  have hlt : ad.block < w.heap.size := Nat.lt_of_lt_of_le hb0 hB
  have hby := Lib.hid (areBytes_any [y] (some ⟨w.heap.size, 0, none⟩) 1 (w.heap.size + 1) (by simp) _ (Nums.lit w 3 .i64 [y]))
  have hbel := Lib.hid (fun n => below_dr (below_new w (.cells #[.int .i64 y] 3)) n)
  rw [all_one] at hby
  clear hn
  have hm63 : cp ≤ 9223372036854775807 := by simp only [maxLen] at hm; omega
  rw [show (5 :: y :: t : List Int).length = t.length + 2 by rfl]
  have hm' := Lib.hid hm
  clear hm
  generalize hN : t.length = N at hl
  have hN' := Lib.hid hN
  clear hN
  rcases hi : isB y with _ | _
  · rw [hi] at hby
    go_enter Tryd.func15, Tryd.ntmps15
    go_wp2_with (go_at_call 26; refine (hby.out).mono ?_; rintro e w' ⟨rfl, rfl⟩)
    go_quiet (fail)
    rw [← hq.out]
    go_wp2
    go_ret2
    exact fol_slot hN'.out (by simp) (by omega) (by have := hm'.out; omega) hd.out (hbel.out _)
  · rw [hi] at hby
    have h0 : 0 ≤ y ∧ y ≤ 255 := by simpa only [isB, decide_eq_true_eq] using hi
    obtain ⟨h0, h1⟩ := h0
    have hnum := Lib.hid (fun w' => numbered_any y h0 h1 w')
    go_enter Tryd.func15, Tryd.ntmps15
    go_wp2_with (first | (go_at_call 26; refine (hby.out).mono ?_; rintro e w' ⟨rfl, rfl⟩) | (go_at_call 27; refine (hnum.out _).mono ?_; rintro e w' ⟨rfl, rfl⟩))
    go_quiet (fail)
    rw [← hq.out]
    go_wp2
    go_ret2
    exact fol_slot hN'.out (by simp) (by omega) (by have := hm'.out; omega) hd.out (hbel.out _)

/-- Numbers that share no bit. -/
theorem or_add {i a b : Nat} (hb : b < 2 ^ i) (h : 2 ^ i * a + b < 4294967296) : bits .or .u32 ((2 ^ i * a : Nat) : Int) ((b : Nat) : Int) = ((2 ^ i * a + b : Nat) : Int) := by
  rw [Nat.two_pow_add_eq_or_of_lt hb]
  have h' := h
  rw [Nat.two_pow_add_eq_or_of_lt hb] at h'
  have hA : 2 ^ i * a < 4294967296 := by omega
  have hB : b < 4294967296 := by omega
  generalize 2 ^ i * a = A at *
  show IntKind.u32.wrap (((BitVec.ofInt 32 (A : Int) ||| BitVec.ofInt 32 (b : Int)).toNat : Nat) : Int) = _
  rw [BitVec.ofInt_natCast, BitVec.ofInt_natCast, BitVec.toNat_or, BitVec.toNat_ofNat, BitVec.toNat_ofNat, Nat.mod_eq_of_lt hA, Nat.mod_eq_of_lt hB, IntWalk.u32_in _ (by omega)]
/-- Red, green and blue put together. -/
theorem rgb_bits {x y z : Int} (hx : isB x = true) (hy : isB y = true) (hz : isB z = true) : bits .or .u32 (bits .or .u32 (bits .or .u32 16777216 (x * 65536)) (y * 256)) z = rgbF x y z := by
  simp only [isB, decide_eq_true_eq] at hx hy hz
  obtain ⟨x, rfl⟩ : ∃ n : Nat, x = n := ⟨x.toNat, by omega⟩
  obtain ⟨y, rfl⟩ : ∃ n : Nat, y = n := ⟨y.toNat, by omega⟩
  obtain ⟨z, rfl⟩ : ∃ n : Nat, z = n := ⟨z.toNat, by omega⟩
  have h1 := or_add (i := 24) (a := 1) (b := x * 65536) (by omega) (by omega)
  have h2 := or_add (i := 16) (a := 256 + x) (b := y * 256) (by omega) (by omega)
  have h3 := or_add (i := 8) (a := 65536 + x * 256 + y) (b := z) (by omega) (by omega)
  have e0 : (2 ^ 24 * 1 : Nat) = 16777216 := by kernel_rfl
  have e1 : ((2 ^ 24 * 1 : Nat) : Int) = 16777216 := by rw [e0]; rfl
  have e2 : ((2 ^ 24 * 1 + x * 65536 : Nat) : Int) = ((2 ^ 16 * (256 + x) : Nat) : Int) := by omega
  have e3 : ((2 ^ 16 * (256 + x) + y * 256 : Nat) : Int) = ((2 ^ 8 * (65536 + x * 256 + y) : Nat) : Int) := by omega
  have x1 : ((x * 65536 : Nat) : Int) = (x : Int) * 65536 := by simp
  have y1 : ((y * 256 : Nat) : Int) = (y : Int) * 256 := by simp
  rw [e1, e2, x1] at h1
  rw [e3, y1] at h2
  rw [h1, h2, h3]
  unfold rgbF
  omega

set_option maxHeartbeats 4000000 in
theorem follow_two (c : Int) (x y z : Int) (t : List Int) (ao : Option Addr) (cp B : Nat) (hl : t.length + 4 ≤ cp) (hm : cp ≤ maxLen) (w : World) (hn : Nums w B .i64 ao (2 :: x :: y :: z :: t)) (hB : B ≤ w.heap.size) :
    Calls Tryd.prog 15 #[.int .u32 c, .slice ao ((2 :: x :: y :: z :: t : List Int).length) cp] w (Fol w B (if isB x && isB y && isB z then rgbF x y z else c, t)) := by
  obtain ⟨ad, rfl, hb0, c0⟩ := hn 0 2 rfl
  obtain ⟨ad', e', hb1, c1⟩ := hn 1 x rfl
  cases e'
  obtain ⟨ad', e', hb2, c2⟩ := hn 2 y rfl
  cases e'
  obtain ⟨ad', e', hb3, c3⟩ := hn 3 z rfl
  cases e'
  rw [add_none] at c0
  rw [show ad.add 1 = ⟨ad.block, ad.off + 1, none⟩ from rfl] at c1
  rw [show ad.add 2 = ⟨ad.block, ad.off + 2, none⟩ from rfl] at c2
  rw [show ad.add 3 = ⟨ad.block, ad.off + 3, none⟩ from rfl] at c3
  have hd := sliced hn 4 hl
  rw [show (2 :: x :: y :: z :: t : List Int).drop 4 = t from rfl, show ad.add 4 = ⟨ad.block, ad.off + 4, none⟩ from rfl] at hd
  obtain ⟨q, hq⟩ : ∃ q, q = (if cp = 4 then some ad else some (⟨ad.block, ad.off + 4, none⟩ : Addr)) := ⟨_, rfl⟩
  rw [← hq] at hd
  replace hd := Lib.hid hd
  replace hq := Lib.hid hq
  have hlt : ad.block < w.heap.size := Nat.lt_of_lt_of_le hb0 hB
  have hby := Lib.hid (areBytes_any [x, y, z] (some ⟨w.drew.heap.size, 0, none⟩) 3 (w.drew.heap.size + 1) (by simp) _ (Nums.lit w.drew 3 .i64 [x, y, z]))
  have hbel := Lib.hid (below_new w (.cells #[.int .i64 x, .int .i64 y, .int .i64 z] 3))
  rw [all_three] at hby
  clear hn
  have hkeep := below_new w.drew (.cells #[.int .i64 x, .int .i64 y, .int .i64 z] 3)
  have k1 := (hkeep.cell (p := ⟨ad.block, ad.off + 1, none⟩) hlt).trans c1
  have k2 := (hkeep.cell (p := ⟨ad.block, ad.off + 2, none⟩) hlt).trans c2
  have k3 := (hkeep.cell (p := ⟨ad.block, ad.off + 3, none⟩) hlt).trans c3
  clear hkeep
  have hm63 : cp ≤ 9223372036854775807 := by simp only [maxLen] at hm; omega
  rw [show (2 :: x :: y :: z :: t : List Int).length = t.length + 4 by rfl]
  have hm' := Lib.hid hm
  clear hm
  generalize hN : t.length = N at hl
  have hN' := Lib.hid hN
  clear hN
  have l1 : (1 : Int) < (N : Int) + 4 := by omega
  have l2 : (2 : Int) < (N : Int) + 4 := by omega
  have l3 : (3 : Int) < (N : Int) + 4 := by omega
  rcases hi : (isB x && isB y && isB z) with _ | _
  · rw [hi] at hby
    go_enter Tryd.func15, Tryd.ntmps15
    go_wp2_with fail
    go_region_held3 (fun w' => w'.cell? ⟨ad.block, ad.off + 1, none⟩ = some (.int .i64 x) ∧ w'.cell? ⟨ad.block, ad.off + 2, none⟩ = some (.int .i64 y) ∧ w'.cell? ⟨ad.block, ad.off + 3, none⟩ = some (.int .i64 z))
      (first | exact ⟨c1, c2, c3⟩ | exact ⟨k1, k2, k3⟩ | go_keep)
      (first | (go_at_call 26; refine (hby.out).mono ?_; rintro e w' ⟨rfl, rfl⟩))
    go_wp2_with fail
    go_quiet (fail)
    rw [← hq.out]
    go_wp2
    go_ret2
    exact fol_slot hN'.out (by simp) (by omega) (by have := hm'.out; omega) hd.out (below_dr hbel.out _)
  · have hi' := hi
    simp only [Bool.and_eq_true] at hi'
    obtain ⟨⟨hx, hy⟩, hz⟩ := hi'
    have hE := Lib.hid (rgb_bits hx hy hz)
    simp only [isB, decide_eq_true_eq] at hx hy hz
    obtain ⟨x0, x1⟩ := hx
    obtain ⟨y0, y1⟩ := hy
    obtain ⟨z0, z1⟩ := hz
    rw [hi] at hby
    go_enter Tryd.func15, Tryd.ntmps15
    go_wp2_with fail
    go_region_held3 (fun w' => w'.cell? ⟨ad.block, ad.off + 1, none⟩ = some (.int .i64 x) ∧ w'.cell? ⟨ad.block, ad.off + 2, none⟩ = some (.int .i64 y) ∧ w'.cell? ⟨ad.block, ad.off + 3, none⟩ = some (.int .i64 z))
      (first | exact ⟨c1, c2, c3⟩ | exact ⟨k1, k2, k3⟩ | go_keep)
      (first | (go_at_call 26; refine (hby.out).mono ?_; rintro e w' ⟨rfl, rfl⟩))
    go_wp2_with fail
    go_quiet (fail)
    go_wp2_with fail
    go_quiet (fail)
    rw [← hq.out]
    go_wp2
    go_ret2
    exact fol_slot hN'.out hE.out (by omega) (by have := hm'.out; omega) hd.out (below_dr (below_dr hbel.out _) _)

theorem fol_five (c y : Int) (t : List Int) : folF c (5 :: y :: t) = (if isB y then y + 1 else c, t) := by
  unfold folF
  rw [if_pos ⟨by simp, rfl⟩]
  rfl
theorem fol_two (c x y z : Int) (t : List Int) : folF c (2 :: x :: y :: z :: t) = (if isB x && isB y && isB z then rgbF x y z else c, t) := by
  unfold folF
  rw [if_neg (by simp), if_pos ⟨by simp, rfl⟩]
  rfl
/-- What a list that tells no colour is. -/
structure Dumb (l : List Int) : Prop where
  five : 2 ≤ l.length → l.getD 0 0 ≠ 5
  two : 4 ≤ l.length → l.getD 0 0 ≠ 2
theorem fol_dumb {l : List Int} (h : Dumb l) (c : Int) : folF c l = (c, []) := by
  unfold folF
  rw [if_neg (fun e => h.five e.1 e.2), if_neg (fun e => h.two e.1 e.2)]
theorem fol_cases (l : List Int) : (∃ y t, l = 5 :: y :: t) ∨ (∃ x y z t, l = 2 :: x :: y :: z :: t) ∨ Dumb l := by
  rcases l with _ | ⟨a, _ | ⟨b, t⟩⟩
  · exact .inr (.inr ⟨by simp, by simp⟩)
  · exact .inr (.inr ⟨by simp, by simp⟩)
  · by_cases h5 : a = 5
    · subst h5; exact .inl ⟨b, t, rfl⟩
    rcases t with _ | ⟨c, _ | ⟨d, t⟩⟩
    · exact .inr (.inr ⟨by simpa using h5, by simp⟩)
    · exact .inr (.inr ⟨by simpa using h5, by simp⟩)
    · by_cases h2 : a = 2
      · subst h2; exact .inr (.inl ⟨b, c, d, t, rfl⟩)
      · exact .inr (.inr ⟨by simpa using h5, by simpa using h2⟩)

set_option maxHeartbeats 2000000 in
theorem follow_dumb (c : Int) (l : List Int) (h : Dumb l) (ao : Option Addr) (cp B : Nat) (hm : l.length ≤ maxLen) (w : World) (hn : Nums w B .i64 ao l) :
    Calls Tryd.prog 15 #[.int .u32 c, .slice ao l.length cp] w (Fol w B (c, [])) := by
  have hm63 : l.length ≤ 9223372036854775807 := by simp only [maxLen] at hm; omega
  clear hm
  by_cases h2 : l.length < 2
  · clear hn h
    generalize l.length = N at hm63 h2
    have h4 : N < 4 := by omega
    go_enter Tryd.func15, Tryd.ntmps15
    go_wp2
    go_ret2
    exact fol_slot (x := none) (y := 0) rfl rfl (by simp) (by simp) (Nums.nil _ _ _ _) (Below.refl _ _)
  obtain ⟨ad, rfl, _, c0⟩ := hn.at (i := 0) (by omega)
  rw [add_none] at c0
  have e0 : l.getD 0 0 = l[0] := getD_at (by omega)
  have h5 := h.five (by omega)
  have h42 := h.two
  rw [e0] at h5 h42
  clear hn h e0
  generalize l[0] = x at c0 h5 h42
  generalize l.length = N at hm63 h2 h42
  have h5' : (x == 5) = false := by simpa using h5
  by_cases h4 : N < 4
  · go_enter Tryd.func15, Tryd.ntmps15
    go_wp2
    go_ret2
    exact fol_slot (x := none) (y := 0) rfl rfl (by simp) (by simp) (Nums.nil _ _ _ _) (Below.refl _ _)
  · have h2' : (x == 2) = false := by simpa using h42 (by omega)
    go_enter Tryd.func15, Tryd.ntmps15
    go_wp2
    go_ret2
    exact fol_slot (x := none) (y := 0) rfl rfl (by simp) (by simp) (Nums.nil _ _ _ _) (Below.refl _ _)

theorem follow_any (c : Int) (l : List Int) (ao : Option Addr) (cp B : Nat) (hl : l.length ≤ cp) (hm : cp ≤ maxLen) (w : World) (hn : Nums w B .i64 ao l) (hB : B ≤ w.heap.size) :
    Calls Tryd.prog 15 #[.int .u32 c, .slice ao l.length cp] w (Fol w B (folF c l)) := by
  rcases fol_cases l with ⟨y, t, rfl⟩ | ⟨x, y, z, t, rfl⟩ | h
  · rw [fol_five]; exact follow_five c y t ao cp B (by simpa using hl) hm w hn hB
  · rw [fol_two]; exact follow_two c x y z t ao cp B (by simpa using hl) hm w hn hB
  · rw [fol_dumb h]; exact follow_dumb c l h ao cp B (by omega) w hn

end Go.Proofs.YtlpihhjdgipgnaaDoor.Sgr
