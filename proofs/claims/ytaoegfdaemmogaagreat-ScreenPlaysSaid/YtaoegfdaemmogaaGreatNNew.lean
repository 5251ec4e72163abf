/-
  screen: New.
-/
import Derived.Test.YtaoegfdaemmogaaGreatNRes
namespace Go.Proofs.YtaoegfdaemmogaaGreat.Scn
open Go Go.RowKit Go.Proofs.YtaoegfdaemmogaaGreat.Com Go.Proofs.YtaoegfdaemmogaaGreat.Rw Go.Proofs.YtaoegfdaemmogaaGreat.Lns
section
variable {B : Nat} {w w' : World} {x s nx most : Nat} {sv : Value} {R : List En} {S : Scr}
/-- A fresh screen. -/
def newS (nx most rows cols : Nat) (kp : Bool) (R : List Ln) : Scr := margS (chg { nx := nx, most := most, kp := kp, cols := cols, top := 0, bot := 0, L := [], R := R } 0 0 0 rows zeroAt false)
theorem newS_L (nx most rows cols : Nat) (kp : Bool) (R : List Ln) : (newS nx most rows cols kp R).L = freshS nx cols rows zeroAt := by
  show insA (outA [] 0 0) 0 (freshS nx cols rows zeroAt) = _
  simp [insA, outA]
theorem newS_fit {nx most rows cols : Nat} {kp : Bool} {R : List Ln} (h1 : 1 ≤ rows) (h5 : rows ≤ 512) (c1 : 1 ≤ cols) (c5 : cols ≤ 512) (hn : 1 ≤ nx) : Fit (newS nx most rows cols kp R) := by
  have hL := newS_L nx most rows cols kp R
  have hl : (newS nx most rows cols kp R).L.length = rows := by rw [hL, freshS_len]
  have hb : (newS nx most rows cols kp R).bot = (newS nx most rows cols kp R).L.length - 1 := rfl
  refine ⟨by omega, by omega, by omega, Nat.zero_le _, c1, c5, fun p hp => ?_, fun p hp => ?_, Nat.le_trans hn (Nat.le_add_right _ _)⟩
  · rw [hL] at hp
    exact (freshS_mem hp).1
  · rw [hL] at hp
    have := freshS_mem hp
    refine ⟨by omega, ?_⟩
    show p.1 < ((nx + rows : Nat) : Int)
    omega
theorem there_any (h : SX B w s nx most sv R) : Calls Tryz.prog 60 #[.pointer (some ⟨s, 0, none⟩)] w fun e w' => e = .returned (.bool true) ∧ w = w' := by
  have hn := Lib.hid (next_any h)
  have hp : (0 : Int) < (nx : Int) := by
    obtain ⟨⟨o, P, h0, _⟩, _⟩ := h
    have := h0.pos
    omega
  clear h
  go_enter Tryz.func60, Tryz.ntmps60
  go_wp2_with ((go_at_call 43; (with_reducible refine (hn.out).mono ?_); rintro e w' ⟨rfl, rfl⟩))
  go_ret
  first | exact ⟨rfl, rfl⟩ | exact ⟨ret_bool (decide_eq_true (by omega)), rfl⟩
theorem there_nil (w : World) : Calls Tryz.prog 60 #[.pointer none] w fun e w' => e = .returned (.bool false) ∧ w = w' := by
  have hm : ∀ w, Calls Tryz.prog 48 #[.pointer none] w fun e w' => e = .returned (.bool false) ∧ w = w' := fun w => by
    go_enter Tryz.func48, Tryz.ntmps48
    go_wp2
    go_ret
    exact ⟨rfl, rfl⟩
  have hn : ∀ w, Calls Tryz.prog 43 #[.pointer none] w fun e w' => e = .returned (.int .i64 0) ∧ w = w' := fun w => by
    replace hm := Lib.hid hm
    go_enter Tryz.func43, Tryz.ntmps43
    go_wp2_with ((go_at_call 48; (with_reducible refine (hm.out _).mono ?_); rintro e w' ⟨rfl, rfl⟩))
    go_ret
    exact ⟨rfl, rfl⟩
  replace hn := Lib.hid hn
  clear hm
  go_enter Tryz.func60, Tryz.ntmps60
  go_wp2_with ((go_at_call 43; (with_reducible refine (hn.out _).mono ?_); rintro e w' ⟨rfl, rfl⟩))
  go_ret
  exact ⟨rfl, rfl⟩
/-- Sizes that may not be, or a store that is not there: none. -/
theorem snew_no (rows cols : Int) (p : Option Addr) (kp : Bool) (w : World) (hno : ¬ (1 ≤ rows ∧ rows ≤ 512) ∨ ¬ (1 ≤ cols ∧ cols ≤ 512) ∨ p = none) : Calls Tryz.prog 23 #[.int .i64 rows, .int .i64 cols, .pointer p, .bool kp] w fun e w' => e = .returned (.tuple #[.pointer none, .int .i64 2]) ∧ w = w' := by
  have h1 := fun w => count_sc rows w
  have h2 := fun w => count_sc cols w
  have h3 := Lib.hid (fun w => there_nil w)
  by_cases q1 : 1 ≤ rows ∧ rows ≤ 512
  · rw [decide_eq_true q1] at h1
    by_cases q2 : 1 ≤ cols ∧ cols ≤ 512
    · rw [decide_eq_true q2] at h2
      obtain rfl : p = none := by
        rcases hno with h | h | h
        · exact absurd q1 h
        · exact absurd q2 h
        · exact h
      replace h1 := Lib.hid h1
      replace h2 := Lib.hid h2
      clear hno q1 q2
      go_enter Tryz.func23, Tryz.ntmps23
      go_wp2_with (first
        | (go_at_call 55; (with_reducible refine (h1.out _).mono ?_); rintro e w' ⟨rfl, rfl⟩)
        | (go_at_call 55; (with_reducible refine (h2.out _).mono ?_); rintro e w' ⟨rfl, rfl⟩)
        | (go_at_call 60; (with_reducible refine (h3.out _).mono ?_); rintro e w' ⟨rfl, rfl⟩))
      go_ret2
      exact ⟨rfl, rfl⟩
    · rw [decide_eq_false q2] at h2
      replace h1 := Lib.hid h1
      replace h2 := Lib.hid h2
      clear hno q1 q2
      go_enter Tryz.func23, Tryz.ntmps23
      go_wp2_with (first
        | (go_at_call 55; (with_reducible refine (h1.out _).mono ?_); rintro e w' ⟨rfl, rfl⟩)
        | (go_at_call 55; (with_reducible refine (h2.out _).mono ?_); rintro e w' ⟨rfl, rfl⟩))
      go_ret2
      exact ⟨rfl, rfl⟩
  · rw [decide_eq_false q1] at h1
    replace h1 := Lib.hid h1
    clear hno q1 h2
    go_enter Tryz.func23, Tryz.ntmps23
    go_wp2_with (first
      | (go_at_call 55; (with_reducible refine (h1.out _).mono ?_); rintro e w' ⟨rfl, rfl⟩))
    go_ret2
    exact ⟨rfl, rfl⟩
set_option maxHeartbeats 4000000 in
theorem snew_yes (h : SX B w s nx most sv R) (hd : (R.map En.d).Nodup) (hg : (R.map En.g).Nodup) (rows cols : Nat) (kp : Bool) (hr1 : 1 ≤ rows) (hr5 : rows ≤ 512) (hc1 : 1 ≤ cols) (hc5 : cols ≤ 512) (hnx : nx + 512 ≤ 1000000) :
    Calls Tryz.prog 23 #[.int .i64 rows, .int .i64 cols, .pointer (some ⟨s, 0, none⟩), .bool kp] w fun e w' => e = .returned (.tuple #[.pointer (some ⟨w.heap.size, 0, none⟩), .int .i64 0]) ∧ SC B w' w.heap.size s (newS nx most rows cols kp (vw R)) ∧ Fr B PT w w' := by
  have h1 := fun w => count_sc rows w
  rw [decide_eq_true (by omega)] at h1
  have h2 := fun w => count_sc cols w
  rw [decide_eq_true (by omega)] at h2
  have h3 := there_any h
  have hb := below_new w (.cells #[.pointer (some ⟨s, 0, none⟩), .bool kp, .int .i64 cols, .slice none 0 0, .int .i64 0, .int .i64 0] 86)
  have hBw : B ≤ w.heap.size := by
    obtain ⟨⟨o, P, h0, _⟩, _⟩ := h
    exact Nat.le_trans h0.lo (Nat.le_of_lt h0.blk.lt)
  have hplt := fun g hg => (h.ptyp g hg).2.1
  have hS0 : SC B (w.alloc (.cells #[.pointer (some ⟨s, 0, none⟩), .bool kp, .int .i64 cols, .slice none 0 0, .int .i64 0, .int .i64 0] 86)) w.heap.size s { nx := nx, most := most, kp := kp, cols := cols, top := 0, bot := 0, L := [], R := vw R } :=
    ⟨sv, .slice none 0 0, [], R, ⟨⟨Block.made w _ _, World.ownsRow_nil _ _ _ _, h.below hb, fun g hg => (by cases hg), hBw, by simp⟩, by simp, by simpa using hd, by simpa using hg⟩, rfl, rfl⟩
  have hch := chg_forget hS0 0 0 0 rows (by simp) (by simp) (by simp; omega) (by show nx + rows ≤ _; omega) hc1 hc5 zeroAt
  have hch' : Calls Tryz.prog 57 #[.pointer (some ⟨w.heap.size, 0, none⟩), .agg #[.int .i64 0, .int .i64 0], .agg #[.int .i64 0, .int .i64 rows], .agg #[.int .u32 0, .int .u32 0, .int .u16 0], .func (.func 54) #[.pointer (some ⟨w.heap.size, 0, none⟩)] #[]] (w.alloc (.cells #[.pointer (some ⟨s, 0, none⟩), .bool kp, .int .i64 cols, .slice none 0 0, .int .i64 0, .int .i64 0] 86)) (Did B _ w.heap.size s _) := hch
  clear hch
  have hcl : (chg { nx := nx, most := most, kp := kp, cols := cols, top := 0, bot := 0, L := [], R := vw R } 0 0 0 rows zeroAt false).L.length = rows := by rw [chg_len (by simp)]; simp
  have hm := fun w' (hs : SC B w' w.heap.size s (chg { nx := nx, most := most, kp := kp, cols := cols, top := 0, bot := 0, L := [], R := vw R } 0 0 0 rows zeroAt false)) => marg_sc hs (by omega) (by omega)
  unfold newS
  generalize chg { nx := nx, most := most, kp := kp, cols := cols, top := 0, bot := 0, L := [], R := vw R } 0 0 0 rows zeroAt false = S1 at hch' hm hcl ⊢
  generalize margS S1 = S2 at hm ⊢
  have hmf := mkf
  replace h1 := Lib.hid h1
  replace h2 := Lib.hid h2
  replace h3 := Lib.hid h3
  replace hm := Lib.hid hm
  replace hch' := Lib.hid hch'
  replace hb := Lib.hid hb
  clear h hd hg hS0 hr1 hr5 hc1 hc5 hnx hplt hcl
  go_enter Tryz.func23, Tryz.ntmps23
  go_wp2_with (first
    | (go_at_call 55; (with_reducible refine (h1.out _).mono ?_); rintro e w' ⟨rfl, rfl⟩)
    | (go_at_call 55; (with_reducible refine (h2.out _).mono ?_); rintro e w' ⟨rfl, rfl⟩)
    | (go_at_call 60; (with_reducible refine (h3.out).mono ?_); rintro e w' ⟨rfl, rfl⟩)
    | (go_at_call 57; (with_reducible refine hch'.out.mono ?_); rintro r w2 ⟨⟨v2, rfl⟩, hs2, hf2⟩)
    | (go_at_call 59; (with_reducible refine (hm.out _ hs2).mono ?_); rintro r w3 ⟨⟨v3, rfl⟩, hs3, hf3⟩))
  go_ret2
  exact ⟨rfl, hs3, ((Fr.of_below hb.out).trans hf2).trans hf3⟩
/-- The first row of an id. -/
theorem first_none {L : List Int} {y : Int} (h : ∀ i (hi : i < L.length), L[i] ≠ y) : firstF L y = -1 := by
  unfold firstF
  have : L.findIdx? (· == y) = none := by
    rw [List.findIdx?_eq_none_iff]
    intro a ha
    obtain ⟨i, hi, rfl⟩ := List.mem_iff_getElem.1 ha
    simpa using h i hi
  rw [this]
theorem first_at {L : List Int} {y : Int} {k : Nat} (hk : k < L.length) (he : L[k] = y) (h : ∀ i (hi : i < k), L[i]'(by omega) ≠ y) : firstF L y = k := by
  unfold firstF
  have : L.findIdx? (· == y) = some k := by
    rw [List.findIdx?_eq_some_iff_getElem]
    exact ⟨hk, by simpa using he, fun j hj => by simpa using h j hj⟩
  rw [this]
set_option maxRecDepth 100000 in
set_option maxHeartbeats 1000000 in
theorem sfind_sc (h : SC B w x s S) (hF : Fit S) (id : Int) : Calls Tryz.prog 38 #[.pointer (some ⟨x, 0, none⟩), .int .i64 id] w fun e w' => e = .returned (.int .i64 (firstF (idsL S.L) id)) ∧ w = w' := by
  have hr := Lib.hid (rows_sc h hF.len)
  have hl5 := hF.len5
  have hel := fun i (hi : i < S.L.length) => h.elem hi
  have hid : ∀ i (hi : i < S.L.length), (idsL S.L)[i]'(by simpa [idsL] using hi) = S.L[i].1 := fun i hi => by simp [idsL]
  have hil : (idsL S.L).length = S.L.length := by simp [idsL]
  obtain ⟨n, hn⟩ : ∃ n, S.L.length = n := ⟨_, rfl⟩
  rw [hn] at hr hl5
  replace hel := Lib.hid hel
  replace hid := Lib.hid hid
  replace hil := Lib.hid hil
  replace hn := Lib.hid hn
  clear h hF
  go_enter Tryz.func38, Tryz.ntmps38
  go_wp2_with ((go_at_call 36; (with_reducible refine (hr.out).mono ?_); rintro e w' ⟨rfl, rfl⟩))
  go_loopw [8] (fun iv wr => wr = w ∧ ∃ j : Nat, j ≤ n ∧ iv = .int .i64 j ∧ Hid (∀ i (hi : i < S.L.length), i < j → S.L[i].1 ≠ id)) (fun iv _ => n - (intOf iv).toNat)
  case atStart => exact ⟨rfl, 0, Nat.zero_le _, rfl, Lib.hid (fun i hi h0 => absurd h0 (by omega))⟩
  case round =>
    obtain ⟨rfl, j, hj, rfl, hR⟩ := hrel
    by_cases hlt : j < n
    · have hjI : (j : Int) < (n : Int) := by omega
      have hjL : j < S.L.length := by rw [hn.out]; exact hlt
      obtain ⟨g, c, d, c3, q0, q1⟩ := hel.out j hjL
      rw [hn.out] at c3
      obtain ⟨y, hy⟩ : ∃ y, y = S.L[j].1 := ⟨_, rfl⟩
      rw [← hy] at q0
      clear q1
      by_cases he : y = id
      · have hres := Lib.hid (first_at (L := idsL S.L) (k := j) (y := id) (by rw [hil.out]; exact hjL) (by rw [hid.out j hjL, ← hy]; exact he) (fun i hi => by rw [hid.out i (by omega)]; exact hR.out i (by omega) hi))
        have he' : (y == id) = true := beq_iff_eq.2 he
        clear hy
        subst he
        go_wp2
        go_ret
        exact ⟨ret_int hres.out.symm, rfl⟩
      · have hres := Lib.hid (fun i (hi : i < S.L.length) (h0 : i < j + 1) => (by
          by_cases c : i = j
          · subst c; rw [← hy]; exact he
          · exact hR.out i hi (by omega) : S.L[i].1 ≠ id))
        have he' : (y == id) = false := beq_eq_false_iff_ne.2 he
        clear hy he
        go_wp2
        go_roundw
        case rel => exact ⟨trivial, j + 1, by omega, by go_num, hres⟩
        case measure => simp [intOf]; omega
    · obtain rfl : j = n := by omega
      have hres := Lib.hid (first_none (L := idsL S.L) (y := id) (fun i hi => by
        have hi' : i < S.L.length := by rw [← hil.out]; exact hi
        rw [hid.out i hi']
        exact hR.out i hi' (by rw [← hn.out]; exact hi')))
      go_wp2
      go_ret
      exact ⟨ret_int hres.out.symm, rfl⟩
end
end Go.Proofs.YtaoegfdaemmogaaGreat.Scn
