/-
  tabs: the calls that look through the words: count, nth, all.
-/
import Derived.Test.YtihmagpgbjlggaaDoorTWith
import Derived.Test.YtihmagpgbjlggaaDoorTMath2
import Derived.Test.YtihmagpgbjlggaaDoorMem2
import Derived.Deep.LoopGhost
namespace Go.Proofs.YtihmagpgbjlggaaDoor.Tbs
open Go Go.RowKit Go.Proofs.YtihmagpgbjlggaaDoor.Com

/-- A number, and nothing that was there is turned. -/
def Num (w : World) (n : Nat) (e : Ending) (w' : World) : Prop := e = .returned (.int .i64 n) ∧ Below w.heap.size w w'
set_option maxHeartbeats 1000000 in
theorem count_any (f : Nat → Bool) (w : World) : Calls Tryd.prog 35 #[.agg (wsA f)] w (Num w (sts f 512).length) := by
  have hb0 := Block.made w 49 (wsA f)
  have hbel := below_new w (.cells (wsA f) 49)
  go_enter Tryd.func35, Tryd.ntmps35
  go_wp2
  generalize w.alloc (.cells (wsA f) 49) = w0 at hb0 hbel ⊢
  obtain ⟨d0, hd0⟩ : ∃ d0, d0 = w.heap.size := ⟨_, rfl⟩
  rw [← hd0] at hb0 ⊢
  clear hd0
  replace hb0 := Lib.hid hb0
  replace hbel := Lib.hid hbel
  go_loop [3, 5] (fun n i => ∃ (k t : Nat), k ≤ 8 ∧ i = .int .i64 k ∧ n = .int .i64 t ∧ t ≤ 512 ∧ Hid (t = (sts f (64 * k)).length)) (fun _ i => 8 - (intOf i).toNat)
  case atStart => exact ⟨0, 0, by omega, rfl, rfl, by omega, Lib.hid rfl⟩
  case round =>
    obtain ⟨k, t, hk, rfl, rfl, ht0, hT⟩ := hrel
    by_cases hlt : k < 8
    · have hcell := hb0.out.cell k (ws_at f hlt)
      have hon := Lib.hid (fun w => ones_any (wd f k) (wd_lt f k) w)
      have hpop := pop_sts f k
      rw [← hT.out] at hpop
      have hle := sts_bound f (64 * (k + 1))
      have hd : ds 2 64 (wd f k) ≤ 512 := by omega
      have ht2 : t + ds 2 64 (wd f k) ≤ 512 := by omega
      generalize wd f k = x at hcell hon hpop hd ht2
      generalize ds 2 64 x = m at hon hpop hd ht2
      replace hpop := Lib.hid hpop
      clear hT hle
      go_wp2_with ((go_at_call 39; (with_reducible refine (hon.out _).mono ?_); rintro e w' ⟨rfl, rfl⟩))
      go_round
      case rel => exact ⟨k + 1, t + m, by omega, by go_num, by go_num, ht2, hpop⟩
      case measure => simp [intOf]; omega
    · obtain rfl : k = 8 := by omega
      go_wp2
      go_ret
      exact ⟨ret_int (by rw [hT.out]), hbel.out⟩

/-- Where nth, all stand: p the first column that is not done. -/
structure At8 (w wr : World) (d0 : Nat) (f : Nat → Bool) (p : Nat) : Prop where
  own : Block wr d0 49 (wsA (rest f p))
  below : Below w.heap.size w wr
  low : w.heap.size ≤ d0
theorem At8.gap {w wr : World} {d0 : Nat} {f : Nat → Bool} {p q : Nat} (h : At8 w wr d0 f p) (hpq : p ≤ q) (hf : ∀ c, p ≤ c → c < q → f c = false) : At8 w wr d0 f q := by
  have := h.own
  rw [rest_gap hpq hf] at this
  exact ⟨this, h.below, h.low⟩
theorem At8.cleared {w wr w' : World} {d0 : Nat} {f : Nat → Bool} {p c : Nat} (h : At8 w wr d0 f p) (hc : putF (rest f p) c false = rest f (c + 1)) {e : Ending} (hb : Bit wr d0 0 49 (wsA (rest f p)) (rest f p) c false e w') : At8 w w' d0 f (c + 1) := by
  obtain ⟨_, h1, h2⟩ := hb
  rw [Nat.zero_add, bit_ws, hc] at h1
  exact ⟨h1, below_on h.below h2 h.low, h.low⟩
/-- What stands within one word. -/
structure InW (f : Nat → Bool) (k j p t : Nat) : Prop where
  lo : 64 * k ≤ p
  hi : p ≤ 64 * (k + 1)
  len : t = (sts f p).length
  add : t = (sts f (64 * k)).length + j

set_option maxRecDepth 100000 in
set_option maxHeartbeats 2000000 in
theorem nth_succ (f : Nat → Bool) (n : Nat) (h2 : n + 1 ≤ (sts f 512).length) (w : World) (T : Tab w) : Calls Tryd.prog 36 #[.agg (wsA f), .int .i64 ((n : Int) + 1)] w (Num w ((sts f 512).getD n 0)) := by
  have hb0 := Block.made w 49 (wsA f)
  have hbel := below_new w (.cells (wsA f) 49)
  have hn := sts_bound f 512
  have hn5 : n < 512 := by omega
  clear hn
  replace h2 := Lib.hid h2
  go_enter Tryd.func36, Tryd.ntmps36
  go_wp2
  generalize w.alloc (.cells (wsA f) 49) = w0 at hb0 hbel ⊢
  obtain ⟨d0, hd0⟩ : ∃ d0, d0 = w.heap.size := ⟨_, rfl⟩
  rw [← hd0] at hb0 ⊢
  have hA : Hid (At8 w w0 d0 f 0) := Lib.hid ⟨by rw [rest_zero]; exact hb0, hbel, by omega⟩
  clear hd0 hb0 hbel
  replace T := Lib.hid T
  go_step3
  go_wp2
  go_step3
  go_wp2
  go_loopg [1, 5, 7] 8 (fun g m c i wr => ∃ (k t r : Nat) (x : Int), k + g = 8 ∧ i = .int .i64 k ∧ c = .int .i64 x ∧ m = .int .i64 ((r : Int) + 1) ∧ Hid (t + r = n) ∧ r ≤ 512 ∧ Hid (t = (sts f (64 * k)).length) ∧ Hid (At8 w wr d0 f (64 * k)))
  case atStart => exact ⟨0, 0, n, 0, by omega, rfl, rfl, by simp, Lib.hid (by omega), by omega, Lib.hid rfl, hA⟩
  case round =>
    obtain ⟨k, t, r, x, hk, rfl, rfl, rfl, htr, hr5, hT, hW⟩ := hrel
    cases gk with
    | zero =>
      exfalso
      obtain rfl : k = 8 := by omega
      have e1 := hT.out
      have e2 := h2.out
      have e3 := htr.out
      simp only [show 64 * 8 = 512 from rfl] at e1
      omega
    | succ g =>
      have hlt : k < 8 := by omega
      have hcell := hW.out.own.cell k (ws_at _ hlt)
      rw [rest_word (Nat.le_refl _)] at hcell
      have hon := Lib.hid (fun w => ones_any (wd f k) (wd_lt f k) w)
      have hpop := pop_sts f k
      have hle := sts_bound f (64 * (k + 1))
      have hd : ds 2 64 (wd f k) ≤ 512 := by omega
      generalize wd f k = y at hcell hon hpop hd
      generalize ds 2 64 y = N at hon hpop hd
      replace hpop := Lib.hid hpop
      clear hle
      replace hk := Lib.hid hk
      go_wp2_with ((go_at_call 39; (with_reducible refine (hon.out _).mono ?_); rintro e w' ⟨rfl, rfl⟩))
      clear hcell hon
      go_loopg [1, 5, 14] N (fun g m c i wr => ∃ (j p t r : Nat) (x : Int), j + g = N ∧ i = .int .i64 j ∧ c = .int .i64 x ∧ m = .int .i64 ((r : Int) + 1) ∧ Hid (t + r = n) ∧ r ≤ 512 ∧ Hid (InW f k j p t) ∧ Hid (At8 w wr d0 f p))
      case atStart => exact ⟨0, 64 * k, t, r, x, by omega, rfl, rfl, rfl, htr, hr5, Lib.hid ⟨Nat.le_refl _, by omega, hT.out, hT.out⟩, hW⟩
      case round =>
        clear htr hT hW
        obtain ⟨j, p, t, r, x, hj, rfl, rfl, rfl, htr, hr5, hI, hW⟩ := hrel
        cases gk with
        | zero =>
          have hj0 : ¬ ((j : Int) < (N : Int)) := by omega
          obtain rfl : j = N := by omega
          have hlen : (sts f (64 * (k + 1))).length = (sts f p).length := by
            have e1 := hI.out.len
            have e2 := hI.out.add
            have e3 := hpop.out
            omega
          have hW2 := Lib.hid (hW.out.gap hI.out.hi (sts_same hlen))
          have hT2 : Hid (t = (sts f (64 * (k + 1))).length) := Lib.hid (by rw [hlen]; exact hI.out.len)
          clear hW hI hpop hlen
          go_wp2
          go_roundg g
          case measure => omega
          case rel => exact ⟨k + 1, t, r, x, by have := hk.out; omega, by go_num, rfl, rfl, htr, hr5, hT2, hW2⟩
        | succ g2 =>
          have hj0 : (j : Int) < (N : Int) := by omega
          have hnx := next_stop hI.out.lo hI.out.hi (by rw [← hI.out.len, hI.out.add, ← hpop.out]; omega)
          obtain ⟨hne, c, hc, hpc, hcl, hck, hs, hput⟩ := hnx
          have hcell := hW.out.own.cell k (ws_at _ hlt)
          have htz := Lib.hid (fun w T => tz_any (wd (rest f p) k) (wd_lt _ _) hne w T)
          have hclr := Lib.hid (clear_any (rest f p) c (by omega) d0 0 49 (wsA (rest f p)) _ hW.out.own (by rw [Nat.zero_add]; exact ws_at _ (by omega)))
          have hcv : (k : Int) * 64 + (Lib.ctz 64 (wd (rest f p) k) : Nat) = (c : Int) := by omega
          have hTw := Lib.hid (T.out.below hW.out.below)
          have hc5 : c < 512 := by omega
          have hI2 : Hid (InW f k (j + 1) (c + 1) (t + 1)) := Lib.hid ⟨by have := hI.out.lo; omega, by omega, by rw [hs, List.length_append, ← hI.out.len]; rfl, by have := hI.out.add; omega⟩
          have hans : Hid ((sts f 512).getD t 0 = c) := Lib.hid (by
            have := sts_get hs (show c + 1 ≤ 512 by omega)
            rw [← hI.out.len] at this
            rw [List.getD_eq_getElem?_getD, this]
            rfl)
          generalize Lib.ctz 64 (wd (rest f p) k) = z at htz hcv
          generalize wd (rest f p) k = y at hcell htz
          replace hput := Lib.hid hput
          clear hne hc hs hI hpop hpc hcl hck
          by_cases hr : r = 0
          · subst hr
            have htn : Hid (t = n) := Lib.hid (by have := htr.out; omega)
            have hbel := Lib.hid hW.out.below
            clear hclr hW
            go_wp2_with (first
              | (go_at_call 40; (with_reducible refine (htz.out _ hTw.out).mono ?_); rintro e w' ⟨rfl, rfl⟩))
            try rw [Exit.noGoto_ret]
            go_ret
            exact ⟨ret_int (by rw [← htn.out, hans.out]), hbel.out⟩
          · obtain ⟨r, rfl⟩ : ∃ r', r = r' + 1 := ⟨r - 1, by omega⟩
            have hrn : (((r + 1 : Nat) : Int) == 0) = false := by simp; omega
            have htr2 : Hid (t + 1 + r = n) := Lib.hid (by have := htr.out; omega)
            clear htr hans
            go_wp2_with (first
              | (go_at_call 40; (with_reducible refine (htz.out _ hTw.out).mono ?_); rintro e w' ⟨rfl, rfl⟩)
              | (go_at_call 30; (with_reducible refine (hclr.out).mono ?_); rintro e w' ⟨⟨v', rfl⟩, hb', ho'⟩))
            have hW2 : Hid (At8 w w' d0 f (c + 1)) := Lib.hid (hW.out.cleared hput.out (e := .returned v') ⟨⟨v', rfl⟩, hb', ho'⟩)
            clear hb' ho' hW
            go_roundg g2
            case measure => omega
            case rel => exact ⟨j + 1, c + 1, t + 1, r, c, by omega, by go_num, rfl, by go_num, htr2, by omega, hI2, hW2⟩
theorem nth_any (f : Nat → Bool) (n : Nat) (h1 : 1 ≤ n) (h2 : n ≤ (sts f 512).length) (w : World) (T : Tab w) : Calls Tryd.prog 36 #[.agg (wsA f), .int .i64 n] w (Num w ((sts f 512).getD (n - 1) 0)) := by
  obtain ⟨n, rfl⟩ : ∃ m, n = m + 1 := ⟨n - 1, by omega⟩
  exact nth_succ f n h2 w T

end Go.Proofs.YtihmagpgbjlggaaDoor.Tbs
