/-
  lines: LinesLast.
-/
import Derived.Test.YtleooelhnnfjbaaLKnow
import Derived.Test.YtleooelhnnfjbaaLArg
import Derived.Deep.CutRange
import Derived.Maps.RangeWalk
namespace Go.Proofs.Ytleooelhnnfjbaa.Lns
open Go Go.RowKit Go.Proofs.Ytleooelhnnfjbaa.Com Go.Proofs.Ytleooelhnnfjbaa.Rw

set_option maxRecDepth 100000 in
set_option maxHeartbeats 4000000 in
theorem last_no (most n : Int) (h : most < 0 ∨ 10000 < most) (w : World) : Calls Try.prog 4 #[.int .i64 most, .int .i64 n] w fun e w' => e = .returned (.bool true) ∧ Below w.heap.size w w' := by
  have hnew := Lib.hid (new_no most h w)
  have hkn := Lib.hid (fun w => known_any w)
  clear h
  go_enter Try.func4, Try.ntmps4
  go_wp2_with (first
    | (go_at_call 6; (with_reducible refine (hnew.out).mono ?_); rintro e w1 ⟨rfl, rfl⟩)
    | (go_at_call 8; (with_reducible refine (hkn.out _).mono ?_); rintro e w1 ⟨rfl, hb1⟩))
  go_ret
  exact ⟨rfl, hb1⟩
set_option maxRecDepth 100000 in
set_option maxHeartbeats 4000000 in
theorem last_out (most : Nat) (n : Int) (hm : most ≤ 10000) (h : 30 < most ∨ n < 0 ∨ 100 < n) (w : World) : Calls Try.prog 4 #[.int .i64 most, .int .i64 n] w fun e w' => e = .returned (.bool true) ∧ Below w.heap.size w w' := by
  have hnew := Lib.hid (new_yes most hm w)
  have hkn := Lib.hid (fun w => known_any w)
  by_cases h1 : 30 < (most : Int)
  · clear h
    go_enter Try.func4, Try.ntmps4
    go_wp2_with (first
      | (go_at_call 6; (with_reducible refine (hnew.out).mono ?_); rintro e w1 ⟨rfl, hS, hb⟩)
      | (go_at_call 8; (with_reducible refine (hkn.out _).mono ?_); rintro e w2 ⟨rfl, hb2⟩))
    go_ret
    exact ⟨rfl, below_next hb hb2⟩
  have h1' := decide_eq_false h1
  by_cases h2 : n < 0
  · clear h
    go_enter Try.func4, Try.ntmps4
    go_wp2_with (first
      | (go_at_call 6; (with_reducible refine (hnew.out).mono ?_); rintro e w1 ⟨rfl, hS, hb⟩)
      | (go_at_call 8; (with_reducible refine (hkn.out _).mono ?_); rintro e w2 ⟨rfl, hb2⟩))
    go_ret
    exact ⟨rfl, below_next hb hb2⟩
  have h2' := decide_eq_false h2
  have h3 : 100 < n := by omega
  clear h
  go_enter Try.func4, Try.ntmps4
  go_wp2_with (first
    | (go_at_call 6; (with_reducible refine (hnew.out).mono ?_); rintro e w1 ⟨rfl, hS, hb⟩)
    | (go_at_call 8; (with_reducible refine (hkn.out _).mono ?_); rintro e w2 ⟨rfl, hb2⟩))
  go_ret
  exact ⟨rfl, below_next hb hb2⟩
set_option maxRecDepth 100000 in
set_option maxHeartbeats 4000000 in
theorem last_in (most n : Nat) (hm : most ≤ 30) (hn : n ≤ 100) (w : World) : Calls Try.prog 4 #[.int .i64 most, .int .i64 n] w fun e w' => e = .returned (.bool true) ∧ Below w.heap.size w w' := by
  have hnew := new_yes most (by omega) w
  have hkn := Lib.hid (fun w => known_any w)
  obtain ⟨s, hs⟩ : ∃ s, s = w.heap.size := ⟨_, rfl⟩
  rw [← hs] at hnew
  replace hs := Lib.hid hs
  replace hnew := Lib.hid hnew
  have h1 : decide (30 < (most : Int)) = false := decide_eq_false (by omega)
  have h2 : decide ((n : Int) < 0) = false := decide_eq_false (by omega)
  have h3 : decide (100 < (n : Int)) = false := decide_eq_false (by omega)
  go_enter Try.func4, Try.ntmps4
  go_wp2_with ((go_at_call 6; (with_reducible refine (hnew.out).mono ?_); rintro e w1 ⟨rfl, hS, hb⟩))
  have h0 : Hid (KnSt w.heap.size w w1 s most 1 0) := Lib.hid ⟨⟨_, _, by have e := hs.out; rw [← e]; exact hS, by simp [lastIds], by simp⟩, by have e := hs.out; rw [← e]; exact hb, by rw [hs.out]; exact Nat.le_refl _⟩
  clear hS hb hnew h1 h2 h3
  go_loopw [46] (fun i wr => ∃ k : Nat, k ≤ n ∧ i = .int .i64 k ∧ Hid (KnSt w.heap.size w wr s most 1 k)) (fun i _ => n - (intOf i).toNat)
  case atStart => exact ⟨0, by omega, rfl, h0⟩
  case round =>
    obtain ⟨k, hk, rfl, hR⟩ := hrel
    clear h0
    by_cases hlt : k < n
    · have hfr : Hid (Calls Try.prog 11 #[.pointer (some ⟨s, 0, none⟩), .int .i64 1, .agg #[.int .u32 0, .int .u32 0, .int .u16 0]] wr (FrKn w.heap.size w wr s most 1 k zeroAt)) := Lib.hid (kn_fresh hR.out (by omega) (by omega) (by omega) zeroAt)
      have hki : (k : Int) < n := by omega
      go_wp2_with (first
        | (go_at_call 11; (with_reducible refine (hfr.out).mono ?_); rintro e w2 ⟨d, g, sv, R, rfl, h2, hi, hl, hb2, hr2⟩; have hpu := Lib.hid (kn_push (h2.below (below_new w2 (.cells #[.int .i64 ((k : Int) + 1), .pointer (some ⟨d, 0, none⟩)] 42))) hi hl (below_next' hb2 (below_new w2 (.cells #[.int .i64 ((k : Int) + 1), .pointer (some ⟨d, 0, none⟩)] 42)) h2) (hr2.below (below_new w2 (.cells #[.int .i64 ((k : Int) + 1), .pointer (some ⟨d, 0, none⟩)] 42)))))
        | (go_at_call 15; (with_reducible refine (hpu.out).mono ?_); rintro e w3 ⟨rfl, hK⟩))
      replace hK := Lib.hid hK
      go_roundw
      case rel => exact ⟨k + 1, by omega, by go_num, hK⟩
      case measure => simp [intOf]; omega
    · obtain rfl : k = n := by omega
      obtain ⟨⟨sv, R, hsx, hi, hl⟩, hbel, hlo⟩ := hR.out
      have hRl : R.length = min k most := by rw [← List.length_map (f := En.id), hi, lastIds_len]
      obtain ⟨K, hK⟩ : ∃ K, K = min k most := ⟨_, rfl⟩
      rw [← hK] at hRl
      have hLen := slen_any hsx
      have hNx := next_any hsx
      rw [hRl] at hLen
      replace hLen := Lib.hid hLen
      replace hNx := Lib.hid hNx
      replace hK := Lib.hid hK
      go_upto_region 12 with (fail)
      rw [show (if most < k then (most : Int) else (k : Int)) = (K : Int) from by rw [hK.out]; split <;> omega]
      have hk1 : (((k + 1 : Nat) : Int)) = (k : Int) + 1 := Int.natCast_add k 1
      have hNx' : Hid (Calls Try.prog 23 #[.pointer (some ⟨s, 0, none⟩)] wr fun e w' => e = .returned (.int .i64 ((k : Int) + 1)) ∧ wr = w') := by rw [← hk1]; exact hNx
      have hKk : K ≤ k := by have := hK.out; omega
      have hkn' := hkn
      have hids := Lib.hid hi
      clear hNx hk1 hi hl hR hlo
      replace hbel := Lib.hid hbel
      replace hsx := Lib.hid hsx
      go_wp2_with (first
        | (go_at_call 22; (with_reducible refine (hLen.out).mono ?_); rintro e w4 ⟨rfl, rfl⟩)
        | (go_at_call 23; (with_reducible refine (hNx'.out).mono ?_); rintro e w4 ⟨rfl, rfl⟩))
      have hW : Hid (∀ w', Below wr.heap.size wr w' → SX w.heap.size w' s (k + 1) most sv R) := Lib.hid (fun w' hb => hsx.out.below hb)
      have hlow : Hid (Below w.heap.size w wr ∧ w.heap.size ≤ wr.heap.size) := Lib.hid ⟨hbel.out, hbel.out.size⟩
      clear hLen hNx' hbel hsx
      go_loopw [86] (fun i wz => ∃ j : Nat, j ≤ K ∧ i = .int .i64 j ∧ Hid (Below wr.heap.size wr wz)) (fun i _ => K - (intOf i).toNat)
      case atStart => exact ⟨0, by omega, rfl, Lib.hid (Below.refl _ _)⟩
      case round =>
        obtain ⟨j, hj, rfl, hZ⟩ := hrel
        by_cases hjl : j < K
        · have hjR : j < R.length := by rw [hRl]; exact hjl
          have hjI : (j : Int) < (K : Int) := by omega
          have hat := at_yes (hW.out _ hZ.out) j hjR
          have hid : R[j].id = (k : Int) - K + j + 1 := by
            have h1 := lastIds_at most k j (by rw [← hK.out]; exact hjl)
            rw [← hids.out, List.getElem?_map, List.getElem?_eq_getElem hjR] at h1
            have := Option.some.inj h1
            have := hK.out
            omega
          have hfd : ∀ w', SX w.heap.size w' s (k + 1) most sv R → Calls Try.prog 25 #[.pointer (some ⟨s, 0, none⟩), .int .i64 ((k : Int) - K + j + 1)] w' fun e w'' => e = .returned (.int .i64 j) ∧ Below w'.heap.size w' w'' := fun w' h => by
            have h2 := find_any h ((k : Int) - K + j + 1)
            have h1 := lastIds_find most k j (by rw [← hK.out]; exact hjl)
            rw [hids.out, show (k : Int) - K + j + 1 = ((k - most + j : Nat) : Int) + 1 by have := hK.out; omega, h1] at h2
            rw [show (k : Int) - K + j + 1 = ((k - most + j : Nat) : Int) + 1 by have := hK.out; omega]
            exact h2
          unfold AtDone at hat
          rw [hid] at hat
          generalize R[j] = e0 at hat
          replace hat := Lib.hid hat
          replace hfd := Lib.hid hfd
          clear hid hjR
          go_wp2_with (first
            | (go_at_call 24; (with_reducible refine (hat.out).mono ?_); rintro e w2 ⟨g2, ps, rfl, hA, hmap, hb2, hg2⟩; have hb3 := below_next (below_next hZ.out hb2) (below_new w2 (.cells #[.int .i64 ((k : Int) - K + j + 1), .slice (some ⟨g2, 0, none⟩) e0.l.length e0.l.length] 66)); have hq3 := hW.out _ hb3)
            | (go_at_call 25; (with_reducible refine (hfd.out _ hq3).mono ?_); rintro e w5 ⟨rfl, hb5⟩; have hb5 := below_next hb3 hb5))
          have hres := Lib.hid hb5
          go_roundw
          case rel => exact ⟨j + 1, by omega, by go_num, hres⟩
          case measure => simp [intOf]; omega
        · obtain rfl : j = K := by omega
          have hf1 : ∀ w', SX w.heap.size w' s (k + 1) most sv R → Calls Try.prog 25 #[.pointer (some ⟨s, 0, none⟩), .int .i64 ((k : Int) - j)] w' fun e w'' => e = .returned (.int .i64 (-1)) ∧ Below w'.heap.size w' w'' := fun w' h => by
            have h2 := find_any h ((k : Int) - j)
            rw [hids.out, lastIds_gone most k _ (by have := hK.out; omega)] at h2
            exact h2
          have hf2 : ∀ w', SX w.heap.size w' s (k + 1) most sv R → Calls Try.prog 25 #[.pointer (some ⟨s, 0, none⟩), .int .i64 ((k : Int) + 1)] w' fun e w'' => e = .returned (.int .i64 (-1)) ∧ Below w'.heap.size w' w'' := fun w' h => by
            have h2 := find_any h ((k : Int) + 1)
            rw [hids.out, lastIds_gone most k _ (by omega)] at h2
            exact h2
          have hq0 := hW.out _ hZ.out
          replace hf1 := Lib.hid hf1
          replace hf2 := Lib.hid hf2
          replace hq0 := Lib.hid hq0
          go_wp2_with (first
            | (go_at_call 25; (with_reducible refine (hf1.out _ hq0.out).mono ?_); rintro e w5 ⟨rfl, hb5⟩; have hb5 := below_next hZ.out hb5; have hq5 := hW.out _ hb5)
            | (go_at_call 25; (with_reducible refine (hf2.out _ hq5).mono ?_); rintro e w6 ⟨rfl, hb6⟩; have hb6 := below_next hb5 hb6)
            | (go_at_call 8; (with_reducible refine (hkn.out _).mono ?_); rintro e w7 ⟨rfl, hb7⟩))
          go_ret
          obtain ⟨g1, g2⟩ := hlow.out
          exact ⟨rfl, g1.trans ((below_next hb6 hb7).mono g2)⟩
theorem lawLast8 (most : Int) (_ : (Lit.int .i64 most).wf = true) (n : Int) (_ : (Lit.int .i64 n).wf = true) (w : World) : Calls Try.prog 4 #[.int .i64 most, .int .i64 n] w fun e w' => e = .returned (.bool true) ∧ Below w.heap.size w w' := by
  by_cases h1 : most < 0 ∨ 10000 < most
  · exact last_no most n h1 w
  · obtain ⟨m, rfl⟩ := Int.eq_ofNat_of_zero_le (show 0 ≤ most by omega)
    by_cases h2 : 30 < m ∨ n < 0 ∨ 100 < n
    · exact last_out m n (by omega) h2 w
    · obtain ⟨k, rfl⟩ := Int.eq_ofNat_of_zero_le (show 0 ≤ n by omega)
      exact last_in m k (by omega) (by omega) w
end Go.Proofs.Ytleooelhnnfjbaa.Lns
