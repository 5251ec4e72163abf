/-
  lines: the law's own known answers.
-/
import Derived.Test.YtleooelhnnfjbaaLPush
import Derived.Test.YtleooelhnnfjbaaLLast
namespace Go.Proofs.Ytleooelhnnfjbaa.Lns
open Go Go.RowKit Go.Proofs.Ytleooelhnnfjbaa.Com Go.Proofs.Ytleooelhnnfjbaa.Rw

/-- What is known of a store into which k lines of so many columns were pushed. -/
structure KnSt (B : Nat) (w0 w : World) (s most cols k : Nat) : Prop where
  sx : ∃ sv R, SX B w s (k + 1) most sv R ∧ R.map En.id = lastIds most k ∧ ∀ e ∈ R, e.l.length = cols
  below : Below B w0 w
  lo : B ≤ s
theorem KnSt.hB {B : Nat} {w0 w : World} {s most cols k : Nat} (h : KnSt B w0 w s most cols k) : B ≤ w.heap.size := by
  obtain ⟨sv, R, hs, _⟩ := h.sx
  exact Nat.le_trans h.lo (Nat.le_of_lt hs.lt)
def FrKn (B : Nat) (w0 w : World) (s most cols k : Nat) (a : At) (e : Ending) (w' : World) : Prop :=
  ∃ d g sv R, e = .returned (.tuple #[.agg #[.int .i64 ((k : Int) + 1), .pointer (some ⟨d, 0, none⟩)], .int .i64 0]) ∧ SX B w' s (k + 2) most sv R ∧ R.map En.id = lastIds most k ∧ (∀ e ∈ R, e.l.length = cols) ∧ Below B w0 w' ∧ RowG w.heap.size w' ⟨(k : Int) + 1, d, g, 0, freshL cols a⟩
theorem kn_fresh {B : Nat} {w0 w : World} {s most cols k : Nat} (h : KnSt B w0 w s most cols k) (hk : k < 900000) (hc : 1 ≤ cols) (hc5 : cols ≤ 512) (a : At) :
    Calls Try.prog 11 #[.pointer (some ⟨s, 0, none⟩), .int .i64 cols, .agg #[.int .u32 a.f, .int .u32 a.b, .int .u16 a.g]] w (FrKn B w0 w s most cols k a) := by
  have hB := h.hB
  obtain ⟨⟨sv, R, hs, hi, hl⟩, hb, hlo⟩ := h
  refine (fresh_yes hs (by omega) cols hc hc5 a).mono ?_
  rintro e w' ⟨d, g, he, h1, h2, h3⟩
  have e1 : (((k + 1 : Nat) : Int)) = (k : Int) + 1 := Int.natCast_add k 1
  rw [e1] at he h2
  exact ⟨d, g, sv, R, he, h1, hi, hl, hb.trans (h3.below hB (by simpa using hlo)), h2⟩
theorem kn_push {B : Nat} {w0 w : World} {s most cols k d g b : Nat} {sv : Value} {R : List En} {a : At} (hs : SX B w s (k + 2) most sv R) (hi : R.map En.id = lastIds most k) (hl : ∀ e ∈ R, e.l.length = cols) (hb : Below B w0 w) (hr : RowG b w ⟨(k : Int) + 1, d, g, 0, freshL cols a⟩) :
    Calls Try.prog 15 #[.pointer (some ⟨s, 0, none⟩), .agg #[.int .i64 ((k : Int) + 1), .pointer (some ⟨d, 0, none⟩)]] w fun e w' => e = .returned (.int .i64 0) ∧ KnSt B w0 w' s most cols (k + 1) := by
  obtain ⟨_, _, _, n, cap, tail, hx⟩ := hr
  have hlo : B ≤ s := by
    obtain ⟨⟨o, P, h0, _⟩, _⟩ := hs
    exact h0.lo
  have hB : B ≤ w.heap.size := Nat.le_trans hlo (Nat.le_of_lt hs.lt)
  refine (push_yes hs ((k : Int) + 1) (by omega) 0 hx (freshL_good _ _)).mono ?_
  rintro e w' ⟨sv', d', g', he, h1, h2, h3, h4, h5⟩
  refine ⟨he, ⟨sv', _, h1, ?_, fun e he => ?_⟩, ?_, hlo⟩
  · rw [pushL_map, hi]
    exact lastIds_next most k
  · rcases pushL_mem he with he | rfl
    · exact hl e he
    · exact freshL_len _ _
  · refine hb.trans (h4.below hB fun x hx => ?_)
    rcases List.mem_cons.1 hx with rfl | hx
    · exact hlo
    · exact (hs.ptyp x (by simpa using hx)).1

theorem below_next' {B : Nat} {s nx most : Nat} {sv : Value} {R : List En} {a b c : World} (h : Below B a b) (g : Below b.heap.size b c) (hs : SX B b s nx most sv R) : Below B a c := by
  obtain ⟨⟨o, P, h0, _⟩, _⟩ := hs
  exact h.trans (g.mono (Nat.le_trans h0.lo (Nat.le_of_lt h0.blk.lt)))
theorem lastIds_23 {R : List En} (h : R.map En.id = lastIds 2 3) : ∃ e1 e2, R = [e1, e2] ∧ e1.id = 2 ∧ e2.id = 3 := by
  have h2 : lastIds 2 3 = [2, 3] := by rfl
  rw [h2] at h
  rcases R with _ | ⟨e1, _ | ⟨e2, _ | ⟨e3, R⟩⟩⟩
  · cases h
  · simp at h
  · simp only [List.map_cons, List.map_nil, List.cons.injEq, and_true] at h
    exact ⟨e1, e2, rfl, h.1, h.2⟩
  · simp at h
set_option maxRecDepth 100000 in
set_option maxHeartbeats 4000000 in
theorem known_any (w : World) : Calls Try.prog 8 #[] w fun e w' => e = .returned (.bool true) ∧ Below w.heap.size w w' := by
  have hnew := new_yes 2 (by omega) w
  rw [show ((2 : Nat) : Int) = 2 from rfl] at hnew
  replace hnew := Lib.hid hnew
  obtain ⟨s, hs⟩ : ∃ s, s = w.heap.size := ⟨_, rfl⟩
  rw [← hs] at hnew
  replace hs := Lib.hid hs
  go_enter Try.func8, Try.ntmps8
  go_wp2_with ((go_at_call 6; (with_reducible refine (hnew.out).mono ?_); rintro e w1 ⟨rfl, hS, hb⟩))
  have h0 : Hid (KnSt w.heap.size w w1 s 2 4 0) := Lib.hid ⟨⟨_, _, by have e := hs.out; rw [← e]; exact hS, rfl, by simp⟩, by have e := hs.out; rw [← e]; exact hb, by rw [hs.out]; exact Nat.le_refl _⟩
  clear hS hb hnew
  go_loopw [17] (fun i wr => ∃ k : Nat, k ≤ 3 ∧ i = .int .i64 k ∧ Hid (KnSt w.heap.size w wr s 2 4 k)) (fun i _ => 3 - (intOf i).toNat)
  case atStart => exact ⟨0, by omega, rfl, h0⟩
  case round =>
    obtain ⟨k, hk, rfl, hR⟩ := hrel
    clear h0
    by_cases hlt : k < 3
    · have hfr : Hid (Calls Try.prog 11 #[.pointer (some ⟨s, 0, none⟩), .int .i64 4, .agg #[.int .u32 0, .int .u32 0, .int .u16 0]] wr (FrKn w.heap.size w wr s 2 4 k zeroAt)) := Lib.hid (kn_fresh hR.out (by omega) (by omega) (by omega) zeroAt)
      have hki : (k : Int) < 3 := by omega
      go_wp2_with (first
        | (go_at_call 11; (with_reducible refine (hfr.out).mono ?_); rintro e w2 ⟨d, g, sv, R, rfl, h2, hi, hl, hb2, hr2⟩; have hpu := Lib.hid (kn_push (h2.below (below_new w2 (.cells #[.int .i64 ((k : Int) + 1), .pointer (some ⟨d, 0, none⟩)] 42))) hi hl (below_next' hb2 (below_new w2 (.cells #[.int .i64 ((k : Int) + 1), .pointer (some ⟨d, 0, none⟩)] 42)) h2) (hr2.below (below_new w2 (.cells #[.int .i64 ((k : Int) + 1), .pointer (some ⟨d, 0, none⟩)] 42)))))
        | (go_at_call 15; (with_reducible refine (hpu.out).mono ?_); rintro e w3 ⟨rfl, hK⟩))
      replace hK := Lib.hid hK
      go_roundw
      case rel => exact ⟨k + 1, by omega, by go_num, hK⟩
      case measure => simp [intOf]; omega
    · obtain rfl : k = 3 := by omega
      obtain ⟨⟨sv, R, hsx, hi, hl⟩, hbel, hlo⟩ := hR.out
      obtain ⟨e1, e2, rfl, hi1, hi2⟩ := lastIds_23 hi
      have hat := at_yes hsx 0 (by simp)
      rw [show ((0 : Nat) : Int) = 0 from rfl] at hat
      have hl4 : e1.l.length = 4 := hl e1 (by simp)
      unfold AtDone at hat
      simp only [List.getElem_cons_zero, hl4, hi1] at hat
      replace hat := Lib.hid hat
      have hids : [e1, e2].map En.id = [2, 3] := by simp [hi1, hi2]
      have hF1 : ∀ w', SX w.heap.size w' s (3 + 1) 2 sv [e1, e2] → Calls Try.prog 25 #[.pointer (some ⟨s, 0, none⟩), .int .i64 1] w' fun e w'' => e = .returned (.int .i64 (-1)) ∧ Below w'.heap.size w' w'' := fun w' h => by
        have := find_any h 1
        rw [hids] at this
        exact this
      have hF3 : ∀ w', SX w.heap.size w' s (3 + 1) 2 sv [e1, e2] → Calls Try.prog 25 #[.pointer (some ⟨s, 0, none⟩), .int .i64 3] w' fun e w'' => e = .returned (.int .i64 1) ∧ Below w'.heap.size w' w'' := fun w' h => by
        have := find_any h 3
        rw [hids] at this
        exact this
      have hL2 : ∀ w', SX w.heap.size w' s (3 + 1) 2 sv [e1, e2] → Calls Try.prog 22 #[.pointer (some ⟨s, 0, none⟩)] w' fun e w'' => e = .returned (.int .i64 2) ∧ w' = w'' := fun w' h => slen_any h
      have hL0 : ∀ w', SX w.heap.size w' s (3 + 1) 2 (.slice none 0 0) [] → Calls Try.prog 22 #[.pointer (some ⟨s, 0, none⟩)] w' fun e w'' => e = .returned (.int .i64 0) ∧ w' = w'' := fun w' h => slen_any h
      have hN4 : ∀ w', SX w.heap.size w' s (3 + 1) 2 (.slice none 0 0) [] → Calls Try.prog 23 #[.pointer (some ⟨s, 0, none⟩)] w' fun e w'' => e = .returned (.int .i64 4) ∧ w' = w'' := fun w' h => next_any h
      have hC : ∀ w', SX w.heap.size w' s (3 + 1) 2 sv [e1, e2] → Calls Try.prog 19 #[.pointer (some ⟨s, 0, none⟩)] w' fun e w'' => e = .returned (.int .i64 0) ∧ SX w.heap.size w'' s (3 + 1) 2 (.slice none 0 0) [] ∧ Only [s] w' w'' := fun w' h => sclear_any h
      have hsW : Hid (∀ w', Below wr.heap.size wr w' → SX w.heap.size w' s (3 + 1) 2 sv [e1, e2]) := Lib.hid (fun w' hb => hsx.below hb)
      have hbel' := Lib.hid (And.intro hbel (And.intro hlo hsx.lt))
      replace hF1 := Lib.hid hF1
      replace hF3 := Lib.hid hF3
      replace hL2 := Lib.hid hL2
      replace hL0 := Lib.hid hL0
      replace hN4 := Lib.hid hN4
      replace hC := Lib.hid hC
      clear hR hsx hbel hlo hids hi hl
      go_wp2_with (first
        | (go_at_call 24; (with_reducible refine (hat.out).mono ?_); rintro e w2 ⟨g2, ps, rfl, hA, hmap, hb2, hg2⟩; have hb3 := below_next hb2 (below_new w2 (.cells #[.int .i64 2, .slice (some ⟨g2, 0, none⟩) 4 4] 66)); have hq3 := hsW.out _ hb3)
        | (go_at_call 22; (with_reducible refine (hL2.out _ hq3).mono ?_); rintro e w4 ⟨rfl, rfl⟩)
        | (go_at_call 25; (with_reducible refine (hF1.out _ hq3).mono ?_); rintro e w5 ⟨rfl, hb5⟩; have hb5 := below_next hb3 hb5; have hq5 := hsW.out _ hb5)
        | (go_at_call 25; (with_reducible refine (hF3.out _ hq5).mono ?_); rintro e w6 ⟨rfl, hb6⟩; have hb6 := below_next hb5 hb6; have hq6 := hsW.out _ hb6)
        | (go_at_call 19; (with_reducible refine (hC.out _ hq6).mono ?_); rintro e w7 ⟨rfl, hq7, ho7⟩)
        | (go_at_call 22; (with_reducible refine (hL0.out _ hq7).mono ?_); rintro e w8 ⟨rfl, rfl⟩)
        | (go_at_call 23; (with_reducible refine (hN4.out _ hq7).mono ?_); rintro e w9 ⟨rfl, rfl⟩))
      go_ret
      obtain ⟨g1, g2, g3⟩ := hbel'.out
      have hz := g1.trans (hb6.mono g1.size)
      exact ⟨rfl, hz.trans (ho7.below hz.size (by simpa using g2))⟩
end Go.Proofs.Ytleooelhnnfjbaa.Lns
