/-
  typed: the law TypedLast.
-/
import Derived.Test.YtkaeicaidomghaaYSt
import Derived.Test.YtkaeicaidomghaaYLm
import Derived.Test.YtkaeicaidomghaaIn
namespace Go.Proofs.Ytkaeicaidomghaa.Tpd
open Go Go.RowKit Go.Proofs.Ytkaeicaidomghaa.Com

theorem lastN_len (l : List Int) : (lastN l).length = min l.length 64 := by
  unfold lastN
  rw [List.length_drop]
  omega
theorem lastN_at {l : List Int} {j n : Nat} (hn : n = min l.length 64) {x : Int} (h : (lastN l)[j]? = some x) : l[l.length - n + j]? = some x := by
  unfold lastN at h
  rw [List.getElem?_drop] at h
  rw [← h]
  congr 1
  omega
theorem last_nums {N n k : Nat} (hn : n = min N 64) (hk : k < n) (hN : N ≤ 300) : ∃ q m : Nat, q = N - n ∧ m = q + k ∧ ((N : Int) - (n : Int)) = (q : Int) ∧ ((q : Int) + (k : Int)) = (m : Int) ∧ m < N ∧ wrap64 (q : Int) = (q : Int) ∧ wrap64 (m : Int) = (m : Int) :=
  ⟨N - n, N - n + k, rfl, rfl, by omega, by omega, by omega, wrap_in (by omega) (by omega), wrap_in (by omega) (by omega)⟩
set_option maxRecDepth 100000 in
set_option maxHeartbeats 8000000 in
theorem last_law (l : List Int) (_ : Fits .i32 l) (ao : Option Addr) (c : Nat) (_ : l.length ≤ c) (hm : c ≤ maxLen) (now : Int) (_ : (Lit.int .i64 now).wf = true) (w : World) (hn : Nums w w.heap.size .i32 ao l) :
    Calls Try.prog 5 #[.slice ao l.length c, .int .i64 now] w (Yes w) := by
  have hm0 := hm
  clear hm0 hm
  obtain ⟨N, hN⟩ : ∃ N, N = l.length := ⟨_, rfl⟩
  rw [← hN]
  have hk := Lib.hid (fun wr => known_any wr)
  by_cases g1 : (300 : Int) < (N : Int)
  · go_enter Try.func5, Try.ntmps5
    go_wp2_with ((go_at_call 11; (with_reducible refine (hk.out _).mono ?_); rintro e w' ⟨rfl, hb⟩))
    go_ret
    exact ⟨rfl, hb⟩
  by_cases g3 : now < 0
  · go_enter Try.func5, Try.ntmps5
    go_wp2_with ((go_at_call 11; (with_reducible refine (hk.out _).mono ?_); rintro e w' ⟨rfl, hb⟩))
    go_ret
    exact ⟨rfl, hb⟩
  by_cases g4 : 549755813888 < now
  · go_enter Try.func5, Try.ntmps5
    go_wp2_with ((go_at_call 11; (with_reducible refine (hk.out _).mono ?_); rintro e w' ⟨rfl, hb⟩))
    go_ret
    exact ⟨rfl, hb⟩
  have hNl : N ≤ 300 := by omega
  have hN' := Lib.hid hN
  have hn' := Lib.hid hn
  clear hN hn
  obtain ⟨n, hnn⟩ : ∃ n, n = min N 64 := ⟨_, rfl⟩
  have hn2 := Lib.hid hnn
  have hmin : min ((N : Nat) : Int) 64 = ((n : Nat) : Int) := by omega
  have hnN : n ≤ N := by omega
  clear hnn
  -- the calls
  have hNew := Lib.hid (new_st 1000 (by omega) (by omega) w w (Below.refl _ _))
  have hTy : Hid (∀ d wr k x last, last ≤ now → l[k]? = some x → St w wr d 1000 last (keysAt (lastN (l.take k)) now) → Calls Try.prog 6 #[.pointer (some ⟨d, 0, none⟩), .int .i32 x, .int .i64 now] wr fun e w' => (∃ v, e = .returned v) ∧ ∃ last', last' ≤ now ∧ St w w' d 1000 last' (keysAt (lastN (l.take (k + 1))) now)) :=
    Lib.hid fun d wr k x last h1 hx h => by
      have := type_st h (by omega) x now (by omega) h1 (by omega)
      rw [push_last, ← take_snoc' hx] at this
      exact this.mono fun _ _ ⟨hv, ht⟩ => ⟨hv, now, Int.le_refl _, ht⟩
  have hW : Hid (∀ d wr last, last ≤ now → St w wr d 1000 last (keysAt (lastN (l.take N)) now) → Calls Try.prog 8 #[.pointer (some ⟨d, 0, none⟩), .int .i64 now] wr fun e w' => ∃ a1 c1, e = .returned (.slice a1 n c1) ∧ Hid (St w w' d 1000 last (keysAt (lastN (l.take N)) now) ∧ Nums w' w'.heap.size .i32 a1 (lastN l) ∧ last ≤ now)) :=
    Lib.hid fun d wr last h1 h => (waits_st (l := lastN (l.take N)) (n := n) h (by omega) (by omega) now (by rw [show max now last = now by omega]; exact wait_all (by omega) _) (by rw [lastN_len, List.length_take, hn2.out, hN'.out]; omega)).mono fun _ _ ⟨a1, c1, he, h2, h3⟩ => ⟨a1, c1, he, Lib.hid ⟨h2, by rw [hN'.out, List.take_length] at h3; exact h3, h1⟩⟩
  have hC : Hid (∀ d wr last, last ≤ now → St w wr d 1000 last (keysAt (lastN (l.take N)) now) → Calls Try.prog 10 #[.pointer (some ⟨d, 0, none⟩)] wr fun e w' => (∃ v, e = .returned v) ∧ Hid (St w w' d 1000 last [])) :=
    Lib.hid fun d wr last _ h => (clear_st h (by omega)).mono fun _ _ ⟨hv, ht⟩ => ⟨hv, Lib.hid ht⟩
  have hW2 : Hid (∀ d wr last, St w wr d 1000 last [] → Calls Try.prog 8 #[.pointer (some ⟨d, 0, none⟩), .int .i64 now] wr fun e w' => ∃ a1 c1, e = .returned (.slice a1 0 c1) ∧ Below w.heap.size w w') :=
    Lib.hid fun d wr last h => (waits_st h (by omega) (by omega) now (l := []) (n := 0) rfl rfl).mono fun _ _ ⟨a1, c1, he, h2, _⟩ => ⟨a1, c1, he, h2.below⟩
  have hfin : Hid (∀ a b, Below w.heap.size w a → Below a.heap.size a b → Below w.heap.size w b) := Lib.hid fun a b h1 h2 => below_next h1 h2
  go_enter Try.func5, Try.ntmps5
  go_upto_region 6 with ((go_at_call 12; (with_reducible refine (hNew.out).mono ?_); rintro e w0 ⟨d, rfl, h⟩; have s0 := Lib.hid h; clear h hNew))
  go_wp2
  go_loopw [36] (fun i wr => ∃ (k : Nat) (last : Int), k ≤ N ∧ i = .int .i64 k ∧ Hid (last ≤ now ∧ St w wr d 1000 last (keysAt (lastN (l.take k)) now))) (fun i _ => N - (intOf i).toNat)
  case atStart => exact ⟨0, 0, Nat.zero_le _, rfl, Lib.hid ⟨by omega, s0.out⟩⟩
  case round =>
    obtain ⟨k, last, hkN, rfl, hst⟩ := hrel
    by_cases hlt : k < N
    · have hx0 : k < l.length := by have := hN'.out; omega
      obtain ⟨x, hx⟩ : ∃ x, l[k]? = some x := ⟨_, List.getElem?_eq_getElem hx0⟩
      obtain ⟨ad, rfl, _, hc⟩ := (hn'.out.below hst.out.2.below (Nat.le_refl _)) k x hx
      have hcall := Lib.hid (hTy.out d wr k x last hst.out.1 hx hst.out.2)
      clear hx0 hx
      go_wp2_with ((go_at_call 6; (with_reducible refine (hcall.out).mono ?_); rintro e w2 ⟨⟨v2, rfl⟩, last2, h0, h⟩; have s2 := Lib.hid (And.intro h0 h); clear h h0 hcall))
      go_roundw
      case rel => exact ⟨k + 1, last2, by omega, by simp, s2⟩
      case measure => simp [intOf]; omega
    · obtain rfl : N = k := by omega
      have hw1 := Lib.hid (hW.out d wr last hst.out.1 hst.out.2)
      have hmin2 : (if (64 : Int) < ((N : Nat) : Int) then 64 else ((N : Nat) : Int)) = ((n : Nat) : Int) := by
        rw [← hmin]
        split <;> omega
      clear hst hTy hW s0
      go_upto_region 15 with ((go_at_call 8; (with_reducible refine (hw1.out).mono ?_); rintro e w2 ⟨a1, c1, rfl, h⟩; clear hw1))
      have hn3 : n ≤ 64 := by have := hn2.out; omega
      go_wp2
      go_loopw [57] (fun i wr3 => ∃ k : Nat, k ≤ n ∧ i = .int .i64 k ∧ Hid (St w wr3 d 1000 last (keysAt (lastN (l.take N)) now) ∧ Nums wr3 wr3.heap.size .i32 a1 (lastN l) ∧ last ≤ now)) (fun i _ => n - (intOf i).toNat)
      case atStart => exact ⟨0, Nat.zero_le _, rfl, h⟩
      case round =>
        clear h
        obtain ⟨k, hkn, rfl, h⟩ := hrel
        by_cases hlt2 : k < n
        · have hlen : (lastN l).length = n := by rw [lastN_len, hn2.out, hN'.out]
          obtain ⟨x, hx⟩ : ∃ x, (lastN l)[k]? = some x := ⟨_, List.getElem?_eq_getElem (by rw [hlen]; exact hlt2)⟩
          obtain ⟨ad1, rfl, _, hc1⟩ := h.out.2.1 k x hx
          have hx2 := lastN_at (n := n) (by rw [hn2.out, hN'.out]) hx
          obtain ⟨ad, rfl, _, hc2⟩ := (hn'.out.below h.out.1.below (Nat.le_refl _)) _ x hx2
          rw [← hN'.out] at hc2
          clear hmin hmin2 hlen hx hx2
          obtain ⟨q, m, hq, hm, hsub, hadd, hidx, hwq, hwm⟩ := last_nums hn2.out hlt2 hNl
          rw [← hq, ← hm] at hc2
          replace hm := Lib.hid hm
          replace hq := Lib.hid hq
          go_upto_region 18 with (fail)
          have hkeep : ∀ q, Hid (St w (wr.drewN q) d 1000 last (keysAt (lastN (l.take N)) now) ∧ Nums (wr.drewN q) (wr.drewN q).heap.size .i32 (some ad1) (lastN l) ∧ last ≤ now) := fun q => Lib.hid ⟨h.out.1.on (h.out.1.tl.only (Only.drewN [] wr q) (by simp)) h.out.1.tick (Only.drewN [d] wr q), h.out.2.1.only (Only.drewN [] wr q) (Nat.le_refl _) (by simp), h.out.2.2⟩
          replace hkeep := Lib.hid hkeep
          clear hk hn' hn2 hfin hC hW2 h hm hq g1 g3 g4 hNl hnN hN'
          go_quiet (fail)
          clear hsub hadd hwq hwm hidx hc1 hc2
          go_wp2
          go_roundw
          case rel => exact ⟨k + 1, by omega, by simp, hkeep.out _⟩
          case measure => simp [intOf]; omega
        · obtain rfl : n = k := by omega
          have hcl := Lib.hid (hC.out d _ last h.out.2.2 h.out.1)
          clear h hC
          go_wp2_with (first
            | (go_at_call 10; (with_reducible refine (hcl.out).mono ?_); rintro e w3 ⟨⟨v3, rfl⟩, h⟩; have hw3 := Lib.hid (hW2.out d w3 last h.out); clear h hcl hW2)
            | (go_at_call 8; (with_reducible refine (hw3.out).mono ?_); rintro e w4 ⟨a2, c2, rfl, h⟩; have hb5 := Lib.hid h; clear h hw3)
            | (go_at_call 11; (with_reducible refine (hk.out _).mono ?_); rintro e w6 ⟨rfl, hb⟩; have hb6 := Lib.hid (hfin.out _ _ hb5.out hb); clear hb))
          go_ret
          exact ⟨rfl, hb6.out⟩
end Go.Proofs.Ytkaeicaidomghaa.Tpd
