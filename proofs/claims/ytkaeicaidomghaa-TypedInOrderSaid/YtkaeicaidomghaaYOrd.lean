/-
  typed: the law TypedInOrder.
-/
import Derived.Test.YtkaeicaidomghaaYSt
import Derived.Test.YtkaeicaidomghaaYLm
import Derived.Test.YtkaeicaidomghaaIn
namespace Go.Proofs.Ytkaeicaidomghaa.Tpd
open Go Go.RowKit Go.Proofs.Ytkaeicaidomghaa.Com

set_option maxRecDepth 100000 in
set_option maxHeartbeats 8000000 in
theorem order_law (life : Int) (_ : (Lit.int .i64 life).wf = true) (now : Int) (_ : (Lit.int .i64 now).wf = true) (l : List Int) (_ : Fits .i32 l) (ao : Option Addr) (c : Nat) (_ : l.length ≤ c) (hm : c ≤ maxLen) (odd : Int) (_ : (Lit.int .i32 odd).wf = true) (w : World) (hn : Nums w w.heap.size .i32 ao l) :
    Calls Try.prog 4 #[.int .i64 life, .int .i64 now, .slice ao l.length c, .int .i32 odd] w (Yes w) := by
  have hm0 := hm
  clear hm0 hm
  obtain ⟨N, hN⟩ : ∃ N, N = l.length := ⟨_, rfl⟩
  rw [← hN]
  have hk := Lib.hid (fun wr => known_any wr)
  by_cases g1 : life < 1
  · go_enter Try.func4, Try.ntmps4
    go_wp2_with ((go_at_call 11; (with_reducible refine (hk.out _).mono ?_); rintro e w' ⟨rfl, hb⟩))
    go_ret
    exact ⟨rfl, hb⟩
  by_cases g2 : 1000 < life
  · go_enter Try.func4, Try.ntmps4
    go_wp2_with ((go_at_call 11; (with_reducible refine (hk.out _).mono ?_); rintro e w' ⟨rfl, hb⟩))
    go_ret
    exact ⟨rfl, hb⟩
  by_cases g3 : now < 0
  · go_enter Try.func4, Try.ntmps4
    go_wp2_with ((go_at_call 11; (with_reducible refine (hk.out _).mono ?_); rintro e w' ⟨rfl, hb⟩))
    go_ret
    exact ⟨rfl, hb⟩
  by_cases g4 : 549755813888 < now
  · go_enter Try.func4, Try.ntmps4
    go_wp2_with ((go_at_call 11; (with_reducible refine (hk.out _).mono ?_); rintro e w' ⟨rfl, hb⟩))
    go_ret
    exact ⟨rfl, hb⟩
  by_cases g5 : (64 : Int) < (N : Int)
  · go_enter Try.func4, Try.ntmps4
    go_wp2_with ((go_at_call 11; (with_reducible refine (hk.out _).mono ?_); rintro e w' ⟨rfl, hb⟩))
    go_ret
    exact ⟨rfl, hb⟩
  have hl1 : 1 ≤ life := by omega
  have hl2 : life ≤ 1000 := by omega
  have hNl : N ≤ 64 := by omega
  have hN' := Lib.hid hN
  have hn' := Lib.hid hn
  clear hN hn
  -- the later ticks as letters
  obtain ⟨T1, hT1⟩ : ∃ T1, T1 = now + life - 1 := ⟨_, rfl⟩
  obtain ⟨Y2, hY2⟩ : ∃ Y2, Y2 = now + 2 * life - 2 := ⟨_, rfl⟩
  obtain ⟨Y1, hY1⟩ : ∃ Y1, Y1 = now + 2 * life - 1 := ⟨_, rfl⟩
  -- the calls
  have hNew := Lib.hid (new_st life hl1 hl2 w w (Below.refl _ _))
  have hT0 : Hid (∀ d wr, St w wr d life 0 [] → Calls Try.prog 7 #[.pointer (some ⟨d, 0, none⟩), .int .i32 odd, .int .i64 now] wr fun e w' => e = .returned (.bool false) ∧ St w w' d life now []) :=
    Lib.hid fun d wr h => take_st h hl1 hl2 odd now (by omega) (by omega) (takeB_nil ..) (takeK_nil ..)
  have hTy : Hid (∀ d wr k x, l[k]? = some x → St w wr d life now (keysAt (l.take k) now) → Calls Try.prog 6 #[.pointer (some ⟨d, 0, none⟩), .int .i32 x, .int .i64 now] wr fun e w' => (∃ v, e = .returned v) ∧ St w w' d life now (keysAt (l.take (k + 1)) now)) :=
    Lib.hid fun d wr k x hx h => by
      have := type_st h hl1 x now (by omega) (by omega) (by omega)
      have hlt := (List.getElem?_eq_some_iff.1 hx).1
      rw [push_few (by rw [List.length_take]; have := hN'.out; omega), ← take_snoc' hx] at this
      exact this
  have hO : Hid (∀ d wr k x last, last ≤ T1 → l[k]? = some x → odd ≠ x → St w wr d life last (keysAt (l.drop k) now) → Calls Try.prog 7 #[.pointer (some ⟨d, 0, none⟩), .int .i32 odd, .int .i64 T1] wr fun e w' => e = .returned (.bool false) ∧ St w w' d life T1 (keysAt (l.drop k) now)) :=
    Lib.hid fun d wr k x last h1 hx ho h => by
      rw [drop_at hx] at h ⊢
      exact take_st h hl1 hl2 odd T1 h1 (by omega) (by rw [takeB_cons (by omega)]; simp; exact fun e => ho e.symm) (takeK_no (by omega) ho _)
  have hW : Hid (∀ d wr k last, now ≤ last → last ≤ T1 → k ≤ N → St w wr d life last (keysAt (l.drop k) now) → Calls Try.prog 8 #[.pointer (some ⟨d, 0, none⟩), .int .i64 now] wr fun e w' => ∃ ao c, e = .returned (.slice ao (N - k) c) ∧ St w w' d life last (keysAt (l.drop k) now) ∧ Nums w' w'.heap.size .i32 ao (l.drop k)) :=
    Lib.hid fun d wr k last h0 h1 _ h => waits_st h hl1 hl2 now (by rw [show max now last = last by omega]; exact wait_all (by omega) _) (by rw [List.length_drop, hN'.out])
  have hR : Hid (∀ d wr k x last, last ≤ T1 → l[k]? = some x → St w wr d life last (keysAt (l.drop k) now) → Calls Try.prog 7 #[.pointer (some ⟨d, 0, none⟩), .int .i32 x, .int .i64 T1] wr fun e w' => e = .returned (.bool true) ∧ St w w' d life T1 (keysAt (l.drop (k + 1)) now)) :=
    Lib.hid fun d wr k x last h1 hx h => by
      rw [drop_at hx] at h
      exact take_st h hl1 hl2 x T1 h1 (by omega) (by rw [takeB_cons (by omega)]; simp) (takeK_yes (by omega) _ _)
  have hO2 : Hid (∀ d wr last, last ≤ T1 → St w wr d life last (keysAt (l.drop N) now) → Calls Try.prog 7 #[.pointer (some ⟨d, 0, none⟩), .int .i32 odd, .int .i64 T1] wr fun e w' => e = .returned (.bool false) ∧ St w w' d life T1 (keysAt (l.take 0) T1)) :=
    Lib.hid fun d wr last h1 h => by
      rw [List.drop_eq_nil_of_le (by rw [hN'.out]; exact Nat.le_refl _)] at h
      exact take_st h hl1 hl2 odd T1 h1 (by omega) (takeB_nil ..) (takeK_nil ..)
  have hTy2 : Hid (∀ d wr k x, l[k]? = some x → St w wr d life T1 (keysAt (l.take k) T1) → Calls Try.prog 6 #[.pointer (some ⟨d, 0, none⟩), .int .i32 x, .int .i64 T1] wr fun e w' => (∃ v, e = .returned v) ∧ St w w' d life T1 (keysAt (l.take (k + 1)) T1)) :=
    Lib.hid fun d wr k x hx h => by
      have := type_st h hl1 x T1 (by omega) (by omega) (by omega)
      have hlt := (List.getElem?_eq_some_iff.1 hx).1
      rw [push_few (by rw [List.length_take]; have := hN'.out; omega), ← take_snoc' hx] at this
      exact this
  have hW2 : Hid (∀ d wr, St w wr d life T1 (keysAt (l.take N) T1) → Calls Try.prog 8 #[.pointer (some ⟨d, 0, none⟩), .int .i64 Y2] wr fun e w' => ∃ ao c, e = .returned (.slice ao N c) ∧ St w w' d life T1 (keysAt (l.take N) T1) ∧ Nums w' w'.heap.size .i32 ao (l.take N)) :=
    Lib.hid fun d wr h => waits_st h hl1 hl2 Y2 (wait_all (by omega) _) (by rw [List.length_take, hN'.out]; omega)
  have hW3 : Hid (∀ d wr, St w wr d life T1 (keysAt (l.take N) T1) → Calls Try.prog 8 #[.pointer (some ⟨d, 0, none⟩), .int .i64 Y1] wr fun e w' => ∃ ao c, e = .returned (.slice ao 0 c) ∧ St w w' d life T1 (keysAt (l.take N) T1) ∧ Nums w' w'.heap.size .i32 ao []) :=
    Lib.hid fun d wr h => waits_st h hl1 hl2 Y1 (wait_none (by omega) _) rfl
  have hO3 : Hid (∀ d wr, St w wr d life T1 (keysAt (l.take N) T1) → Calls Try.prog 7 #[.pointer (some ⟨d, 0, none⟩), .int .i32 odd, .int .i64 Y1] wr fun e w' => e = .returned (.bool false) ∧ Below w.heap.size w w') :=
    Lib.hid fun d wr h => (take_st h hl1 hl2 odd Y1 (by omega) (by omega) (takeB_gone (by omega) _ _) rfl).mono fun _ _ ⟨h1, h2⟩ => ⟨h1, h2.below⟩
  have hTord : now ≤ T1 := by omega
  have hfin : Hid (∀ a b, Below w.heap.size w a → Below a.heap.size a b → Below w.heap.size w b) := Lib.hid fun a b h1 h2 => below_next h1 h2
  subst hT1 hY2 hY1
  clear hl1 hl2
  go_enter Try.func4, Try.ntmps4
  go_upto_region 6 with (first
    | (go_at_call 12; (with_reducible refine (hNew.out).mono ?_); rintro e w0 ⟨d, rfl, h⟩; have s0 := Lib.hid h; clear h hNew)
    | (go_at_call 7; (with_reducible refine (hT0.out _ _ s0.out).mono ?_); rintro e w1 ⟨rfl, h⟩; have s1 := Lib.hid h; clear h s0 hT0))
  go_wp2
  go_loopw [56] (fun i wr => ∃ k : Nat, k ≤ N ∧ i = .int .i64 k ∧ Hid (St w wr d life now (keysAt (l.take k) now))) (fun i _ => N - (intOf i).toNat)
  case atStart => exact ⟨0, Nat.zero_le _, rfl, s1⟩
  case round =>
    obtain ⟨k, hkN, rfl, hst⟩ := hrel
    by_cases hlt : k < N
    · have hx0 : k < l.length := by have := hN'.out; omega
      obtain ⟨x, hx⟩ : ∃ x, l[k]? = some x := ⟨_, List.getElem?_eq_getElem hx0⟩
      obtain ⟨ad, rfl, _, hc⟩ := (hn'.out.below hst.out.below (Nat.le_refl _)) k x hx
      have hcall := Lib.hid (hTy.out d wr k x hx hst.out)
      clear hx0 hx
      go_wp2_with ((go_at_call 6; (with_reducible refine (hcall.out).mono ?_); rintro e w2 ⟨⟨v2, rfl⟩, h⟩; have s2 := Lib.hid h; clear h hcall))
      go_roundw
      case rel => exact ⟨k + 1, by omega, by simp, s2⟩
      case measure => simp [intOf]; omega
    · obtain rfl : N = k := by omega
      have s2 : Hid (now ≤ now ∧ now ≤ (now + life - 1) ∧ St w wr d life now (keysAt (l.drop 0) now)) := by
        have := hst.out
        rw [hN'.out, List.take_length] at this
        exact Lib.hid ⟨Int.le_refl _, hTord, this⟩
      clear hst hTy s1
      go_wp2
      go_loopw [67] (fun i wr2 => ∃ (k : Nat) (last : Int), k ≤ N ∧ i = .int .i64 k ∧ Hid (now ≤ last ∧ last ≤ (now + life - 1) ∧ St w wr2 d life last (keysAt (l.drop k) now))) (fun i _ => N - (intOf i).toNat)
      case atStart => exact ⟨0, now, Nat.zero_le _, rfl, s2⟩
      case round =>
        obtain ⟨k, last, hkN, rfl, hst⟩ := hrel
        by_cases hlt2 : k < N
        · have hx0 : k < l.length := by have := hN'.out; omega
          obtain ⟨x, hx⟩ : ∃ x, l[k]? = some x := ⟨_, List.getElem?_eq_getElem hx0⟩
          obtain ⟨ad, rfl, _, hc⟩ := (hn'.out.below hst.out.2.2.below (Nat.le_refl _)) k x hx
          have hsub : ((N : Int) - (k : Int)) = ((N - k : Nat) : Int) := by omega
          have hwN : wrap64 ((N - k : Nat) : Int) = ((N - k : Nat) : Int) := wrap_in (by omega) (by omega)
          have hRx : Hid (∀ wr last, last ≤ (now + life - 1) → St w wr d life last (keysAt (l.drop k) now) → Calls Try.prog 7 #[.pointer (some ⟨d, 0, none⟩), .int .i32 x, .int .i64 (now + life - 1)] wr fun e w' => e = .returned (.bool true) ∧ St w w' d life (now + life - 1) (keysAt (l.drop (k + 1)) now)) := Lib.hid fun wr last h1 h => hR.out d wr k x last h1 hx h
          have hWx : Hid (∀ wr last, now ≤ last → last ≤ (now + life - 1) → St w wr d life last (keysAt (l.drop k) now) → Calls Try.prog 8 #[.pointer (some ⟨d, 0, none⟩), .int .i64 now] wr fun e w' => ∃ ao c, e = .returned (.slice ao (N - k) c) ∧ Hid (St w w' d life last (keysAt (l.drop k) now))) :=
            Lib.hid fun wr last h0 h1 h => (hW.out d wr k last h0 h1 hkN h).mono fun _ _ ⟨a1, c1, he, h2, _⟩ => ⟨a1, c1, he, Lib.hid h2⟩
          by_cases ho : odd = x
          · subst ho
            have hw1 := Lib.hid (hWx.out wr last hst.out.1 hst.out.2.1 hst.out.2.2)
            have hle := Lib.hid hst.out.2.1
            clear hx0 hx hst hWx
            go_wp2_with (first
              | (go_at_call 8; (with_reducible refine (hw1.out).mono ?_); rintro e w2 ⟨a1, c1, rfl, h⟩; have hr1 := Lib.hid (hRx.out w2 last hle.out h.out); clear h hw1)
              | (go_at_call 7; (with_reducible refine (hr1.out).mono ?_); rintro e w3 ⟨rfl, h⟩; have s3 := Lib.hid (And.intro hTord (And.intro (Int.le_refl (now + life - 1)) h)); clear h hr1))
            go_roundw
            case rel => exact ⟨k + 1, (now + life - 1), by omega, by simp, s3⟩
            case measure => simp [intOf]; omega
          · have hne : (odd == x) = false := by simpa using ho
            have ho1 := Lib.hid (hO.out d wr k x last hst.out.2.1 hx ho hst.out.2.2)
            clear hx0 hx hst
            go_wp2_with (first
              | (go_at_call 7; (with_reducible refine (ho1.out).mono ?_); rintro e w2 ⟨rfl, h⟩; have hw1 := Lib.hid (hWx.out w2 (now + life - 1) hTord (Int.le_refl _) h); clear h ho1 hWx)
              | (go_at_call 8; (with_reducible refine (hw1.out).mono ?_); rintro e w3 ⟨a1, c1, rfl, h⟩; have hr1 := Lib.hid (hRx.out w3 (now + life - 1) (Int.le_refl _) h.out); clear h hw1)
              | (go_at_call 7; (with_reducible refine (hr1.out).mono ?_); rintro e w4 ⟨rfl, h⟩; have s3 := Lib.hid (And.intro hTord (And.intro (Int.le_refl (now + life - 1)) h)); clear h hr1))
            go_roundw
            case rel => exact ⟨k + 1, (now + life - 1), by omega, by simp, s3⟩
            case measure => simp [intOf]; omega
        · obtain rfl : N = k := by omega
          have ho2 := Lib.hid (hO2.out d wr last hst.out.2.1 hst.out.2.2)
          clear hst hO hW hR hO2 s2
          go_wp2_with ((go_at_call 7; (with_reducible refine (ho2.out).mono ?_); rintro e w2 ⟨rfl, h⟩; have s4 := Lib.hid h; clear h ho2))
          go_loopw [115] (fun i wr3 => ∃ k : Nat, k ≤ N ∧ i = .int .i64 k ∧ Hid (St w wr3 d life (now + life - 1) (keysAt (l.take k) (now + life - 1)))) (fun i _ => N - (intOf i).toNat)
          case atStart => exact ⟨0, Nat.zero_le _, rfl, s4⟩
          case round =>
            obtain ⟨k, hkN, rfl, hst⟩ := hrel
            by_cases hlt3 : k < N
            · have hx0 : k < l.length := by have := hN'.out; omega
              obtain ⟨x, hx⟩ : ∃ x, l[k]? = some x := ⟨_, List.getElem?_eq_getElem hx0⟩
              obtain ⟨ad, rfl, _, hc⟩ := (hn'.out.below hst.out.below (Nat.le_refl _)) k x hx
              have hcall := Lib.hid (hTy2.out d wr k x hx hst.out)
              clear hx0 hx
              go_wp2_with ((go_at_call 6; (with_reducible refine (hcall.out).mono ?_); rintro e w3 ⟨⟨v2, rfl⟩, h⟩; have s5 := Lib.hid h; clear h hcall))
              go_roundw
              case rel => exact ⟨k + 1, by omega, by simp, s5⟩
              case measure => simp [intOf]; omega
            · obtain rfl : N = k := by omega
              have hw2 := Lib.hid (hW2.out d wr hst.out)
              clear hst hTy2 hW2
              go_wp2_with (first
                | (go_at_call 8; (with_reducible refine (hw2.out).mono ?_); rintro e w3 ⟨a1, c1, rfl, h, hq⟩; have hw3 := Lib.hid (hW3.out d w3 h); clear h hq hw2 hW3)
                | (go_at_call 8; (with_reducible refine (hw3.out).mono ?_); rintro e w4 ⟨a2, c2, rfl, h, hq⟩; have ho3 := Lib.hid (hO3.out d w4 h); clear h hq hw3 hO3)
                | (go_at_call 7; (with_reducible refine (ho3.out).mono ?_); rintro e w5 ⟨rfl, h⟩; have hb5 := Lib.hid h; clear h ho3)
                | (go_at_call 11; (with_reducible refine (hk.out _).mono ?_); rintro e w6 ⟨rfl, hb⟩; have hb6 := Lib.hid (hfin.out _ _ hb5.out hb); clear hb))
              go_ret
              exact ⟨rfl, hb6.out⟩
end Go.Proofs.Ytkaeicaidomghaa.Tpd
