/-
  tabs: the reference's Next, Prev.
-/
import Derived.Test.YtihmagpgbjlggaaDoorTRef2
import Derived.Deep.CutRange
namespace Go.Proofs.YtihmagpgbjlggaaDoor.Tbs
open Go Go.RowKit Go.Proofs.YtihmagpgbjlggaaDoor.Com

theorem in_yes {f : Nat → Bool} {a b : Int} {c : Nat} (h0 : a ≤ (c : Int)) (h1 : (c : Int) < b) : inF f a b c = f c := by simp [inF, h0, h1]
theorem in_no {f : Nat → Bool} {a b : Int} {c : Nat} (h : ¬ (a ≤ (c : Int) ∧ (c : Int) < b)) : inF f a b c = false := by
  unfold inF
  simp
  intro _
  omega
theorem wrap_in {z : Int} (h1 : 1 ≤ z) (h2 : z ≤ 9223372036854775807) : wrap64 z = z := by
  unfold wrap64
  omega
set_option maxRecDepth 100000 in
set_option maxHeartbeats 2000000 in
theorem rnext_any {B : Nat} {w : World} {r : Nat} {v : Value} {n : Nat} {f : Nat → Bool} (h : Ref B w r v n f) (hn : 1 ≤ n) (hn2 : n ≤ 512) (c k : Int) (hk63 : k ≤ 9223372036854775807) : Calls Tryd.prog 23 #[.pointer (some ⟨r, 0, none⟩), .int .i64 c, .int .i64 k] w (Err w (nextF n f c k)) := by
  have hH := rheld_any h hn hn2 c
  have hlt := held_lt hn c
  unfold nextF
  generalize heldF n c = q at hH hlt ⊢
  replace hH := Lib.hid hH
  by_cases hk : k < 1
  · have hE : Hid (nextAt n f q k = q) := by show _ = _; unfold nextAt; rw [if_pos hk]
    clear h
    go_enter Tryd.func23, Tryd.ntmps23
    go_wp2_with (go_at_call 37; (with_reducible refine (hH.out).mono ?_); rintro e w' ⟨rfl, rfl⟩)
    go_ret
    exact ⟨ret_int (by rw [hE.out]), rfl⟩
  obtain ⟨K, rfl⟩ : ∃ K : Nat, k = K := ⟨k.toNat, by omega⟩
  obtain ⟨K, rfl⟩ : ∃ J, K = J + 1 := ⟨K - 1, by omega⟩
  have hK63 : Hid (1 ≤ (K : Int) + 1 ∧ (K : Int) + 1 ≤ 9223372036854775807) := Lib.hid (by omega)
  obtain ⟨g, cap, rfl, _, hcell, _⟩ := h.slice hn
  have h0 := h.cell
  obtain ⟨F, hF⟩ : ∃ F, F = inF f ((q : Int) + 1) n := ⟨_, rfl⟩
  have hFin : Hid (∀ i, q < i → i < n → F i = f i) := Lib.hid fun i h1 h2 => by rw [hF]; exact in_yes (by omega) (by omega)
  have hF0 : Hid (sts F (q + 1) = []) := Lib.hid (sts_gap (f := F) (p := 0) (q + 1) (by omega) fun c _ h2 => by rw [hF]; exact in_no (by omega))
  have hFn : Hid (sts F 512 = sts F n) := Lib.hid (sts_gap 512 hn2 fun c h1 _ => by rw [hF]; exact in_no (by omega))
  have hE1 : Hid (((sts F 512).length < K + 1) → nextAt n f q ((K : Int) + 1) = n - 1) := Lib.hid fun h => next_out (k := K + 1) (by omega) (by rw [← hF]; exact h)
  have hE2 : Hid (∀ i, (sts F 512)[K]? = some i → nextAt n f q ((K : Int) + 1) = i) := Lib.hid fun i h => by
    have hl : K < (sts F 512).length := (List.getElem?_eq_some_iff.1 h).1
    have := next_in (n := n) (f := f) (h := q) (k := K + 1) (by omega) (by rw [← hF]; omega)
    rw [show ((K + 1 : Nat) : Int) = (K : Int) + 1 by omega] at this
    simp only [← hF, Nat.add_sub_cancel] at this
    rw [this]
    exact (List.getElem?_eq_some_iff.1 h).2
  have hcells := Lib.hid hcell
  rw [show ((K + 1 : Nat) : Int) = (K : Int) + 1 by omega]
  clear hF hcell h hk hk63
  go_enter Tryd.func23, Tryd.ntmps23
  go_wp2_with (go_at_call 37; (with_reducible refine (hH.out).mono ?_); rintro e w' ⟨rfl, rfl⟩)
  go_loop [2, 7] (fun m i => ∃ (j t : Nat) (y : Int), q < j ∧ j ≤ n ∧ i = .int .i64 j ∧ m = .int .i64 y ∧ Hid (1 ≤ y ∧ y ≤ 9223372036854775807) ∧ Hid ((t : Int) + y = (K : Int) + 1) ∧ Hid (t = (sts F j).length)) (fun _ i => n - (intOf i).toNat)
  case atStart => exact ⟨q + 1, 0, _, by omega, by omega, by go_num, rfl, hK63, Lib.hid (by omega), Lib.hid (by rw [hF0.out]; rfl)⟩
  case round =>
    obtain ⟨j, t, y, hj0, hj1, rfl, rfl, hy, htr, hT⟩ := hrel
    by_cases hjn : j < n
    · have hc1 := hcells.out j hjn
      rcases hfj : f j with _ | _
      · rw [hfj] at hc1
        have hT2 : Hid (t = (sts F (j + 1)).length) := Lib.hid (by rw [sts_no (by rw [hFin.out j hj0 hjn]; exact hfj)]; exact hT.out)
        clear hT
        go_wp2
        go_round
        case rel => exact ⟨j + 1, t, y, by omega, by omega, by go_num, rfl, hy, htr, hT2⟩
        case measure => simp [intOf]; omega
      · rw [hfj] at hc1
        have hs : sts F (j + 1) = sts F j ++ [j] := sts_yes (by rw [hFin.out j hj0 hjn]; exact hfj)
        have hT2 : Hid (t + 1 = (sts F (j + 1)).length) := Lib.hid (by rw [hs, List.length_append, ← hT.out]; rfl)
        by_cases hr : y = 1
        · subst hr
          have hg := sts_get hs (show j + 1 ≤ 512 by omega)
          rw [← hT.out] at hg
          have hans : Hid (nextAt n f q ((K : Int) + 1) = j) := Lib.hid (hE2.out j (by rw [← hg]; congr 1; have := htr.out; omega))
          clear hT hs hg hT2 hy
          go_wp2
          go_ret
          exact ⟨ret_int (by rw [hans.out]), rfl⟩
        · obtain ⟨z, rfl⟩ : ∃ z, y = z + 1 := ⟨y - 1, by omega⟩
          have hrn : (z == 0) = false := by simp; have := hy.out; omega
          have hy2 : Hid (1 ≤ z ∧ z ≤ 9223372036854775807) := Lib.hid (by have := hy.out; omega)
          have htr2 : Hid (((t + 1 : Nat) : Int) + z = (K : Int) + 1) := Lib.hid (by have := htr.out; omega)
          clear hT hs htr hy
          go_upto_region 9 with (fail)
          rw [wrap_in hy2.out.1 hy2.out.2]
          go_wp2
          go_round
          case rel => exact ⟨j + 1, t + 1, z, by omega, by omega, by go_num, rfl, hy2, htr2, hT2⟩
          case measure => simp [intOf]; omega
    · obtain rfl : j = n := by omega
      have hE : Hid (((j : Int) - 1) = ((nextAt j f q ((K : Int) + 1) : Nat) : Int)) := Lib.hid (by
        rw [hE1.out (by rw [hFn.out, ← hT.out]; have := htr.out; have := hy.out; omega)]
        omega)
      go_wp2
      go_ret
      exact ⟨ret_int hE.out, rfl⟩

set_option maxRecDepth 100000 in
set_option maxHeartbeats 2000000 in
theorem rprev_any {B : Nat} {w : World} {r : Nat} {v : Value} {n : Nat} {f : Nat → Bool} (h : Ref B w r v n f) (hn : 1 ≤ n) (hn2 : n ≤ 512) (c k : Int) (hk63 : k ≤ 9223372036854775807) : Calls Tryd.prog 25 #[.pointer (some ⟨r, 0, none⟩), .int .i64 c, .int .i64 k] w (Err w (prevF n f c k)) := by
  have hH := rheld_any h hn hn2 c
  have hlt := held_lt hn c
  unfold prevF
  generalize heldF n c = q at hH hlt ⊢
  replace hH := Lib.hid hH
  by_cases hk : k < 1
  · have hE : Hid (prevAt f q k = q) := by show _ = _; unfold prevAt; rw [if_pos hk]
    clear h
    go_enter Tryd.func25, Tryd.ntmps25
    go_wp2_with (go_at_call 37; (with_reducible refine (hH.out).mono ?_); rintro e w' ⟨rfl, rfl⟩)
    go_ret
    exact ⟨ret_int (by rw [hE.out]), rfl⟩
  obtain ⟨K, rfl⟩ : ∃ K : Nat, k = K := ⟨k.toNat, by omega⟩
  obtain ⟨K, rfl⟩ : ∃ J, K = J + 1 := ⟨K - 1, by omega⟩
  have hK63 : Hid (1 ≤ (K : Int) + 1 ∧ (K : Int) + 1 ≤ 9223372036854775807) := Lib.hid (by omega)
  obtain ⟨g, cap, rfl, _, hcell, _⟩ := h.slice hn
  have h0 := h.cell
  obtain ⟨F, hF⟩ : ∃ F, F = inF f 0 q := ⟨_, rfl⟩
  have hFin : Hid (∀ i, i < q → F i = f i) := Lib.hid fun i h1 => by rw [hF]; exact in_yes (by omega) (by omega)
  have hFn : Hid (sts F 512 = sts F q) := Lib.hid (sts_gap 512 (by omega) fun c h1 _ => by rw [hF]; exact in_no (by omega))
  have hE1 : Hid (((sts F 512).length < K + 1) → prevAt f q ((K : Int) + 1) = 0) := Lib.hid fun h => prev_out (k := K + 1) (by omega) (by rw [← hF]; exact h)
  have hE2 : Hid (∀ i, K < (sts F 512).length → (sts F 512)[(sts F 512).length - (K + 1)]? = some i → prevAt f q ((K : Int) + 1) = i) := Lib.hid fun i hl h => by
    have := prev_in (f := f) (h := q) (k := K + 1) (by omega) (by rw [← hF]; omega)
    rw [show ((K + 1 : Nat) : Int) = (K : Int) + 1 by omega] at this
    simp only [← hF] at this
    rw [this]
    exact (List.getElem?_eq_some_iff.1 h).2
  have hcells := Lib.hid hcell
  rw [show ((K + 1 : Nat) : Int) = (K : Int) + 1 by omega]
  clear hF hcell h hk hk63
  go_enter Tryd.func25, Tryd.ntmps25
  go_wp2_with (go_at_call 37; (with_reducible refine (hH.out).mono ?_); rintro e w' ⟨rfl, rfl⟩)
  go_loop [2, 7] (fun m i => ∃ (j t : Nat) (x y : Int), j ≤ q ∧ x = (j : Int) - 1 ∧ i = .int .i64 x ∧ m = .int .i64 y ∧ Hid (1 ≤ y ∧ y ≤ 9223372036854775807) ∧ Hid ((t : Int) + y = (K : Int) + 1) ∧ Hid (t + (sts F j).length = (sts F 512).length)) (fun _ i => (intOf i + 1).toNat)
  case atStart => exact ⟨q, 0, _, _, by omega, rfl, rfl, rfl, hK63, Lib.hid (by omega), Lib.hid (by rw [hFn.out]; omega)⟩
  case round =>
    obtain ⟨j, t, x, y, hj, hx, rfl, rfl, hy, htr, hT⟩ := hrel
    by_cases hj0 : j = 0
    · subst hj0
      obtain rfl : x = -1 := by omega
      have hE : Hid (prevAt f q ((K : Int) + 1) = 0) := Lib.hid (hE1.out (by have := htr.out; have := hy.out; have h2 := hT.out; rw [sts_zero] at h2; simp at h2; omega))
      clear hx
      go_wp2
      go_ret
      exact ⟨ret_int (by rw [hE.out]; rfl), rfl⟩
    · obtain ⟨i, rfl⟩ : ∃ i, j = i + 1 := ⟨j - 1, by omega⟩
      obtain rfl : x = (i : Int) := by omega
      clear hx hj0
      have hc1 := hcells.out i (by omega)
      rcases hfj : f i with _ | _
      · rw [hfj] at hc1
        have hT2 : Hid (t + (sts F i).length = (sts F 512).length) := Lib.hid (by have := hT.out; rwa [sts_no (by rw [hFin.out i (by omega)]; exact hfj)] at this)
        clear hT
        go_wp2
        go_round
        case rel => exact ⟨i, t, _, y, by omega, rfl, rfl, rfl, hy, htr, hT2⟩
        case measure => simp [intOf]
      · rw [hfj] at hc1
        have hs : sts F (i + 1) = sts F i ++ [i] := sts_yes (by rw [hFin.out i (by omega)]; exact hfj)
        have hT2 : Hid (t + 1 + (sts F i).length = (sts F 512).length) := Lib.hid (by have := hT.out; rw [hs, List.length_append, List.length_singleton] at this; omega)
        by_cases hr : y = 1
        · subst hr
          have hg := sts_get hs (show i + 1 ≤ 512 by omega)
          have hans : Hid (prevAt f q ((K : Int) + 1) = i) := Lib.hid (hE2.out i (by have := htr.out; have := hT2.out; omega) (by rw [← hg]; congr 1; have := htr.out; have := hT2.out; omega))
          clear hT hs hg hT2 hy
          go_wp2
          go_ret
          exact ⟨ret_int (by rw [hans.out]), rfl⟩
        · obtain ⟨z, rfl⟩ : ∃ z, y = z + 1 := ⟨y - 1, by omega⟩
          have hrn : (z == 0) = false := by simp; have := hy.out; omega
          have hy2 : Hid (1 ≤ z ∧ z ≤ 9223372036854775807) := Lib.hid (by have := hy.out; omega)
          have htr2 : Hid (((t + 1 : Nat) : Int) + z = (K : Int) + 1) := Lib.hid (by have := htr.out; omega)
          clear hT hs htr hy
          go_upto_region 9 with (fail)
          rw [wrap_in hy2.out.1 hy2.out.2]
          go_wp2
          go_round
          case rel => exact ⟨i, t + 1, _, z, by omega, rfl, rfl, rfl, hy2, htr2, hT2⟩
          case measure => simp [intOf]

end Go.Proofs.YtihmagpgbjlggaaDoor.Tbs
