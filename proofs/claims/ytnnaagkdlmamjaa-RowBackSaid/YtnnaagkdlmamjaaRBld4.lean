/-
  row: what Delete builds, looked through, is what the program's Delete leaves.
-/
import Derived.Test.YtnnaagkdlmamjaaRBld3
namespace Go.Proofs.Ytnnaagkdlmamjaa.Rw
open Go Go.RowKit Go.Proofs.Ytnnaagkdlmamjaa.Com

set_option maxHeartbeats 4000000 in
theorem ref_delete {ps : List (Cel × Value)} (hw : Whole (cels ps)) (col k : Nat) (a : At) (h : col + k ≤ ps.length) (h5 : ps.length ≤ 512) :
    Ready (cels ((List.range ps.length).map (qDel ps ps.length col k a))) (gDel ps.length col k) ∧ wholeTo (cels ((List.range ps.length).map (qDel ps ps.length col k a))) (gDel ps.length col k) ps.length = delL (cels ps) col k a := by
  have hXlen : (cels ((List.range ps.length).map (qDel ps ps.length col k a))).length = ps.length := by simp [cels]
  have hWi : ∀ i, W (cels ((List.range ps.length).map (qDel ps ps.length col k a))) i = if i < ps.length then (if i < col then W (cels ps) i else if i + k < ps.length then W (cels ps) (i + k) else 0) else 0 := by
    intro i
    rw [cels_range, W_range]
    by_cases c : i < ps.length
    · rw [if_pos c, if_pos c, W_cels, W_cels]
      unfold qDel
      split
      · rfl
      · split <;> rfl
    · rw [if_neg c, if_neg c]
  have hat := cels_at ps.length (qDel ps ps.length col k a)
  generalize hX : cels ((List.range ps.length).map (qDel ps ps.length col k a)) = X at hXlen hWi hat ⊢
  have hlen : (cels ps).length = ps.length := cels_length ps
  have hP : Prov (cels ps) X (gDel ps.length col k) := by
    refine ⟨fun i hi => ?_, fun i => ?_, fun i => ?_⟩
    · rw [hXlen] at hi
      rw [hWi, if_pos hi]
      unfold gDel
      rw [if_neg (by omega)]
      by_cases c1 : i < col
      · rw [if_pos c1, if_pos c1]; exact .inr ⟨i, rfl, by rw [hlen]; exact hi, rfl⟩
      · rw [if_neg c1, if_neg c1]
        by_cases c2 : i + k < ps.length
        · rw [if_pos c2, if_pos c2]; exact .inr ⟨i + k, by omega, by rw [hlen]; exact c2, rfl⟩
        · rw [if_neg c2, if_neg c2]; exact .inl ⟨rfl, rfl⟩
    · unfold gDel; split <;> (try split) <;> (try split) <;> omega
    · unfold gDel; split <;> (try split) <;> (try split) <;> omega
  refine ⟨hP.ready hw, ?_⟩
  have hw' := (whole_iff _).1 hw
  have hS := W_splice (l := cels ps) (cs := List.replicate k (clr a)) (col := col) (by rw [hlen]; simpa using h)
  simp only [List.length_replicate, W_clr] at hS
  have hout := fun i (hi : ps.length ≤ i) => W_out (l := cels ps) (i := i) (by omega)
  have hSat : ∀ j, (j < col ∨ col + k ≤ j) → (splice (cels ps) col (List.replicate k (clr a)))[j]? = (cels ps)[j]? := by
    intro j hj
    unfold splice
    have hl1 : ((cels ps).take col).length = col := by rw [List.length_take, hlen]; omega
    rcases hj with hj | hj
    · rw [List.getElem?_append_left (by omega), List.getElem?_take, if_pos hj]
    · rw [List.getElem?_append_right (by omega), hl1, List.getElem?_append_right (by simp; omega), List.getElem?_drop, List.length_replicate]
      congr 1
      omega
  apply List.ext_getElem?
  intro i
  rw [wholeTo_at, hat]
  unfold delL delX setL
  have hl1 : ((mendAll (splice (cels ps) col (List.replicate k (clr a)))).take col).length = col := by rw [List.length_take, mendAll_length, length_splice _ _ _ (by rw [hlen]; simpa using h), hlen]; omega
  have hl2 : ((mendAll (splice (cels ps) col (List.replicate k (clr a)))).drop (col + k)).length = ps.length - (col + k) := by rw [List.length_drop, mendAll_length, length_splice _ _ _ (by rw [hlen]; simpa using h), hlen]
  generalize splice (cels ps) col (List.replicate k (clr a)) = S at hS hSat hl1 hl2 ⊢
  have g0 : ∀ j, j < 600 → gDel ps.length col k j = if j < col then (j : Int) else if j + k < ps.length then (j : Int) + k else -1 := fun j hj => by unfold gDel; rw [if_neg (by omega)]
  by_cases c1 : i < col
  · rw [if_pos (by omega), List.getElem?_append_left (by omega), List.getElem?_take, if_pos c1, mendAll_at, hSat i (.inl c1), cels_get _ _ (by omega)]
    simp only [Option.map_some]
    have hq : (qDel ps ps.length col k a i).1 = (ps.getD i zp).1 := by unfold qDel; rw [if_pos c1]
    rw [hq]
    have hiff : aloneW X (gDel ps.length col k) i ↔ Alone S i := by
      have e0 := g0 i (by omega)
      have e1 := g0 (i + 1) (by omega)
      have e2 := g0 (i - 1) (by omega)
      have x0 := hWi i
      have s0 := hS i
      have s1 := hS (i + 1)
      have s2 := hS (i - 1)
      have w0 := hw'.2 i
      have w1 := hw'.2 (i - 1)
      have wz := hw'.1
      have o1 := hout (i + 1)
      rw [if_pos (by omega), if_pos c1] at x0
      rw [if_pos c1] at s0 e0
      rw [if_pos (show i - 1 < col by omega)] at s2 e2
      unfold aloneW Alone
      rw [hXlen]
      by_cases i0 : i = 0
      · subst i0
        simp only [Nat.zero_sub, Nat.zero_add] at *
        split at e1 <;> split at s1 <;> (try split at e1) <;> (try split at s1) <;> omega
      · rw [show i - 1 + 1 = i by omega] at w1
        split at e1 <;> split at s1 <;> (try split at e1) <;> (try split at s1) <;> omega
    by_cases hA : Alone S i
    · rw [if_pos hA, if_pos ⟨by omega, hiff.2 hA⟩]
    · rw [if_neg hA, if_neg (fun hh => hA (hiff.1 hh.2))]
  · rw [List.getElem?_append_right (by omega), hl1]
    by_cases c2 : i + k < ps.length
    · rw [if_pos (by omega), List.getElem?_append_left (by omega), List.getElem?_drop, show col + k + (i - col) = i + k by omega, mendAll_at, hSat (i + k) (.inr (by omega)), cels_get _ _ c2]
      simp only [Option.map_some]
      have hq : (qDel ps ps.length col k a i).1 = (ps.getD (i + k) zp).1 := by unfold qDel; rw [if_neg c1, if_pos c2]
      rw [hq]
      have hiff : aloneW X (gDel ps.length col k) i ↔ Alone S (i + k) := by
        have e0 := g0 i (by omega)
        have e1 := g0 (i + 1) (by omega)
        have e2 := g0 (i - 1) (by omega)
        have x0 := hWi i
        have s0 := hS (i + k)
        have s1 := hS (i + k + 1)
        have s2 := hS (i + k - 1)
        have w0 := hw'.2 (i + k)
        have w1 := hw'.2 (i + k - 1)
        have wz := hw'.1
        have o1 := hout (i + k + 1)
        rw [if_pos (by omega), if_neg c1, if_pos c2] at x0
        rw [if_neg (by omega), if_neg (by omega)] at s0
        rw [if_neg c1, if_pos c2] at e0
        rw [if_neg (show ¬ i + 1 < col by omega)] at e1
        rw [if_neg (show ¬ i + k + 1 < col by omega), if_neg (show ¬ i + k + 1 < col + k by omega)] at s1
        unfold aloneW Alone
        rw [hXlen]
        by_cases i0 : i + k = 0
        · obtain ⟨rfl, rfl⟩ : i = 0 ∧ k = 0 := by omega
          simp only [Nat.zero_sub, Nat.zero_add, Nat.add_zero] at *
          split at e1 <;> omega
        · rw [show i + k - 1 + 1 = i + k by omega] at w1
          split at e1 <;> split at e2 <;> split at s2 <;> (try split at e2) <;> (try split at s2) <;> omega
      by_cases hA : Alone S (i + k)
      · rw [if_pos hA, if_pos ⟨by omega, hiff.2 hA⟩]
      · rw [if_neg hA, if_neg (fun hh => hA (hiff.1 hh.2))]
    · rw [List.getElem?_append_right (by omega), hl2, List.getElem?_replicate]
      by_cases c3 : i < ps.length
      · rw [if_pos c3, if_pos (by omega)]
        simp only [Option.map_some]
        have hz : ¬ aloneW X (gDel ps.length col k) i := by
          have x0 := hWi i
          rw [if_pos c3, if_neg c1, if_neg c2] at x0
          unfold aloneW
          omega
        rw [if_neg (fun hh => hz hh.2)]
        unfold qDel
        rw [if_neg c1, if_neg c2]
      · rw [if_neg c3, if_neg (by omega)]
        rfl
end Go.Proofs.Ytnnaagkdlmamjaa.Rw
