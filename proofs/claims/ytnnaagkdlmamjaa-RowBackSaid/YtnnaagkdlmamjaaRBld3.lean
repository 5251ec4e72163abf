/-
  row: what Insert, Delete and Resize build, as plain lists.
-/
import Derived.Test.YtnnaagkdlmamjaaRBld2
namespace Go.Proofs.Ytnnaagkdlmamjaa.Rw
open Go Go.RowKit Go.Proofs.Ytnnaagkdlmamjaa.Com

def qIns (ps : List (Cel × Value)) (col k : Nat) (a : At) (i : Nat) : Cel × Value := if i < col then ps.getD i zp else if i < col + k then (clr a, .slice none 0 0) else ps.getD (i - k) zp
def gIns (col k : Nat) (i : Nat) : Int := if 1000 < i then -1 else if i < col then i else if i < col + k then -1 else (i : Int) - k
def qDel (ps : List (Cel × Value)) (n col k : Nat) (a : At) (i : Nat) : Cel × Value := if i < col then ps.getD i zp else if i + k < n then ps.getD (i + k) zp else (clr a, .slice none 0 0)
def gDel (n col k : Nat) (i : Nat) : Int := if 1000 < i then -1 else if i < col then i else if i + k < n then (i : Int) + k else -1
def qRes (ps : List (Cel × Value)) (n : Nat) (i : Nat) : Cel × Value := if i < n then ps.getD i zp else (clr zeroAt, .slice none 0 0)
def gRes (n : Nat) (i : Nat) : Int := if 1000 < i then -1 else if i < n then i else -1

theorem cels_ins {ps : List (Cel × Value)} {col k : Nat} {a : At} (h : col + k ≤ ps.length) : cels ((List.range ps.length).map (qIns ps col k a)) = insX (cels ps) col k a := by
  apply List.ext_getElem?
  intro i
  rw [cels_at]
  unfold insX
  have hl1 : ((cels ps).take col).length = col := by rw [List.length_take, cels_length]; omega
  by_cases c1 : i < col
  · rw [if_pos (by omega), List.getElem?_append_left (by omega), List.getElem?_take, if_pos c1, cels_get _ _ (by omega)]
    unfold qIns
    rw [if_pos c1]
  · rw [List.getElem?_append_right (by omega), hl1]
    by_cases c2 : i < col + k
    · rw [if_pos (by omega), List.getElem?_append_left (by simp; omega), List.getElem?_replicate, if_pos (by omega)]
      unfold qIns
      rw [if_neg c1, if_pos c2]
    · rw [List.getElem?_append_right (by simp; omega), List.length_replicate, List.getElem?_take, cels_length, List.getElem?_drop]
      by_cases c3 : i < ps.length
      · rw [if_pos c3, if_pos (by omega), show col + (i - col - k) = i - k by omega, cels_get _ _ (by omega)]
        unfold qIns
        rw [if_neg c1, if_neg c2]
      · rw [if_neg c3, if_neg (by omega)]
theorem ref_insert {ps : List (Cel × Value)} (hw : Whole (cels ps)) (col k : Nat) (a : At) (h : col + k ≤ ps.length) (h5 : ps.length ≤ 512) :
    Ready (cels ((List.range ps.length).map (qIns ps col k a))) (gIns col k) ∧ wholeTo (cels ((List.range ps.length).map (qIns ps col k a))) (gIns col k) ps.length = insL (cels ps) col k a := by
  rw [cels_ins h]
  have hlen : (insX (cels ps) col k a).length = ps.length := by rw [insX_length a (by rw [cels_length]; exact h), cels_length]
  have hWi := W_insX (l := cels ps) (col := col) (n := k) a (by rw [cels_length]; exact h)
  rw [cels_length] at hWi
  have hP : Prov (cels ps) (insX (cels ps) col k a) (gIns col k) := by
    refine ⟨fun i hi => ?_, fun i => ?_, fun i => ?_⟩
    · rw [hlen] at hi
      rw [hWi]
      unfold gIns
      rw [if_neg (by omega)]
      by_cases c1 : i < col
      · rw [if_pos c1, if_pos c1]; exact .inr ⟨i, rfl, by rw [cels_length]; exact hi, rfl⟩
      · rw [if_neg c1, if_neg c1]
        by_cases c2 : i < col + k
        · rw [if_pos c2, if_pos c2]; exact .inl ⟨rfl, rfl⟩
        · rw [if_neg c2, if_neg c2, if_pos hi]; exact .inr ⟨i - k, by omega, by rw [cels_length]; omega, rfl⟩
    · unfold gIns; split <;> (try split) <;> (try split) <;> omega
    · unfold gIns; split <;> (try split) <;> (try split) <;> omega
  refine ⟨hP.ready hw, ?_⟩
  have := hP.whole hw (fun i h1 h3 => by
    have k1 : i + 1 < ps.length := by
      have := lt_of_W (l := insX (cels ps) col k a) (k := i + 1) (by omega)
      rwa [hlen] at this
    rw [hWi] at h1 h3
    unfold gIns
    rw [if_neg (show ¬ 1000 < i + 1 by omega), if_neg (show ¬ 1000 < i by omega)]
    by_cases c1 : i + 1 < col
    · rw [if_pos c1, if_pos (show i < col by omega)]; omega
    · rw [if_neg c1] at h3 ⊢
      by_cases c2 : i + 1 < col + k
      · rw [if_pos c2] at h3; omega
      · rw [if_neg c2] at h3 ⊢
        by_cases c3 : i < col
        · rw [if_pos c3]; omega
        · rw [if_neg c3] at h1 ⊢
          by_cases c4 : i < col + k
          · rw [if_pos c4] at h1; omega
          · rw [if_neg c4]; omega)
  rw [hlen] at this
  exact this

theorem cels_res {ps : List (Cel × Value)} {cols : Nat} : cels ((List.range cols).map (qRes ps ps.length)) = resX (cels ps) cols := by
  apply List.ext_getElem?
  intro i
  rw [cels_at]
  unfold resX
  by_cases c1 : i < cols
  · rw [if_pos c1]
    by_cases c2 : i < ps.length
    · rw [List.getElem?_append_left (by simp [cels_length]; omega), List.getElem?_take, if_pos c1, cels_get _ _ c2]
      unfold qRes
      rw [if_pos c2]
    · rw [List.getElem?_append_right (by simp [cels_length]; omega), List.getElem?_replicate, if_pos (by simp [cels_length]; omega)]
      unfold qRes
      rw [if_neg c2]
  · rw [if_neg c1, List.getElem?_eq_none (by have := resX_length (cels ps) cols; unfold resX at this; omega)]
theorem ref_resize {ps : List (Cel × Value)} (hw : Whole (cels ps)) (cols : Nat) (h5 : ps.length ≤ 512) (hc : cols ≤ 512) :
    Ready (cels ((List.range cols).map (qRes ps ps.length))) (gRes ps.length) ∧ wholeTo (cels ((List.range cols).map (qRes ps ps.length))) (gRes ps.length) cols = resL (cels ps) cols := by
  rw [cels_res]
  have hlen := resX_length (cels ps) cols
  have hWi := W_resX (cels ps) cols
  have hP : Prov (cels ps) (resX (cels ps) cols) (gRes ps.length) := by
    refine ⟨fun i hi => ?_, fun i => ?_, fun i => ?_⟩
    · rw [hlen] at hi
      rw [hWi, if_pos hi]
      unfold gRes
      rw [if_neg (by omega)]
      by_cases c1 : i < ps.length
      · rw [if_pos c1]; exact .inr ⟨i, rfl, by rw [cels_length]; exact c1, rfl⟩
      · rw [if_neg c1]; exact .inl ⟨rfl, W_out (by rw [cels_length]; omega)⟩
    · unfold gRes; split <;> (try split) <;> omega
    · unfold gRes; split <;> (try split) <;> omega
  refine ⟨hP.ready hw, ?_⟩
  have := hP.whole hw (fun i h1 h3 => by
    have k1 : i + 1 < cols := by
      have := lt_of_W (l := resX (cels ps) cols) (k := i + 1) (by omega)
      rwa [hlen] at this
    rw [hWi, if_pos (by omega)] at h1 h3
    have k2 := lt_of_W (l := cels ps) (k := i + 1) (by omega)
    rw [cels_length] at k2
    unfold gRes
    rw [if_neg (show ¬ 1000 < i + 1 by omega), if_neg (show ¬ 1000 < i by omega), if_pos k2, if_pos (show i < ps.length by omega)]
    omega)
  rw [hlen] at this
  exact this

theorem cels_del {ps : List (Cel × Value)} {col k : Nat} {a : At} (h : col + k ≤ ps.length) : cels ((List.range ps.length).map (qDel ps ps.length col k a)) = (cels ps).take col ++ ((cels ps).drop (col + k) ++ List.replicate k (clr a)) := by
  apply List.ext_getElem?
  intro i
  rw [cels_at]
  have hl1 : ((cels ps).take col).length = col := by rw [List.length_take, cels_length]; omega
  have hl2 : ((cels ps).drop (col + k)).length = ps.length - (col + k) := by rw [List.length_drop, cels_length]
  by_cases c1 : i < col
  · rw [if_pos (by omega), List.getElem?_append_left (by omega), List.getElem?_take, if_pos c1, cels_get _ _ (by omega)]
    unfold qDel
    rw [if_pos c1]
  · rw [List.getElem?_append_right (by omega), hl1]
    by_cases c2 : i + k < ps.length
    · rw [if_pos (by omega), List.getElem?_append_left (by omega), List.getElem?_drop, show col + k + (i - col) = i + k by omega, cels_get _ _ c2]
      unfold qDel
      rw [if_neg c1, if_pos c2]
    · rw [List.getElem?_append_right (by omega), hl2, List.getElem?_replicate]
      by_cases c3 : i < ps.length
      · rw [if_pos c3, if_pos (by omega)]
        unfold qDel
        rw [if_neg c1, if_neg c2]
      · rw [if_neg c3, if_neg (by omega)]
end Go.Proofs.Ytnnaagkdlmamjaa.Rw
