/-
  row: the reference's whole: halves whose other half is not where it must be become blank.
-/
import Derived.Test.YtaoegfdaemmogaaGreatRMath
import Derived.Test.YtaoegfdaemmogaaGreatRCopy
import Derived.RegionTactic
import Derived.BigRegion
namespace Go.Proofs.YtaoegfdaemmogaaGreat.Rw
open Go Go.RowKit Go.Proofs.YtaoegfdaemmogaaGreat.Com

def cels (ps : List (Cel × Value)) : List Cel := ps.map (·.1)
def bp (q : Cel × Value) : Cel × Value := (blank1 q.1, .slice none 0 0)
def psTo (ps : List (Cel × Value)) (f : Nat → Int) (k : Nat) : List (Cel × Value) := ps.mapIdx fun i q => if i < k ∧ aloneW (cels ps) f i then bp q else q
def wsTo (ps : List (Cel × Value)) (f : Nat → Int) (k : Nat) : List Int := (List.range ps.length).map (wasTo (cels ps) f k)
theorem psTo_length (ps : List (Cel × Value)) (f : Nat → Int) (k : Nat) : (psTo ps f k).length = ps.length := by simp [psTo]
theorem wsTo_length (ps : List (Cel × Value)) (f : Nat → Int) (k : Nat) : (wsTo ps f k).length = ps.length := by simp [wsTo]
theorem psTo_at (ps : List (Cel × Value)) (f : Nat → Int) (k i : Nat) : (psTo ps f k)[i]? = ps[i]?.map fun q => if i < k ∧ aloneW (cels ps) f i then bp q else q := by simp [psTo]
theorem wsTo_at (ps : List (Cel × Value)) (f : Nat → Int) (k i : Nat) (hi : i < ps.length) : (wsTo ps f k)[i]? = some (wasTo (cels ps) f k i) := by simp [wsTo, hi]
theorem psTo_0 (ps : List (Cel × Value)) (f : Nat → Int) : psTo ps f 0 = ps := by
  apply List.ext_getElem?
  intro i
  rw [psTo_at]
  cases ps[i]? <;> simp
theorem wsTo_0 (ps : List (Cel × Value)) (f : Nat → Int) : wsTo ps f 0 = (List.range ps.length).map f := by
  have e : wasTo (cels ps) f 0 = f := by funext i; simp [wasTo]
  rw [wsTo, e]
theorem psTo_cels (ps : List (Cel × Value)) (f : Nat → Int) (k : Nat) : cels (psTo ps f k) = wholeTo (cels ps) f k := by
  apply List.ext_getElem?
  intro i
  rw [wholeTo_at]
  have e1 : (cels (psTo ps f k))[i]? = ((psTo ps f k)[i]?).map (·.1) := by simp [cels]
  have e2 : (cels ps)[i]? = (ps[i]?).map (·.1) := by simp [cels]
  rw [e1, e2, psTo_at]
  cases ps[i]? with
  | none => rfl
  | some q =>
    simp only [Option.map_some]
    congr 1
    by_cases c : i < k ∧ aloneW (cels ps) f i
    · rw [if_pos c, if_pos c]; rfl
    · rw [if_neg c, if_neg c]
theorem psTo_no {ps : List (Cel × Value)} {f : Nat → Int} {k : Nat} (h : ¬ aloneW (cels ps) f k) : psTo ps f (k + 1) = psTo ps f k ∧ wsTo ps f (k + 1) = wsTo ps f k := by
  have e : ∀ i, (i < k + 1 ∧ aloneW (cels ps) f i) ↔ (i < k ∧ aloneW (cels ps) f i) := fun i => by
    constructor
    · rintro ⟨h1, h2⟩
      refine ⟨?_, h2⟩
      rcases Nat.lt_or_ge i k with h3 | h3
      · exact h3
      · obtain rfl : i = k := by omega
        exact absurd h2 h
    · rintro ⟨h1, h2⟩
      exact ⟨by omega, h2⟩
  constructor
  · unfold psTo
    simp only [e]
  · unfold wsTo wasTo
    simp only [e]
theorem psTo_yes {ps : List (Cel × Value)} {f : Nat → Int} {k : Nat} (h : aloneW (cels ps) f k) (hk : k < ps.length) : psTo ps f (k + 1) = (psTo ps f k).set k (bp ps[k]) ∧ wsTo ps f (k + 1) = (wsTo ps f k).set k (-2) := by
  constructor
  · apply List.ext_getElem?
    intro i
    rw [psTo_at, List.getElem?_set, psTo_length, psTo_at]
    by_cases e : k = i
    · subst e
      rw [if_pos rfl, if_pos hk, List.getElem?_eq_getElem hk, Option.map_some, if_pos ⟨by omega, h⟩]
    · rw [if_neg e]
      cases ps[i]? with
      | none => rfl
      | some q =>
        simp only [Option.map_some]
        congr 1
        by_cases c : i < k ∧ aloneW (cels ps) f i
        · rw [if_pos c, if_pos ⟨by omega, c.2⟩]
        · rw [if_neg c, if_neg (fun hh => c ⟨by omega, hh.2⟩)]
  · apply List.ext_getElem?
    intro i
    rw [List.getElem?_set, wsTo_length]
    by_cases e : k = i
    · subst e
      rw [if_pos rfl, if_pos hk, wsTo_at _ _ _ _ hk, wasTo, if_pos ⟨by omega, h⟩]
    · rw [if_neg e]
      by_cases hi : i < ps.length
      · rw [wsTo_at _ _ _ _ hi, wsTo_at _ _ _ _ hi]
        congr 1
        unfold wasTo
        by_cases c : i < k ∧ aloneW (cels ps) f i
        · rw [if_pos c, if_pos ⟨by omega, c.2⟩]
        · rw [if_neg c, if_neg (fun hh => c ⟨by omega, hh.2⟩)]
      · rw [List.getElem?_eq_none (by rw [wsTo_length]; omega), List.getElem?_eq_none (by rw [wsTo_length]; omega)]
theorem splice_cons {α : Type} (cur vs : List α) (off : Nat) (v : α) (h : off < cur.length) : splice cur off (v :: vs) = splice (cur.set off v) (off + 1) vs := by
  unfold splice
  rw [List.take_add_one, List.getElem?_set, if_pos rfl, if_pos h, List.take_set_of_le (Nat.le_refl _), List.drop_set_of_lt (by omega)]
  simp only [List.length_cons, List.append_assoc, Option.toList_some, List.singleton_append]
  rw [show off + (vs.length + 1) = off + 1 + vs.length by omega]
  rfl
theorem splice_nil {α : Type} (cur : List α) (off : Nat) : splice cur off [] = cur := by simp [splice]

structure WSt (B B2 : Nat) (w wr : World) (d gv gw n cap cw : Nat) (tail : List Value) (ps : List (Cel × Value)) (f : Nat → Int) (k : Nat) : Prop where
  ptr : Block wr d 78 #[.slice (some ⟨gv, 0, none⟩) n cap]
  row : Block wr gv 117 (fl apiP (psTo ps f k) ++ tail).toArray
  comb : ∀ p ∈ psTo ps f k, Own wr B 21 .i32 p.2 p.1.m
  was : Own wr B2 3 .i64 (.slice (some ⟨gw, 0, none⟩) n cw) (wsTo ps f k)
  only : Only [gv, gw] w wr
section
variable {B B2 : Nat} {w wr : World} {d gv gw n cap cw : Nat} {tail : List Value} {ps : List (Cel × Value)} {f : Nat → Int} {k : Nat}
theorem WSt.slice (h : WSt B B2 w wr d gv gw n cap cw tail ps f k) : wr.cell? ⟨d, 0, none⟩ = some (.slice (some ⟨gv, 0, none⟩) n cap) := h.ptr.cell 0 rfl
theorem WSt.at' (h : WSt B B2 w wr d gv gw n cap cw tail ps f k) (hk : k < ps.length) {j : Nat} (hj : j < 6) {v : Value} (hv : (apiP ps[k])[j]? = some v) : wr.cell? ⟨gv, k * 6 + j, none⟩ = some v := by
  refine h.row.cell _ ?_
  have hk' : k < (psTo ps f k).length := by rw [psTo_length]; exact hk
  have e := fl_at apiP_length hk' hj
  have hq : (psTo ps f k)[k] = ps[k] := by
    have := psTo_at ps f k k
    rw [List.getElem?_eq_getElem hk', List.getElem?_eq_getElem hk] at this
    simpa using this
  rw [hq, hv] at e
  have hlt := (List.getElem?_eq_some_iff.1 e).1
  simp only [List.getElem?_toArray]
  rw [List.getElem?_append_left hlt, e]
theorem WSt.cells (h : WSt B B2 w wr d gv gw n cap cw tail ps f k) (hk : k < ps.length) : wr.cell? ⟨gv, k * 6, none⟩ = some (.int .i32 ps[k].1.r) ∧ wr.cell? ⟨gv, k * 6 + 1, none⟩ = some ps[k].2 ∧ wr.cell? ⟨gv, k * 6 + 2, none⟩ = some (.int .u8 ps[k].1.wide) ∧ wr.cell? ⟨gv, k * 6 + 3, none⟩ = some (.int .u32 ps[k].1.a.f) ∧ wr.cell? ⟨gv, k * 6 + 4, none⟩ = some (.int .u32 ps[k].1.a.b) ∧ wr.cell? ⟨gv, k * 6 + 5, none⟩ = some (.int .u16 ps[k].1.a.g) :=
  ⟨h.at' hk (j := 0) (by omega) rfl, h.at' hk (by omega) rfl, h.at' hk (by omega) rfl, h.at' hk (by omega) rfl, h.at' hk (by omega) rfl, h.at' hk (by omega) rfl⟩
theorem WSt.wcell (h : WSt B B2 w wr d gv gw n cap cw tail ps f k) {i : Nat} (hi : i < ps.length) : wr.cell? ⟨gw, i, none⟩ = some (.int .i64 (wasTo (cels ps) f k i)) := by
  obtain ⟨g, c, e, _, hc, _⟩ := own_form h.was (by rw [wsTo_length]; omega)
  cases e
  exact hc i _ (wsTo_at _ _ _ _ hi)
theorem WSt.ne (h : WSt B B2 w wr d gv gw n cap cw tail ps f k) : gv ≠ gw ∧ d ≠ gv ∧ d ≠ gw := by
  have ht := Own.typ h.was (g := gw) rfl
  exact ⟨fun e => absurd (Typ.inj (e ▸ Block.typ h.row) ht) (by decide), Block.apart h.ptr h.row (by decide), fun e => absurd (Typ.inj (e ▸ Block.typ h.ptr) ht) (by decide)⟩
theorem WSt.skip (h : WSt B B2 w wr d gv gw n cap cw tail ps f k) (q : Nat) (hn : ¬ aloneW (cels ps) f k) : WSt B B2 w (wr.drewN q) d gv gw n cap cw tail ps f (k + 1) := by
  obtain ⟨e1, e2⟩ := psTo_no hn
  have ho := Only.drewN [] wr q
  exact ⟨h.ptr.only ho (by simp), by rw [e1]; exact h.row.only ho (by simp), by rw [e1]; exact fun p hp => (h.comb p hp).only ho (by simp), by rw [e2]; exact h.was.only ho (by simp), h.only.trans (Only.drewN _ _ _)⟩
/-- The cell that is alone becomes blank, and is marked so. -/
def turn6 (w : World) (g o : Nat) (a b c : Int) : World := (((((w.setCell ⟨g, o, none⟩ (.int .i32 32)).setCell ⟨g, o + 1, none⟩ (.slice none 0 0)).setCell ⟨g, o + 2, none⟩ (.int .u8 0)).setCell ⟨g, o + 3, none⟩ (.int .u32 a)).setCell ⟨g, o + 4, none⟩ (.int .u32 b)).setCell ⟨g, o + 5, none⟩ (.int .u16 c)
theorem only_put {w w1 : World} {g : Nat} (h : Only [g] w w1) (i : Nat) (v : Value) : Only [g] w (w1.setCell ⟨g, i, none⟩ v) := h.trans (Only.setCell w1 ⟨g, i, none⟩ v)
theorem turn6_only (w : World) (g o : Nat) (a b c : Int) : Only [g] w (turn6 w g o a b c) :=
  only_put (only_put (only_put (only_put (only_put (only_put (Only.refl _ _) _ _) _ _) _ _) _ _) _ _) _ _
theorem splice6 {α : Type} (cur : List α) (o : Nat) (a b c d e x : α) (h : o + 6 ≤ cur.length) : splice cur o [a, b, c, d, e, x] = (((((cur.set o a).set (o + 1) b).set (o + 2) c).set (o + 3) d).set (o + 4) e).set (o + 5) x := by
  rw [splice_cons cur _ o _ (by omega)]
  rw [splice_cons _ _ (o + 1) _ (by simp only [List.length_set]; omega)]
  rw [splice_cons _ _ (o + 2) _ (by simp only [List.length_set]; omega)]
  rw [splice_cons _ _ (o + 3) _ (by simp only [List.length_set]; omega)]
  rw [splice_cons _ _ (o + 4) _ (by simp only [List.length_set]; omega)]
  rw [splice_cons _ _ (o + 5) _ (by simp only [List.length_set]; omega), splice_nil]
theorem turn6_block {w : World} {g o : Nat} {t : TypeId} {cur : List Value} (h : Block w g t cur.toArray) (ho : o + 6 ≤ cur.length) (a b c : Int) : Block (turn6 w g o a b c) g t (splice cur o [.int .i32 32, .slice none 0 0, .int .u8 0, .int .u32 a, .int .u32 b, .int .u16 c]).toArray := by
  rw [splice6 _ _ _ _ _ _ _ _ ho]
  have set1 := fun {w : World} {l : List Value} (h : Block w g t l.toArray) (i : Nat) (u : Value) => (by have := h.set i u; rwa [List.setIfInBounds_toArray] at this : Block (w.setCell ⟨g, i, none⟩ u) g t (l.set i u).toArray)
  exact set1 (set1 (set1 (set1 (set1 (set1 h _ _) _ _) _ _) _ _) _ _) _ _
theorem WSt.turn (h : WSt B B2 w wr d gv gw n cap cw tail ps f k) (hk : k < ps.length) (q : Nat) (hy : aloneW (cels ps) f k) : WSt B B2 w ((turn6 (wr.drewN q) gv (k * 6) ps[k].1.a.f ps[k].1.a.b ps[k].1.a.g).setCell ⟨gw, k, none⟩ (.int .i64 (-2))) d gv gw n cap cw tail ps f (k + 1) := by
  obtain ⟨e1, e2⟩ := psTo_yes hy hk
  obtain ⟨n1, n2, n3⟩ := h.ne
  have o1 : Only [gv] wr (turn6 (wr.drewN q) gv (k * 6) ps[k].1.a.f ps[k].1.a.b ps[k].1.a.g) := (Only.drewN _ _ q).trans (turn6_only _ _ _ _ _ _)
  have o2 := (Only.setCell (turn6 (wr.drewN q) gv (k * 6) ps[k].1.a.f ps[k].1.a.b ps[k].1.a.g) ⟨gw, k, none⟩ (.int .i64 (-2)) : Only [gw] _ _)
  have hlen : k * 6 + 6 ≤ (fl apiP (psTo ps f k) ++ tail).length := by
    rw [List.length_append, fl_length apiP_length, psTo_length]
    have : (k + 1) * 6 ≤ ps.length * 6 := Nat.mul_le_mul_right _ hk
    omega
  have hb := turn6_block (h.row.only (Only.drewN [] wr q) (by simp)) hlen ps[k].1.a.f ps[k].1.a.b ps[k].1.a.g
  have hfs := fl_splice apiP_length (psTo ps f k) [bp ps[k]] tail k (by simp [psTo_length]; omega)
  rw [splice_set _ _ _ (by rw [psTo_length]; exact hk), fl_one, ← e1] at hfs
  have hty := fun p hp g hg => Own.typ (h.comb p hp) (g := g) hg
  refine ⟨(h.ptr.only o1 (by simpa using n2)).only o2 (by simpa using n3), ?_, ?_, ?_, ?_⟩
  · rw [← hfs]
    exact hb.only o2 (by simpa using n1)
  · intro p hp
    rw [e1] at hp
    rcases List.mem_or_eq_of_mem_set hp with hp | rfl
    · have ht2 := Own.typ h.was (g := gw) rfl
      refine ((h.comb p hp).only o1 (fun g hg hm => ?_)).only o2 (fun g hg hm => ?_)
      · simp at hm; subst hm
        exact absurd (Typ.inj (hty p hp _ hg) (Block.typ h.row)) (by decide)
      · simp at hm; subst hm
        exact absurd (Typ.inj (hty p hp _ hg) ht2) (by decide)
    · exact Own.nil _ _ _ _
  · rw [e2]
    have hw1 := h.was.only o1 (fun g hg hm => by simp [Value.ownBlock] at hg; subst hg; simp at hm; exact n1 hm.symm)
    have hlw : n = (wsTo ps f k).length := by
      obtain ⟨ao, c, e, _⟩ := h.was.shape
      cases e
      rfl
    exact own_stored hw1 hlw k (-2)
  · exact h.only.trans ((o1.mono (by simp)).trans (o2.mono (by simp)))
end

end Go.Proofs.YtaoegfdaemmogaaGreat.Rw
