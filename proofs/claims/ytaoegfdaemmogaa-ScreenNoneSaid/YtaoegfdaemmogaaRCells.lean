/-
  row: Cells, Cell.
-/
import Derived.Test.YtaoegfdaemmogaaRTold
namespace Go.Proofs.Ytaoegfdaemmogaa.Rw
open Go Go.RowKit Go.Proofs.Ytaoegfdaemmogaa.Com

def zp : Cel × Value := (zeroCel, .slice none 0 0)
theorem info48z : (Try.prog.info? 119).map (fun i => (i.zero, i.size, decide (i.bytes ≤ 100))) = some (some (.agg (apiP zp).toArray), 6, true) := by kernel_rfl
theorem make_api (n : Nat) (hn : n ≤ 512) (w : World) : (Instr.makeSlice 114 (.int .i64 (n : Int)) (.int .i64 (n : Int))).run Try.prog w = .ok (.slice (some ⟨w.heap.size, 0, none⟩) n n) (w.alloc (.cells (fl apiP (List.replicate n zp)).toArray 119)) := by
  have h := info48z
  cases hq : Try.prog.info? 119 with
  | none => simp [hq] at h
  | some i =>
    simp only [hq, Option.map_some, Option.some.injEq, Prod.mk.injEq, decide_eq_true_eq] at h
    obtain ⟨hz, hs, hb⟩ := h
    have hm : i.bytes * n ≤ 100 * 512 := Nat.mul_le_mul hb hn
    have := run_make_rowN 114 119 i _ Try.underlying114 hq hz .i64 .i64 n n (Nat.le_refl _) (by omega) (by omega) w
    rw [this, hs]
    have e : (Value.agg (apiP zp).toArray).cells = (apiP zp).toArray := rfl
    rw [e, made_fl apiP 6 apiP_length (by omega)]
/-- The cells of the place i, as a load meets them. -/
theorem RowX.load {w : World} {d g n cap : Nat} {tail : List Value} {l : List Cel} (h : RowX w d g n cap tail l) {i : Nat} (hi : i < l.length) : ∀ j v, (cellC l[i])[j]? = some v → w.cell? ((⟨g, i * 10, none⟩ : Addr).add j) = some v := by
  intro j v hj
  have hlt := (List.getElem?_eq_some_iff.1 hj).1
  rw [cellC_length] at hlt
  rw [Addr.add_lit]
  exact h.at' hi hlt hj
structure CellsSt (w wr : World) (d g n cap : Nat) (tail : List Value) (l : List Cel) (g2 k : Nat) (ps : List (Cel × Value)) : Prop where
  row : RowX wr d g n cap tail l
  got : Block wr g2 119 (fl apiP (ps ++ List.replicate (n - k) zp)).toArray
  comb : ∀ p ∈ ps, Own wr w.heap.size 21 .i32 p.2 p.1.m
  map : ps.map (·.1) = l.take k
  below : Below w.heap.size w wr
theorem CellsSt.next {w wr w5 w6 : World} {d g n cap : Nat} {tail : List Value} {l : List Cel} {g2 k : Nat} {ps : List (Cel × Value)} (h : CellsSt w wr d g n cap tail l g2 k ps) (hk : k < n) (hkl : k < l.length) (hg2 : w.heap.size ≤ g2) (v : Value) (hb : Below wr.heap.size wr w5) (ho : Own w5 wr.heap.size 21 .i32 v l[k].m)
    (h6 : Block w6 g2 119 (splice (fl apiP (ps ++ List.replicate (n - k) zp)) (k * 6) (apiC l[k] v)).toArray) (ho6 : Only [g2] w5 w6) : CellsSt w w6 d g n cap tail l g2 (k + 1) (ps ++ [(l[k], v)]) := by
  have hlp : ps.length = k := by
    have := congrArg List.length h.map
    simp at this
    omega
  have hfs := fl_splice apiP_length (ps ++ List.replicate (n - k) zp) [(l[k], v)] [] k (by simp; omega)
  rw [splice_set _ _ _ (by simp; omega), List.append_nil, List.append_nil, fl_one] at hfs
  have hset : (ps ++ List.replicate (n - k) zp).set k (l[k], v) = (ps ++ [(l[k], v)]) ++ List.replicate (n - (k + 1)) zp := by
    rw [List.set_append_right _ _ (by omega), hlp, Nat.sub_self, show n - k = (n - (k + 1)) + 1 by omega, List.replicate_succ, List.set_cons_zero, List.append_assoc]
    rfl
  rw [hset] at hfs
  have hg2w : Typ w5 g2 119 := Block.typ (h.got.only (Only.of_below hb []) (by simp))
  have hfr : Fr 0 [119] w5 w6 := Fr.of_only ho6 (fun k hk _ => ⟨Nat.zero_le _, _, List.mem_singleton.2 rfl, by simp at hk; subst hk; exact hg2w⟩)
  have hne1 : d ≠ g2 := Block.apart h.row.ptr h.got (by decide)
  have hne2 : g ≠ g2 := Block.apart h.row.row h.got (by decide)
  refine ⟨(h.row.below hb).kept ho6 (by simpa using hne1) (by simpa using hne2), ?_, ?_, ?_, ?_⟩
  · rw [← hfs]; exact h6
  · intro p hp
    rcases List.mem_append.1 hp with hp | hp
    · exact Own.fr (Own.fr (h.comb p hp) (Fr.of_below (B := 0) (ts := []) hb) (by simp)) hfr (by decide)
    · simp at hp
      subst hp
      exact Own.fr (Own.lower ho h.below.size) hfr (by decide)
  · rw [List.map_append, h.map, List.take_add_one, List.getElem?_eq_getElem hkl]
    rfl
  · exact (below_next h.below hb).trans (ho6.below (by have := h.below.size; have := hb.size; omega) (by simpa using hg2))
/-- What Cells leaves. -/
def GotCells (w : World) (n : Nat) (l : List Cel) (e : Ending) (w' : World) : Prop := ∃ g2 ps, e = .returned (.slice (some ⟨g2, 0, none⟩) n n) ∧ Api w.heap.size w' (.slice (some ⟨g2, 0, none⟩) n n) ps ∧ ps.map (·.1) = l ∧ Below w.heap.size w w' ∧ w.heap.size ≤ g2

end Go.Proofs.Ytaoegfdaemmogaa.Rw
