/-
  lines: Copy and At.
-/
import Derived.Test.YtleooelhnnfjbaaLStore
namespace Go.Proofs.Ytleooelhnnfjbaa.Lns
open Go Go.RowKit Go.Proofs.Ytleooelhnnfjbaa.Com Go.Proofs.Ytleooelhnnfjbaa.Rw
section
variable {B : Nat} {w w' : World} {s nx most o : Nat} {sv : Value} {P R : List En}

def SCopyDone (B : Nat) (w : World) (nx most : Nat) (R : List En) (e : Ending) (w' : World) : Prop :=
  ∃ s' sv', e = .returned (.pointer (some ⟨s', 0, none⟩)) ∧ SX B w' s' nx most sv' R ∧ Below w.heap.size w w' ∧ w.heap.size ≤ s' ∧ ∀ g, sv'.ownBlock = some g → w.heap.size ≤ g
set_option maxHeartbeats 1000000 in
theorem scopy_any (h : SX B w s nx most sv R) : Calls Try.prog 20 #[.pointer (some ⟨s, 0, none⟩)] w (SCopyDone B w nx most R) := by
  obtain ⟨⟨o, P, h0, rfl⟩, hg⟩ := h
  have hm := Lib.hid (made_any h0)
  have hdr : Below w.heap.size w w.drew := below_dr (Below.refl _ _) 1
  have htw := Lib.hid (twin_any (h0.only (Only.of_below hdr []) (by simp) (by simp)))
  have hcells := fun w' (hb : Below w.heap.size w w') => (h0.only (Only.of_below hb []) (by simp) (by simp)).cells
  have c0 := h0.cells.1
  have hB : B ≤ w.heap.size := Nat.le_trans h0.lo (Nat.le_of_lt h0.blk.lt)
  replace hcells := Lib.hid hcells
  replace hdr := Lib.hid hdr
  have hg' := Lib.hid (fun w' (hb : Below w.heap.size w w') (e : En) (he : e ∈ lg P o) => (hg e he).below hb)
  replace h0 := Lib.hid h0
  clear hg
  go_enter Try.func20, Try.ntmps20
  go_wp2_with ((go_at_call 27; (with_reducible refine (hm.out).mono ?_); rintro e w' ⟨rfl, rfl⟩))
  go_region_held3 (fun w' => w'.cell? ⟨s, 0, none⟩ = some (.int .i64 nx))
    (first | exact c0 | exact (hcells.out _ hb2.out).1 | exact (hcells.out _ (hb2.out.alloc hb2.out.size _)).1)
    (first
      | (go_at_call 46; (with_reducible refine htw.out.mono ?_); rintro e w1 ⟨sv', rfl, hown1, hb1⟩; have hb2 := Lib.hid (below_next hdr.out hb1); obtain ⟨av, cv, rfl, _⟩ := owns_shape hown1))
  go_wp2
  go_ret
  have hal := hb2.out.alloc hb2.out.size (.cells #[.int .i64 nx, .int .i64 most, .slice av P.length cv, .int .i64 o] 76)
  have hlt := World.ownsRow.lt hown1
  exact ⟨_, _, rfl, ⟨⟨o, P, ⟨Block.made w1 _ _, owns_lower (owns_only hown1 (Only.alloc [] w1 _) (by simp)) hB, h0.out.le, h0.out.old, h0.out.olt, h0.out.most, h0.out.pos, h0.out.small, Nat.le_trans hB hb2.out.size⟩, rfl⟩, fun e he => hg'.out _ hal e he⟩, hal, hb2.out.size, fun g hg => (hlt g hg).1⟩

theorem _root_.Go.Proofs.Ytleooelhnnfjbaa.Rw.Api.other {B : Nat} {w w' : World} {v : Value} {ps : List (Cel × Value)} (h : Api B w v ps) {k : Nat} {t : TypeId} (ho : Only [k] w w') (ht : Typ w k t) (h1 : 87 ≠ t) (h2 : 21 ≠ t) : Api B w' v ps :=
  h.fr (Fr.of_only (B := 0) (ts := [t]) ho (fun x hx _ => by
    obtain rfl : x = k := by simpa using hx
    exact ⟨Nat.zero_le _, t, by simp, ht⟩)) (by simpa using h1) (by simpa using h2)
def AtNo (w : World) (x : Int) (e : Ending) (w' : World) : Prop := e = .returned (.tuple #[.agg #[.int .i64 0, .slice none 0 0], .int .i64 x]) ∧ Below w.heap.size w w'
def AtDone (w : World) (e0 : En) (e : Ending) (w' : World) : Prop := ∃ g2 ps, e = .returned (.tuple #[.agg #[.int .i64 e0.id, .slice (some ⟨g2, 0, none⟩) e0.l.length e0.l.length], .int .i64 0]) ∧ Api w.heap.size w' (.slice (some ⟨g2, 0, none⟩) e0.l.length e0.l.length) ps ∧ ps.map (·.1) = e0.l ∧ Below w.heap.size w w' ∧ w.heap.size ≤ g2
set_option maxHeartbeats 1000000 in
theorem at_no (h : SX B w s nx most sv R) (i : Int) (hi : i < 0 ∨ (R.length : Int) ≤ i) : Calls Try.prog 24 #[.pointer (some ⟨s, 0, none⟩), .int .i64 i] w (AtNo w 6) := by
  obtain ⟨⟨o, P, h0, rfl⟩, _⟩ := h
  rw [lg_len] at hi
  have hbn := below_new w (.cells #[.int .i64 0, .slice none 0 0] 66)
  have h1 := h0.only (Only.of_below hbn []) (by simp) (by simp)
  have hm := Lib.hid (made_any h1)
  have hh := has_any h1 i
  have hbx : Block (w.alloc (.cells #[.int .i64 0, .slice none 0 0] 66)) w.heap.size 66 #[.int .i64 0, .slice none 0 0] := Block.made w _ _
  rw [show decide (0 ≤ i ∧ i < (P.length : Int)) = false from decide_eq_false (by omega)] at hh
  replace hh := Lib.hid hh
  clear h0 h1
  go_enter Try.func24, Try.ntmps24
  go_wp2_with (first
    | (go_at_call 27; (with_reducible refine (hm.out).mono ?_); rintro e w' ⟨rfl, rfl⟩)
    | (go_at_call 49; (with_reducible refine (hh.out).mono ?_); rintro e w' ⟨rfl, rfl⟩))
  exact bodyPost_ret (results_cell_tmpG rfl _ _ w.heap.size _ rfl hbx Try.underlying66 rfl infoH) rfl ⟨rfl, hbn⟩
set_option maxHeartbeats 1000000 in
theorem at_yes (h : SX B w s nx most sv R) (i : Nat) (hi : i < R.length) : Calls Try.prog 24 #[.pointer (some ⟨s, 0, none⟩), .int .i64 i] w (AtDone w R[i]) := by
  obtain ⟨⟨o, P, h0, rfl⟩, hg⟩ := h
  have hi' : i < P.length := by rwa [lg_len] at hi
  have hbn := below_new w (.cells #[.int .i64 0, .slice none 0 0] 66)
  have h1 := h0.only (Only.of_below hbn []) (by simp) (by simp)
  have hm := Lib.hid (made_any h1)
  have hh := has_any h1 i
  have hbx : Block (w.alloc (.cells #[.int .i64 0, .slice none 0 0] 66)) w.heap.size 66 #[.int .i64 0, .slice none 0 0] := Block.made w _ _
  rw [show decide (0 ≤ (i : Int) ∧ (i : Int) < (P.length : Int)) = true from decide_eq_true (by omega)] at hh
  have hl := line_any h1 i hi' _ (List.getElem?_eq_getElem hi)
  obtain ⟨hgd, q1, q2, n, cap, tail, hrow⟩ := hg _ (List.getElem_mem hi)
  clear q1 q2
  generalize (lg P o)[i] = e0 at hl hrow hgd ⊢
  have h4 := fun c hc => (hgd.cell c hc).four
  have hn := hrow.len
  replace hh := Lib.hid hh
  replace hl := Lib.hid hl
  replace hbn := Lib.hid hbn
  replace hbx := Lib.hid hbx
  replace hrow := Lib.hid hrow
  clear h0 h1 hg hi hi'
  go_enter Try.func24, Try.ntmps24
  go_wp2_with (first
    | (go_at_call 27; (with_reducible refine (hm.out).mono ?_); rintro e w' ⟨rfl, rfl⟩)
    | (go_at_call 49; (with_reducible refine (hh.out).mono ?_); rintro e w' ⟨rfl, rfl⟩)
    | (go_at_call 50; (with_reducible refine (hl.out).mono ?_); rintro e w1 ⟨rfl, hb1⟩))
  have hbw1 : Below w.heap.size w w1 := below_next hbn.out hb1
  have hal := below_next hbw1 (below_new w1 (.cells #[.int .i64 e0.id, .pointer (some ⟨e0.d, 0, none⟩)] 42))
  have hb4 := (hbx.out.only (Only.of_below hb1 []) (by simp)).alloc (.cells #[.int .i64 e0.id, .pointer (some ⟨e0.d, 0, none⟩)] 42)
  have hb6 := Block.made w1 42 #[.int .i64 e0.id, .pointer (some ⟨e0.d, 0, none⟩)]
  have hne := Block.apart hb4 hb6 (by decide)
  have hb6w : w.heap.size ≤ w1.heap.size := hbw1.size
  generalize w1.alloc (.cells #[.int .i64 e0.id, .pointer (some ⟨e0.d, 0, none⟩)] 42) = w2 at hal hb4 hb6 ⊢
  generalize w1.heap.size = b6 at hb6 hne hb6w ⊢
  obtain ⟨b4, hb4e⟩ : ∃ b4, b4 = w.heap.size := ⟨_, rfl⟩
  rw [← hb4e] at hb4 hne
  rw [← hb4e]
  have hdr : Below w2.heap.size w2 w2.drew := below_dr (Below.refl _ _) 1
  have hcs := cells_any (hrow.out.below (below_next hal hdr)) h4
  rw [← hn] at hcs
  have c0 := hb6.cell 0 rfl
  have c1 := hb6.cell 1 rfl
  have hk4 := Lib.hid (fun w' (hb : Below w2.heap.size w2 w') => hb4.only (Only.of_below hb []) (by simp))
  have hk6 := fun w' (hb : Below w2.heap.size w2 w') => hb6.only (Only.of_below hb []) (by simp)
  have hs6 := fun w' (hb : Below w2.heap.size w2 w') (x y : Value) => (hk6 w' hb).only ((Only.setCell w' ⟨b4, 0, none⟩ x).trans (Only.setCell _ ⟨b4, 1, none⟩ y)) (by simpa using Ne.symm hne)
  have hS6 := Lib.hid (fun w' (hb : Below w2.heap.size w2 w') => And.intro ((hk6 w' hb).cell 0 rfl) ((hk6 w' hb).cell 1 rfl))
  have hT6 := Lib.hid (fun w' (hb : Below w2.heap.size w2 w') (x y : Value) => And.intro ((hs6 w' hb x y).cell 0 rfl) ((hs6 w' hb x y).cell 1 rfl))
  replace hcs := Lib.hid hcs
  replace hal := Lib.hid hal
  replace hdr := Lib.hid hdr
  replace hb4e := Lib.hid hb4e
  clear hrow hb4 hb6 hk6 hs6 hb1 hbw1 hl hh hm hbn hbx h4 hn hgd
  generalize hL : e0.l.length = n1 at hcs ⊢
  go_region_held3 (fun w' => w'.cell? ⟨b6, 0, none⟩ = some (.int .i64 e0.id) ∧ w'.cell? ⟨b6, 1, none⟩ = some (.pointer (some ⟨e0.d, 0, none⟩)))
    (first | exact ⟨c0, c1⟩ | exact hS6.out _ hb3.out | exact hT6.out _ hb3.out _ _)
    (first
      | (go_at_call 14; (with_reducible refine hcs.out.mono ?_); rintro e w3 ⟨g2, ps, rfl, hA, hmap, hb3', hg2⟩; have hb3 := Lib.hid (below_next hdr.out hb3'); have hbk := hk4.out _ hb3.out; have f0 := hbk.free 0; have f1 := hbk.free 1; have k0 := hbk.cell 0 rfl; have k1 := hbk.cell 1 rfl))
  go_wp2
  have ho4 : Only [b4] w3 ((w3.setCell ⟨b4, 0, none⟩ (.int .i64 e0.id)).setCell ⟨b4, 1, none⟩ (.slice (some ⟨g2, 0, none⟩) n1 n1)) := (Only.setCell w3 ⟨b4, 0, none⟩ _).trans (Only.setCell _ ⟨b4, 1, none⟩ _)
  have hbelow := below_next hal.out hb3.out
  have hsz := hbelow.size
  have hA4 := (hA.other ho4 (Block.typ hbk) (by decide) (by decide)).lower (B' := w.heap.size) (by have := hal.out.size; simp; omega)
  exact bodyPost_ret (results_cell_tmpG rfl _ _ b4 _ rfl (block2 hbk _ _) Try.underlying66 rfl infoH) rfl ⟨g2, ps, by rw [hL]; rfl, by rw [hL]; exact hA4, hmap, hbelow.trans (ho4.below hsz (by have := hb4e.out; simp; omega)), by have := hal.out.size; simp at hg2; omega⟩
end
end Go.Proofs.Ytleooelhnnfjbaa.Lns
