/-
  lines: the store's calls that ask. lines: Copy and At. lines: Fresh. lines: Push.
-/
import Derived.Test.YtaoegfdaemmogaaGreatLPut2
import Derived.Test.YtaoegfdaemmogaaGreatRRef
namespace Go.Proofs.YtaoegfdaemmogaaGreat.Lns
open Go Go.RowKit Go.Proofs.YtaoegfdaemmogaaGreat.Com Go.Proofs.YtaoegfdaemmogaaGreat.Rw
section
variable {B : Nat} {w w' : World} {s nx most o : Nat} {sv : Value} {P R : List En}

theorem new_no (most : Int) (h : most < 0 ∨ 10000 < most) (w : World) : Calls Tryz.prog 22 #[.int .i64 most] w fun e w' => e = .returned (.tuple #[.pointer none, .int .i64 2]) ∧ w = w' := by
  by_cases h0 : most < 0
  · go_enter Tryz.func22, Tryz.ntmps22
    go_wp2
    go_ret2
    exact ⟨rfl, rfl⟩
  · have h1 : 10000 < most := by omega
    go_enter Tryz.func22, Tryz.ntmps22
    go_wp2
    go_ret2
    exact ⟨rfl, rfl⟩
theorem new_yes (most : Nat) (h : most ≤ 10000) (w : World) : Calls Tryz.prog 22 #[.int .i64 most] w fun e w' => e = .returned (.tuple #[.pointer (some ⟨w.heap.size, 0, none⟩), .int .i64 0]) ∧ SX w.heap.size w' w.heap.size 1 most (.slice none 0 0) [] ∧ Below w.heap.size w w' := by
  have h0 : ¬ (most : Int) < 0 := by omega
  have h1 : ¬ 10000 < (most : Int) := by omega
  have h0' := decide_eq_false h0
  have h1' := decide_eq_false h1
  go_enter Tryz.func22, Tryz.ntmps22
  go_wp2
  go_ret2
  exact ⟨rfl, ⟨⟨0, [], ⟨Block.made w _ _, World.ownsRow_nil _ _ _ _, by simp, fun _ => rfl, .inr rfl, h, by decide, by decide, Nat.le_refl _⟩, by simp [lg]⟩, by simp⟩, below_new _ _⟩
theorem next_any (h : SX B w s nx most sv R) : Calls Tryz.prog 43 #[.pointer (some ⟨s, 0, none⟩)] w fun e w' => e = .returned (.int .i64 nx) ∧ w = w' := by
  obtain ⟨⟨o, P, h0, rfl⟩, _⟩ := h
  have hm := Lib.hid (made_any h0)
  obtain ⟨h1, _, _, _⟩ := h0.cells
  clear h0
  go_enter Tryz.func43, Tryz.ntmps43
  go_wp2_with ((go_at_call 48; (with_reducible refine (hm.out).mono ?_); rintro e w' ⟨rfl, rfl⟩))
  go_ret
  exact ⟨rfl, rfl⟩
theorem slen_any (h : SX B w s nx most sv R) : Calls Tryz.prog 16 #[.pointer (some ⟨s, 0, none⟩)] w fun e w' => e = .returned (.int .i64 R.length) ∧ w = w' := by
  obtain ⟨⟨o, P, h0, rfl⟩, _⟩ := h
  have hm := Lib.hid (made_any h0)
  have hc := Lib.hid (count_any h0)
  rw [lg_len]
  clear h0
  go_enter Tryz.func16, Tryz.ntmps16
  go_wp2_with (first
    | (go_at_call 48; (with_reducible refine (hm.out).mono ?_); rintro e w' ⟨rfl, rfl⟩)
    | (go_at_call 49; (with_reducible refine (hc.out).mono ?_); rintro e w' ⟨rfl, rfl⟩))
  go_ret
  exact ⟨rfl, rfl⟩
theorem find_any (h : SX B w s nx most sv R) (id : Int) : Calls Tryz.prog 17 #[.pointer (some ⟨s, 0, none⟩), .int .i64 id] w fun e w' => e = .returned (.int .i64 (findF (R.map En.id) id)) ∧ Below w.heap.size w w' := by
  obtain ⟨⟨o, P, h0, rfl⟩, _⟩ := h
  have hm := Lib.hid (made_any h0)
  have hc := newest_any h0 id
  generalize findF ((lg P o).map En.id) id = F at hc ⊢
  replace hc := Lib.hid hc
  clear h0
  go_enter Tryz.func17, Tryz.ntmps17
  go_wp2_with (first
    | (go_at_call 48; (with_reducible refine (hm.out).mono ?_); rintro e w' ⟨rfl, rfl⟩)
    | (go_at_call 50; (with_reducible refine (hc.out).mono ?_); rintro e w1 ⟨rfl, hb1⟩))
  go_ret
  exact ⟨rfl, hb1⟩
end
end Go.Proofs.YtaoegfdaemmogaaGreat.Lns
namespace Go.Proofs.YtaoegfdaemmogaaGreat.Lns
open Go Go.RowKit Go.Proofs.YtaoegfdaemmogaaGreat.Com Go.Proofs.YtaoegfdaemmogaaGreat.Rw
section
variable {B : Nat} {w w' : World} {s nx most o : Nat} {sv : Value} {P R : List En}

def SCopyDone (B : Nat) (w : World) (nx most : Nat) (R : List En) (e : Ending) (w' : World) : Prop :=
  ∃ s' sv', e = .returned (.pointer (some ⟨s', 0, none⟩)) ∧ SX B w' s' nx most sv' R ∧ Below w.heap.size w w' ∧ w.heap.size ≤ s' ∧ ∀ g, sv'.ownBlock = some g → w.heap.size ≤ g
theorem _root_.Go.Proofs.YtaoegfdaemmogaaGreat.Rw.Api.other {B : Nat} {w w' : World} {v : Value} {ps : List (Cel × Value)} (h : Api B w v ps) {k : Nat} {t : TypeId} (ho : Only [k] w w') (ht : Typ w k t) (h1 : 117 ≠ t) (h2 : 21 ≠ t) : Api B w' v ps :=
  h.fr (Fr.of_only (B := 0) (ts := [t]) ho (fun x hx _ => by
    obtain rfl : x = k := by simpa using hx
    exact ⟨Nat.zero_le _, t, by simp, ht⟩)) (by simpa using h1) (by simpa using h2)
def AtNo (w : World) (x : Int) (e : Ending) (w' : World) : Prop := e = .returned (.tuple #[.agg #[.int .i64 0, .slice none 0 0], .int .i64 x]) ∧ Below w.heap.size w w'
def AtDone (w : World) (e0 : En) (e : Ending) (w' : World) : Prop := ∃ g2 ps, e = .returned (.tuple #[.agg #[.int .i64 e0.id, .slice (some ⟨g2, 0, none⟩) e0.l.length e0.l.length], .int .i64 0]) ∧ Api w.heap.size w' (.slice (some ⟨g2, 0, none⟩) e0.l.length e0.l.length) ps ∧ ps.map (·.1) = e0.l ∧ Below w.heap.size w w' ∧ w.heap.size ≤ g2
set_option maxHeartbeats 1000000 in
theorem at_no (h : SX B w s nx most sv R) (i : Int) (hi : i < 0 ∨ (R.length : Int) ≤ i) : Calls Tryz.prog 44 #[.pointer (some ⟨s, 0, none⟩), .int .i64 i] w (AtNo w 6) := by
  obtain ⟨⟨o, P, h0, rfl⟩, _⟩ := h
  rw [lg_len] at hi
  have hbn := below_new w (.cells #[.int .i64 0, .slice none 0 0] 80)
  have h1 := h0.only (Only.of_below hbn []) (by simp) (by simp)
  have hm := Lib.hid (made_any h1)
  have hh := has_any h1 i
  have hbx : Block (w.alloc (.cells #[.int .i64 0, .slice none 0 0] 80)) w.heap.size 80 #[.int .i64 0, .slice none 0 0] := Block.made w _ _
  rw [show decide (0 ≤ i ∧ i < (P.length : Int)) = false from decide_eq_false (by omega)] at hh
  replace hh := Lib.hid hh
  clear h0 h1
  go_enter Tryz.func44, Tryz.ntmps44
  go_wp2_with (first
    | (go_at_call 48; (with_reducible refine (hm.out).mono ?_); rintro e w' ⟨rfl, rfl⟩)
    | (go_at_call 74; (with_reducible refine (hh.out).mono ?_); rintro e w' ⟨rfl, rfl⟩))
  exact bodyPost_ret (results_cell_tmpG rfl _ _ w.heap.size _ rfl hbx Tryz.underlying80 rfl infoH) rfl ⟨rfl, hbn⟩
set_option maxHeartbeats 1000000 in
theorem at_yes (h : SX B w s nx most sv R) (i : Nat) (hi : i < R.length) : Calls Tryz.prog 44 #[.pointer (some ⟨s, 0, none⟩), .int .i64 i] w (AtDone w R[i]) := by
  obtain ⟨⟨o, P, h0, rfl⟩, hg⟩ := h
  have hi' : i < P.length := by rwa [lg_len] at hi
  have hbn := below_new w (.cells #[.int .i64 0, .slice none 0 0] 80)
  have h1 := h0.only (Only.of_below hbn []) (by simp) (by simp)
  have hm := Lib.hid (made_any h1)
  have hh := has_any h1 i
  have hbx : Block (w.alloc (.cells #[.int .i64 0, .slice none 0 0] 80)) w.heap.size 80 #[.int .i64 0, .slice none 0 0] := Block.made w _ _
  rw [show decide (0 ≤ (i : Int) ∧ (i : Int) < (P.length : Int)) = true from decide_eq_true (by omega)] at hh
  have hl := line_any h1 i hi' _ (List.getElem?_eq_getElem hi)
  obtain ⟨hgd, q1, q2, n, cap, tail, hrow⟩ := hg _ (List.getElem_mem hi)
  clear q1 q2
  generalize (lg P o)[i] = e0 at hl hrow hgd ⊢
  have h4 := fun c hc => (hgd.cell c hc).four
  have hn := hrow.len
  replace hh := Lib.hid hh
  replace hl := Lib.hid hl
  replace hbn := Lib.hid hbn
  replace hbx := Lib.hid hbx
  replace hrow := Lib.hid hrow
  clear h0 h1 hg hi hi'
  go_enter Tryz.func44, Tryz.ntmps44
  go_wp2_with (first
    | (go_at_call 48; (with_reducible refine (hm.out).mono ?_); rintro e w' ⟨rfl, rfl⟩)
    | (go_at_call 74; (with_reducible refine (hh.out).mono ?_); rintro e w' ⟨rfl, rfl⟩)
    | (go_at_call 75; (with_reducible refine (hl.out).mono ?_); rintro e w1 ⟨rfl, hb1⟩))
  have hbw1 : Below w.heap.size w w1 := below_next hbn.out hb1
  have hal := below_next hbw1 (below_new w1 (.cells #[.int .i64 e0.id, .pointer (some ⟨e0.d, 0, none⟩)] 109))
  have hb4 := (hbx.out.only (Only.of_below hb1 []) (by simp)).alloc (.cells #[.int .i64 e0.id, .pointer (some ⟨e0.d, 0, none⟩)] 109)
  have hb6 := Block.made w1 109 #[.int .i64 e0.id, .pointer (some ⟨e0.d, 0, none⟩)]
  have hne := Block.apart hb4 hb6 (by decide)
  have hb6w : w.heap.size ≤ w1.heap.size := hbw1.size
  generalize w1.alloc (.cells #[.int .i64 e0.id, .pointer (some ⟨e0.d, 0, none⟩)] 109) = w2 at hal hb4 hb6 ⊢
  generalize w1.heap.size = b6 at hb6 hne hb6w ⊢
  obtain ⟨b4, hb4e⟩ : ∃ b4, b4 = w.heap.size := ⟨_, rfl⟩
  rw [← hb4e] at hb4 hne
  rw [← hb4e]
  have hdr : Below w2.heap.size w2 w2.drew := below_dr (Below.refl _ _) 1
  have hcs := cells_any (hrow.out.below (below_next hal hdr)) h4
  rw [← hn] at hcs
  have c0 := hb6.cell 0 rfl
  have c1 := hb6.cell 1 rfl
  have hk4 := Lib.hid (fun w' (hb : Below w2.heap.size w2 w') => hb4.only (Only.of_below hb []) (by simp))
  have hk6 := fun w' (hb : Below w2.heap.size w2 w') => hb6.only (Only.of_below hb []) (by simp)
  have hs6 := fun w' (hb : Below w2.heap.size w2 w') (x y : Value) => (hk6 w' hb).only ((Only.setCell w' ⟨b4, 0, none⟩ x).trans (Only.setCell _ ⟨b4, 1, none⟩ y)) (by simpa using Ne.symm hne)
  have hS6 := Lib.hid (fun w' (hb : Below w2.heap.size w2 w') => And.intro ((hk6 w' hb).cell 0 rfl) ((hk6 w' hb).cell 1 rfl))
  have hT6 := Lib.hid (fun w' (hb : Below w2.heap.size w2 w') (x y : Value) => And.intro ((hs6 w' hb x y).cell 0 rfl) ((hs6 w' hb x y).cell 1 rfl))
  replace hcs := Lib.hid hcs
  replace hal := Lib.hid hal
  replace hdr := Lib.hid hdr
  replace hb4e := Lib.hid hb4e
  clear hrow hb4 hb6 hk6 hs6 hb1 hbw1 hl hh hm hbn hbx h4 hn hgd
  generalize hL : e0.l.length = n1 at hcs ⊢
  go_region_held3 (fun w' => w'.cell? ⟨b6, 0, none⟩ = some (.int .i64 e0.id) ∧ w'.cell? ⟨b6, 1, none⟩ = some (.pointer (some ⟨e0.d, 0, none⟩)))
    (first | exact ⟨c0, c1⟩ | exact hS6.out _ hb3.out | exact hT6.out _ hb3.out _ _)
    (first
      | (go_at_call 42; (with_reducible refine hcs.out.mono ?_); rintro e w3 ⟨g2, ps, rfl, hA, hmap, hb3', hg2⟩; have hb3 := Lib.hid (below_next hdr.out hb3'); have hbk := hk4.out _ hb3.out; have f0 := hbk.free 0; have f1 := hbk.free 1; have k0 := hbk.cell 0 rfl; have k1 := hbk.cell 1 rfl))
  go_wp2
  have ho4 : Only [b4] w3 ((w3.setCell ⟨b4, 0, none⟩ (.int .i64 e0.id)).setCell ⟨b4, 1, none⟩ (.slice (some ⟨g2, 0, none⟩) n1 n1)) := (Only.setCell w3 ⟨b4, 0, none⟩ _).trans (Only.setCell _ ⟨b4, 1, none⟩ _)
  have hbelow := below_next hal.out hb3.out
  have hsz := hbelow.size
  have hA4 := (hA.other ho4 (Block.typ hbk) (by decide) (by decide)).lower (B' := w.heap.size) (by have := hal.out.size; simp; omega)
  exact bodyPost_ret (results_cell_tmpG rfl _ _ b4 _ rfl (block2 hbk _ _) Tryz.underlying80 rfl infoH) rfl ⟨g2, ps, by rw [hL]; rfl, by rw [hL]; exact hA4, hmap, hbelow.trans (ho4.below hsz (by have := hb4e.out; simp; omega)), by have := hal.out.size; simp at hg2; omega⟩
end
end Go.Proofs.YtaoegfdaemmogaaGreat.Lns
namespace Go.Proofs.YtaoegfdaemmogaaGreat.Lns
open Go Go.RowKit Go.Proofs.YtaoegfdaemmogaaGreat.Com Go.Proofs.YtaoegfdaemmogaaGreat.Rw
section
variable {B : Nat} {w w' : World} {s nx most o : Nat} {sv : Value} {P R : List En}

def FreshNo (w : World) (x : Int) (e : Ending) (w' : World) : Prop := e = .returned (.tuple #[.agg #[.int .i64 0, .pointer none], .int .i64 x]) ∧ Below w.heap.size w w'
set_option maxHeartbeats 1000000 in
theorem fresh_no (h : SX B w s nx most sv R) (cols : Int) (hc : cols < 1 ∨ 512 < cols) (a : At) : Calls Tryz.prog 81 #[.pointer (some ⟨s, 0, none⟩), .int .i64 cols, .agg #[.int .u32 a.f, .int .u32 a.b, .int .u16 a.g]] w (FreshNo w 2) := by
  obtain ⟨⟨o, P, h0, rfl⟩, _⟩ := h
  obtain ⟨af, ab, ag⟩ := a
  have hbn : Below w.heap.size w ((w.alloc (.cells #[.int .u32 af, .int .u32 ab, .int .u16 ag] 37)).alloc (.cells #[.int .i64 0, .pointer none] 109)) := below_next (below_new _ _) (below_new _ _)
  have hm := Lib.hid (made_any (h0.only (Only.of_below hbn []) (by simp) (by simp)))
  have hN := Lib.hid (fun w => Rw.new_no cols hc w)
  have hbx := Block.made (w.alloc (.cells #[.int .u32 af, .int .u32 ab, .int .u16 ag] 37)) 109 #[.int .i64 0, .pointer none]
  simp only [World.size_alloc] at hbx
  clear h0 hc
  go_enter Tryz.func81, Tryz.ntmps81
  go_wp2_with (first
    | (go_at_call 48; (with_reducible refine (hm.out).mono ?_); rintro e w' ⟨rfl, rfl⟩)
    | (go_at_call 90; (with_reducible refine (hN.out _).mono ?_); rintro e w1 ⟨rfl, rfl⟩))
  exact bodyPost_ret (results_cell_tmpG rfl _ _ (w.heap.size + 1) _ rfl hbx Tryz.underlying109 rfl infoL) rfl ⟨rfl, hbn⟩
/-- The cells of a fresh line. -/
def freshL (n : Nat) (a : At) : List Cel := eraL (List.replicate n (clr zeroAt)) 0 n a
theorem freshL_good (n : Nat) (a : At) : Rw.Good (freshL n a) := (good_new n).era _ _ _
theorem freshL_len (n : Nat) (a : At) : (freshL n a).length = n := by unfold freshL; rw [eraL_len, List.length_replicate]
def FreshDone (B : Nat) (w : World) (s nx most : Nat) (sv : Value) (R : List En) (l : List Cel) (e : Ending) (w' : World) : Prop :=
  ∃ d g, e = .returned (.tuple #[.agg #[.int .i64 nx, .pointer (some ⟨d, 0, none⟩)], .int .i64 0]) ∧ SX B w' s (nx + 1) most sv R ∧ RowG w.heap.size w' ⟨nx, d, g, 0, l⟩ ∧ Only [s] w w'
theorem SX.lt (h : SX B w s nx most sv R) : s < w.heap.size := by
  obtain ⟨⟨o, P, h0, _⟩, _⟩ := h
  exact h0.blk.lt
theorem made_any' (h : SX B w s nx most sv R) : Calls Tryz.prog 48 #[.pointer (some ⟨s, 0, none⟩)] w fun e w' => e = .returned (.bool true) ∧ w = w' := by
  obtain ⟨⟨o, P, h0, hR⟩, hg⟩ := h
  exact made_any h0
/-- The next id is told. -/
theorem take_sx (h : SX B w s nx most sv R) (hx : nx < 1000000) : Calls Tryz.prog 92 #[.pointer (some ⟨s, 0, none⟩)] w fun e w' => e = .returned (.int .i64 nx) ∧ SX B w' s (nx + 1) most sv R ∧ Only [s] w w' := by
  have ht := h.typ
  obtain ⟨⟨o, P, h0, hR⟩, hg⟩ := h
  refine (take_any h0 hx).mono ?_
  rintro e w' ⟨he, h1, ho⟩
  exact ⟨he, ⟨⟨o, P, h1, hR⟩, fun e he => (hg e he).only ho (not_in1 (hg e he).typ.1 ht (by decide)) (not_in1 (hg e he).typ.2 ht (by decide))⟩, ho⟩
set_option maxHeartbeats 2000000 in
theorem fresh_yes (h : SX B w s nx most sv R) (hx : nx < 1000000) (n : Nat) (hn : 1 ≤ n) (hn5 : n ≤ 512) (a : At) : Calls Tryz.prog 81 #[.pointer (some ⟨s, 0, none⟩), .int .i64 n, .agg #[.int .u32 a.f, .int .u32 a.b, .int .u16 a.g]] w (FreshDone B w s nx most sv R (freshL n a)) := by
  have hgd := freshL_good n a
  have hE : ∀ {w d g} (hr : RowX w d g n n [] (List.replicate n (clr zeroAt))), Calls Tryz.prog 91 #[.pointer (some ⟨d, 0, none⟩), .int .i64 0, .int .i64 n, .agg #[.int .u32 a.f, .int .u32 a.b, .int .u16 a.g]] w (OpDone w d g n n [] (freshL n a) (.int .i64 0)) := fun hr => by
    have := erase_any hr (good_new n).whole 0 n a
    unfold freshL eraL
    rw [List.length_replicate]
    exact this
  generalize freshL n a = fl0 at hgd hE ⊢
  obtain ⟨af, ab, ag⟩ := a
  have hb1 := below_new w (.cells #[.int .u32 af, .int .u32 ab, .int .u16 ag] 37)
  have hbn : Below w.heap.size w ((w.alloc (.cells #[.int .u32 af, .int .u32 ab, .int .u16 ag] 37)).alloc (.cells #[.int .i64 0, .pointer none] 109)) := below_next hb1 (below_new _ _)
  have hm := made_any' (h.below hbn)
  have hba := (Block.made w 37 #[.int .u32 af, .int .u32 ab, .int .u16 ag]).alloc (.cells #[.int .i64 0, .pointer none] 109)
  have hbl := Block.made (w.alloc (.cells #[.int .u32 af, .int .u32 ab, .int .u16 ag] 37)) 109 #[.int .i64 0, .pointer none]
  simp only [World.size_alloc] at hbl
  have hN := Lib.hid (fun w => Rw.new_yes n hn hn5 w)
  have hws : Hid (∀ w', Below w.heap.size w w' → SX B w' s nx most sv R) := Lib.hid (fun w' hb => h.below hb)
  have hlt := h.lt
  have hplt := fun g hg => (h.ptyp g hg).2.1
  replace hm := Lib.hid hm
  replace hba := Lib.hid hba
  replace hbl := Lib.hid hbl
  replace hbn := Lib.hid hbn
  clear h hb1
  simp only at hE
  go_enter Tryz.func81, Tryz.ntmps81
  go_wp2_with (first
    | (go_at_call 48; (with_reducible refine (hm.out).mono ?_); rintro e w' ⟨rfl, rfl⟩)
    | (go_at_call 90; (with_reducible refine (hN.out _).mono ?_); rintro e w1 ⟨d, g, rfl, hr1, hbe1, hd1, hg1⟩; have hba1 := hba.out.only (Only.of_below hbe1 []) (by simp); have hbl1 := hbl.out.only (Only.of_below hbe1 []) (by simp); have a0 := hba1.cell 0 rfl; have a1 := hba1.cell 1 rfl; have a2 := hba1.cell 2 rfl; have hbw1 := below_next hbn.out hbe1)
    | (go_at_call 91; (with_reducible refine (hE hr1).mono ?_); rintro e w2 ⟨rfl, hr2, ho2⟩; have hbl2 := hbl1.only ho2 (not_in1 (Block.typ hbl1) (Block.typ hr1.row) (by decide)); have hbw2 := below_on hbw1 ho2 (by simp at hg1; omega); have ht := hws.out _ hbw2)
    | (go_at_call 92; (with_reducible refine (take_sx ht hx).mono ?_); rintro e w3 ⟨rfl, hS3, ho3⟩; have hbl3 := hbl2.only ho3 (not_in1 (Block.typ hbl2) ht.typ (by decide)); have l0 := hbl3.cell 0 rfl; have l1 := hbl3.cell 1 rfl; have f0 := hbl3.free 0; have f1 := hbl3.free 1))
  have ho4 : Only [w.heap.size + 1] w3 ((w3.setCell ⟨w.heap.size + 1, 0, none⟩ (.int .i64 nx)).setCell ⟨w.heap.size + 1, 1, none⟩ (.pointer (some ⟨d, 0, none⟩))) := (Only.setCell w3 ⟨w.heap.size + 1, 0, none⟩ _).trans (Only.setCell _ ⟨w.heap.size + 1, 1, none⟩ _)
  have hS4 : SX B _ s (nx + 1) most sv R := hS3.only ho4 (not_in1 hS3.typ (Block.typ hbl3) (by decide)) (fun x hx hm => by
    have h1 := hplt x hx
    simp at hm
    omega) (fun e he => ⟨not_in1 (hS3.2 e he).typ.1 (Block.typ hbl3) (by decide), not_in1 (hS3.2 e he).typ.2 (Block.typ hbl3) (by decide)⟩)
  have hds : d ∉ [s] := by simp at hd1; simp; omega
  have hgs : g ∉ [s] := by simp at hg1; simp; omega
  have hr4 := (hr2.kept ho3 hds hgs).kept ho4 (by simp at hd1; simp; omega) (by simp at hg1; simp; omega)
  refine bodyPost_ret (results_cell_tmpG rfl _ _ (w.heap.size + 1) _ rfl (block2 hbl3 _ _) Tryz.underlying109 rfl infoL) rfl ⟨d, g, rfl, hS4, ⟨hgd, by simp at hd1; simp; omega, by simp at hg1; simp; omega, n, n, [], hr4⟩, ?_⟩
  exact ((Only.of_below hbw2 [s]).trans ho3).then ho4 (fun k hk => .inr (by simp at hk; omega))
end
end Go.Proofs.YtaoegfdaemmogaaGreat.Lns
namespace Go.Proofs.YtaoegfdaemmogaaGreat.Lns
open Go Go.RowKit Go.Proofs.YtaoegfdaemmogaaGreat.Com Go.Proofs.YtaoegfdaemmogaaGreat.Rw
section
variable {B : Nat} {w w' : World} {s nx most o : Nat} {sv : Value} {P R : List En}

theorem taken_sx (h : SX B w s nx most sv R) (id : Int) : Calls Tryz.prog 100 #[.pointer (some ⟨s, 0, none⟩), .int .i64 id] w fun e w' => e = .returned (.bool (decide (1 ≤ id ∧ id < nx))) ∧ w = w' := by
  obtain ⟨⟨o, P, h0, hR⟩, hg⟩ := h
  exact taken_any h0 id
def PushNo (w : World) (e : Ending) (w' : World) : Prop := e = .returned (.int .i64 2) ∧ Below w.heap.size w w'
set_option maxHeartbeats 1000000 in
theorem push_nil (h : SX B w s nx most sv R) (id : Int) : Calls Tryz.prog 89 #[.pointer (some ⟨s, 0, none⟩), .agg #[.int .i64 id, .pointer none]] w (PushNo w) := by
  have hbn := below_new w (.cells #[.int .i64 id, .pointer none] 109)
  have hm := made_any' (h.below hbn)
  have hl := Lib.hid (fun w => len_nil w)
  replace hm := Lib.hid hm
  replace hbn := Lib.hid hbn
  clear h
  go_enter Tryz.func89, Tryz.ntmps89
  go_wp2_with ((go_at_call 48; (with_reducible refine (hm.out).mono ?_); rintro e w' ⟨rfl, rfl⟩))
  go_quiet ((go_at_call 66; with_reducible exact quiet_left (hl.out _)))
  go_wp2
  go_ret
  exact ⟨rfl, below_dr hbn.out _⟩
set_option maxHeartbeats 1000000 in
theorem push_no (h : SX B w s nx most sv R) (id : Int) (hid : id < 1 ∨ (nx : Int) ≤ id) {d g n cap : Nat} {tail : List Value} {l : List Cel} (hr : RowX w d g n cap tail l) : Calls Tryz.prog 89 #[.pointer (some ⟨s, 0, none⟩), .agg #[.int .i64 id, .pointer (some ⟨d, 0, none⟩)]] w (PushNo w) := by
  have hbn := below_new w (.cells #[.int .i64 id, .pointer (some ⟨d, 0, none⟩)] 109)
  have hm := made_any' (h.below hbn)
  have hl := fun q => len_any (hr.below (below_dr hbn q))
  have ht := fun q => taken_sx (h.below (below_dr hbn q)) id
  have hpos := hr.pos
  have hn0 : ((n : Int) == 0) = false := beq_eq_false_iff_ne.2 (by omega)
  rw [show decide (1 ≤ id ∧ id < (nx : Int)) = false from decide_eq_false (by omega)] at ht
  replace hm := Lib.hid hm
  replace hl := Lib.hid hl
  replace ht := Lib.hid ht
  replace hbn := Lib.hid hbn
  clear h hr hid
  go_enter Tryz.func89, Tryz.ntmps89
  go_wp2_with ((go_at_call 48; (with_reducible refine (hm.out).mono ?_); rintro e w' ⟨rfl, rfl⟩))
  go_quiet ((first | (go_at_call 66; with_reducible exact quiet_left (hl.out _)) | (go_at_call 100; with_reducible exact quiet_left (ht.out _))))
  go_wp2
  go_ret
  exact ⟨rfl, below_dr hbn.out _⟩
def PushDone (B : Nat) (w : World) (s nx most : Nat) (sv : Value) (R : List En) (id : Int) (dr : Nat) (l : List Cel) (e : Ending) (w' : World) : Prop :=
  ∃ sv' d g, e = .returned (.int .i64 0) ∧ SX B w' s nx most sv' (pushL most R ⟨id, d, g, dr, l⟩) ∧ w.heap.size ≤ d ∧ w.heap.size ≤ g ∧ Only (s :: sv.ownBlock.toList) w w' ∧ (sv'.ownBlock = sv.ownBlock ∨ ∃ g, sv'.ownBlock = some g ∧ w.heap.size ≤ g)
/-- What a put leaves of the rows. -/
theorem put_sx {w1 : World} {id : Int} {d g dr n cap : Nat} {tail : List Value} {l : List Cel} (h : SX B w s nx most sv R) (hb : Below w.heap.size w w1) (hr : RowX w1 d g n cap tail l) (hgd : Rw.Good l) (hd : w.heap.size ≤ d) (hg : w.heap.size ≤ g)
    (hp : PutDone B w1 s nx most sv (pushL most R ⟨id, d, g, dr, l⟩) w') : PushDone B w s nx most sv R id dr l (.returned (.int .i64 0)) w' := by
  obtain ⟨sv', o', P', h1, h2, h3, h4⟩ := hp
  have hw1 := h.below hb
  have hB : B ≤ w.heap.size := by
    obtain ⟨⟨o, P, h0, _⟩, _⟩ := h
    exact Nat.le_trans h0.lo (Nat.le_of_lt h0.blk.lt)
  have hnot : ∀ {k : Nat} {t : TypeId}, Typ w1 k t → 94 ≠ t → 109 ≠ t → k ∉ s :: sv.ownBlock.toList := fun {k t} ht n1 n2 hm => by
    rcases List.mem_cons.1 hm with rfl | hm
    · exact n1 (Typ.inj hw1.typ ht)
    · exact n2 (Typ.inj (hw1.ptyp k (by simpa using hm)).2.2 ht)
  refine ⟨sv', d, g, rfl, ⟨⟨o', P', h1, h2⟩, fun e he => ?_⟩, hd, hg, (Only.of_below hb _).trans h3, h4.imp (fun x => x) fun ⟨g, e, hg⟩ => ⟨g, e, Nat.le_trans hb.size hg⟩⟩
  rcases pushL_mem he with he | rfl
  · exact (hw1.2 e he).only h3 (hnot (hw1.2 e he).typ.1 (by decide) (by decide)) (hnot (hw1.2 e he).typ.2 (by decide) (by decide))
  · exact ⟨hgd, Nat.le_trans hB hd, Nat.le_trans hB hg, n, cap, tail, hr.kept h3 (hnot (Block.typ hr.ptr) (by decide) (by decide)) (hnot (Block.typ hr.row) (by decide) (by decide))⟩
set_option maxHeartbeats 2000000 in
theorem push_yes (h : SX B w s nx most sv R) (id : Int) (hid : 1 ≤ id ∧ id < nx) (dr : Nat) {d g n cap : Nat} {tail : List Value} {l : List Cel} (hr : RowX w d g n cap tail l) (hgd : Rw.Good l) : Calls Tryz.prog 89 #[.pointer (some ⟨s, 0, none⟩), .agg #[.int .i64 id, .pointer (some ⟨d, 0, none⟩)]] w (PushDone B w s nx most sv R id dr l) := by
  have hbn := below_new w (.cells #[.int .i64 id, .pointer (some ⟨d, 0, none⟩)] 109)
  have hbx := fun q => (Block.made w 109 #[.int .i64 id, .pointer (some ⟨d, 0, none⟩)]).only (Only.drewN [] _ q) (by simp)
  have hm := made_any' (h.below hbn)
  have hl := fun q => len_any (hr.below (below_dr hbn q))
  have ht := fun q => taken_sx (h.below (below_dr hbn q)) id
  have hpos := hr.pos
  have hn0 : ((n : Int) == 0) = false := beq_eq_false_iff_ne.2 (by omega)
  rw [show decide (1 ≤ id ∧ id < (nx : Int)) = true from decide_eq_true hid] at ht
  replace hm := Lib.hid hm
  replace hl := Lib.hid hl
  replace ht := Lib.hid ht
  replace hbn := Lib.hid hbn
  replace hbx := Lib.hid hbx
  have h' := Lib.hid h
  have hr' := Lib.hid hr
  have hlt := h.lt
  clear h hr hid
  go_enter Tryz.func89, Tryz.ntmps89
  go_wp2_with ((go_at_call 48; (with_reducible refine (hm.out).mono ?_); rintro e w' ⟨rfl, rfl⟩))
  go_quiet ((first | (go_at_call 66; with_reducible exact quiet_left (hl.out _)) | (go_at_call 100; with_reducible exact quiet_left (ht.out _))))
  go_wp2
  have hb0 := hbx.out nq
  have hl0 := below_dr hbn.out nq
  have hbl := hb0.lt
  generalize (w.alloc (.cells #[.int .i64 id, .pointer (some ⟨d, 0, none⟩)] 109)).drewN nq = w0 at hb0 hl0 hbl ⊢
  obtain ⟨bx, hbxe⟩ : ∃ bx, bx = w.heap.size := ⟨_, rfl⟩
  rw [← hbxe] at hb0 hbl
  rw [← hbxe]
  have hsx0 := h'.out.below hl0
  have hdr : Below w0.heap.size w0 w0.drew := below_dr (Below.refl _ _) 1
  have hcp := copy_any ((hr'.out.below hl0).below hdr)
  have hk := fun w' (hb : Below w0.heap.size w0 w') => hb0.only (Only.of_below hb []) (by simp)
  have hS := fun w' (hb : Below w0.heap.size w0 w') => And.intro ((hk w' hb).cell 0 rfl) ((hk w' hb).cell 1 rfl)
  have c0 := hS w0 (Below.refl _ _)
  have hput : ∀ W, Below w0.heap.size w0 W → ∀ d1 g1, Calls Tryz.prog 101 #[.pointer (some ⟨s, 1, none⟩), .agg #[.int .i64 id, .pointer (some ⟨d1, 0, none⟩)]] W fun e w' => ((∃ v, e = .returned v) ∧ PutDone B W s nx most sv (pushL most R ⟨id, d1, g1, dr, l⟩) w') ∧ w'.cell? ⟨bx, 0, none⟩ = some (.int .i64 id) ∧ w'.cell? ⟨bx, 1, none⟩ = some (.pointer (some ⟨d, 0, none⟩)) := by
    intro W hb d1 g1
    have hs := hsx0.below hb
    have hO : bx ∉ s :: sv.ownBlock.toList := fun hm => by
      rcases List.mem_cons.1 hm with e | hm
      · omega
      · have := (h'.out.ptyp bx (by simpa using hm)).2.1
        omega
    obtain ⟨⟨o, P, h0, hR⟩, hg⟩ := hs
    have := put_any h0 ⟨id, d1, g1, dr, l⟩
    rw [hR] at this
    refine this.mono fun e w' hh => ?_
    obtain ⟨hv, sv', o', P', q1, q2, q3, q4⟩ := hh
    have hbk := (hk W hb).only q3 hO
    exact ⟨⟨hv, sv', o', P', q1, q2, q3, q4⟩, hbk.cell 0 rfl, hbk.cell 1 rfl⟩
  replace hput := Lib.hid hput
  replace hdr := Lib.hid hdr
  replace hcp := Lib.hid hcp
  replace hS := Lib.hid hS
  replace hl0 := Lib.hid hl0
  replace hsx0 := Lib.hid hsx0
  replace hbxe := Lib.hid hbxe
  replace hgd := Lib.hid hgd
  clear hm hl ht hbn hbx hk hb0
  obtain ⟨c0, c1⟩ := c0
  go_region_held3 (fun w' => w'.cell? ⟨bx, 0, none⟩ = some (.int .i64 id) ∧ w'.cell? ⟨bx, 1, none⟩ = some (.pointer (some ⟨d, 0, none⟩)))
    (first | exact ⟨c0, c1⟩ | exact hS.out _ hb2.out | exact ⟨z0, z1⟩)
    (first
      | (go_at_call 102; (with_reducible refine hcp.out.mono ?_); rintro e w2 ⟨d1, g1, cap1, tail1, rfl, hr2, hb2', hd1, hg1⟩; have hb2 := Lib.hid (below_next hdr.out hb2'))
      | (go_at_call 101; (with_reducible refine (hput.out _ hb2.out d1 g1).mono ?_); rintro e w3 ⟨⟨⟨v3, rfl⟩, hp3⟩, z0, z1⟩))
  have hres := Lib.hid (put_sx h'.out (below_next hl0.out hb2.out) hr2 hgd.out (by have := hl0.out.size; simp at hd1; omega) (by have := hl0.out.size; simp at hg1; omega) hp3)
  clear hp3 hr2 z0 z1
  go_wp2
  go_ret
  exact hres.out
end
end Go.Proofs.YtaoegfdaemmogaaGreat.Lns
