/-
  lines: the store's calls that ask. lines: Copy and At. lines: Fresh.
-/
import Derived.Test.YtaoegfdaemmogaaLPut2
import Derived.Test.YtaoegfdaemmogaaLTwin
import Derived.Test.YtaoegfdaemmogaaRRef
namespace Go.Proofs.Ytaoegfdaemmogaa.Lns
open Go Go.RowKit Go.Proofs.Ytaoegfdaemmogaa.Com Go.Proofs.Ytaoegfdaemmogaa.Rw
section
variable {B : Nat} {w w' : World} {s nx most o : Nat} {sv : Value} {P R : List En}

theorem new_no (most : Int) (h : most < 0 ∨ 10000 < most) (w : World) : Calls Try.prog 32 #[.int .i64 most] w fun e w' => e = .returned (.tuple #[.pointer none, .int .i64 2]) ∧ w = w' := by
  by_cases h0 : most < 0
  · go_enter Try.func32, Try.ntmps32
    go_wp2
    go_ret2
    exact ⟨rfl, rfl⟩
  · have h1 : 10000 < most := by omega
    go_enter Try.func32, Try.ntmps32
    go_wp2
    go_ret2
    exact ⟨rfl, rfl⟩
theorem new_yes (most : Nat) (h : most ≤ 10000) (w : World) : Calls Try.prog 32 #[.int .i64 most] w fun e w' => e = .returned (.tuple #[.pointer (some ⟨w.heap.size, 0, none⟩), .int .i64 0]) ∧ SX w.heap.size w' w.heap.size 1 most (.slice none 0 0) [] ∧ Below w.heap.size w w' := by
  have h0 : ¬ (most : Int) < 0 := by omega
  have h1 : ¬ 10000 < (most : Int) := by omega
  have h0' := decide_eq_false h0
  have h1' := decide_eq_false h1
  go_enter Try.func32, Try.ntmps32
  go_wp2
  go_ret2
  exact ⟨rfl, ⟨⟨0, [], ⟨Block.made w _ _, World.ownsRow_nil _ _ _ _, by simp, fun _ => rfl, .inr rfl, h, by decide, by decide, Nat.le_refl _⟩, by simp [lg]⟩, by simp⟩, below_new _ _⟩
theorem next_any (h : SX B w s nx most sv R) : Calls Try.prog 12 #[.pointer (some ⟨s, 0, none⟩)] w fun e w' => e = .returned (.int .i64 nx) ∧ w = w' := by
  obtain ⟨⟨o, P, h0, rfl⟩, _⟩ := h
  have hm := Lib.hid (made_any h0)
  obtain ⟨h1, _, _, _⟩ := h0.cells
  clear h0
  go_enter Try.func12, Try.ntmps12
  go_wp2_with ((go_at_call 34; (with_reducible refine (hm.out).mono ?_); rintro e w' ⟨rfl, rfl⟩))
  go_ret
  exact ⟨rfl, rfl⟩
theorem slen_any (h : SX B w s nx most sv R) : Calls Try.prog 26 #[.pointer (some ⟨s, 0, none⟩)] w fun e w' => e = .returned (.int .i64 R.length) ∧ w = w' := by
  obtain ⟨⟨o, P, h0, rfl⟩, _⟩ := h
  have hm := Lib.hid (made_any h0)
  have hc := Lib.hid (count_any h0)
  rw [lg_len]
  clear h0
  go_enter Try.func26, Try.ntmps26
  go_wp2_with (first
    | (go_at_call 34; (with_reducible refine (hm.out).mono ?_); rintro e w' ⟨rfl, rfl⟩)
    | (go_at_call 55; (with_reducible refine (hc.out).mono ?_); rintro e w' ⟨rfl, rfl⟩))
  go_ret
  exact ⟨rfl, rfl⟩
theorem find_any (h : SX B w s nx most sv R) (id : Int) : Calls Try.prog 19 #[.pointer (some ⟨s, 0, none⟩), .int .i64 id] w fun e w' => e = .returned (.int .i64 (findF (R.map En.id) id)) ∧ Below w.heap.size w w' := by
  obtain ⟨⟨o, P, h0, rfl⟩, _⟩ := h
  have hm := Lib.hid (made_any h0)
  have hc := newest_any h0 id
  generalize findF ((lg P o).map En.id) id = F at hc ⊢
  replace hc := Lib.hid hc
  clear h0
  go_enter Try.func19, Try.ntmps19
  go_wp2_with (first
    | (go_at_call 34; (with_reducible refine (hm.out).mono ?_); rintro e w' ⟨rfl, rfl⟩)
    | (go_at_call 51; (with_reducible refine (hc.out).mono ?_); rintro e w1 ⟨rfl, hb1⟩))
  go_ret
  exact ⟨rfl, hb1⟩
end
end Go.Proofs.Ytaoegfdaemmogaa.Lns
namespace Go.Proofs.Ytaoegfdaemmogaa.Lns
open Go Go.RowKit Go.Proofs.Ytaoegfdaemmogaa.Com Go.Proofs.Ytaoegfdaemmogaa.Rw
section
variable {B : Nat} {w w' : World} {s nx most o : Nat} {sv : Value} {P R : List En}

def SCopyDone (B : Nat) (w : World) (nx most : Nat) (R : List En) (e : Ending) (w' : World) : Prop :=
  ∃ s' sv', e = .returned (.pointer (some ⟨s', 0, none⟩)) ∧ SX B w' s' nx most sv' R ∧ Below w.heap.size w w' ∧ w.heap.size ≤ s' ∧ ∀ g, sv'.ownBlock = some g → w.heap.size ≤ g
theorem _root_.Go.Proofs.Ytaoegfdaemmogaa.Rw.Api.other {B : Nat} {w w' : World} {v : Value} {ps : List (Cel × Value)} (h : Api B w v ps) {k : Nat} {t : TypeId} (ho : Only [k] w w') (ht : Typ w k t) (h1 : 119 ≠ t) (h2 : 21 ≠ t) : Api B w' v ps :=
  h.fr (Fr.of_only (B := 0) (ts := [t]) ho (fun x hx _ => by
    obtain rfl : x = k := by simpa using hx
    exact ⟨Nat.zero_le _, t, by simp, ht⟩)) (by simpa using h1) (by simpa using h2)
def AtNo (w : World) (x : Int) (e : Ending) (w' : World) : Prop := e = .returned (.tuple #[.agg #[.int .i64 0, .slice none 0 0], .int .i64 x]) ∧ Below w.heap.size w w'
def AtDone (w : World) (e0 : En) (e : Ending) (w' : World) : Prop := ∃ g2 ps, e = .returned (.tuple #[.agg #[.int .i64 e0.id, .slice (some ⟨g2, 0, none⟩) e0.l.length e0.l.length], .int .i64 0]) ∧ Api w.heap.size w' (.slice (some ⟨g2, 0, none⟩) e0.l.length e0.l.length) ps ∧ ps.map (·.1) = e0.l ∧ Below w.heap.size w w' ∧ w.heap.size ≤ g2
end
end Go.Proofs.Ytaoegfdaemmogaa.Lns
namespace Go.Proofs.Ytaoegfdaemmogaa.Lns
open Go Go.RowKit Go.Proofs.Ytaoegfdaemmogaa.Com Go.Proofs.Ytaoegfdaemmogaa.Rw
section
variable {B : Nat} {w w' : World} {s nx most o : Nat} {sv : Value} {P R : List En}

def FreshNo (w : World) (x : Int) (e : Ending) (w' : World) : Prop := e = .returned (.tuple #[.agg #[.int .i64 0, .pointer none], .int .i64 x]) ∧ Below w.heap.size w w'
set_option maxHeartbeats 1000000 in
theorem fresh_no (h : SX B w s nx most sv R) (cols : Int) (hc : cols < 1 ∨ 512 < cols) (a : At) : Calls Try.prog 62 #[.pointer (some ⟨s, 0, none⟩), .int .i64 cols, .agg #[.int .u32 a.f, .int .u32 a.b, .int .u16 a.g]] w (FreshNo w 2) := by
  obtain ⟨⟨o, P, h0, rfl⟩, _⟩ := h
  obtain ⟨af, ab, ag⟩ := a
  have hbn : Below w.heap.size w ((w.alloc (.cells #[.int .u32 af, .int .u32 ab, .int .u16 ag] 36)).alloc (.cells #[.int .i64 0, .pointer none] 92)) := below_next (below_new _ _) (below_new _ _)
  have hm := Lib.hid (made_any (h0.only (Only.of_below hbn []) (by simp) (by simp)))
  have hN := Lib.hid (fun w => Rw.new_no cols hc w)
  have hbx := Block.made (w.alloc (.cells #[.int .u32 af, .int .u32 ab, .int .u16 ag] 36)) 92 #[.int .i64 0, .pointer none]
  simp only [World.size_alloc] at hbx
  clear h0 hc
  go_enter Try.func62, Try.ntmps62
  go_wp2_with (first
    | (go_at_call 34; (with_reducible refine (hm.out).mono ?_); rintro e w' ⟨rfl, rfl⟩)
    | (go_at_call 80; (with_reducible refine (hN.out _).mono ?_); rintro e w1 ⟨rfl, rfl⟩))
  exact bodyPost_ret (results_cell_tmpG rfl _ _ (w.heap.size + 1) _ rfl hbx Try.underlying92 rfl infoL) rfl ⟨rfl, hbn⟩
/-- The cells of a fresh line. -/
def freshL (n : Nat) (a : At) : List Cel := eraL (List.replicate n (clr zeroAt)) 0 n a
theorem freshL_good (n : Nat) (a : At) : Rw.Good (freshL n a) := (good_new n).era _ _ _
theorem freshL_len (n : Nat) (a : At) : (freshL n a).length = n := by unfold freshL; rw [eraL_len, List.length_replicate]
def FreshDone (B : Nat) (w : World) (s nx most : Nat) (sv : Value) (R : List En) (l : List Cel) (e : Ending) (w' : World) : Prop :=
  ∃ d g, e = .returned (.tuple #[.agg #[.int .i64 nx, .pointer (some ⟨d, 0, none⟩)], .int .i64 0]) ∧ SX B w' s (nx + 1) most sv R ∧ RowG w.heap.size w' ⟨nx, d, g, 0, l⟩ ∧ Only [s] w w'
theorem SX.lt (h : SX B w s nx most sv R) : s < w.heap.size := by
  obtain ⟨⟨o, P, h0, _⟩, _⟩ := h
  exact h0.blk.lt
theorem made_any' (h : SX B w s nx most sv R) : Calls Try.prog 34 #[.pointer (some ⟨s, 0, none⟩)] w fun e w' => e = .returned (.bool true) ∧ w = w' := by
  obtain ⟨⟨o, P, h0, hR⟩, hg⟩ := h
  exact made_any h0
/-- The next id is told. -/
theorem take_sx (h : SX B w s nx most sv R) (hx : nx < 1000000) : Calls Try.prog 82 #[.pointer (some ⟨s, 0, none⟩)] w fun e w' => e = .returned (.int .i64 nx) ∧ SX B w' s (nx + 1) most sv R ∧ Only [s] w w' := by
  have ht := h.typ
  obtain ⟨⟨o, P, h0, hR⟩, hg⟩ := h
  refine (take_any h0 hx).mono ?_
  rintro e w' ⟨he, h1, ho⟩
  exact ⟨he, ⟨⟨o, P, h1, hR⟩, fun e he => (hg e he).only ho (not_in1 (hg e he).typ.1 ht (by decide)) (not_in1 (hg e he).typ.2 ht (by decide))⟩, ho⟩
set_option maxHeartbeats 2000000 in
theorem fresh_yes (h : SX B w s nx most sv R) (hx : nx < 1000000) (n : Nat) (hn : 1 ≤ n) (hn5 : n ≤ 512) (a : At) : Calls Try.prog 62 #[.pointer (some ⟨s, 0, none⟩), .int .i64 n, .agg #[.int .u32 a.f, .int .u32 a.b, .int .u16 a.g]] w (FreshDone B w s nx most sv R (freshL n a)) := by
  have hgd := freshL_good n a
  have hE : ∀ {w d g} (hr : RowX w d g n n [] (List.replicate n (clr zeroAt))), Calls Try.prog 81 #[.pointer (some ⟨d, 0, none⟩), .int .i64 0, .int .i64 n, .agg #[.int .u32 a.f, .int .u32 a.b, .int .u16 a.g]] w (OpDone w d g n n [] (freshL n a) (.int .i64 0)) := fun hr => by
    have := erase_any hr (good_new n).whole 0 n a
    unfold freshL eraL
    rw [List.length_replicate]
    exact this
  generalize freshL n a = fl0 at hgd hE ⊢
  obtain ⟨af, ab, ag⟩ := a
  have hb1 := below_new w (.cells #[.int .u32 af, .int .u32 ab, .int .u16 ag] 36)
  have hbn : Below w.heap.size w ((w.alloc (.cells #[.int .u32 af, .int .u32 ab, .int .u16 ag] 36)).alloc (.cells #[.int .i64 0, .pointer none] 92)) := below_next hb1 (below_new _ _)
  have hm := made_any' (h.below hbn)
  have hba := (Block.made w 36 #[.int .u32 af, .int .u32 ab, .int .u16 ag]).alloc (.cells #[.int .i64 0, .pointer none] 92)
  have hbl := Block.made (w.alloc (.cells #[.int .u32 af, .int .u32 ab, .int .u16 ag] 36)) 92 #[.int .i64 0, .pointer none]
  simp only [World.size_alloc] at hbl
  have hN := Lib.hid (fun w => Rw.new_yes n hn hn5 w)
  have hws : Hid (∀ w', Below w.heap.size w w' → SX B w' s nx most sv R) := Lib.hid (fun w' hb => h.below hb)
  have hlt := h.lt
  have hplt := fun g hg => (h.ptyp g hg).2.1
  replace hm := Lib.hid hm
  replace hba := Lib.hid hba
  replace hbl := Lib.hid hbl
  replace hbn := Lib.hid hbn
  clear h hb1
  simp only at hE
  go_enter Try.func62, Try.ntmps62
  go_wp2_with (first
    | (go_at_call 34; (with_reducible refine (hm.out).mono ?_); rintro e w' ⟨rfl, rfl⟩)
    | (go_at_call 80; (with_reducible refine (hN.out _).mono ?_); rintro e w1 ⟨d, g, rfl, hr1, hbe1, hd1, hg1⟩; have hba1 := hba.out.only (Only.of_below hbe1 []) (by simp); have hbl1 := hbl.out.only (Only.of_below hbe1 []) (by simp); have a0 := hba1.cell 0 rfl; have a1 := hba1.cell 1 rfl; have a2 := hba1.cell 2 rfl; have hbw1 := below_next hbn.out hbe1)
    | (go_at_call 81; (with_reducible refine (hE hr1).mono ?_); rintro e w2 ⟨rfl, hr2, ho2⟩; have hbl2 := hbl1.only ho2 (not_in1 (Block.typ hbl1) (Block.typ hr1.row) (by decide)); have hbw2 := below_on hbw1 ho2 (by simp at hg1; omega); have ht := hws.out _ hbw2)
    | (go_at_call 82; (with_reducible refine (take_sx ht hx).mono ?_); rintro e w3 ⟨rfl, hS3, ho3⟩; have hbl3 := hbl2.only ho3 (not_in1 (Block.typ hbl2) ht.typ (by decide)); have l0 := hbl3.cell 0 rfl; have l1 := hbl3.cell 1 rfl; have f0 := hbl3.free 0; have f1 := hbl3.free 1))
  have ho4 : Only [w.heap.size + 1] w3 ((w3.setCell ⟨w.heap.size + 1, 0, none⟩ (.int .i64 nx)).setCell ⟨w.heap.size + 1, 1, none⟩ (.pointer (some ⟨d, 0, none⟩))) := (Only.setCell w3 ⟨w.heap.size + 1, 0, none⟩ _).trans (Only.setCell _ ⟨w.heap.size + 1, 1, none⟩ _)
  have hS4 : SX B _ s (nx + 1) most sv R := hS3.only ho4 (not_in1 hS3.typ (Block.typ hbl3) (by decide)) (fun x hx hm => by
    have h1 := hplt x hx
    simp at hm
    omega) (fun e he => ⟨not_in1 (hS3.2 e he).typ.1 (Block.typ hbl3) (by decide), not_in1 (hS3.2 e he).typ.2 (Block.typ hbl3) (by decide)⟩)
  have hds : d ∉ [s] := by simp at hd1; simp; omega
  have hgs : g ∉ [s] := by simp at hg1; simp; omega
  have hr4 := (hr2.kept ho3 hds hgs).kept ho4 (by simp at hd1; simp; omega) (by simp at hg1; simp; omega)
  refine bodyPost_ret (results_cell_tmpG rfl _ _ (w.heap.size + 1) _ rfl (block2 hbl3 _ _) Try.underlying92 rfl infoL) rfl ⟨d, g, rfl, hS4, ⟨hgd, by simp at hd1; simp; omega, by simp at hg1; simp; omega, n, n, [], hr4⟩, ?_⟩
  exact ((Only.of_below hbw2 [s]).trans ho3).then ho4 (fun k hk => .inr (by simp at hk; omega))
end
end Go.Proofs.Ytaoegfdaemmogaa.Lns
