/-
  sgr: the law's own known answers; the same numbers.
-/
import Derived.Test.YtlpihhjdgipgnaaDoorSApp
import Derived.Deep.RegionHeld3
namespace Go.Proofs.YtlpihhjdgipgnaaDoor.Sgr
open Go Go.RowKit Go.Proofs.YtlpihhjdgipgnaaDoor.Com

theorem known1 : applyF zero [1, 31] = ⟨2, 0, 1⟩ := by
  rw [apply_cons _ (by simp), run_one _ _ (by decide) (by decide), run_one _ _ (by decide) (by decide), run_nil]
  decide
theorem known2 : applyF zero [38, 5, 200, 4] = ⟨201, 0, 8⟩ := by
  rw [apply_cons _ (by simp), run_fg, fol_five, run_one _ _ (by decide) (by decide), run_nil]
  decide
theorem known3 : applyF zero [38, 2, 1, 2] = zero := by
  rw [apply_cons _ (by simp), run_fg, fol_dumb ⟨by simp, by simp⟩, run_nil]
theorem known4 : applyF zero [7, 48, 2, 1, 2, 3] = ⟨0, 16843267, 32⟩ := by
  rw [apply_cons _ (by simp), run_one _ _ (by decide) (by decide), run_bg, fol_two, run_nil]
  decide

/-- Apply over a literal. -/
theorem apply_lit (a : At) (l : List Int) (b : At) (hb : applyF a l = b) (hf : Fits .i64 l) (hl : l.length ≤ maxLen) (w : World) (T : Tab w) :
    Calls Tryd.prog 8 #[.agg #[.int .u32 a.f, .int .u32 a.b, .int .u16 a.g], .slice (some ⟨w.heap.size, 0, none⟩) l.length l.length] (w.alloc (.cells (l.map (Value.int .i64)).toArray 3)) fun e w' => e = .returned (.agg #[.int .u32 b.f, .int .u32 b.b, .int .u16 b.g]) ∧ Below w.heap.size w w' := by
  subst hb
  refine (apply_any a l hf _ l.length (Nat.le_refl _) hl _ (T.below (below_new w _)) (by simpa using Nums.lit w 3 .i64 l)).mono ?_
  rintro e w' ⟨rfl, h⟩
  exact ⟨rfl, below_next (below_new _ _) h⟩
theorem apply_litd (a : At) (l : List Int) (b : At) (hb : applyF a l = b) (hf : Fits .i64 l) (hl : l.length ≤ maxLen) (w : World) (T : Tab w) :
    Calls Tryd.prog 8 #[.agg #[.int .u32 a.f, .int .u32 a.b, .int .u16 a.g], .slice (some ⟨w.heap.size, 0, none⟩) l.length l.length] (w.alloc (.cells (l.map (Value.int .i64)).toArray 3)).drew fun e w' => e = .returned (.agg #[.int .u32 b.f, .int .u32 b.b, .int .u16 b.g]) ∧ Below w.heap.size w w' := by
  subst hb
  have hb := below_dr (below_new w (.cells (l.map (Value.int .i64)).toArray 3)) 1
  refine (apply_any a l hf _ l.length (Nat.le_refl _) hl _ (T.below hb) (Nums.kept (w := w.alloc (.cells (l.map (Value.int .i64)).toArray 3)) (by simpa using Nums.lit w 3 .i64 l) (fun _ _ => rfl))).mono ?_
  rintro e w' ⟨rfl, h⟩
  exact ⟨rfl, below_next hb h⟩
theorem fits_of {l : List Int} (h : ∀ n ∈ l, -9223372036854775808 ≤ n ∧ n ≤ 9223372036854775807) : Fits .i64 l := fun n hn => by
  have := h n hn
  simp [Lit.wf, IntKind.min, IntKind.max, IntKind.signed, IntKind.bits]
  omega

/-- An attribute's block that stays while memory is made. -/
structure KS (w0 w : World) (d : Nat) (a : At) : Prop where
  att : AIn w d a
  tab : Tab w
  below : Below w0.heap.size w0 w
theorem KS.new {w0 w w' : World} {d : Nat} {a : At} (h : KS w0 w d a) (hb : Below w.heap.size w w') : KS w0 w' d a := ⟨h.att.new hb, h.tab.below hb, below_next h.below hb⟩
theorem KS.drew {w0 w : World} {d : Nat} {a : At} (h : KS w0 w d a) : KS w0 w.drew d a := h.new (below_dr (Below.refl _ _) 1)
theorem KS.cells {w0 w : World} {d : Nat} {a : At} (h : KS w0 w d a) : KS w0 w d a ∧ w.cell? ⟨d, 0, none⟩ = some (.int .u32 a.f) ∧ w.cell? ⟨d, 1, none⟩ = some (.int .u32 a.b) ∧ w.cell? ⟨d, 2, none⟩ = some (.int .u16 a.g) := ⟨h, h.att.c0, h.att.c1, h.att.c2⟩

set_option maxRecDepth 100000 in
set_option maxHeartbeats 4000000 in
theorem known_any (w : World) (T : Tab w) : Calls Tryd.prog 7 #[] w fun e w' => e = .returned (.bool true) ∧ Below w.heap.size w w' := by
  have hstart : KS w (w.alloc (.cells #[.int .u32 0, .int .u32 0, .int .u16 0] 25)) w.heap.size zero := ⟨AIn.made w zero, T.below (below_new _ _), below_new _ _⟩
  have l1 := Lib.hid (fun w' (h : KS w w' w.heap.size zero) => apply_litd zero [1, 31] _ known1 (fits_of (by simp)) (by simp [maxLen]) w' h.tab)
  have l2 := Lib.hid (fun w' (h : KS w w' w.heap.size zero) => apply_lit zero [38, 5, 200, 4] _ known2 (fits_of (by simp)) (by simp [maxLen]) w' h.tab)
  have l3 := Lib.hid (fun w' (h : KS w w' w.heap.size zero) => apply_lit zero [38, 2, 1, 2] _ known3 (fits_of (by simp)) (by simp [maxLen]) w' h.tab)
  have l4 := Lib.hid (fun w' (h : KS w w' w.heap.size zero) => apply_lit zero [7, 48, 2, 1, 2, 3] _ known4 (fits_of (by simp)) (by simp [maxLen]) w' h.tab)
  simp only [zero, List.length_cons, List.length_nil, List.map_cons, List.map_nil, Nat.reduceAdd, Nat.zero_add] at l1 l2 l3 l4
  clear T
  go_enter Tryd.func7, Tryd.ntmps7
  go_wp2_with fail
  obtain ⟨d, hd⟩ : ∃ d, d = w.heap.size := ⟨_, rfl⟩
  rw [← hd] at hstart l1 l2 l3 l4 ⊢
  generalize (w.alloc (.cells #[.int .u32 0, .int .u32 0, .int .u16 0] 25)) = w0 at hstart ⊢
  have hnew := Lib.hid (fun (wa wb : World) (h : KS w wa d zero) (hb : Below wa.heap.size wa wb) => (h.new hb).cells)
  have hal := Lib.hid (fun (wa : World) (o : Obj) (h : KS w wa d zero) => (h.new (below_new wa o)).cells)
  have hk0 := hstart.drew.cells
  simp only [zero] at hk0 hnew hal hstart
  clear hd
  go_region_held3 (fun w' => KS w w' d ⟨0, 0, 0⟩ ∧ w'.cell? ⟨d, 0, none⟩ = some (.int .u32 0) ∧ w'.cell? ⟨d, 1, none⟩ = some (.int .u32 0) ∧ w'.cell? ⟨d, 2, none⟩ = some (.int .u16 0))
    (first
      | exact hk0
      | (go_split_ands; exact hal.out _ _ (by assumption))
      | exact (((hstart.new hb1).new hb2).new hb3 |>.new hb4).cells
      | exact (((hstart.new hb1).new hb2).new hb3).cells
      | exact ((hstart.new hb1).new hb2).cells
      | exact (hstart.new hb1).cells
      | go_keep)
    (first
      | (go_at_call 8; with_reducible refine (l1.out _ ?_).mono ?_; exact hstart; rintro e w1 ⟨rfl, hb1⟩)
      | (go_at_call 8; with_reducible refine (l2.out _ ?_).mono ?_; exact hstart.new hb1; rintro e w2 ⟨rfl, hb2⟩)
      | (go_at_call 8; with_reducible refine (l3.out _ ?_).mono ?_; exact (hstart.new hb1).new hb2; rintro e w3 ⟨rfl, hb3⟩)
      | (go_at_call 8; with_reducible refine (l4.out _ ?_).mono ?_; exact ((hstart.new hb1).new hb2).new hb3; rintro e w4 ⟨rfl, hb4⟩))
  all_goals go_wp2
  go_ret
  exact ⟨rfl, ((((hstart.new hb1).new hb2).new hb3).new hb4).below⟩

end Go.Proofs.YtlpihhjdgipgnaaDoor.Sgr
