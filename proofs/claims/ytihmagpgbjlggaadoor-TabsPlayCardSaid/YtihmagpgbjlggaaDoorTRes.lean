/-
  tabs: Resize.
-/
import Derived.Test.YtihmagpgbjlggaaDoorTNext
namespace Go.Proofs.YtihmagpgbjlggaaDoor.Tbs
open Go Go.RowKit Go.Proofs.YtihmagpgbjlggaaDoor.Com

theorem storingT {w : World} {d n : Nat} {f : Nat → Bool} (h : TabsIn w d n f) (g : Nat → Bool) : ∃ w', (storeCells ⟨d, 1, none⟩ (wsA g).toList).run Tryd.prog w = .ok () w' ∧ TabsIn w' d n g ∧ Only [d] w w' := by
  have hl : (wsA g).toList.length = 8 := by rw [Array.length_toList, ws_size]
  have hz : (tabL n f).toArray.size = 9 := by simp [tabL, ws_len]
  have hrun := run_storeCells_at Tryd.prog d 1 51 (wsA g).toList 0 (tabL n f).toArray w h (by rw [hl, hz]; omega) (fun x hx => (Array.all_eq_true_iff_forall_mem.1 (ws_one g)) x (by simpa using hx))
  refine ⟨_, hrun, ?_, only_setRow w d _⟩
  have := setRow_heap w d (tabL n f).toArray ((tabL n f).toArray.toList.take (1 + 0) ++ ((wsA g).toList ++ (tabL n f).toArray.toList.drop (1 + 0 + (wsA g).toList.length))).toArray 51 _ h
  have e := tab_stored n f g
  rw [ws_size] at e
  rw [hl] at this ⊢
  rw [List.append_assoc]
  rw [e] at this ⊢
  exact this
theorem TabsIn.size {w : World} {d n m : Nat} {f : Nat → Bool} (h : TabsIn w d n f) : TabsIn (w.setCell ⟨d, 0, none⟩ (.int .i64 m)) d m f := by
  have := Block.set h 0 (.int .i64 m)
  rw [List.setIfInBounds_toArray] at this
  exact this
theorem resize_no {w : World} {v : Value} (h : NoTabs w v) (m : Int) : Calls Tryd.prog 15 #[v, .int .i64 m] w (Err w 1) := by
  have hC := Lib.hid (cols_no h)
  obtain ⟨a, rfl⟩ := no_shape h
  clear h
  go_enter Tryd.func15, Tryd.ntmps15
  go_wp2_with ((go_at_call 18; (with_reducible refine (hC.out).mono ?_); rintro e w' ⟨rfl, rfl⟩))
  go_ret
  exact ⟨rfl, rfl⟩
theorem resize_bad {w : World} {d n : Nat} {f : Nat → Bool} (h : TabsIn w d n f) (hn : 1 ≤ n) (m : Int) (hm : ¬ (1 ≤ m ∧ m ≤ 512)) : Calls Tryd.prog 15 #[.pointer (some ⟨d, 0, none⟩), .int .i64 m] w (Err w 2) := by
  have hC := Lib.hid (cols_any w h)
  have hn0 : ((n : Int) == 0) = false := by simp; omega
  have hM := Lib.hid (mayCount_any m)
  rw [may_false hm] at hM
  clear h hm
  go_enter Tryd.func15, Tryd.ntmps15
  go_wp2_with (first
    | (go_at_call 18; (with_reducible refine (hC.out).mono ?_); rintro e w' ⟨rfl, rfl⟩)
    | (go_at_call 26; (with_reducible refine (hM.out _).mono ?_); rintro e w' ⟨rfl, rfl⟩))
  go_ret
  exact ⟨rfl, rfl⟩
/-- P7.3, by the words. -/
def resizeF (n m : Nat) (f : Nat → Bool) : Nat → Bool := orF (inF f 0 m) (freshF n m)
set_option maxHeartbeats 4000000 in
theorem resize_any {w : World} {d n : Nat} {f : Nat → Bool} (h : TabsIn w d n f) (hn : 1 ≤ n) (hn2 : n ≤ 512) (m : Nat) (hm : 1 ≤ m) (hm2 : m ≤ 512) : Calls Tryd.prog 15 #[.pointer (some ⟨d, 0, none⟩), .int .i64 m] w (Turned w d m (resizeF n m f) 0) := by
  have hC := Lib.hid (cols_any w h)
  have hn0 : ((n : Int) == 0) = false := by simp; omega
  have hM := Lib.hid (mayCount_any m)
  rw [may_true (by omega)] at hM
  have hc := h.nine
  have hbw := Lib.hid (fun w' hb => (h.below hb : TabsIn w' d n f))
  have hw : Hid (∀ w, Calls Tryd.prog 31 #[.agg #[.int .u64 (wd f 0), .int .u64 (wd f 1), .int .u64 (wd f 2), .int .u64 (wd f 3), .int .u64 (wd f 4), .int .u64 (wd f 5), .int .u64 (wd f 6), .int .u64 (wd f 7)], .int .i64 0, .int .i64 m] w (Ret8 w (inF f 0 m))) := Lib.hid fun w => by
    have := within_any f 0 m (by omega) (by omega) w
    rwa [ws_eq] at this
  have hf := Lib.hid (fresh_any n m (by omega) (by omega))
  have hwi := Lib.hid (with_any (inF f 0 m) (freshF n m))
  have hsto := Lib.hid (fun w (h : TabsIn w d n f) => storingT h (resizeF n m f))
  have hs8 := ws_size (resizeF n m f)
  have hrf : orF (inF f 0 m) (freshF n m) = resizeF n m f := rfl
  rw [hrf] at hwi
  generalize resizeF n m f = g3 at hwi hsto hs8 ⊢
  generalize inF f 0 m = g1 at hw hwi
  generalize freshF n m = g2 at hf hwi
  have hdw := Lib.hid (below_dr (Below.refl w.heap.size w) 1)
  clear h hrf
  go_enter Tryd.func15, Tryd.ntmps15
  go_wp2_with (first
    | (go_at_call 18; (with_reducible refine (hC.out).mono ?_); rintro e w' ⟨rfl, rfl⟩)
    | (go_at_call 26; (with_reducible refine (hM.out _).mono ?_); rintro e w' ⟨rfl, rfl⟩))
  go_region_law (first
    | (go_simp; go_at_call 31; (with_reducible refine (hw.out _).mono ?_); rintro e w1 ⟨rfl, hb1'⟩; have hb1 : Below w.heap.size w w1 := (by first | exact hb1' | exact below_next hdw.out hb1'); have hc1 := (hbw.out _ hb1).cols; replace hb1 := Lib.hid hb1)
    | (go_simp; go_at_call 27; (with_reducible refine (hf.out _).mono ?_); rintro e w2 ⟨rfl, hb2⟩)
    | (go_simp; go_at_call 32; (with_reducible refine (hwi.out _).mono ?_); rintro e w3 ⟨rfl, hb3⟩; have hb4 := Lib.hid (below_next (below_next hb1.out hb2) hb3); obtain ⟨w4, hst4, hT4, ho4⟩ := hsto.out w3 (hbw.out _ hb4.out); replace hT4 := Lib.hid hT4; replace ho4 := Lib.hid ho4))
  all_goals
    have hc4 := hT4.out.cols
    have hf4 := hT4.out.free 0
    have hT5 := Lib.hid (hT4.out.size (m := m))
    clear hst4 hc hb1' hc1 hb2 hb3
    go_wp2
    go_ret
    exact ⟨rfl, hT5.out, ((Only.of_below hb4.out [d]).trans ho4.out).trans (Only.setCell w4 ⟨d, 0, none⟩ _)⟩

end Go.Proofs.YtihmagpgbjlggaaDoor.Tbs
