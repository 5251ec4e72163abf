/-
  tabs: Next.
-/
import Derived.Test.YtihmagpgbjlggaaDoorTPrev
namespace Go.Proofs.YtihmagpgbjlggaaDoor.Tbs
open Go Go.RowKit Go.Proofs.YtihmagpgbjlggaaDoor.Com

theorem storing8 {w : World} {b : Nat} (h : Block w b 49 zero8) (g : Nat → Bool) : ∃ w', (storeCells ⟨b, 0, none⟩ (wsA g).toList).run Tryd.prog w = .ok () w' ∧ Block w' b 49 (wsA g) ∧ Only [b] w w' := by
  have hz : zero8.size = 8 := rfl
  have hl : (wsA g).toList.length = 8 := by rw [Array.length_toList, ws_size]
  have hrun := run_storeCells_at Tryd.prog b 0 49 (wsA g).toList 0 zero8 w h (by rw [hl, hz]; omega) (fun x hx => (Array.all_eq_true_iff_forall_mem.1 (ws_one g)) x (by simpa using hx))
  refine ⟨_, hrun, ?_, only_setRow w b _⟩
  have := setRow_heap w b zero8 (zero8.toList.take (0 + 0) ++ ((wsA g).toList ++ zero8.toList.drop (0 + 0 + (wsA g).toList.length))).toArray 49 _ h
  rw [hl] at this ⊢
  simpa [zero8, Block] using this
theorem TabsIn.nineB {w : World} {d n : Nat} {f : Nat → Bool} (h : TabsIn w d n f) : ∀ w', Below w.heap.size w w' → (w'.cell? ⟨d, 0, none⟩ = some (.int .i64 n) ∧ w'.cell? ⟨d, 1, none⟩ = some (.int .u64 (wd f 0)) ∧ w'.cell? ⟨d, 2, none⟩ = some (.int .u64 (wd f 1)) ∧ w'.cell? ⟨d, 3, none⟩ = some (.int .u64 (wd f 2)) ∧ w'.cell? ⟨d, 4, none⟩ = some (.int .u64 (wd f 3)) ∧ w'.cell? ⟨d, 5, none⟩ = some (.int .u64 (wd f 4)) ∧ w'.cell? ⟨d, 6, none⟩ = some (.int .u64 (wd f 5)) ∧ w'.cell? ⟨d, 7, none⟩ = some (.int .u64 (wd f 6)) ∧ w'.cell? ⟨d, 8, none⟩ = some (.int .u64 (wd f 7))) := fun _ hb => (h.below hb).nine

set_option maxHeartbeats 4000000 in
theorem next_any {w : World} {d n : Nat} {f : Nat → Bool} (h : TabsIn w d n f) (hn : 1 ≤ n) (hn2 : n ≤ 512) (c k : Int) (T : Tab w) : Calls Tryd.prog 22 #[.pointer (some ⟨d, 0, none⟩), .int .i64 c, .int .i64 k] w (Num w (nextF n f c k)) := by
  have hC := Lib.hid (cols_any w h)
  have hH := held_any h hn hn2 c
  have hlt := held_lt hn c
  have hn0 : ((n : Int) == 0) = false := by simp; omega
  unfold nextF
  generalize heldF n c = q at hH hlt ⊢
  replace hH := Lib.hid hH
  by_cases hk : k < 1
  · have hE : Hid (nextAt n f q k = q) := by show _ = _; unfold nextAt; rw [if_pos hk]
    clear h T
    go_enter Tryd.func22, Tryd.ntmps22
    go_wp2_with (first
      | (go_at_call 18; (with_reducible refine (hC.out).mono ?_); rintro e w' ⟨rfl, rfl⟩)
      | (go_at_call 34; (with_reducible refine (hH.out).mono ?_); rintro e w' ⟨rfl, rfl⟩))
    go_ret
    exact ⟨ret_int (by rw [hE.out]), Below.refl _ _⟩
  · have hc := h.nine
    have hS := Lib.hid h.nineB
    have hw : Hid (∀ w, Calls Tryd.prog 31 #[.agg #[.int .u64 (wd f 0), .int .u64 (wd f 1), .int .u64 (wd f 2), .int .u64 (wd f 3), .int .u64 (wd f 4), .int .u64 (wd f 5), .int .u64 (wd f 6), .int .u64 (wd f 7)], .int .i64 ((q : Int) + 1), .int .i64 n] w (Ret8 w (inF f (q + 1) n))) := Lib.hid fun w => by
      have := within_any f (q + 1) n (by omega) (by omega) w
      rwa [ws_eq] at this
    have hEe : nextAt n f q k = if ((sts (inF f (q + 1) n) 512).length : Int) < k then n - 1 else (sts (inF f (q + 1) n) 512).getD (k.toNat - 1) 0 := by unfold nextAt; rw [if_neg hk]
    have hbd := sts_bound (inF f (q + 1) n) 512
    have hcnt := Lib.hid (fun w => count_any (inF f (q + 1) n) w)
    have hnth := Lib.hid (fun w m h1 h2 T => nth_any (inF f (q + 1) n) m h1 h2 w T)
    have hinf := Lib.hid (ws_info (inF f (q + 1) n))
    have hsto := Lib.hid (fun (w : World) (b : Nat) (h : Block w b 49 zero8) => storing8 h (inF f (q + 1) n))
    have hs8 := ws_size (inF f (q + 1) n)
    have hcut := Lib.hid (fun w' hb => (h.below hb : TabsIn w' d n f))
    generalize inF f (q + 1) n = g at hw hEe hbd hcnt hnth hinf hsto hs8
    obtain ⟨L, hL⟩ : ∃ L, L = sts g 512 := ⟨_, rfl⟩
    rw [← hL] at hEe hbd
    obtain ⟨m, hm⟩ : ∃ m, m = L.length := ⟨_, rfl⟩
    have hcnt2 : Hid (∀ w, Calls Tryd.prog 35 #[.agg (wsA g)] w (Num w m)) := Lib.hid fun w => by have := hcnt.out w; rw [← hL, ← hm] at this; exact this
    rw [← hm] at hEe hbd
    replace T := Lib.hid T
    replace hEe := Lib.hid hEe
    replace hL := Lib.hid hL
    replace hm := Lib.hid hm
    have hwr : IntKind.i64.wrap ((q : Int) + 1) = (q : Int) + 1 := IntWalk.i64_in _ (by omega)
    clear h hcnt
    go_enter Tryd.func22, Tryd.ntmps22
    go_wp2_with (first
      | (go_at_call 18; (with_reducible refine (hC.out).mono ?_); rintro e w' ⟨rfl, rfl⟩)
      | (go_at_call 34; (with_reducible refine (hH.out).mono ?_); rintro e w' ⟨rfl, rfl⟩))
    have hdw := below_dr (Below.refl w.heap.size w) 1
    have hda := below_dr (below_new w (.cells #[.int .u64 0, .int .u64 0, .int .u64 0, .int .u64 0, .int .u64 0, .int .u64 0, .int .u64 0, .int .u64 0] 49)) 1
    have hma : Block ((w.alloc (.cells #[.int .u64 0, .int .u64 0, .int .u64 0, .int .u64 0, .int .u64 0, .int .u64 0, .int .u64 0, .int .u64 0] 49)).drew) w.heap.size 49 zero8 := (made8 w).only (only_drew [] _) (by simp)
    replace hma := Lib.hid hma
    go_region_held3 (fun w' => w'.cell? ⟨d, 0, none⟩ = some (.int .i64 n) ∧ w'.cell? ⟨d, 1, none⟩ = some (.int .u64 (wd f 0)) ∧ w'.cell? ⟨d, 2, none⟩ = some (.int .u64 (wd f 1)) ∧ w'.cell? ⟨d, 3, none⟩ = some (.int .u64 (wd f 2)) ∧ w'.cell? ⟨d, 4, none⟩ = some (.int .u64 (wd f 3)) ∧ w'.cell? ⟨d, 5, none⟩ = some (.int .u64 (wd f 4)) ∧ w'.cell? ⟨d, 6, none⟩ = some (.int .u64 (wd f 5)) ∧ w'.cell? ⟨d, 7, none⟩ = some (.int .u64 (wd f 6)) ∧ w'.cell? ⟨d, 8, none⟩ = some (.int .u64 (wd f 7))) (first | exact hc | exact hS.out _ (by assumption) | go_keep)
      (first
        | (go_at_call 31; (with_reducible refine (hw.out w.drew).mono ?_); rintro e w1 ⟨rfl, hb1'⟩; have hb1 : Below w.heap.size w w1 := below_next hdw hb1'; obtain ⟨w7, hst7, hB7, ho7⟩ := hsto.out _ _ (made8 w1); have hb8 := below_next hb1 (below_new w1 (.cells #[.int .u64 0, .int .u64 0, .int .u64 0, .int .u64 0, .int .u64 0, .int .u64 0, .int .u64 0, .int .u64 0] 49)); have hb7 : Below w.heap.size w w7 := below_made hb1 ho7)
        | (go_at_call 31; (with_reducible refine (hw.out (w.alloc (.cells #[.int .u64 0, .int .u64 0, .int .u64 0, .int .u64 0, .int .u64 0, .int .u64 0, .int .u64 0, .int .u64 0] 49)).drew).mono ?_); rintro e w1 ⟨rfl, hb1'⟩; have hb1 : Below w.heap.size w w1 := below_next hda hb1'; obtain ⟨w7, hst7, hB7, ho7⟩ := hsto.out w1 _ (hma.out.only (Only.of_below hb1' []) (by simp)); have hb7 : Below w.heap.size w w7 := below_on hb1 ho7 (Nat.le_refl _)))
    all_goals
      replace hB7 := Lib.hid hB7
      replace hb7 := Lib.hid hb7
      have hc7 := hcut.out w7 hb7.out
      have hcol7 := hc7.cols
      clear hst7 ho7 hb1' hb1 hdw hda hS hc hwr
      by_cases hkm : (m : Int) < k
      · have hE := hEe.out
        rw [if_pos hkm] at hE
        replace hE := Lib.hid hE
        have hn1 : (n : Int) - 1 = ((n - 1 : Nat) : Int) := by omega
        have hc9 := Lib.hid (fun w8 (hb : Below w7.heap.size w7 w8) => (hc7.below hb).cols)
        replace hn1 := Lib.hid hn1
        clear hc7 hcol7
        go_wp2_with (first
          | (with_reducible show wpList _ _ _ (⟨some 29, .load _ (.tmp 7), _, _, _, _⟩ :: _) _ _; go_must (refine wpList_load_row rfl _ (.tmp 7) rfl _ rfl _ (wsA g) (0, 0) _ (blk hB7.out) Tryd.underlying49 rfl hinf.out ?_))
          | (go_at_call 35; (with_reducible refine (hcnt2.out _).mono ?_); rintro e w8 ⟨rfl, hb8'⟩; have hcol8 := hc9.out w8 hb8'))
        go_ret
        exact ⟨ret_int (by rw [hn1.out, hE.out]), below_next hb7.out hb8'⟩
      · obtain ⟨K, rfl⟩ : ∃ K : Nat, k = K := ⟨k.toNat, by omega⟩
        have hK1 : 1 ≤ K := by omega
        have hK2 : K ≤ m := by omega
        have hE := hEe.out
        rw [if_neg hkm, Int.toNat_natCast] at hE
        have hN : Hid (∀ w, Tab w → Calls Tryd.prog 36 #[.agg (wsA g), .int .i64 K] w (Num w (L.getD (K - 1) 0))) := Lib.hid fun w T => by
          have := hnth.out w K hK1 (by rw [← hL.out, ← hm.out]; omega) T
          rw [← hL.out] at this
          exact this
        generalize L.getD (K - 1) 0 = x at hN hE
        replace hE := Lib.hid hE
        clear hc7 hcol7
        go_wp2_with (first
          | (with_reducible show wpList _ _ _ (⟨some 29, .load _ (.tmp 7), _, _, _, _⟩ :: _) _ _; go_must (refine wpList_load_row rfl _ (.tmp 7) rfl _ rfl _ (wsA g) (0, 0) _ (blk hB7.out) Tryd.underlying49 rfl hinf.out ?_))
          | (go_at_call 35; (with_reducible refine (hcnt2.out _).mono ?_); rintro e w8 ⟨rfl, hb8'⟩)
          | (with_reducible show wpList _ _ _ (⟨some 37, .load _ (.tmp 7), _, _, _, _⟩ :: _) _ _; go_must (refine wpList_load_row rfl _ (.tmp 7) rfl _ rfl _ (wsA g) (0, 0) _ (blk (hB7.out.only (Only.of_below hb8' []) (by simp))) Tryd.underlying49 rfl hinf.out ?_))
          | (go_at_call 36; (with_reducible refine (hN.out _ (T.out.below (below_next hb7.out hb8'))).mono ?_); rintro e w9 ⟨rfl, hb9'⟩))
        go_ret
        exact ⟨ret_int (by rw [hE.out]), below_next (below_next hb7.out hb8') hb9'⟩

end Go.Proofs.YtihmagpgbjlggaaDoor.Tbs
