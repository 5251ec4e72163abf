/-
  tabs: New, ClearAll, Copy, Stops.
-/
import Derived.Test.YtihmagpgbjlggaaDoorTTab
namespace Go.Proofs.YtihmagpgbjlggaaDoor.Tbs
open Go Go.RowKit Go.Proofs.YtihmagpgbjlggaaDoor.Com

theorem tab_stored (n : Nat) (f g : Nat → Bool) : (((tabL n f).toArray.toList.take 1 ++ ((wsA g).toList ++ (tabL n f).toArray.toList.drop (1 + (wsA g).size))).toArray) = (tabL n g).toArray := by
  rw [ws_size]
  simp only [tabL, wsA, List.take_succ_cons, List.take_zero]
  rw [List.drop_eq_nil_of_le (by simp [ws_len])]
  simp
theorem ws_eq (g : Nat → Bool) : wsA g = #[.int .u64 (wd g 0), .int .u64 (wd g 1), .int .u64 (wd g 2), .int .u64 (wd g 3), .int .u64 (wd g 4), .int .u64 (wd g 5), .int .u64 (wd g 6), .int .u64 (wd g 7)] := by
  simp [wsA, wsL, List.range_succ]
theorem tab_eq (n : Nat) (g : Nat → Bool) : (tabL n g).toArray = #[.int .i64 n, .int .u64 (wd g 0), .int .u64 (wd g 1), .int .u64 (wd g 2), .int .u64 (wd g 3), .int .u64 (wd g 4), .int .u64 (wd g 5), .int .u64 (wd g 6), .int .u64 (wd g 7)] := by simp [tabL, wsL, List.range_succ]
theorem TabsIn.nine {w : World} {d n : Nat} {f : Nat → Bool} (h : TabsIn w d n f) : w.cell? ⟨d, 0, none⟩ = some (.int .i64 n) ∧ w.cell? ⟨d, 1, none⟩ = some (.int .u64 (wd f 0)) ∧ w.cell? ⟨d, 2, none⟩ = some (.int .u64 (wd f 1)) ∧ w.cell? ⟨d, 3, none⟩ = some (.int .u64 (wd f 2)) ∧ w.cell? ⟨d, 4, none⟩ = some (.int .u64 (wd f 3)) ∧ w.cell? ⟨d, 5, none⟩ = some (.int .u64 (wd f 4)) ∧ w.cell? ⟨d, 6, none⟩ = some (.int .u64 (wd f 5)) ∧ w.cell? ⟨d, 7, none⟩ = some (.int .u64 (wd f 6)) ∧ w.cell? ⟨d, 8, none⟩ = some (.int .u64 (wd f 7)) := by
  have hb := h.blk
  rw [tab_eq] at hb
  exact ⟨hb.cell 0 rfl, hb.cell 1 rfl, hb.cell 2 rfl, hb.cell 3 rfl, hb.cell 4 rfl, hb.cell 5 rfl, hb.cell 6 rfl, hb.cell 7 rfl, hb.cell 8 rfl⟩
theorem fold_tab (n : Nat) (g : Nat → Bool) : Array.foldl (fun (cs : Array Value) (x : Value × Nat) => cs.setIfInBounds (1 + x.snd) x.fst) #[.int .i64 n, .int .u64 0, .int .u64 0, .int .u64 0, .int .u64 0, .int .u64 0, .int .u64 0, .int .u64 0, .int .u64 0] (wsA g).zipIdx 0 8 = (tabL n g).toArray := by
  rw [tab_eq, ws_eq]
  simp
theorem clearAll_no {w : World} {v : Value} (h : NoTabs w v) : Calls Tryd.prog 13 #[v] w (Err w 1) := by
  have hC := Lib.hid (cols_no h)
  obtain ⟨a, rfl⟩ := no_shape h
  clear h
  go_enter Tryd.func13, Tryd.ntmps13
  go_wp2_with ((go_at_call 18; (with_reducible refine (hC.out).mono ?_); rintro e w' ⟨rfl, rfl⟩))
  go_ret
  exact ⟨rfl, rfl⟩
set_option maxHeartbeats 1000000 in
theorem clearAll_any {w : World} {d n : Nat} {f : Nat → Bool} (h : TabsIn w d n f) (hn : 1 ≤ n) : Calls Tryd.prog 13 #[.pointer (some ⟨d, 0, none⟩)] w (Turned w d n (fun _ => false) 0) := by
  have hC := Lib.hid (cols_any w h)
  have hn0 : ((n : Int) == 0) = false := by simp; omega
  have hinf := ws_info (fun _ => false)
  have hsz : Hid (1 + (wsA (fun _ => false)).size ≤ (tabL n f).toArray.size) := Lib.hid (by rw [ws_size]; simp [tabL, ws_len])
  have hst := tab_stored n f (fun _ => false)
  have hone := ws_one (fun _ => false)
  have hsz := hsz.out
  rw [none_ws] at hst hinf hone hsz
  replace hst := Lib.hid hst
  replace hinf := Lib.hid hinf
  replace hone := Lib.hid hone
  replace hsz := Lib.hid hsz
  replace h := Lib.hid h
  go_enter Tryd.func13, Tryd.ntmps13
  go_wp2_with (first
    | (go_at_call 18; (with_reducible refine (hC.out).mono ?_); rintro e w' ⟨rfl, rfl⟩)
    | (with_reducible show wpList _ _ _ (⟨none, .store _ (.tmp 9) _, _, _, _, _⟩ :: _) _ _; go_must (refine wpList_storeAt rfl _ (.tmp 9) (.tmp 7) rfl h.out.blk zero8 rfl rfl hsz.out hinf.out hone.out ?_); intro w1 hd1 ho1))
  rw [hst.out] at hd1
  go_ret
  exact ⟨rfl, hd1, ho1⟩

set_option maxHeartbeats 1000000 in
theorem new_bad (n : Int) (h : ¬ (1 ≤ n ∧ n ≤ 512)) (w : World) : Calls Tryd.prog 6 #[.int .i64 n] w fun e w' => e = .returned (.tuple #[.pointer none, .int .i64 2]) ∧ w = w' := by
  have hm := Lib.hid (mayCount_any n w)
  rw [may_false h] at hm
  go_enter Tryd.func6, Tryd.ntmps6
  go_wp2_with ((go_at_call 26; (with_reducible refine (hm.out).mono ?_); rintro e w' ⟨rfl, rfl⟩))
  go_ret2
  exact ⟨rfl, rfl⟩
set_option maxHeartbeats 1000000 in
theorem new_ok (n : Nat) (h0 : 1 ≤ n) (h1 : n ≤ 512) (w : World) : Calls Tryd.prog 6 #[.int .i64 n] w fun e w' => ∃ d, e = .returned (.tuple #[.pointer (some ⟨d, 0, none⟩), .int .i64 0]) ∧ TabsIn w' d n (freshF 0 n) ∧ Below w.heap.size w w' ∧ w.heap.size ≤ d := by
  have hm := Lib.hid (mayCount_any n w)
  rw [may_true (by omega)] at hm
  have hf := fresh_any 0 n (by omega) (by omega)
  have hs8 := ws_size (freshF 0 n)
  have hfo := Lib.hid (fold_tab n (freshF 0 n))
  generalize freshF 0 n = g at hf hs8 hfo ⊢
  replace hf := Lib.hid hf
  have hz8 : (zero8).size = 8 := rfl
  go_enter Tryd.func6, Tryd.ntmps6
  go_wp2_with (first
    | (go_at_call 26; (with_reducible refine (hm.out).mono ?_); rintro e w' ⟨rfl, rfl⟩)
    | (go_at_call 27; (with_reducible refine (hf.out _).mono ?_); rintro e w' ⟨rfl, hb'⟩))
  rw [hfo.out]
  go_ret2
  exact ⟨_, rfl, Block.made w' _ _, below_next hb' (below_new _ _), hb'.size⟩

theorem copy_no {w : World} {v : Value} (h : NoTabs w v) : Calls Tryd.prog 17 #[v] w fun e w' => e = .returned (.pointer none) ∧ w = w' := by
  have hC := Lib.hid (cols_no h)
  obtain ⟨a, rfl⟩ := no_shape h
  clear h
  go_enter Tryd.func17, Tryd.ntmps17
  go_wp2_with ((go_at_call 18; (with_reducible refine (hC.out).mono ?_); rintro e w' ⟨rfl, rfl⟩))
  go_ret
  exact ⟨rfl, rfl⟩
set_option maxHeartbeats 1000000 in
theorem copy_any {w : World} {d n : Nat} {f : Nat → Bool} (h : TabsIn w d n f) (hn : 1 ≤ n) : Calls Tryd.prog 17 #[.pointer (some ⟨d, 0, none⟩)] w fun e w' => ∃ d', e = .returned (.pointer (some ⟨d', 0, none⟩)) ∧ TabsIn w' d' n f ∧ Below w.heap.size w w' ∧ w.heap.size ≤ d' := by
  have hC := Lib.hid (cols_any w h)
  have hn0 : ((n : Int) == 0) = false := by simp; omega
  have hc := h.nine
  have hm := Lib.hid (tab_eq n f)
  clear h
  go_enter Tryd.func17, Tryd.ntmps17
  go_wp2_with (first
    | (go_at_call 18; (with_reducible refine (hC.out).mono ?_); rintro e w' ⟨rfl, rfl⟩))
  go_region_held3 (fun w' => w'.cell? ⟨d, 0, none⟩ = some (.int .i64 n) ∧ w'.cell? ⟨d, 1, none⟩ = some (.int .u64 (wd f 0)) ∧ w'.cell? ⟨d, 2, none⟩ = some (.int .u64 (wd f 1)) ∧ w'.cell? ⟨d, 3, none⟩ = some (.int .u64 (wd f 2)) ∧ w'.cell? ⟨d, 4, none⟩ = some (.int .u64 (wd f 3)) ∧ w'.cell? ⟨d, 5, none⟩ = some (.int .u64 (wd f 4)) ∧ w'.cell? ⟨d, 6, none⟩ = some (.int .u64 (wd f 5)) ∧ w'.cell? ⟨d, 7, none⟩ = some (.int .u64 (wd f 6)) ∧ w'.cell? ⟨d, 8, none⟩ = some (.int .u64 (wd f 7))) (first | exact hc | go_keep) (fail)
  go_wp2
  go_ret
  refine ⟨_, rfl, ?_, below_dr (below_new _ _) 1, Nat.le_refl _⟩
  unfold TabsIn
  rw [hm.out]
  exact (Block.made w _ _).only (only_drew [] _) (by simp)

theorem stops_no {w : World} {v : Value} (h : NoTabs w v) : Calls Tryd.prog 20 #[v] w fun e w' => e = .returned (.slice none 0 0) ∧ w = w' := by
  have hC := Lib.hid (cols_no h)
  obtain ⟨a, rfl⟩ := no_shape h
  clear h
  go_enter Tryd.func20, Tryd.ntmps20
  go_wp2_with ((go_at_call 18; (with_reducible refine (hC.out).mono ?_); rintro e w' ⟨rfl, rfl⟩))
  go_ret
  exact ⟨rfl, rfl⟩
theorem stops_any {w : World} {d n : Nat} {f : Nat → Bool} (h : TabsIn w d n f) (hn : 1 ≤ n) (T : Tab w) : Calls Tryd.prog 20 #[.pointer (some ⟨d, 0, none⟩)] w (Shown w (stsI f 512)) := by
  have hC := Lib.hid (cols_any w h)
  have hn0 : ((n : Int) == 0) = false := by simp; omega
  have hi : (Tryd.prog.info? 49).map (·.size) = some (wsL f).length := by rw [ws_len]; kernel_rfl
  have hr0 := Lib.hid h.range
  have hA : Hid (Calls Tryd.prog 33 #[.agg (wsL f).toArray] w (Shown w (stsI f 512))) := Lib.hid (all_any f w T)
  replace hi := Lib.hid hi
  clear h T
  go_enter Tryd.func20, Tryd.ntmps20
  go_wp2_with (first
    | (go_at_call 18; (with_reducible refine (hC.out).mono ?_); rintro e w' ⟨rfl, rfl⟩)
    | (with_reducible show wpList _ _ _ (⟨some 9, .load _ (.tmp 8), _, _, _, _⟩ :: _) _ _; go_must (refine wpList_load_mid rfl _ (.tmp 8) rfl d 1 rfl (wsL f) _ hr0.out Tryd.underlying49 rfl hi.out ?_))
    | (go_at_call 33; (with_reducible refine (hA.out).mono ?_); rintro e w' ⟨v, rfl, hown, hb⟩; obtain ⟨a3, n3, c3, rfl⟩ := own_slice hown))
  go_ret
  exact ⟨_, rfl, hown, hb⟩

end Go.Proofs.YtihmagpgbjlggaaDoor.Tbs
