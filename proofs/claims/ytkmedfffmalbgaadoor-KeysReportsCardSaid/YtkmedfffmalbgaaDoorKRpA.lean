/-
  keys: KeysReports.
-/
import Derived.Test.YtkmedfffmalbgaaDoorKArr
import Derived.Test.YtkmedfffmalbgaaDoorKRun
namespace Go.Proofs.YtkmedfffmalbgaaDoor.Kys
open Go Go.RowKit Go.Proofs.YtkmedfffmalbgaaDoor.Com Go.Proofs.YtkmedfffmalbgaaDoor.Mds

set_option maxHeartbeats 8000000 in
theorem reports_arrow (m : Md) (row col kd : Int) (hr : row ≤ 9223372036854775807) (hc : col ≤ 9223372036854775807) (h0 : 0 ≤ kd ∧ kd ≤ 255) (h : 2 ≤ kd ∧ kd ≤ 5) (W : World) (hT : Tab W) :
    Calls Tryd.prog 4 #[.agg (mA m), .int .i64 row, .int .i64 col, .int .u8 kd] W (Yes W) := by
  have hb0 := Lib.hid (below_new W (.cells (mA m) 23))
  have hd0 := Lib.hid (MB.made W m)
  have hAr := fun w' hT' => arrow_any m kd h0 w' hT'
  have hCu := Lib.hid (fun w' hT' => cursor_any row col hr hc w' hT')
  have hRc := Lib.hid (fun w' => rcursor_any row col hr hc w')
  have hRe := fun w' => renc_arrow m h w'
  obtain ⟨A, hA⟩ : ∃ A, A = arF m.a2 kd := ⟨_, rfl⟩
  rw [← hA] at hAr hRe
  replace hRe := Lib.hid hRe
  have hge : (decide (2 ≤ kd)) = true := decide_eq_true h.1
  have hle : (decide (kd ≤ 5)) = true := decide_eq_true h.2
  obtain ⟨X, hX⟩ : ∃ X, X = curF row col := ⟨_, rfl⟩
  rw [← hX] at hCu hRc
  have hs1 := sta_s
  have hs2 := dev_s
  replace hAr := Lib.hid hAr
  replace hT := Lib.hid hT
  clear hA hX hr hc h0
  go_enter Tryd.func4, Tryd.ntmps4
  go_wp2_with (first
    | (with_reducible show wpList _ _ _ (⟨some 13, .load _ (.tmp 4), _, _, _, _⟩ :: _) _ _; go_must (refine wpList_load_m rfl (.tmp 4) rfl rfl hd0.out ?_))
    | (go_at_call 11; (with_reducible refine (hAr.out _ (hT.out.below hb0.out)).mono ?_); rintro e w1 ⟨v1, rfl, hr1, hc1⟩; obtain ⟨a1, c1, rfl, _, _, hn1⟩ := hr1.shape; replace hn1 := Lib.hid hn1; have hd1 := Lib.hid (hd0.out.below hc1); have hb1 := Lib.hid (below_next hb0.out hc1); clear hc1 hd0 hb0 hr1)
    | (with_reducible show wpList _ _ _ (⟨some 23, .load _ (.tmp 4), _, _, _, _⟩ :: _) _ _; go_must (refine wpList_load_m rfl (.tmp 4) rfl rfl hd1.out ?_))
    | (go_at_call 12; (with_reducible refine (hRe.out _).mono ?_); rintro e w2 ⟨v2, rfl, hr2, hc2⟩; obtain ⟨a2, c2, rfl, _, _, hn2⟩ := hr2.shape; replace hn2 := Lib.hid hn2; replace hn1 := Lib.hid (nums_next hn1.out hc2); have hb2 := Lib.hid (below_next hb1.out hc2); clear hc2 hb1 hr2)
    | (with_reducible show wpList _ _ _ (⟨some 30, .convert _ _ _, _, _, _, _⟩ :: _) _ _; go_must (refine wpList_text rfl (.tmp 29) rfl Tryd.underlying26 Tryd.underlying5 Tryd.underlying9 c2 hn2.out rfl ?_)))
  replace hn1 := Lib.hid (nums_drew hn1.out)
  have hbS := Lib.hid (below_drew hb2.out)
  clear hb2
  refine wp_region_held_drew (S := fun w' => ((convert 26 9 (.slice a1 A.length c1)).run Tryd.prog w' = .ok (.string (strOfNums A)) w')) (by kernel_rfl) (by exact text_of hn1.out c1) (fun hH => ?_)
  refine wpAnyH_take (i := 0) (oi := ⟨some 31, _, _, _, _, _⟩) (v := ?_) rfl (by kernel_rfl) (by kernel_rfl) (by kernel_rfl) (fun _ _ _ h => h) (Or.inl ⟨by rfl, ?_⟩) hH ?_
  rotate_left 1
  · (intro w hSw; (try dsimp only at hSw); go_simp) <;> with_reducible rfl
  try simp only [Act.put, List.setIfInBounds_toArray, List.set_cons_zero, List.set_cons_succ]
  refine wpAnyH_take (i := 1) (oi := ⟨some 32, _, _, _, _, _⟩) (v := ?_) rfl (by kernel_rfl) (by kernel_rfl) (by kernel_rfl) (fun _ _ _ h => h) (Or.inl ⟨by rfl, ?_⟩) hH ?_
  rotate_left 1
  · (intro w hSw; (try dsimp only at hSw); go_simp) <;> with_reducible rfl
  try simp only [Act.put, List.setIfInBounds_toArray, List.set_cons_zero, List.set_cons_succ]
  refine wpAnyH_take (i := 2) (oi := ⟨some 33, _, _, _, _, _⟩) (v := ?_) rfl (by kernel_rfl) (by kernel_rfl) (by kernel_rfl) (fun _ _ _ h => h) (Or.inl ⟨by rfl, ?_⟩) hH ?_
  rotate_left 1
  · (intro w hSw; (try dsimp only at hSw); go_simp) <;> with_reducible rfl
  try simp only [Act.put, List.setIfInBounds_toArray, List.set_cons_zero, List.set_cons_succ]
  refine wpAnyH_take (i := 3) (oi := ⟨some 34, _, _, _, _, _⟩) (v := ?_) rfl (by kernel_rfl) (by kernel_rfl) (by kernel_rfl) (fun _ _ _ h => h) (Or.inl ⟨by rfl, ?_⟩) hH ?_
  rotate_left 1
  · (intro w hSw; (try dsimp only at hSw); go_simp) <;> with_reducible rfl
  try simp only [Act.put, List.setIfInBounds_toArray, List.set_cons_zero, List.set_cons_succ]
  refine wpAnyH_take (i := 4) (oi := ⟨some 35, _, _, _, _, _⟩) (v := ?_) rfl (by kernel_rfl) (by kernel_rfl) (by kernel_rfl) (fun _ _ _ h => h) (Or.inl ⟨by rfl, ?_⟩) hH ?_
  rotate_left 1
  · (intro w hSw; (try dsimp only at hSw); go_simp) <;> with_reducible rfl
  try simp only [Act.put, List.setIfInBounds_toArray, List.set_cons_zero, List.set_cons_succ]
  refine wpAnyH_take (i := 5) (oi := ⟨some 36, _, _, _, _, _⟩) (v := ?_) rfl (by kernel_rfl) (by kernel_rfl) (by kernel_rfl) (fun _ _ _ h => h) (Or.inl ⟨by rfl, ?_⟩) hH ?_
  rotate_left 1
  · (intro w hSw; (try dsimp only at hSw); go_simp) <;> with_reducible rfl
  try simp only [Act.put, List.setIfInBounds_toArray, List.set_cons_zero, List.set_cons_succ]
  refine wpAnyH_take (i := 6) (oi := ⟨some 37, _, _, _, _, _⟩) (v := ?_) rfl (by kernel_rfl) (by kernel_rfl) (by kernel_rfl) (fun _ _ _ h => h) (Or.inl ⟨by rfl, ?_⟩) hH ?_
  rotate_left 1
  · (intro w hSw; (try dsimp only at hSw); go_simp) <;> with_reducible rfl
  try simp only [Act.put, List.setIfInBounds_toArray, List.set_cons_zero, List.set_cons_succ]
  refine wpAnyH_take (i := 9) (oi := ⟨some 40, _, _, _, _, _⟩) (v := ?_) rfl (by kernel_rfl) (by kernel_rfl) (by kernel_rfl) (fun _ _ _ h => h) (Or.inl ⟨by rfl, ?_⟩) hH ?_
  rotate_left 1
  · (intro w hSw; (try dsimp only at hSw); go_simp) <;> with_reducible rfl
  try simp only [Act.put, List.setIfInBounds_toArray, List.set_cons_zero, List.set_cons_succ]
  refine wpAnyH_take (i := 10) (oi := ⟨some 41, _, _, _, _, _⟩) (v := ?_) rfl (by kernel_rfl) (by kernel_rfl) (by kernel_rfl) (fun _ _ _ h => h) (Or.inl ⟨by rfl, ?_⟩) hH ?_
  rotate_left 1
  · (intro w hSw; (try dsimp only at hSw); go_simp) <;> with_reducible rfl
  try simp only [Act.put, List.setIfInBounds_toArray, List.set_cons_zero, List.set_cons_succ]
  refine wpAnyH_ready (rs := [7]) (by kernel_rfl) (by simp) ?_
  refine AllReadyH.cons (o := ⟨some 38, _, _, _, _, _⟩) rfl (fun K hK => ?_) AllReadyH.nil
  go_simp
  go_at_call 13; refine (hCu.out _ (hT.out.below hbS.out)).mono ?_; rintro e u7 ⟨x7, rfl, hr7, hc7⟩; obtain ⟨a7, c7, rfl, _, _, hn7⟩ := hr7.shape; replace hn7 := Lib.hid hn7; replace hn1 := Lib.hid (nums_next hn1.out hc7); replace hbS := Lib.hid (below_next hbS.out hc7); clear hr7 hc7
  refine hK.out _ _ (by exact text_of hn1.out c1) (fun hH => ?_)
  clear hK K
  refine held_mono (S' := fun w' => (((convert 26 9 (.slice a1 A.length c1)).run Tryd.prog w' = .ok (.string (strOfNums A)) w')) ∧ ((convert 26 9 (.slice a7 X.length c7)).run Tryd.prog w' = .ok (.string (strOfNums X)) w')) (fun _ h => h.1) _ _ _ _ ?_
  replace hH := And.intro hH (text_of hn7.out c7)
  try simp only [Act.put, List.setIfInBounds_toArray, List.set_cons_zero, List.set_cons_succ]
  refine wpAnyH_take (i := 8) (oi := ⟨some 39, _, _, _, _, _⟩) (v := ?_) rfl (by kernel_rfl) (by kernel_rfl) (by kernel_rfl) (fun _ _ _ h => h) (Or.inl ⟨by rfl, ?_⟩) hH ?_
  rotate_left 1
  · (intro w hSw; (try dsimp only at hSw); go_simp) <;> with_reducible rfl
  try simp only [Act.put, List.setIfInBounds_toArray, List.set_cons_zero, List.set_cons_succ]
  refine wpAnyH_ready (rs := [11]) (by kernel_rfl) (by simp) ?_
  refine AllReadyH.cons (o := ⟨some 42, _, _, _, _, _⟩) rfl (fun K hK => ?_) AllReadyH.nil
  go_simp
  go_at_call 14; refine (hRc.out _).mono ?_; rintro e u8 ⟨x8, rfl, hr8, hc8⟩; obtain ⟨a8, c8, rfl, _, _, hn8⟩ := hr8.shape; replace hn8 := Lib.hid hn8; replace hn1 := Lib.hid (nums_next hn1.out hc8); replace hn7 := Lib.hid (nums_next hn7.out hc8); replace hbS := Lib.hid (below_next hbS.out hc8); clear hr8 hc8
  refine hK.out _ _ (by exact ⟨text_of hn1.out c1, text_of hn7.out c7⟩) (fun hH => ?_)
  clear hK K
  refine held_mono (S' := fun w' => ((((convert 26 9 (.slice a1 A.length c1)).run Tryd.prog w' = .ok (.string (strOfNums A)) w')) ∧ ((convert 26 9 (.slice a7 X.length c7)).run Tryd.prog w' = .ok (.string (strOfNums X)) w')) ∧ ((convert 26 9 (.slice a8 X.length c8)).run Tryd.prog w' = .ok (.string (strOfNums X)) w')) (fun _ h => h.1) _ _ _ _ ?_
  replace hH := And.intro hH (text_of hn8.out c8)
  try simp only [Act.put, List.setIfInBounds_toArray, List.set_cons_zero, List.set_cons_succ]
  refine wpAnyH_take (i := 12) (oi := ⟨some 43, _, _, _, _, _⟩) (v := ?_) rfl (by kernel_rfl) (by kernel_rfl) (by kernel_rfl) (fun _ _ _ h => h) (Or.inl ⟨by rfl, ?_⟩) hH ?_
  rotate_left 1
  · (intro w hSw; (try dsimp only at hSw); go_simp) <;> with_reducible rfl
  try simp only [Act.put, List.setIfInBounds_toArray, List.set_cons_zero, List.set_cons_succ]
  refine wpAnyH_take (i := 13) (oi := ⟨some 44, _, _, _, _, _⟩) (v := ?_) rfl (by kernel_rfl) (by kernel_rfl) (by kernel_rfl) (fun _ _ _ h => h) (Or.inl ⟨by rfl, ?_⟩) hH ?_
  rotate_left 1
  · (intro w hSw; (try dsimp only at hSw); go_simp) <;> with_reducible rfl
  try simp only [Act.put, List.setIfInBounds_toArray, List.set_cons_zero, List.set_cons_succ]
  refine wpAnyH_take (i := 14) (oi := ⟨some 45, _, _, _, _, _⟩) (v := ?_) rfl (by kernel_rfl) (by kernel_rfl) (by kernel_rfl) (fun _ _ _ h => h) (Or.inl ⟨by rfl, ?_⟩) hH ?_
  rotate_left 1
  · (intro w hSw; (try dsimp only at hSw); go_simp) <;> with_reducible rfl
  try simp only [Act.put, List.setIfInBounds_toArray, List.set_cons_zero, List.set_cons_succ]
  refine wpAnyH_take (i := 15) (oi := ⟨some 46, _, _, _, _, _⟩) (v := ?_) rfl (by kernel_rfl) (by kernel_rfl) (by kernel_rfl) (fun _ _ _ h => h) (Or.inl ⟨by rfl, ?_⟩) hH ?_
  rotate_left 1
  · (intro w hSw; (try dsimp only at hSw); go_simp) <;> with_reducible rfl
  try simp only [Act.put, List.setIfInBounds_toArray, List.set_cons_zero, List.set_cons_succ]
  refine wpAnyH_ready (rs := [16]) (by kernel_rfl) (by simp) ?_
  refine AllReadyH.cons (o := ⟨some 47, _, _, _, _, _⟩) rfl (fun K hK => ?_) AllReadyH.nil
  go_simp
  go_at_call 15; refine (status_any _ (hT.out.below hbS.out)).mono ?_; rintro e u9 ⟨x9, rfl, hr9, hc9⟩; obtain ⟨a9, c9, rfl, _, _, hn9⟩ := hr9.shape; replace hn9 := Lib.hid hn9; replace hn1 := Lib.hid (nums_next hn1.out hc9); replace hn7 := Lib.hid (nums_next hn7.out hc9); replace hn8 := Lib.hid (nums_next hn8.out hc9); replace hbS := Lib.hid (below_next hbS.out hc9); clear hr9 hc9
  refine hK.out _ _ (by exact ⟨⟨text_of hn1.out c1, text_of hn7.out c7⟩, text_of hn8.out c8⟩) (fun hH => ?_)
  clear hK K
  refine held_mono (S' := fun w' => (((((convert 26 9 (.slice a1 A.length c1)).run Tryd.prog w' = .ok (.string (strOfNums A)) w')) ∧ ((convert 26 9 (.slice a7 X.length c7)).run Tryd.prog w' = .ok (.string (strOfNums X)) w')) ∧ ((convert 26 9 (.slice a8 X.length c8)).run Tryd.prog w' = .ok (.string (strOfNums X)) w')) ∧ ((convert 26 9 (.slice a9 staF.length c9)).run Tryd.prog w' = .ok (.string (strOfNums staF)) w')) (fun _ h => h.1) _ _ _ _ ?_
  replace hH := And.intro hH (text_of hn9.out c9)
  try simp only [Act.put, List.setIfInBounds_toArray, List.set_cons_zero, List.set_cons_succ]
  refine wpAnyH_take (i := 17) (oi := ⟨some 48, _, _, _, _, _⟩) (v := ?_) rfl (by kernel_rfl) (by kernel_rfl) (by kernel_rfl) (fun _ _ _ h => h) (Or.inl ⟨by rfl, ?_⟩) hH ?_
  rotate_left 1
  · (intro w hSw; (try dsimp only at hSw); go_simp) <;> with_reducible rfl
  try simp only [Act.put, List.setIfInBounds_toArray, List.set_cons_zero, List.set_cons_succ]
  refine wpAnyH_take (i := 18) (oi := ⟨some 49, _, _, _, _, _⟩) (v := ?_) rfl (by kernel_rfl) (by kernel_rfl) (by kernel_rfl) (fun _ _ _ h => h) (Or.inl ⟨by rfl, ?_⟩) hH ?_
  rotate_left 1
  · (intro w hSw; (try dsimp only at hSw); go_simp) <;> with_reducible rfl
  try simp only [Act.put, List.setIfInBounds_toArray, List.set_cons_zero, List.set_cons_succ]
  refine wpAnyH_take (i := 19) (oi := ⟨some 50, _, _, _, _, _⟩) (v := ?_) rfl (by kernel_rfl) (by kernel_rfl) (by kernel_rfl) (fun _ _ _ h => h) (Or.inl ⟨by rfl, ?_⟩) hH ?_
  rotate_left 1
  · (intro w hSw; (try dsimp only at hSw); go_simp) <;> with_reducible rfl
  try simp only [Act.put, List.setIfInBounds_toArray, List.set_cons_zero, List.set_cons_succ]
  refine wpAnyH_take (i := 20) (oi := ⟨some 51, _, _, _, _, _⟩) (v := ?_) rfl (by kernel_rfl) (by kernel_rfl) (by kernel_rfl) (fun _ _ _ h => h) (Or.inl ⟨by rfl, ?_⟩) hH ?_
  rotate_left 1
  · (intro w hSw; (try dsimp only at hSw); go_simp) <;> with_reducible rfl
  try simp only [Act.put, List.setIfInBounds_toArray, List.set_cons_zero, List.set_cons_succ]
  refine wpAnyH_ready (rs := [21]) (by kernel_rfl) (by simp) ?_
  refine AllReadyH.cons (o := ⟨some 52, _, _, _, _, _⟩) rfl (fun K hK => ?_) AllReadyH.nil
  go_simp
  go_at_call 16; refine (device_any _ (hT.out.below hbS.out)).mono ?_; rintro e u10 ⟨x10, rfl, hr10, hc10⟩; obtain ⟨a10, c10, rfl, _, _, hn10⟩ := hr10.shape; replace hn10 := Lib.hid hn10; replace hn1 := Lib.hid (nums_next hn1.out hc10); replace hn7 := Lib.hid (nums_next hn7.out hc10); replace hn8 := Lib.hid (nums_next hn8.out hc10); replace hn9 := Lib.hid (nums_next hn9.out hc10); replace hbS := Lib.hid (below_next hbS.out hc10); clear hr10 hc10
  refine hK.out _ _ (by exact ⟨⟨⟨text_of hn1.out c1, text_of hn7.out c7⟩, text_of hn8.out c8⟩, text_of hn9.out c9⟩) (fun hH => ?_)
  clear hK K
  refine held_mono (S' := fun w' => ((((((convert 26 9 (.slice a1 A.length c1)).run Tryd.prog w' = .ok (.string (strOfNums A)) w')) ∧ ((convert 26 9 (.slice a7 X.length c7)).run Tryd.prog w' = .ok (.string (strOfNums X)) w')) ∧ ((convert 26 9 (.slice a8 X.length c8)).run Tryd.prog w' = .ok (.string (strOfNums X)) w')) ∧ ((convert 26 9 (.slice a9 staF.length c9)).run Tryd.prog w' = .ok (.string (strOfNums staF)) w')) ∧ ((convert 26 9 (.slice a10 devF.length c10)).run Tryd.prog w' = .ok (.string (strOfNums devF)) w')) (fun _ h => h.1) _ _ _ _ ?_
  replace hH := And.intro hH (text_of hn10.out c10)
  try simp only [Act.put, List.setIfInBounds_toArray, List.set_cons_zero, List.set_cons_succ]
  refine wpAnyH_take (i := 22) (oi := ⟨some 53, _, _, _, _, _⟩) (v := ?_) rfl (by kernel_rfl) (by kernel_rfl) (by kernel_rfl) (fun _ _ _ h => h) (Or.inl ⟨by rfl, ?_⟩) hH ?_
  rotate_left 1
  · (intro w hSw; (try dsimp only at hSw); go_simp) <;> with_reducible rfl
  try simp only [Act.put, List.setIfInBounds_toArray, List.set_cons_zero, List.set_cons_succ]
  refine wpAnyH_take (i := 23) (oi := ⟨some 54, _, _, _, _, _⟩) (v := ?_) rfl (by kernel_rfl) (by kernel_rfl) (by kernel_rfl) (fun _ _ _ h => h) (Or.inl ⟨by rfl, ?_⟩) hH ?_
  rotate_left 1
  · (intro w hSw; (try dsimp only at hSw); go_simp) <;> with_reducible rfl
  try simp only [Act.put, List.setIfInBounds_toArray, List.set_cons_zero, List.set_cons_succ]
  refine wpAnyH_take (i := 24) (oi := ⟨some 55, _, _, _, _, _⟩) (v := ?_) rfl (by kernel_rfl) (by kernel_rfl) (by kernel_rfl) (fun _ _ _ h => h) (Or.inl ⟨by rfl, ?_⟩) hH ?_
  rotate_left 1
  · (intro w hSw; (try dsimp only at hSw); go_simp) <;> with_reducible rfl
  try simp only [Act.put, List.setIfInBounds_toArray, List.set_cons_zero, List.set_cons_succ]
  refine wpAnyH_take (i := 25) (oi := ⟨some 56, _, _, _, _, _⟩) (v := ?_) rfl (by kernel_rfl) (by kernel_rfl) (by kernel_rfl) (fun _ _ _ h => h) (Or.inl ⟨by rfl, ?_⟩) hH ?_
  rotate_left 1
  · (intro w hSw; (try dsimp only at hSw); go_simp) <;> with_reducible rfl
  try simp only [Act.put, List.setIfInBounds_toArray, List.set_cons_zero, List.set_cons_succ]
  refine wpAnyH_ready (rs := [26]) (by kernel_rfl) (by simp) ?_
  refine AllReadyH.cons (o := ⟨some 57, _, _, _, _, _⟩) rfl (fun K hK => ?_) AllReadyH.nil
  go_simp
  go_at_call 8; refine (known_any _ (hT.out.below hbS.out)).mono ?_; rintro e uK ⟨rfl, hcK⟩
  refine hK.out _ _ (by exact ⟨⟨⟨⟨text_of (nums_next hn1.out hcK) c1, text_of (nums_next hn7.out hcK) c7⟩, text_of (nums_next hn8.out hcK) c8⟩, text_of (nums_next hn9.out hcK) c9⟩, text_of (nums_next hn10.out hcK) c10⟩) (fun hH => ?_)
  clear hK K
  try simp only [Act.put, List.setIfInBounds_toArray, List.set_cons_zero, List.set_cons_succ]
  refine wpAnyH_take (i := 27) (oi := ⟨some 58, _, _, _, _, _⟩) (v := ?_) rfl (by kernel_rfl) (by kernel_rfl) (by kernel_rfl) (fun _ _ _ h => h) (Or.inl ⟨by rfl, ?_⟩) hH ?_
  rotate_left 1
  · (intro w hSw; (try dsimp only at hSw); go_simp) <;> with_reducible rfl
  try simp only [Act.put, List.setIfInBounds_toArray, List.set_cons_zero, List.set_cons_succ]
  refine wpAnyH_take (i := 28) (oi := ⟨some 8, _, _, _, _, _⟩) (v := ?_) rfl (by kernel_rfl) (by kernel_rfl) (by kernel_rfl) (fun _ _ _ h => h) (Or.inl ⟨by rfl, ?_⟩) hH ?_
  rotate_left 1
  · (intro w hSw; (try dsimp only at hSw); go_simp) <;> with_reducible rfl
  try simp only [Act.put, List.setIfInBounds_toArray, List.set_cons_zero, List.set_cons_succ]
  refine wpAnyH_done (by kernel_rfl) ?_ _
  go_wp2
  go_ret
  exact ⟨rfl, below_next hbS.out hcK⟩

end Go.Proofs.YtkmedfffmalbgaaDoor.Kys
