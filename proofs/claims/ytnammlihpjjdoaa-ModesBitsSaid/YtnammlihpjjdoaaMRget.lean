/-
  modes: the reference's Get and Put.
-/
import Derived.Test.YtnammlihpjjdoaaMRef
namespace Go.Proofs.Ytnammlihpjjdoaa.Mds
open Go Go.RowKit Go.Proofs.Ytnammlihpjjdoaa.Com

theorem place_at {p : Bool} {n : Int} {k : Nat} (hs : spot p n = k) (w : World) : Calls Try.prog 21 #[.bool p, .int .i64 n] w (PlaceIs (pow k) w) := by
  have := place_any p n w
  rw [hs] at this
  exact this
set_option maxHeartbeats 1000000 in
theorem rget_no (m : Md) (p : Bool) (n : Int) (hs : spot p n = 8) (w : World) : Calls Try.prog 12 #[.agg (mA m), .bool p, .int .i64 n] w (GetIs m p n w) := by
  have hE : Hid (m.has p n = false ∧ known p n = false) := ⟨by unfold Md.has; rw [hs]; rfl, by unfold known; rw [hs]; rfl⟩
  have hb0 := Lib.hid (below_new w (.cells (mA m) 23))
  have hpl := Lib.hid (fun w' => place_at hs w')
  clear hs
  go_enter Try.func12, Try.ntmps12
  go_wp2_with (go_at_call 21; refine (hpl.out _).mono ?_; rintro e w' ⟨rfl, rfl⟩; dsimp only [pow])
  go_ret2
  exact ⟨by rw [hE.out.1, hE.out.2]; rfl, hb0.out⟩
set_option maxHeartbeats 1000000 in
theorem rput_no (m : Md) (p : Bool) (n : Int) (on : Bool) (hs : spot p n = 8) (w : World) : Calls Try.prog 9 #[.agg (mA m), .bool p, .int .i64 n, .bool on] w (PutIs m p n on w) := by
  have hE : Hid (m.put p n on = m ∧ known p n = false) := ⟨by unfold Md.put; rw [hs]; rfl, by unfold known; rw [hs]; rfl⟩
  have hb0 := Lib.hid (below_two w m)
  have hm0 := Lib.hid (two_m w m)
  have hr0 := Lib.hid (two_r w m)
  have hpl := Lib.hid (fun w' => place_at hs w')
  have hinf := Lib.hid (mA_info m)
  clear hs
  go_enter Try.func9, Try.ntmps9
  go_wp2_with (first
    | (go_at_call 21; refine (hpl.out _).mono ?_; rintro e w' ⟨rfl, rfl⟩; dsimp only [pow])
    | (with_reducible show wpList _ _ _ (⟨some 19, .load _ (.tmp 4), _, _, _, _⟩ :: _) _ _; go_must (refine wpList_load_row rfl _ (.tmp 4) rfl w.heap.size rfl _ (mA m) (0, 0) _ (blk hm0.out.blk) Try.underlying23 rfl hinf.out ?_))
    | (with_reducible show wpList _ _ _ (⟨none, .store _ (.tmp 8) _, _, _, _, _⟩ :: _) _ _; go_must (refine wpList_storeAll rfl _ (.tmp 8) (.tmp 19) rfl hr0.out.blk (mA m) rfl rfl hinf.out rfl (mA_one m) ?_); intro w2 hd2 ho2))
  exact end_mb rfl rfl rfl rfl (MB.of hd2) ⟨by rw [hE.out.1, hE.out.2]; rfl, hb0.out.trans (ho2.below hb0.out.size (by simp))⟩
set_option maxHeartbeats 1000000 in
theorem rget_0 (m : Md) (p : Bool) (n : Int) (hs : spot p n = 0) (w : World) : Calls Try.prog 12 #[.agg (mA m), .bool p, .int .i64 n] w (GetIs m p n w) := by
  have hE : Hid (m.has p n = decide (m.bits % 2 = 1) ∧ known p n = true) := ⟨by unfold Md.has; rw [hs]; rw [← bits_get m (by omega)]; simp [pow], by unfold known; rw [hs]; rfl⟩
  have hb0 := Lib.hid (below_new w (.cells (mA m) 23))
  have hm0 := Lib.hid (MB.made w m)
  have hinf := Lib.hid (mA_info m)
  have hpl := Lib.hid (fun w' => place_at hs w')
  have hb1 := bits_ge m
  have hb2 := bits_lt m
  clear hs
  go_enter Try.func12, Try.ntmps12
  go_wp2_with (first
    | (go_at_call 21; refine (hpl.out _).mono ?_; rintro e w' ⟨rfl, rfl⟩; dsimp only [pow])
    | (with_reducible show wpList _ _ _ (⟨some 14, .load _ (.tmp 3), _, _, _, _⟩ :: _) _ _; go_must (refine wpList_load_row rfl _ (.tmp 3) rfl w.heap.size rfl _ (mA m) (0, 0) _ (blk hm0.out.blk) Try.underlying23 rfl hinf.out ?_))
    | (go_at_call 16; (with_reducible refine (rbits_any _ _).mono ?_); rintro e w1 ⟨rfl, hw1⟩; have hb3 := Lib.hid (below_next hb0.out hw1)))
  go_ret2
  exact ⟨by rw [hE.out.1, hE.out.2]; rfl, hb3.out⟩
theorem rget_1 (m : Md) (p : Bool) (n : Int) (hs : spot p n = 1) (w : World) : Calls Try.prog 12 #[.agg (mA m), .bool p, .int .i64 n] w (GetIs m p n w) := by
  have hE : Hid (m.has p n = decide (m.bits / pow 1 % 2 = 1) ∧ known p n = true) := ⟨by unfold Md.has; rw [hs]; exact (bits_get m (by omega)).symm, by unfold known; rw [hs]; rfl⟩
  have hb0 := Lib.hid (below_new w (.cells (mA m) 23))
  have hm0 := Lib.hid (MB.made w m)
  have hinf := Lib.hid (mA_info m)
  have hpl := Lib.hid (fun w' => place_at hs w')
  have hb1 := bits_ge m
  have hb2 := bits_lt m
  clear hs
  go_enter Try.func12, Try.ntmps12
  go_wp2_with (first
    | (go_at_call 21; refine (hpl.out _).mono ?_; rintro e w' ⟨rfl, rfl⟩; dsimp only [pow])
    | (with_reducible show wpList _ _ _ (⟨some 14, .load _ (.tmp 3), _, _, _, _⟩ :: _) _ _; go_must (refine wpList_load_row rfl _ (.tmp 3) rfl w.heap.size rfl _ (mA m) (0, 0) _ (blk hm0.out.blk) Try.underlying23 rfl hinf.out ?_))
    | (go_at_call 16; (with_reducible refine (rbits_any _ _).mono ?_); rintro e w1 ⟨rfl, hw1⟩; have hb3 := Lib.hid (below_next hb0.out hw1)))
  go_ret2
  exact ⟨by rw [hE.out.1, hE.out.2]; rfl, hb3.out⟩
theorem rget_2 (m : Md) (p : Bool) (n : Int) (hs : spot p n = 2) (w : World) : Calls Try.prog 12 #[.agg (mA m), .bool p, .int .i64 n] w (GetIs m p n w) := by
  have hE : Hid (m.has p n = decide (m.bits / pow 2 % 2 = 1) ∧ known p n = true) := ⟨by unfold Md.has; rw [hs]; exact (bits_get m (by omega)).symm, by unfold known; rw [hs]; rfl⟩
  have hb0 := Lib.hid (below_new w (.cells (mA m) 23))
  have hm0 := Lib.hid (MB.made w m)
  have hinf := Lib.hid (mA_info m)
  have hpl := Lib.hid (fun w' => place_at hs w')
  have hb1 := bits_ge m
  have hb2 := bits_lt m
  clear hs
  go_enter Try.func12, Try.ntmps12
  go_wp2_with (first
    | (go_at_call 21; refine (hpl.out _).mono ?_; rintro e w' ⟨rfl, rfl⟩; dsimp only [pow])
    | (with_reducible show wpList _ _ _ (⟨some 14, .load _ (.tmp 3), _, _, _, _⟩ :: _) _ _; go_must (refine wpList_load_row rfl _ (.tmp 3) rfl w.heap.size rfl _ (mA m) (0, 0) _ (blk hm0.out.blk) Try.underlying23 rfl hinf.out ?_))
    | (go_at_call 16; (with_reducible refine (rbits_any _ _).mono ?_); rintro e w1 ⟨rfl, hw1⟩; have hb3 := Lib.hid (below_next hb0.out hw1)))
  go_ret2
  exact ⟨by rw [hE.out.1, hE.out.2]; rfl, hb3.out⟩
theorem rget_3 (m : Md) (p : Bool) (n : Int) (hs : spot p n = 3) (w : World) : Calls Try.prog 12 #[.agg (mA m), .bool p, .int .i64 n] w (GetIs m p n w) := by
  have hE : Hid (m.has p n = decide (m.bits / pow 3 % 2 = 1) ∧ known p n = true) := ⟨by unfold Md.has; rw [hs]; exact (bits_get m (by omega)).symm, by unfold known; rw [hs]; rfl⟩
  have hb0 := Lib.hid (below_new w (.cells (mA m) 23))
  have hm0 := Lib.hid (MB.made w m)
  have hinf := Lib.hid (mA_info m)
  have hpl := Lib.hid (fun w' => place_at hs w')
  have hb1 := bits_ge m
  have hb2 := bits_lt m
  clear hs
  go_enter Try.func12, Try.ntmps12
  go_wp2_with (first
    | (go_at_call 21; refine (hpl.out _).mono ?_; rintro e w' ⟨rfl, rfl⟩; dsimp only [pow])
    | (with_reducible show wpList _ _ _ (⟨some 14, .load _ (.tmp 3), _, _, _, _⟩ :: _) _ _; go_must (refine wpList_load_row rfl _ (.tmp 3) rfl w.heap.size rfl _ (mA m) (0, 0) _ (blk hm0.out.blk) Try.underlying23 rfl hinf.out ?_))
    | (go_at_call 16; (with_reducible refine (rbits_any _ _).mono ?_); rintro e w1 ⟨rfl, hw1⟩; have hb3 := Lib.hid (below_next hb0.out hw1)))
  go_ret2
  exact ⟨by rw [hE.out.1, hE.out.2]; rfl, hb3.out⟩
theorem rget_4 (m : Md) (p : Bool) (n : Int) (hs : spot p n = 4) (w : World) : Calls Try.prog 12 #[.agg (mA m), .bool p, .int .i64 n] w (GetIs m p n w) := by
  have hE : Hid (m.has p n = decide (m.bits / pow 4 % 2 = 1) ∧ known p n = true) := ⟨by unfold Md.has; rw [hs]; exact (bits_get m (by omega)).symm, by unfold known; rw [hs]; rfl⟩
  have hb0 := Lib.hid (below_new w (.cells (mA m) 23))
  have hm0 := Lib.hid (MB.made w m)
  have hinf := Lib.hid (mA_info m)
  have hpl := Lib.hid (fun w' => place_at hs w')
  have hb1 := bits_ge m
  have hb2 := bits_lt m
  clear hs
  go_enter Try.func12, Try.ntmps12
  go_wp2_with (first
    | (go_at_call 21; refine (hpl.out _).mono ?_; rintro e w' ⟨rfl, rfl⟩; dsimp only [pow])
    | (with_reducible show wpList _ _ _ (⟨some 14, .load _ (.tmp 3), _, _, _, _⟩ :: _) _ _; go_must (refine wpList_load_row rfl _ (.tmp 3) rfl w.heap.size rfl _ (mA m) (0, 0) _ (blk hm0.out.blk) Try.underlying23 rfl hinf.out ?_))
    | (go_at_call 16; (with_reducible refine (rbits_any _ _).mono ?_); rintro e w1 ⟨rfl, hw1⟩; have hb3 := Lib.hid (below_next hb0.out hw1)))
  go_ret2
  exact ⟨by rw [hE.out.1, hE.out.2]; rfl, hb3.out⟩
theorem rget_5 (m : Md) (p : Bool) (n : Int) (hs : spot p n = 5) (w : World) : Calls Try.prog 12 #[.agg (mA m), .bool p, .int .i64 n] w (GetIs m p n w) := by
  have hE : Hid (m.has p n = decide (m.bits / pow 5 % 2 = 1) ∧ known p n = true) := ⟨by unfold Md.has; rw [hs]; exact (bits_get m (by omega)).symm, by unfold known; rw [hs]; rfl⟩
  have hb0 := Lib.hid (below_new w (.cells (mA m) 23))
  have hm0 := Lib.hid (MB.made w m)
  have hinf := Lib.hid (mA_info m)
  have hpl := Lib.hid (fun w' => place_at hs w')
  have hb1 := bits_ge m
  have hb2 := bits_lt m
  clear hs
  go_enter Try.func12, Try.ntmps12
  go_wp2_with (first
    | (go_at_call 21; refine (hpl.out _).mono ?_; rintro e w' ⟨rfl, rfl⟩; dsimp only [pow])
    | (with_reducible show wpList _ _ _ (⟨some 14, .load _ (.tmp 3), _, _, _, _⟩ :: _) _ _; go_must (refine wpList_load_row rfl _ (.tmp 3) rfl w.heap.size rfl _ (mA m) (0, 0) _ (blk hm0.out.blk) Try.underlying23 rfl hinf.out ?_))
    | (go_at_call 16; (with_reducible refine (rbits_any _ _).mono ?_); rintro e w1 ⟨rfl, hw1⟩; have hb3 := Lib.hid (below_next hb0.out hw1)))
  go_ret2
  exact ⟨by rw [hE.out.1, hE.out.2]; rfl, hb3.out⟩
theorem rget_6 (m : Md) (p : Bool) (n : Int) (hs : spot p n = 6) (w : World) : Calls Try.prog 12 #[.agg (mA m), .bool p, .int .i64 n] w (GetIs m p n w) := by
  have hE : Hid (m.has p n = decide (m.bits / pow 6 % 2 = 1) ∧ known p n = true) := ⟨by unfold Md.has; rw [hs]; exact (bits_get m (by omega)).symm, by unfold known; rw [hs]; rfl⟩
  have hb0 := Lib.hid (below_new w (.cells (mA m) 23))
  have hm0 := Lib.hid (MB.made w m)
  have hinf := Lib.hid (mA_info m)
  have hpl := Lib.hid (fun w' => place_at hs w')
  have hb1 := bits_ge m
  have hb2 := bits_lt m
  clear hs
  go_enter Try.func12, Try.ntmps12
  go_wp2_with (first
    | (go_at_call 21; refine (hpl.out _).mono ?_; rintro e w' ⟨rfl, rfl⟩; dsimp only [pow])
    | (with_reducible show wpList _ _ _ (⟨some 14, .load _ (.tmp 3), _, _, _, _⟩ :: _) _ _; go_must (refine wpList_load_row rfl _ (.tmp 3) rfl w.heap.size rfl _ (mA m) (0, 0) _ (blk hm0.out.blk) Try.underlying23 rfl hinf.out ?_))
    | (go_at_call 16; (with_reducible refine (rbits_any _ _).mono ?_); rintro e w1 ⟨rfl, hw1⟩; have hb3 := Lib.hid (below_next hb0.out hw1)))
  go_ret2
  exact ⟨by rw [hE.out.1, hE.out.2]; rfl, hb3.out⟩
theorem rget_7 (m : Md) (p : Bool) (n : Int) (hs : spot p n = 7) (w : World) : Calls Try.prog 12 #[.agg (mA m), .bool p, .int .i64 n] w (GetIs m p n w) := by
  have hE : Hid (m.has p n = decide (m.bits / pow 7 % 2 = 1) ∧ known p n = true) := ⟨by unfold Md.has; rw [hs]; exact (bits_get m (by omega)).symm, by unfold known; rw [hs]; rfl⟩
  have hb0 := Lib.hid (below_new w (.cells (mA m) 23))
  have hm0 := Lib.hid (MB.made w m)
  have hinf := Lib.hid (mA_info m)
  have hpl := Lib.hid (fun w' => place_at hs w')
  have hb1 := bits_ge m
  have hb2 := bits_lt m
  clear hs
  go_enter Try.func12, Try.ntmps12
  go_wp2_with (first
    | (go_at_call 21; refine (hpl.out _).mono ?_; rintro e w' ⟨rfl, rfl⟩; dsimp only [pow])
    | (with_reducible show wpList _ _ _ (⟨some 14, .load _ (.tmp 3), _, _, _, _⟩ :: _) _ _; go_must (refine wpList_load_row rfl _ (.tmp 3) rfl w.heap.size rfl _ (mA m) (0, 0) _ (blk hm0.out.blk) Try.underlying23 rfl hinf.out ?_))
    | (go_at_call 16; (with_reducible refine (rbits_any _ _).mono ?_); rintro e w1 ⟨rfl, hw1⟩; have hb3 := Lib.hid (below_next hb0.out hw1)))
  go_ret2
  exact ⟨by rw [hE.out.1, hE.out.2]; rfl, hb3.out⟩
theorem rget_any (m : Md) (p : Bool) (n : Int) (w : World) : Calls Try.prog 12 #[.agg (mA m), .bool p, .int .i64 n] w (GetIs m p n w) := by
  rcases small (spot_le p n) with h | h | h | h | h | h | h | h | h
  · exact rget_0 m p n h w
  · exact rget_1 m p n h w
  · exact rget_2 m p n h w
  · exact rget_3 m p n h w
  · exact rget_4 m p n h w
  · exact rget_5 m p n h w
  · exact rget_6 m p n h w
  · exact rget_7 m p n h w
  · exact rget_no m p n h w

end Go.Proofs.Ytnammlihpjjdoaa.Mds
