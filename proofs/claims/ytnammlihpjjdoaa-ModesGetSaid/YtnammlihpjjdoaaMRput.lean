/-
  modes: the reference's Put.
-/
import Derived.Test.YtnammlihpjjdoaaMRget
namespace Go.Proofs.Ytnammlihpjjdoaa.Mds
open Go Go.RowKit Go.Proofs.Ytnammlihpjjdoaa.Com

theorem get_at {m : Md} {p : Bool} {n : Int} {k : Nat} (hs : spot p n = k) (hk : k < 8) (w : World) : Calls Try.prog 12 #[.agg (mA m), .bool p, .int .i64 n] w fun e w' => e = .returned (.tuple #[.bool (m.get k), .bool true]) ∧ Below w.heap.size w w' := by
  refine (rget_any m p n w).mono ?_
  rintro e w' ⟨h1, h2⟩
  have e1 : m.has p n = m.get k := by unfold Md.has; rw [hs]
  have e2 : known p n = true := by unfold known; rw [hs]; exact decide_eq_true hk
  rw [e1, e2] at h1
  exact ⟨h1, h2⟩
theorem pow_pos {k : Nat} (hk : k < 8) : 0 < pow k ∧ pow k ≤ 128 := by
  obtain ⟨e, h⟩ := pow_nat k hk
  refine ⟨?_, h⟩
  rw [e]
  exact_mod_cast Nat.two_pow_pos k
theorem of_turn {m : Md} {k : Nat} (hk : k < 8) {on : Bool} {x : Int} (hx : x = turn m k on) (w : World) : Calls Try.prog 18 #[.int .u8 x] w (MIs (m.set k on) w) := by
  subst hx
  have := rof_any (turn m k on) (turn_in m hk on).1 (turn_in m hk on).2 w
  rw [turn_of m hk on] at this
  exact this
set_option maxHeartbeats 2000000 in
theorem rput_false_false (m : Md) (p : Bool) (n : Int) {k : Nat} (hs : spot p n = k) (hk : k < 8) (hg : m.get k = false) (w : World) : Calls Try.prog 9 #[.agg (mA m), .bool p, .int .i64 n, .bool false] w (PutIs m p n false w) := by
  have hE : Hid (m.put p n false = m.set k false ∧ known p n = true) := ⟨by unfold Md.put; rw [hs], by unfold known; rw [hs]; exact decide_eq_true hk⟩
  have hb0 := Lib.hid (below_two w m)
  have hm0 := Lib.hid (two_m w m)
  have hr0 := Lib.hid (two_r w m)
  have hinf := Lib.hid (mA_info m)
  have hin2 := Lib.hid (mA_info (m.set k false))
  have hget := fun w' => get_at (m := m) hs hk w'
  have hpl := Lib.hid (fun w' => place_at hs w')
  obtain ⟨hP1, hP2⟩ := pow_pos hk
  have hT : turn m k false = m.bits := by unfold turn; rw [hg]; rfl
  have hof := Lib.hid (fun w' => of_turn (m := m) hk hT.symm w')
  have hT2 := turn_in m hk false
  rw [hT] at hT2
  rw [hg] at hget
  replace hget := Lib.hid hget
  have hb1 := bits_ge m
  have hb2 := bits_lt m
  clear hs hg hT
  generalize pow k = P at *
  have hP0 : (P == 0) = false := by simp; omega
  go_enter Try.func9, Try.ntmps9
  go_wp2_with (first
    | (go_at_call 21; refine (hpl.out _).mono ?_; rintro e w' ⟨rfl, rfl⟩)
    | (with_reducible show wpList _ _ _ (⟨some 21, .load _ (.tmp 4), _, _, _, _⟩ :: _) _ _; go_must (refine wpList_load_row rfl _ (.tmp 4) rfl w.heap.size rfl _ (mA m) (0, 0) _ (blk hm0.out.blk) Try.underlying23 rfl hinf.out ?_))
    | (with_reducible show wpList _ _ _ (⟨some 27, .load _ (.tmp 4), _, _, _, _⟩ :: _) _ _; go_must (refine wpList_load_row rfl _ (.tmp 4) rfl w.heap.size rfl _ (mA m) (0, 0) _ (blk hm2.out.blk) Try.underlying23 rfl hinf.out ?_))
    | (go_at_call 12; (with_reducible refine (hget.out _).mono ?_); rintro e w2 ⟨rfl, hw2⟩; have hbb := Lib.hid (below_next hb0.out hw2); have hm2 := Lib.hid (hm0.out.below hw2); have hr2 := Lib.hid (hr0.out.below hw2); clear hw2)
    | (go_at_call 16; (with_reducible refine (rbits_any m _).mono ?_); rintro e w3 ⟨rfl, hw3⟩; have hbc := Lib.hid (below_next hbb.out hw3); have hr3 := Lib.hid (hr2.out.below hw3); clear hw3)
    | (go_at_call 18; (with_reducible refine (hof.out _).mono ?_); rintro e w4 ⟨rfl, hw4⟩; have hbd := Lib.hid (below_next hbc.out hw4); have hr4 := Lib.hid (hr3.out.below hw4); clear hw4)
    | (with_reducible show wpList _ _ _ (⟨none, .store _ (.tmp 8) _, _, _, _, _⟩ :: _) _ _; go_must (refine wpList_storeAll rfl _ (.tmp 8) (.tmp 48) rfl hr4.out.blk (mA (m.set k false)) rfl rfl hin2.out rfl (mA_one _) ?_); intro w5 hd5 ho5))
  exact end_mb rfl rfl rfl rfl (MB.of hd5) ⟨by rw [hE.out.1, hE.out.2]; rfl, hbd.out.trans (ho5.below hbd.out.size (by simp))⟩
set_option maxHeartbeats 2000000 in
theorem rput_false_true (m : Md) (p : Bool) (n : Int) {k : Nat} (hs : spot p n = k) (hk : k < 8) (hg : m.get k = true) (w : World) : Calls Try.prog 9 #[.agg (mA m), .bool p, .int .i64 n, .bool false] w (PutIs m p n false w) := by
  have hE : Hid (m.put p n false = m.set k false ∧ known p n = true) := ⟨by unfold Md.put; rw [hs], by unfold known; rw [hs]; exact decide_eq_true hk⟩
  have hb0 := Lib.hid (below_two w m)
  have hm0 := Lib.hid (two_m w m)
  have hr0 := Lib.hid (two_r w m)
  have hinf := Lib.hid (mA_info m)
  have hin2 := Lib.hid (mA_info (m.set k false))
  have hget := fun w' => get_at (m := m) hs hk w'
  have hpl := Lib.hid (fun w' => place_at hs w')
  obtain ⟨hP1, hP2⟩ := pow_pos hk
  have hT : turn m k false = m.bits - pow k := by unfold turn; rw [hg]; rfl
  have hof := Lib.hid (fun w' => of_turn (m := m) hk hT.symm w')
  have hT2 := turn_in m hk false
  rw [hT] at hT2
  rw [hg] at hget
  replace hget := Lib.hid hget
  have hb1 := bits_ge m
  have hb2 := bits_lt m
  clear hs hg hT
  generalize pow k = P at *
  have hP0 : (P == 0) = false := by simp; omega
  go_enter Try.func9, Try.ntmps9
  go_wp2_with (first
    | (go_at_call 21; refine (hpl.out _).mono ?_; rintro e w' ⟨rfl, rfl⟩)
    | (with_reducible show wpList _ _ _ (⟨some 21, .load _ (.tmp 4), _, _, _, _⟩ :: _) _ _; go_must (refine wpList_load_row rfl _ (.tmp 4) rfl w.heap.size rfl _ (mA m) (0, 0) _ (blk hm0.out.blk) Try.underlying23 rfl hinf.out ?_))
    | (with_reducible show wpList _ _ _ (⟨some 27, .load _ (.tmp 4), _, _, _, _⟩ :: _) _ _; go_must (refine wpList_load_row rfl _ (.tmp 4) rfl w.heap.size rfl _ (mA m) (0, 0) _ (blk hm2.out.blk) Try.underlying23 rfl hinf.out ?_))
    | (go_at_call 12; (with_reducible refine (hget.out _).mono ?_); rintro e w2 ⟨rfl, hw2⟩; have hbb := Lib.hid (below_next hb0.out hw2); have hm2 := Lib.hid (hm0.out.below hw2); have hr2 := Lib.hid (hr0.out.below hw2); clear hw2)
    | (go_at_call 16; (with_reducible refine (rbits_any m _).mono ?_); rintro e w3 ⟨rfl, hw3⟩; have hbc := Lib.hid (below_next hbb.out hw3); have hr3 := Lib.hid (hr2.out.below hw3); clear hw3)
    | (go_at_call 18; (with_reducible refine (hof.out _).mono ?_); rintro e w4 ⟨rfl, hw4⟩; have hbd := Lib.hid (below_next hbc.out hw4); have hr4 := Lib.hid (hr3.out.below hw4); clear hw4)
    | (with_reducible show wpList _ _ _ (⟨none, .store _ (.tmp 8) _, _, _, _, _⟩ :: _) _ _; go_must (refine wpList_storeAll rfl _ (.tmp 8) (.tmp 48) rfl hr4.out.blk (mA (m.set k false)) rfl rfl hin2.out rfl (mA_one _) ?_); intro w5 hd5 ho5))
  exact end_mb rfl rfl rfl rfl (MB.of hd5) ⟨by rw [hE.out.1, hE.out.2]; rfl, hbd.out.trans (ho5.below hbd.out.size (by simp))⟩
set_option maxHeartbeats 2000000 in
theorem rput_true_false (m : Md) (p : Bool) (n : Int) {k : Nat} (hs : spot p n = k) (hk : k < 8) (hg : m.get k = false) (w : World) : Calls Try.prog 9 #[.agg (mA m), .bool p, .int .i64 n, .bool true] w (PutIs m p n true w) := by
  have hE : Hid (m.put p n true = m.set k true ∧ known p n = true) := ⟨by unfold Md.put; rw [hs], by unfold known; rw [hs]; exact decide_eq_true hk⟩
  have hb0 := Lib.hid (below_two w m)
  have hm0 := Lib.hid (two_m w m)
  have hr0 := Lib.hid (two_r w m)
  have hinf := Lib.hid (mA_info m)
  have hin2 := Lib.hid (mA_info (m.set k true))
  have hget := fun w' => get_at (m := m) hs hk w'
  have hpl := Lib.hid (fun w' => place_at hs w')
  obtain ⟨hP1, hP2⟩ := pow_pos hk
  have hT : turn m k true = m.bits + pow k := by unfold turn; rw [hg]; rfl
  have hof := Lib.hid (fun w' => of_turn (m := m) hk hT.symm w')
  have hT2 := turn_in m hk true
  rw [hT] at hT2
  rw [hg] at hget
  replace hget := Lib.hid hget
  have hb1 := bits_ge m
  have hb2 := bits_lt m
  clear hs hg hT
  generalize pow k = P at *
  have hP0 : (P == 0) = false := by simp; omega
  go_enter Try.func9, Try.ntmps9
  go_wp2_with (first
    | (go_at_call 21; refine (hpl.out _).mono ?_; rintro e w' ⟨rfl, rfl⟩)
    | (with_reducible show wpList _ _ _ (⟨some 21, .load _ (.tmp 4), _, _, _, _⟩ :: _) _ _; go_must (refine wpList_load_row rfl _ (.tmp 4) rfl w.heap.size rfl _ (mA m) (0, 0) _ (blk hm0.out.blk) Try.underlying23 rfl hinf.out ?_))
    | (with_reducible show wpList _ _ _ (⟨some 27, .load _ (.tmp 4), _, _, _, _⟩ :: _) _ _; go_must (refine wpList_load_row rfl _ (.tmp 4) rfl w.heap.size rfl _ (mA m) (0, 0) _ (blk hm2.out.blk) Try.underlying23 rfl hinf.out ?_))
    | (go_at_call 12; (with_reducible refine (hget.out _).mono ?_); rintro e w2 ⟨rfl, hw2⟩; have hbb := Lib.hid (below_next hb0.out hw2); have hm2 := Lib.hid (hm0.out.below hw2); have hr2 := Lib.hid (hr0.out.below hw2); clear hw2)
    | (go_at_call 16; (with_reducible refine (rbits_any m _).mono ?_); rintro e w3 ⟨rfl, hw3⟩; have hbc := Lib.hid (below_next hbb.out hw3); have hr3 := Lib.hid (hr2.out.below hw3); clear hw3)
    | (go_at_call 18; (with_reducible refine (hof.out _).mono ?_); rintro e w4 ⟨rfl, hw4⟩; have hbd := Lib.hid (below_next hbc.out hw4); have hr4 := Lib.hid (hr3.out.below hw4); clear hw4)
    | (with_reducible show wpList _ _ _ (⟨none, .store _ (.tmp 8) _, _, _, _, _⟩ :: _) _ _; go_must (refine wpList_storeAll rfl _ (.tmp 8) (.tmp 48) rfl hr4.out.blk (mA (m.set k true)) rfl rfl hin2.out rfl (mA_one _) ?_); intro w5 hd5 ho5))
  exact end_mb rfl rfl rfl rfl (MB.of hd5) ⟨by rw [hE.out.1, hE.out.2]; rfl, hbd.out.trans (ho5.below hbd.out.size (by simp))⟩
set_option maxHeartbeats 2000000 in
theorem rput_true_true (m : Md) (p : Bool) (n : Int) {k : Nat} (hs : spot p n = k) (hk : k < 8) (hg : m.get k = true) (w : World) : Calls Try.prog 9 #[.agg (mA m), .bool p, .int .i64 n, .bool true] w (PutIs m p n true w) := by
  have hE : Hid (m.put p n true = m.set k true ∧ known p n = true) := ⟨by unfold Md.put; rw [hs], by unfold known; rw [hs]; exact decide_eq_true hk⟩
  have hb0 := Lib.hid (below_two w m)
  have hm0 := Lib.hid (two_m w m)
  have hr0 := Lib.hid (two_r w m)
  have hinf := Lib.hid (mA_info m)
  have hin2 := Lib.hid (mA_info (m.set k true))
  have hget := fun w' => get_at (m := m) hs hk w'
  have hpl := Lib.hid (fun w' => place_at hs w')
  obtain ⟨hP1, hP2⟩ := pow_pos hk
  have hT : turn m k true = m.bits := by unfold turn; rw [hg]; rfl
  have hof := Lib.hid (fun w' => of_turn (m := m) hk hT.symm w')
  have hT2 := turn_in m hk true
  rw [hT] at hT2
  rw [hg] at hget
  replace hget := Lib.hid hget
  have hb1 := bits_ge m
  have hb2 := bits_lt m
  clear hs hg hT
  generalize pow k = P at *
  have hP0 : (P == 0) = false := by simp; omega
  go_enter Try.func9, Try.ntmps9
  go_wp2_with (first
    | (go_at_call 21; refine (hpl.out _).mono ?_; rintro e w' ⟨rfl, rfl⟩)
    | (with_reducible show wpList _ _ _ (⟨some 21, .load _ (.tmp 4), _, _, _, _⟩ :: _) _ _; go_must (refine wpList_load_row rfl _ (.tmp 4) rfl w.heap.size rfl _ (mA m) (0, 0) _ (blk hm0.out.blk) Try.underlying23 rfl hinf.out ?_))
    | (with_reducible show wpList _ _ _ (⟨some 27, .load _ (.tmp 4), _, _, _, _⟩ :: _) _ _; go_must (refine wpList_load_row rfl _ (.tmp 4) rfl w.heap.size rfl _ (mA m) (0, 0) _ (blk hm2.out.blk) Try.underlying23 rfl hinf.out ?_))
    | (go_at_call 12; (with_reducible refine (hget.out _).mono ?_); rintro e w2 ⟨rfl, hw2⟩; have hbb := Lib.hid (below_next hb0.out hw2); have hm2 := Lib.hid (hm0.out.below hw2); have hr2 := Lib.hid (hr0.out.below hw2); clear hw2)
    | (go_at_call 16; (with_reducible refine (rbits_any m _).mono ?_); rintro e w3 ⟨rfl, hw3⟩; have hbc := Lib.hid (below_next hbb.out hw3); have hr3 := Lib.hid (hr2.out.below hw3); clear hw3)
    | (go_at_call 18; (with_reducible refine (hof.out _).mono ?_); rintro e w4 ⟨rfl, hw4⟩; have hbd := Lib.hid (below_next hbc.out hw4); have hr4 := Lib.hid (hr3.out.below hw4); clear hw4)
    | (with_reducible show wpList _ _ _ (⟨none, .store _ (.tmp 8) _, _, _, _, _⟩ :: _) _ _; go_must (refine wpList_storeAll rfl _ (.tmp 8) (.tmp 48) rfl hr4.out.blk (mA (m.set k true)) rfl rfl hin2.out rfl (mA_one _) ?_); intro w5 hd5 ho5))
  exact end_mb rfl rfl rfl rfl (MB.of hd5) ⟨by rw [hE.out.1, hE.out.2]; rfl, hbd.out.trans (ho5.below hbd.out.size (by simp))⟩
theorem rput_any (m : Md) (p : Bool) (n : Int) (on : Bool) (w : World) : Calls Try.prog 9 #[.agg (mA m), .bool p, .int .i64 n, .bool on] w (PutIs m p n on w) := by
  rcases Nat.lt_or_ge (spot p n) 8 with hk | hk
  · cases hg : m.get (spot p n)
    all_goals cases on
    · exact rput_false_false m p n rfl hk hg w
    · exact rput_true_false m p n rfl hk hg w
    · exact rput_false_true m p n rfl hk hg w
    · exact rput_true_true m p n rfl hk hg w
  · exact rput_no m p n on (by have := spot_le p n; omega) w

end Go.Proofs.Ytnammlihpjjdoaa.Mds
