/- Part 18 of the proof that the card of EmuNone holds. -/
import Derived.Maps.RangeWalk
import Derived.Deep.RegionHeld3
import Derived.Deep.DeepMust
import Derived.Test.YtkjpjegmanpbfaaGreatDoorPN17
import Derived.BigRegion
import Derived.WalkKit
set_option maxHeartbeats 16000000
set_option maxRecDepth 100000
namespace Go.Proofs.YtkjpjegmanpbfaaGreatDoor.Mds
open Go Go.RowKit Go.Proofs.YtkjpjegmanpbfaaGreatDoor.Com
def PutIs (m : Md) (p : Bool) (n : Int) (on : Bool) (w : World) (e : Ending) (w' : World) : Prop := e = .returned (.tuple #[.agg (mA (m.put p n on)), .bool (known p n)]) ∧ Below w.heap.size w w'
theorem look_no {w : World} {b : Nat} (h : Places w b) {p : Bool} {n : Int} (hw : (Lit.int .i64 n).wf = true) (hs : spot p n = 8) :
  (Instr.lookup 234 (.map (some b)) (.agg #[.bool p, .int .i64 n]) true).run Tryz.prog w = .ok (.tuple #[.nilFunc, .bool false]) w := by
 rcases look_place h p hw with ⟨_, h2⟩ | ⟨h1, _⟩
 ·exact h2
 ·omega
theorem look_yes {w : World} {b : Nat} (h : Places w b) {p : Bool} {n : Int} (hw : (Lit.int .i64 n).wf = true) {k : Nat} (hs : spot p n = k) (hk : k < 8) {f : Nat} (hf : funOf k = f) :
  (Instr.lookup 234 (.map (some b)) (.agg #[.bool p, .int .i64 n]) true).run Tryz.prog w = .ok (.tuple #[.func (.func f) #[] #[], .bool true]) w := by
 rcases look_place h p hw with ⟨h1, _⟩ | ⟨_, h2⟩
 ·omega
 ·rw [hs, hf] at h2
  exact h2
theorem below_two (w : World) (m : Md) : Below w.heap.size w ((w.alloc (.cells (mA m) 46)).alloc (.cells #[.bool false, .bool false, .bool false, .bool false, .bool false, .bool false, .bool false, .bool false] 46)) := below_next (below_new w _) (below_new _ _)
theorem two_m (w : World) (m : Md) : MB ((w.alloc (.cells (mA m) 46)).alloc (.cells #[.bool false, .bool false, .bool false, .bool false, .bool false, .bool false, .bool false, .bool false] 46)) w.heap.size m := (MB.made w m).alloc _
theorem two_r (w : World) (m : Md) : MB ((w.alloc (.cells (mA m) 46)).alloc (.cells #[.bool false, .bool false, .bool false, .bool false, .bool false, .bool false, .bool false, .bool false] 46)) (w.heap.size + 1) none0 := by
 have := MB.zero (w.alloc (.cells (mA m) 46))
 simpa using this
theorem put_no (m : Md) (p : Bool) (n : Int) (hw : (Lit.int .i64 n).wf = true) (on : Bool) (hs : spot p n = 8) (w : World) :
  Calls Tryz.prog 213 #[.agg (mA m), .bool p, .int .i64 n, .bool on] w (PutIs m p n on w) := by
 have hE : Hid (m.put p n on = m ∧ known p n = false) := ⟨by unfold Md.put; rw [hs]; rfl, by unfold known; rw [hs]; rfl⟩
 have hb0 := Lib.hid (below_two w m)
 have hm0 := Lib.hid (two_m w m)
 have hr0 := Lib.hid (two_r w m)
 replace hs := Lib.hid hs
 have hinf := Lib.hid (mA_info m)
 go_enter Tryz.func213, Tryz.ntmps213
 go_wp2_with (first
  | (go_at_call 229; (with_reducible refine (places_any _).mono ?_); rintro e w1 ⟨b, rfl, hP, hb1⟩; have hlk := look_no hP hw hs.out; have hb2 := Lib.hid (below_next hb0.out hb1); have hm1 := Lib.hid (hm0.out.below hb1); have hr1 := Lib.hid (hr0.out.below hb1); clear hb1 hb0 hm0 hr0)
  | (with_reducible show wpList _ _ _ (⟨some 25, .load _ (.tmp 4), _, _, _, _⟩ :: _) _ _; go_must (refine wpList_load_row rfl _ (.tmp 4) rfl w.heap.size rfl _ (mA m) (0, 0) _ (blk hm1.out.blk) Tryz.underlying46 rfl hinf.out ?_))
  | (with_reducible show wpList _ _ _ (⟨none, .store _ (.tmp 8) _, _, _, _, _⟩ :: _) _ _; go_must (refine wpList_storeAll rfl _ (.tmp 8) (.tmp 25) rfl hr1.out.blk (mA m) rfl rfl hinf.out rfl (mA_one m) ?_); intro w2 hd2 ho2))
 exact end_mb rfl rfl rfl rfl hd2 ⟨by rw [hE.out.1, hE.out.2]; rfl, hb2.out.trans (ho2.below hb2.out.size (by simp))⟩
theorem clos_0 (b : Nat) (w : World) : Calls Tryz.prog 234 #[.pointer (some ⟨b, 0, none⟩)] w fun e w' => e = .returned (.pointer (some ⟨b, 0, none⟩)) ∧ w = w' := by
 go_enter Tryz.func234, Tryz.ntmps234
 go_wp2
 go_ret
 exact ⟨rfl, rfl⟩
theorem put_0 (m : Md) (p : Bool) (n : Int) (hw : (Lit.int .i64 n).wf = true) (on : Bool) (hs : spot p n = 0) (w : World) :
  Calls Tryz.prog 213 #[.agg (mA m), .bool p, .int .i64 n, .bool on] w (PutIs m p n on w) := by
 have hE : Hid (m.put p n on = m.set 0 on ∧ known p n = true) := ⟨by unfold Md.put; rw [hs], by unfold known; rw [hs]; rfl⟩
 have hb0 := Lib.hid (below_two w m)
 have hm0 := Lib.hid (two_m w m)
 have hr0 := Lib.hid (two_r w m)
 replace hs := Lib.hid hs
 have hinf := Lib.hid (mA_info (m.set 0 on))
 have hset := Lib.hid (mA_set m (k := 0) (by omega) on)
 go_enter Tryz.func213, Tryz.ntmps213
 go_wp2_with (first
  | (go_at_call 229; (with_reducible refine (places_any _).mono ?_); rintro e w1 ⟨b, rfl, hP, hb1⟩; have hlk := look_yes hP hw hs.out (by omega) (f := 234) rfl; have hb2 := Lib.hid (below_next hb0.out hb1); have hm1 := Lib.hid (hm0.out.below hb1); have hr1 := Lib.hid (hr0.out.below hb1); clear hb1 hb0 hm0 hr0)
  | (with_reducible show wpList _ _ _ (⟨none, .store _ (.tmp 24) _, _, _, _, _⟩ :: _) _ _; go_must (refine wpList_store1 rfl _ (.tmp 24) (.tmp 23) rfl hm1.out.blk (.bool on) rfl rfl (by rw [mA_size]; omega) infoBool rfl ?_); intro w3 hd3 ho3; go_must (rw [hset.out] at hd3); go_must (replace hd3 := Lib.hid (MB.of hd3); have hr3 := Lib.hid (hr1.out.only ho3 (by simp)); have hb3 := Lib.hid (hb2.out.trans (ho3.below hb2.out.size (by simp))); clear hb2 hr1 hm1 ho3))
  | (with_reducible show wpList _ _ _ (⟨some 25, .load _ (.tmp 4), _, _, _, _⟩ :: _) _ _; go_must (refine wpList_load_row rfl _ (.tmp 4) rfl w.heap.size rfl _ (mA (m.set 0 on)) (0, 0) _ (blk hd3.out.blk) Tryz.underlying46 rfl hinf.out ?_))
  | (with_reducible show wpList _ _ _ (⟨none, .store _ (.tmp 8) _, _, _, _, _⟩ :: _) _ _; go_must (refine wpList_storeAll rfl _ (.tmp 8) (.tmp 25) rfl hr3.out.blk (mA (m.set 0 on)) rfl rfl hinf.out rfl (mA_one _) ?_); intro w2 hd2 ho2)
  | (go_at_call 234; refine (clos_0 _ _).mono ?_; rintro e w' ⟨rfl, rfl⟩))
 exact end_mb rfl rfl rfl rfl hd2 ⟨by rw [hE.out.1, hE.out.2]; rfl, hb3.out.trans (ho2.below hb3.out.size (by simp))⟩
theorem clos_1 (b : Nat) (w : World) : Calls Tryz.prog 235 #[.pointer (some ⟨b, 0, none⟩)] w fun e w' => e = .returned (.pointer (some ⟨b, 1, none⟩)) ∧ w = w' := by
 go_enter Tryz.func235, Tryz.ntmps235
 go_wp2
 go_ret
 exact ⟨rfl, rfl⟩
theorem put_1 (m : Md) (p : Bool) (n : Int) (hw : (Lit.int .i64 n).wf = true) (on : Bool) (hs : spot p n = 1) (w : World) :
  Calls Tryz.prog 213 #[.agg (mA m), .bool p, .int .i64 n, .bool on] w (PutIs m p n on w) := by
 have hE : Hid (m.put p n on = m.set 1 on ∧ known p n = true) := ⟨by unfold Md.put; rw [hs], by unfold known; rw [hs]; rfl⟩
 have hb0 := Lib.hid (below_two w m)
 have hm0 := Lib.hid (two_m w m)
 have hr0 := Lib.hid (two_r w m)
 replace hs := Lib.hid hs
 have hinf := Lib.hid (mA_info (m.set 1 on))
 have hset := Lib.hid (mA_set m (k := 1) (by omega) on)
 go_enter Tryz.func213, Tryz.ntmps213
 go_wp2_with (first
  | (go_at_call 229; (with_reducible refine (places_any _).mono ?_); rintro e w1 ⟨b, rfl, hP, hb1⟩; have hlk := look_yes hP hw hs.out (by omega) (f := 235) rfl; have hb2 := Lib.hid (below_next hb0.out hb1); have hm1 := Lib.hid (hm0.out.below hb1); have hr1 := Lib.hid (hr0.out.below hb1); clear hb1 hb0 hm0 hr0)
  | (with_reducible show wpList _ _ _ (⟨none, .store _ (.tmp 24) _, _, _, _, _⟩ :: _) _ _; go_must (refine wpList_store1 rfl _ (.tmp 24) (.tmp 23) rfl hm1.out.blk (.bool on) rfl rfl (by rw [mA_size]; omega) infoBool rfl ?_); intro w3 hd3 ho3; go_must (rw [hset.out] at hd3); go_must (replace hd3 := Lib.hid (MB.of hd3); have hr3 := Lib.hid (hr1.out.only ho3 (by simp)); have hb3 := Lib.hid (hb2.out.trans (ho3.below hb2.out.size (by simp))); clear hb2 hr1 hm1 ho3))
  | (with_reducible show wpList _ _ _ (⟨some 25, .load _ (.tmp 4), _, _, _, _⟩ :: _) _ _; go_must (refine wpList_load_row rfl _ (.tmp 4) rfl w.heap.size rfl _ (mA (m.set 1 on)) (0, 0) _ (blk hd3.out.blk) Tryz.underlying46 rfl hinf.out ?_))
  | (with_reducible show wpList _ _ _ (⟨none, .store _ (.tmp 8) _, _, _, _, _⟩ :: _) _ _; go_must (refine wpList_storeAll rfl _ (.tmp 8) (.tmp 25) rfl hr3.out.blk (mA (m.set 1 on)) rfl rfl hinf.out rfl (mA_one _) ?_); intro w2 hd2 ho2)
  | (go_at_call 235; refine (clos_1 _ _).mono ?_; rintro e w' ⟨rfl, rfl⟩))
 exact end_mb rfl rfl rfl rfl hd2 ⟨by rw [hE.out.1, hE.out.2]; rfl, hb3.out.trans (ho2.below hb3.out.size (by simp))⟩
theorem clos_2 (b : Nat) (w : World) : Calls Tryz.prog 236 #[.pointer (some ⟨b, 0, none⟩)] w fun e w' => e = .returned (.pointer (some ⟨b, 2, none⟩)) ∧ w = w' := by
 go_enter Tryz.func236, Tryz.ntmps236
 go_wp2
 go_ret
 exact ⟨rfl, rfl⟩
theorem put_2 (m : Md) (p : Bool) (n : Int) (hw : (Lit.int .i64 n).wf = true) (on : Bool) (hs : spot p n = 2) (w : World) :
  Calls Tryz.prog 213 #[.agg (mA m), .bool p, .int .i64 n, .bool on] w (PutIs m p n on w) := by
 have hE : Hid (m.put p n on = m.set 2 on ∧ known p n = true) := ⟨by unfold Md.put; rw [hs], by unfold known; rw [hs]; rfl⟩
 have hb0 := Lib.hid (below_two w m)
 have hm0 := Lib.hid (two_m w m)
 have hr0 := Lib.hid (two_r w m)
 replace hs := Lib.hid hs
 have hinf := Lib.hid (mA_info (m.set 2 on))
 have hset := Lib.hid (mA_set m (k := 2) (by omega) on)
 go_enter Tryz.func213, Tryz.ntmps213
 go_wp2_with (first
  | (go_at_call 229; (with_reducible refine (places_any _).mono ?_); rintro e w1 ⟨b, rfl, hP, hb1⟩; have hlk := look_yes hP hw hs.out (by omega) (f := 236) rfl; have hb2 := Lib.hid (below_next hb0.out hb1); have hm1 := Lib.hid (hm0.out.below hb1); have hr1 := Lib.hid (hr0.out.below hb1); clear hb1 hb0 hm0 hr0)
  | (with_reducible show wpList _ _ _ (⟨none, .store _ (.tmp 24) _, _, _, _, _⟩ :: _) _ _; go_must (refine wpList_store1 rfl _ (.tmp 24) (.tmp 23) rfl hm1.out.blk (.bool on) rfl rfl (by rw [mA_size]; omega) infoBool rfl ?_); intro w3 hd3 ho3; go_must (rw [hset.out] at hd3); go_must (replace hd3 := Lib.hid (MB.of hd3); have hr3 := Lib.hid (hr1.out.only ho3 (by simp)); have hb3 := Lib.hid (hb2.out.trans (ho3.below hb2.out.size (by simp))); clear hb2 hr1 hm1 ho3))
  | (with_reducible show wpList _ _ _ (⟨some 25, .load _ (.tmp 4), _, _, _, _⟩ :: _) _ _; go_must (refine wpList_load_row rfl _ (.tmp 4) rfl w.heap.size rfl _ (mA (m.set 2 on)) (0, 0) _ (blk hd3.out.blk) Tryz.underlying46 rfl hinf.out ?_))
  | (with_reducible show wpList _ _ _ (⟨none, .store _ (.tmp 8) _, _, _, _, _⟩ :: _) _ _; go_must (refine wpList_storeAll rfl _ (.tmp 8) (.tmp 25) rfl hr3.out.blk (mA (m.set 2 on)) rfl rfl hinf.out rfl (mA_one _) ?_); intro w2 hd2 ho2)
  | (go_at_call 236; refine (clos_2 _ _).mono ?_; rintro e w' ⟨rfl, rfl⟩))
 exact end_mb rfl rfl rfl rfl hd2 ⟨by rw [hE.out.1, hE.out.2]; rfl, hb3.out.trans (ho2.below hb3.out.size (by simp))⟩
theorem clos_3 (b : Nat) (w : World) : Calls Tryz.prog 237 #[.pointer (some ⟨b, 0, none⟩)] w fun e w' => e = .returned (.pointer (some ⟨b, 3, none⟩)) ∧ w = w' := by
 go_enter Tryz.func237, Tryz.ntmps237
 go_wp2
 go_ret
 exact ⟨rfl, rfl⟩
theorem put_3 (m : Md) (p : Bool) (n : Int) (hw : (Lit.int .i64 n).wf = true) (on : Bool) (hs : spot p n = 3) (w : World) :
  Calls Tryz.prog 213 #[.agg (mA m), .bool p, .int .i64 n, .bool on] w (PutIs m p n on w) := by
 have hE : Hid (m.put p n on = m.set 3 on ∧ known p n = true) := ⟨by unfold Md.put; rw [hs], by unfold known; rw [hs]; rfl⟩
 have hb0 := Lib.hid (below_two w m)
 have hm0 := Lib.hid (two_m w m)
 have hr0 := Lib.hid (two_r w m)
 replace hs := Lib.hid hs
 have hinf := Lib.hid (mA_info (m.set 3 on))
 have hset := Lib.hid (mA_set m (k := 3) (by omega) on)
 go_enter Tryz.func213, Tryz.ntmps213
 go_wp2_with (first
  | (go_at_call 229; (with_reducible refine (places_any _).mono ?_); rintro e w1 ⟨b, rfl, hP, hb1⟩; have hlk := look_yes hP hw hs.out (by omega) (f := 237) rfl; have hb2 := Lib.hid (below_next hb0.out hb1); have hm1 := Lib.hid (hm0.out.below hb1); have hr1 := Lib.hid (hr0.out.below hb1); clear hb1 hb0 hm0 hr0)
  | (with_reducible show wpList _ _ _ (⟨none, .store _ (.tmp 24) _, _, _, _, _⟩ :: _) _ _; go_must (refine wpList_store1 rfl _ (.tmp 24) (.tmp 23) rfl hm1.out.blk (.bool on) rfl rfl (by rw [mA_size]; omega) infoBool rfl ?_); intro w3 hd3 ho3; go_must (rw [hset.out] at hd3); go_must (replace hd3 := Lib.hid (MB.of hd3); have hr3 := Lib.hid (hr1.out.only ho3 (by simp)); have hb3 := Lib.hid (hb2.out.trans (ho3.below hb2.out.size (by simp))); clear hb2 hr1 hm1 ho3))
  | (with_reducible show wpList _ _ _ (⟨some 25, .load _ (.tmp 4), _, _, _, _⟩ :: _) _ _; go_must (refine wpList_load_row rfl _ (.tmp 4) rfl w.heap.size rfl _ (mA (m.set 3 on)) (0, 0) _ (blk hd3.out.blk) Tryz.underlying46 rfl hinf.out ?_))
  | (with_reducible show wpList _ _ _ (⟨none, .store _ (.tmp 8) _, _, _, _, _⟩ :: _) _ _; go_must (refine wpList_storeAll rfl _ (.tmp 8) (.tmp 25) rfl hr3.out.blk (mA (m.set 3 on)) rfl rfl hinf.out rfl (mA_one _) ?_); intro w2 hd2 ho2)
  | (go_at_call 237; refine (clos_3 _ _).mono ?_; rintro e w' ⟨rfl, rfl⟩))
 exact end_mb rfl rfl rfl rfl hd2 ⟨by rw [hE.out.1, hE.out.2]; rfl, hb3.out.trans (ho2.below hb3.out.size (by simp))⟩
theorem clos_4 (b : Nat) (w : World) : Calls Tryz.prog 238 #[.pointer (some ⟨b, 0, none⟩)] w fun e w' => e = .returned (.pointer (some ⟨b, 4, none⟩)) ∧ w = w' := by
 go_enter Tryz.func238, Tryz.ntmps238
 go_wp2
 go_ret
 exact ⟨rfl, rfl⟩
theorem put_4 (m : Md) (p : Bool) (n : Int) (hw : (Lit.int .i64 n).wf = true) (on : Bool) (hs : spot p n = 4) (w : World) :
  Calls Tryz.prog 213 #[.agg (mA m), .bool p, .int .i64 n, .bool on] w (PutIs m p n on w) := by
 have hE : Hid (m.put p n on = m.set 4 on ∧ known p n = true) := ⟨by unfold Md.put; rw [hs], by unfold known; rw [hs]; rfl⟩
 have hb0 := Lib.hid (below_two w m)
 have hm0 := Lib.hid (two_m w m)
 have hr0 := Lib.hid (two_r w m)
 replace hs := Lib.hid hs
 have hinf := Lib.hid (mA_info (m.set 4 on))
 have hset := Lib.hid (mA_set m (k := 4) (by omega) on)
 go_enter Tryz.func213, Tryz.ntmps213
 go_wp2_with (first
  | (go_at_call 229; (with_reducible refine (places_any _).mono ?_); rintro e w1 ⟨b, rfl, hP, hb1⟩; have hlk := look_yes hP hw hs.out (by omega) (f := 238) rfl; have hb2 := Lib.hid (below_next hb0.out hb1); have hm1 := Lib.hid (hm0.out.below hb1); have hr1 := Lib.hid (hr0.out.below hb1); clear hb1 hb0 hm0 hr0)
  | (with_reducible show wpList _ _ _ (⟨none, .store _ (.tmp 24) _, _, _, _, _⟩ :: _) _ _; go_must (refine wpList_store1 rfl _ (.tmp 24) (.tmp 23) rfl hm1.out.blk (.bool on) rfl rfl (by rw [mA_size]; omega) infoBool rfl ?_); intro w3 hd3 ho3; go_must (rw [hset.out] at hd3); go_must (replace hd3 := Lib.hid (MB.of hd3); have hr3 := Lib.hid (hr1.out.only ho3 (by simp)); have hb3 := Lib.hid (hb2.out.trans (ho3.below hb2.out.size (by simp))); clear hb2 hr1 hm1 ho3))
  | (with_reducible show wpList _ _ _ (⟨some 25, .load _ (.tmp 4), _, _, _, _⟩ :: _) _ _; go_must (refine wpList_load_row rfl _ (.tmp 4) rfl w.heap.size rfl _ (mA (m.set 4 on)) (0, 0) _ (blk hd3.out.blk) Tryz.underlying46 rfl hinf.out ?_))
  | (with_reducible show wpList _ _ _ (⟨none, .store _ (.tmp 8) _, _, _, _, _⟩ :: _) _ _; go_must (refine wpList_storeAll rfl _ (.tmp 8) (.tmp 25) rfl hr3.out.blk (mA (m.set 4 on)) rfl rfl hinf.out rfl (mA_one _) ?_); intro w2 hd2 ho2)
  | (go_at_call 238; refine (clos_4 _ _).mono ?_; rintro e w' ⟨rfl, rfl⟩))
 exact end_mb rfl rfl rfl rfl hd2 ⟨by rw [hE.out.1, hE.out.2]; rfl, hb3.out.trans (ho2.below hb3.out.size (by simp))⟩
theorem clos_5 (b : Nat) (w : World) : Calls Tryz.prog 239 #[.pointer (some ⟨b, 0, none⟩)] w fun e w' => e = .returned (.pointer (some ⟨b, 5, none⟩)) ∧ w = w' := by
 go_enter Tryz.func239, Tryz.ntmps239
 go_wp2
 go_ret
 exact ⟨rfl, rfl⟩
theorem put_5 (m : Md) (p : Bool) (n : Int) (hw : (Lit.int .i64 n).wf = true) (on : Bool) (hs : spot p n = 5) (w : World) :
  Calls Tryz.prog 213 #[.agg (mA m), .bool p, .int .i64 n, .bool on] w (PutIs m p n on w) := by
 have hE : Hid (m.put p n on = m.set 5 on ∧ known p n = true) := ⟨by unfold Md.put; rw [hs], by unfold known; rw [hs]; rfl⟩
 have hb0 := Lib.hid (below_two w m)
 have hm0 := Lib.hid (two_m w m)
 have hr0 := Lib.hid (two_r w m)
 replace hs := Lib.hid hs
 have hinf := Lib.hid (mA_info (m.set 5 on))
 have hset := Lib.hid (mA_set m (k := 5) (by omega) on)
 go_enter Tryz.func213, Tryz.ntmps213
 go_wp2_with (first
  | (go_at_call 229; (with_reducible refine (places_any _).mono ?_); rintro e w1 ⟨b, rfl, hP, hb1⟩; have hlk := look_yes hP hw hs.out (by omega) (f := 239) rfl; have hb2 := Lib.hid (below_next hb0.out hb1); have hm1 := Lib.hid (hm0.out.below hb1); have hr1 := Lib.hid (hr0.out.below hb1); clear hb1 hb0 hm0 hr0)
  | (with_reducible show wpList _ _ _ (⟨none, .store _ (.tmp 24) _, _, _, _, _⟩ :: _) _ _; go_must (refine wpList_store1 rfl _ (.tmp 24) (.tmp 23) rfl hm1.out.blk (.bool on) rfl rfl (by rw [mA_size]; omega) infoBool rfl ?_); intro w3 hd3 ho3; go_must (rw [hset.out] at hd3); go_must (replace hd3 := Lib.hid (MB.of hd3); have hr3 := Lib.hid (hr1.out.only ho3 (by simp)); have hb3 := Lib.hid (hb2.out.trans (ho3.below hb2.out.size (by simp))); clear hb2 hr1 hm1 ho3))
  | (with_reducible show wpList _ _ _ (⟨some 25, .load _ (.tmp 4), _, _, _, _⟩ :: _) _ _; go_must (refine wpList_load_row rfl _ (.tmp 4) rfl w.heap.size rfl _ (mA (m.set 5 on)) (0, 0) _ (blk hd3.out.blk) Tryz.underlying46 rfl hinf.out ?_))
  | (with_reducible show wpList _ _ _ (⟨none, .store _ (.tmp 8) _, _, _, _, _⟩ :: _) _ _; go_must (refine wpList_storeAll rfl _ (.tmp 8) (.tmp 25) rfl hr3.out.blk (mA (m.set 5 on)) rfl rfl hinf.out rfl (mA_one _) ?_); intro w2 hd2 ho2)
  | (go_at_call 239; refine (clos_5 _ _).mono ?_; rintro e w' ⟨rfl, rfl⟩))
 exact end_mb rfl rfl rfl rfl hd2 ⟨by rw [hE.out.1, hE.out.2]; rfl, hb3.out.trans (ho2.below hb3.out.size (by simp))⟩
theorem clos_6 (b : Nat) (w : World) : Calls Tryz.prog 233 #[.pointer (some ⟨b, 0, none⟩)] w fun e w' => e = .returned (.pointer (some ⟨b, 6, none⟩)) ∧ w = w' := by
 go_enter Tryz.func233, Tryz.ntmps233
 go_wp2
 go_ret
 exact ⟨rfl, rfl⟩
theorem put_6 (m : Md) (p : Bool) (n : Int) (hw : (Lit.int .i64 n).wf = true) (on : Bool) (hs : spot p n = 6) (w : World) :
  Calls Tryz.prog 213 #[.agg (mA m), .bool p, .int .i64 n, .bool on] w (PutIs m p n on w) := by
 have hE : Hid (m.put p n on = m.set 6 on ∧ known p n = true) := ⟨by unfold Md.put; rw [hs], by unfold known; rw [hs]; rfl⟩
 have hb0 := Lib.hid (below_two w m)
 have hm0 := Lib.hid (two_m w m)
 have hr0 := Lib.hid (two_r w m)
 replace hs := Lib.hid hs
 have hinf := Lib.hid (mA_info (m.set 6 on))
 have hset := Lib.hid (mA_set m (k := 6) (by omega) on)
 go_enter Tryz.func213, Tryz.ntmps213
 go_wp2_with (first
  | (go_at_call 229; (with_reducible refine (places_any _).mono ?_); rintro e w1 ⟨b, rfl, hP, hb1⟩; have hlk := look_yes hP hw hs.out (by omega) (f := 233) rfl; have hb2 := Lib.hid (below_next hb0.out hb1); have hm1 := Lib.hid (hm0.out.below hb1); have hr1 := Lib.hid (hr0.out.below hb1); clear hb1 hb0 hm0 hr0)
  | (with_reducible show wpList _ _ _ (⟨none, .store _ (.tmp 24) _, _, _, _, _⟩ :: _) _ _; go_must (refine wpList_store1 rfl _ (.tmp 24) (.tmp 23) rfl hm1.out.blk (.bool on) rfl rfl (by rw [mA_size]; omega) infoBool rfl ?_); intro w3 hd3 ho3; go_must (rw [hset.out] at hd3); go_must (replace hd3 := Lib.hid (MB.of hd3); have hr3 := Lib.hid (hr1.out.only ho3 (by simp)); have hb3 := Lib.hid (hb2.out.trans (ho3.below hb2.out.size (by simp))); clear hb2 hr1 hm1 ho3))
  | (with_reducible show wpList _ _ _ (⟨some 25, .load _ (.tmp 4), _, _, _, _⟩ :: _) _ _; go_must (refine wpList_load_row rfl _ (.tmp 4) rfl w.heap.size rfl _ (mA (m.set 6 on)) (0, 0) _ (blk hd3.out.blk) Tryz.underlying46 rfl hinf.out ?_))
  | (with_reducible show wpList _ _ _ (⟨none, .store _ (.tmp 8) _, _, _, _, _⟩ :: _) _ _; go_must (refine wpList_storeAll rfl _ (.tmp 8) (.tmp 25) rfl hr3.out.blk (mA (m.set 6 on)) rfl rfl hinf.out rfl (mA_one _) ?_); intro w2 hd2 ho2)
  | (go_at_call 233; refine (clos_6 _ _).mono ?_; rintro e w' ⟨rfl, rfl⟩))
 exact end_mb rfl rfl rfl rfl hd2 ⟨by rw [hE.out.1, hE.out.2]; rfl, hb3.out.trans (ho2.below hb3.out.size (by simp))⟩
theorem clos_7 (b : Nat) (w : World) : Calls Tryz.prog 240 #[.pointer (some ⟨b, 0, none⟩)] w fun e w' => e = .returned (.pointer (some ⟨b, 7, none⟩)) ∧ w = w' := by
 go_enter Tryz.func240, Tryz.ntmps240
 go_wp2
 go_ret
 exact ⟨rfl, rfl⟩
theorem put_7 (m : Md) (p : Bool) (n : Int) (hw : (Lit.int .i64 n).wf = true) (on : Bool) (hs : spot p n = 7) (w : World) :
  Calls Tryz.prog 213 #[.agg (mA m), .bool p, .int .i64 n, .bool on] w (PutIs m p n on w) := by
 have hE : Hid (m.put p n on = m.set 7 on ∧ known p n = true) := ⟨by unfold Md.put; rw [hs], by unfold known; rw [hs]; rfl⟩
 have hb0 := Lib.hid (below_two w m)
 have hm0 := Lib.hid (two_m w m)
 have hr0 := Lib.hid (two_r w m)
 replace hs := Lib.hid hs
 have hinf := Lib.hid (mA_info (m.set 7 on))
 have hset := Lib.hid (mA_set m (k := 7) (by omega) on)
 go_enter Tryz.func213, Tryz.ntmps213
 go_wp2_with (first
  | (go_at_call 229; (with_reducible refine (places_any _).mono ?_); rintro e w1 ⟨b, rfl, hP, hb1⟩; have hlk := look_yes hP hw hs.out (by omega) (f := 240) rfl; have hb2 := Lib.hid (below_next hb0.out hb1); have hm1 := Lib.hid (hm0.out.below hb1); have hr1 := Lib.hid (hr0.out.below hb1); clear hb1 hb0 hm0 hr0)
  | (with_reducible show wpList _ _ _ (⟨none, .store _ (.tmp 24) _, _, _, _, _⟩ :: _) _ _; go_must (refine wpList_store1 rfl _ (.tmp 24) (.tmp 23) rfl hm1.out.blk (.bool on) rfl rfl (by rw [mA_size]; omega) infoBool rfl ?_); intro w3 hd3 ho3; go_must (rw [hset.out] at hd3); go_must (replace hd3 := Lib.hid (MB.of hd3); have hr3 := Lib.hid (hr1.out.only ho3 (by simp)); have hb3 := Lib.hid (hb2.out.trans (ho3.below hb2.out.size (by simp))); clear hb2 hr1 hm1 ho3))
  | (with_reducible show wpList _ _ _ (⟨some 25, .load _ (.tmp 4), _, _, _, _⟩ :: _) _ _; go_must (refine wpList_load_row rfl _ (.tmp 4) rfl w.heap.size rfl _ (mA (m.set 7 on)) (0, 0) _ (blk hd3.out.blk) Tryz.underlying46 rfl hinf.out ?_))
  | (with_reducible show wpList _ _ _ (⟨none, .store _ (.tmp 8) _, _, _, _, _⟩ :: _) _ _; go_must (refine wpList_storeAll rfl _ (.tmp 8) (.tmp 25) rfl hr3.out.blk (mA (m.set 7 on)) rfl rfl hinf.out rfl (mA_one _) ?_); intro w2 hd2 ho2)
  | (go_at_call 240; refine (clos_7 _ _).mono ?_; rintro e w' ⟨rfl, rfl⟩))
 exact end_mb rfl rfl rfl rfl hd2 ⟨by rw [hE.out.1, hE.out.2]; rfl, hb3.out.trans (ho2.below hb3.out.size (by simp))⟩
theorem put_any (m : Md) (p : Bool) (n : Int) (hw : (Lit.int .i64 n).wf = true) (on : Bool) (w : World) :
  Calls Tryz.prog 213 #[.agg (mA m), .bool p, .int .i64 n, .bool on] w (PutIs m p n on w) := by
 rcases small (spot_le p n) with h | h | h | h | h | h | h | h | h
 ·exact put_0 m p n hw on h w
 ·exact put_1 m p n hw on h w
 ·exact put_2 m p n hw on h w
 ·exact put_3 m p n hw on h w
 ·exact put_4 m p n hw on h w
 ·exact put_5 m p n hw on h w
 ·exact put_6 m p n hw on h w
 ·exact put_7 m p n hw on h w
 ·exact put_no m p n hw on h w
def MIs (m : Md) (w : World) (e : Ending) (w' : World) : Prop := e = .returned (.agg (mA m)) ∧ Below w.heap.size w w'
theorem default_any (w : World) : Calls Tryz.prog 52 #[] w (MIs start w) := by
 have hb0 := Lib.hid (below_new w (.cells #[.bool false, .bool false, .bool false, .bool false, .bool false, .bool false, .bool false, .bool false] 46))
 have hr0 := Lib.hid (MB.zero w)
 have hinf := Lib.hid (mA_info start)
 go_enter Tryz.func52, Tryz.ntmps52
 go_wp2_with (first
  | (with_reducible show wpList _ _ _ (⟨none, .store _ (.tmp 0) _, _, _, _, _⟩ :: _) _ _; go_must (refine wpList_storeAll rfl _ (.tmp 0) (.tmp 1) rfl hr0.out.blk (mA start) rfl rfl hinf.out rfl (mA_one _) ?_); intro w2 hd2 ho2))
 exact end_m rfl rfl rfl (MB.of hd2) ⟨rfl, hb0.out.trans (ho2.below hb0.out.size (by simp))⟩
def part (m : Md) : Nat → Int
 | 0 => 0
 | k + 1 => part m k + one (m.get k) (pow k)
end Go.Proofs.YtkjpjegmanpbfaaGreatDoor.Mds
namespace Go.Proofs.YtkjpjegmanpbfaaGreatDoor.Sgr
open Go
structure At where
 f : Int
 b : Int
 g : Int
deriving DecidableEq
def zero : At := ⟨0, 0, 0⟩
def orF (x y : Int) : Int := bits .or .u16 x y
def notF (x y : Int) : Int := bits .andNot .u16 x y
structure At.Ok (a : At) : Prop where
 f0 : 0 ≤ a.f
 f1 : a.f ≤ 4294967295
 b0 : 0 ≤ a.b
 b1 : a.b ≤ 4294967295
 g0 : 0 ≤ a.g
 g1 : a.g ≤ 65535
def flagF (n : Int) : Int := if n = 1 then 1 else if n = 2 then 2 else if n = 3 then 4 else if n = 4 then 8 else if n = 5 then 16 else if n = 7 then 32 else if n = 8 then 64 else if n = 9 then 128 else 0
def endF (n : Int) : Int := if n = 22 then 3 else if 22 < n then flagF (n - 20) else 0
def namedF (u b no c n : Int) : Int := if u ≤ n ∧ n < u + 8 then n - u + 1 else if b + 8 ≤ n ∧ n < b + 16 then n - b + 1 else if n = no then 0 else c
def oneF (a : At) (n : Int) : At := if n = 0 then zero else ⟨namedF 30 82 39 a.f n, namedF 40 92 49 a.b n, orF (notF a.g (endF n)) (flagF n)⟩
def isB (n : Int) : Bool := decide (0 ≤ n ∧ n ≤ 255)
def rgbF (x y z : Int) : Int := 16777216 + x * 65536 + y * 256 + z
def folF (c : Int) (l : List Int) : Int × List Int :=
 if 2 ≤ l.length ∧ l.getD 0 0 = 5 then (if isB (l.getD 1 0) then l.getD 1 0 + 1 else c, l.drop 2)
 else if 4 ≤ l.length ∧ l.getD 0 0 = 2 then (if isB (l.getD 1 0) && isB (l.getD 2 0) && isB (l.getD 3 0) then rgbF (l.getD 1 0) (l.getD 2 0) (l.getD 3 0) else c, l.drop 4)
 else (c, [])
theorem fol_len (c : Int) (l : List Int) : (folF c l).2.length ≤ l.length := by
 unfold folF
 split
 ·simp
 ·split <;> simp
def runF (a : At) : List Int → At
 | [] => a
 | n :: t => if n = 38 then runF ⟨(folF a.f t).1, a.b, a.g⟩ (folF a.f t).2 else if n = 48 then runF ⟨a.f, (folF a.b t).1, a.g⟩ (folF a.b t).2 else runF (oneF a n) t
termination_by l => l.length
decreasing_by
 ·have := fol_len a.f t; simp; omega
 ·have := fol_len a.b t; simp; omega
 ·simp
def applyF (a : At) (l : List Int) : At := if l = [] then zero else runF a l
theorem run_nil (a : At) : runF a [] = a := by rw [runF]
theorem run_fg (a : At) (t : List Int) : runF a (38 :: t) = runF ⟨(folF a.f t).1, a.b, a.g⟩ (folF a.f t).2 := by rw [runF, if_pos rfl]
theorem run_bg (a : At) (t : List Int) : runF a (48 :: t) = runF ⟨a.f, (folF a.b t).1, a.g⟩ (folF a.b t).2 := by rw [runF, if_neg (by decide), if_pos rfl]
theorem run_one (a : At) {n : Int} (t : List Int) (h1 : n ≠ 38) (h2 : n ≠ 48) : runF a (n :: t) = runF (oneF a n) t := by rw [runF, if_neg h1, if_neg h2]
theorem flag_none {n : Int} (h : ¬ (n = 1 ∨ n = 2 ∨ n = 3 ∨ n = 4 ∨ n = 5 ∨ n = 7 ∨ n = 8 ∨ n = 9)) : flagF n = 0 := by
 unfold flagF
 (repeat' split) <;> omega
def colF (c : Int) : Bool := decide (c ≤ 256 ∨ (16777216 ≤ c ∧ c < 33554432))
def mayF (a : At) : Bool := decide (a.g < 256) && colF a.f && colF a.b
end Go.Proofs.YtkjpjegmanpbfaaGreatDoor.Sgr
