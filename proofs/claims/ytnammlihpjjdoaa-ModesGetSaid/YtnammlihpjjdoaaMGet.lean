/-
  modes: Get and Put.
-/
import Derived.Test.YtnammlihpjjdoaaMPlac
import Derived.Test.YtnammlihpjjdoaaMLeaf
import Derived.Maps.RangeWalk
import Derived.Deep.RegionHeld3
import Derived.Deep.DeepMust
namespace Go.Proofs.Ytnammlihpjjdoaa.Mds
open Go Go.RowKit Go.Proofs.Ytnammlihpjjdoaa.Com

def GetIs (m : Md) (p : Bool) (n : Int) (w : World) (e : Ending) (w' : World) : Prop := e = .returned (.tuple #[.bool (m.has p n), .bool (known p n)]) ∧ Below w.heap.size w w'
def PutIs (m : Md) (p : Bool) (n : Int) (on : Bool) (w : World) (e : Ending) (w' : World) : Prop := e = .returned (.tuple #[.agg (mA (m.put p n on)), .bool (known p n)]) ∧ Below w.heap.size w w'

theorem look_no {w : World} {b : Nat} (h : Places w b) {p : Bool} {n : Int} (hw : (Lit.int .i64 n).wf = true) (hs : spot p n = 8) :
    (Instr.lookup 41 (.map (some b)) (.agg #[.bool p, .int .i64 n]) true).run Try.prog w = .ok (.tuple #[.nilFunc, .bool false]) w := by
  rcases look_place h p hw with ⟨_, h2⟩ | ⟨h1, _⟩
  · exact h2
  · omega
theorem look_yes {w : World} {b : Nat} (h : Places w b) {p : Bool} {n : Int} (hw : (Lit.int .i64 n).wf = true) {k : Nat} (hs : spot p n = k) (hk : k < 8) {f : Nat} (hf : funOf k = f) :
    (Instr.lookup 41 (.map (some b)) (.agg #[.bool p, .int .i64 n]) true).run Try.prog w = .ok (.tuple #[.func (.func f) #[] #[], .bool true]) w := by
  rcases look_place h p hw with ⟨h1, _⟩ | ⟨_, h2⟩
  · omega
  · rw [hs, hf] at h2
    exact h2

theorem below_two (w : World) (m : Md) : Below w.heap.size w ((w.alloc (.cells (mA m) 23)).alloc (.cells #[.bool false, .bool false, .bool false, .bool false, .bool false, .bool false, .bool false, .bool false] 23)) := below_next (below_new w _) (below_new _ _)
theorem two_m (w : World) (m : Md) : MB ((w.alloc (.cells (mA m) 23)).alloc (.cells #[.bool false, .bool false, .bool false, .bool false, .bool false, .bool false, .bool false, .bool false] 23)) w.heap.size m := (MB.made w m).alloc _
theorem two_r (w : World) (m : Md) : MB ((w.alloc (.cells (mA m) 23)).alloc (.cells #[.bool false, .bool false, .bool false, .bool false, .bool false, .bool false, .bool false, .bool false] 23)) (w.heap.size + 1) none0 := by
  have := MB.zero (w.alloc (.cells (mA m) 23))
  simpa using this

set_option maxHeartbeats 1000000 in
theorem get_no (m : Md) (p : Bool) (n : Int) (hw : (Lit.int .i64 n).wf = true) (hs : spot p n = 8) (w : World) :
    Calls Try.prog 11 #[.agg (mA m), .bool p, .int .i64 n] w (GetIs m p n w) := by
  have hE : Hid (m.has p n = false ∧ known p n = false) := ⟨by unfold Md.has; rw [hs]; rfl, by unfold known; rw [hs]; rfl⟩
  have hb0 := Lib.hid (below_new w (.cells (mA m) 23))
  replace hs := Lib.hid hs
  go_enter Try.func11, Try.ntmps11
  go_wp2_with ((go_at_call 20; (with_reducible refine (places_any _).mono ?_); rintro e w1 ⟨b, rfl, hP, hb1⟩; have hlk := look_no hP hw hs.out; have hb2 := Lib.hid (below_next hb0.out hb1); clear hb1))
  go_ret2
  exact ⟨by rw [hE.out.1, hE.out.2]; rfl, hb2.out⟩
set_option maxHeartbeats 1000000 in
theorem put_no (m : Md) (p : Bool) (n : Int) (hw : (Lit.int .i64 n).wf = true) (on : Bool) (hs : spot p n = 8) (w : World) :
    Calls Try.prog 8 #[.agg (mA m), .bool p, .int .i64 n, .bool on] w (PutIs m p n on w) := by
  have hE : Hid (m.put p n on = m ∧ known p n = false) := ⟨by unfold Md.put; rw [hs]; rfl, by unfold known; rw [hs]; rfl⟩
  have hb0 := Lib.hid (below_two w m)
  have hm0 := Lib.hid (two_m w m)
  have hr0 := Lib.hid (two_r w m)
  replace hs := Lib.hid hs
  have hinf := Lib.hid (mA_info m)
  go_enter Try.func8, Try.ntmps8
  go_wp2_with (first
    | (go_at_call 20; (with_reducible refine (places_any _).mono ?_); rintro e w1 ⟨b, rfl, hP, hb1⟩; have hlk := look_no hP hw hs.out; have hb2 := Lib.hid (below_next hb0.out hb1); have hm1 := Lib.hid (hm0.out.below hb1); have hr1 := Lib.hid (hr0.out.below hb1); clear hb1 hb0 hm0 hr0)
    | (with_reducible show wpList _ _ _ (⟨some 25, .load _ (.tmp 4), _, _, _, _⟩ :: _) _ _; go_must (refine wpList_load_row rfl _ (.tmp 4) rfl w.heap.size rfl _ (mA m) (0, 0) _ (blk hm1.out.blk) Try.underlying23 rfl hinf.out ?_))
    | (with_reducible show wpList _ _ _ (⟨none, .store _ (.tmp 8) _, _, _, _, _⟩ :: _) _ _; go_must (refine wpList_storeAll rfl _ (.tmp 8) (.tmp 25) rfl hr1.out.blk (mA m) rfl rfl hinf.out rfl (mA_one m) ?_); intro w2 hd2 ho2))
  exact end_mb rfl rfl rfl rfl hd2 ⟨by rw [hE.out.1, hE.out.2]; rfl, hb2.out.trans (ho2.below hb2.out.size (by simp))⟩

theorem clos_0 (b : Nat) (w : World) : Calls Try.prog 24 #[.pointer (some ⟨b, 0, none⟩)] w fun e w' => e = .returned (.pointer (some ⟨b, 0, none⟩)) ∧ w = w' := by
  go_enter Try.func24, Try.ntmps24
  go_wp2
  go_ret
  exact ⟨rfl, rfl⟩
theorem get_0 (m : Md) (p : Bool) (n : Int) (hw : (Lit.int .i64 n).wf = true) (hs : spot p n = 0) (w : World) :
    Calls Try.prog 11 #[.agg (mA m), .bool p, .int .i64 n] w (GetIs m p n w) := by
  have hE : Hid (m.has p n = m.get 0 ∧ known p n = true) := ⟨by unfold Md.has; rw [hs], by unfold known; rw [hs]; rfl⟩
  have hb0 := Lib.hid (below_new w (.cells (mA m) 23))
  have hm0 := Lib.hid (MB.made w m)
  replace hs := Lib.hid hs
  go_enter Try.func11, Try.ntmps11
  go_wp2_with (first
    | (go_at_call 20; (with_reducible refine (places_any _).mono ?_); rintro e w1 ⟨b, rfl, hP, hb1⟩; have hlk := look_yes hP hw hs.out (by omega) (f := 24) rfl; have hb2 := Lib.hid (below_next hb0.out hb1); have hc1 := (hm0.out.below hb1).cell (k := 0) (by omega); clear hb1)
    | (go_at_call 24; refine (clos_0 _ _).mono ?_; rintro e w' ⟨rfl, rfl⟩))
  go_ret2
  exact ⟨by rw [hE.out.1, hE.out.2]; rfl, hb2.out⟩
theorem put_0 (m : Md) (p : Bool) (n : Int) (hw : (Lit.int .i64 n).wf = true) (on : Bool) (hs : spot p n = 0) (w : World) :
    Calls Try.prog 8 #[.agg (mA m), .bool p, .int .i64 n, .bool on] w (PutIs m p n on w) := by
  have hE : Hid (m.put p n on = m.set 0 on ∧ known p n = true) := ⟨by unfold Md.put; rw [hs], by unfold known; rw [hs]; rfl⟩
  have hb0 := Lib.hid (below_two w m)
  have hm0 := Lib.hid (two_m w m)
  have hr0 := Lib.hid (two_r w m)
  replace hs := Lib.hid hs
  have hinf := Lib.hid (mA_info (m.set 0 on))
  have hset := Lib.hid (mA_set m (k := 0) (by omega) on)
  go_enter Try.func8, Try.ntmps8
  go_wp2_with (first
    | (go_at_call 20; (with_reducible refine (places_any _).mono ?_); rintro e w1 ⟨b, rfl, hP, hb1⟩; have hlk := look_yes hP hw hs.out (by omega) (f := 24) rfl; have hb2 := Lib.hid (below_next hb0.out hb1); have hm1 := Lib.hid (hm0.out.below hb1); have hr1 := Lib.hid (hr0.out.below hb1); clear hb1 hb0 hm0 hr0)
    | (with_reducible show wpList _ _ _ (⟨none, .store _ (.tmp 24) _, _, _, _, _⟩ :: _) _ _; go_must (refine wpList_store1 rfl _ (.tmp 24) (.tmp 23) rfl hm1.out.blk (.bool on) rfl rfl (by rw [mA_size]; omega) infoBool rfl ?_); intro w3 hd3 ho3; go_must (rw [hset.out] at hd3); go_must (replace hd3 := Lib.hid (MB.of hd3); have hr3 := Lib.hid (hr1.out.only ho3 (by simp)); have hb3 := Lib.hid (hb2.out.trans (ho3.below hb2.out.size (by simp))); clear hb2 hr1 hm1 ho3))
    | (with_reducible show wpList _ _ _ (⟨some 25, .load _ (.tmp 4), _, _, _, _⟩ :: _) _ _; go_must (refine wpList_load_row rfl _ (.tmp 4) rfl w.heap.size rfl _ (mA (m.set 0 on)) (0, 0) _ (blk hd3.out.blk) Try.underlying23 rfl hinf.out ?_))
    | (with_reducible show wpList _ _ _ (⟨none, .store _ (.tmp 8) _, _, _, _, _⟩ :: _) _ _; go_must (refine wpList_storeAll rfl _ (.tmp 8) (.tmp 25) rfl hr3.out.blk (mA (m.set 0 on)) rfl rfl hinf.out rfl (mA_one _) ?_); intro w2 hd2 ho2)
    | (go_at_call 24; refine (clos_0 _ _).mono ?_; rintro e w' ⟨rfl, rfl⟩))
  exact end_mb rfl rfl rfl rfl hd2 ⟨by rw [hE.out.1, hE.out.2]; rfl, hb3.out.trans (ho2.below hb3.out.size (by simp))⟩
theorem clos_1 (b : Nat) (w : World) : Calls Try.prog 25 #[.pointer (some ⟨b, 0, none⟩)] w fun e w' => e = .returned (.pointer (some ⟨b, 1, none⟩)) ∧ w = w' := by
  go_enter Try.func25, Try.ntmps25
  go_wp2
  go_ret
  exact ⟨rfl, rfl⟩
theorem get_1 (m : Md) (p : Bool) (n : Int) (hw : (Lit.int .i64 n).wf = true) (hs : spot p n = 1) (w : World) :
    Calls Try.prog 11 #[.agg (mA m), .bool p, .int .i64 n] w (GetIs m p n w) := by
  have hE : Hid (m.has p n = m.get 1 ∧ known p n = true) := ⟨by unfold Md.has; rw [hs], by unfold known; rw [hs]; rfl⟩
  have hb0 := Lib.hid (below_new w (.cells (mA m) 23))
  have hm0 := Lib.hid (MB.made w m)
  replace hs := Lib.hid hs
  go_enter Try.func11, Try.ntmps11
  go_wp2_with (first
    | (go_at_call 20; (with_reducible refine (places_any _).mono ?_); rintro e w1 ⟨b, rfl, hP, hb1⟩; have hlk := look_yes hP hw hs.out (by omega) (f := 25) rfl; have hb2 := Lib.hid (below_next hb0.out hb1); have hc1 := (hm0.out.below hb1).cell (k := 1) (by omega); clear hb1)
    | (go_at_call 25; refine (clos_1 _ _).mono ?_; rintro e w' ⟨rfl, rfl⟩))
  go_ret2
  exact ⟨by rw [hE.out.1, hE.out.2]; rfl, hb2.out⟩
theorem put_1 (m : Md) (p : Bool) (n : Int) (hw : (Lit.int .i64 n).wf = true) (on : Bool) (hs : spot p n = 1) (w : World) :
    Calls Try.prog 8 #[.agg (mA m), .bool p, .int .i64 n, .bool on] w (PutIs m p n on w) := by
  have hE : Hid (m.put p n on = m.set 1 on ∧ known p n = true) := ⟨by unfold Md.put; rw [hs], by unfold known; rw [hs]; rfl⟩
  have hb0 := Lib.hid (below_two w m)
  have hm0 := Lib.hid (two_m w m)
  have hr0 := Lib.hid (two_r w m)
  replace hs := Lib.hid hs
  have hinf := Lib.hid (mA_info (m.set 1 on))
  have hset := Lib.hid (mA_set m (k := 1) (by omega) on)
  go_enter Try.func8, Try.ntmps8
  go_wp2_with (first
    | (go_at_call 20; (with_reducible refine (places_any _).mono ?_); rintro e w1 ⟨b, rfl, hP, hb1⟩; have hlk := look_yes hP hw hs.out (by omega) (f := 25) rfl; have hb2 := Lib.hid (below_next hb0.out hb1); have hm1 := Lib.hid (hm0.out.below hb1); have hr1 := Lib.hid (hr0.out.below hb1); clear hb1 hb0 hm0 hr0)
    | (with_reducible show wpList _ _ _ (⟨none, .store _ (.tmp 24) _, _, _, _, _⟩ :: _) _ _; go_must (refine wpList_store1 rfl _ (.tmp 24) (.tmp 23) rfl hm1.out.blk (.bool on) rfl rfl (by rw [mA_size]; omega) infoBool rfl ?_); intro w3 hd3 ho3; go_must (rw [hset.out] at hd3); go_must (replace hd3 := Lib.hid (MB.of hd3); have hr3 := Lib.hid (hr1.out.only ho3 (by simp)); have hb3 := Lib.hid (hb2.out.trans (ho3.below hb2.out.size (by simp))); clear hb2 hr1 hm1 ho3))
    | (with_reducible show wpList _ _ _ (⟨some 25, .load _ (.tmp 4), _, _, _, _⟩ :: _) _ _; go_must (refine wpList_load_row rfl _ (.tmp 4) rfl w.heap.size rfl _ (mA (m.set 1 on)) (0, 0) _ (blk hd3.out.blk) Try.underlying23 rfl hinf.out ?_))
    | (with_reducible show wpList _ _ _ (⟨none, .store _ (.tmp 8) _, _, _, _, _⟩ :: _) _ _; go_must (refine wpList_storeAll rfl _ (.tmp 8) (.tmp 25) rfl hr3.out.blk (mA (m.set 1 on)) rfl rfl hinf.out rfl (mA_one _) ?_); intro w2 hd2 ho2)
    | (go_at_call 25; refine (clos_1 _ _).mono ?_; rintro e w' ⟨rfl, rfl⟩))
  exact end_mb rfl rfl rfl rfl hd2 ⟨by rw [hE.out.1, hE.out.2]; rfl, hb3.out.trans (ho2.below hb3.out.size (by simp))⟩
theorem clos_2 (b : Nat) (w : World) : Calls Try.prog 26 #[.pointer (some ⟨b, 0, none⟩)] w fun e w' => e = .returned (.pointer (some ⟨b, 2, none⟩)) ∧ w = w' := by
  go_enter Try.func26, Try.ntmps26
  go_wp2
  go_ret
  exact ⟨rfl, rfl⟩
theorem get_2 (m : Md) (p : Bool) (n : Int) (hw : (Lit.int .i64 n).wf = true) (hs : spot p n = 2) (w : World) :
    Calls Try.prog 11 #[.agg (mA m), .bool p, .int .i64 n] w (GetIs m p n w) := by
  have hE : Hid (m.has p n = m.get 2 ∧ known p n = true) := ⟨by unfold Md.has; rw [hs], by unfold known; rw [hs]; rfl⟩
  have hb0 := Lib.hid (below_new w (.cells (mA m) 23))
  have hm0 := Lib.hid (MB.made w m)
  replace hs := Lib.hid hs
  go_enter Try.func11, Try.ntmps11
  go_wp2_with (first
    | (go_at_call 20; (with_reducible refine (places_any _).mono ?_); rintro e w1 ⟨b, rfl, hP, hb1⟩; have hlk := look_yes hP hw hs.out (by omega) (f := 26) rfl; have hb2 := Lib.hid (below_next hb0.out hb1); have hc1 := (hm0.out.below hb1).cell (k := 2) (by omega); clear hb1)
    | (go_at_call 26; refine (clos_2 _ _).mono ?_; rintro e w' ⟨rfl, rfl⟩))
  go_ret2
  exact ⟨by rw [hE.out.1, hE.out.2]; rfl, hb2.out⟩
theorem put_2 (m : Md) (p : Bool) (n : Int) (hw : (Lit.int .i64 n).wf = true) (on : Bool) (hs : spot p n = 2) (w : World) :
    Calls Try.prog 8 #[.agg (mA m), .bool p, .int .i64 n, .bool on] w (PutIs m p n on w) := by
  have hE : Hid (m.put p n on = m.set 2 on ∧ known p n = true) := ⟨by unfold Md.put; rw [hs], by unfold known; rw [hs]; rfl⟩
  have hb0 := Lib.hid (below_two w m)
  have hm0 := Lib.hid (two_m w m)
  have hr0 := Lib.hid (two_r w m)
  replace hs := Lib.hid hs
  have hinf := Lib.hid (mA_info (m.set 2 on))
  have hset := Lib.hid (mA_set m (k := 2) (by omega) on)
  go_enter Try.func8, Try.ntmps8
  go_wp2_with (first
    | (go_at_call 20; (with_reducible refine (places_any _).mono ?_); rintro e w1 ⟨b, rfl, hP, hb1⟩; have hlk := look_yes hP hw hs.out (by omega) (f := 26) rfl; have hb2 := Lib.hid (below_next hb0.out hb1); have hm1 := Lib.hid (hm0.out.below hb1); have hr1 := Lib.hid (hr0.out.below hb1); clear hb1 hb0 hm0 hr0)
    | (with_reducible show wpList _ _ _ (⟨none, .store _ (.tmp 24) _, _, _, _, _⟩ :: _) _ _; go_must (refine wpList_store1 rfl _ (.tmp 24) (.tmp 23) rfl hm1.out.blk (.bool on) rfl rfl (by rw [mA_size]; omega) infoBool rfl ?_); intro w3 hd3 ho3; go_must (rw [hset.out] at hd3); go_must (replace hd3 := Lib.hid (MB.of hd3); have hr3 := Lib.hid (hr1.out.only ho3 (by simp)); have hb3 := Lib.hid (hb2.out.trans (ho3.below hb2.out.size (by simp))); clear hb2 hr1 hm1 ho3))
    | (with_reducible show wpList _ _ _ (⟨some 25, .load _ (.tmp 4), _, _, _, _⟩ :: _) _ _; go_must (refine wpList_load_row rfl _ (.tmp 4) rfl w.heap.size rfl _ (mA (m.set 2 on)) (0, 0) _ (blk hd3.out.blk) Try.underlying23 rfl hinf.out ?_))
    | (with_reducible show wpList _ _ _ (⟨none, .store _ (.tmp 8) _, _, _, _, _⟩ :: _) _ _; go_must (refine wpList_storeAll rfl _ (.tmp 8) (.tmp 25) rfl hr3.out.blk (mA (m.set 2 on)) rfl rfl hinf.out rfl (mA_one _) ?_); intro w2 hd2 ho2)
    | (go_at_call 26; refine (clos_2 _ _).mono ?_; rintro e w' ⟨rfl, rfl⟩))
  exact end_mb rfl rfl rfl rfl hd2 ⟨by rw [hE.out.1, hE.out.2]; rfl, hb3.out.trans (ho2.below hb3.out.size (by simp))⟩
theorem clos_3 (b : Nat) (w : World) : Calls Try.prog 27 #[.pointer (some ⟨b, 0, none⟩)] w fun e w' => e = .returned (.pointer (some ⟨b, 3, none⟩)) ∧ w = w' := by
  go_enter Try.func27, Try.ntmps27
  go_wp2
  go_ret
  exact ⟨rfl, rfl⟩
theorem get_3 (m : Md) (p : Bool) (n : Int) (hw : (Lit.int .i64 n).wf = true) (hs : spot p n = 3) (w : World) :
    Calls Try.prog 11 #[.agg (mA m), .bool p, .int .i64 n] w (GetIs m p n w) := by
  have hE : Hid (m.has p n = m.get 3 ∧ known p n = true) := ⟨by unfold Md.has; rw [hs], by unfold known; rw [hs]; rfl⟩
  have hb0 := Lib.hid (below_new w (.cells (mA m) 23))
  have hm0 := Lib.hid (MB.made w m)
  replace hs := Lib.hid hs
  go_enter Try.func11, Try.ntmps11
  go_wp2_with (first
    | (go_at_call 20; (with_reducible refine (places_any _).mono ?_); rintro e w1 ⟨b, rfl, hP, hb1⟩; have hlk := look_yes hP hw hs.out (by omega) (f := 27) rfl; have hb2 := Lib.hid (below_next hb0.out hb1); have hc1 := (hm0.out.below hb1).cell (k := 3) (by omega); clear hb1)
    | (go_at_call 27; refine (clos_3 _ _).mono ?_; rintro e w' ⟨rfl, rfl⟩))
  go_ret2
  exact ⟨by rw [hE.out.1, hE.out.2]; rfl, hb2.out⟩
theorem put_3 (m : Md) (p : Bool) (n : Int) (hw : (Lit.int .i64 n).wf = true) (on : Bool) (hs : spot p n = 3) (w : World) :
    Calls Try.prog 8 #[.agg (mA m), .bool p, .int .i64 n, .bool on] w (PutIs m p n on w) := by
  have hE : Hid (m.put p n on = m.set 3 on ∧ known p n = true) := ⟨by unfold Md.put; rw [hs], by unfold known; rw [hs]; rfl⟩
  have hb0 := Lib.hid (below_two w m)
  have hm0 := Lib.hid (two_m w m)
  have hr0 := Lib.hid (two_r w m)
  replace hs := Lib.hid hs
  have hinf := Lib.hid (mA_info (m.set 3 on))
  have hset := Lib.hid (mA_set m (k := 3) (by omega) on)
  go_enter Try.func8, Try.ntmps8
  go_wp2_with (first
    | (go_at_call 20; (with_reducible refine (places_any _).mono ?_); rintro e w1 ⟨b, rfl, hP, hb1⟩; have hlk := look_yes hP hw hs.out (by omega) (f := 27) rfl; have hb2 := Lib.hid (below_next hb0.out hb1); have hm1 := Lib.hid (hm0.out.below hb1); have hr1 := Lib.hid (hr0.out.below hb1); clear hb1 hb0 hm0 hr0)
    | (with_reducible show wpList _ _ _ (⟨none, .store _ (.tmp 24) _, _, _, _, _⟩ :: _) _ _; go_must (refine wpList_store1 rfl _ (.tmp 24) (.tmp 23) rfl hm1.out.blk (.bool on) rfl rfl (by rw [mA_size]; omega) infoBool rfl ?_); intro w3 hd3 ho3; go_must (rw [hset.out] at hd3); go_must (replace hd3 := Lib.hid (MB.of hd3); have hr3 := Lib.hid (hr1.out.only ho3 (by simp)); have hb3 := Lib.hid (hb2.out.trans (ho3.below hb2.out.size (by simp))); clear hb2 hr1 hm1 ho3))
    | (with_reducible show wpList _ _ _ (⟨some 25, .load _ (.tmp 4), _, _, _, _⟩ :: _) _ _; go_must (refine wpList_load_row rfl _ (.tmp 4) rfl w.heap.size rfl _ (mA (m.set 3 on)) (0, 0) _ (blk hd3.out.blk) Try.underlying23 rfl hinf.out ?_))
    | (with_reducible show wpList _ _ _ (⟨none, .store _ (.tmp 8) _, _, _, _, _⟩ :: _) _ _; go_must (refine wpList_storeAll rfl _ (.tmp 8) (.tmp 25) rfl hr3.out.blk (mA (m.set 3 on)) rfl rfl hinf.out rfl (mA_one _) ?_); intro w2 hd2 ho2)
    | (go_at_call 27; refine (clos_3 _ _).mono ?_; rintro e w' ⟨rfl, rfl⟩))
  exact end_mb rfl rfl rfl rfl hd2 ⟨by rw [hE.out.1, hE.out.2]; rfl, hb3.out.trans (ho2.below hb3.out.size (by simp))⟩
theorem clos_4 (b : Nat) (w : World) : Calls Try.prog 28 #[.pointer (some ⟨b, 0, none⟩)] w fun e w' => e = .returned (.pointer (some ⟨b, 4, none⟩)) ∧ w = w' := by
  go_enter Try.func28, Try.ntmps28
  go_wp2
  go_ret
  exact ⟨rfl, rfl⟩
theorem get_4 (m : Md) (p : Bool) (n : Int) (hw : (Lit.int .i64 n).wf = true) (hs : spot p n = 4) (w : World) :
    Calls Try.prog 11 #[.agg (mA m), .bool p, .int .i64 n] w (GetIs m p n w) := by
  have hE : Hid (m.has p n = m.get 4 ∧ known p n = true) := ⟨by unfold Md.has; rw [hs], by unfold known; rw [hs]; rfl⟩
  have hb0 := Lib.hid (below_new w (.cells (mA m) 23))
  have hm0 := Lib.hid (MB.made w m)
  replace hs := Lib.hid hs
  go_enter Try.func11, Try.ntmps11
  go_wp2_with (first
    | (go_at_call 20; (with_reducible refine (places_any _).mono ?_); rintro e w1 ⟨b, rfl, hP, hb1⟩; have hlk := look_yes hP hw hs.out (by omega) (f := 28) rfl; have hb2 := Lib.hid (below_next hb0.out hb1); have hc1 := (hm0.out.below hb1).cell (k := 4) (by omega); clear hb1)
    | (go_at_call 28; refine (clos_4 _ _).mono ?_; rintro e w' ⟨rfl, rfl⟩))
  go_ret2
  exact ⟨by rw [hE.out.1, hE.out.2]; rfl, hb2.out⟩
theorem put_4 (m : Md) (p : Bool) (n : Int) (hw : (Lit.int .i64 n).wf = true) (on : Bool) (hs : spot p n = 4) (w : World) :
    Calls Try.prog 8 #[.agg (mA m), .bool p, .int .i64 n, .bool on] w (PutIs m p n on w) := by
  have hE : Hid (m.put p n on = m.set 4 on ∧ known p n = true) := ⟨by unfold Md.put; rw [hs], by unfold known; rw [hs]; rfl⟩
  have hb0 := Lib.hid (below_two w m)
  have hm0 := Lib.hid (two_m w m)
  have hr0 := Lib.hid (two_r w m)
  replace hs := Lib.hid hs
  have hinf := Lib.hid (mA_info (m.set 4 on))
  have hset := Lib.hid (mA_set m (k := 4) (by omega) on)
  go_enter Try.func8, Try.ntmps8
  go_wp2_with (first
    | (go_at_call 20; (with_reducible refine (places_any _).mono ?_); rintro e w1 ⟨b, rfl, hP, hb1⟩; have hlk := look_yes hP hw hs.out (by omega) (f := 28) rfl; have hb2 := Lib.hid (below_next hb0.out hb1); have hm1 := Lib.hid (hm0.out.below hb1); have hr1 := Lib.hid (hr0.out.below hb1); clear hb1 hb0 hm0 hr0)
    | (with_reducible show wpList _ _ _ (⟨none, .store _ (.tmp 24) _, _, _, _, _⟩ :: _) _ _; go_must (refine wpList_store1 rfl _ (.tmp 24) (.tmp 23) rfl hm1.out.blk (.bool on) rfl rfl (by rw [mA_size]; omega) infoBool rfl ?_); intro w3 hd3 ho3; go_must (rw [hset.out] at hd3); go_must (replace hd3 := Lib.hid (MB.of hd3); have hr3 := Lib.hid (hr1.out.only ho3 (by simp)); have hb3 := Lib.hid (hb2.out.trans (ho3.below hb2.out.size (by simp))); clear hb2 hr1 hm1 ho3))
    | (with_reducible show wpList _ _ _ (⟨some 25, .load _ (.tmp 4), _, _, _, _⟩ :: _) _ _; go_must (refine wpList_load_row rfl _ (.tmp 4) rfl w.heap.size rfl _ (mA (m.set 4 on)) (0, 0) _ (blk hd3.out.blk) Try.underlying23 rfl hinf.out ?_))
    | (with_reducible show wpList _ _ _ (⟨none, .store _ (.tmp 8) _, _, _, _, _⟩ :: _) _ _; go_must (refine wpList_storeAll rfl _ (.tmp 8) (.tmp 25) rfl hr3.out.blk (mA (m.set 4 on)) rfl rfl hinf.out rfl (mA_one _) ?_); intro w2 hd2 ho2)
    | (go_at_call 28; refine (clos_4 _ _).mono ?_; rintro e w' ⟨rfl, rfl⟩))
  exact end_mb rfl rfl rfl rfl hd2 ⟨by rw [hE.out.1, hE.out.2]; rfl, hb3.out.trans (ho2.below hb3.out.size (by simp))⟩
theorem clos_5 (b : Nat) (w : World) : Calls Try.prog 29 #[.pointer (some ⟨b, 0, none⟩)] w fun e w' => e = .returned (.pointer (some ⟨b, 5, none⟩)) ∧ w = w' := by
  go_enter Try.func29, Try.ntmps29
  go_wp2
  go_ret
  exact ⟨rfl, rfl⟩
theorem get_5 (m : Md) (p : Bool) (n : Int) (hw : (Lit.int .i64 n).wf = true) (hs : spot p n = 5) (w : World) :
    Calls Try.prog 11 #[.agg (mA m), .bool p, .int .i64 n] w (GetIs m p n w) := by
  have hE : Hid (m.has p n = m.get 5 ∧ known p n = true) := ⟨by unfold Md.has; rw [hs], by unfold known; rw [hs]; rfl⟩
  have hb0 := Lib.hid (below_new w (.cells (mA m) 23))
  have hm0 := Lib.hid (MB.made w m)
  replace hs := Lib.hid hs
  go_enter Try.func11, Try.ntmps11
  go_wp2_with (first
    | (go_at_call 20; (with_reducible refine (places_any _).mono ?_); rintro e w1 ⟨b, rfl, hP, hb1⟩; have hlk := look_yes hP hw hs.out (by omega) (f := 29) rfl; have hb2 := Lib.hid (below_next hb0.out hb1); have hc1 := (hm0.out.below hb1).cell (k := 5) (by omega); clear hb1)
    | (go_at_call 29; refine (clos_5 _ _).mono ?_; rintro e w' ⟨rfl, rfl⟩))
  go_ret2
  exact ⟨by rw [hE.out.1, hE.out.2]; rfl, hb2.out⟩
theorem put_5 (m : Md) (p : Bool) (n : Int) (hw : (Lit.int .i64 n).wf = true) (on : Bool) (hs : spot p n = 5) (w : World) :
    Calls Try.prog 8 #[.agg (mA m), .bool p, .int .i64 n, .bool on] w (PutIs m p n on w) := by
  have hE : Hid (m.put p n on = m.set 5 on ∧ known p n = true) := ⟨by unfold Md.put; rw [hs], by unfold known; rw [hs]; rfl⟩
  have hb0 := Lib.hid (below_two w m)
  have hm0 := Lib.hid (two_m w m)
  have hr0 := Lib.hid (two_r w m)
  replace hs := Lib.hid hs
  have hinf := Lib.hid (mA_info (m.set 5 on))
  have hset := Lib.hid (mA_set m (k := 5) (by omega) on)
  go_enter Try.func8, Try.ntmps8
  go_wp2_with (first
    | (go_at_call 20; (with_reducible refine (places_any _).mono ?_); rintro e w1 ⟨b, rfl, hP, hb1⟩; have hlk := look_yes hP hw hs.out (by omega) (f := 29) rfl; have hb2 := Lib.hid (below_next hb0.out hb1); have hm1 := Lib.hid (hm0.out.below hb1); have hr1 := Lib.hid (hr0.out.below hb1); clear hb1 hb0 hm0 hr0)
    | (with_reducible show wpList _ _ _ (⟨none, .store _ (.tmp 24) _, _, _, _, _⟩ :: _) _ _; go_must (refine wpList_store1 rfl _ (.tmp 24) (.tmp 23) rfl hm1.out.blk (.bool on) rfl rfl (by rw [mA_size]; omega) infoBool rfl ?_); intro w3 hd3 ho3; go_must (rw [hset.out] at hd3); go_must (replace hd3 := Lib.hid (MB.of hd3); have hr3 := Lib.hid (hr1.out.only ho3 (by simp)); have hb3 := Lib.hid (hb2.out.trans (ho3.below hb2.out.size (by simp))); clear hb2 hr1 hm1 ho3))
    | (with_reducible show wpList _ _ _ (⟨some 25, .load _ (.tmp 4), _, _, _, _⟩ :: _) _ _; go_must (refine wpList_load_row rfl _ (.tmp 4) rfl w.heap.size rfl _ (mA (m.set 5 on)) (0, 0) _ (blk hd3.out.blk) Try.underlying23 rfl hinf.out ?_))
    | (with_reducible show wpList _ _ _ (⟨none, .store _ (.tmp 8) _, _, _, _, _⟩ :: _) _ _; go_must (refine wpList_storeAll rfl _ (.tmp 8) (.tmp 25) rfl hr3.out.blk (mA (m.set 5 on)) rfl rfl hinf.out rfl (mA_one _) ?_); intro w2 hd2 ho2)
    | (go_at_call 29; refine (clos_5 _ _).mono ?_; rintro e w' ⟨rfl, rfl⟩))
  exact end_mb rfl rfl rfl rfl hd2 ⟨by rw [hE.out.1, hE.out.2]; rfl, hb3.out.trans (ho2.below hb3.out.size (by simp))⟩
theorem clos_6 (b : Nat) (w : World) : Calls Try.prog 23 #[.pointer (some ⟨b, 0, none⟩)] w fun e w' => e = .returned (.pointer (some ⟨b, 6, none⟩)) ∧ w = w' := by
  go_enter Try.func23, Try.ntmps23
  go_wp2
  go_ret
  exact ⟨rfl, rfl⟩
theorem get_6 (m : Md) (p : Bool) (n : Int) (hw : (Lit.int .i64 n).wf = true) (hs : spot p n = 6) (w : World) :
    Calls Try.prog 11 #[.agg (mA m), .bool p, .int .i64 n] w (GetIs m p n w) := by
  have hE : Hid (m.has p n = m.get 6 ∧ known p n = true) := ⟨by unfold Md.has; rw [hs], by unfold known; rw [hs]; rfl⟩
  have hb0 := Lib.hid (below_new w (.cells (mA m) 23))
  have hm0 := Lib.hid (MB.made w m)
  replace hs := Lib.hid hs
  go_enter Try.func11, Try.ntmps11
  go_wp2_with (first
    | (go_at_call 20; (with_reducible refine (places_any _).mono ?_); rintro e w1 ⟨b, rfl, hP, hb1⟩; have hlk := look_yes hP hw hs.out (by omega) (f := 23) rfl; have hb2 := Lib.hid (below_next hb0.out hb1); have hc1 := (hm0.out.below hb1).cell (k := 6) (by omega); clear hb1)
    | (go_at_call 23; refine (clos_6 _ _).mono ?_; rintro e w' ⟨rfl, rfl⟩))
  go_ret2
  exact ⟨by rw [hE.out.1, hE.out.2]; rfl, hb2.out⟩
theorem put_6 (m : Md) (p : Bool) (n : Int) (hw : (Lit.int .i64 n).wf = true) (on : Bool) (hs : spot p n = 6) (w : World) :
    Calls Try.prog 8 #[.agg (mA m), .bool p, .int .i64 n, .bool on] w (PutIs m p n on w) := by
  have hE : Hid (m.put p n on = m.set 6 on ∧ known p n = true) := ⟨by unfold Md.put; rw [hs], by unfold known; rw [hs]; rfl⟩
  have hb0 := Lib.hid (below_two w m)
  have hm0 := Lib.hid (two_m w m)
  have hr0 := Lib.hid (two_r w m)
  replace hs := Lib.hid hs
  have hinf := Lib.hid (mA_info (m.set 6 on))
  have hset := Lib.hid (mA_set m (k := 6) (by omega) on)
  go_enter Try.func8, Try.ntmps8
  go_wp2_with (first
    | (go_at_call 20; (with_reducible refine (places_any _).mono ?_); rintro e w1 ⟨b, rfl, hP, hb1⟩; have hlk := look_yes hP hw hs.out (by omega) (f := 23) rfl; have hb2 := Lib.hid (below_next hb0.out hb1); have hm1 := Lib.hid (hm0.out.below hb1); have hr1 := Lib.hid (hr0.out.below hb1); clear hb1 hb0 hm0 hr0)
    | (with_reducible show wpList _ _ _ (⟨none, .store _ (.tmp 24) _, _, _, _, _⟩ :: _) _ _; go_must (refine wpList_store1 rfl _ (.tmp 24) (.tmp 23) rfl hm1.out.blk (.bool on) rfl rfl (by rw [mA_size]; omega) infoBool rfl ?_); intro w3 hd3 ho3; go_must (rw [hset.out] at hd3); go_must (replace hd3 := Lib.hid (MB.of hd3); have hr3 := Lib.hid (hr1.out.only ho3 (by simp)); have hb3 := Lib.hid (hb2.out.trans (ho3.below hb2.out.size (by simp))); clear hb2 hr1 hm1 ho3))
    | (with_reducible show wpList _ _ _ (⟨some 25, .load _ (.tmp 4), _, _, _, _⟩ :: _) _ _; go_must (refine wpList_load_row rfl _ (.tmp 4) rfl w.heap.size rfl _ (mA (m.set 6 on)) (0, 0) _ (blk hd3.out.blk) Try.underlying23 rfl hinf.out ?_))
    | (with_reducible show wpList _ _ _ (⟨none, .store _ (.tmp 8) _, _, _, _, _⟩ :: _) _ _; go_must (refine wpList_storeAll rfl _ (.tmp 8) (.tmp 25) rfl hr3.out.blk (mA (m.set 6 on)) rfl rfl hinf.out rfl (mA_one _) ?_); intro w2 hd2 ho2)
    | (go_at_call 23; refine (clos_6 _ _).mono ?_; rintro e w' ⟨rfl, rfl⟩))
  exact end_mb rfl rfl rfl rfl hd2 ⟨by rw [hE.out.1, hE.out.2]; rfl, hb3.out.trans (ho2.below hb3.out.size (by simp))⟩
theorem clos_7 (b : Nat) (w : World) : Calls Try.prog 30 #[.pointer (some ⟨b, 0, none⟩)] w fun e w' => e = .returned (.pointer (some ⟨b, 7, none⟩)) ∧ w = w' := by
  go_enter Try.func30, Try.ntmps30
  go_wp2
  go_ret
  exact ⟨rfl, rfl⟩
theorem get_7 (m : Md) (p : Bool) (n : Int) (hw : (Lit.int .i64 n).wf = true) (hs : spot p n = 7) (w : World) :
    Calls Try.prog 11 #[.agg (mA m), .bool p, .int .i64 n] w (GetIs m p n w) := by
  have hE : Hid (m.has p n = m.get 7 ∧ known p n = true) := ⟨by unfold Md.has; rw [hs], by unfold known; rw [hs]; rfl⟩
  have hb0 := Lib.hid (below_new w (.cells (mA m) 23))
  have hm0 := Lib.hid (MB.made w m)
  replace hs := Lib.hid hs
  go_enter Try.func11, Try.ntmps11
  go_wp2_with (first
    | (go_at_call 20; (with_reducible refine (places_any _).mono ?_); rintro e w1 ⟨b, rfl, hP, hb1⟩; have hlk := look_yes hP hw hs.out (by omega) (f := 30) rfl; have hb2 := Lib.hid (below_next hb0.out hb1); have hc1 := (hm0.out.below hb1).cell (k := 7) (by omega); clear hb1)
    | (go_at_call 30; refine (clos_7 _ _).mono ?_; rintro e w' ⟨rfl, rfl⟩))
  go_ret2
  exact ⟨by rw [hE.out.1, hE.out.2]; rfl, hb2.out⟩
theorem put_7 (m : Md) (p : Bool) (n : Int) (hw : (Lit.int .i64 n).wf = true) (on : Bool) (hs : spot p n = 7) (w : World) :
    Calls Try.prog 8 #[.agg (mA m), .bool p, .int .i64 n, .bool on] w (PutIs m p n on w) := by
  have hE : Hid (m.put p n on = m.set 7 on ∧ known p n = true) := ⟨by unfold Md.put; rw [hs], by unfold known; rw [hs]; rfl⟩
  have hb0 := Lib.hid (below_two w m)
  have hm0 := Lib.hid (two_m w m)
  have hr0 := Lib.hid (two_r w m)
  replace hs := Lib.hid hs
  have hinf := Lib.hid (mA_info (m.set 7 on))
  have hset := Lib.hid (mA_set m (k := 7) (by omega) on)
  go_enter Try.func8, Try.ntmps8
  go_wp2_with (first
    | (go_at_call 20; (with_reducible refine (places_any _).mono ?_); rintro e w1 ⟨b, rfl, hP, hb1⟩; have hlk := look_yes hP hw hs.out (by omega) (f := 30) rfl; have hb2 := Lib.hid (below_next hb0.out hb1); have hm1 := Lib.hid (hm0.out.below hb1); have hr1 := Lib.hid (hr0.out.below hb1); clear hb1 hb0 hm0 hr0)
    | (with_reducible show wpList _ _ _ (⟨none, .store _ (.tmp 24) _, _, _, _, _⟩ :: _) _ _; go_must (refine wpList_store1 rfl _ (.tmp 24) (.tmp 23) rfl hm1.out.blk (.bool on) rfl rfl (by rw [mA_size]; omega) infoBool rfl ?_); intro w3 hd3 ho3; go_must (rw [hset.out] at hd3); go_must (replace hd3 := Lib.hid (MB.of hd3); have hr3 := Lib.hid (hr1.out.only ho3 (by simp)); have hb3 := Lib.hid (hb2.out.trans (ho3.below hb2.out.size (by simp))); clear hb2 hr1 hm1 ho3))
    | (with_reducible show wpList _ _ _ (⟨some 25, .load _ (.tmp 4), _, _, _, _⟩ :: _) _ _; go_must (refine wpList_load_row rfl _ (.tmp 4) rfl w.heap.size rfl _ (mA (m.set 7 on)) (0, 0) _ (blk hd3.out.blk) Try.underlying23 rfl hinf.out ?_))
    | (with_reducible show wpList _ _ _ (⟨none, .store _ (.tmp 8) _, _, _, _, _⟩ :: _) _ _; go_must (refine wpList_storeAll rfl _ (.tmp 8) (.tmp 25) rfl hr3.out.blk (mA (m.set 7 on)) rfl rfl hinf.out rfl (mA_one _) ?_); intro w2 hd2 ho2)
    | (go_at_call 30; refine (clos_7 _ _).mono ?_; rintro e w' ⟨rfl, rfl⟩))
  exact end_mb rfl rfl rfl rfl hd2 ⟨by rw [hE.out.1, hE.out.2]; rfl, hb3.out.trans (ho2.below hb3.out.size (by simp))⟩
theorem get_any (m : Md) (p : Bool) (n : Int) (hw : (Lit.int .i64 n).wf = true) (w : World) :
    Calls Try.prog 11 #[.agg (mA m), .bool p, .int .i64 n] w (GetIs m p n w) := by
  rcases small (spot_le p n) with h | h | h | h | h | h | h | h | h
  · exact get_0 m p n hw h w
  · exact get_1 m p n hw h w
  · exact get_2 m p n hw h w
  · exact get_3 m p n hw h w
  · exact get_4 m p n hw h w
  · exact get_5 m p n hw h w
  · exact get_6 m p n hw h w
  · exact get_7 m p n hw h w
  · exact get_no m p n hw h w
theorem put_any (m : Md) (p : Bool) (n : Int) (hw : (Lit.int .i64 n).wf = true) (on : Bool) (w : World) :
    Calls Try.prog 8 #[.agg (mA m), .bool p, .int .i64 n, .bool on] w (PutIs m p n on w) := by
  rcases small (spot_le p n) with h | h | h | h | h | h | h | h | h
  · exact put_0 m p n hw on h w
  · exact put_1 m p n hw on h w
  · exact put_2 m p n hw on h w
  · exact put_3 m p n hw on h w
  · exact put_4 m p n hw on h w
  · exact put_5 m p n hw on h w
  · exact put_6 m p n hw on h w
  · exact put_7 m p n hw on h w
  · exact put_no m p n hw on h w

end Go.Proofs.Ytnammlihpjjdoaa.Mds
