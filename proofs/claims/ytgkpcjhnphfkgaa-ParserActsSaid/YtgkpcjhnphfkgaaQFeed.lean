/-
  parser: Feed, New, State.
-/
import Derived.Test.YtgkpcjhnphfkgaaQFeedA
import Derived.Test.YtgkpcjhnphfkgaaQFeedB
import Derived.Test.YtgkpcjhnphfkgaaQFeedC
namespace Go.Proofs.Ytgkpcjhnphfkgaa.Prs
open Go Go.RowKit Go.Proofs.Ytgkpcjhnphfkgaa.Com Go.Proofs.Ytgkpcjhnphfkgaa.Par

theorem feed_mid (S : PS) (hS : S.Ok) (v : Value) (r : Int) (h0 : 32 ≤ r) (h1 : r < 127) (B d : Nat) (w : World) (hd : ParIn w B d v S) (hB : B ≤ w.heap.size) :
    Calls Try.prog 8 #[.pointer (some ⟨d, 0, none⟩), .int .i32 r] w (Fed w B d v (stepF S r)) := by
  have hr := mid_of h0 h1
  obtain ⟨s0, s1⟩ := hS.st
  rcases (by omega : S.st = 0 ∨ S.st = 1 ∨ S.st = 2 ∨ S.st = 3 ∨ S.st = 4 ∨ S.st = 5 ∨ S.st = 6 ∨ S.st = 7 ∨ S.st = 8 ∨ S.st = 9 ∨ S.st = 10 ∨ S.st = 11 ∨ S.st = 12 ∨ S.st = 13) with e | e | e | e | e | e | e | e | e | e | e | e | e | e
  · rw [show stepF S r = groundF S r by unfold stepF; rw [if_pos e]]
    exact feed_ground S v r hr B d w hd _ (e ▸ stepAt0) (fun w1 _ h => groundF_any S v r B d w1 h)
  · rw [show stepF S r = escapeF S r by simp [stepF, e]]
    exact feed_escape S v r hr B d w hd _ (e ▸ stepAt1) (fun w1 _ h => escape_any S hS v r B d w1 h)
  · rw [show stepF S r = escInterF S r by simp [stepF, e]]
    exact feed_escapeInter S v r hr B d w hd _ (e ▸ stepAt2) (fun w1 _ h => escInter_any S hS v r B d w1 h)
  · rw [show stepF S r = entryF S r by simp [stepF, e]]
    exact feed_entry S v r hr B d w hd _ (e ▸ stepAt3) (fun w1 _ h => entry_any S hS v r B d w1 h)
  · rw [show stepF S r = paramF S r by simp [stepF, e]]
    exact feed_param S v r hr B d w hd _ (e ▸ stepAt4) (fun w1 _ h => param_any S hS v r B d w1 h)
  · rw [show stepF S r = interF S r by simp [stepF, e]]
    exact feed_inter S v r hr B d w hd _ (e ▸ stepAt5) (fun w1 _ h => inter_any S hS v r B d w1 h)
  · rw [show stepF S r = csiIgnF S r by simp [stepF, e]]
    exact feed_csiIgnore S v r hr B d w hd _ (e ▸ stepAt6) (fun w1 _ h => csiIgn_any S hS v r B d w1 h)
  · rw [show stepF S r = entryF S r by simp [stepF, e]]
    exact feed_entry S v r hr B d w hd _ (e ▸ stepAt7) (fun w1 _ h => entry_any S hS v r B d w1 h)
  · rw [show stepF S r = paramF S r by simp [stepF, e]]
    exact feed_param S v r hr B d w hd _ (e ▸ stepAt8) (fun w1 _ h => param_any S hS v r B d w1 h)
  · rw [show stepF S r = interF S r by simp [stepF, e]]
    exact feed_inter S v r hr B d w hd _ (e ▸ stepAt9) (fun w1 _ h => inter_any S hS v r B d w1 h)
  · rw [show stepF S r = ([], S) by simp [stepF, e]]
    exact feed_nothing S v r hr B d w hd _ (e ▸ stepAt10) (fun w1 _ h => nothing_any S v r B d w1 h)
  · rw [show stepF S r = ([], S) by simp [stepF, e]]
    exact feed_nothing S v r hr B d w hd _ (e ▸ stepAt11) (fun w1 _ h => nothing_any S v r B d w1 h)
  · rw [show stepF S r = oscF S r by simp [stepF, e]]
    exact feed_osc S v r hr B d w hd _ (e ▸ stepAt12) (fun w1 hs h => osc_any S hS v r B d w1 h (Nat.le_trans hB hs))
  · rw [show stepF S r = ([], S) by simp [stepF, e]]
    exact feed_nothing S v r hr B d w hd _ (e ▸ stepAt13) (fun w1 _ h => nothing_any S v r B d w1 h)

theorem feedN_control {S : PS} {r : Int} (h0 : ¬ (r = 24 ∨ r = 26)) (h1 : ¬ r = 27) (h : r < 32) : feedN S r = controlF S r := by unfold feedN; rw [if_neg h0, if_neg h1, if_pos h]
theorem feedN_mid {S : PS} {r : Int} (h0 : 32 ≤ r) (h : r < 127) : feedN S r = stepF S r := by unfold feedN; rw [if_neg (by omega), if_neg (by omega), if_neg (by omega), if_pos h]
theorem feedN_upper {S : PS} {r : Int} (h0 : 127 < r) (h : r < 160) : feedN S r = upperF S r := by unfold feedN; rw [if_neg (by omega), if_neg (by omega), if_neg (by omega), if_neg (by omega), if_neg (by omega), if_pos h]
theorem feedN_beyond {S : PS} {r : Int} (h0 : 160 ≤ r) : feedN S r = beyondF S r := by unfold feedN; rw [if_neg (by omega), if_neg (by omega), if_neg (by omega), if_neg (by omega), if_neg (by omega), if_neg (by omega)]

set_option maxRecDepth 100000 in
set_option maxHeartbeats 4000000 in
theorem feed_in (S : PS) (hS : S.Ok) (v : Value) (r : Int) (ra : ¬ r < 0) (rb : ¬ 1114111 < r) (B d : Nat) (w : World) (hd : ParIn w B d v S) (hB : B ≤ w.heap.size) :
    Calls Try.prog 8 #[.pointer (some ⟨d, 0, none⟩), .int .i32 r] w (Fed w B d v (feedN S r)) := by
  have hL := hS.sq.num.len
  by_cases hmid : 32 ≤ r ∧ r < 127
  · rw [feedN_mid hmid.1 hmid.2]
    exact feed_mid S hS v r hmid.1 hmid.2 B d w hd hB
  have hd' := Lib.hid hd
  clear hd
  by_cases h24 : r = 24 ∨ r = 26
  · have hE : Hid (feedN S r = execLeadF S r) := by show _ = _; unfold feedN; rw [if_pos h24]
    clear ra rb hmid
    rcases h24 with rfl | rfl
    all_goals
      go_enter Try.func8, Try.ntmps8
      go_wp2_with fail
      (refine (execLead_any S v hL _ B d w hd'.out).mono ?_; rintro e w9 ⟨x, u, rfl, hf⟩; obtain ⟨ax, nx, cx, rfl⟩ := hf.shape; replace hf := Lib.hid hf; go_wp2_with fail; go_ret; rw [hE.out]; exact ⟨_, u, rfl, hf.out.after (Only.refl _ _)⟩)
  by_cases h27 : r = 27
  · have hE : Hid (feedN S r = leadF S 1) := by show _ = _; unfold feedN; rw [if_neg h24, if_pos h27]
    subst h27
    clear ra rb hmid h24
    go_enter Try.func8, Try.ntmps8
    go_wp2_with fail
    (refine (lead_any S v hL 1 B d w hd'.out).mono ?_; rintro e w9 ⟨x, u, rfl, hf⟩; obtain ⟨ax, nx, cx, rfl⟩ := hf.shape; replace hf := Lib.hid hf; go_wp2_with fail; go_ret; rw [hE.out]; exact ⟨_, u, rfl, hf.out.after (Only.refl _ _)⟩)
  have q24 : (r == 24) = false := by simp; omega
  have q26 : (r == 26) = false := by simp; omega
  have q27 : (r == 27) = false := by simpa using h27
  by_cases h32 : r < 32
  · have hE := Lib.hid (feedN_control (S := S) h24 h27 h32)
    clear h24 h27 hmid
    go_enter Try.func8, Try.ntmps8
    go_wp2_with fail
    (refine (control_any S hS v r B d w hd'.out).mono ?_; rintro e w9 ⟨x, u, rfl, hf⟩; obtain ⟨ax, nx, cx, rfl⟩ := hf.shape; replace hf := Lib.hid hf; go_wp2_with fail; go_ret; rw [hE.out]; exact ⟨_, u, rfl, hf.out.after (Only.refl _ _)⟩)
  by_cases h127 : r = 127
  · have hE : Hid (feedN S r = ([], S)) := by show _ = _; subst h127; rfl
    subst h127
    clear ra rb hmid h24 h27 q24 q26 q27 h32
    go_enter Try.func8, Try.ntmps8
    go_wp2_with fail
    go_ret
    rw [hE.out]
    exact fed_none hd'.out
  have q127 : (r == 127) = false := by simpa using h127
  have h126 : ¬ r < 127 := by omega
  by_cases h160 : r < 160
  · have hE := Lib.hid (feedN_upper (S := S) (r := r) (by omega) h160)
    clear h24 h27 hmid h127
    go_enter Try.func8, Try.ntmps8
    go_wp2_with fail
    (refine (upper_any S hS v r B d w hd'.out).mono ?_; rintro e w9 ⟨x, u, rfl, hf⟩; obtain ⟨ax, nx, cx, rfl⟩ := hf.shape; replace hf := Lib.hid hf; go_wp2_with fail; go_ret; rw [hE.out]; exact ⟨_, u, rfl, hf.out.after (Only.refl _ _)⟩)
  · have hE := Lib.hid (feedN_beyond (S := S) (r := r) (by omega))
    clear h24 h27 hmid h127
    go_enter Try.func8, Try.ntmps8
    go_wp2_with fail
    (refine (beyond_any S hS v r B d w hd'.out hB).mono ?_; rintro e w9 ⟨x, u, rfl, hf⟩; obtain ⟨ax, nx, cx, rfl⟩ := hf.shape; replace hf := Lib.hid hf; go_wp2_with fail; go_ret; rw [hE.out]; exact ⟨_, u, rfl, hf.out.after (Only.refl _ _)⟩)

set_option maxRecDepth 100000 in
set_option maxHeartbeats 4000000 in
theorem feed_any (S : PS) (hS : S.Ok) (v : Value) (r : Int) (B d : Nat) (w : World) (hd : ParIn w B d v S) (hB : B ≤ w.heap.size) :
    Calls Try.prog 8 #[.pointer (some ⟨d, 0, none⟩), .int .i32 r] w (Fed w B d v (feedF S r)) := by
  by_cases ra : r < 0
  · have hE : Hid (feedF S r = beyondF S 65533) := by show _ = _; unfold feedF normF; rw [if_pos (Or.inl ra)]; exact feedN_beyond (by omega)
    have hd' := Lib.hid hd
    clear hd
    go_enter Try.func8, Try.ntmps8
    go_wp2_with fail
    (refine (beyond_any S hS v 65533 B d w hd'.out hB).mono ?_; rintro e w9 ⟨x, u, rfl, hf⟩; obtain ⟨ax, nx, cx, rfl⟩ := hf.shape; replace hf := Lib.hid hf; go_wp2_with fail; go_ret; rw [hE.out]; exact ⟨_, u, rfl, hf.out.after (Only.refl _ _)⟩)
  by_cases rb : 1114111 < r
  · have hE : Hid (feedF S r = beyondF S 65533) := by show _ = _; unfold feedF normF; rw [if_pos (Or.inr rb)]; exact feedN_beyond (by omega)
    have hd' := Lib.hid hd
    clear hd
    go_enter Try.func8, Try.ntmps8
    go_wp2_with fail
    (refine (beyond_any S hS v 65533 B d w hd'.out hB).mono ?_; rintro e w9 ⟨x, u, rfl, hf⟩; obtain ⟨ax, nx, cx, rfl⟩ := hf.shape; replace hf := Lib.hid hf; go_wp2_with fail; go_ret; rw [hE.out]; exact ⟨_, u, rfl, hf.out.after (Only.refl _ _)⟩)
  · rw [show feedF S r = feedN S r by unfold feedF normF; rw [if_neg (by omega)]]
    exact feed_in S hS v r ra rb B d w hd hB
theorem feed_nil (r : Int) (w : World) : Calls Try.prog 8 #[.pointer none, .int .i32 r] w fun e w' => e = .returned (.slice none 0 0) ∧ w' = w := by
  go_enter Try.func8, Try.ntmps8
  go_wp2
  go_ret
  exact ⟨rfl, rfl⟩

theorem state_any (S : PS) (v : Value) (d : Nat) (w : World) (hd : PBlk w d S v) :
    Calls Try.prog 9 #[.pointer (some ⟨d, 0, none⟩)] w fun e w' => e = .returned (.int .u8 S.st) ∧ w' = w := by
  have h0 := hd.c0
  clear hd
  generalize S.st = s at h0
  go_enter Try.func9, Try.ntmps9
  go_wp2
  go_ret
  exact ⟨rfl, rfl⟩
theorem state_nil (w : World) : Calls Try.prog 9 #[.pointer none] w fun e w' => e = .returned (.int .u8 0) ∧ w' = w := by
  go_enter Try.func9, Try.ntmps9
  go_wp2
  go_ret
  exact ⟨rfl, rfl⟩
theorem copy_nil (w : World) : Calls Try.prog 12 #[.pointer none] w fun e w' => e = .returned (.pointer none) ∧ w' = w := by
  go_enter Try.func12, Try.ntmps12
  go_wp2
  go_ret
  exact ⟨rfl, rfl⟩
theorem new_any (w : World) : Calls Try.prog 7 #[] w fun e w' => e = .returned (.pointer (some ⟨w.heap.size, 0, none⟩)) ∧ w' = w.alloc (.cells (parL start (.slice none 0 0)).toArray 43) := by
  go_enter Try.func7, Try.ntmps7
  go_wp2
  go_ret
  exact ⟨rfl, rfl⟩

end Go.Proofs.Ytgkpcjhnphfkgaa.Prs
