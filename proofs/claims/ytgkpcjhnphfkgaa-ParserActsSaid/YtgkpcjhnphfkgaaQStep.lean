/-
  parser: the states' steps.
-/
import Derived.Test.YtgkpcjhnphfkgaaQExec
namespace Go.Proofs.Ytgkpcjhnphfkgaa.Prs
open Go Go.RowKit Go.Proofs.Ytgkpcjhnphfkgaa.Com Go.Proofs.Ytgkpcjhnphfkgaa.Par

theorem take_len {S : PS} (h : S.sq.num.n.length ≤ 32) (r : Int) : (S.take r).sq.num.n.length ≤ 32 := by
  show (S.sq.put r).num.n.length ≤ 32
  rw [(Sq.put_pr S.sq r).2]
  exact h

theorem course_any (S : PS) (v : Value) (d : Nat) (w : World) (hd : PBlk w d S v) :
    Calls Try.prog 36 #[.pointer (some ⟨d, 0, none⟩)] w fun e w' => e = .returned (.agg #[.int .u8 (cParam S.st), .int .u8 (cInter S.st), .int .u8 (cIgnore S.st), .int .u8 (cEnd S.st), .int .u8 (cAct S.st)]) ∧ Below w.heap.size w w' := by
  have h0 := hd.c0
  have hlt := hd.lt
  clear hd
  generalize S.st = s at h0
  by_cases hs : s = 7 ∨ s = 8 ∨ s = 9
  · have hE : Hid (cParam s = 8 ∧ cInter s = 9 ∧ cIgnore s = 11 ∧ cEnd s = 10 ∧ cAct s = 6) := by
      have : dcsB s = true := by simpa [dcsB] using hs
      unfold cParam cInter cIgnore cEnd cAct
      rw [this]
      exact ⟨rfl, rfl, rfl, rfl, rfl⟩
    rcases hs with rfl | rfl | rfl
    all_goals
      go_enter Try.func36, Try.ntmps36
      go_wp2
      obtain ⟨e1, e2, e3, e4, e5⟩ := hE.out
      rw [e1, e2, e3, e4, e5]
      exact bodyPost_ret (v := .agg #[.int .u8 8, .int .u8 9, .int .u8 11, .int .u8 10, .int .u8 6]) (by simp [results, Try.results36, go_sem]) rfl ⟨rfl, below_new _ _⟩
  · have hE : Hid (cParam s = 4 ∧ cInter s = 5 ∧ cIgnore s = 6 ∧ cEnd s = 0 ∧ cAct s = 4) := by
      have : ¬ dcsB s = true := by simpa [dcsB] using hs
      unfold cParam cInter cIgnore cEnd cAct
      rw [if_neg this, if_neg this, if_neg this, if_neg this, if_neg this]
      exact ⟨rfl, rfl, rfl, rfl, rfl⟩
    have q7 : (s == 7) = false := by simp; omega
    have q8 : (s == 8) = false := by simp; omega
    have q9 : (s == 9) = false := by simp; omega
    clear hs
    go_enter Try.func36, Try.ntmps36
    go_wp2
    obtain ⟨e1, e2, e3, e4, e5⟩ := hE.out
    rw [e1, e2, e3, e4, e5]
    exact bodyPost_ret (v := .agg #[.int .u8 4, .int .u8 5, .int .u8 6, .int .u8 0, .int .u8 4]) (by simp [results, Try.results36, go_sem]) rfl ⟨rfl, below_new _ _⟩

set_option maxHeartbeats 1000000 in
theorem escInter_any (S : PS) (hS : S.Ok) (v : Value) (r : Int) (B d : Nat) (w : World) (hd : ParIn w B d v S) :
    Calls Try.prog 26 #[.pointer (some ⟨d, 0, none⟩), .int .i32 r] w (Fed w B d v (escInterF S r)) := by
  have hL := hS.sq.num.len
  have hd' := Lib.hid hd
  clear hd
  by_cases h : r < 48
  · have hE : Hid (escInterF S r = leadF (S.take r) 2) := by show _ = _; exact if_pos h
    go_enter Try.func26, Try.ntmps26
    go_wp2_with fail
    refine (collect_any S v hL hS.sq.cnt r d w hd'.out.blk).mono ?_
    rintro e w1 ⟨⟨y, rfl⟩, hb1, ho1⟩
    have hp := Lib.hid (hd'.out.turn hb1 ho1 rfl)
    clear hb1
    go_wp2_with fail
    (refine (lead_any (S.take r) v (take_len hL r) 2 B d w1 hp.out).mono ?_; rintro e w9 ⟨x, u, rfl, hf⟩; obtain ⟨ax, nx, cx, rfl⟩ := hf.shape; replace hf := Lib.hid hf; go_wp2_with fail; go_ret; rw [hE.out]; exact ⟨_, u, rfl, hf.out.after (ho1)⟩)
  · have hE : Hid (escInterF S r = finishF S 3 r 0) := by show _ = _; exact if_neg h
    go_enter Try.func26, Try.ntmps26
    go_wp2_with fail
    (refine (finish_any S v hL hS.sq.cnt 3 r 0 B d w hd'.out).mono ?_; rintro e w9 ⟨x, u, rfl, hf⟩; obtain ⟨ax, nx, cx, rfl⟩ := hf.shape; replace hf := Lib.hid hf; go_wp2_with fail; go_ret; rw [hE.out]; exact ⟨_, u, rfl, hf.out.after (Only.refl _ _)⟩)

set_option maxHeartbeats 1000000 in
theorem escape_any (S : PS) (hS : S.Ok) (v : Value) (r : Int) (B d : Nat) (w : World) (hd : ParIn w B d v S) :
    Calls Try.prog 25 #[.pointer (some ⟨d, 0, none⟩), .int .i32 r] w (Fed w B d v (escapeF S r)) := by
  have hL := hS.sq.num.len
  have hd' := Lib.hid hd
  clear hd
  by_cases h80 : r = 80
  · have hE : Hid (escapeF S r = leadF S 7) := by show _ = _; unfold escapeF; rw [if_pos h80]
    subst h80
    go_enter Try.func25, Try.ntmps25
    go_wp2_with fail
    (refine (lead_any S v hL 7 B d w hd'.out).mono ?_; rintro e w9 ⟨x, u, rfl, hf⟩; obtain ⟨ax, nx, cx, rfl⟩ := hf.shape; replace hf := Lib.hid hf; go_wp2_with fail; go_ret; rw [hE.out]; exact ⟨_, u, rfl, hf.out.after (Only.refl _ _)⟩)
  by_cases h88 : r = 88 ∨ r = 94 ∨ r = 95
  · have hE : Hid (escapeF S r = leadF S 13) := by show _ = _; unfold escapeF; rw [if_neg h80, if_pos h88]
    clear h80
    rcases h88 with rfl | rfl | rfl
    all_goals
      go_enter Try.func25, Try.ntmps25
      go_wp2_with fail
      (refine (lead_any S v hL 13 B d w hd'.out).mono ?_; rintro e w9 ⟨x, u, rfl, hf⟩; obtain ⟨ax, nx, cx, rfl⟩ := hf.shape; replace hf := Lib.hid hf; go_wp2_with fail; go_ret; rw [hE.out]; exact ⟨_, u, rfl, hf.out.after (Only.refl _ _)⟩)
  by_cases h91 : r = 91
  · have hE : Hid (escapeF S r = leadF S 3) := by show _ = _; unfold escapeF; rw [if_neg h80, if_neg h88, if_pos h91]
    subst h91
    clear h80 h88
    go_enter Try.func25, Try.ntmps25
    go_wp2_with fail
    (refine (lead_any S v hL 3 B d w hd'.out).mono ?_; rintro e w9 ⟨x, u, rfl, hf⟩; obtain ⟨ax, nx, cx, rfl⟩ := hf.shape; replace hf := Lib.hid hf; go_wp2_with fail; go_ret; rw [hE.out]; exact ⟨_, u, rfl, hf.out.after (Only.refl _ _)⟩)
  by_cases h93 : r = 93
  · have hE : Hid (escapeF S r = leadF S 12) := by show _ = _; unfold escapeF; rw [if_neg h80, if_neg h88, if_neg h91, if_pos h93]
    subst h93
    clear h80 h88 h91
    go_enter Try.func25, Try.ntmps25
    go_wp2_with fail
    (refine (lead_any S v hL 12 B d w hd'.out).mono ?_; rintro e w9 ⟨x, u, rfl, hf⟩; obtain ⟨ax, nx, cx, rfl⟩ := hf.shape; replace hf := Lib.hid hf; go_wp2_with fail; go_ret; rw [hE.out]; exact ⟨_, u, rfl, hf.out.after (Only.refl _ _)⟩)
  have hE : Hid (escapeF S r = escInterF S r) := by show _ = _; unfold escapeF; rw [if_neg h80, if_neg h88, if_neg h91, if_neg h93]
  have q80 : (r == 80) = false := by simpa using h80
  have q88 : (r == 88) = false := by simp; omega
  have q94 : (r == 94) = false := by simp; omega
  have q95 : (r == 95) = false := by simp; omega
  have q91 : (r == 91) = false := by simpa using h91
  have q93 : (r == 93) = false := by simpa using h93
  clear h80 h88 h91 h93
  go_enter Try.func25, Try.ntmps25
  go_wp2_with fail
  (refine (escInter_any S hS v r B d w hd'.out).mono ?_; rintro e w9 ⟨x, u, rfl, hf⟩; obtain ⟨ax, nx, cx, rfl⟩ := hf.shape; replace hf := Lib.hid hf; go_wp2_with fail; go_ret; rw [hE.out]; exact ⟨_, u, rfl, hf.out.after (Only.refl _ _)⟩)

set_option maxHeartbeats 1000000 in
theorem csiIgn_any (S : PS) (hS : S.Ok) (v : Value) (r : Int) (B d : Nat) (w : World) (hd : ParIn w B d v S) :
    Calls Try.prog 30 #[.pointer (some ⟨d, 0, none⟩), .int .i32 r] w (Fed w B d v (csiIgnF S r)) := by
  have hL := hS.sq.num.len
  have hd' := Lib.hid hd
  clear hd
  by_cases h : r < 64
  · have hE : Hid (csiIgnF S r = ([], S)) := by show _ = _; exact if_pos h
    go_enter Try.func30, Try.ntmps30
    go_wp2_with fail
    go_ret
    rw [hE.out]
    exact fed_none hd'.out
  · have hE : Hid (csiIgnF S r = leadF S 0) := by show _ = _; exact if_neg h
    go_enter Try.func30, Try.ntmps30
    go_wp2_with fail
    (refine (lead_any S v hL 0 B d w hd'.out).mono ?_; rintro e w9 ⟨x, u, rfl, hf⟩; obtain ⟨ax, nx, cx, rfl⟩ := hf.shape; replace hf := Lib.hid hf; go_wp2_with fail; go_ret; rw [hE.out]; exact ⟨_, u, rfl, hf.out.after (Only.refl _ _)⟩)
theorem nothing_any (S : PS) (v : Value) (r : Int) (B d : Nat) (w : World) (hd : ParIn w B d v S) :
    Calls Try.prog 31 #[.pointer (some ⟨d, 0, none⟩), .int .i32 r] w (Fed w B d v ([], S)) := by
  have hd' := Lib.hid hd
  clear hd
  go_enter Try.func31, Try.ntmps31
  go_wp2_with fail
  go_ret
  exact fed_none hd'.out
theorem groundF_any (S : PS) (v : Value) (r : Int) (B d : Nat) (w : World) (hd : ParIn w B d v S) :
    Calls Try.prog 24 #[.pointer (some ⟨d, 0, none⟩), .int .i32 r] w (Fed w B d v (groundF S r)) := by
  refine (ground_any r _ w).mono ?_
  rintro e w1 ⟨x, rfl, hx, hb⟩
  exact ⟨x, v, rfl, fed_new hd hx hb⟩

end Go.Proofs.Ytgkpcjhnphfkgaa.Prs
