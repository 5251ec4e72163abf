/-
  parser: Feed, where the state's step is called (1 of 3).
-/
import Derived.Test.YtgkpcjhnphfkgaaQTab
namespace Go.Proofs.Ytgkpcjhnphfkgaa.Prs
open Go Go.RowKit Go.Proofs.Ytgkpcjhnphfkgaa.Com Go.Proofs.Ytgkpcjhnphfkgaa.Par

set_option maxRecDepth 100000 in
set_option maxHeartbeats 2000000 in
theorem feed_ground (S : PS) (v : Value) (r : Int) (hr : Mid r) (B d : Nat) (w : World) (hd : ParIn w B d v S) (X : Stp) (hix : StepIs S.st 24)
    (hcon : ∀ w1, w.heap.size ≤ w1.heap.size → ParIn w1 B d v S → Calls Try.prog 24 #[.pointer (some ⟨d, 0, none⟩), .int .i32 r] w1 (Fed w1 B d v X)) :
    Calls Try.prog 8 #[.pointer (some ⟨d, 0, none⟩), .int .i32 r] w (Fed w B d v X) := by
  have h0 := hd.blk.c0
  have hk := Lib.hid (fun w' (h : ParIn w' B d v S) => h.blk.c0)
  have hdr := Lib.hid (hd.only (only_drew [] w) (by simp) (by simp))
  obtain ⟨ra, rb, rc, rd, re, rf, rg⟩ := hr
  replace hcon := Lib.hid hcon
  have hiy : ∀ w, (Instr.index 47 stepsV (.int .u8 S.st)).run Try.prog w = .ok (.func (.func 24) #[] #[]) w := hix
  clear hd hix
  generalize S.st = k at h0 hk hiy
  go_enter Try.func8, Try.ntmps8
  go_wp2_with fail
  go_region_with (first
    | (go_at_call 17; refine (steps_any _).mono ?_; rintro e w1 ⟨rfl, hb1⟩; have k1 := hk.out _ (hdr.out.new hb1))
    | (go_at_call 24; refine (hcon.out _ hb1.size (hdr.out.new hb1)).mono ?_; rintro e w9 ⟨x, u, rfl, hf⟩; obtain ⟨ax, nx, cx, rfl⟩ := hf.shape; replace hf := Lib.hid hf))
  all_goals go_wp2
  all_goals go_ret
  all_goals exact ⟨_, u, rfl, (hf.out.after (Only.of_below hb1 [d])).after (only_drew _ _)⟩

set_option maxRecDepth 100000 in
set_option maxHeartbeats 2000000 in
theorem feed_escape (S : PS) (v : Value) (r : Int) (hr : Mid r) (B d : Nat) (w : World) (hd : ParIn w B d v S) (X : Stp) (hix : StepIs S.st 25)
    (hcon : ∀ w1, w.heap.size ≤ w1.heap.size → ParIn w1 B d v S → Calls Try.prog 25 #[.pointer (some ⟨d, 0, none⟩), .int .i32 r] w1 (Fed w1 B d v X)) :
    Calls Try.prog 8 #[.pointer (some ⟨d, 0, none⟩), .int .i32 r] w (Fed w B d v X) := by
  have h0 := hd.blk.c0
  have hk := Lib.hid (fun w' (h : ParIn w' B d v S) => h.blk.c0)
  have hdr := Lib.hid (hd.only (only_drew [] w) (by simp) (by simp))
  obtain ⟨ra, rb, rc, rd, re, rf, rg⟩ := hr
  replace hcon := Lib.hid hcon
  have hiy : ∀ w, (Instr.index 47 stepsV (.int .u8 S.st)).run Try.prog w = .ok (.func (.func 25) #[] #[]) w := hix
  clear hd hix
  generalize S.st = k at h0 hk hiy
  go_enter Try.func8, Try.ntmps8
  go_wp2_with fail
  go_region_with (first
    | (go_at_call 17; refine (steps_any _).mono ?_; rintro e w1 ⟨rfl, hb1⟩; have k1 := hk.out _ (hdr.out.new hb1))
    | (go_at_call 25; refine (hcon.out _ hb1.size (hdr.out.new hb1)).mono ?_; rintro e w9 ⟨x, u, rfl, hf⟩; obtain ⟨ax, nx, cx, rfl⟩ := hf.shape; replace hf := Lib.hid hf))
  all_goals go_wp2
  all_goals go_ret
  all_goals exact ⟨_, u, rfl, (hf.out.after (Only.of_below hb1 [d])).after (only_drew _ _)⟩

set_option maxRecDepth 100000 in
set_option maxHeartbeats 2000000 in
theorem feed_escapeInter (S : PS) (v : Value) (r : Int) (hr : Mid r) (B d : Nat) (w : World) (hd : ParIn w B d v S) (X : Stp) (hix : StepIs S.st 26)
    (hcon : ∀ w1, w.heap.size ≤ w1.heap.size → ParIn w1 B d v S → Calls Try.prog 26 #[.pointer (some ⟨d, 0, none⟩), .int .i32 r] w1 (Fed w1 B d v X)) :
    Calls Try.prog 8 #[.pointer (some ⟨d, 0, none⟩), .int .i32 r] w (Fed w B d v X) := by
  have h0 := hd.blk.c0
  have hk := Lib.hid (fun w' (h : ParIn w' B d v S) => h.blk.c0)
  have hdr := Lib.hid (hd.only (only_drew [] w) (by simp) (by simp))
  obtain ⟨ra, rb, rc, rd, re, rf, rg⟩ := hr
  replace hcon := Lib.hid hcon
  have hiy : ∀ w, (Instr.index 47 stepsV (.int .u8 S.st)).run Try.prog w = .ok (.func (.func 26) #[] #[]) w := hix
  clear hd hix
  generalize S.st = k at h0 hk hiy
  go_enter Try.func8, Try.ntmps8
  go_wp2_with fail
  go_region_with (first
    | (go_at_call 17; refine (steps_any _).mono ?_; rintro e w1 ⟨rfl, hb1⟩; have k1 := hk.out _ (hdr.out.new hb1))
    | (go_at_call 26; refine (hcon.out _ hb1.size (hdr.out.new hb1)).mono ?_; rintro e w9 ⟨x, u, rfl, hf⟩; obtain ⟨ax, nx, cx, rfl⟩ := hf.shape; replace hf := Lib.hid hf))
  all_goals go_wp2
  all_goals go_ret
  all_goals exact ⟨_, u, rfl, (hf.out.after (Only.of_below hb1 [d])).after (only_drew _ _)⟩

end Go.Proofs.Ytgkpcjhnphfkgaa.Prs
