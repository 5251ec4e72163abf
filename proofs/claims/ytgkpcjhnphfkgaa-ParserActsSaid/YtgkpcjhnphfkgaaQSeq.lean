/-
  parser: the steps of control sequences.
-/
import Derived.Test.YtgkpcjhnphfkgaaQStep
namespace Go.Proofs.Ytgkpcjhnphfkgaa.Prs
open Go Go.RowKit Go.Proofs.Ytgkpcjhnphfkgaa.Com Go.Proofs.Ytgkpcjhnphfkgaa.Par

theorem interF_lo {S : PS} {r : Int} (h : r < 48) : interF S r = leadF (S.take r) (cInter S.st) := if_pos h
theorem interF_mid {S : PS} {r : Int} (h : ¬ r < 48) (h2 : r < 64) : interF S r = leadF S (cIgnore S.st) := by unfold interF; rw [if_neg h, if_pos h2]
theorem interF_hi {S : PS} {r : Int} (h : ¬ r < 48) (h2 : ¬ r < 64) : interF S r = finishF S (cAct S.st) r (cEnd S.st) := by unfold interF; rw [if_neg h, if_neg h2]

set_option maxHeartbeats 2000000 in
theorem inter_any (S : PS) (hS : S.Ok) (v : Value) (r : Int) (B d : Nat) (w : World) (hd : ParIn w B d v S) :
    Calls Try.prog 29 #[.pointer (some ⟨d, 0, none⟩), .int .i32 r] w (Fed w B d v (interF S r)) := by
  have hL := hS.sq.num.len
  have hd' := Lib.hid hd
  have hcourse := Lib.hid (course_any S v d w hd.blk)
  clear hd
  by_cases h : r < 48
  · have hE := Lib.hid (interF_lo (S := S) h)
    go_enter Try.func29, Try.ntmps29
    go_wp2_with fail
    refine hcourse.out.mono ?_
    rintro e w1 ⟨rfl, hb1⟩
    have hp1 := hd'.out.new (hb1)
    have o1 := Only.of_below hb1 [d]
    generalize cParam S.st = x0
    generalize cInter S.st = x1 at hE ⊢
    generalize cIgnore S.st = x2
    generalize cEnd S.st = x3
    generalize cAct S.st = x4
    have hc := Block.made w1 58 #[.int .u8 x0, .int .u8 x1, .int .u8 x2, .int .u8 x3, .int .u8 x4]
    have hlt := hp1.blk.lt
    have hp2 := hp1.new (below_new w1 (.cells #[.int .u8 x0, .int .u8 x1, .int .u8 x2, .int .u8 x3, .int .u8 x4] 58))
    have o2 := o1.trans (Only.alloc [d] w1 (.cells #[.int .u8 x0, .int .u8 x1, .int .u8 x2, .int .u8 x3, .int .u8 x4] 58))
    replace hc := Lib.hid hc
    replace hp2 := Lib.hid hp2
    replace o2 := Lib.hid o2
    obtain ⟨cb, hcb⟩ : ∃ cb, cb = w1.heap.size := ⟨_, rfl⟩
    rw [← hcb] at hc hlt
    clear hp1 hb1 o1
    go_wp2_with fail
    refine (collect_any S v hL hS.sq.cnt r d _ hp2.out.blk).mono ?_
    rintro e w3 ⟨⟨y, rfl⟩, hb3, ho3⟩
    have hp3 := Lib.hid (hp2.out.turn hb3 ho3 rfl)
    have hc3 := hc.out.only ho3 (by simp; omega)
    rw [hcb] at hc3
    have k1 := hc3.cell 1 rfl
    have o3 := Lib.hid (o2.out.trans ho3)
    clear hb3 ho3 hc3
    go_wp2_with fail
    (refine (lead_any (S.take r) v (take_len hL r) x1 B d w3 hp3.out).mono ?_; rintro e w9 ⟨x, u, rfl, hf⟩; obtain ⟨ax, nx, cx, rfl⟩ := hf.shape; replace hf := Lib.hid hf; go_wp2_with fail; go_ret; rw [hE.out]; exact ⟨_, u, rfl, hf.out.after (o3.out)⟩)
  by_cases h2 : r < 64
  · have hE := Lib.hid (interF_mid (S := S) h h2)
    go_enter Try.func29, Try.ntmps29
    go_wp2_with fail
    refine hcourse.out.mono ?_
    rintro e w1 ⟨rfl, hb1⟩
    have hp1 := hd'.out.new (hb1)
    have o1 := Only.of_below hb1 [d]
    generalize cParam S.st = x0
    generalize cInter S.st = x1
    generalize cIgnore S.st = x2 at hE ⊢
    generalize cEnd S.st = x3
    generalize cAct S.st = x4
    have hc := Block.made w1 58 #[.int .u8 x0, .int .u8 x1, .int .u8 x2, .int .u8 x3, .int .u8 x4]
    have k2 := hc.cell 2 rfl
    have k3 := hc.cell 3 rfl
    have k4 := hc.cell 4 rfl
    have hp2 := hp1.new (below_new w1 (.cells #[.int .u8 x0, .int .u8 x1, .int .u8 x2, .int .u8 x3, .int .u8 x4] 58))
    have o2 := o1.trans (Only.alloc [d] w1 (.cells #[.int .u8 x0, .int .u8 x1, .int .u8 x2, .int .u8 x3, .int .u8 x4] 58))
    replace hp2 := Lib.hid hp2
    replace o2 := Lib.hid o2
    clear hp1 hb1 o1 hc
    go_wp2_with fail
    (refine (lead_any S v hL x2 B d _ hp2.out).mono ?_; rintro e w9 ⟨x, u, rfl, hf⟩; obtain ⟨ax, nx, cx, rfl⟩ := hf.shape; replace hf := Lib.hid hf; go_wp2_with fail; go_ret; rw [hE.out]; exact ⟨_, u, rfl, hf.out.after (o2.out)⟩)
  · have hE := Lib.hid (interF_hi (S := S) h h2)
    go_enter Try.func29, Try.ntmps29
    go_wp2_with fail
    refine hcourse.out.mono ?_
    rintro e w1 ⟨rfl, hb1⟩
    have hp1 := hd'.out.new (hb1)
    have o1 := Only.of_below hb1 [d]
    generalize cParam S.st = x0
    generalize cInter S.st = x1
    generalize cIgnore S.st = x2
    generalize cEnd S.st = x3 at hE ⊢
    generalize cAct S.st = x4 at hE ⊢
    have hc := Block.made w1 58 #[.int .u8 x0, .int .u8 x1, .int .u8 x2, .int .u8 x3, .int .u8 x4]
    have k2 := hc.cell 2 rfl
    have k3 := hc.cell 3 rfl
    have k4 := hc.cell 4 rfl
    have hp2 := hp1.new (below_new w1 (.cells #[.int .u8 x0, .int .u8 x1, .int .u8 x2, .int .u8 x3, .int .u8 x4] 58))
    have o2 := o1.trans (Only.alloc [d] w1 (.cells #[.int .u8 x0, .int .u8 x1, .int .u8 x2, .int .u8 x3, .int .u8 x4] 58))
    replace hp2 := Lib.hid hp2
    replace o2 := Lib.hid o2
    clear hp1 hb1 o1 hc
    go_wp2_with fail
    (refine (finish_any S v hL hS.sq.cnt x4 r x3 B d _ hp2.out).mono ?_; rintro e w9 ⟨x, u, rfl, hf⟩; obtain ⟨ax, nx, cx, rfl⟩ := hf.shape; replace hf := Lib.hid hf; go_wp2_with fail; go_ret; rw [hE.out]; exact ⟨_, u, rfl, hf.out.after (o2.out)⟩)

theorem field0 (x0 x1 x2 x3 x4 : Int) (w : World) : (Instr.field 58 (.agg #[.int .u8 x0, .int .u8 x1, .int .u8 x2, .int .u8 x3, .int .u8 x4]) 0).run Try.prog w = .ok (.int .u8 x0) w := by
  kernel_rfl
theorem paramF_dig {S : PS} {r : Int} (h : 48 ≤ r ∧ r ≤ 57) : paramF S r = leadF (S.num (digitF S.sq.num (r - 48))) (cParam S.st) := if_pos h
theorem paramF_next {S : PS} : paramF S 59 = leadF (S.num (nextF S.sq.num)) (cParam S.st) := by unfold paramF; rw [if_neg (by omega), if_pos rfl]
theorem paramF_else {S : PS} {r : Int} (h : ¬ (48 ≤ r ∧ r ≤ 57)) (h2 : ¬ r = 59) : paramF S r = interF S r := by unfold paramF; rw [if_neg h, if_neg h2]

set_option maxHeartbeats 2000000 in
theorem param_any (S : PS) (hS : S.Ok) (v : Value) (r : Int) (B d : Nat) (w : World) (hd : ParIn w B d v S) :
    Calls Try.prog 28 #[.pointer (some ⟨d, 0, none⟩), .int .i32 r] w (Fed w B d v (paramF S r)) := by
  have hL := hS.sq.num.len
  have hd' := Lib.hid hd
  clear hd
  by_cases h : 48 ≤ r ∧ r ≤ 57
  · have hE := Lib.hid (paramF_dig (S := S) h)
    have hok := digit_ok hS.sq.num (r - 48)
    obtain ⟨h48, h57⟩ := h
    go_enter Try.func28, Try.ntmps28
    go_wp2_with fail
    refine (digit_any S v hS.sq.num (r - 48) (by omega) (by omega) d w hd'.out.blk).mono ?_
    rintro e w1 ⟨⟨y, rfl⟩, hb1, ho1⟩
    have hp1 := Lib.hid (hd'.out.turn hb1 ho1 rfl)
    have hcourse := Lib.hid (course_any _ v d w1 hb1)
    clear hb1
    generalize hS1 : S.num (digitF S.sq.num (r - 48)) = S1 at hp1 hcourse hE
    have e1 : S1.st = S.st := by rw [← hS1]; rfl
    have hL1 : S1.sq.num.n.length ≤ 32 := by rw [← hS1]; exact hok.len
    rw [e1] at hcourse
    clear hS1 e1
    go_wp2_with fail
    refine hcourse.out.mono ?_
    rintro e w2 ⟨rfl, hb2⟩
    have hp2 := Lib.hid (hp1.out.new hb2)
    have o2 := Lib.hid (ho1.trans (Only.of_below hb2 [d]))
    have hfd := field0
    generalize cParam S.st = x0 at hE ⊢
    clear hb2 ho1
    go_wp2_with fail
    (refine (lead_any S1 v hL1 x0 B d w2 hp2.out).mono ?_; rintro e w9 ⟨x, u, rfl, hf⟩; obtain ⟨ax, nx, cx, rfl⟩ := hf.shape; replace hf := Lib.hid hf; go_wp2_with fail; go_ret; rw [hE.out]; exact ⟨_, u, rfl, hf.out.after (o2.out)⟩)
  by_cases h59 : r = 59
  · subst h59
    have hE := Lib.hid (paramF_next (S := S))
    have hok := next_ok hS.sq.num
    clear h
    go_enter Try.func28, Try.ntmps28
    go_wp2_with fail
    refine (next_any S v hL d w hd'.out.blk).mono ?_
    rintro e w1 ⟨⟨y, rfl⟩, hb1, ho1⟩
    have hp1 := Lib.hid (hd'.out.turn hb1 ho1 rfl)
    have hcourse := Lib.hid (course_any _ v d w1 hb1)
    clear hb1
    generalize hS1 : S.num (nextF S.sq.num) = S1 at hp1 hcourse hE
    have e1 : S1.st = S.st := by rw [← hS1]; rfl
    have hL1 : S1.sq.num.n.length ≤ 32 := by rw [← hS1]; exact hok.len
    rw [e1] at hcourse
    clear hS1 e1
    go_wp2_with fail
    refine hcourse.out.mono ?_
    rintro e w2 ⟨rfl, hb2⟩
    have hp2 := Lib.hid (hp1.out.new hb2)
    have o2 := Lib.hid (ho1.trans (Only.of_below hb2 [d]))
    have hfd := field0
    generalize cParam S.st = x0 at hE ⊢
    clear hb2 ho1
    go_wp2_with fail
    (refine (lead_any S1 v hL1 x0 B d w2 hp2.out).mono ?_; rintro e w9 ⟨x, u, rfl, hf⟩; obtain ⟨ax, nx, cx, rfl⟩ := hf.shape; replace hf := Lib.hid hf; go_wp2_with fail; go_ret; rw [hE.out]; exact ⟨_, u, rfl, hf.out.after (o2.out)⟩)
  · have hE := Lib.hid (paramF_else (S := S) h h59)
    have q59 : (r == 59) = false := by simpa using h59
    clear h59
    by_cases h48 : 48 ≤ r
    · have h57 : ¬ r ≤ 57 := by omega
      clear h
      go_enter Try.func28, Try.ntmps28
      go_wp2_with fail
      (refine (inter_any S hS v r B d w hd'.out).mono ?_; rintro e w9 ⟨x, u, rfl, hf⟩; obtain ⟨ax, nx, cx, rfl⟩ := hf.shape; replace hf := Lib.hid hf; go_wp2_with fail; go_ret; rw [hE.out]; exact ⟨_, u, rfl, hf.out.after (Only.refl _ _)⟩)
    · clear h
      go_enter Try.func28, Try.ntmps28
      go_wp2_with fail
      (refine (inter_any S hS v r B d w hd'.out).mono ?_; rintro e w9 ⟨x, u, rfl, hf⟩; obtain ⟨ax, nx, cx, rfl⟩ := hf.shape; replace hf := Lib.hid hf; go_wp2_with fail; go_ret; rw [hE.out]; exact ⟨_, u, rfl, hf.out.after (Only.refl _ _)⟩)

set_option maxHeartbeats 2000000 in
theorem entry_any (S : PS) (hS : S.Ok) (v : Value) (r : Int) (B d : Nat) (w : World) (hd : ParIn w B d v S) :
    Calls Try.prog 27 #[.pointer (some ⟨d, 0, none⟩), .int .i32 r] w (Fed w B d v (entryF S r)) := by
  have hL := hS.sq.num.len
  have hd' := Lib.hid hd
  have h1 := hd.blk.c1
  have f1 := hd.blk.free 1
  have hset := Lib.hid (hd.blk.set (set_pr S v r))
  clear hd
  by_cases h : 60 ≤ r ∧ r < 64
  · have hE : Hid (entryF S r = leadF (S.priv r) (cParam S.st)) := by show _ = _; exact if_pos h
    obtain ⟨h60, h64⟩ := h
    have ho1 := Only.setCell w ⟨d, 1, none⟩ (.int .i32 r)
    have hp1 := Lib.hid (hd'.out.turn hset.out ho1 rfl)
    have hcourse := Lib.hid (course_any _ v d _ hset.out)
    have ho1' := Lib.hid ho1
    clear ho1 hset
    generalize hS1 : S.priv r = S1 at hp1 hcourse hE
    have e1 : S1.st = S.st := by rw [← hS1]; rfl
    have hL1 : S1.sq.num.n.length ≤ 32 := by rw [← hS1]; exact hL
    rw [e1] at hcourse
    clear hS1 e1
    go_enter Try.func27, Try.ntmps27
    go_wp2_with fail
    refine hcourse.out.mono ?_
    rintro e w2 ⟨rfl, hb2⟩
    have hp2 := Lib.hid (hp1.out.new hb2)
    have o2 := Lib.hid (ho1'.out.trans (Only.of_below hb2 [d]))
    have hfd := field0
    generalize cParam S.st = x0 at hE ⊢
    clear hb2
    go_wp2_with fail
    (refine (lead_any S1 v hL1 x0 B d w2 hp2.out).mono ?_; rintro e w9 ⟨x, u, rfl, hf⟩; obtain ⟨ax, nx, cx, rfl⟩ := hf.shape; replace hf := Lib.hid hf; go_wp2_with fail; go_ret; rw [hE.out]; exact ⟨_, u, rfl, hf.out.after (o2.out)⟩)
  · have hE : Hid (entryF S r = paramF S r) := by show _ = _; exact if_neg h
    clear hset
    by_cases h60 : 60 ≤ r
    · have h64 : ¬ r < 64 := by omega
      clear h
      go_enter Try.func27, Try.ntmps27
      go_wp2_with fail
      (refine (param_any S hS v r B d w hd'.out).mono ?_; rintro e w9 ⟨x, u, rfl, hf⟩; obtain ⟨ax, nx, cx, rfl⟩ := hf.shape; replace hf := Lib.hid hf; go_wp2_with fail; go_ret; rw [hE.out]; exact ⟨_, u, rfl, hf.out.after (Only.refl _ _)⟩)
    · clear h
      go_enter Try.func27, Try.ntmps27
      go_wp2_with fail
      (refine (param_any S hS v r B d w hd'.out).mono ?_; rintro e w9 ⟨x, u, rfl, hf⟩; obtain ⟨ax, nx, cx, rfl⟩ := hf.shape; replace hf := Lib.hid hf; go_wp2_with fail; go_ret; rw [hE.out]; exact ⟨_, u, rfl, hf.out.after (Only.refl _ _)⟩)

end Go.Proofs.Ytgkpcjhnphfkgaa.Prs
