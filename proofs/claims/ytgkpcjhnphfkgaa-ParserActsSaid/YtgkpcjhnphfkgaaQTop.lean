/-
  parser: texts, controls, what is beyond.
-/
import Derived.Test.YtgkpcjhnphfkgaaQSeq
namespace Go.Proofs.Ytgkpcjhnphfkgaa.Prs
open Go Go.RowKit Go.Proofs.Ytgkpcjhnphfkgaa.Com Go.Proofs.Ytgkpcjhnphfkgaa.Par

theorem osc_full {S : PS} (h : ¬ S.text.length < 1024) (r : Int) : oscF S r = ([], S) := by unfold oscF; rw [if_neg h]
theorem osc_more {S : PS} (h : S.text.length < 1024) (r : Int) : oscF S r = ([], ⟨S.st, S.sq, S.text ++ [r]⟩) := by unfold oscF; rw [if_pos h]

theorem own_slice {w : World} {B : Nat} {e : TypeId} {k : IntKind} {v : Value} {l : List Int} (h : Own w B e k v l) : ∃ ao n c, v = .slice ao n c := by
  obtain ⟨ao, c, e, _⟩ := h.shape
  exact ⟨ao, _, c, e⟩
/-- A rune more of the text. -/
theorem osc_put {w w1 w2 : World} {B d : Nat} {v u : Value} {S : PS} {r : Int} {o : Obj} (hL : S.sq.num.n.length ≤ 32) (hd : ParIn w B d v S) (hown : Own w1 B 21 .i32 u (S.text ++ [r])) (ho : Only v.ownBlock.toList (w.alloc o) w1)
    (hat : u.ownBlock = v.ownBlock ∨ u.ownBlock = some (w.alloc o).heap.size) (hw : w2 = w1.setCell ⟨d, 40, none⟩ u) : FedU w B d v ⟨S.st, S.sq, S.text ++ [r]⟩ [] (.slice none 0 0) u w2 := by
  subst hw
  have hap := hd.apart
  have hlt := hd.blk.lt
  have hud : u.ownBlock ≠ some d := by
    rcases hat with e | e
    · rw [e]; exact hap
    · rw [e]; simp; omega
  have hb : PBlk w1 d S v := (hd.blk.only (Only.alloc [] w o) (by simp)).only ho (fun hm => hap (by simpa using hm))
  have o2 := Only.setCell w1 ⟨d, 40, none⟩ u
  refine ⟨⟨PBlk.set (S := ⟨S.st, S.sq, S.text ++ [r]⟩) (S' := ⟨S.st, S.sq, S.text ++ [r]⟩) hb (set_txt hL v u), hown.only o2 (fun g hg hm => hud (by simp at hm; rw [hg, hm])), hd.low⟩, ?_, ActsIn.nil _ _ _, ?_⟩
  · rcases hat with e | e
    · exact .inl e
    · exact .inr (.inr ⟨_, e, by simp⟩)
  · exact ((Only.alloc _ w o).trans (ho.mono (fun k hk => List.mem_cons_of_mem _ hk))).trans (o2.mono (by simp))

set_option maxRecDepth 100000 in
set_option maxHeartbeats 2000000 in
theorem osc_any (S : PS) (hS : S.Ok) (v : Value) (r : Int) (B d : Nat) (w : World) (hd : ParIn w B d v S) (hB : B ≤ w.heap.size) :
    Calls Try.prog 32 #[.pointer (some ⟨d, 0, none⟩), .int .i32 r] w (Fed w B d v (oscF S r)) := by
  have hL := hS.sq.num.len
  have h40 := hd.blk.txt hL
  have hlt := hd.blk.lt
  by_cases h : S.text.length < 1024
  · have hE := Lib.hid (osc_more h r)
    have hown := hd.own
    have hput := Lib.hid (fun w1 w2 u o => osc_put (w1 := w1) (w2 := w2) (u := u) (r := r) (o := o) hL hd)
    have hkeep := Lib.hid (fun w1 o (ho : Only v.ownBlock.toList (w.alloc o) w1) => (hd.blk.only (Only.alloc [] w o) (by simp)).only ho (fun hm => hd.apart (by simpa using hm)))
    obtain ⟨ao, c, rfl, _, _, _⟩ := hown.shape
    clear hd
    generalize hT : S.text = T at *
    replace hT := Lib.hid hT
    go_enter Try.func32, Try.ntmps32
    go_wp2_with (with_reducible show wpList _ _ _ (⟨some 18, .call _, _, _, _, _⟩ :: _) _ _; go_must (refine wpList_app elemR rfl (.tmp 15) (.tmp 17) rfl B (.slice ao T.length c) T [r] _ (w.heap.size + 1) 1 rfl rfl (hown.alloc _) (Nums.one _ _ _ _) (by simp; omega) (by simp; omega) (by simp [maxLen]; omega) ?_); go_must (intro u w1 hown1 ho1 hat1; obtain ⟨a1, n1, c1, rfl⟩ := own_slice hown1; have hb1 := hkeep.out w1 _ ho1; have k40 := hb1.txt hL; have f40 := hb1.free 40; have hf := Lib.hid (hput.out w1 _ _ _ hown1 ho1 hat1 rfl); clear hb1 hown1 ho1 hat1))
    go_ret
    rw [hE.out]
    exact ⟨_, _, rfl, hf.out⟩
  · have hE := Lib.hid (osc_full h r)
    have hd' := Lib.hid hd
    obtain ⟨ao, c, rfl, _, _, _⟩ := hd.own.shape
    clear hd
    go_enter Try.func32, Try.ntmps32
    go_wp2_with fail
    go_ret
    rw [hE.out]
    exact fed_none hd'.out

theorem controlF_exec {S : PS} (h : 0 ≤ S.st ∧ S.st ≤ 6) (r : Int) : controlF S r = ([execA r], S) := if_pos h
set_option maxHeartbeats 2000000 in
theorem control_any (S : PS) (hS : S.Ok) (v : Value) (r : Int) (B d : Nat) (w : World) (hd : ParIn w B d v S) :
    Calls Try.prog 16 #[.pointer (some ⟨d, 0, none⟩), .int .i32 r] w (Fed w B d v (controlF S r)) := by
  have hL := hS.sq.num.len
  have h0 := hd.blk.c0
  have hd' := Lib.hid hd
  clear hd
  obtain ⟨hs0, hs1⟩ := hS.st
  by_cases h : S.st ≤ 6
  · have hE := Lib.hid (controlF_exec ⟨hs0, h⟩ r)
    generalize S.st = s at h0 hs0 hs1 h
    rcases (by omega : s = 0 ∨ s = 1 ∨ s = 2 ∨ s = 3 ∨ s = 4 ∨ s = 5 ∨ s = 6) with rfl | rfl | rfl | rfl | rfl | rfl | rfl
    all_goals
      clear hs0 hs1 h
      go_enter Try.func16, Try.ntmps16
      go_wp2_with fail
      refine (exec_any r w).mono ?_
      rintro e w1 ⟨rfl, hb1⟩
      go_wp2_with fail
      go_ret
      rw [hE.out]
      exact ⟨_, v, rfl, fed_new hd'.out (made_acts w1 w.heap.size hb1.size _ _ _ (act_bare w1 _ 2 r 0 0)) (below_next hb1 (below_new _ _))⟩
  · have q : ∀ k : Int, 0 ≤ k → k ≤ 6 → (S.st == k) = false := fun k _ _ => by simp; omega
    have q0 := q 0 (by omega) (by omega)
    have q1 := q 1 (by omega) (by omega)
    have q2 := q 2 (by omega) (by omega)
    have q3 := q 3 (by omega) (by omega)
    have q4 := q 4 (by omega) (by omega)
    have q5 := q 5 (by omega) (by omega)
    have q6 := q 6 (by omega) (by omega)
    clear q
    by_cases h12 : S.st = 12
    · by_cases h7 : r = 7
      · have hE : Hid (controlF S r = leadF S 0) := by show _ = _; unfold controlF; rw [if_neg (by omega), if_pos ⟨h12, h7⟩]
        rw [h12] at h0
        subst h7
        clear h hs0 hs1 h12 q0 q1 q2 q3 q4 q5 q6
        go_enter Try.func16, Try.ntmps16
        go_wp2_with fail
        (refine (lead_any S v hL 0 B d w hd'.out).mono ?_; rintro e w9 ⟨x, u, rfl, hf⟩; obtain ⟨ax, nx, cx, rfl⟩ := hf.shape; replace hf := Lib.hid hf; go_wp2_with fail; go_ret; rw [hE.out]; exact ⟨_, u, rfl, hf.out.after (Only.refl _ _)⟩)
      · have hE : Hid (controlF S r = ([], S)) := by show _ = _; unfold controlF; rw [if_neg (by omega), if_neg (fun h => h7 h.2)]
        have h7' : (r == 7) = false := by simpa using h7
        rw [h12] at h0
        clear h hs0 hs1 h12 h7 q0 q1 q2 q3 q4 q5 q6
        go_enter Try.func16, Try.ntmps16
        go_wp2_with fail
        go_ret
        rw [hE.out]
        exact fed_none hd'.out
    · have hE : Hid (controlF S r = ([], S)) := by show _ = _; unfold controlF; rw [if_neg (by omega), if_neg (fun h => h12 h.1)]
      have q12 : (S.st == 12) = false := by simpa using h12
      clear h hs0 hs1 h12
      go_enter Try.func16, Try.ntmps16
      go_wp2_with fail
      go_ret
      rw [hE.out]
      exact fed_none hd'.out

set_option maxHeartbeats 2000000 in
theorem beyond_any (S : PS) (hS : S.Ok) (v : Value) (r : Int) (B d : Nat) (w : World) (hd : ParIn w B d v S) (hB : B ≤ w.heap.size) :
    Calls Try.prog 19 #[.pointer (some ⟨d, 0, none⟩), .int .i32 r] w (Fed w B d v (beyondF S r)) := by
  have h0 := hd.blk.c0
  have hd' := Lib.hid hd
  clear hd
  by_cases hs0 : S.st = 0
  · have hE : Hid (beyondF S r = groundF S r) := by show _ = _; exact if_pos hs0
    rw [hs0] at h0
    go_enter Try.func19, Try.ntmps19
    go_wp2_with fail
    (refine (groundF_any S v r B d w hd'.out).mono ?_; rintro e w9 ⟨x, u, rfl, hf⟩; obtain ⟨ax, nx, cx, rfl⟩ := hf.shape; replace hf := Lib.hid hf; go_wp2_with fail; go_ret; rw [hE.out]; exact ⟨_, u, rfl, hf.out.after (Only.refl _ _)⟩)
  by_cases hs12 : S.st = 12
  · have hE : Hid (beyondF S r = oscF S r) := by show _ = _; unfold beyondF; rw [if_neg hs0, if_pos hs12]
    rw [hs12] at h0
    go_enter Try.func19, Try.ntmps19
    go_wp2_with fail
    (refine (osc_any S hS v r B d w hd'.out hB).mono ?_; rintro e w9 ⟨x, u, rfl, hf⟩; obtain ⟨ax, nx, cx, rfl⟩ := hf.shape; replace hf := Lib.hid hf; go_wp2_with fail; go_ret; rw [hE.out]; exact ⟨_, u, rfl, hf.out.after (Only.refl _ _)⟩)
  · have hE : Hid (beyondF S r = ([], S)) := by show _ = _; unfold beyondF; rw [if_neg hs0, if_neg hs12]
    have q0 : (S.st == 0) = false := by simpa using hs0
    have q12 : (S.st == 12) = false := by simpa using hs12
    clear hs0 hs12
    go_enter Try.func19, Try.ntmps19
    go_wp2_with fail
    go_ret
    rw [hE.out]
    exact fed_none hd'.out

set_option maxHeartbeats 2000000 in
theorem upper_any (S : PS) (hS : S.Ok) (v : Value) (r : Int) (B d : Nat) (w : World) (hd : ParIn w B d v S) :
    Calls Try.prog 18 #[.pointer (some ⟨d, 0, none⟩), .int .i32 r] w (Fed w B d v (upperF S r)) := by
  have hL := hS.sq.num.len
  have hd' := Lib.hid hd
  clear hd
  by_cases h144 : r = 144
  · have hE : Hid (upperF S r = leadF S 7) := by show _ = _; unfold upperF; rw [if_pos h144]
    subst h144
    go_enter Try.func18, Try.ntmps18
    go_wp2_with fail
    (refine (lead_any S v hL 7 B d w hd'.out).mono ?_; rintro e w9 ⟨x, u, rfl, hf⟩; obtain ⟨ax, nx, cx, rfl⟩ := hf.shape; replace hf := Lib.hid hf; go_wp2_with fail; go_ret; rw [hE.out]; exact ⟨_, u, rfl, hf.out.after (Only.refl _ _)⟩)
  by_cases h152 : r = 152 ∨ r = 158 ∨ r = 159
  · have hE : Hid (upperF S r = leadF S 13) := by show _ = _; unfold upperF; rw [if_neg h144, if_pos h152]
    clear h144
    rcases h152 with rfl | rfl | rfl
    all_goals
      go_enter Try.func18, Try.ntmps18
      go_wp2_with fail
      (refine (lead_any S v hL 13 B d w hd'.out).mono ?_; rintro e w9 ⟨x, u, rfl, hf⟩; obtain ⟨ax, nx, cx, rfl⟩ := hf.shape; replace hf := Lib.hid hf; go_wp2_with fail; go_ret; rw [hE.out]; exact ⟨_, u, rfl, hf.out.after (Only.refl _ _)⟩)
  by_cases h155 : r = 155
  · have hE : Hid (upperF S r = leadF S 3) := by show _ = _; unfold upperF; rw [if_neg h144, if_neg h152, if_pos h155]
    subst h155
    clear h144 h152
    go_enter Try.func18, Try.ntmps18
    go_wp2_with fail
    (refine (lead_any S v hL 3 B d w hd'.out).mono ?_; rintro e w9 ⟨x, u, rfl, hf⟩; obtain ⟨ax, nx, cx, rfl⟩ := hf.shape; replace hf := Lib.hid hf; go_wp2_with fail; go_ret; rw [hE.out]; exact ⟨_, u, rfl, hf.out.after (Only.refl _ _)⟩)
  by_cases h156 : r = 156
  · have hE : Hid (upperF S r = leadF S 0) := by show _ = _; unfold upperF; rw [if_neg h144, if_neg h152, if_neg h155, if_pos h156]
    subst h156
    clear h144 h152 h155
    go_enter Try.func18, Try.ntmps18
    go_wp2_with fail
    (refine (lead_any S v hL 0 B d w hd'.out).mono ?_; rintro e w9 ⟨x, u, rfl, hf⟩; obtain ⟨ax, nx, cx, rfl⟩ := hf.shape; replace hf := Lib.hid hf; go_wp2_with fail; go_ret; rw [hE.out]; exact ⟨_, u, rfl, hf.out.after (Only.refl _ _)⟩)
  by_cases h157 : r = 157
  · have hE : Hid (upperF S r = leadF S 12) := by show _ = _; unfold upperF; rw [if_neg h144, if_neg h152, if_neg h155, if_neg h156, if_pos h157]
    subst h157
    clear h144 h152 h155 h156
    go_enter Try.func18, Try.ntmps18
    go_wp2_with fail
    (refine (lead_any S v hL 12 B d w hd'.out).mono ?_; rintro e w9 ⟨x, u, rfl, hf⟩; obtain ⟨ax, nx, cx, rfl⟩ := hf.shape; replace hf := Lib.hid hf; go_wp2_with fail; go_ret; rw [hE.out]; exact ⟨_, u, rfl, hf.out.after (Only.refl _ _)⟩)
  have hE : Hid (upperF S r = execLeadF S r) := by show _ = _; unfold upperF; rw [if_neg h144, if_neg h152, if_neg h155, if_neg h156, if_neg h157]
  have q144 : (r == 144) = false := by simpa using h144
  have q152 : (r == 152) = false := by simp; omega
  have q158 : (r == 158) = false := by simp; omega
  have q159 : (r == 159) = false := by simp; omega
  have q155 : (r == 155) = false := by simpa using h155
  have q156 : (r == 156) = false := by simpa using h156
  have q157 : (r == 157) = false := by simpa using h157
  clear h144 h152 h155 h156 h157
  go_enter Try.func18, Try.ntmps18
  go_wp2_with fail
  (refine (execLead_any S v hL r B d w hd'.out).mono ?_; rintro e w9 ⟨x, u, rfl, hf⟩; obtain ⟨ax, nx, cx, rfl⟩ := hf.shape; replace hf := Lib.hid hf; go_wp2_with fail; go_ret; rw [hE.out]; exact ⟨_, u, rfl, hf.out.after (Only.refl _ _)⟩)

end Go.Proofs.Ytgkpcjhnphfkgaa.Prs
