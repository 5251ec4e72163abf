/-
  keys: a key's letter, its number, what is held with it.
-/
import Derived.Test.YtkmedfffmalbgaaDoorKLeaf
namespace Go.Proofs.YtkmedfffmalbgaaDoor.Kys
open Go Go.RowKit Go.Proofs.YtkmedfffmalbgaaDoor.Com

theorem mods_any (k : Ky) (hk : k.Ok) (w : World) : Calls Tryd.prog 38 #[.agg (kA k)] w (Tup (.int .i64 (k.md + 1)) w) := by
  have hb0 := Lib.hid (below_new w (.cells (kA k) 34))
  have hc3 := (KB.made w k).c3
  have hm := hk.md
  clear hk
  generalize k.md = x3 at *
  obtain ⟨hm0, hm1⟩ := hm
  go_enter Tryd.func38, Tryd.ntmps38
  go_wp2
  go_ret
  exact ⟨rfl, hb0.out⟩

theorem let_ways (k : Ky) (hk : k.may) : (k.kd = 2 ∧ letF k = 65) ∨ (k.kd = 3 ∧ letF k = 66) ∨ (k.kd = 4 ∧ letF k = 67) ∨ (k.kd = 5 ∧ letF k = 68) ∨ (k.kd = 6 ∧ letF k = 70) ∨ (k.kd = 7 ∧ letF k = 72) ∨
    (k.kd = 12 ∧ k.n = 1 ∧ letF k = 80) ∨ (k.kd = 12 ∧ k.n = 2 ∧ letF k = 81) ∨ (k.kd = 12 ∧ k.n = 3 ∧ letF k = 82) ∨ (k.kd = 12 ∧ k.n = 4 ∧ letF k = 83) ∨ (k.kd = 12 ∧ 4 < k.n ∧ letF k = 0) ∨
    ((k.kd ≠ 2 ∧ k.kd ≠ 3 ∧ k.kd ≠ 4 ∧ k.kd ≠ 5 ∧ k.kd ≠ 6 ∧ k.kd ≠ 7 ∧ k.kd ≠ 12) ∧ letF k = 0) := by
  obtain ⟨kd, r, n, md⟩ := k
  obtain ⟨h1, h2, h3, h4⟩ := hk
  dsimp only at *
  by_cases a : kd = 2
  · subst a; exact .inl ⟨rfl, rfl⟩
  by_cases b : kd = 3
  · subst b; exact .inr (.inl ⟨rfl, rfl⟩)
  by_cases c : kd = 4
  · subst c; exact .inr (.inr (.inl ⟨rfl, rfl⟩))
  by_cases d : kd = 5
  · subst d; exact .inr (.inr (.inr (.inl ⟨rfl, rfl⟩)))
  by_cases e : kd = 6
  · subst e; exact .inr (.inr (.inr (.inr (.inl ⟨rfl, rfl⟩))))
  by_cases f : kd = 7
  · subst f; exact .inr (.inr (.inr (.inr (.inr (.inl ⟨rfl, rfl⟩)))))
  by_cases g : kd = 12
  · subst g
    rcases h4 with h4 | h4 | h4
    · exact absurd h4.1 (by decide)
    · obtain ⟨_, _, h5, h6⟩ := h4
      rcases (show n = 1 ∨ n = 2 ∨ n = 3 ∨ n = 4 ∨ 4 < n by omega) with rfl | rfl | rfl | rfl | h7
      · exact .inr (.inr (.inr (.inr (.inr (.inr (.inl ⟨rfl, rfl, rfl⟩))))))
      · exact .inr (.inr (.inr (.inr (.inr (.inr (.inr (.inl ⟨rfl, rfl, rfl⟩)))))))
      · exact .inr (.inr (.inr (.inr (.inr (.inr (.inr (.inr (.inl ⟨rfl, rfl, rfl⟩))))))))
      · exact .inr (.inr (.inr (.inr (.inr (.inr (.inr (.inr (.inr (.inl ⟨rfl, rfl, rfl⟩)))))))))
      · refine .inr (.inr (.inr (.inr (.inr (.inr (.inr (.inr (.inr (.inr (.inl ⟨rfl, h7, ?_⟩))))))))))
        unfold letF
        simp
        omega
    · exact absurd rfl h4.2.1
  · refine .inr (.inr (.inr (.inr (.inr (.inr (.inr (.inr (.inr (.inr (.inr ⟨⟨a, b, c, d, e, f, g⟩, ?_⟩))))))))))
    simp [letF, a, b, c, d, e, f, g]
set_option maxHeartbeats 2000000 in
theorem letter_any (k : Ky) (hm : k.may) (w : World) : Calls Tryd.prog 29 #[.agg (kA k)] w (Tup (.int .u8 (letF k)) w) := by
  have hb0 := Lib.hid (below_new w (.cells (kA k) 34))
  have hc0 := (KB.made w k).c0
  have hc2 := (KB.made w k).c2
  rcases let_ways k hm with ⟨h1, e⟩ | ⟨h1, e⟩ | ⟨h1, e⟩ | ⟨h1, e⟩ | ⟨h1, e⟩ | ⟨h1, e⟩ | ⟨h1, h2, e⟩ | ⟨h1, h2, e⟩ | ⟨h1, h2, e⟩ | ⟨h1, h2, e⟩ | ⟨h1, h2, e⟩ | ⟨⟨h1, h2, h3, h4, h5, h6, h7⟩, e⟩
  all_goals
    rw [e]
    clear hm e
    generalize k.kd = x0 at *
    generalize k.n = x2 at *
    try subst h1
    try subst h2
    go_enter Tryd.func29, Tryd.ntmps29
    go_wp2_with fail
    go_ret
    exact ⟨rfl, hb0.out⟩

theorem num_ways (k : Ky) (hk : k.may) : (k.kd = 8 ∧ numF k = 2) ∨ (k.kd = 9 ∧ numF k = 3) ∨ (k.kd = 10 ∧ numF k = 5) ∨ (k.kd = 11 ∧ numF k = 6) ∨
    (k.kd = 12 ∧ k.n = 5 ∧ numF k = 15) ∨ (k.kd = 12 ∧ k.n = 6 ∧ numF k = 17) ∨ (k.kd = 12 ∧ k.n = 7 ∧ numF k = 18) ∨ (k.kd = 12 ∧ k.n = 8 ∧ numF k = 19) ∨ (k.kd = 12 ∧ k.n = 9 ∧ numF k = 20) ∨ (k.kd = 12 ∧ k.n = 10 ∧ numF k = 21) ∨ (k.kd = 12 ∧ k.n = 11 ∧ numF k = 23) ∨ (k.kd = 12 ∧ k.n = 12 ∧ numF k = 24) ∨
    (k.kd = 12 ∧ k.n ≤ 4 ∧ numF k = 0) ∨ ((k.kd ≠ 8 ∧ k.kd ≠ 9 ∧ k.kd ≠ 10 ∧ k.kd ≠ 11 ∧ k.kd ≠ 12) ∧ numF k = 0) := by
  obtain ⟨kd, r, n, md⟩ := k
  obtain ⟨h1, h2, h3, h4⟩ := hk
  dsimp only at *
  by_cases a : kd = 8
  · subst a; exact .inl ⟨rfl, rfl⟩
  by_cases b : kd = 9
  · subst b; exact .inr (.inl ⟨rfl, rfl⟩)
  by_cases c : kd = 10
  · subst c; exact .inr (.inr (.inl ⟨rfl, rfl⟩))
  by_cases d : kd = 11
  · subst d; exact .inr (.inr (.inr (.inl ⟨rfl, rfl⟩)))
  by_cases g : kd = 12
  · subst g
    rcases h4 with h4 | h4 | h4
    · exact absurd h4.1 (by decide)
    · obtain ⟨_, _, h5, h6⟩ := h4
      rcases (show n = 5 ∨ n = 6 ∨ n = 7 ∨ n = 8 ∨ n = 9 ∨ n = 10 ∨ n = 11 ∨ n = 12 ∨ n ≤ 4 by omega) with rfl | rfl | rfl | rfl | rfl | rfl | rfl | rfl | h7
      · exact .inr (.inr (.inr (.inr (.inl ⟨rfl, rfl, rfl⟩))))
      · exact .inr (.inr (.inr (.inr (.inr (.inl ⟨rfl, rfl, rfl⟩)))))
      · exact .inr (.inr (.inr (.inr (.inr (.inr (.inl ⟨rfl, rfl, rfl⟩))))))
      · exact .inr (.inr (.inr (.inr (.inr (.inr (.inr (.inl ⟨rfl, rfl, rfl⟩)))))))
      · exact .inr (.inr (.inr (.inr (.inr (.inr (.inr (.inr (.inl ⟨rfl, rfl, rfl⟩))))))))
      · exact .inr (.inr (.inr (.inr (.inr (.inr (.inr (.inr (.inr (.inl ⟨rfl, rfl, rfl⟩)))))))))
      · exact .inr (.inr (.inr (.inr (.inr (.inr (.inr (.inr (.inr (.inr (.inl ⟨rfl, rfl, rfl⟩))))))))))
      · exact .inr (.inr (.inr (.inr (.inr (.inr (.inr (.inr (.inr (.inr (.inr (.inl ⟨rfl, rfl, rfl⟩)))))))))))
      · refine .inr (.inr (.inr (.inr (.inr (.inr (.inr (.inr (.inr (.inr (.inr (.inr (.inl ⟨rfl, h7, ?_⟩))))))))))))
        unfold numF
        simp
        omega
    · exact absurd rfl h4.2.1
  · refine .inr (.inr (.inr (.inr (.inr (.inr (.inr (.inr (.inr (.inr (.inr (.inr (.inr ⟨⟨a, b, c, d, g⟩, ?_⟩))))))))))))
    simp [numF, a, b, c, d, g]
theorem wpList_idx {P : Program} {ops : Array Oper} {rest : List Oper} {o : Oper} {a : Act} {w : World} {Q : Exit → Act → World → Prop} (hgd : o.guard = none) {t : TypeId} {u j v : Value} (h : ∀ w, (Instr.index t u j).run P w = .ok v w) (x i : Operand) (ho : o.op = .index t x i) (hx : a.eval x = u) (hj : a.eval i = j)
    (hK : wpList P ops Q rest (a.put o.dst v) w) : wpList P ops Q (o :: rest) a w :=
  wpList_plain hgd fun _ hK' => by
    unfold Oper.wp execOp
    simp only [ho, hx, hj, Sem.run_bind, h, Sem.run_pure, Result.andThen_ok]
    exact hK' _ _ hK
theorem at0 (W : World) : (Instr.index 57 (.agg #[.int .i64 15, .int .i64 17, .int .i64 18, .int .i64 19, .int .i64 20, .int .i64 21, .int .i64 23, .int .i64 24]) (.int .i64 0)).run Tryd.prog W = .ok (.int .i64 15) W := by kernel_rfl
theorem at1 (W : World) : (Instr.index 57 (.agg #[.int .i64 15, .int .i64 17, .int .i64 18, .int .i64 19, .int .i64 20, .int .i64 21, .int .i64 23, .int .i64 24]) (.int .i64 1)).run Tryd.prog W = .ok (.int .i64 17) W := by kernel_rfl
theorem at2 (W : World) : (Instr.index 57 (.agg #[.int .i64 15, .int .i64 17, .int .i64 18, .int .i64 19, .int .i64 20, .int .i64 21, .int .i64 23, .int .i64 24]) (.int .i64 2)).run Tryd.prog W = .ok (.int .i64 18) W := by kernel_rfl
theorem at3 (W : World) : (Instr.index 57 (.agg #[.int .i64 15, .int .i64 17, .int .i64 18, .int .i64 19, .int .i64 20, .int .i64 21, .int .i64 23, .int .i64 24]) (.int .i64 3)).run Tryd.prog W = .ok (.int .i64 19) W := by kernel_rfl
theorem at4 (W : World) : (Instr.index 57 (.agg #[.int .i64 15, .int .i64 17, .int .i64 18, .int .i64 19, .int .i64 20, .int .i64 21, .int .i64 23, .int .i64 24]) (.int .i64 4)).run Tryd.prog W = .ok (.int .i64 20) W := by kernel_rfl
theorem at5 (W : World) : (Instr.index 57 (.agg #[.int .i64 15, .int .i64 17, .int .i64 18, .int .i64 19, .int .i64 20, .int .i64 21, .int .i64 23, .int .i64 24]) (.int .i64 5)).run Tryd.prog W = .ok (.int .i64 21) W := by kernel_rfl
theorem at6 (W : World) : (Instr.index 57 (.agg #[.int .i64 15, .int .i64 17, .int .i64 18, .int .i64 19, .int .i64 20, .int .i64 21, .int .i64 23, .int .i64 24]) (.int .i64 6)).run Tryd.prog W = .ok (.int .i64 23) W := by kernel_rfl
theorem at7 (W : World) : (Instr.index 57 (.agg #[.int .i64 15, .int .i64 17, .int .i64 18, .int .i64 19, .int .i64 20, .int .i64 21, .int .i64 23, .int .i64 24]) (.int .i64 7)).run Tryd.prog W = .ok (.int .i64 24) W := by kernel_rfl
set_option maxHeartbeats 2000000 in
theorem number_any (k : Ky) (hm : k.may) (w : World) : Calls Tryd.prog 31 #[.agg (kA k)] w (Tup (.int .i64 (numF k)) w) := by
  have hb0 := Lib.hid (below_new w (.cells (kA k) 34))
  have hc0 := (KB.made w k).c0
  have hc2 := (KB.made w k).c2
  rcases num_ways k hm with ⟨h1, e⟩ | ⟨h1, e⟩ | ⟨h1, e⟩ | ⟨h1, e⟩ | ⟨h1, h2, e⟩ | ⟨h1, h2, e⟩ | ⟨h1, h2, e⟩ | ⟨h1, h2, e⟩ | ⟨h1, h2, e⟩ | ⟨h1, h2, e⟩ | ⟨h1, h2, e⟩ | ⟨h1, h2, e⟩ | ⟨h1, h2, e⟩ | ⟨⟨h1, h2, h3, h4, h5⟩, e⟩
  · rw [e]
    clear hm e
    generalize k.kd = x0 at *
    generalize k.n = x2 at *
    subst h1
    go_enter Tryd.func31, Tryd.ntmps31
    go_wp2_with fail
    go_ret
    exact ⟨rfl, hb0.out⟩
  · rw [e]
    clear hm e
    generalize k.kd = x0 at *
    generalize k.n = x2 at *
    subst h1
    go_enter Tryd.func31, Tryd.ntmps31
    go_wp2_with fail
    go_ret
    exact ⟨rfl, hb0.out⟩
  · rw [e]
    clear hm e
    generalize k.kd = x0 at *
    generalize k.n = x2 at *
    subst h1
    go_enter Tryd.func31, Tryd.ntmps31
    go_wp2_with fail
    go_ret
    exact ⟨rfl, hb0.out⟩
  · rw [e]
    clear hm e
    generalize k.kd = x0 at *
    generalize k.n = x2 at *
    subst h1
    go_enter Tryd.func31, Tryd.ntmps31
    go_wp2_with fail
    go_ret
    exact ⟨rfl, hb0.out⟩
  · rw [e]
    clear hm e
    generalize k.kd = x0 at *
    generalize k.n = x2 at *
    subst h1
    subst h2
    go_enter Tryd.func31, Tryd.ntmps31
    go_wp2_with ((with_reducible show wpList _ _ _ (⟨some 22, .index _ _ _, _, _, _, _⟩ :: _) _ _; go_must (refine wpList_idx rfl at0 (.tmp 18) (.tmp 21) rfl rfl rfl ?_)))
    go_ret
    exact ⟨rfl, hb0.out⟩
  · rw [e]
    clear hm e
    generalize k.kd = x0 at *
    generalize k.n = x2 at *
    subst h1
    subst h2
    go_enter Tryd.func31, Tryd.ntmps31
    go_wp2_with ((with_reducible show wpList _ _ _ (⟨some 22, .index _ _ _, _, _, _, _⟩ :: _) _ _; go_must (refine wpList_idx rfl at1 (.tmp 18) (.tmp 21) rfl rfl rfl ?_)))
    go_ret
    exact ⟨rfl, hb0.out⟩
  · rw [e]
    clear hm e
    generalize k.kd = x0 at *
    generalize k.n = x2 at *
    subst h1
    subst h2
    go_enter Tryd.func31, Tryd.ntmps31
    go_wp2_with ((with_reducible show wpList _ _ _ (⟨some 22, .index _ _ _, _, _, _, _⟩ :: _) _ _; go_must (refine wpList_idx rfl at2 (.tmp 18) (.tmp 21) rfl rfl rfl ?_)))
    go_ret
    exact ⟨rfl, hb0.out⟩
  · rw [e]
    clear hm e
    generalize k.kd = x0 at *
    generalize k.n = x2 at *
    subst h1
    subst h2
    go_enter Tryd.func31, Tryd.ntmps31
    go_wp2_with ((with_reducible show wpList _ _ _ (⟨some 22, .index _ _ _, _, _, _, _⟩ :: _) _ _; go_must (refine wpList_idx rfl at3 (.tmp 18) (.tmp 21) rfl rfl rfl ?_)))
    go_ret
    exact ⟨rfl, hb0.out⟩
  · rw [e]
    clear hm e
    generalize k.kd = x0 at *
    generalize k.n = x2 at *
    subst h1
    subst h2
    go_enter Tryd.func31, Tryd.ntmps31
    go_wp2_with ((with_reducible show wpList _ _ _ (⟨some 22, .index _ _ _, _, _, _, _⟩ :: _) _ _; go_must (refine wpList_idx rfl at4 (.tmp 18) (.tmp 21) rfl rfl rfl ?_)))
    go_ret
    exact ⟨rfl, hb0.out⟩
  · rw [e]
    clear hm e
    generalize k.kd = x0 at *
    generalize k.n = x2 at *
    subst h1
    subst h2
    go_enter Tryd.func31, Tryd.ntmps31
    go_wp2_with ((with_reducible show wpList _ _ _ (⟨some 22, .index _ _ _, _, _, _, _⟩ :: _) _ _; go_must (refine wpList_idx rfl at5 (.tmp 18) (.tmp 21) rfl rfl rfl ?_)))
    go_ret
    exact ⟨rfl, hb0.out⟩
  · rw [e]
    clear hm e
    generalize k.kd = x0 at *
    generalize k.n = x2 at *
    subst h1
    subst h2
    go_enter Tryd.func31, Tryd.ntmps31
    go_wp2_with ((with_reducible show wpList _ _ _ (⟨some 22, .index _ _ _, _, _, _, _⟩ :: _) _ _; go_must (refine wpList_idx rfl at6 (.tmp 18) (.tmp 21) rfl rfl rfl ?_)))
    go_ret
    exact ⟨rfl, hb0.out⟩
  · rw [e]
    clear hm e
    generalize k.kd = x0 at *
    generalize k.n = x2 at *
    subst h1
    subst h2
    go_enter Tryd.func31, Tryd.ntmps31
    go_wp2_with ((with_reducible show wpList _ _ _ (⟨some 22, .index _ _ _, _, _, _, _⟩ :: _) _ _; go_must (refine wpList_idx rfl at7 (.tmp 18) (.tmp 21) rfl rfl rfl ?_)))
    go_ret
    exact ⟨rfl, hb0.out⟩
  · rw [e]
    clear hm e
    generalize k.kd = x0 at *
    generalize k.n = x2 at *
    subst h1
    go_enter Tryd.func31, Tryd.ntmps31
    go_wp2_with fail
    go_ret
    exact ⟨rfl, hb0.out⟩
  · rw [e]
    clear hm e
    generalize k.kd = x0 at *
    generalize k.n = x2 at *
    go_enter Tryd.func31, Tryd.ntmps31
    go_wp2_with fail
    go_ret
    exact ⟨rfl, hb0.out⟩

end Go.Proofs.YtkmedfffmalbgaaDoor.Kys
