/-
  sgr: the reference's small calls, and those of the program that only look.
-/
import Derived.Test.YtlpihhjdgipgnaaDoorSLeaf
namespace Go.Proofs.YtlpihhjdgipgnaaDoor.Sgr
open Go Go.RowKit Go.Proofs.YtlpihhjdgipgnaaDoor.Com

theorem ret_ti {a b x y : Int} {k l : IntKind} (h1 : a = x) (h2 : b = y) : Ending.returned (.tuple #[.int k a, .int l b]) = .returned (.tuple #[.int k x, .int l y]) := by rw [h1, h2]
theorem ret_tb {a x : Int} {c d : Bool} {k : IntKind} (h1 : a = x) (h2 : c = d) : Ending.returned (.tuple #[.int k a, .bool c]) = .returned (.tuple #[.int k x, .bool d]) := by rw [h1, h2]

theorem rflag_else {n : Int} (h : n ≠ 1 ∧ n ≠ 2 ∧ n ≠ 3 ∧ n ≠ 4 ∧ n ≠ 5 ∧ n ≠ 7 ∧ n ≠ 8 ∧ n ≠ 9 ∧ n ≠ 22 ∧ n ≠ 23 ∧ n ≠ 24 ∧ n ≠ 25 ∧ n ≠ 27 ∧ n ≠ 28 ∧ n ≠ 29) : rflagF n = (0, 0) := by
  unfold rflagF
  rw [if_neg (by omega), if_neg (by rw [flag_none (by omega)]; simp), if_neg (by rintro ⟨h1, h2⟩; exact h2 (flag_none (by omega)))]

set_option maxHeartbeats 1000000 in
theorem rflag_any (n : Int) (w : World) :
    Calls Tryd.prog 17 #[.int .i64 n] w fun e w' => e = .returned (.tuple #[.int .u16 (rflagF n).1, .int .i64 (rflagF n).2]) ∧ w = w' := by
  by_cases h1 : n = 1
  · subst h1
    go_enter Tryd.func17, Tryd.ntmps17
    go_wp2
    go_ret2
    exact ⟨rfl, rfl⟩
  by_cases h2 : n = 2
  · subst h2
    go_enter Tryd.func17, Tryd.ntmps17
    go_wp2
    go_ret2
    exact ⟨rfl, rfl⟩
  by_cases h3 : n = 3
  · subst h3
    go_enter Tryd.func17, Tryd.ntmps17
    go_wp2
    go_ret2
    exact ⟨rfl, rfl⟩
  by_cases h4 : n = 4
  · subst h4
    go_enter Tryd.func17, Tryd.ntmps17
    go_wp2
    go_ret2
    exact ⟨rfl, rfl⟩
  by_cases h5 : n = 5
  · subst h5
    go_enter Tryd.func17, Tryd.ntmps17
    go_wp2
    go_ret2
    exact ⟨rfl, rfl⟩
  by_cases h7 : n = 7
  · subst h7
    go_enter Tryd.func17, Tryd.ntmps17
    go_wp2
    go_ret2
    exact ⟨rfl, rfl⟩
  by_cases h8 : n = 8
  · subst h8
    go_enter Tryd.func17, Tryd.ntmps17
    go_wp2
    go_ret2
    exact ⟨rfl, rfl⟩
  by_cases h9 : n = 9
  · subst h9
    go_enter Tryd.func17, Tryd.ntmps17
    go_wp2
    go_ret2
    exact ⟨rfl, rfl⟩
  by_cases h22 : n = 22
  · subst h22
    go_enter Tryd.func17, Tryd.ntmps17
    go_wp2
    go_ret2
    exact ⟨rfl, rfl⟩
  by_cases h23 : n = 23
  · subst h23
    go_enter Tryd.func17, Tryd.ntmps17
    go_wp2
    go_ret2
    exact ⟨rfl, rfl⟩
  by_cases h24 : n = 24
  · subst h24
    go_enter Tryd.func17, Tryd.ntmps17
    go_wp2
    go_ret2
    exact ⟨rfl, rfl⟩
  by_cases h25 : n = 25
  · subst h25
    go_enter Tryd.func17, Tryd.ntmps17
    go_wp2
    go_ret2
    exact ⟨rfl, rfl⟩
  by_cases h27 : n = 27
  · subst h27
    go_enter Tryd.func17, Tryd.ntmps17
    go_wp2
    go_ret2
    exact ⟨rfl, rfl⟩
  by_cases h28 : n = 28
  · subst h28
    go_enter Tryd.func17, Tryd.ntmps17
    go_wp2
    go_ret2
    exact ⟨rfl, rfl⟩
  by_cases h29 : n = 29
  · subst h29
    go_enter Tryd.func17, Tryd.ntmps17
    go_wp2
    go_ret2
    exact ⟨rfl, rfl⟩
  have hE := Lib.hid (rflag_else ⟨h1, h2, h3, h4, h5, h7, h8, h9, h22, h23, h24, h25, h27, h28, h29⟩)
  have b1 : (n == 1) = false := by simpa using h1
  have b2 : (n == 2) = false := by simpa using h2
  have b3 : (n == 3) = false := by simpa using h3
  have b4 : (n == 4) = false := by simpa using h4
  have b5 : (n == 5) = false := by simpa using h5
  have b7 : (n == 7) = false := by simpa using h7
  have b8 : (n == 8) = false := by simpa using h8
  have b9 : (n == 9) = false := by simpa using h9
  have b22 : (n == 22) = false := by simpa using h22
  have b23 : (n == 23) = false := by simpa using h23
  have b24 : (n == 24) = false := by simpa using h24
  have b25 : (n == 25) = false := by simpa using h25
  have b27 : (n == 27) = false := by simpa using h27
  have b28 : (n == 28) = false := by simpa using h28
  have b29 : (n == 29) = false := by simpa using h29
  go_enter Tryd.func17, Tryd.ntmps17
  go_wp2
  go_ret2
  exact ⟨ret_ti (by rw [hE.out]) (by rw [hE.out]), rfl⟩

set_option maxHeartbeats 1000000 in
theorem base_any (n : Int) (w : World) :
    Calls Tryd.prog 18 #[.int .i64 n] w fun e w' => e = .returned (.tuple #[.int .u32 (baseF n).1, .bool (baseF n).2]) ∧ w = w' := by
  by_cases h0 : 30 ≤ n ∧ n ≤ 37
  · have hE : Hid (baseF n = (n - 29, false)) := by show _ = _; unfold baseF; rw [if_pos h0]
    have hlo := h0.1
    have hhi := h0.2
    clear h0
    go_enter Tryd.func18, Tryd.ntmps18
    go_wp2
    go_ret2
    exact ⟨ret_tb (by rw [hE.out]; dsimp only; omega) (by rw [hE.out]), rfl⟩
  by_cases h1 : 40 ≤ n ∧ n ≤ 47
  · have hE : Hid (baseF n = (n - 39, true)) := by show _ = _; unfold baseF; rw [if_neg h0, if_pos h1]
    have hlo := h1.1
    have hhi := h1.2
    clear h0 h1
    have p0 : ¬ n ≤ 37 := by omega
    have q0 : 30 ≤ n := by omega
    go_enter Tryd.func18, Tryd.ntmps18
    go_wp2
    go_ret2
    exact ⟨ret_tb (by rw [hE.out]; dsimp only; omega) (by rw [hE.out]), rfl⟩
  by_cases h2 : 90 ≤ n ∧ n ≤ 97
  · have hE : Hid (baseF n = (n - 81, false)) := by show _ = _; unfold baseF; rw [if_neg h0, if_neg h1, if_pos h2]
    have hlo := h2.1
    have hhi := h2.2
    clear h0 h1 h2
    have p0 : ¬ n ≤ 37 := by omega
    have q0 : 30 ≤ n := by omega
    have p1 : ¬ n ≤ 47 := by omega
    have q1 : 40 ≤ n := by omega
    go_enter Tryd.func18, Tryd.ntmps18
    go_wp2
    go_ret2
    exact ⟨ret_tb (by rw [hE.out]; dsimp only; omega) (by rw [hE.out]), rfl⟩
  by_cases h3 : 100 ≤ n ∧ n ≤ 107
  · have hE : Hid (baseF n = (n - 91, true)) := by show _ = _; unfold baseF; rw [if_neg h0, if_neg h1, if_neg h2, if_pos h3]
    have hlo := h3.1
    have hhi := h3.2
    clear h0 h1 h2 h3
    have p0 : ¬ n ≤ 37 := by omega
    have q0 : 30 ≤ n := by omega
    have p1 : ¬ n ≤ 47 := by omega
    have q1 : 40 ≤ n := by omega
    have p2 : ¬ n ≤ 97 := by omega
    have q2 : 90 ≤ n := by omega
    go_enter Tryd.func18, Tryd.ntmps18
    go_wp2
    go_ret2
    exact ⟨ret_tb (by rw [hE.out]; dsimp only; omega) (by rw [hE.out]), rfl⟩
  by_cases h39 : n = 39
  · subst h39
    go_enter Tryd.func18, Tryd.ntmps18
    go_wp2
    go_ret2
    exact ⟨rfl, rfl⟩
  by_cases h49 : n = 49
  · subst h49
    go_enter Tryd.func18, Tryd.ntmps18
    go_wp2
    go_ret2
    exact ⟨rfl, rfl⟩
  have hE : Hid (baseF n = (999, false)) := by show _ = _; unfold baseF; rw [if_neg h0, if_neg h1, if_neg h2, if_neg h3, if_neg h39, if_neg h49]
  have b39 : (n == 39) = false := by simpa using h39
  have b49 : (n == 49) = false := by simpa using h49
  clear h39 h49
  by_cases c0 : n < 30
  · have f0 : ¬ 30 ≤ n := by omega
    have f1 : ¬ 40 ≤ n := by omega
    have f2 : ¬ 90 ≤ n := by omega
    have f3 : ¬ 100 ≤ n := by omega
    clear h0 h1 h2 h3 c0
    go_enter Tryd.func18, Tryd.ntmps18
    go_wp2
    go_ret2
    exact ⟨ret_tb (by rw [hE.out]) (by rw [hE.out]), rfl⟩
  by_cases c1 : n < 40
  · have f0 : 30 ≤ n := by omega
    have f1 : ¬ n ≤ 37 := by omega
    have f2 : ¬ 40 ≤ n := by omega
    have f3 : ¬ 90 ≤ n := by omega
    have f4 : ¬ 100 ≤ n := by omega
    clear h0 h1 h2 h3 c0 c1
    go_enter Tryd.func18, Tryd.ntmps18
    go_wp2
    go_ret2
    exact ⟨ret_tb (by rw [hE.out]) (by rw [hE.out]), rfl⟩
  by_cases c2 : n < 90
  · have f0 : 30 ≤ n := by omega
    have f1 : ¬ n ≤ 37 := by omega
    have f2 : 40 ≤ n := by omega
    have f3 : ¬ n ≤ 47 := by omega
    have f4 : ¬ 90 ≤ n := by omega
    have f5 : ¬ 100 ≤ n := by omega
    clear h0 h1 h2 h3 c0 c1 c2
    go_enter Tryd.func18, Tryd.ntmps18
    go_wp2
    go_ret2
    exact ⟨ret_tb (by rw [hE.out]) (by rw [hE.out]), rfl⟩
  by_cases c3 : n < 100
  · have f0 : 30 ≤ n := by omega
    have f1 : ¬ n ≤ 37 := by omega
    have f2 : 40 ≤ n := by omega
    have f3 : ¬ n ≤ 47 := by omega
    have f4 : 90 ≤ n := by omega
    have f5 : ¬ n ≤ 97 := by omega
    have f6 : ¬ 100 ≤ n := by omega
    clear h0 h1 h2 h3 c0 c1 c2 c3
    go_enter Tryd.func18, Tryd.ntmps18
    go_wp2
    go_ret2
    exact ⟨ret_tb (by rw [hE.out]) (by rw [hE.out]), rfl⟩
  have f0 : 30 ≤ n := by omega
  have f1 : ¬ n ≤ 37 := by omega
  have f2 : 40 ≤ n := by omega
  have f3 : ¬ n ≤ 47 := by omega
  have f4 : 90 ≤ n := by omega
  have f5 : ¬ n ≤ 97 := by omega
  have f6 : 100 ≤ n := by omega
  have f7 : ¬ n ≤ 107 := by omega
  clear h0 h1 h2 h3 c0 c1 c2 c3
  go_enter Tryd.func18, Tryd.ntmps18
  go_wp2
  go_ret2
  exact ⟨ret_tb (by rw [hE.out]) (by rw [hE.out]), rfl⟩

theorem byte_any (n : Int) (w : World) :
    Calls Tryd.prog 19 #[.int .i64 n] w fun e w' => e = .returned (.bool (isB n)) ∧ w = w' := by
  by_cases h0 : 0 ≤ n
  · by_cases h1 : n ≤ 255
    · have hE : Hid (isB n = true) := by show _ = _; simp [isB, h0, h1]
      go_enter Tryd.func19, Tryd.ntmps19
      go_wp2
      go_ret
      exact ⟨ret_bool (by rw [hE.out]), rfl⟩
    · have hE : Hid (isB n = false) := by show _ = _; simp only [isB, decide_eq_false_iff_not]; omega
      go_enter Tryd.func19, Tryd.ntmps19
      go_wp2
      go_ret
      exact ⟨ret_bool (by rw [hE.out]), rfl⟩
  · have hE : Hid (isB n = false) := by show _ = _; simp only [isB, decide_eq_false_iff_not]; omega
    go_enter Tryd.func19, Tryd.ntmps19
    go_wp2
    go_ret
    exact ⟨ret_bool (by rw [hE.out]), rfl⟩
theorem mayC_any (c : Int) (w : World) :
    Calls Tryd.prog 20 #[.int .u32 c] w fun e w' => e = .returned (.bool (colF c)) ∧ w = w' := by
  by_cases h0 : c ≤ 256
  · have hE : Hid (colF c = true) := by show _ = _; simp only [colF, decide_eq_true_eq]; omega
    go_enter Tryd.func20, Tryd.ntmps20
    go_wp2
    go_ret
    exact ⟨ret_bool (by rw [hE.out]), rfl⟩
  by_cases h1 : 16777216 ≤ c
  · by_cases h2 : c < 33554432
    · have hE : Hid (colF c = true) := by show _ = _; simp only [colF, decide_eq_true_eq]; omega
      go_enter Tryd.func20, Tryd.ntmps20
      go_wp2
      go_ret
      exact ⟨ret_bool (by rw [hE.out]), rfl⟩
    · have hE : Hid (colF c = false) := by show _ = _; simp only [colF, decide_eq_false_iff_not]; omega
      go_enter Tryd.func20, Tryd.ntmps20
      go_wp2
      go_ret
      exact ⟨ret_bool (by rw [hE.out]), rfl⟩
  · have hE : Hid (colF c = false) := by show _ = _; simp only [colF, decide_eq_false_iff_not]; omega
    go_enter Tryd.func20, Tryd.ntmps20
    go_wp2
    go_ret
    exact ⟨ret_bool (by rw [hE.out]), rfl⟩
theorem rcol_any (c : Int) (w : World) :
    Calls Tryd.prog 21 #[.int .u32 c] w fun e w' => e = .returned (.bool (colF c)) ∧ w = w' := by
  by_cases h0 : c ≤ 256
  · have hE : Hid (colF c = true) := by show _ = _; simp only [colF, decide_eq_true_eq]; omega
    go_enter Tryd.func21, Tryd.ntmps21
    go_wp2
    go_ret
    exact ⟨ret_bool (by rw [hE.out]), rfl⟩
  by_cases h1 : 16777216 ≤ c
  · by_cases h2 : c < 33554432
    · have hE : Hid (colF c = true) := by show _ = _; simp only [colF, decide_eq_true_eq]; omega
      go_enter Tryd.func21, Tryd.ntmps21
      go_wp2
      go_ret
      exact ⟨ret_bool (by rw [hE.out]), rfl⟩
    · have hE : Hid (colF c = false) := by show _ = _; simp only [colF, decide_eq_false_iff_not]; omega
      go_enter Tryd.func21, Tryd.ntmps21
      go_wp2
      go_ret
      exact ⟨ret_bool (by rw [hE.out]), rfl⟩
  · have hE : Hid (colF c = false) := by show _ = _; simp only [colF, decide_eq_false_iff_not]; omega
    go_enter Tryd.func21, Tryd.ntmps21
    go_wp2
    go_ret
    exact ⟨ret_bool (by rw [hE.out]), rfl⟩
theorem may_any (a : At) (w : World) :
    Calls Tryd.prog 10 #[.agg #[.int .u32 a.f, .int .u32 a.b, .int .u16 a.g]] w fun e w' => e = .returned (.bool (mayF a)) ∧ Below w.heap.size w w' := by
  obtain ⟨f, b, g⟩ := a
  have hbel := Lib.hid (below_new w (.cells #[.int .u32 f, .int .u32 b, .int .u16 g] 25))
  by_cases h0 : g < 256
  · rcases hf : colF f with _ | _
    all_goals
      have hf' := Lib.hid hf
      go_enter Tryd.func10, Tryd.ntmps10
      go_wp2_with (go_at_call 20; refine (mayC_any _ _).mono ?_; rintro e w' ⟨rfl, rfl⟩; try rw [hf'.out])
      go_ret
      exact ⟨ret_bool (by simp [mayF, h0, hf'.out]), hbel.out⟩
  · have hE : Hid (mayF ⟨f, b, g⟩ = false) := by show _ = _; simp [mayF, h0]
    go_enter Tryd.func10, Tryd.ntmps10
    go_wp2
    go_ret
    exact ⟨ret_bool (by rw [hE.out]), hbel.out⟩
theorem rmay_any (a : At) (w : World) :
    Calls Tryd.prog 11 #[.agg #[.int .u32 a.f, .int .u32 a.b, .int .u16 a.g]] w fun e w' => e = .returned (.bool (mayF a)) ∧ Below w.heap.size w w' := by
  obtain ⟨f, b, g⟩ := a
  have hbel := Lib.hid (below_new w (.cells #[.int .u32 f, .int .u32 b, .int .u16 g] 25))
  by_cases h0 : g < 256
  · rcases hf : colF f with _ | _
    all_goals
      have hf' := Lib.hid hf
      go_enter Tryd.func11, Tryd.ntmps11
      go_wp2_with (go_at_call 21; refine (rcol_any _ _).mono ?_; rintro e w' ⟨rfl, rfl⟩; try rw [hf'.out])
      go_ret
      exact ⟨ret_bool (by simp [mayF, h0, hf'.out]), hbel.out⟩
  · have hE : Hid (mayF ⟨f, b, g⟩ = false) := by show _ = _; simp [mayF, h0]
    go_enter Tryd.func11, Tryd.ntmps11
    go_wp2
    go_ret
    exact ⟨ret_bool (by rw [hE.out]), hbel.out⟩

end Go.Proofs.YtlpihhjdgipgnaaDoor.Sgr
