/-
  sgr: the table of the flags' numbers, and the calls that call nothing or little.
-/
import Derived.Test.YtlpihhjdgipgnaaDoorChecked
import Derived.Test.YtlpihhjdgipgnaaDoorSMath
import Derived.Test.YtlpihhjdgipgnaaDoorMem
import Derived.WalkLawsBesides
import Derived.LoopTactic
import Derived.IntWalk
import Derived.Outline
import Derived.Deep.QuietTactic
import Derived.BigQuiet
import Derived.WalkSmall
import Derived.Deep.DeepMust
namespace Go.Proofs.YtlpihhjdgipgnaaDoor.Sgr
open Go Go.RowKit Go.Proofs.YtlpihhjdgipgnaaDoor.Com

def tab : List Int := [1, 2, 3, 4, 5, 7, 8, 9]
/-- The table lies where the program's initialiser laid it. -/
structure Tab (w : World) : Prop where
  size : 0 < w.heap.size
  cells : ∀ k, k < 8 → w.cell? ⟨0, k, none⟩ = some (.int .i64 (tab.getD k 0))
theorem Tab.below {w w' : World} (h : Tab w) (hb : Below w.heap.size w w') : Tab w' :=
  ⟨Nat.lt_of_lt_of_le h.size hb.size, fun k hk => (hb.cell (p := ⟨0, k, none⟩) h.size).trans (h.cells k hk)⟩
theorem Tab.under {w w' : World} {B : Nat} (h : Tab w) (hb : Below B w w') (hB : w.heap.size ≤ B) : Tab w' := h.below (hb.mono hB)

theorem flag_at {n : Int} {k : Nat} (hk : k < 8) (h : tab.getD k 0 = n) : flagF n = 2 ^ k := by
  subst h
  have hall : ∀ k : Fin 8, flagF (tab.getD k.val 0) = 2 ^ k.val := by decide
  exact hall ⟨k, hk⟩
theorem flag_not {n : Int} (h : ∀ k, k < 8 → tab.getD k 0 ≠ n) : flagF n = 0 := by
  have h0 := h 0 (by omega); have h1 := h 1 (by omega); have h2 := h 2 (by omega); have h3 := h 3 (by omega)
  have h4 := h 4 (by omega); have h5 := h 5 (by omega); have h6 := h 6 (by omega); have h7 := h 7 (by omega)
  simp [tab] at h0 h1 h2 h3 h4 h5 h6 h7
  apply flag_none
  omega

theorem not_next {n : Int} {k : Nat} (h : ∀ j, j < k → tab.getD j 0 ≠ n) (hx : tab.getD k 0 ≠ n) : ∀ j, j < k + 1 → tab.getD j 0 ≠ n := fun j hj => by
  by_cases e : j = k
  · rw [e]; exact hx
  · exact h j (by omega)

def tabV : Value := .agg #[.int .i64 1, .int .i64 2, .int .i64 3, .int .i64 4, .int .i64 5, .int .i64 7, .int .i64 8, .int .i64 9]
theorem idx0 (w : World) : (Instr.index 49 (.agg #[.int .i64 1, .int .i64 2, .int .i64 3, .int .i64 4, .int .i64 5, .int .i64 7, .int .i64 8, .int .i64 9]) (.int .i64 0)).run Tryd.prog w = .ok (.int .i64 1) w := by kernel_rfl
theorem idx1 (w : World) : (Instr.index 49 (.agg #[.int .i64 1, .int .i64 2, .int .i64 3, .int .i64 4, .int .i64 5, .int .i64 7, .int .i64 8, .int .i64 9]) (.int .i64 1)).run Tryd.prog w = .ok (.int .i64 2) w := by kernel_rfl
theorem idx2 (w : World) : (Instr.index 49 (.agg #[.int .i64 1, .int .i64 2, .int .i64 3, .int .i64 4, .int .i64 5, .int .i64 7, .int .i64 8, .int .i64 9]) (.int .i64 2)).run Tryd.prog w = .ok (.int .i64 3) w := by kernel_rfl
theorem idx3 (w : World) : (Instr.index 49 (.agg #[.int .i64 1, .int .i64 2, .int .i64 3, .int .i64 4, .int .i64 5, .int .i64 7, .int .i64 8, .int .i64 9]) (.int .i64 3)).run Tryd.prog w = .ok (.int .i64 4) w := by kernel_rfl
theorem idx4 (w : World) : (Instr.index 49 (.agg #[.int .i64 1, .int .i64 2, .int .i64 3, .int .i64 4, .int .i64 5, .int .i64 7, .int .i64 8, .int .i64 9]) (.int .i64 4)).run Tryd.prog w = .ok (.int .i64 5) w := by kernel_rfl
theorem idx5 (w : World) : (Instr.index 49 (.agg #[.int .i64 1, .int .i64 2, .int .i64 3, .int .i64 4, .int .i64 5, .int .i64 7, .int .i64 8, .int .i64 9]) (.int .i64 5)).run Tryd.prog w = .ok (.int .i64 7) w := by kernel_rfl
theorem idx6 (w : World) : (Instr.index 49 (.agg #[.int .i64 1, .int .i64 2, .int .i64 3, .int .i64 4, .int .i64 5, .int .i64 7, .int .i64 8, .int .i64 9]) (.int .i64 6)).run Tryd.prog w = .ok (.int .i64 8) w := by kernel_rfl
theorem idx7 (w : World) : (Instr.index 49 (.agg #[.int .i64 1, .int .i64 2, .int .i64 3, .int .i64 4, .int .i64 5, .int .i64 7, .int .i64 8, .int .i64 9]) (.int .i64 7)).run Tryd.prog w = .ok (.int .i64 9) w := by kernel_rfl
theorem idx (k : Nat) (hk : k < 8) : ∀ w, (Instr.index 49 (.agg #[.int .i64 1, .int .i64 2, .int .i64 3, .int .i64 4, .int .i64 5, .int .i64 7, .int .i64 8, .int .i64 9]) (.int .i64 (k : Nat))).run Tryd.prog w = .ok (.int .i64 (tab.getD k 0)) w := by
  have hk' : k = 0 ∨ k = 1 ∨ k = 2 ∨ k = 3 ∨ k = 4 ∨ k = 5 ∨ k = 6 ∨ k = 7 := by omega
  rcases hk' with rfl | rfl | rfl | rfl | rfl | rfl | rfl | rfl
  · exact idx0
  · exact idx1
  · exact idx2
  · exact idx3
  · exact idx4
  · exact idx5
  · exact idx6
  · exact idx7
/-- An element of an array that lies in a slot. -/
theorem wpList_idx {P : Program} {ops : Array Oper} {rest : List Oper} {o : Oper} {a : Act} {w : World} {Q : Exit → Act → World → Prop} (hgd : o.guard = none) {t : TypeId} {u j v : Value} (h : ∀ w, (Instr.index t u j).run P w = .ok v w) (x i : Operand) (ho : o.op = .index t x i) (hx : a.eval x = u) (hj : a.eval i = j)
    (hK : wpList P ops Q rest (a.put o.dst v) w) : wpList P ops Q (o :: rest) a w :=
  wpList_plain hgd fun _ hK' => by
    unfold Oper.wp execOp
    simp only [ho, hx, hj, Sem.run_bind, h, Sem.run_pure, Result.andThen_ok]
    exact hK' _ _ hK
theorem shl_at : ∀ k : Nat, k < 8 → flagF (tab.getD k 0) = IntKind.u16.wrap (2 ^ k) := by
  have hall : ∀ k : Fin 8, flagF (tab.getD k.val 0) = IntKind.u16.wrap (2 ^ k.val) := by decide
  exact fun k hk => hall ⟨k, hk⟩

set_option maxHeartbeats 1000000 in
theorem flag_any (n : Int) (w : World) (T : Tab w) :
    Calls Tryd.prog 29 #[.int .i64 n] w fun e w' => e = .returned (.int .u16 (flagF n)) ∧ w = w' := by
  have c0 := T.cells 0 (by omega); have c1 := T.cells 1 (by omega); have c2 := T.cells 2 (by omega); have c3 := T.cells 3 (by omega)
  have c4 := T.cells 4 (by omega); have c5 := T.cells 5 (by omega); have c6 := T.cells 6 (by omega); have c7 := T.cells 7 (by omega)
  simp only [tab, List.getD_cons_zero, List.getD_cons_succ] at c0 c1 c2 c3 c4 c5 c6 c7
  clear T
  go_enter Tryd.func29, Tryd.ntmps29
  go_wp2
  clear c0 c1 c2 c3 c4 c5 c6 c7
  go_loop [6] (fun i => ∃ k : Nat, k ≤ 8 ∧ i = .int .i64 k ∧ Hid (∀ j, j < k → tab.getD j 0 ≠ n)) (fun i => 8 - (intOf i).toNat)
  case atStart => exact ⟨0, by omega, rfl, Lib.hid (fun j hj => by omega)⟩
  case round =>
    obtain ⟨k, hk, rfl, hs⟩ := hrel
    by_cases hlt : k < 8
    · have hix := Lib.hid (idx k hlt)
      have hE := Lib.hid (shl_at k hlt)
      have hN := Lib.hid (fun h => not_next hs.out h)
      clear hs
      generalize tab.getD k 0 = x at hix hE hN
      by_cases hx : x = n
      · subst hx
        go_wp2_with (with_reducible show wpList _ _ _ (⟨some 9, .index _ _ _, _, _, _, _⟩ :: _) _ _; go_must (refine wpList_idx rfl hix.out (.tmp 5) (.tmp 6) rfl rfl rfl ?_))
        go_ret
        exact ⟨ret_int hE.out.symm, rfl⟩
      · have hx' : (x == n) = false := by simpa using hx
        go_wp2_with (with_reducible show wpList _ _ _ (⟨some 9, .index _ _ _, _, _, _, _⟩ :: _) _ _; go_must (refine wpList_idx rfl hix.out (.tmp 5) (.tmp 6) rfl rfl rfl ?_))
        go_round
        case rel => exact ⟨k + 1, by omega, by go_num, Lib.hid (hN.out hx)⟩
        case measure => simp [intOf]; omega
    · have hE := Lib.hid (flag_not (fun j hj => hs.out j (by omega)))
      go_wp2
      go_ret
      exact ⟨ret_int hE.out.symm, rfl⟩

theorem ended_any (n : Int) (hn : n ≤ 9223372036854775807) (w : World) (T : Tab w) :
    Calls Tryd.prog 28 #[.int .i64 n] w fun e w' => e = .returned (.int .u16 (endF n)) ∧ w = w' := by
  have h := Lib.hid (fun m => flag_any m w T)
  clear T
  by_cases h0 : n = 22
  · subst h0
    go_enter Tryd.func28, Tryd.ntmps28
    go_wp2
    go_ret
    exact ⟨rfl, rfl⟩
  have h0' : (n == 22) = false := by simpa using h0
  by_cases h1 : 22 < n
  · have hE : Hid (endF n = flagF (n - 20)) := by show _ = _; unfold endF; rw [if_neg h0, if_pos h1]
    go_enter Tryd.func28, Tryd.ntmps28
    go_wp2_with ((go_at_call 29; refine (h.out _).mono ?_; rintro e w' ⟨rfl, rfl⟩))
    go_ret
    exact ⟨ret_int hE.out.symm, rfl⟩
  · have hE : Hid (endF n = 0) := by show _ = _; unfold endF; rw [if_neg h0, if_neg h1]
    go_enter Tryd.func28, Tryd.ntmps28
    go_wp2
    go_ret
    exact ⟨ret_int hE.out.symm, rfl⟩

theorem numbered_any (n : Int) (h0 : 0 ≤ n) (h1 : n ≤ 255) (w : World) :
    Calls Tryd.prog 27 #[.int .i64 n] w fun e w' => e = .returned (.int .u32 (n + 1)) ∧ w = w' := by
  go_enter Tryd.func27, Tryd.ntmps27
  go_wp2
  go_ret
  exact ⟨rfl, rfl⟩

def wordsV (u b fo no : Int) : Value := .agg #[.int .i64 u, .int .i64 b, .int .i64 fo, .int .i64 no]
set_option maxHeartbeats 1000000 in
theorem named_any (u b fo no c n : Int) (hu : 0 ≤ u ∧ u ≤ 1000) (hb : 0 ≤ b ∧ b ≤ 1000) (w : World) :
    Calls Tryd.prog 30 #[.agg #[.int .i64 u, .int .i64 b, .int .i64 fo, .int .i64 no], .int .u32 c, .int .i64 n] w fun e w' => e = .returned (.int .u32 (namedF u b no c n)) ∧ Below w.heap.size w w' := by
  have hbel := Lib.hid (below_new w (.cells #[.int .i64 u, .int .i64 b, .int .i64 fo, .int .i64 no] 51))
  by_cases h1 : u ≤ n ∧ n < u + 8
  · have hE : Hid (namedF u b no c n = n - u + 1) := by show _ = _; unfold namedF; rw [if_pos h1]
    obtain ⟨h1, h1'⟩ := h1
    go_enter Tryd.func30, Tryd.ntmps30
    go_wp2_with ((go_at_call 27; refine (numbered_any _ (by omega) (by omega) _).mono ?_; rintro e w' ⟨rfl, rfl⟩))
    go_ret
    exact ⟨ret_int hE.out.symm, hbel.out⟩
  by_cases h2 : b + 8 ≤ n ∧ n < b + 16
  · have hE : Hid (namedF u b no c n = n - b + 1) := by show _ = _; unfold namedF; rw [if_neg h1, if_pos h2]
    obtain ⟨h2, h2'⟩ := h2
    by_cases h3 : u ≤ n
    all_goals
      go_enter Tryd.func30, Tryd.ntmps30
      go_wp2_with ((go_at_call 27; refine (numbered_any _ (by omega) (by omega) _).mono ?_; rintro e w' ⟨rfl, rfl⟩))
      go_ret
      exact ⟨ret_int hE.out.symm, hbel.out⟩
  by_cases h5 : n = no
  · have hE : Hid (namedF u b no c n = 0) := by show _ = _; unfold namedF; rw [if_neg h1, if_neg h2, if_pos h5]
    subst h5
    by_cases h3 : u ≤ n
    all_goals
      by_cases h4 : b + 8 ≤ n
      all_goals
        go_enter Tryd.func30, Tryd.ntmps30
        go_wp2
        go_ret
        exact ⟨ret_int hE.out.symm, hbel.out⟩
  · have hE : Hid (namedF u b no c n = c) := by show _ = _; unfold namedF; rw [if_neg h1, if_neg h2, if_neg h5]
    have h5' : (n == no) = false := by simpa using h5
    by_cases h3 : u ≤ n
    all_goals
      by_cases h4 : b + 8 ≤ n
      all_goals
        go_enter Tryd.func30, Tryd.ntmps30
        go_wp2
        go_ret
        exact ⟨ret_int hE.out.symm, hbel.out⟩
theorem foreground_any (w : World) :
    Calls Tryd.prog 22 #[] w fun e w' => e = .returned (.agg #[.int .i64 30, .int .i64 82, .int .i64 38, .int .i64 39]) ∧ Below w.heap.size w w' := by
  go_enter Tryd.func22, Tryd.ntmps22
  go_wp2
  exact bodyPost_ret (v := .agg #[.int .i64 30, .int .i64 82, .int .i64 38, .int .i64 39]) (by simp [results, Tryd.results22, go_sem]) rfl ⟨rfl, below_new _ _⟩
theorem background_any (w : World) :
    Calls Tryd.prog 24 #[] w fun e w' => e = .returned (.agg #[.int .i64 40, .int .i64 92, .int .i64 48, .int .i64 49]) ∧ Below w.heap.size w w' := by
  go_enter Tryd.func24, Tryd.ntmps24
  go_wp2
  exact bodyPost_ret (v := .agg #[.int .i64 40, .int .i64 92, .int .i64 48, .int .i64 49]) (by simp [results, Tryd.results24, go_sem]) rfl ⟨rfl, below_new _ _⟩

end Go.Proofs.YtlpihhjdgipgnaaDoor.Sgr
