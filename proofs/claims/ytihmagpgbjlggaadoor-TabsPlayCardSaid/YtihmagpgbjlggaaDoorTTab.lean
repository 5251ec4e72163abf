/-
  tabs: the small calls on tabs: Cols, refuse, held, mayCount, Set, Clear, ClearAll.
-/
import Derived.Test.YtihmagpgbjlggaaDoorTAll
import Derived.Deep.MidRow
namespace Go.Proofs.YtihmagpgbjlggaaDoor.Tbs
open Go Go.RowKit Go.Proofs.YtihmagpgbjlggaaDoor.Com

/-- The cells of tabs of n columns. -/
def tabL (n : Nat) (f : Nat → Bool) : List Value := .int .i64 n :: wsL f
def TabsIn (w : World) (d n : Nat) (f : Nat → Bool) : Prop := Block w d 51 (tabL n f).toArray
theorem TabsIn.blk {w : World} {d n : Nat} {f : Nat → Bool} (h : TabsIn w d n f) : Block w d 51 (tabL n f).toArray := h
theorem TabsIn.cols {w : World} {d n : Nat} {f : Nat → Bool} (h : TabsIn w d n f) : w.cell? ⟨d, 0, none⟩ = some (.int .i64 n) := Block.cell h 0 rfl
theorem TabsIn.free {w : World} {d n : Nat} {f : Nat → Bool} (h : TabsIn w d n f) (i : Nat) : w.frozen? ⟨d, i, none⟩ = false := Block.free h i
theorem tab_word {n : Nat} {f : Nat → Bool} {i : Nat} (hi : i < 8) : (tabL n f).toArray[1 + i]? = some (.int .u64 (wd f i)) := by
  rw [List.getElem?_toArray, Nat.add_comm]
  exact wsl_at f hi
theorem TabsIn.range {w : World} {d n : Nat} {f : Nat → Bool} (h : TabsIn w d n f) : w.rangeAt d 1 (wsL f) := fun j v hv => Block.cell h (1 + j) (by
  rw [List.getElem?_toArray, Nat.add_comm]
  exact hv)
theorem TabsIn.only {L : List Nat} {w w' : World} {d n : Nat} {f : Nat → Bool} (h : TabsIn w d n f) (ho : Only L w w') (hn : d ∉ L) : TabsIn w' d n f := Block.only h ho hn
theorem TabsIn.below {w w' : World} {d n : Nat} {f : Nat → Bool} (h : TabsIn w d n f) (hb : Below w.heap.size w w') : TabsIn w' d n f := h.only (Only.of_below hb []) (by simp)
theorem TabsIn.lt {w : World} {d n : Nat} {f : Nat → Bool} (h : TabsIn w d n f) : d < w.heap.size := Block.lt h

/-- How many columns may be. -/
def mayB (n : Int) : Bool := decide (1 ≤ n) && decide (n ≤ 512)
theorem may_true {n : Int} (h : 1 ≤ n ∧ n ≤ 512) : mayB n = true := by simp [mayB, h]
theorem may_false {n : Int} (h : ¬ (1 ≤ n ∧ n ≤ 512)) : mayB n = false := by
  unfold mayB
  rw [Bool.and_eq_false_iff]
  simp
  omega
theorem mayCount_any (n : Int) (w : World) : Calls Tryd.prog 26 #[.int .i64 n] w fun e w' => e = .returned (.bool (mayB n)) ∧ w = w' := by
  by_cases h1 : 1 ≤ n
  · by_cases h2 : n ≤ 512
    · rw [may_true ⟨h1, h2⟩]
      go_enter Tryd.func26, Tryd.ntmps26
      go_wp2
      go_ret
      exact ⟨rfl, rfl⟩
    · rw [may_false (by omega)]
      go_enter Tryd.func26, Tryd.ntmps26
      go_wp2
      go_ret
      exact ⟨ret_bool (by simp), rfl⟩
  · rw [may_false (by omega)]
    go_enter Tryd.func26, Tryd.ntmps26
    go_wp2
    go_ret
    exact ⟨ret_bool (by simp), rfl⟩

theorem cols_nil (w : World) : Calls Tryd.prog 18 #[.pointer none] w fun e w' => e = .returned (.int .i64 0) ∧ w = w' := by
  go_enter Tryd.func18, Tryd.ntmps18
  go_wp2
  go_ret
  exact ⟨rfl, rfl⟩
theorem cols_any {d n : Nat} {f : Nat → Bool} (w : World) (h : TabsIn w d n f) : Calls Tryd.prog 18 #[.pointer (some ⟨d, 0, none⟩)] w fun e w' => e = .returned (.int .i64 n) ∧ w = w' := by
  have hc := h.cols
  clear h
  go_enter Tryd.func18, Tryd.ntmps18
  go_wp2
  go_ret
  exact ⟨rfl, rfl⟩

/-- A receiver without columns: none, or one of none. -/
def NoTabs (w : World) (v : Value) : Prop := v = .pointer none ∨ ∃ d f, v = .pointer (some ⟨d, 0, none⟩) ∧ TabsIn w d 0 f
theorem NoTabs.below {w w' : World} {v : Value} (h : NoTabs w v) (hb : Below w.heap.size w w') : NoTabs w' v := by
  rcases h with h | ⟨d, f, h, ht⟩
  · exact .inl h
  · exact .inr ⟨d, f, h, ht.below hb⟩
theorem cols_no {w : World} {v : Value} (h : NoTabs w v) : Calls Tryd.prog 18 #[v] w fun e w' => e = .returned (.int .i64 0) ∧ w = w' := by
  rcases h with rfl | ⟨d, f, rfl, ht⟩
  · exact cols_nil w
  · exact cols_any w ht
theorem no_shape {w : World} {v : Value} (h : NoTabs w v) : ∃ a, v = .pointer a := by
  rcases h with rfl | ⟨d, f, rfl, ht⟩
  · exact ⟨_, rfl⟩
  · exact ⟨_, rfl⟩
def Err (w : World) (k : Int) (e : Ending) (w' : World) : Prop := e = .returned (.int .i64 k) ∧ w = w'
theorem refuse_no {w : World} {v : Value} (h : NoTabs w v) (col : Int) : Calls Tryd.prog 28 #[v, .int .i64 col] w (Err w 1) := by
  have hc := Lib.hid (cols_no h)
  obtain ⟨a, rfl⟩ := no_shape h
  clear h
  go_enter Tryd.func28, Tryd.ntmps28
  go_wp2_with ((go_at_call 18; (with_reducible refine (hc.out).mono ?_); rintro e w' ⟨rfl, rfl⟩))
  go_ret
  exact ⟨rfl, rfl⟩
theorem refuse_bad {w : World} {d n : Nat} {f : Nat → Bool} (hn : 1 ≤ n) (h : TabsIn w d n f) (col : Int) (hc : col < 0 ∨ (n : Int) ≤ col) : Calls Tryd.prog 28 #[.pointer (some ⟨d, 0, none⟩), .int .i64 col] w (Err w 2) := by
  have hC := Lib.hid (cols_any w h)
  have h0 := h.cols
  have hn0 : ((n : Int) == 0) = false := by simp; omega
  clear h
  by_cases h1 : col < 0
  · clear hc
    go_enter Tryd.func28, Tryd.ntmps28
    go_wp2_with ((go_at_call 18; (with_reducible refine (hC.out).mono ?_); rintro e w' ⟨rfl, rfl⟩))
    go_ret
    exact ⟨rfl, rfl⟩
  · have h2 : (n : Int) ≤ col := by omega
    clear hc
    go_enter Tryd.func28, Tryd.ntmps28
    go_wp2_with ((go_at_call 18; (with_reducible refine (hC.out).mono ?_); rintro e w' ⟨rfl, rfl⟩))
    go_ret
    exact ⟨rfl, rfl⟩
theorem refuse_ok {w : World} {d n : Nat} {f : Nat → Bool} (h : TabsIn w d n f) (c : Nat) (hc : c < n) : Calls Tryd.prog 28 #[.pointer (some ⟨d, 0, none⟩), .int .i64 c] w (Err w 0) := by
  have hC := Lib.hid (cols_any w h)
  have h0 := h.cols
  have hn0 : ((n : Int) == 0) = false := by simp; omega
  have h1 : decide ((c : Int) < 0) = false := by simp
  have h2 : ¬ ((n : Int) ≤ (c : Int)) := by omega
  clear h
  go_enter Tryd.func28, Tryd.ntmps28
  go_wp2_with ((go_at_call 18; (with_reducible refine (hC.out).mono ?_); rintro e w' ⟨rfl, rfl⟩))
  go_ret
  exact ⟨rfl, rfl⟩

/-- What a method leaves that turns the stops. -/
def Turned (w : World) (d n : Nat) (f : Nat → Bool) (k : Int) (e : Ending) (w' : World) : Prop := e = .returned (.int .i64 k) ∧ TabsIn w' d n f ∧ Only [d] w w'
theorem bit_tabs {w w' : World} {d n : Nat} {f : Nat → Bool} {c : Nat} {b : Bool} {e : Ending} (hb : Bit w d 1 51 (tabL n f).toArray f c b e w') : TabsIn w' d n (putF f c b) ∧ Only [d] w w' := by
  obtain ⟨_, h1, h2⟩ := hb
  refine ⟨?_, h2⟩
  have e1 : (tabL n f).toArray.setIfInBounds (1 + c / 64) (.int .u64 (wd (putF f c b) (c / 64))) = (tabL n (putF f c b)).toArray := by
    rw [List.setIfInBounds_toArray, Nat.add_comm]
    unfold tabL
    rw [List.set_cons_succ, wsl_set fun j _ hne => (wd_other f c b hne).symm]
  rw [e1] at h1
  exact h1
theorem set_no {w : World} {v : Value} (h : NoTabs w v) (col : Int) : Calls Tryd.prog 10 #[v, .int .i64 col] w (Err w 1) := by
  have hR := Lib.hid (refuse_no h col)
  obtain ⟨a, rfl⟩ := no_shape h
  clear h
  go_enter Tryd.func10, Tryd.ntmps10
  go_wp2_with ((go_at_call 28; (with_reducible refine (hR.out).mono ?_); rintro e w' ⟨rfl, rfl⟩))
  go_ret
  exact ⟨rfl, rfl⟩
theorem clr_no {w : World} {v : Value} (h : NoTabs w v) (col : Int) : Calls Tryd.prog 12 #[v, .int .i64 col] w (Err w 1) := by
  have hR := Lib.hid (refuse_no h col)
  obtain ⟨a, rfl⟩ := no_shape h
  clear h
  go_enter Tryd.func12, Tryd.ntmps12
  go_wp2_with ((go_at_call 28; (with_reducible refine (hR.out).mono ?_); rintro e w' ⟨rfl, rfl⟩))
  go_ret
  exact ⟨rfl, rfl⟩
theorem set_bad {w : World} {d n : Nat} {f : Nat → Bool} (hn : 1 ≤ n) (h : TabsIn w d n f) (col : Int) (hc : col < 0 ∨ (n : Int) ≤ col) : Calls Tryd.prog 10 #[.pointer (some ⟨d, 0, none⟩), .int .i64 col] w (Err w 2) := by
  have hR := Lib.hid (refuse_bad hn h col hc)
  clear h hc
  go_enter Tryd.func10, Tryd.ntmps10
  go_wp2_with ((go_at_call 28; (with_reducible refine (hR.out).mono ?_); rintro e w' ⟨rfl, rfl⟩))
  go_ret
  exact ⟨rfl, rfl⟩
theorem clr_bad {w : World} {d n : Nat} {f : Nat → Bool} (hn : 1 ≤ n) (h : TabsIn w d n f) (col : Int) (hc : col < 0 ∨ (n : Int) ≤ col) : Calls Tryd.prog 12 #[.pointer (some ⟨d, 0, none⟩), .int .i64 col] w (Err w 2) := by
  have hR := Lib.hid (refuse_bad hn h col hc)
  clear h hc
  go_enter Tryd.func12, Tryd.ntmps12
  go_wp2_with ((go_at_call 28; (with_reducible refine (hR.out).mono ?_); rintro e w' ⟨rfl, rfl⟩))
  go_ret
  exact ⟨rfl, rfl⟩
theorem set_ok {w : World} {d n : Nat} {f : Nat → Bool} (h : TabsIn w d n f) (hn : n ≤ 512) (c : Nat) (hc : c < n) : Calls Tryd.prog 10 #[.pointer (some ⟨d, 0, none⟩), .int .i64 c] w (Turned w d n (putF f c true) 0) := by
  have hR := Lib.hid (refuse_ok h c hc)
  have hS := Lib.hid (set_any f c (by omega) d 1 51 _ w h (tab_word (by omega)))
  clear h hc
  go_enter Tryd.func10, Tryd.ntmps10
  go_wp2_with (first
    | (go_at_call 28; (with_reducible refine (hR.out).mono ?_); rintro e w' ⟨rfl, rfl⟩)
    | (go_at_call 29; (with_reducible refine (hS.out).mono ?_); rintro e w' ⟨⟨v', rfl⟩, hb'⟩))
  have hb := bit_tabs (e := .returned v') ⟨⟨v', rfl⟩, hb'⟩
  go_ret
  exact ⟨rfl, hb.1, hb.2⟩
theorem clr_ok {w : World} {d n : Nat} {f : Nat → Bool} (h : TabsIn w d n f) (hn : n ≤ 512) (c : Nat) (hc : c < n) : Calls Tryd.prog 12 #[.pointer (some ⟨d, 0, none⟩), .int .i64 c] w (Turned w d n (putF f c false) 0) := by
  have hR := Lib.hid (refuse_ok h c hc)
  have hS := Lib.hid (clear_any f c (by omega) d 1 51 _ w h (tab_word (by omega)))
  clear h hc
  go_enter Tryd.func12, Tryd.ntmps12
  go_wp2_with (first
    | (go_at_call 28; (with_reducible refine (hR.out).mono ?_); rintro e w' ⟨rfl, rfl⟩)
    | (go_at_call 30; (with_reducible refine (hS.out).mono ?_); rintro e w' ⟨⟨v', rfl⟩, hb'⟩))
  have hb := bit_tabs (e := .returned v') ⟨⟨v', rfl⟩, hb'⟩
  go_ret
  exact ⟨rfl, hb.1, hb.2⟩

/-- The column held within. -/
def heldF (n : Nat) (c : Int) : Nat := if c < 0 then 0 else if (n : Int) ≤ c then n - 1 else c.toNat
theorem held_lt {n : Nat} (hn : 1 ≤ n) (c : Int) : heldF n c < n := by
  unfold heldF
  split
  · omega
  · split <;> omega
theorem held_any {w : World} {d n : Nat} {f : Nat → Bool} (h : TabsIn w d n f) (hn : 1 ≤ n) (hn2 : n ≤ 512) (c : Int) : Calls Tryd.prog 34 #[.pointer (some ⟨d, 0, none⟩), .int .i64 c] w (Err w (heldF n c)) := by
  have h0 := h.cols
  clear h
  by_cases h1 : c < 0
  · have hE : Hid (0 = ((heldF n c : Nat) : Int)) := by show _ = _; unfold heldF; rw [if_pos h1]; rfl
    go_enter Tryd.func34, Tryd.ntmps34
    go_wp2
    all_goals (first | omega | skip)
    all_goals
      go_ret
      exact ⟨ret_int (by first | (rw [← hE.out]; done) | (rw [← hE.out]; omega)), rfl⟩
  by_cases h2 : (n : Int) ≤ c
  · have hE : Hid ((n : Int) - 1 = ((heldF n c : Nat) : Int)) := by show _ = _; unfold heldF; rw [if_neg h1, if_pos h2]; omega
    go_enter Tryd.func34, Tryd.ntmps34
    go_wp2
    all_goals (first | omega | skip)
    all_goals
      go_ret
      exact ⟨ret_int (by first | (rw [← hE.out]; done) | (rw [← hE.out]; omega)), rfl⟩
  · obtain ⟨k, rfl⟩ : ∃ k : Nat, c = k := ⟨c.toNat, by omega⟩
    have hE : Hid ((k : Int) = ((heldF n k : Nat) : Int)) := by show _ = _; unfold heldF; rw [if_neg h1, if_neg h2]; omega
    go_enter Tryd.func34, Tryd.ntmps34
    go_wp2
    all_goals (first | omega | skip)
    all_goals
      go_ret
      exact ⟨ret_int (by first | (rw [← hE.out]; done) | (rw [← hE.out]; omega)), rfl⟩

end Go.Proofs.YtihmagpgbjlggaaDoor.Tbs
