/-
  row: the calls that only read a row, or make cells.
-/
import Derived.Test.YtaoegfdaemmogaaGreatRMem
namespace Go.Proofs.YtaoegfdaemmogaaGreat.Rw
open Go Go.RowKit Go.Proofs.YtaoegfdaemmogaaGreat.Com

theorem len_any {w : World} {d g n cap : Nat} {tail : List Value} {l : List Cel} (h : RowX w d g n cap tail l) :
    Calls Tryz.prog 66 #[.pointer (some ⟨d, 0, none⟩)] w fun e w' => e = .returned (.int .i64 n) ∧ w = w' := by
  have hc := h.slice
  clear h
  go_enter Tryz.func66, Tryz.ntmps66
  go_wp2
  go_ret
  exact ⟨rfl, rfl⟩
theorem len_nil (w : World) : Calls Tryz.prog 66 #[.pointer none] w fun e w' => e = .returned (.int .i64 0) ∧ w = w' := by
  go_enter Tryz.func66, Tryz.ntmps66
  go_wp2
  go_ret
  exact ⟨rfl, rfl⟩
theorem len_zero {w : World} {d : Nat} (h : w.cell? ⟨d, 0, none⟩ = some (.slice none 0 0)) : Calls Tryz.prog 66 #[.pointer (some ⟨d, 0, none⟩)] w fun e w' => e = .returned (.int .i64 0) ∧ w = w' := by
  go_enter Tryz.func66, Tryz.ntmps66
  go_wp2
  go_ret
  exact ⟨rfl, rfl⟩

theorem has_yes {w : World} {d g n cap : Nat} {tail : List Value} {l : List Cel} (h : RowX w d g n cap tail l) (i : Int) (h0 : 0 ≤ i) (h1 : i < n) :
    Calls Tryz.prog 68 #[.pointer (some ⟨d, 0, none⟩), .int .i64 i] w fun e w' => e = .returned (.bool true) ∧ w = w' := by
  have hl := Lib.hid (len_any h)
  clear h
  go_enter Tryz.func68, Tryz.ntmps68
  go_wp2_with ((go_at_call 66; refine (hl.out).mono ?_; rintro e w' ⟨rfl, rfl⟩))
  go_ret
  exact ⟨rfl, rfl⟩
theorem has_no {w : World} {d g n cap : Nat} {tail : List Value} {l : List Cel} (h : RowX w d g n cap tail l) (i : Int) (h0 : i < 0 ∨ (n : Int) ≤ i) :
    Calls Tryz.prog 68 #[.pointer (some ⟨d, 0, none⟩), .int .i64 i] w fun e w' => e = .returned (.bool false) ∧ w = w' := by
  have hl := Lib.hid (len_any h)
  clear h
  by_cases h1 : i < 0
  · go_enter Tryz.func68, Tryz.ntmps68
    go_wp2_with ((go_at_call 66; refine (hl.out).mono ?_; rintro e w' ⟨rfl, rfl⟩))
    go_ret
    exact ⟨rfl, rfl⟩
  · have h2 : decide (i < (n : Int)) = false := decide_eq_false (by omega)
    go_enter Tryz.func68, Tryz.ntmps68
    go_wp2_with ((go_at_call 66; refine (hl.out).mono ?_; rintro e w' ⟨rfl, rfl⟩))
    go_ret
    exact ⟨rfl, rfl⟩

theorem mayCount_yes (n : Int) (h0 : 1 ≤ n) (h1 : n ≤ 512) (w : World) : Calls Tryz.prog 93 #[.int .i64 n] w fun e w' => e = .returned (.bool true) ∧ w = w' := by
  go_enter Tryz.func93, Tryz.ntmps93
  go_wp2
  go_ret
  exact ⟨rfl, rfl⟩
theorem mayCount_no (n : Int) (h0 : n < 1 ∨ 512 < n) (w : World) : Calls Tryz.prog 93 #[.int .i64 n] w fun e w' => e = .returned (.bool false) ∧ w = w' := by
  by_cases h1 : n < 1
  · go_enter Tryz.func93, Tryz.ntmps93
    go_wp2
    go_ret
    exact ⟨rfl, rfl⟩
  · have h2 : decide (n ≤ 512) = false := decide_eq_false (by omega)
    go_enter Tryz.func93, Tryz.ntmps93
    go_wp2
    go_ret
    exact ⟨rfl, rfl⟩

def runeOk (x : Int) : Prop := 32 ≤ x ∧ x ≤ 1114111 ∧ (x < 55296 ∨ 57343 < x)
def runeB (x : Int) : Bool := decide (32 ≤ x) && decide (x ≤ 1114111) && (decide (x < 55296) || decide (57343 < x))
theorem runeB_iff (x : Int) : runeB x = true ↔ runeOk x := by simp [runeB, runeOk, and_assoc]
theorem mayPut_any (x : Int) (w : World) : Calls Tryz.prog 67 #[.int .i32 x] w fun e w' => e = .returned (.bool (runeB x)) ∧ w = w' := by
  obtain ⟨b, hb⟩ : ∃ b, b = runeB x := ⟨_, rfl⟩
  rw [← hb]
  have hb' := Lib.hid hb
  clear hb
  go_enter Tryz.func67, Tryz.ntmps67
  go_wp2
  all_goals
    go_ret
    exact ⟨ret_bool (by rw [hb'.out, Bool.eq_iff_iff]; simp [runeB] <;> omega), rfl⟩
theorem rune_any (x : Int) (w : World) : Calls Tryz.prog 70 #[.int .i32 x] w fun e w' => e = .returned (.bool (runeB x)) ∧ w = w' := by
  obtain ⟨b, hb⟩ : ∃ b, b = runeB x := ⟨_, rfl⟩
  rw [← hb]
  have hb' := Lib.hid hb
  clear hb
  go_enter Tryz.func70, Tryz.ntmps70
  go_wp2
  all_goals
    go_ret
    exact ⟨ret_bool (by rw [hb'.out, Bool.eq_iff_iff]; simp [runeB] <;> omega), rfl⟩

def heldF (i : Int) (most : Nat) : Nat := min i.toNat most
theorem held_any (i : Int) (most : Nat) (w : World) : Calls Tryz.prog 103 #[.int .i64 i, .int .i64 most] w fun e w' => e = .returned (.int .i64 (heldF i most)) ∧ w = w' := by
  obtain ⟨b, hb⟩ : ∃ b, b = heldF i most := ⟨_, rfl⟩
  rw [← hb]
  have hb' : Hid (b = min i.toNat most) := hb
  clear hb
  go_enter Tryz.func103, Tryz.ntmps103
  go_wp2
  all_goals
    go_ret
    exact ⟨ret_int (by rw [hb'.out]; omega), rfl⟩
theorem rheld_any (i : Int) (most : Nat) (w : World) : Calls Tryz.prog 95 #[.int .i64 i, .int .i64 most] w fun e w' => e = .returned (.int .i64 (heldF i most)) ∧ w = w' := by
  obtain ⟨b, hb⟩ : ∃ b, b = heldF i most := ⟨_, rfl⟩
  rw [← hb]
  have hb' : Hid (b = min i.toNat most) := hb
  clear hb
  go_enter Tryz.func95, Tryz.ntmps95
  go_wp2
  all_goals
    go_ret
    exact ⟨ret_int (by rw [hb'.out]; omega), rfl⟩

theorem may_any (n : Int) (w : World) : Calls Tryz.prog 7 #[.int .i64 n] w fun e w' => e = .returned (.bool (decide (1 ≤ n ∧ n ≤ 512))) ∧ w = w' := by
  obtain ⟨b, hb⟩ : ∃ b, b = decide (1 ≤ n ∧ n ≤ 512) := ⟨_, rfl⟩
  rw [← hb]
  replace hb := Lib.hid hb
  go_enter Tryz.func7, Tryz.ntmps7
  go_wp2
  all_goals
    go_ret
    exact ⟨ret_bool (by rw [hb.out, Bool.eq_iff_iff]; simp <;> omega), rfl⟩

theorem blank_any (a : At) (w : World) : Calls Tryz.prog 99 #[.agg #[.int .u32 a.f, .int .u32 a.b, .int .u16 a.g]] w fun e w' => e = .returned (.agg (cellC ⟨32, [], 0, a⟩).toArray) ∧ Below w.heap.size w w' := by
  obtain ⟨f, b, g⟩ := a
  go_enter Tryz.func99, Tryz.ntmps99
  go_wp2
  exact bodyPost_ret (v := .agg (cellC ⟨32, [], 0, ⟨f, b, g⟩⟩).toArray) (by simp [results, Tryz.results99, go_sem, cellC, pad4, attV]) rfl ⟨rfl, (((Below.refl _ _).alloc (Nat.le_refl _) _).alloc (by simp) _)⟩
end Go.Proofs.YtaoegfdaemmogaaGreat.Rw
