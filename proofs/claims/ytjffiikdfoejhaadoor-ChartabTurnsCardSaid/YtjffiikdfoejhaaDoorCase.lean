/-
  Lower, Upper, Charset of chartab and of its reference.
-/
import Derived.Test.YtjffiikdfoejhaaDoorSearch
namespace Go.Proofs.YtjffiikdfoejhaaDoor.Cht
open Go Go.RowKit

set_option maxHeartbeats 1000000 in
theorem lower_any (r : Int) (w : World) (T : Tabs w) :
    Calls Tryd.prog 18 #[.int .i32 r] w fun e w' => e = .returned (.int .i32 (lowerF r)) ∧ w = w' := by
  have TT := Lib.hid T; clear T
  by_cases h : classF r = 4
  · have hb : (classF r == 4) = true := by simpa using h
    obtain ⟨b1, b2⟩ := capitals_bound ((capital_iff r).1 h)
    have HL : Hid (lowerF r = r + 32) := by show _ = _; simp [lowerF, h]
    clear h
    go_enter Tryd.func18, Tryd.ntmps18
    go_wp2_with (go_at_call 16; refine (class_any _ _ TT.out).mono ?_; rintro e w' ⟨rfl, rfl⟩)
    go_ret
    exact ⟨ret_int (by rw [HL.out]; try (exact IntWalk.wrap32_in _ ⟨by omega, by omega⟩)), rfl⟩
  · have hb : (classF r == 4) = false := by simpa using h
    have HL : Hid (lowerF r = r) := by show _ = _; simp [lowerF, h]
    clear h
    go_enter Tryd.func18, Tryd.ntmps18
    go_wp2_with (go_at_call 16; refine (class_any _ _ TT.out).mono ?_; rintro e w' ⟨rfl, rfl⟩)
    go_ret
    exact ⟨ret_int (by rw [HL.out]), rfl⟩

set_option maxHeartbeats 1000000 in
theorem upper_any (r : Int) (w : World) (T : Tabs w) :
    Calls Tryd.prog 20 #[.int .i32 r] w fun e w' => e = .returned (.int .i32 (upperF r)) ∧ w = w' := by
  have TT := Lib.hid T; clear T
  by_cases h : classF r = 3
  · have hb : (classF r == 3) = true := by simpa using h
    obtain ⟨b1, b2⟩ := smalls_bound ((small_iff r).1 h)
    by_cases h' : classF (r - 32) = 4
    · have hb' : (classF (r - 32) == 4) = true := by simpa using h'
      have HL : Hid (upperF r = r - 32) := by show _ = _; simp [upperF, h, h']
      clear h h'
      go_enter Tryd.func20, Tryd.ntmps20
      go_wp2_with (go_at_call 16; refine (class_any _ _ TT.out).mono ?_; rintro e w' ⟨rfl, rfl⟩)
      go_ret
      exact ⟨ret_int (by rw [HL.out]), rfl⟩
    · have hb' : (classF (r - 32) == 4) = false := by simpa using h'
      have HL : Hid (upperF r = r) := by show _ = _; simp [upperF, h']
      clear h h'
      go_enter Tryd.func20, Tryd.ntmps20
      go_wp2_with (go_at_call 16; refine (class_any _ _ TT.out).mono ?_; rintro e w' ⟨rfl, rfl⟩)
      go_ret
      exact ⟨ret_int (by rw [HL.out]), rfl⟩
  · have hb : (classF r == 3) = false := by simpa using h
    have HL : Hid (upperF r = r) := by show _ = _; simp [upperF, h]
    clear h
    go_enter Tryd.func20, Tryd.ntmps20
    go_wp2_with (go_at_call 16; refine (class_any _ _ TT.out).mono ?_; rintro e w' ⟨rfl, rfl⟩)
    go_ret
    exact ⟨ret_int (by rw [HL.out]), rfl⟩

set_option maxHeartbeats 1000000 in
theorem refLower_any (r : Int) (w : World) :
    Calls Tryd.prog 19 #[.int .i32 r] w fun e w' => e = .returned (.int .i32 (lowerF r)) ∧ w = w' := by
  cases h : anyIn capitals r with
  | true =>
    obtain ⟨b1, b2⟩ := capitals_bound h
    have HL : Hid (lowerF r = r + 32) := by show _ = _; simp [lowerF, (capital_iff r).2 h]
    go_enter Tryd.func19, Tryd.ntmps19
    go_wp2_with (go_at_call 32; refine (capital_any _ _).mono ?_; rintro e w' ⟨rfl, rfl⟩)
    go_ret
    exact ⟨ret_int (by rw [HL.out]; try (exact IntWalk.wrap32_in _ ⟨by omega, by omega⟩)), rfl⟩
  | false =>
    have HL : Hid (lowerF r = r) := by
      show _ = _
      have h4 : classF r ≠ 4 := fun e => by rw [(capital_iff r).1 e] at h; cases h
      simp [lowerF, h4]
    go_enter Tryd.func19, Tryd.ntmps19
    go_wp2_with (go_at_call 32; refine (capital_any _ _).mono ?_; rintro e w' ⟨rfl, rfl⟩)
    go_ret
    exact ⟨ret_int (by rw [HL.out]), rfl⟩

set_option maxHeartbeats 1000000 in
theorem refUpper_any (r : Int) (w : World) :
    Calls Tryd.prog 21 #[.int .i32 r] w fun e w' => e = .returned (.int .i32 (upperF r)) ∧ w = w' := by
  cases h : anyIn smalls r with
  | true =>
    obtain ⟨b1, b2⟩ := smalls_bound h
    cases h' : anyIn capitals (r - 32) with
    | true =>
      have HL : Hid (upperF r = r - 32) := by show _ = _; simp [upperF, (small_iff r).2 h, (capital_iff _).2 h']
      go_enter Tryd.func21, Tryd.ntmps21
      go_wp2_with (first | (go_at_call 31; refine (small_any _ _).mono ?_; rintro e w' ⟨rfl, rfl⟩) | (go_at_call 32; refine (capital_any _ _).mono ?_; rintro e w' ⟨rfl, rfl⟩))
      go_ret
      exact ⟨ret_int (by rw [HL.out]), rfl⟩
    | false =>
      have HL : Hid (upperF r = r) := by
        show _ = _
        have h4 : classF (r - 32) ≠ 4 := fun e => by rw [(capital_iff _).1 e] at h'; cases h'
        simp [upperF, h4]
      go_enter Tryd.func21, Tryd.ntmps21
      go_wp2_with (first | (go_at_call 31; refine (small_any _ _).mono ?_; rintro e w' ⟨rfl, rfl⟩) | (go_at_call 32; refine (capital_any _ _).mono ?_; rintro e w' ⟨rfl, rfl⟩))
      go_ret
      exact ⟨ret_int (by rw [HL.out]), rfl⟩
  | false =>
    have HL : Hid (upperF r = r) := by
      show _ = _
      have h3 : classF r ≠ 3 := fun e => by rw [(small_iff _).1 e] at h; cases h
      simp [upperF, h3]
    go_enter Tryd.func21, Tryd.ntmps21
    go_wp2_with (first | (go_at_call 31; refine (small_any _ _).mono ?_; rintro e w' ⟨rfl, rfl⟩) | (go_at_call 32; refine (capital_any _ _).mono ?_; rintro e w' ⟨rfl, rfl⟩))
    go_ret
    exact ⟨ret_int (by rw [HL.out]), rfl⟩

/-! Charsets. -/
set_option maxHeartbeats 1000000 in
theorem british_any (r : Int) (w : World) :
    Calls Tryd.prog 33 #[.int .i32 r] w fun e w' => e = .returned (.int .i32 (britishF r)) ∧ w = w' := by
  by_cases h : r = 35
  · subst h
    go_enter Tryd.func33, Tryd.ntmps33
    go_wp2
    go_ret
    exact ⟨rfl, rfl⟩
  · have hb : (r == 35) = false := by simpa using h
    have HL : Hid (britishF r = r) := by show _ = _; unfold britishF; rw [if_neg h]
    clear h
    go_enter Tryd.func33, Tryd.ntmps33
    go_wp2
    go_ret
    exact ⟨ret_int (by rw [HL.out]), rfl⟩

set_option maxHeartbeats 1000000 in
theorem graphic_any (r : Int) (w : World) (T : Tabs w) :
    Calls Tryd.prog 34 #[.int .i32 r] w fun e w' => e = .returned (.int .i32 (graphicF r)) ∧ w = w' := by
  have TT := Lib.hid T.graphics; clear T
  by_cases h : r = 95
  · subst h
    go_enter Tryd.func34, Tryd.ntmps34
    go_wp2
    go_ret
    exact ⟨rfl, rfl⟩
  · have hb : (r == 95) = false := by simpa using h
    by_cases h1 : 96 ≤ r
    · by_cases h2 : r < 127
      · have HL : Hid (graphicF r = graphs.getD (r - 96).toNat 0) := by show _ = _; unfold graphicF; rw [if_neg h, if_pos ⟨h1, h2⟩]
        clear h
        have hc := TT.out (r - 96).toNat (by omega)
        generalize hg : graphs.getD (r - 96).toNat 0 = g at hc HL
        clear hg
        go_enter Tryd.func34, Tryd.ntmps34
        go_wp2
        go_ret
        exact ⟨ret_int (by rw [HL.out]), rfl⟩
      · have HL : Hid (graphicF r = r) := by show _ = _; unfold graphicF; rw [if_neg h, if_neg (by omega)]
        clear h
        go_enter Tryd.func34, Tryd.ntmps34
        go_wp2
        go_ret
        exact ⟨ret_int (by rw [HL.out]), rfl⟩
    · have HL : Hid (graphicF r = r) := by show _ = _; unfold graphicF; rw [if_neg h, if_neg (by omega)]
      clear h
      go_enter Tryd.func34, Tryd.ntmps34
      go_wp2
      go_ret
      exact ⟨ret_int (by rw [HL.out]), rfl⟩

set_option maxHeartbeats 1000000 in
theorem charset_any (s r : Int) (w : World) (T : Tabs w) :
    Calls Tryd.prog 22 #[.int .u8 s, .int .i32 r] w fun e w' => e = .returned (.int .i32 (charsetF s r)) ∧ w = w' := by
  have TT := Lib.hid T; clear T
  have fin : ((s == 1) = true ∧ Hid (charsetF s r = britishF r)) ∨ ((s == 1) = false ∧ (s == 2) = true ∧ Hid (charsetF s r = graphicF r)) ∨ ((s == 1) = false ∧ (s == 2) = false ∧ Hid (charsetF s r = r)) := by
    by_cases h1 : s = 1
    · exact .inl ⟨by simpa using h1, by show _ = _; simp [charsetF, h1]⟩
    · by_cases h2 : s = 2
      · exact .inr (.inl ⟨by simpa using h1, by simpa using h2, by show _ = _; simp [charsetF, h2]⟩)
      · exact .inr (.inr ⟨by simpa using h1, by simpa using h2, by show _ = _; simp [charsetF, h1, h2]⟩)
  rcases fin with ⟨h1, HL⟩ | ⟨h1, h2, HL⟩ | ⟨h1, h2, HL⟩
  all_goals
    go_enter Tryd.func22, Tryd.ntmps22
    go_wp2_with (first | (go_at_call 33; refine (british_any _ _).mono ?_; rintro e w' ⟨rfl, rfl⟩) | (go_at_call 34; refine (graphic_any _ _ TT.out).mono ?_; rintro e w' ⟨rfl, rfl⟩))
    go_ret
    exact ⟨ret_int (by rw [HL.out]), rfl⟩

end Go.Proofs.YtjffiikdfoejhaaDoor.Cht
