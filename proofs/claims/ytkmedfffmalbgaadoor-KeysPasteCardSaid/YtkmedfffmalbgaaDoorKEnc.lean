/-
  keys: a rune's bytes, by the program's utf and by the reference's.
-/
import Derived.Test.YtkmedfffmalbgaaDoorKLeaf
namespace Go.Proofs.YtkmedfffmalbgaaDoor.Kys
open Go Go.RowKit Go.Proofs.YtkmedfffmalbgaaDoor.Com

theorem trailing_any (r : Int) (w : World) : Calls Tryd.prog 35 #[.int .i32 r] w fun e w' => e = .returned (.int .u8 (128 + r % 64)) ∧ w = w' := by
  go_enter Tryd.func35, Tryd.ntmps35
  go_wp2
  go_ret
  exact ⟨rfl, rfl⟩
/-- A new row of a literal's bytes is what a call leaves. -/
theorem put_lit (w : World) (l : List Int) (hl : l.length ≤ 16) : Row (w.alloc (.cells (l.map (Value.int .u8)).toArray 5)) w.heap.size 5 (.slice (some ⟨w.heap.size, 0, none⟩) l.length l.length) l :=
  Row.lit w _ _ l (Nat.le_refl _) (by simp [maxLen]; omega)
theorem enc_ways {r : Int} (h : ¬ (r < 0 ∨ 1114111 < r ∨ (55296 ≤ r ∧ r ≤ 57343))) :
    (0 ≤ r ∧ r < 128 ∧ encF r = [r]) ∨ (128 ≤ r ∧ r < 2048 ∧ encF r = [192 + r / 64, 128 + r % 64]) ∨ (2048 ≤ r ∧ r < 55296 ∧ encF r = [224 + r / 4096, 128 + r / 64 % 64, 128 + r % 64]) ∨ (57343 < r ∧ r < 65536 ∧ encF r = [224 + r / 4096, 128 + r / 64 % 64, 128 + r % 64]) ∨
    (65536 ≤ r ∧ r ≤ 1114111 ∧ encF r = [240 + r / 262144, 128 + r / 4096 % 64, 128 + r / 64 % 64, 128 + r % 64]) := by
  unfold encF
  rw [if_neg h]
  by_cases h1 : r < 128
  · exact .inl ⟨by omega, h1, if_pos h1⟩
  · rw [if_neg h1]
    by_cases h2 : r < 2048
    · exact .inr (.inl ⟨by omega, h2, if_pos h2⟩)
    · rw [if_neg h2]
      by_cases h3 : r < 65536
      · rw [if_pos h3]
        by_cases h4 : r < 55296
        · exact .inr (.inr (.inl ⟨by omega, h4, rfl⟩))
        · exact .inr (.inr (.inr (.inl ⟨by omega, h3, rfl⟩)))
      · rw [if_neg h3]
        exact .inr (.inr (.inr (.inr ⟨by omega, by omega, rfl⟩)))
set_option maxHeartbeats 1000000 in
theorem encode_valid (r : Int) (h : ¬ (r < 0 ∨ 1114111 < r ∨ (55296 ≤ r ∧ r ≤ 57343))) (w : World) : Calls Tryd.prog 18 #[.int .i32 r] w (Put w.heap.size (encF r) w) := by
  rcases enc_ways h with ⟨h0, h1, e⟩ | ⟨h0, h1, e⟩ | ⟨h0, h1, e⟩ | ⟨h0, h1, e⟩ | ⟨h0, h1, e⟩
  all_goals
    replace e := Lib.hid e
    clear h
    go_enter Tryd.func18, Tryd.ntmps18
    go_wp2_with ((go_at_call 35; refine (trailing_any _ _).mono ?_; rintro e w' ⟨rfl, rfl⟩))
    go_ret
    refine ⟨_, rfl, ?_, below_new _ _⟩
    have hl := put_lit w (encF r) (by have := enc_len r; omega)
    rw [e.out] at hl ⊢
    exact hl
set_option maxHeartbeats 1000000 in
theorem rencode_valid (r : Int) (h : ¬ (r < 0 ∨ 1114111 < r ∨ (55296 ≤ r ∧ r ≤ 57343))) (w : World) : Calls Tryd.prog 22 #[.int .i32 r] w (Put w.heap.size (encF r) w) := by
  rcases enc_ways h with ⟨h0, h1, e⟩ | ⟨h0, h1, e⟩ | ⟨h0, h1, e⟩ | ⟨h0, h1, e⟩ | ⟨h0, h1, e⟩
  all_goals
    replace e := Lib.hid e
    clear h
    go_enter Tryd.func22, Tryd.ntmps22
    go_wp2
    go_ret
    refine ⟨_, rfl, ?_, below_new _ _⟩
    have hl := put_lit w (encF r) (by have := enc_len r; omega)
    rw [e.out] at hl ⊢
    exact hl
theorem bad_valid : ¬ ((65533 : Int) < 0 ∨ (1114111 : Int) < 65533 ∨ ((55296 : Int) ≤ 65533 ∧ (65533 : Int) ≤ 57343)) := by omega
theorem enc_no {r : Int} (h : r < 0 ∨ 1114111 < r ∨ (55296 ≤ r ∧ r ≤ 57343)) : encF r = [239, 191, 189] := by unfold encF; exact if_pos h
set_option maxHeartbeats 1000000 in
theorem encode_any (r : Int) (w : World) : Calls Tryd.prog 18 #[.int .i32 r] w (Put w.heap.size (encF r) w) := by
  by_cases h : r < 0 ∨ 1114111 < r ∨ (55296 ≤ r ∧ r ≤ 57343)
  · have hb := encode_valid 65533 bad_valid w
    rw [show encF 65533 = encF r by rw [enc_no h]; rfl] at hb
    replace hb := Lib.hid hb
    rcases h with h | h | ⟨h, h'⟩
    all_goals
      go_enter Tryd.func18, Tryd.ntmps18
      go_wp2_with ((go_at_call 18; refine (hb.out).mono ?_; rintro e w1 ⟨v, rfl, ho, hbel⟩))
      go_ret
      exact ⟨v, rfl, ho, hbel⟩
  · exact encode_valid r h w
set_option maxHeartbeats 1000000 in
theorem rencode_any (r : Int) (w : World) : Calls Tryd.prog 22 #[.int .i32 r] w (Put w.heap.size (encF r) w) := by
  by_cases h : r < 0 ∨ 1114111 < r ∨ (55296 ≤ r ∧ r ≤ 57343)
  · have e := Lib.hid (enc_no h)
    rcases h with h | h | ⟨h, h'⟩
    all_goals
      go_enter Tryd.func22, Tryd.ntmps22
      go_wp2
      go_ret
      refine ⟨_, rfl, ?_, below_new _ _⟩
      have hl := put_lit w (encF r) (by have := enc_len r; omega)
      rw [e.out] at hl ⊢
      exact hl
  · exact rencode_valid r h w

end Go.Proofs.YtkmedfffmalbgaaDoor.Kys
