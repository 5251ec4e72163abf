/-
  row: halves that are left alone: what tells them, what makes them blank; cells that are laid over.
-/
import Derived.Test.YtaoegfdaemmogaaRLeaf
namespace Go.Proofs.Ytaoegfdaemmogaa.Rw
open Go Go.RowKit Go.Proofs.Ytaoegfdaemmogaa.Com

set_option maxHeartbeats 1000000 in
theorem alone_any {w : World} {d g n cap : Nat} {tail : List Value} {l : List Cel} (h : RowX w d g n cap tail l) (i : Nat) (hi : i < n) :
    Calls Try.prog 97 #[.pointer (some ⟨d, 0, none⟩), .int .i64 i] w fun e w' => e = .returned (.bool (decide (Alone l i))) ∧ w = w' := by
  have hle := h.le
  have hcm := h.cap
  unfold maxLen at hcm
  have hc := h.slice
  have hil : i < l.length := by rw [h.len]; exact hi
  have hw := h.wide hil
  have hW := W_at hil
  generalize l[i].wide = x at hw hW
  have hW1 : i + 1 < n → ∃ y, W l (i + 1) = y ∧ w.cell? ⟨g, (i + 1) * 10 + 6, none⟩ = some (.int .u8 y) := fun h1 => by
    have h2 : i + 1 < l.length := by rw [h.len]; exact h1
    exact ⟨_, W_at h2, h.wide h2⟩
  have hW2 : n ≤ i + 1 → W l (i + 1) = 0 := fun h1 => W_out (by rw [h.len]; exact h1)
  have hW0 : 0 < i → ∃ y, W l (i - 1) = y ∧ w.cell? ⟨g, (i - 1) * 10 + 6, none⟩ = some (.int .u8 y) := fun h1 => by
    have h2 : i - 1 < l.length := by omega
    exact ⟨_, W_at h2, h.wide h2⟩
  have hyes := Lib.hid (fun j h0 h1 => has_yes h j h0 h1)
  have hno := Lib.hid (fun j h0 => has_no h j h0)
  obtain ⟨b, hb⟩ : ∃ b, b = decide (Alone l i) := ⟨_, rfl⟩
  rw [← hb]
  replace hb := Lib.hid hb
  clear h hil
  by_cases h1 : x = 1
  · subst h1
    by_cases h2 : i + 1 < n
    · obtain ⟨y, hy, hcy⟩ := hW1 h2
      have hbb : b = (y != 2) := by rw [hb.out, Bool.eq_iff_iff, decide_eq_true_iff]; unfold Alone; rw [hW, hy]; simp
      replace hbb := Lib.hid hbb
      clear hW1 hW2 hW0 hb hW hy
      go_enter Try.func97, Try.ntmps97
      go_wp2_with ((go_at_call 72; refine (hyes.out _ (by omega) (by omega)).mono ?_; rintro e w' ⟨rfl, rfl⟩))
      go_ret
      exact ⟨ret_bool hbb.out.symm, rfl⟩
    · have hy := hW2 (by omega)
      have hbb : b = true := hb.out.trans (decide_eq_true (by unfold Alone; rw [hW, hy]; simp))
      replace hbb := Lib.hid hbb
      clear hW1 hW2 hW0 hb hW hy
      go_enter Try.func97, Try.ntmps97
      go_wp2_with ((go_at_call 72; refine (hno.out _ (Or.inr (by omega))).mono ?_; rintro e w' ⟨rfl, rfl⟩))
      go_ret
      exact ⟨ret_bool hbb.out.symm, rfl⟩
  have h1' : (x == 1) = false := by simpa using h1
  by_cases h2 : x = 2
  · subst h2
    by_cases h3 : 0 < i
    · obtain ⟨y, hy, hcy⟩ := hW0 h3
      have hbb : b = (y != 1) := by rw [hb.out, Bool.eq_iff_iff, decide_eq_true_iff]; unfold Alone; rw [hW, hy]; simp; omega
      replace hbb := Lib.hid hbb
      obtain ⟨j, rfl⟩ : ∃ j, i = j + 1 := ⟨i - 1, by omega⟩
      simp only [Nat.add_sub_cancel] at hcy
      clear hW1 hW2 hW0 hb hW hy
      go_enter Try.func97, Try.ntmps97
      go_wp2_with ((go_at_call 72; refine (hyes.out _ (by omega) (by omega)).mono ?_; rintro e w' ⟨rfl, rfl⟩))
      go_ret
      exact ⟨ret_bool hbb.out.symm, rfl⟩
    · obtain rfl : i = 0 := by omega
      have hbb : b = true := hb.out.trans (decide_eq_true (by unfold Alone; rw [hW]; simp))
      replace hbb := Lib.hid hbb
      clear hW1 hW2 hW0 hb hW
      go_enter Try.func97, Try.ntmps97
      go_wp2_with ((go_at_call 72; refine (hno.out _ (Or.inl (by omega))).mono ?_; rintro e w' ⟨rfl, rfl⟩))
      go_ret
      exact ⟨ret_bool hbb.out.symm, rfl⟩
  · have h2' : (x == 2) = false := by simpa using h2
    have hbb : b = false := hb.out.trans (decide_eq_false (by unfold Alone; rw [hW]; simp [h1, h2]))
    replace hbb := Lib.hid hbb
    clear hW1 hW2 hW0 hb hW
    go_enter Try.func97, Try.ntmps97
    go_wp2
    go_ret
    exact ⟨ret_bool hbb.out.symm, rfl⟩
end Go.Proofs.Ytaoegfdaemmogaa.Rw
