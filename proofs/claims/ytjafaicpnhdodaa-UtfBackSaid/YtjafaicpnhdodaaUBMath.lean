/-
  What is encoded is decoded, and what is decoded without a Bad is encoded as the bytes. No program.
-/
import Derived.Test.YtjafaicpnhdodaaUEnc
namespace Go.Proofs.Ytjafaicpnhdodaa.Utf

def Valid (r : Int) : Prop := ¬ (r < 0 ∨ 1114111 < r ∨ (55296 ≤ r ∧ r ≤ 57343))
instance (r : Int) : Decidable (Valid r) := by unfold Valid; infer_instance
def fixF (r : Int) : Int := if Valid r then r else 65533
def encAll (l : List Int) : List Int := l.flatMap encF

theorem begins_all {l : List Int} (hok : ∀ j, j < sizeF (l.getD 0 0) → OkAt l j) (hl : sizeF (l.getD 0 0) ≤ l.length) : beginsF l = sizeF (l.getD 0 0) := by
  have c := begins_counted l
  have h1 := c.size
  rcases c.stop with s | s | s
  · exact s
  · omega
  · by_cases h : beginsF l < sizeF (l.getD 0 0)
    · exact absurd (hok _ h) s
    · omega
theorem okAt_0 (l : List Int) : OkAt l 0 := .inl rfl

theorem size2 {a : Int} (h : 194 ≤ a) (h' : a ≤ 223) : sizeF a = 2 := by
  rcases sizeF_cases a with ⟨_, e⟩ | ⟨_, _, e⟩ | ⟨_, _, e⟩ | ⟨_, _, e⟩ | ⟨_, _, e⟩ <;> omega
theorem size3 {a : Int} (h : 224 ≤ a) (h' : a ≤ 239) : sizeF a = 3 := by
  rcases sizeF_cases a with ⟨_, e⟩ | ⟨_, _, e⟩ | ⟨_, _, e⟩ | ⟨_, _, e⟩ | ⟨_, _, e⟩ <;> omega
theorem size4 {a : Int} (h : 240 ≤ a) (h' : a ≤ 244) : sizeF a = 4 := by
  rcases sizeF_cases a with ⟨_, e⟩ | ⟨_, _, e⟩ | ⟨_, _, e⟩ | ⟨_, _, e⟩ | ⟨_, _, e⟩ <;> omega

/-- A whole sequence, alone. -/
theorem lead2 : leadF 2 = 192 := rfl
theorem lead3 : leadF 3 = 224 := rfl
theorem lead4 : leadF 4 = 240 := rfl
theorem step_alone {l : List Int} (n : Nat) (hn : l.length = n) (h0 : 0 < l.length) (hs : sizeF (l.getD 0 0) = l.length) (hok : ∀ j, j < l.length → OkAt l j) : Step l [valF l n (n - 1)] [] := by
  subst hn
  have hb := begins_all (l := l) (by rw [hs]; exact hok) (by omega)
  have h := step_whole h0 (by omega) hb
  rw [hb, hs, List.drop_length] at h
  exact h
theorem enc_step {r : Int} (hv : Valid r) : Step (encF r) [r] [] := by
  rcases enc_ways hv with ⟨h0, h1, e⟩ | ⟨h0, h1, e⟩ | ⟨h0, h1, e⟩ | ⟨h0, h1, e⟩ | ⟨h0, h1, e⟩ <;> rw [e]
  · have hz := zero_take r [] (by rcases sizeF_cases r with ⟨_, e⟩ | ⟨_, _, e⟩ | ⟨_, _, e⟩ | ⟨_, _, e⟩ | ⟨_, _, e⟩ <;> omega)
    rw [if_neg (by rcases sizeF_cases r with ⟨_, e⟩ | ⟨_, _, e⟩ | ⟨_, _, e⟩ | ⟨_, _, e⟩ | ⟨_, _, e⟩ <;> omega)] at hz
    exact hz
  · have hs : sizeF (192 + r / 64) = 2 := size2 (by omega) (by omega)
    have h := step_alone 2 (l := [192 + r / 64, 128 + r % 64]) rfl (by simp) hs (fun j hj => by
      rcases (show j = 0 ∨ j = 1 by simp at hj; omega) with rfl | rfl
      · exact okAt_0 _
      · refine .inr (.inl ⟨rfl, ?_⟩)
        simp only [List.getD_cons_zero, List.getD_cons_succ, loF, hiF]
        omega)
    simp only [Nat.add_one_sub_one, valF, List.getD_cons_zero, List.getD_cons_succ, lead2] at h
    rw [show (192 + r / 64 - 192) * 64 + (128 + r % 64) - 128 = r by omega] at h
    exact h
  · have hs : sizeF (224 + r / 4096) = 3 := size3 (by omega) (by omega)
    have h := step_alone 3 (l := [224 + r / 4096, 128 + r / 64 % 64, 128 + r % 64]) rfl (by simp) hs (fun j hj => by
      rcases (show j = 0 ∨ j = 1 ∨ j = 2 by simp at hj; omega) with rfl | rfl | rfl
      · exact okAt_0 _
      · refine .inr (.inl ⟨rfl, ?_⟩)
        simp only [List.getD_cons_zero, List.getD_cons_succ, loF, hiF]
        omega
      · refine .inr (.inr ⟨by omega, ?_⟩)
        simp only [List.getD_cons_zero, List.getD_cons_succ]
        omega)
    simp only [Nat.add_one_sub_one, valF, List.getD_cons_zero, List.getD_cons_succ, lead3] at h
    rw [show ((224 + r / 4096 - 224) * 64 + (128 + r / 64 % 64) - 128) * 64 + (128 + r % 64) - 128 = r by omega] at h
    exact h
  · have hs : sizeF (224 + r / 4096) = 3 := size3 (by omega) (by omega)
    have h := step_alone 3 (l := [224 + r / 4096, 128 + r / 64 % 64, 128 + r % 64]) rfl (by simp) hs (fun j hj => by
      rcases (show j = 0 ∨ j = 1 ∨ j = 2 by simp at hj; omega) with rfl | rfl | rfl
      · exact okAt_0 _
      · refine .inr (.inl ⟨rfl, ?_⟩)
        simp only [List.getD_cons_zero, List.getD_cons_succ, loF, hiF]
        omega
      · refine .inr (.inr ⟨by omega, ?_⟩)
        simp only [List.getD_cons_zero, List.getD_cons_succ]
        omega)
    simp only [Nat.add_one_sub_one, valF, List.getD_cons_zero, List.getD_cons_succ, lead3] at h
    rw [show ((224 + r / 4096 - 224) * 64 + (128 + r / 64 % 64) - 128) * 64 + (128 + r % 64) - 128 = r by omega] at h
    exact h
  · have hs : sizeF (240 + r / 262144) = 4 := size4 (by omega) (by omega)
    have h := step_alone 4 (l := [240 + r / 262144, 128 + r / 4096 % 64, 128 + r / 64 % 64, 128 + r % 64]) rfl (by simp) hs (fun j hj => by
      rcases (show j = 0 ∨ j = 1 ∨ j = 2 ∨ j = 3 by simp at hj; omega) with rfl | rfl | rfl | rfl
      · exact okAt_0 _
      · refine .inr (.inl ⟨rfl, ?_⟩)
        simp only [List.getD_cons_zero, List.getD_cons_succ, loF, hiF]
        omega
      · refine .inr (.inr ⟨by omega, ?_⟩)
        simp only [List.getD_cons_zero, List.getD_cons_succ]
        omega
      · refine .inr (.inr ⟨by omega, ?_⟩)
        simp only [List.getD_cons_zero, List.getD_cons_succ]
        omega)
    simp only [Nat.add_one_sub_one, valF, List.getD_cons_zero, List.getD_cons_succ, lead4] at h
    rw [show (((240 + r / 262144 - 240) * 64 + (128 + r / 4096 % 64) - 128) * 64 + (128 + r / 64 % 64) - 128) * 64 + (128 + r % 64) - 128 = r by omega] at h
    exact h
theorem enc_fix (r : Int) : Step (encF r) [fixF r] [] := by
  unfold fixF
  by_cases h : Valid r
  · rw [if_pos h]; exact enc_step h
  · rw [if_neg h]
    have e : encF r = encF 65533 := by
      unfold encF
      rw [if_pos (Decidable.not_not.1 h), if_neg (by omega)]
      rfl
    rw [e]
    exact enc_step (by unfold Valid; omega)
theorem run_encAll : ∀ l : List Int, runF zero (encAll l) = (zero, l.map fixF)
  | [] => rfl
  | r :: l => by
    have h := enc_fix r
    unfold Step at h
    show runF zero (encF r ++ encAll l) = _
    rw [run_append, h]
    show ((runF zero (encAll l)).1, ([fixF r] ++ []) ++ (runF zero (encAll l)).2) = _
    rw [run_encAll l]
    rfl
theorem dec_encAll (l : List Int) : decF (encAll l) = l.map fixF := by
  unfold decF
  rw [run_encAll]
  simp [endF, zero]

/-! And back. -/
theorem dec_step {l out rest : List Int} (h : Step l out rest) : decF l = out ++ decF rest := by
  unfold decF Step at *
  rw [h]
  simp
theorem val_enc {l : List Int} (hb : Bytes l) (h0 : beginsF l ≠ 0) (h : beginsF l = sizeF (l.getD 0 0)) : encF (valF l (beginsF l) (beginsF l - 1)) = l.take (beginsF l) := by
  have c := begins_counted l
  have hlen := c.len
  have hg : ∀ i, i < l.length → 0 ≤ l.getD i 0 ∧ l.getD i 0 ≤ 255 := fun i hi => by
    rw [show l.getD i 0 = l[i] by simp [List.getD, List.getElem?_eq_getElem hi]]; exact hb _ (List.getElem_mem hi)
  have hcons : ∀ n, n ≤ l.length → l.take n = (List.range n).map (fun i => l.getD i 0) := fun n hn => by
    apply List.ext_getElem
    · simp; omega
    · intro i h1 h2
      have hi : i < l.length := by simp at h1; omega
      simp [List.getElem?_eq_getElem hi]
  have hok := c.ok
  rw [hcons _ hlen]
  rcases sizeF_cases (l.getD 0 0) with ⟨b0, e⟩ | ⟨b0, b1, e⟩ | ⟨b0, b1, e⟩ | ⟨b0, b1, e⟩ | ⟨b0, b1, e⟩ <;> rw [e] at h
  · rw [h]
    have g := hg 0 (by omega)
    simp only [Nat.sub_self, valF, leadF, List.range_one, List.map_cons, List.map_nil]
    generalize l.getD 0 0 = x at b0 g
    have hv : Valid (x - if 1 = 2 then 192 else if 1 = 3 then 224 else if 1 = 4 then 240 else 0) := by unfold Valid; simp; omega
    simp only [show ((if 1 = 2 then 192 else if 1 = 3 then 224 else if 1 = 4 then 240 else 0 : Int)) = 0 from rfl, Int.sub_zero] at hv ⊢
    unfold encF
    rw [if_neg hv, if_pos (by omega)]
  · rw [h] at hok ⊢
    have k1 := hok 1 (by omega)
    have g0 := hg 0 (by omega)
    rcases k1 with k1 | ⟨_, k1, k2⟩ | ⟨k1, _⟩
    · omega
    · simp only [show (2 : Nat) - 1 = 0 + 1 from rfl, valF, leadF, Nat.zero_add, show List.range 2 = [0, 1] from rfl, List.map_cons, List.map_nil, if_true]
      have l1 := loF_bd (l.getD 0 0)
      have l2 := hiF_bd (l.getD 0 0)
      generalize l.getD 0 0 = x at *
      generalize l.getD 1 0 = y at *
      have hv : Valid ((x - 192) * 64 + y - 128) := by unfold Valid; omega
      unfold encF
      rw [if_neg hv, if_neg (by omega), if_pos (by omega)]
      congr 1
      · omega
      · congr 1
        omega
    · omega
  · rw [h] at hok ⊢
    have k1 := hok 1 (by omega)
    have k2 := hok 2 (by omega)
    rcases k1 with k1 | ⟨_, k1, k1'⟩ | ⟨k1, _⟩
    · omega
    · rcases k2 with k2 | ⟨k2, _⟩ | ⟨_, k2, k2'⟩
      · omega
      · omega
      · simp only [show (3 : Nat) - 1 = 0 + 1 + 1 from rfl, valF, leadF, Nat.zero_add, show List.range 3 = [0, 1, 2] from rfl, List.map_cons, List.map_nil, show (1 : Nat) + 1 = 2 from rfl]
        simp only [show ((3 : Nat) = 2) = False by simp, if_false, if_true]
        unfold loF at k1
        unfold hiF at k1'
        generalize l.getD 0 0 = x at *
        generalize l.getD 1 0 = y at *
        generalize l.getD 2 0 = z at *
        have hv : Valid (((x - 224) * 64 + y - 128) * 64 + z - 128) := by unfold Valid; omega
        unfold encF
        rw [if_neg hv, if_neg (by omega), if_neg (by omega), if_pos (by omega)]
        congr 1
        · omega
        · congr 1
          · omega
          · congr 1
            omega
    · omega
  · rw [h] at hok ⊢
    have k1 := hok 1 (by omega)
    have k2 := hok 2 (by omega)
    have k3 := hok 3 (by omega)
    rcases k1 with k1 | ⟨_, k1, k1'⟩ | ⟨k1, _⟩
    · omega
    · rcases k2 with k2 | ⟨k2, _⟩ | ⟨_, k2, k2'⟩
      · omega
      · omega
      · rcases k3 with k3 | ⟨k3, _⟩ | ⟨_, k3, k3'⟩
        · omega
        · omega
        · simp only [show (4 : Nat) - 1 = 0 + 1 + 1 + 1 from rfl, valF, leadF, Nat.zero_add, show List.range 4 = [0, 1, 2, 3] from rfl, List.map_cons, List.map_nil, show (1 : Nat) + 1 = 2 from rfl, show (2 : Nat) + 1 = 3 from rfl]
          simp only [show ((4 : Nat) = 2) = False by simp, show ((4 : Nat) = 3) = False by simp, if_false, if_true]
          unfold loF at k1
          unfold hiF at k1'
          generalize l.getD 0 0 = x at *
          generalize l.getD 1 0 = y at *
          generalize l.getD 2 0 = z at *
          generalize l.getD 3 0 = u at *
          have hv : Valid ((((x - 240) * 64 + y - 128) * 64 + z - 128) * 64 + u - 128) := by unfold Valid; omega
          unfold encF
          rw [if_neg hv, if_neg (by omega), if_neg (by omega), if_neg (by omega)]
          congr 1
          · omega
          · congr 1
            · omega
            · congr 1
              · omega
              · congr 1
                omega
    · omega
  · omega

theorem back : ∀ (n : Nat) (l : List Int), l.length ≤ n → Bytes l → 65533 ∉ decF l → encAll (decF l) = l
  | n, [], _, _, _ => by simp [decF, runF, endF, zero, encAll]
  | 0, x :: t, h, _, _ => by simp at h
  | n + 1, x :: t, h, hb, hno => by
    have hl : 0 < (x :: t).length := by simp
    by_cases h0 : beginsF (x :: t) = 0
    · have hs := dec_step (step_none hl h0)
      rw [hs] at hno
      simp at hno
    · by_cases h1 : beginsF (x :: t) = sizeF ((x :: t).getD 0 0)
      · have hs := dec_step (step_whole hl h0 h1)
        have c := (begins_counted (x :: t)).len
        rw [hs] at hno ⊢
        have ih := back n ((x :: t).drop (beginsF (x :: t))) (by simp at h ⊢; omega) (fun y hy => hb y (List.mem_of_mem_drop hy)) (fun hm => hno (List.mem_append_right _ hm))
        show encF _ ++ encAll (decF _) = _
        rw [ih, val_enc hb h0 h1, List.take_append_drop]
      · by_cases h2 : beginsF (x :: t) = (x :: t).length
        · have hs := step_open hl h1 h2
          have : decF (x :: t) = [65533] := by
            unfold decF
            rw [hs.1]
            unfold endF
            rw [hs.2, if_neg (by simp; omega)]
            rfl
          rw [this] at hno
          simp at hno
        · have hs := dec_step (step_part hl h0 h1 h2)
          rw [hs] at hno
          simp at hno

end Go.Proofs.Ytjafaicpnhdodaa.Utf
