/-
  The law UtfAnew.
-/
import Derived.Test.YtjafaicpnhdodaaULaw2
namespace Go.Proofs.Ytjafaicpnhdodaa.Utf
open Go Go.RowKit Go.Proofs.Ytjafaicpnhdodaa.Com

theorem take_ascii {D : Dec} (h : D.Ok) {c : Int} (hc : c < 128) : takeF D c = (zero, (endF D).2 ++ [c]) := by
  unfold takeF
  have hno : ¬ (0 < D.o ∧ D.lo ≤ c ∧ c ≤ D.hi) := fun hh => by have := h.lo hh.1; omega
  rw [if_neg hno, end_ok h]
  unfold beginF
  rw [if_pos hc]
theorem dec_anew {l m : List Int} (hl : Bytes l) {c : Int} (hc : c < 128) : decF (l ++ [c] ++ m) = decF l ++ [c] ++ decF m := by
  unfold decF
  rw [List.append_assoc, List.singleton_append, run_append]
  simp only [runF, take_ascii (run_ok l zero_ok hl) hc, List.append_assoc, List.cons_append, List.nil_append]

theorem and_127 : ∀ n : Int, 0 ≤ n → n ≤ 255 → 0 ≤ bits .and .u8 n 127 ∧ bits .and .u8 n 127 < 128 := by
  have hall : ∀ m : Fin 256, 0 ≤ bits .and .u8 m.val 127 ∧ bits .and .u8 m.val 127 < 128 := by decide +kernel
  intro n h0 h1
  have e : ((⟨n.toNat, by omega⟩ : Fin 256).val : Int) = n := by simp; omega
  have h := hall ⟨n.toNat, by omega⟩
  rw [e] at h
  exact h

set_option maxRecDepth 100000 in
set_option maxHeartbeats 4000000 in
theorem lawAnew (l0 : List Int) (hf0 : Fits .u8 l0) (a0 : Option Addr) (c0 : Nat) (_hc0 : l0.length ≤ c0) (hm0 : c0 ≤ maxLen) (c : Int) (wc : (Lit.int .u8 c).wf = true) (l1 : List Int) (hf1 : Fits .u8 l1) (a1 : Option Addr) (c1 : Nat) (_hc1 : l1.length ≤ c1) (hm1 : c1 ≤ maxLen) (w : World)
    (hn0 : Nums w w.heap.size .u8 a0 l0) (hn1 : Nums w w.heap.size .u8 a1 l1) :
    Calls Try.prog 8 #[.slice a0 l0.length c0, .int .u8 c, .slice a1 l1.length c1] w fun e w' => e = .returned (.bool true) ∧ Below w.heap.size w w' := by
  have hb0 := bytes_of_fits hf0
  have hb1 := bytes_of_fits hf1
  have hcb := bounds_u8 wc
  have h630 : l0.length ≤ 9223372036854775807 := by simp only [maxLen] at hm0; omega
  have h631 : l1.length ≤ 9223372036854775807 := by simp only [maxLen] at hm1; omega
  clear hm0 hm1 hf0 hf1
  obtain ⟨hcb0, hcb1⟩ := hcb
  by_cases h0 : 1000 < l0.length
  · go_enter Try.func8, Try.ntmps8
    go_wp2_with ((go_at_call 9; refine (known_any _).mono ?_; rintro e w1 ⟨rfl, hb1⟩))
    go_ret
    exact ⟨rfl, hb1⟩
  by_cases h1 : 1000 < l1.length
  · go_enter Try.func8, Try.ntmps8
    go_wp2_with ((go_at_call 9; refine (known_any _).mono ?_; rintro e w1 ⟨rfl, hb1⟩))
    go_ret
    exact ⟨rfl, hb1⟩
  have h0' : l0.length ≤ 1000 := by omega
  have h1' : l1.length ≤ 1000 := by omega
  clear h0 h1
  have hx0 := dec_len hb0
  have hx1 := dec_len hb1
  have hd0 := Lib.hid (decode_any l0 hb0 a0 c0 w (by omega) hn0)
  obtain ⟨X, hX⟩ : ∃ X, X = decF l0 := ⟨_, rfl⟩
  obtain ⟨Y, hY⟩ : ∃ Y, Y = decF l1 := ⟨_, rfl⟩
  rw [← hX] at hx0
  rw [← hY] at hx1
  replace hX := Lib.hid hX
  replace hY := Lib.hid hY
  go_enter Try.func8, Try.ntmps8
  go_wp2_with fail
  obtain ⟨hq0, hq1⟩ := and_127 c hcb0 hcb1
  generalize bits .and .u8 c 127 = q at hq0 hq1 ⊢
  refine hd0.out.mono ?_
  rintro e w1 ⟨vx, rfl, hownx, hb2⟩
  have hB1 : Below w.heap.size w w1 := hb2
  rw [← hX.out] at hownx
  obtain ⟨bx, dx, rfl, _, _, hnx⟩ := hownx.shape
  have hd1 := Lib.hid (decode_any l1 hb1 a1 c1 w1 (by omega) ((hn1.below hB1 (Nat.le_refl _)).more hB1.size))
  go_wp2_with fail
  refine hd1.out.mono ?_
  rintro e w2 ⟨vy, rfl, howny, hb3⟩
  have hB2 := below_next hB1 hb3
  rw [← hY.out] at howny
  obtain ⟨by_, dy, rfl, _, _, hny⟩ := howny.shape
  have hnx2 := hnx.below hb3 (Nat.le_refl _)
  have hs2 := hb3.size
  have hn02 := hn0.below hB2 (Nat.le_refl _)
  have hn12 := hn1.below hB2 (Nat.le_refl _)
  have hq := dec_anew (m := l1) hb0 hq1
  rw [← hX.out, ← hY.out] at hq
  have hbq : Bytes (l0 ++ [q] ++ l1) := fun x hx => by
    simp only [List.mem_append, List.mem_singleton] at hx
    rcases hx with (hx | rfl) | hx
    · exact hb0 x hx
    · exact ⟨hq0, by omega⟩
    · exact hb1 x hx
  replace hq := Lib.hid hq
  clear hd0 hd1 hb2 hb3 hownx howny hnx
  go_wp2_with (first
    | (with_reducible show wpList _ _ _ (⟨some 27, .call _, _, _, _, _⟩ :: _) _ _; go_must (refine wpList_app elemB rfl (.tmp 25) (.tmp 26) rfl w2.heap.size (.slice (some ⟨w2.heap.size, 0, none⟩) 0 0) [] l0 a0 w.heap.size c0 rfl rfl (own_empty w2 _ _) (hn02.alloc hB2.size _) ?_ ?_ ?_ ?_; (simp); (simp; omega); (simp [maxLen]; omega); intro v3 w3 hown3 ho3 hat3; have hB3 : Below w2.heap.size w2 w3 := (enc_below _ _).trans (ho3.below (by simp) (by simp [Value.ownBlock])); rw [List.nil_append] at hown3))
    | (with_reducible show wpList _ _ _ (⟨some 30, .call _, _, _, _, _⟩ :: _) _ _; go_must (refine wpList_app elemB rfl (.tmp 27) (.tmp 29) rfl w2.heap.size v3 l0 [q] _ (w3.heap.size + 1) 1 rfl rfl (hown3.alloc _) (Nums.one _ _ _ _) ?_ ?_ ?_ ?_; (have := hB3.size; simp; omega); (simp; omega); (simp [maxLen]; omega); intro v4 w4 hown4 ho4 hat4; have hB4 := below_app hB3 hown3 hB3.size _ ho4; have hn14 := hn12.below hB4 hB2.size))
    | (with_reducible show wpList _ _ _ (⟨some 32, .call _, _, _, _, _⟩ :: _) _ _; go_must (refine wpList_app elemB rfl (.tmp 30) (.tmp 31) rfl w2.heap.size v4 (l0 ++ [q]) l1 a1 w.heap.size c1 rfl rfl hown4 hn14 ?_ ?_ ?_ ?_; (have := hB4.size; omega); (simp; omega); (simp [maxLen]; omega); intro v5 w5 hown5 ho5 hat5)))
  have hB5 := below_app0 hB4 hown4 hB4.size ho5
  obtain ⟨L, hL⟩ : ∃ L, L = l0 ++ [q] ++ l1 := ⟨_, rfl⟩
  rw [← hL] at hown5 hbq
  have hq' := hq.out
  rw [← hL] at hq'
  clear hq
  have hq := Lib.hid hq'
  clear hq'
  have hL' : L.length ≤ 2001 := by rw [hL]; simp; omega
  replace hL := Lib.hid hL
  obtain ⟨b5, d5, rfl, _, _, hn5⟩ := hown5.shape
  have hdc := Lib.hid (decode_any L hbq b5 d5 w5 (by omega) hn5)
  refine hdc.out.mono ?_
  rintro e w6 ⟨vz, rfl, hownz, hb6⟩
  have hB6 := below_next hB5 hb6
  rw [hq.out] at hownz
  obtain ⟨T, hT⟩ : ∃ T, T = X ++ [q] ++ Y := ⟨_, rfl⟩
  rw [← hT] at hownz
  have hTl : T.length ≤ 2001 := by rw [hT]; simp; omega
  replace hT := Lib.hid hT
  obtain ⟨bz, dz, rfl, _, _, hnz⟩ := hownz.shape
  have hnx6 := hnx2.below hB6 hs2
  have hny6 := hny.below hB6 (Nat.le_refl _)
  have hB7 := below_next hB2 hB6
  have hs6 := hB6.size
  have hXl : X.length ≤ 1000 := by omega
  have hYl : Y.length ≤ 1000 := by omega
  clear hown3 hown4 hown5 hownz hn02 hn12 hn14 hn5 ho3 ho4 ho5 hdc hB3 hB4 hB5 hB6 hnx2 hny hq hbq hn0 hn1 hb0 hb1 hX hY hL hB1 hB2
  go_wp2_with (first
    | (with_reducible show wpList _ _ _ (⟨some 43, .call _, _, _, _, _⟩ :: _) _ _; go_must (refine wpList_app elemR rfl (.tmp 41) (.tmp 42) rfl w6.heap.size (.slice (some ⟨w6.heap.size, 0, none⟩) 0 0) [] X bx w1.heap.size dx rfl rfl (own_empty w6 _ _) (hnx6.alloc (by omega) _) ?_ ?_ ?_ ?_; (simp); (simp; omega); (simp [maxLen]; omega); intro v8 w8 hown8 ho8 hat8; have hB8 : Below w6.heap.size w6 w8 := (enc_below _ _).trans (ho8.below (by simp) (by simp [Value.ownBlock])); rw [List.nil_append] at hown8; have hs8 := hB8.size))
    | (with_reducible show wpList _ _ _ (⟨some 47, .call _, _, _, _, _⟩ :: _) _ _; go_must (refine wpList_app elemR rfl (.tmp 43) (.tmp 46) rfl w6.heap.size v8 X [q] _ (w8.heap.size + 1) 1 rfl rfl (hown8.alloc _) (Nums.one _ _ _ _) ?_ ?_ ?_ ?_; (simp; omega); (simp; omega); (simp [maxLen]; omega); intro v9 w9 hown9 ho9 hat9; have hB9 := below_app hB8 hown8 hB8.size _ ho9; have hny9 := hny6.below hB9 hs6; have hs9 := hB9.size))
    | (with_reducible show wpList _ _ _ (⟨some 49, .call _, _, _, _, _⟩ :: _) _ _; go_must (refine wpList_app elemR rfl (.tmp 47) (.tmp 48) rfl w6.heap.size v9 (X ++ [q]) Y by_ w2.heap.size dy rfl rfl hown9 hny9 ?_ ?_ ?_ ?_; (omega); (simp; omega); (simp [maxLen]; omega); intro va wa howna hoa hata)))
  have hBa := below_app0 hB9 hown9 hB9.size hoa
  rw [← hT.out] at howna
  obtain ⟨ba, da, rfl, _, _, hna⟩ := howna.shape
  have hsame := Lib.hid (same_yes T bz ba dz da wa wa.heap.size (by omega) ((hnz.below hBa (Nat.le_refl _)).more hBa.size) hna)
  have hBb := below_next hB7 hBa
  clear hown8 hown9 howna ho8 ho9 hoa hB8 hB9 hnz hna hnx6 hny6 hny9
  go_wp2_with (first
    | (go_at_call 10; refine (hsame.out).mono ?_; rintro e wb ⟨rfl, hbb⟩)
    | (go_at_call 9; refine (known_any _).mono ?_; rintro e wd ⟨rfl, hbd⟩))
  go_ret
  exact ⟨rfl, below_next (below_next hBb hbb) hbd⟩

end Go.Proofs.Ytjafaicpnhdodaa.Utf
