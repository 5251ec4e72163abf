/-
  screen: another size.
-/
import Derived.Test.YtaoegfdaemmogaaGreatNDoes
namespace Go.Proofs.YtaoegfdaemmogaaGreat.Scn
open Go Go.RowKit Go.Proofs.YtaoegfdaemmogaaGreat.Com Go.Proofs.YtaoegfdaemmogaaGreat.Rw Go.Proofs.YtaoegfdaemmogaaGreat.Lns
section
variable {B : Nat} {w w' : World} {x s : Nat} {S : Scr}
theorem count_sc (n : Int) (w : World) : Calls Tryz.prog 55 #[.int .i64 n] w fun e w' => e = .returned (.bool (decide (1 ≤ n ∧ n ≤ 512))) ∧ w = w' := by
  have hy : decide (1 ≤ n ∧ n ≤ 512) = true ↔ (1 ≤ n ∧ n ≤ 512) := decide_eq_true_iff
  generalize decide (1 ≤ n ∧ n ≤ 512) = y at hy ⊢
  replace hy := Lib.hid hy
  by_cases h1 : 1 ≤ n
  · go_enter Tryz.func55, Tryz.ntmps55
    go_wp2
    all_goals
      go_ret
      exact ⟨ret_bool (by rw [Bool.eq_iff_iff, hy.out]; simp <;> omega), rfl⟩
  · have h2 : decide (1 ≤ n) = false := decide_eq_false h1
    go_enter Tryz.func55, Tryz.ntmps55
    go_wp2
    all_goals
      go_ret
      exact ⟨ret_bool (by symm; rw [Bool.eq_false_iff]; intro h3; have := hy.out.1 h3; omega), rfl⟩
/-- What Resize leaves where it refuses. -/
theorem res_no (h : SC B w x s S) (hF : Fit S) (rows cols y : Int) (hno : ¬ ((1 ≤ rows ∧ rows ≤ 512) ∧ (1 ≤ cols ∧ cols ≤ 512) ∧ 0 ≤ y ∧ y < S.L.length)) :
    Calls Tryz.prog 21 #[.pointer (some ⟨x, 0, none⟩), .int .i64 rows, .int .i64 cols, .int .i64 y] w fun e w' => e = .returned (.tuple #[.int .i64 0, .int .i64 2]) ∧ w = w' := by
  have hmade := Lib.hid (made_sc h hF.len)
  have h1 := fun w => count_sc rows w
  have h2 := fun w => count_sc cols w
  have h3 := has_sc h hF.len y
  by_cases q1 : 1 ≤ rows ∧ rows ≤ 512
  · rw [decide_eq_true q1] at h1
    by_cases q2 : 1 ≤ cols ∧ cols ≤ 512
    · rw [decide_eq_true q2] at h2
      rw [decide_eq_false (fun hh => hno ⟨q1, q2, hh⟩)] at h3
      replace h1 := Lib.hid h1
      replace h2 := Lib.hid h2
      replace h3 := Lib.hid h3
      clear h hF hno q1 q2
      go_enter Tryz.func21, Tryz.ntmps21
      go_wp2_with (first
        | (go_at_call 45; (with_reducible refine (hmade.out).mono ?_); rintro e w' ⟨rfl, rfl⟩)
        | (go_at_call 55; (with_reducible refine (h1.out _).mono ?_); rintro e w' ⟨rfl, rfl⟩)
        | (go_at_call 55; (with_reducible refine (h2.out _).mono ?_); rintro e w' ⟨rfl, rfl⟩)
        | (go_at_call 56; (with_reducible refine (h3.out).mono ?_); rintro e w' ⟨rfl, rfl⟩))
      go_ret2
      exact ⟨rfl, rfl⟩
    · rw [decide_eq_false q2] at h2
      replace h1 := Lib.hid h1
      replace h2 := Lib.hid h2
      clear h hF hno q1 q2 h3
      go_enter Tryz.func21, Tryz.ntmps21
      go_wp2_with (first
        | (go_at_call 45; (with_reducible refine (hmade.out).mono ?_); rintro e w' ⟨rfl, rfl⟩)
        | (go_at_call 55; (with_reducible refine (h1.out _).mono ?_); rintro e w' ⟨rfl, rfl⟩)
        | (go_at_call 55; (with_reducible refine (h2.out _).mono ?_); rintro e w' ⟨rfl, rfl⟩))
      go_ret2
      exact ⟨rfl, rfl⟩
  · rw [decide_eq_false q1] at h1
    replace h1 := Lib.hid h1
    clear h hF hno q1 h2 h3
    go_enter Tryz.func21, Tryz.ntmps21
    go_wp2_with (first
      | (go_at_call 45; (with_reducible refine (hmade.out).mono ?_); rintro e w' ⟨rfl, rfl⟩)
      | (go_at_call 55; (with_reducible refine (h1.out _).mono ?_); rintro e w' ⟨rfl, rfl⟩))
    go_ret2
    exact ⟨rfl, rfl⟩
/-- The first part: lines above go, as fate says. -/
theorem fate0 (h : SC B w x s S) : Calls Tryz.prog 47 #[.pointer (some ⟨x, 0, none⟩), .int .i64 0] w fun e w' => e = .returned (.func (.func (if S.kp = true then 77 else 54)) #[.pointer (some ⟨x, 0, none⟩)] #[]) ∧ w = w' := by
  by_cases hk : S.kp = true
  · rw [if_pos hk]
    exact fate_keep h hk _ rfl
  · rw [if_neg hk]
    exact fate_forget h 0 (.inl (by simpa using hk))
theorem chg_any (h : SC B w x s S) (f k i m : Nat) (hf : f + k ≤ S.L.length) (hi : i ≤ S.L.length - k) (hm : S.L.length - k + m ≤ 1000) (hnx : S.nx + m ≤ 1000000) (hc1 : 1 ≤ S.cols) (hc5 : S.cols ≤ 512) (hid : ∀ p ∈ S.L, 1 ≤ p.1 ∧ p.1 < S.nx) (a : At) :
    Calls Tryz.prog 57 #[.pointer (some ⟨x, 0, none⟩), .agg #[.int .i64 f, .int .i64 k], .agg #[.int .i64 i, .int .i64 m], .agg #[.int .u32 a.f, .int .u32 a.b, .int .u16 a.g], .func (.func (if S.kp = true then 77 else 54)) #[.pointer (some ⟨x, 0, none⟩)] #[]] w (Did B w x s (chg S f k i m a S.kp)) := by
  by_cases hk : S.kp = true
  · rw [if_pos hk, hk]
    exact chg_keep h f k i m hf hi hm hnx hc1 hc5 hid a
  · rw [if_neg hk, show S.kp = false by simpa using hk]
    exact chg_forget h f k i m hf hi hm hnx hc1 hc5 a
set_option maxRecDepth 100000 in
set_option maxHeartbeats 8000000 in
theorem res_yes (h : SC B w x s S) (hF : Fit S) (rows cols y : Nat) (hr1 : 1 ≤ rows) (hr5 : rows ≤ 512) (hc1 : 1 ≤ cols) (hc5 : cols ≤ 512) (hy : y < S.L.length) (hnx : S.nx + 512 ≤ 1000000) :
    Calls Tryz.prog 21 #[.pointer (some ⟨x, 0, none⟩), .int .i64 rows, .int .i64 cols, .int .i64 y] w fun e w' => e = .returned (.tuple #[.int .i64 ((y - (y - (rows - 1)) : Nat) : Int), .int .i64 0]) ∧ SC B w' x s (resS S rows cols y) ∧ Fr B PT w w' := by
  have hmade := Lib.hid (made_sc h hF.len)
  have h1 := fun w => count_sc rows w
  rw [decide_eq_true (by omega)] at h1
  have h2 := fun w => count_sc cols w
  rw [decide_eq_true (by omega)] at h2
  have h3 := has_sc h hF.len y
  rw [decide_eq_true (by omega)] at h3
  have hl1 := hF.len
  have hl5 := hF.len5
  have hfa := fate0 h
  obtain ⟨ab, hab⟩ : ∃ ab, ab = y - (rows - 1) := ⟨_, rfl⟩
  have hA : resA S rows y = chg S 0 ab 0 0 zeroAt S.kp := by rw [hab]; rfl
  have hch1 := chg_any h 0 ab 0 0 (by omega) (by omega) (by omega) (by omega) hF.c1 hF.c5 hF.ids zeroAt
  rw [← hA] at hch1
  have hAl : (resA S rows y).L.length = S.L.length - ab := by rw [hA, chg_len (by omega)]; omega
  have hAc : (resA S rows y).cols = S.cols := rfl
  have hAn : (resA S rows y).nx = S.nx := rfl
  have hcc := hF.c1
  have hcc5 := hF.c5
  rw [← hAc] at hcc hcc5
  rw [← hAn] at hnx
  unfold resS
  generalize resA S rows y = S1 at hch1 hAl hcc hcc5 hnx ⊢
  rw [← hab]
  obtain ⟨n1, hn1⟩ : ∃ n1, n1 = S1.L.length := ⟨_, rfl⟩
  obtain ⟨e, he⟩ : ∃ e, e = min rows n1 := ⟨_, rfl⟩
  obtain ⟨k, hk⟩ : ∃ k, k = n1 - e := ⟨_, rfl⟩
  obtain ⟨m, hm⟩ : ∃ m, m = rows - e := ⟨_, rfl⟩
  have hB : resB S1 rows = chg S1 e k e m zeroAt false := by rw [hm, hk, he, hn1]; rfl
  rw [hB]
  have hch2 := fun w' (hs : SC B w' x s S1) => chg_forget hs e k e m (by omega) (by omega) (by omega) (by omega) hcc hcc5 zeroAt
  have hBl : (chg S1 e k e m zeroAt false).L.length = rows := by rw [chg_len (by omega)]; omega
  generalize chg S1 e k e m zeroAt false = S2 at hch2 hBl ⊢
  have hwd := fun w' (hs : SC B w' x s S2) => widen_sc hs (by omega) cols hc1 hc5
  have hwl : (wideS S2 cols).L.length = rows := by rw [← hBl]; exact List.length_map _
  generalize wideS S2 cols = S3 at hwd hwl ⊢
  have hmg := fun w' (hs : SC B w' x s S3) => marg_sc hs (by omega) (by omega)
  generalize margS S3 = S4 at hmg ⊢
  have hx3 := fun w' (hs : SC B w' x s S1) => hs.cells.2.2.2.1
  have hch1' : ∀ z : Int, z = (ab : Int) → Calls Tryz.prog 57 #[.pointer (some ⟨x, 0, none⟩), .agg #[.int .i64 0, .int .i64 z], .agg #[.int .i64 0, .int .i64 0], .agg #[.int .u32 0, .int .u32 0, .int .u16 0], .func (.func (if S.kp = true then 77 else 54)) #[.pointer (some ⟨x, 0, none⟩)] #[]] w (Did B w x s S1) := fun z hz => by subst hz; exact hch1
  have hch2' : ∀ (ze zk zm : Int), ze = (e : Int) → zk = (k : Int) → zm = (m : Int) → ∀ w' (hs : SC B w' x s S1), Calls Tryz.prog 57 #[.pointer (some ⟨x, 0, none⟩), .agg #[.int .i64 ze, .int .i64 zk], .agg #[.int .i64 ze, .int .i64 zm], .agg #[.int .u32 0, .int .u32 0, .int .u16 0], .func (.func 54) #[.pointer (some ⟨x, 0, none⟩)] #[]] w' (Did B w' x s S2) := fun ze zk zm h1 h2 h3 => by subst h1 h2 h3; exact hch2
  clear hch1 hch2
  have hw1 : IntKind.i64.wrap ((rows : Int) - 1) = (rows : Int) - 1 := IntWalk.i64_in _ (by omega)
  have hw2 : IntKind.i64.wrap ((y : Int) - ((rows : Int) - 1)) = (y : Int) - ((rows : Int) - 1) := IntWalk.i64_in _ (by omega)
  have hw3 : IntKind.i64.wrap ((n1 : Int) - (rows : Int)) = (n1 : Int) - (rows : Int) := IntWalk.i64_in _ (by omega)
  have hw4 : IntKind.i64.wrap ((rows : Int) - (n1 : Int)) = (rows : Int) - (n1 : Int) := IntWalk.i64_in _ (by omega)
  have hw5 : IntKind.i64.wrap ((y : Int) - ((y : Int) - ((rows : Int) - 1))) = ((y - ab : Nat) : Int) ∨ ab = 0 := by
    rcases Nat.eq_zero_or_pos ab with h0 | h0
    · exact .inr h0
    · left
      rw [show (y : Int) - ((y : Int) - ((rows : Int) - 1)) = ((y - ab : Nat) : Int) by omega]
      exact IntWalk.i64_in _ (by omega)
  have hw6 : IntKind.i64.wrap (y : Int) = (y : Int) := IntWalk.i64_in _ (by omega)
  have hmf := mkf
  rw [← hn1] at hx3
  generalize (if S.kp = true then 77 else 54) = fx at hfa hch1'
  have hyy : Hid ((y - ab : Nat) = y - ab) := Lib.hid rfl
  obtain ⟨yy, hyy⟩ : ∃ yy, yy = y - ab := ⟨_, rfl⟩
  rw [← hyy] at hw5 ⊢
  replace h1 := Lib.hid h1
  replace h2 := Lib.hid h2
  replace h3 := Lib.hid h3
  replace hfa := Lib.hid hfa
  replace hwd := Lib.hid hwd
  replace hmg := Lib.hid hmg
  replace hx3 := Lib.hid hx3
  rcases (show (y : Int) - ((rows : Int) - 1) < 0 ∨ (y : Int) - ((rows : Int) - 1) = 0 ∨ 0 < (y : Int) - ((rows : Int) - 1) by omega) with q | q | q
  · rcases (show rows ≤ n1 ∨ n1 < rows by omega) with rr | rr
    · have hcA := Lib.hid (hch1' 0 (by omega))
      have hri : (rows : Int) ≤ (n1 : Int) := by omega
      have hcB := Lib.hid (hch2' rows ((n1 : Int) - (rows : Int)) 0 (by omega) (by omega) (by omega))
      have hyo : Hid ((y : Int) = (yy : Int)) := Lib.hid (by omega)
      clear hch1' hch2' hw5 hyy hab hA hB hF h hr1 hr5 hc1 hc5 hy hnx hl1 hl5 hAl hn1 he hk hm hBl hwl hcc hcc5 hAc hAn rr
      go_enter Tryz.func21, Tryz.ntmps21
      go_wp2_with (first
        | (go_at_call 45; (with_reducible refine (hmade.out).mono ?_); rintro e w' ⟨rfl, rfl⟩)
        | (go_at_call 55; (with_reducible refine (h1.out _).mono ?_); rintro e0 w' ⟨rfl, rfl⟩)
        | (go_at_call 55; (with_reducible refine (h2.out _).mono ?_); rintro e0 w' ⟨rfl, rfl⟩)
        | (go_at_call 56; (with_reducible refine (h3.out).mono ?_); rintro e w' ⟨rfl, rfl⟩)
        | (go_at_call 47; (with_reducible refine (hfa.out).mono ?_); rintro e w' ⟨rfl, rfl⟩)
        | (go_at_call 57; (with_reducible refine hcA.out.mono ?_); rintro r w1 ⟨⟨v1, rfl⟩, hs1, hf1⟩; obtain ⟨ao, c, c3⟩ := hx3.out _ hs1)
        | (go_at_call 57; (with_reducible refine (hcB.out _ hs1).mono ?_); rintro r w2 ⟨⟨v2, rfl⟩, hs2, hf2⟩)
        | (go_at_call 58; (with_reducible refine (hwd.out _ hs2).mono ?_); rintro r w3 ⟨⟨v3, rfl⟩, hs3, hf3⟩)
        | (go_at_call 59; (with_reducible refine (hmg.out _ hs3).mono ?_); rintro r w4 ⟨⟨v4, rfl⟩, hs4, hf4⟩))
      have hres := Lib.hid (And.intro hs4 (((hf1.trans hf2).trans hf3).trans hf4))
      go_ret2
      first | exact ⟨by rw [hyo.out]; rfl, hres.out⟩ | exact ⟨rfl, hres.out⟩
    · have hcA := Lib.hid (hch1' 0 (by omega))
      have hri : (n1 : Int) < (rows : Int) := by omega
      have hcB := Lib.hid (hch2' n1 0 ((rows : Int) - (n1 : Int)) (by omega) (by omega) (by omega))
      have hyo : Hid ((y : Int) = (yy : Int)) := Lib.hid (by omega)
      clear hch1' hch2' hw5 hyy hab hA hB hF h hr1 hr5 hc1 hc5 hy hnx hl1 hl5 hAl hn1 he hk hm hBl hwl hcc hcc5 hAc hAn rr
      go_enter Tryz.func21, Tryz.ntmps21
      go_wp2_with (first
        | (go_at_call 45; (with_reducible refine (hmade.out).mono ?_); rintro e w' ⟨rfl, rfl⟩)
        | (go_at_call 55; (with_reducible refine (h1.out _).mono ?_); rintro e0 w' ⟨rfl, rfl⟩)
        | (go_at_call 55; (with_reducible refine (h2.out _).mono ?_); rintro e0 w' ⟨rfl, rfl⟩)
        | (go_at_call 56; (with_reducible refine (h3.out).mono ?_); rintro e w' ⟨rfl, rfl⟩)
        | (go_at_call 47; (with_reducible refine (hfa.out).mono ?_); rintro e w' ⟨rfl, rfl⟩)
        | (go_at_call 57; (with_reducible refine hcA.out.mono ?_); rintro r w1 ⟨⟨v1, rfl⟩, hs1, hf1⟩; obtain ⟨ao, c, c3⟩ := hx3.out _ hs1)
        | (go_at_call 57; (with_reducible refine (hcB.out _ hs1).mono ?_); rintro r w2 ⟨⟨v2, rfl⟩, hs2, hf2⟩)
        | (go_at_call 58; (with_reducible refine (hwd.out _ hs2).mono ?_); rintro r w3 ⟨⟨v3, rfl⟩, hs3, hf3⟩)
        | (go_at_call 59; (with_reducible refine (hmg.out _ hs3).mono ?_); rintro r w4 ⟨⟨v4, rfl⟩, hs4, hf4⟩))
      have hres := Lib.hid (And.intro hs4 (((hf1.trans hf2).trans hf3).trans hf4))
      go_ret2
      first | exact ⟨by rw [hyo.out]; rfl, hres.out⟩ | exact ⟨rfl, hres.out⟩
  · rcases (show rows ≤ n1 ∨ n1 < rows by omega) with rr | rr
    · have hcA := Lib.hid (hch1' 0 (by omega))
      have hri : (rows : Int) ≤ (n1 : Int) := by omega
      have hcB := Lib.hid (hch2' rows ((n1 : Int) - (rows : Int)) 0 (by omega) (by omega) (by omega))
      have hyo : Hid ((y : Int) = (yy : Int)) := Lib.hid (by omega)
      clear hch1' hch2' hw5 hyy hab hA hB hF h hr1 hr5 hc1 hc5 hy hnx hl1 hl5 hAl hn1 he hk hm hBl hwl hcc hcc5 hAc hAn rr
      go_enter Tryz.func21, Tryz.ntmps21
      go_wp2_with (first
        | (go_at_call 45; (with_reducible refine (hmade.out).mono ?_); rintro e w' ⟨rfl, rfl⟩)
        | (go_at_call 55; (with_reducible refine (h1.out _).mono ?_); rintro e0 w' ⟨rfl, rfl⟩)
        | (go_at_call 55; (with_reducible refine (h2.out _).mono ?_); rintro e0 w' ⟨rfl, rfl⟩)
        | (go_at_call 56; (with_reducible refine (h3.out).mono ?_); rintro e w' ⟨rfl, rfl⟩)
        | (go_at_call 47; (with_reducible refine (hfa.out).mono ?_); rintro e w' ⟨rfl, rfl⟩)
        | (go_at_call 57; (with_reducible refine hcA.out.mono ?_); rintro r w1 ⟨⟨v1, rfl⟩, hs1, hf1⟩; obtain ⟨ao, c, c3⟩ := hx3.out _ hs1)
        | (go_at_call 57; (with_reducible refine (hcB.out _ hs1).mono ?_); rintro r w2 ⟨⟨v2, rfl⟩, hs2, hf2⟩)
        | (go_at_call 58; (with_reducible refine (hwd.out _ hs2).mono ?_); rintro r w3 ⟨⟨v3, rfl⟩, hs3, hf3⟩)
        | (go_at_call 59; (with_reducible refine (hmg.out _ hs3).mono ?_); rintro r w4 ⟨⟨v4, rfl⟩, hs4, hf4⟩))
      have hres := Lib.hid (And.intro hs4 (((hf1.trans hf2).trans hf3).trans hf4))
      go_ret2
      first | exact ⟨by rw [hyo.out]; rfl, hres.out⟩ | exact ⟨rfl, hres.out⟩
    · have hcA := Lib.hid (hch1' 0 (by omega))
      have hri : (n1 : Int) < (rows : Int) := by omega
      have hcB := Lib.hid (hch2' n1 0 ((rows : Int) - (n1 : Int)) (by omega) (by omega) (by omega))
      have hyo : Hid ((y : Int) = (yy : Int)) := Lib.hid (by omega)
      clear hch1' hch2' hw5 hyy hab hA hB hF h hr1 hr5 hc1 hc5 hy hnx hl1 hl5 hAl hn1 he hk hm hBl hwl hcc hcc5 hAc hAn rr
      go_enter Tryz.func21, Tryz.ntmps21
      go_wp2_with (first
        | (go_at_call 45; (with_reducible refine (hmade.out).mono ?_); rintro e w' ⟨rfl, rfl⟩)
        | (go_at_call 55; (with_reducible refine (h1.out _).mono ?_); rintro e0 w' ⟨rfl, rfl⟩)
        | (go_at_call 55; (with_reducible refine (h2.out _).mono ?_); rintro e0 w' ⟨rfl, rfl⟩)
        | (go_at_call 56; (with_reducible refine (h3.out).mono ?_); rintro e w' ⟨rfl, rfl⟩)
        | (go_at_call 47; (with_reducible refine (hfa.out).mono ?_); rintro e w' ⟨rfl, rfl⟩)
        | (go_at_call 57; (with_reducible refine hcA.out.mono ?_); rintro r w1 ⟨⟨v1, rfl⟩, hs1, hf1⟩; obtain ⟨ao, c, c3⟩ := hx3.out _ hs1)
        | (go_at_call 57; (with_reducible refine (hcB.out _ hs1).mono ?_); rintro r w2 ⟨⟨v2, rfl⟩, hs2, hf2⟩)
        | (go_at_call 58; (with_reducible refine (hwd.out _ hs2).mono ?_); rintro r w3 ⟨⟨v3, rfl⟩, hs3, hf3⟩)
        | (go_at_call 59; (with_reducible refine (hmg.out _ hs3).mono ?_); rintro r w4 ⟨⟨v4, rfl⟩, hs4, hf4⟩))
      have hres := Lib.hid (And.intro hs4 (((hf1.trans hf2).trans hf3).trans hf4))
      go_ret2
      first | exact ⟨by rw [hyo.out]; rfl, hres.out⟩ | exact ⟨rfl, hres.out⟩
  · rcases (show rows ≤ n1 ∨ n1 < rows by omega) with rr | rr
    · have hcA := Lib.hid (hch1' ((y : Int) - ((rows : Int) - 1)) (by omega))
      have hri : (rows : Int) ≤ (n1 : Int) := by omega
      have hcB := Lib.hid (hch2' rows ((n1 : Int) - (rows : Int)) 0 (by omega) (by omega) (by omega))
      have hw7 : IntKind.i64.wrap ((y : Int) - ((y : Int) - ((rows : Int) - 1))) = (yy : Int) := hw5.elim id (fun h0 => by omega)
      have hyo : Hid ((yy : Int) = (yy : Int)) := Lib.hid rfl
      clear hch1' hch2' hw5 hyy hab hA hB hF h hr1 hr5 hc1 hc5 hy hnx hl1 hl5 hAl hn1 he hk hm hBl hwl hcc hcc5 hAc hAn rr
      go_enter Tryz.func21, Tryz.ntmps21
      go_wp2_with (first
        | (go_at_call 45; (with_reducible refine (hmade.out).mono ?_); rintro e w' ⟨rfl, rfl⟩)
        | (go_at_call 55; (with_reducible refine (h1.out _).mono ?_); rintro e0 w' ⟨rfl, rfl⟩)
        | (go_at_call 55; (with_reducible refine (h2.out _).mono ?_); rintro e0 w' ⟨rfl, rfl⟩)
        | (go_at_call 56; (with_reducible refine (h3.out).mono ?_); rintro e w' ⟨rfl, rfl⟩)
        | (go_at_call 47; (with_reducible refine (hfa.out).mono ?_); rintro e w' ⟨rfl, rfl⟩)
        | (go_at_call 57; (with_reducible refine hcA.out.mono ?_); rintro r w1 ⟨⟨v1, rfl⟩, hs1, hf1⟩; obtain ⟨ao, c, c3⟩ := hx3.out _ hs1)
        | (go_at_call 57; (with_reducible refine (hcB.out _ hs1).mono ?_); rintro r w2 ⟨⟨v2, rfl⟩, hs2, hf2⟩)
        | (go_at_call 58; (with_reducible refine (hwd.out _ hs2).mono ?_); rintro r w3 ⟨⟨v3, rfl⟩, hs3, hf3⟩)
        | (go_at_call 59; (with_reducible refine (hmg.out _ hs3).mono ?_); rintro r w4 ⟨⟨v4, rfl⟩, hs4, hf4⟩))
      have hres := Lib.hid (And.intro hs4 (((hf1.trans hf2).trans hf3).trans hf4))
      go_ret2
      first | exact ⟨by rw [hyo.out]; rfl, hres.out⟩ | exact ⟨rfl, hres.out⟩
    · have hcA := Lib.hid (hch1' ((y : Int) - ((rows : Int) - 1)) (by omega))
      have hri : (n1 : Int) < (rows : Int) := by omega
      have hcB := Lib.hid (hch2' n1 0 ((rows : Int) - (n1 : Int)) (by omega) (by omega) (by omega))
      have hw7 : IntKind.i64.wrap ((y : Int) - ((y : Int) - ((rows : Int) - 1))) = (yy : Int) := hw5.elim id (fun h0 => by omega)
      have hyo : Hid ((yy : Int) = (yy : Int)) := Lib.hid rfl
      clear hch1' hch2' hw5 hyy hab hA hB hF h hr1 hr5 hc1 hc5 hy hnx hl1 hl5 hAl hn1 he hk hm hBl hwl hcc hcc5 hAc hAn rr
      go_enter Tryz.func21, Tryz.ntmps21
      go_wp2_with (first
        | (go_at_call 45; (with_reducible refine (hmade.out).mono ?_); rintro e w' ⟨rfl, rfl⟩)
        | (go_at_call 55; (with_reducible refine (h1.out _).mono ?_); rintro e0 w' ⟨rfl, rfl⟩)
        | (go_at_call 55; (with_reducible refine (h2.out _).mono ?_); rintro e0 w' ⟨rfl, rfl⟩)
        | (go_at_call 56; (with_reducible refine (h3.out).mono ?_); rintro e w' ⟨rfl, rfl⟩)
        | (go_at_call 47; (with_reducible refine (hfa.out).mono ?_); rintro e w' ⟨rfl, rfl⟩)
        | (go_at_call 57; (with_reducible refine hcA.out.mono ?_); rintro r w1 ⟨⟨v1, rfl⟩, hs1, hf1⟩; obtain ⟨ao, c, c3⟩ := hx3.out _ hs1)
        | (go_at_call 57; (with_reducible refine (hcB.out _ hs1).mono ?_); rintro r w2 ⟨⟨v2, rfl⟩, hs2, hf2⟩)
        | (go_at_call 58; (with_reducible refine (hwd.out _ hs2).mono ?_); rintro r w3 ⟨⟨v3, rfl⟩, hs3, hf3⟩)
        | (go_at_call 59; (with_reducible refine (hmg.out _ hs3).mono ?_); rintro r w4 ⟨⟨v4, rfl⟩, hs4, hf4⟩))
      have hres := Lib.hid (And.intro hs4 (((hf1.trans hf2).trans hf3).trans hf4))
      go_ret2
      first | exact ⟨by rw [hyo.out]; rfl, hres.out⟩ | exact ⟨rfl, hres.out⟩
end
end Go.Proofs.YtaoegfdaemmogaaGreat.Scn
