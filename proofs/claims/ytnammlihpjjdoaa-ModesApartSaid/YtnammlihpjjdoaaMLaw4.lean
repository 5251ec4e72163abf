/-
  modes: ModesApart.
-/
import Derived.Test.YtnammlihpjjdoaaMLaw3
namespace Go.Proofs.Ytnammlihpjjdoaa.Mds
open Go Go.RowKit Go.Proofs.Ytnammlihpjjdoaa.Com

/-- The number of a flag that has one number alone. -/
def numOf : Nat → Bool × Int
  | 0 => (false, 4)
  | 1 => (false, 20)
  | 2 => (true, 1)
  | 3 => (true, 6)
  | 4 => (true, 7)
  | 5 => (true, 25)
  | _ => (true, 2004)
theorem spot_inv {p : Bool} {n : Int} (h : spot p n < 8) (h6 : spot p n ≠ 6) : numOf (spot p n) = (p, n) := by
  cases p
  · unfold spot at *
    simp only [Bool.false_eq_true, if_false] at *
    by_cases e1 : n = 4
    · subst e1; rfl
    · rw [if_neg e1] at h h6 ⊢
      by_cases e2 : n = 20
      · subst e2; rfl
      · rw [if_neg e2] at h
        omega
  · by_cases e1 : n = 1
    · subst e1; rfl
    by_cases e2 : n = 6
    · subst e2; rfl
    by_cases e3 : n = 7
    · subst e3; rfl
    by_cases e4 : n = 25
    · subst e4; rfl
    by_cases e5 : n = 47
    · subst e5; exact absurd rfl h6
    by_cases e6 : n = 1047
    · subst e6; exact absurd rfl h6
    by_cases e7 : n = 1049
    · subst e7; exact absurd rfl h6
    by_cases e8 : n = 2004
    · subst e8; rfl
    unfold spot at h
    rw [if_pos rfl, if_neg e1, if_neg e2, if_neg e3, if_neg e4, if_neg e5, if_neg e6, if_neg e7, if_neg e8] at h
    omega
theorem spot_same {a b : Bool} {n k : Int} (h : spot a n = spot b k) (hn : spot a n < 8) (h6 : spot a n ≠ 6) : a = b ∧ n = k := by
  have h1 := spot_inv hn h6
  have h2 := spot_inv (p := b) (n := k) (by omega) (by omega)
  rw [h, h2] at h1
  simp only [Prod.mk.injEq] at h1
  exact ⟨h1.1.symm, h1.2.symm⟩
/-- Is it a number of Alternate? -/
def altF (p : Bool) (n : Int) : Bool := decide (spot p n = 6)
theorem alt_no (n : Int) : altF false n = false := by
  unfold altF spot
  simp only [Bool.false_eq_true, if_false]
  by_cases e1 : n = 4
  · rw [if_pos e1]; rfl
  · rw [if_neg e1]
    by_cases e2 : n = 20
    · rw [if_pos e2]; rfl
    · rw [if_neg e2]; rfl
theorem alt_else {n : Int} (h1 : n ≠ 47) (h2 : n ≠ 1047) (h3 : n ≠ 1049) : altF true n = false := by
  unfold altF
  refine decide_eq_false fun h => ?_
  unfold spot at h
  rw [if_pos rfl, if_neg h1, if_neg h2, if_neg h3] at h
  repeat' split at h
  all_goals omega
theorem alt_any (p : Bool) (n : Int) (w : World) : Calls Try.prog 19 #[.bool p, .int .i64 n] w fun e w' => e = .returned (.bool (altF p n)) ∧ w = w' := by
  cases p
  · rw [alt_no]
    go_enter Try.func19, Try.ntmps19
    go_wp2
    go_ret
    exact ⟨rfl, rfl⟩
  by_cases h1 : n = 47
  · subst h1
    go_enter Try.func19, Try.ntmps19
    go_wp2
    go_ret
    exact ⟨rfl, rfl⟩
  by_cases h2 : n = 1047
  · subst h2
    go_enter Try.func19, Try.ntmps19
    go_wp2
    go_ret
    exact ⟨rfl, rfl⟩
  by_cases h3 : n = 1049
  · subst h3
    go_enter Try.func19, Try.ntmps19
    go_wp2
    go_ret
    exact ⟨rfl, rfl⟩
  rw [alt_else h1 h2 h3]
  have b1 : (n == 47) = false := by simpa using h1
  have b2 : (n == 1047) = false := by simpa using h2
  have b3 : (n == 1049) = false := by simpa using h3
  go_enter Try.func19, Try.ntmps19
  go_wp2
  go_ret
  exact ⟨rfl, rfl⟩

section
variable (m : Md) (a b : Bool) (n k : Int) (on : Bool) (X : Md) (was is one two : Bool) (W : World)
def GetsM : Prop := ∀ w, Calls Try.prog 11 #[.agg (mA m), .bool b, .int .i64 k] w (Tup (.tuple #[.bool was, .bool one]) w)
def PutsM : Prop := ∀ w, Calls Try.prog 8 #[.agg (mA m), .bool a, .int .i64 n, .bool on] w (Tup (.tuple #[.agg (mA X), .bool two]) w)
end
set_option maxHeartbeats 4000000 in
theorem apart_A (m : Md) (a b : Bool) (n k : Int) (on : Bool) (X : Md) (two : Bool) (W : World) (hg1 : GetsM m b k false false) (hp1 : PutsM m a n on X two) (hg2 : GetsM X b k false false) : Calls Try.prog 7 #[.agg (mA m), .bool a, .bool b, .int .i64 n, .int .i64 k, .bool on] W (Yes W) := by
  have hb0 := Lib.hid (below_new W (.cells (mA m) 23))
  have hd0 := Lib.hid (MB.made W m)
  replace hg1 := Lib.hid hg1
  replace hp1 := Lib.hid hp1
  replace hg2 := Lib.hid hg2
  unfold GetsM at hg1 hg2
  unfold PutsM at hp1
  go_enter Try.func7, Try.ntmps7
  go_wp2_with (first
    | (with_reducible show wpList _ _ _ (⟨some 21, .load _ (.tmp 6), _, _, _, _⟩ :: _) _ _; go_must (refine wpList_load_m rfl (.tmp 6) rfl rfl hd0.out ?_))
    | (go_at_call 11; (with_reducible refine (hg1.out _).mono ?_); rintro e w1 ⟨rfl, hb1⟩; have hd1 := Lib.hid (hd0.out.below hb1); have hbA := Lib.hid (below_next hb0.out hb1); clear hb1 hd0 hb0)
    | (with_reducible show wpList _ _ _ (⟨some 28, .load _ (.tmp 6), _, _, _, _⟩ :: _) _ _; go_must (refine wpList_load_m rfl (.tmp 6) rfl rfl hd1.out ?_))
    | (go_at_call 8; (with_reducible refine (hp1.out _).mono ?_); rintro e w2 ⟨rfl, hb2⟩; have hd2 := Lib.hid (hd1.out.below hb2); have hbB := Lib.hid (below_next hbA.out hb2); have hz2 := Lib.hid (MB.zero w2); clear hb2 hd1 hbA)
    | (with_reducible show wpList _ _ _ (⟨none, .store _ (.tmp 15) _, _, _, _, _⟩ :: _) _ _; go_must (refine wpList_store_m rfl (.tmp 15) (.tmp 33) rfl rfl rfl hz2.out ?_); intro w3 hx3 ho3; go_must (replace hx3 := Lib.hid hx3; have hbC := Lib.hid (made_store hbB.out ho3); have hd3 := Lib.hid (kept_store hd2.out ho3); clear ho3 hz2 hbB hd2))
    | (with_reducible show wpList _ _ _ (⟨some 36, .load _ (.tmp 15), _, _, _, _⟩ :: _) _ _; go_must (refine wpList_load_m rfl (.tmp 15) rfl rfl hx3.out ?_))
    | (go_at_call 11; (with_reducible refine (hg2.out _).mono ?_); rintro e w4 ⟨rfl, hb4⟩; have hx4 := Lib.hid (hx3.out.below hb4); have hd4 := Lib.hid (hd3.out.below hb4); have hbD := Lib.hid (below_next hbC.out hb4); clear hb4 hx3 hd3 hbC)
    | (go_at_call 10; (with_reducible refine (known_any _).mono ?_); rintro e w5 ⟨rfl, hb5⟩; have hbE := Lib.hid (below_next hbD.out hb5); clear hb5 hbD)
    | (go_at_call 19; (with_reducible refine (ha1.out _).mono ?_); rintro e w' ⟨rfl, rfl⟩; rw [e1.out])
    | (go_at_call 19; (with_reducible refine (ha2.out _).mono ?_); rintro e w' ⟨rfl, rfl⟩; rw [e2.out]))
  go_ret
  exact ⟨rfl, hbE.out⟩
set_option maxHeartbeats 4000000 in
theorem apart_B (m : Md) (a b : Bool) (n k : Int) (on : Bool) (X : Md) (was : Bool) (W : World) (hg1 : GetsM m b k was true) (hp1 : PutsM m a n on X false) (hg2 : GetsM X b k was true) : Calls Try.prog 7 #[.agg (mA m), .bool a, .bool b, .int .i64 n, .int .i64 k, .bool on] W (Yes W) := by
  have hb0 := Lib.hid (below_new W (.cells (mA m) 23))
  have hd0 := Lib.hid (MB.made W m)
  replace hg1 := Lib.hid hg1
  replace hp1 := Lib.hid hp1
  replace hg2 := Lib.hid hg2
  unfold GetsM at hg1 hg2
  unfold PutsM at hp1
  go_enter Try.func7, Try.ntmps7
  go_wp2_with (first
    | (with_reducible show wpList _ _ _ (⟨some 21, .load _ (.tmp 6), _, _, _, _⟩ :: _) _ _; go_must (refine wpList_load_m rfl (.tmp 6) rfl rfl hd0.out ?_))
    | (go_at_call 11; (with_reducible refine (hg1.out _).mono ?_); rintro e w1 ⟨rfl, hb1⟩; have hd1 := Lib.hid (hd0.out.below hb1); have hbA := Lib.hid (below_next hb0.out hb1); clear hb1 hd0 hb0)
    | (with_reducible show wpList _ _ _ (⟨some 28, .load _ (.tmp 6), _, _, _, _⟩ :: _) _ _; go_must (refine wpList_load_m rfl (.tmp 6) rfl rfl hd1.out ?_))
    | (go_at_call 8; (with_reducible refine (hp1.out _).mono ?_); rintro e w2 ⟨rfl, hb2⟩; have hd2 := Lib.hid (hd1.out.below hb2); have hbB := Lib.hid (below_next hbA.out hb2); have hz2 := Lib.hid (MB.zero w2); clear hb2 hd1 hbA)
    | (with_reducible show wpList _ _ _ (⟨none, .store _ (.tmp 15) _, _, _, _, _⟩ :: _) _ _; go_must (refine wpList_store_m rfl (.tmp 15) (.tmp 33) rfl rfl rfl hz2.out ?_); intro w3 hx3 ho3; go_must (replace hx3 := Lib.hid hx3; have hbC := Lib.hid (made_store hbB.out ho3); have hd3 := Lib.hid (kept_store hd2.out ho3); clear ho3 hz2 hbB hd2))
    | (with_reducible show wpList _ _ _ (⟨some 36, .load _ (.tmp 15), _, _, _, _⟩ :: _) _ _; go_must (refine wpList_load_m rfl (.tmp 15) rfl rfl hx3.out ?_))
    | (go_at_call 11; (with_reducible refine (hg2.out _).mono ?_); rintro e w4 ⟨rfl, hb4⟩; have hx4 := Lib.hid (hx3.out.below hb4); have hd4 := Lib.hid (hd3.out.below hb4); have hbD := Lib.hid (below_next hbC.out hb4); clear hb4 hx3 hd3 hbC)
    | (go_at_call 10; (with_reducible refine (known_any _).mono ?_); rintro e w5 ⟨rfl, hb5⟩; have hbE := Lib.hid (below_next hbD.out hb5); clear hb5 hbD)
    | (go_at_call 19; (with_reducible refine (ha1.out _).mono ?_); rintro e w' ⟨rfl, rfl⟩; rw [e1.out])
    | (go_at_call 19; (with_reducible refine (ha2.out _).mono ?_); rintro e w' ⟨rfl, rfl⟩; rw [e2.out]))
  go_ret
  exact ⟨rfl, hbE.out⟩
set_option maxHeartbeats 4000000 in
theorem apart_same (m : Md) (a b : Bool) (n k : Int) (on : Bool) (X : Md) (was : Bool) (hab : (a == b) = true) (hnk : (n == k) = true) (W : World) (hg1 : GetsM m b k was true) (hp1 : PutsM m a n on X true) (hg2 : GetsM X b k on true) : Calls Try.prog 7 #[.agg (mA m), .bool a, .bool b, .int .i64 n, .int .i64 k, .bool on] W (Yes W) := by
  have hb0 := Lib.hid (below_new W (.cells (mA m) 23))
  have hd0 := Lib.hid (MB.made W m)
  replace hg1 := Lib.hid hg1
  replace hp1 := Lib.hid hp1
  replace hg2 := Lib.hid hg2
  unfold GetsM at hg1 hg2
  unfold PutsM at hp1
  go_enter Try.func7, Try.ntmps7
  go_wp2_with (first
    | (with_reducible show wpList _ _ _ (⟨some 21, .load _ (.tmp 6), _, _, _, _⟩ :: _) _ _; go_must (refine wpList_load_m rfl (.tmp 6) rfl rfl hd0.out ?_))
    | (go_at_call 11; (with_reducible refine (hg1.out _).mono ?_); rintro e w1 ⟨rfl, hb1⟩; have hd1 := Lib.hid (hd0.out.below hb1); have hbA := Lib.hid (below_next hb0.out hb1); clear hb1 hd0 hb0)
    | (with_reducible show wpList _ _ _ (⟨some 28, .load _ (.tmp 6), _, _, _, _⟩ :: _) _ _; go_must (refine wpList_load_m rfl (.tmp 6) rfl rfl hd1.out ?_))
    | (go_at_call 8; (with_reducible refine (hp1.out _).mono ?_); rintro e w2 ⟨rfl, hb2⟩; have hd2 := Lib.hid (hd1.out.below hb2); have hbB := Lib.hid (below_next hbA.out hb2); have hz2 := Lib.hid (MB.zero w2); clear hb2 hd1 hbA)
    | (with_reducible show wpList _ _ _ (⟨none, .store _ (.tmp 15) _, _, _, _, _⟩ :: _) _ _; go_must (refine wpList_store_m rfl (.tmp 15) (.tmp 33) rfl rfl rfl hz2.out ?_); intro w3 hx3 ho3; go_must (replace hx3 := Lib.hid hx3; have hbC := Lib.hid (made_store hbB.out ho3); have hd3 := Lib.hid (kept_store hd2.out ho3); clear ho3 hz2 hbB hd2))
    | (with_reducible show wpList _ _ _ (⟨some 36, .load _ (.tmp 15), _, _, _, _⟩ :: _) _ _; go_must (refine wpList_load_m rfl (.tmp 15) rfl rfl hx3.out ?_))
    | (go_at_call 11; (with_reducible refine (hg2.out _).mono ?_); rintro e w4 ⟨rfl, hb4⟩; have hx4 := Lib.hid (hx3.out.below hb4); have hd4 := Lib.hid (hd3.out.below hb4); have hbD := Lib.hid (below_next hbC.out hb4); clear hb4 hx3 hd3 hbC)
    | (go_at_call 10; (with_reducible refine (known_any _).mono ?_); rintro e w5 ⟨rfl, hb5⟩; have hbE := Lib.hid (below_next hbD.out hb5); clear hb5 hbD)
    | (go_at_call 19; (with_reducible refine (ha1.out _).mono ?_); rintro e w' ⟨rfl, rfl⟩; rw [e1.out])
    | (go_at_call 19; (with_reducible refine (ha2.out _).mono ?_); rintro e w' ⟨rfl, rfl⟩; rw [e2.out]))
  go_ret
  exact ⟨rfl, hbE.out⟩
set_option maxHeartbeats 4000000 in
theorem apart_alt (m : Md) (a b : Bool) (n k : Int) (on : Bool) (X : Md) (was : Bool) (hab : (a == b) = true) (hnk : (n == k) = false) (e1 : altF a n = true) (e2 : altF b k = true) (W : World) (hg1 : GetsM m b k was true) (hp1 : PutsM m a n on X true) (hg2 : GetsM X b k on true) : Calls Try.prog 7 #[.agg (mA m), .bool a, .bool b, .int .i64 n, .int .i64 k, .bool on] W (Yes W) := by
  have hb0 := Lib.hid (below_new W (.cells (mA m) 23))
  have hd0 := Lib.hid (MB.made W m)
  replace hg1 := Lib.hid hg1
  replace hp1 := Lib.hid hp1
  replace hg2 := Lib.hid hg2
  unfold GetsM at hg1 hg2
  unfold PutsM at hp1
  have ha1 := Lib.hid (fun w' => alt_any a n w')
  have ha2 := Lib.hid (fun w' => alt_any b k w')
  replace e1 := Lib.hid e1
  replace e2 := Lib.hid e2
  go_enter Try.func7, Try.ntmps7
  go_wp2_with (first
    | (with_reducible show wpList _ _ _ (⟨some 21, .load _ (.tmp 6), _, _, _, _⟩ :: _) _ _; go_must (refine wpList_load_m rfl (.tmp 6) rfl rfl hd0.out ?_))
    | (go_at_call 11; (with_reducible refine (hg1.out _).mono ?_); rintro e w1 ⟨rfl, hb1⟩; have hd1 := Lib.hid (hd0.out.below hb1); have hbA := Lib.hid (below_next hb0.out hb1); clear hb1 hd0 hb0)
    | (with_reducible show wpList _ _ _ (⟨some 28, .load _ (.tmp 6), _, _, _, _⟩ :: _) _ _; go_must (refine wpList_load_m rfl (.tmp 6) rfl rfl hd1.out ?_))
    | (go_at_call 8; (with_reducible refine (hp1.out _).mono ?_); rintro e w2 ⟨rfl, hb2⟩; have hd2 := Lib.hid (hd1.out.below hb2); have hbB := Lib.hid (below_next hbA.out hb2); have hz2 := Lib.hid (MB.zero w2); clear hb2 hd1 hbA)
    | (with_reducible show wpList _ _ _ (⟨none, .store _ (.tmp 15) _, _, _, _, _⟩ :: _) _ _; go_must (refine wpList_store_m rfl (.tmp 15) (.tmp 33) rfl rfl rfl hz2.out ?_); intro w3 hx3 ho3; go_must (replace hx3 := Lib.hid hx3; have hbC := Lib.hid (made_store hbB.out ho3); have hd3 := Lib.hid (kept_store hd2.out ho3); clear ho3 hz2 hbB hd2))
    | (with_reducible show wpList _ _ _ (⟨some 36, .load _ (.tmp 15), _, _, _, _⟩ :: _) _ _; go_must (refine wpList_load_m rfl (.tmp 15) rfl rfl hx3.out ?_))
    | (go_at_call 11; (with_reducible refine (hg2.out _).mono ?_); rintro e w4 ⟨rfl, hb4⟩; have hx4 := Lib.hid (hx3.out.below hb4); have hd4 := Lib.hid (hd3.out.below hb4); have hbD := Lib.hid (below_next hbC.out hb4); clear hb4 hx3 hd3 hbC)
    | (go_at_call 10; (with_reducible refine (known_any _).mono ?_); rintro e w5 ⟨rfl, hb5⟩; have hbE := Lib.hid (below_next hbD.out hb5); clear hb5 hbD)
    | (go_at_call 19; (with_reducible refine (ha1.out _).mono ?_); rintro e w' ⟨rfl, rfl⟩; rw [e1.out])
    | (go_at_call 19; (with_reducible refine (ha2.out _).mono ?_); rintro e w' ⟨rfl, rfl⟩; rw [e2.out]))
  go_ret
  exact ⟨rfl, hbE.out⟩
set_option maxHeartbeats 4000000 in
theorem apart_n0 (m : Md) (a b : Bool) (n k : Int) (on : Bool) (X : Md) (was : Bool) (hab : (a == b) = true) (hnk : (n == k) = false) (e1 : altF a n = false) (W : World) (hg1 : GetsM m b k was true) (hp1 : PutsM m a n on X true) (hg2 : GetsM X b k was true) : Calls Try.prog 7 #[.agg (mA m), .bool a, .bool b, .int .i64 n, .int .i64 k, .bool on] W (Yes W) := by
  have hb0 := Lib.hid (below_new W (.cells (mA m) 23))
  have hd0 := Lib.hid (MB.made W m)
  replace hg1 := Lib.hid hg1
  replace hp1 := Lib.hid hp1
  replace hg2 := Lib.hid hg2
  unfold GetsM at hg1 hg2
  unfold PutsM at hp1
  have ha1 := Lib.hid (fun w' => alt_any a n w')
  have ha2 := Lib.hid (fun w' => alt_any b k w')
  replace e1 := Lib.hid e1
  go_enter Try.func7, Try.ntmps7
  go_wp2_with (first
    | (with_reducible show wpList _ _ _ (⟨some 21, .load _ (.tmp 6), _, _, _, _⟩ :: _) _ _; go_must (refine wpList_load_m rfl (.tmp 6) rfl rfl hd0.out ?_))
    | (go_at_call 11; (with_reducible refine (hg1.out _).mono ?_); rintro e w1 ⟨rfl, hb1⟩; have hd1 := Lib.hid (hd0.out.below hb1); have hbA := Lib.hid (below_next hb0.out hb1); clear hb1 hd0 hb0)
    | (with_reducible show wpList _ _ _ (⟨some 28, .load _ (.tmp 6), _, _, _, _⟩ :: _) _ _; go_must (refine wpList_load_m rfl (.tmp 6) rfl rfl hd1.out ?_))
    | (go_at_call 8; (with_reducible refine (hp1.out _).mono ?_); rintro e w2 ⟨rfl, hb2⟩; have hd2 := Lib.hid (hd1.out.below hb2); have hbB := Lib.hid (below_next hbA.out hb2); have hz2 := Lib.hid (MB.zero w2); clear hb2 hd1 hbA)
    | (with_reducible show wpList _ _ _ (⟨none, .store _ (.tmp 15) _, _, _, _, _⟩ :: _) _ _; go_must (refine wpList_store_m rfl (.tmp 15) (.tmp 33) rfl rfl rfl hz2.out ?_); intro w3 hx3 ho3; go_must (replace hx3 := Lib.hid hx3; have hbC := Lib.hid (made_store hbB.out ho3); have hd3 := Lib.hid (kept_store hd2.out ho3); clear ho3 hz2 hbB hd2))
    | (with_reducible show wpList _ _ _ (⟨some 36, .load _ (.tmp 15), _, _, _, _⟩ :: _) _ _; go_must (refine wpList_load_m rfl (.tmp 15) rfl rfl hx3.out ?_))
    | (go_at_call 11; (with_reducible refine (hg2.out _).mono ?_); rintro e w4 ⟨rfl, hb4⟩; have hx4 := Lib.hid (hx3.out.below hb4); have hd4 := Lib.hid (hd3.out.below hb4); have hbD := Lib.hid (below_next hbC.out hb4); clear hb4 hx3 hd3 hbC)
    | (go_at_call 10; (with_reducible refine (known_any _).mono ?_); rintro e w5 ⟨rfl, hb5⟩; have hbE := Lib.hid (below_next hbD.out hb5); clear hb5 hbD)
    | (go_at_call 19; (with_reducible refine (ha1.out _).mono ?_); rintro e w' ⟨rfl, rfl⟩; rw [e1.out])
    | (go_at_call 19; (with_reducible refine (ha2.out _).mono ?_); rintro e w' ⟨rfl, rfl⟩; rw [e2.out]))
  go_ret
  exact ⟨rfl, hbE.out⟩
set_option maxHeartbeats 4000000 in
theorem apart_y0 (m : Md) (a b : Bool) (n k : Int) (on : Bool) (X : Md) (was : Bool) (hab : (a == b) = true) (hnk : (n == k) = false) (e1 : altF a n = true) (e2 : altF b k = false) (W : World) (hg1 : GetsM m b k was true) (hp1 : PutsM m a n on X true) (hg2 : GetsM X b k was true) : Calls Try.prog 7 #[.agg (mA m), .bool a, .bool b, .int .i64 n, .int .i64 k, .bool on] W (Yes W) := by
  have hb0 := Lib.hid (below_new W (.cells (mA m) 23))
  have hd0 := Lib.hid (MB.made W m)
  replace hg1 := Lib.hid hg1
  replace hp1 := Lib.hid hp1
  replace hg2 := Lib.hid hg2
  unfold GetsM at hg1 hg2
  unfold PutsM at hp1
  have ha1 := Lib.hid (fun w' => alt_any a n w')
  have ha2 := Lib.hid (fun w' => alt_any b k w')
  replace e1 := Lib.hid e1
  replace e2 := Lib.hid e2
  go_enter Try.func7, Try.ntmps7
  go_wp2_with (first
    | (with_reducible show wpList _ _ _ (⟨some 21, .load _ (.tmp 6), _, _, _, _⟩ :: _) _ _; go_must (refine wpList_load_m rfl (.tmp 6) rfl rfl hd0.out ?_))
    | (go_at_call 11; (with_reducible refine (hg1.out _).mono ?_); rintro e w1 ⟨rfl, hb1⟩; have hd1 := Lib.hid (hd0.out.below hb1); have hbA := Lib.hid (below_next hb0.out hb1); clear hb1 hd0 hb0)
    | (with_reducible show wpList _ _ _ (⟨some 28, .load _ (.tmp 6), _, _, _, _⟩ :: _) _ _; go_must (refine wpList_load_m rfl (.tmp 6) rfl rfl hd1.out ?_))
    | (go_at_call 8; (with_reducible refine (hp1.out _).mono ?_); rintro e w2 ⟨rfl, hb2⟩; have hd2 := Lib.hid (hd1.out.below hb2); have hbB := Lib.hid (below_next hbA.out hb2); have hz2 := Lib.hid (MB.zero w2); clear hb2 hd1 hbA)
    | (with_reducible show wpList _ _ _ (⟨none, .store _ (.tmp 15) _, _, _, _, _⟩ :: _) _ _; go_must (refine wpList_store_m rfl (.tmp 15) (.tmp 33) rfl rfl rfl hz2.out ?_); intro w3 hx3 ho3; go_must (replace hx3 := Lib.hid hx3; have hbC := Lib.hid (made_store hbB.out ho3); have hd3 := Lib.hid (kept_store hd2.out ho3); clear ho3 hz2 hbB hd2))
    | (with_reducible show wpList _ _ _ (⟨some 36, .load _ (.tmp 15), _, _, _, _⟩ :: _) _ _; go_must (refine wpList_load_m rfl (.tmp 15) rfl rfl hx3.out ?_))
    | (go_at_call 11; (with_reducible refine (hg2.out _).mono ?_); rintro e w4 ⟨rfl, hb4⟩; have hx4 := Lib.hid (hx3.out.below hb4); have hd4 := Lib.hid (hd3.out.below hb4); have hbD := Lib.hid (below_next hbC.out hb4); clear hb4 hx3 hd3 hbC)
    | (go_at_call 10; (with_reducible refine (known_any _).mono ?_); rintro e w5 ⟨rfl, hb5⟩; have hbE := Lib.hid (below_next hbD.out hb5); clear hb5 hbD)
    | (go_at_call 19; (with_reducible refine (ha1.out _).mono ?_); rintro e w' ⟨rfl, rfl⟩; rw [e1.out])
    | (go_at_call 19; (with_reducible refine (ha2.out _).mono ?_); rintro e w' ⟨rfl, rfl⟩; rw [e2.out]))
  go_ret
  exact ⟨rfl, hbE.out⟩
set_option maxHeartbeats 4000000 in
theorem apart_n1 (m : Md) (a b : Bool) (n k : Int) (on : Bool) (X : Md) (was : Bool) (hab : (a == b) = false) (e1 : altF a n = false) (W : World) (hg1 : GetsM m b k was true) (hp1 : PutsM m a n on X true) (hg2 : GetsM X b k was true) : Calls Try.prog 7 #[.agg (mA m), .bool a, .bool b, .int .i64 n, .int .i64 k, .bool on] W (Yes W) := by
  have hb0 := Lib.hid (below_new W (.cells (mA m) 23))
  have hd0 := Lib.hid (MB.made W m)
  replace hg1 := Lib.hid hg1
  replace hp1 := Lib.hid hp1
  replace hg2 := Lib.hid hg2
  unfold GetsM at hg1 hg2
  unfold PutsM at hp1
  have ha1 := Lib.hid (fun w' => alt_any a n w')
  have ha2 := Lib.hid (fun w' => alt_any b k w')
  replace e1 := Lib.hid e1
  go_enter Try.func7, Try.ntmps7
  go_wp2_with (first
    | (with_reducible show wpList _ _ _ (⟨some 21, .load _ (.tmp 6), _, _, _, _⟩ :: _) _ _; go_must (refine wpList_load_m rfl (.tmp 6) rfl rfl hd0.out ?_))
    | (go_at_call 11; (with_reducible refine (hg1.out _).mono ?_); rintro e w1 ⟨rfl, hb1⟩; have hd1 := Lib.hid (hd0.out.below hb1); have hbA := Lib.hid (below_next hb0.out hb1); clear hb1 hd0 hb0)
    | (with_reducible show wpList _ _ _ (⟨some 28, .load _ (.tmp 6), _, _, _, _⟩ :: _) _ _; go_must (refine wpList_load_m rfl (.tmp 6) rfl rfl hd1.out ?_))
    | (go_at_call 8; (with_reducible refine (hp1.out _).mono ?_); rintro e w2 ⟨rfl, hb2⟩; have hd2 := Lib.hid (hd1.out.below hb2); have hbB := Lib.hid (below_next hbA.out hb2); have hz2 := Lib.hid (MB.zero w2); clear hb2 hd1 hbA)
    | (with_reducible show wpList _ _ _ (⟨none, .store _ (.tmp 15) _, _, _, _, _⟩ :: _) _ _; go_must (refine wpList_store_m rfl (.tmp 15) (.tmp 33) rfl rfl rfl hz2.out ?_); intro w3 hx3 ho3; go_must (replace hx3 := Lib.hid hx3; have hbC := Lib.hid (made_store hbB.out ho3); have hd3 := Lib.hid (kept_store hd2.out ho3); clear ho3 hz2 hbB hd2))
    | (with_reducible show wpList _ _ _ (⟨some 36, .load _ (.tmp 15), _, _, _, _⟩ :: _) _ _; go_must (refine wpList_load_m rfl (.tmp 15) rfl rfl hx3.out ?_))
    | (go_at_call 11; (with_reducible refine (hg2.out _).mono ?_); rintro e w4 ⟨rfl, hb4⟩; have hx4 := Lib.hid (hx3.out.below hb4); have hd4 := Lib.hid (hd3.out.below hb4); have hbD := Lib.hid (below_next hbC.out hb4); clear hb4 hx3 hd3 hbC)
    | (go_at_call 10; (with_reducible refine (known_any _).mono ?_); rintro e w5 ⟨rfl, hb5⟩; have hbE := Lib.hid (below_next hbD.out hb5); clear hb5 hbD)
    | (go_at_call 19; (with_reducible refine (ha1.out _).mono ?_); rintro e w' ⟨rfl, rfl⟩; rw [e1.out])
    | (go_at_call 19; (with_reducible refine (ha2.out _).mono ?_); rintro e w' ⟨rfl, rfl⟩; rw [e2.out]))
  go_ret
  exact ⟨rfl, hbE.out⟩
set_option maxHeartbeats 4000000 in
theorem apart_y1 (m : Md) (a b : Bool) (n k : Int) (on : Bool) (X : Md) (was : Bool) (hab : (a == b) = false) (e1 : altF a n = true) (e2 : altF b k = false) (W : World) (hg1 : GetsM m b k was true) (hp1 : PutsM m a n on X true) (hg2 : GetsM X b k was true) : Calls Try.prog 7 #[.agg (mA m), .bool a, .bool b, .int .i64 n, .int .i64 k, .bool on] W (Yes W) := by
  have hb0 := Lib.hid (below_new W (.cells (mA m) 23))
  have hd0 := Lib.hid (MB.made W m)
  replace hg1 := Lib.hid hg1
  replace hp1 := Lib.hid hp1
  replace hg2 := Lib.hid hg2
  unfold GetsM at hg1 hg2
  unfold PutsM at hp1
  have ha1 := Lib.hid (fun w' => alt_any a n w')
  have ha2 := Lib.hid (fun w' => alt_any b k w')
  replace e1 := Lib.hid e1
  replace e2 := Lib.hid e2
  go_enter Try.func7, Try.ntmps7
  go_wp2_with (first
    | (with_reducible show wpList _ _ _ (⟨some 21, .load _ (.tmp 6), _, _, _, _⟩ :: _) _ _; go_must (refine wpList_load_m rfl (.tmp 6) rfl rfl hd0.out ?_))
    | (go_at_call 11; (with_reducible refine (hg1.out _).mono ?_); rintro e w1 ⟨rfl, hb1⟩; have hd1 := Lib.hid (hd0.out.below hb1); have hbA := Lib.hid (below_next hb0.out hb1); clear hb1 hd0 hb0)
    | (with_reducible show wpList _ _ _ (⟨some 28, .load _ (.tmp 6), _, _, _, _⟩ :: _) _ _; go_must (refine wpList_load_m rfl (.tmp 6) rfl rfl hd1.out ?_))
    | (go_at_call 8; (with_reducible refine (hp1.out _).mono ?_); rintro e w2 ⟨rfl, hb2⟩; have hd2 := Lib.hid (hd1.out.below hb2); have hbB := Lib.hid (below_next hbA.out hb2); have hz2 := Lib.hid (MB.zero w2); clear hb2 hd1 hbA)
    | (with_reducible show wpList _ _ _ (⟨none, .store _ (.tmp 15) _, _, _, _, _⟩ :: _) _ _; go_must (refine wpList_store_m rfl (.tmp 15) (.tmp 33) rfl rfl rfl hz2.out ?_); intro w3 hx3 ho3; go_must (replace hx3 := Lib.hid hx3; have hbC := Lib.hid (made_store hbB.out ho3); have hd3 := Lib.hid (kept_store hd2.out ho3); clear ho3 hz2 hbB hd2))
    | (with_reducible show wpList _ _ _ (⟨some 36, .load _ (.tmp 15), _, _, _, _⟩ :: _) _ _; go_must (refine wpList_load_m rfl (.tmp 15) rfl rfl hx3.out ?_))
    | (go_at_call 11; (with_reducible refine (hg2.out _).mono ?_); rintro e w4 ⟨rfl, hb4⟩; have hx4 := Lib.hid (hx3.out.below hb4); have hd4 := Lib.hid (hd3.out.below hb4); have hbD := Lib.hid (below_next hbC.out hb4); clear hb4 hx3 hd3 hbC)
    | (go_at_call 10; (with_reducible refine (known_any _).mono ?_); rintro e w5 ⟨rfl, hb5⟩; have hbE := Lib.hid (below_next hbD.out hb5); clear hb5 hbD)
    | (go_at_call 19; (with_reducible refine (ha1.out _).mono ?_); rintro e w' ⟨rfl, rfl⟩; rw [e1.out])
    | (go_at_call 19; (with_reducible refine (ha2.out _).mono ?_); rintro e w' ⟨rfl, rfl⟩; rw [e2.out]))
  go_ret
  exact ⟨rfl, hbE.out⟩

theorem apart_law (m : Md) (a b : Bool) (n : Int) (hn : (Lit.int .i64 n).wf = true) (k : Int) (hk : (Lit.int .i64 k).wf = true) (on : Bool) (W : World) : Calls Try.prog 7 #[.agg (mA m), .bool a, .bool b, .int .i64 n, .int .i64 k, .bool on] W (Yes W) := by
  have hg1 : GetsM m b k (m.has b k) (known b k) := fun w => get_any m b k hk w
  have hp1 : PutsM m a n on (m.put a n on) (known a n) := fun w => put_any m a n hn on w
  have hg2 : GetsM (m.put a n on) b k ((m.put a n on).has b k) (known b k) := fun w => get_any (m.put a n on) b k hk w
  cases h1 : known b k
  · rw [h1] at hg1 hg2
    rw [has_none h1] at hg1 hg2
    exact apart_A m a b n k on _ _ W hg1 hp1 hg2
  rw [h1] at hg1 hg2
  cases h2 : known a n
  · rw [h2] at hp1
    rw [put_none h2] at hg2 hp1
    exact apart_B m a b n k on _ _ W hg1 hp1 hg2
  rw [h2] at hp1
  have s1 : spot b k < 8 := of_decide_eq_true h1
  have s2 : spot a n < 8 := of_decide_eq_true h2
  by_cases hs : spot a n = spot b k
  · have e : (m.put a n on).has b k = on := by
      unfold Md.has Md.put
      rw [← hs]
      exact get_set m s2 on
    rw [e] at hg2
    by_cases hab : a = b ∧ n = k
    · exact apart_same m a b n k on _ _ (by simp [hab.1]) (by simp [hab.2]) W hg1 hp1 hg2
    · have h6 : spot a n = 6 := by
        by_cases h6 : spot a n = 6
        · exact h6
        · exact absurd (spot_same hs s2 h6) hab
      have e1 : altF a n = true := decide_eq_true h6
      have e2 : altF b k = true := decide_eq_true (hs ▸ h6)
      have ea : a = true := by
        cases a
        · rw [alt_no] at e1
          cases e1
        · rfl
      have eb : b = true := by
        cases b
        · rw [alt_no] at e2
          cases e2
        · rfl
      have hnk : n ≠ k := fun h => hab ⟨by rw [ea, eb], h⟩
      exact apart_alt m a b n k on _ _ (by rw [ea, eb]; rfl) (by simpa using hnk) e1 e2 W hg1 hp1 hg2
  · have e : (m.put a n on).has b k = m.has b k := get_other m (spot_le a n) (spot_le b k) (Ne.symm hs) on
    rw [e] at hg2
    cases e1 : altF a n
    · cases hab : (a == b)
      · exact apart_n1 m a b n k on _ _ hab e1 W hg1 hp1 hg2
      · have hnk : (n == k) = false := by
          cases hc : (n == k)
          · rfl
          · have c1 : a = b := by simpa using hab
            have c2 : n = k := by simpa using hc
            rw [c1, c2] at hs
            exact absurd rfl hs
        exact apart_n0 m a b n k on _ _ hab hnk e1 W hg1 hp1 hg2
    · have e2 : altF b k = false := by
        have c1 : spot a n = 6 := of_decide_eq_true e1
        exact decide_eq_false fun h => hs (by rw [c1, h])
      cases hab : (a == b)
      · exact apart_y1 m a b n k on _ _ hab e1 e2 W hg1 hp1 hg2
      · have hnk : (n == k) = false := by
          cases hc : (n == k)
          · rfl
          · have c1 : a = b := by simpa using hab
            have c2 : n = k := by simpa using hc
            rw [c1, c2] at hs
            exact absurd rfl hs
        exact apart_y0 m a b n k on _ _ hab hnk e1 e2 W hg1 hp1 hg2

end Go.Proofs.Ytnammlihpjjdoaa.Mds
