/-
  screen: made, ids, alike; what the store is asked. screen: where an id stands.
-/
import Derived.Test.YtaoegfdaemmogaaNNew
import Derived.Test.YtaoegfdaemmogaaRBld2
namespace Go.Proofs.Ytaoegfdaemmogaa.Scn
open Go Go.RowKit Go.Proofs.Ytaoegfdaemmogaa.Com Go.Proofs.Ytaoegfdaemmogaa.Rw Go.Proofs.Ytaoegfdaemmogaa.Lns
section
variable {B : Nat} {w w' : World} {x s nx most : Nat} {sv : Value} {R : List En} {S : Scr}
theorem len_sc (h : SC B w x s S) : Calls Try.prog 26 #[.pointer (some ⟨s, 0, none⟩)] w fun e w' => e = .returned (.int .i64 S.R.length) ∧ w = w' := by
  obtain ⟨sv, lv, L, R, h1, h2, h3⟩ := h
  have := slen_any h1.ln.st
  rw [← vw_len R, h3] at this
  exact this
theorem nx_sc (h : SC B w x s S) : Calls Try.prog 12 #[.pointer (some ⟨s, 0, none⟩)] w fun e w' => e = .returned (.int .i64 S.nx) ∧ w = w' := by
  obtain ⟨sv, lv, L, R, h1, h2, h3⟩ := h
  exact next_any h1.ln.st
theorem stfind_sc (h : SC B w x s S) (id : Int) : Calls Try.prog 19 #[.pointer (some ⟨s, 0, none⟩), .int .i64 id] w fun e w' => e = .returned (.int .i64 (findF (idsL S.R) id)) ∧ Below w.heap.size w w' := by
  obtain ⟨sv, lv, L, R, h1, h2, h3⟩ := h
  have := find_any h1.ln.st id
  have e1 : R.map En.id = idsL S.R := by rw [← h3]; simp [idsL, vw]
  rw [e1] at this
  exact this
/-- made, of numbers that may be. -/
def MadeYes (w : World) (rows cols most : Nat) (kp : Bool) (e : Ending) (w' : World) : Prop :=
  ∃ x s, e = .returned (.tuple #[.pointer (some ⟨x, 0, none⟩), .pointer (some ⟨s, 0, none⟩), .bool true]) ∧ SC w.heap.size w' x s (newS 1 most rows cols kp []) ∧ Below w.heap.size w w'
set_option maxHeartbeats 1000000 in
theorem made_yes (rows cols most : Nat) (kp : Bool) (hr1 : 1 ≤ rows) (hr5 : rows ≤ 512) (hc1 : 1 ≤ cols) (hc5 : cols ≤ 512) (hm : most ≤ 10000) (w : World) :
    Calls Try.prog 8 #[.int .i64 rows, .int .i64 cols, .int .i64 most, .bool kp] w (MadeYes w rows cols most kp) := by
  have h1 := Lib.hid (Lns.new_yes most hm w)
  have h2 := Lib.hid (fun w1 (h : SX w.heap.size w1 w.heap.size 1 most (.slice none 0 0) []) => snew_yes h (by simp) (by simp) rows cols kp hr1 hr5 hc1 hc5 (by omega))
  clear hr1 hr5 hc1 hc5 hm
  go_enter Try.func8, Try.ntmps8
  go_wp2_with (first
    | (go_at_call 32; (with_reducible refine h1.out.mono ?_); rintro e w1 ⟨rfl, hsx, hb1⟩)
    | (go_at_call 29; (with_reducible refine (h2.out _ hsx).mono ?_); rintro e w2 ⟨rfl, hsc, hf2⟩))
  have hres := Lib.hid (And.intro hsc (hb1.trans ((hf2.below hb1.size).mono (Nat.le_refl _))))
  go_ret3
  exact ⟨_, _, rfl, hres.out⟩
/-- made, of numbers that may not be. -/
def MadeNo (w : World) (e : Ending) (w' : World) : Prop := ∃ q, e = .returned (.tuple #[.pointer none, .pointer q, .bool false]) ∧ Below w.heap.size w w'
set_option maxHeartbeats 1000000 in
theorem made_no (rows cols most : Int) (kp : Bool) (hno : ¬ ((1 ≤ rows ∧ rows ≤ 512) ∧ (1 ≤ cols ∧ cols ≤ 512) ∧ 0 ≤ most ∧ most ≤ 10000)) (w : World) :
    Calls Try.prog 8 #[.int .i64 rows, .int .i64 cols, .int .i64 most, .bool kp] w (MadeNo w) := by
  by_cases hm : 0 ≤ most ∧ most ≤ 10000
  · obtain ⟨m, rfl⟩ : ∃ m : Nat, most = m := ⟨most.toNat, by omega⟩
    have h1 := Lib.hid (Lns.new_yes m (by omega) w)
    have h2 := Lib.hid (fun w1 p => snew_no rows cols p kp w1 (by
      by_cases q1 : 1 ≤ rows ∧ rows ≤ 512
      · exact .inr (.inl fun q2 => hno ⟨q1, q2, hm⟩)
      · exact .inl q1))
    clear hno hm
    go_enter Try.func8, Try.ntmps8
    go_wp2_with (first
      | (go_at_call 32; (with_reducible refine h1.out.mono ?_); rintro e w1 ⟨rfl, hsx, hb1⟩)
      | (go_at_call 29; (with_reducible refine (h2.out _ _).mono ?_); rintro e w2 ⟨rfl, rfl⟩))
    go_ret3
    exact ⟨_, rfl, hb1⟩
  · have h1 := Lib.hid (Lns.new_no most (by omega) w)
    clear hno hm
    go_enter Try.func8, Try.ntmps8
    go_wp2_with (first
      | (go_at_call 32; (with_reducible refine h1.out.mono ?_); rintro e w1 ⟨rfl, rfl⟩))
    go_ret3
    exact ⟨_, rfl, Below.refl _ _⟩
/-- ids: a slice of its own, with the ids. -/
def IdsDone (w : World) (l : List Int) (e : Ending) (w' : World) : Prop := ∃ v, e = .returned v ∧ Own w' w.heap.size 3 .i64 v l ∧ Below w.heap.size w w'
set_option maxRecDepth 100000 in
set_option maxHeartbeats 1000000 in
theorem ids_sc (h : SC B w x s S) (hF : Fit S) : Calls Try.prog 11 #[.pointer (some ⟨x, 0, none⟩)] w (IdsDone w (idsL S.L)) := by
  have hr := Lib.hid (rows_sc h hF.len)
  have hl5 := hF.len5
  have hids := fun w1 (hb : Below w.heap.size w w1) i => id_sc (h.below hb) hF.len i
  have hil : (idsL S.L).length = S.L.length := by simp [idsL]
  have hia : ∀ j (hj : j < S.L.length), idAt S.L j = (idsL S.L)[j]'(by rw [hil]; exact hj) := fun j hj => by rw [idAt_in hj]; simp [idsL]
  generalize idsL S.L = I at hil hia ⊢
  obtain ⟨n, hn⟩ : ∃ n, S.L.length = n := ⟨_, rfl⟩
  rw [hn] at hr hl5 hil
  replace hids := Lib.hid hids
  replace hia := Lib.hid hia
  replace hil := Lib.hid hil
  replace hn := Lib.hid hn
  clear h hF
  go_enter Try.func11, Try.ntmps11
  go_wp2_with ((go_at_call 30; (with_reducible refine (hr.out).mono ?_); rintro e w' ⟨rfl, rfl⟩))
  go_loopw [3, 7] (fun v iv wr => ∃ j : Nat, j ≤ n ∧ iv = .int .i64 j ∧ Hid (Own wr w.heap.size 3 .i64 v (I.take j) ∧ Below w.heap.size w wr) ∧ ∃ ao m c, v = .slice ao m c) (fun _ iv _ => n - (intOf iv).toNat)
  case atStart => exact ⟨0, Nat.zero_le _, rfl, Lib.hid ⟨Own.nil _ _ _ _, Below.refl _ _⟩, none, 0, 0, rfl⟩
  case round =>
    obtain ⟨j, hj, rfl, hR, ao, mm, cc, rfl⟩ := hrel
    obtain ⟨hO, hB⟩ := hR.out
    by_cases hlt : j < n
    · have hjI : (j : Int) < (n : Int) := by omega
      have hjL : j < I.length := by rw [hil.out]; exact hlt
      have hid := hids.out wr hB j
      rw [hia.out j (by rw [hn.out]; exact hlt)] at hid
      have htk := take_snoc hjL
      have hln : (I.take j).length = j := by rw [List.length_take]; omega
      generalize I[j] = y at hid htk
      generalize I.take j = T at hO hln htk
      replace hid := Lib.hid hid
      replace htk := Lib.hid htk
      replace hln := Lib.hid hln
      have hBl := hB.size
      have hO2 := hO.alloc (.cells #[.int .i64 y] 3)
      replace hO2 := Lib.hid hO2
      have hB' := Lib.hid hB
      have hO' := Lib.hid hO
      clear hB hO
      go_wp2_with (first
        | (go_at_call 31; (with_reducible refine (hid.out).mono ?_); rintro e w' ⟨rfl, rfl⟩)
        | (with_reducible show wpList _ _ _ (⟨some 15, .call _, _, _, _, _⟩ :: _) _ _; go_must (refine wpList_app elemW rfl (.tmp 10) (.tmp 14) rfl w.heap.size (.slice ao mm cc) T [y] (some ⟨wr.heap.size, 0, none⟩) (wr.heap.size + 1) 1 rfl rfl hO2.out (Nums.one _ _ _ _) (by simp; omega) (by have := hln.out; simp; omega) (by have := hln.out; simp [maxLen]; omega) ?_); intro v1 w4 hw1 ho4 _; obtain ⟨a1, m1, c1, rfl⟩ := own_slice hw1))
      have hres := Lib.hid (⟨by rw [htk.out]; exact hw1, below_app hB'.out hO'.out hB'.out.size _ ho4⟩ : Own w4 w.heap.size 3 .i64 (.slice a1 m1 c1) (I.take (j + 1)) ∧ Below w.heap.size w w4)
      clear hw1 ho4
      go_roundw
      case rel => exact ⟨j + 1, by omega, by go_num, hres, _, _, _, rfl⟩
      case measure => simp [intOf]; omega
    · obtain rfl : j = n := by omega
      have hres := Lib.hid (And.intro hO hB)
      clear hO hB
      go_wp2
      go_ret
      refine ⟨_, rfl, ?_, hres.out.2⟩
      have := hres.out.1
      rwa [List.take_of_length_le (by rw [hil.out]; omega)] at this
set_option maxRecDepth 100000 in
set_option maxHeartbeats 1000000 in
theorem alike_any {B1 B2 : Nat} {a1 a2 : Option Addr} {c1 c2 : Nat} {l m : List Int} (w : World) (h1 : Nums w B1 .i64 a1 l) (h2 : Nums w B2 .i64 a2 m) (hB1 : B1 ≤ w.heap.size) (hB2 : B2 ≤ w.heap.size) (hl : l.length ≤ 100000) : Calls Try.prog 25 #[.slice a1 l.length c1, .slice a2 m.length c2] w fun e w' => e = .returned (.bool (decide (l = m))) ∧ Below w.heap.size w w' := by
  by_cases hlm : l.length = m.length
  · have hn1 := fun w1 (hb : Below w.heap.size w w1) => h1.below hb hB1
    have hn2 := fun w1 (hb : Below w.heap.size w w1) => h2.below hb hB2
    rw [← hlm]
    obtain ⟨n, hn⟩ : ∃ n, l.length = n := ⟨_, rfl⟩
    rw [hn] at hlm hl ⊢
    replace hn1 := Lib.hid hn1
    replace hn2 := Lib.hid hn2
    replace hn := Lib.hid hn
    replace hlm := Lib.hid hlm
    clear h1 h2
    go_enter Try.func25, Try.ntmps25
    go_wp2
    go_loopw [13] (fun iv wr => ∃ j : Nat, j ≤ n ∧ iv = .int .i64 j ∧ Hid (Below w.heap.size w wr ∧ l.take j = m.take j)) (fun iv _ => n - (intOf iv).toNat)
    case atStart => exact ⟨0, Nat.zero_le _, rfl, Lib.hid ⟨Below.refl _ _, rfl⟩⟩
    case round =>
      obtain ⟨j, hj, rfl, hR⟩ := hrel
      obtain ⟨hB, hT⟩ := hR.out
      by_cases hlt : j < n
      · have hjI : (j : Int) < (n : Int) := by omega
        have hj1 : j < l.length := by rw [hn.out]; exact hlt
        have hj2 : j < m.length := by rw [← hlm.out]; exact hlt
        obtain ⟨d1, rfl, _, q1⟩ := (hn1.out wr hB).at hj1
        obtain ⟨d2, rfl, _, q2⟩ := (hn2.out wr hB).at hj2
        have t1 := take_snoc hj1
        have t2 := take_snoc hj2
        by_cases he : l[j] = m[j]
        · have hres := Lib.hid (fun w1 (hb : Below wr.heap.size wr w1) => (⟨below_next hB hb, by rw [t1, t2, hT, he]⟩ : Below w.heap.size w w1 ∧ l.take (j + 1) = m.take (j + 1)))
          rw [he] at q1
          generalize m[j] = y at q1 q2
          clear hB hT t1 t2 he hR
          go_wp2
          go_quiet (fail)
          go_wp2
          go_roundw
          case rel => exact ⟨j + 1, by omega, by go_num, Lib.hid (hres.out _ (below_dr (Below.refl _ _) _))⟩
          case measure => simp [intOf]; omega
        · have hres := Lib.hid (fun w1 (hb : Below wr.heap.size wr w1) => (⟨(decide_eq_false (fun hh => he (by subst hh; rfl))).symm, below_next hB hb⟩ : false = decide (l = m) ∧ Below w.heap.size w w1))
          have he' : (l[j] == m[j]) = false := beq_eq_false_iff_ne.2 he
          generalize l[j] = y1 at q1 he' he
          generalize m[j] = y2 at q2 he' he
          clear hB hT t1 t2 he hR
          go_wp2
          go_quiet (fail)
          go_wp2
          go_ret
          exact ⟨ret_bool (hres.out wr (Below.refl _ _)).1, (hres.out _ (below_dr (Below.refl _ _) _)).2⟩
      · obtain rfl : j = n := by omega
        have hres := Lib.hid (⟨by
          rw [List.take_of_length_le (by rw [hn.out]; omega), List.take_of_length_le (by rw [← hlm.out]; omega)] at hT
          exact (decide_eq_true hT).symm, hB⟩ : true = decide (l = m) ∧ Below w.heap.size w wr)
        clear hT hB hR
        go_wp2
        go_ret
        exact ⟨ret_bool hres.out.1, hres.out.2⟩
  · have hd : decide (l = m) = false := decide_eq_false (fun h => hlm (by rw [h]))
    rw [hd]
    have hne : ((l.length : Int) == (m.length : Int)) = false := beq_eq_false_iff_ne.2 (by omega)
    generalize l.length = n1 at hne ⊢
    generalize m.length = n2 at hne ⊢
    clear h1 h2 hlm hd hl
    go_enter Try.func25, Try.ntmps25
    go_wp2
    go_ret
    exact ⟨rfl, Below.refl _ _⟩
end
end Go.Proofs.Ytaoegfdaemmogaa.Scn
namespace Go.Proofs.Ytaoegfdaemmogaa.Scn
open Go Go.RowKit Go.Proofs.Ytaoegfdaemmogaa.Com Go.Proofs.Ytaoegfdaemmogaa.Rw Go.Proofs.Ytaoegfdaemmogaa.Lns
set_option maxRecDepth 100000 in
set_option maxHeartbeats 2000000 in
theorem place_any {B1 : Nat} {a1 : Option Addr} {c1 : Nat} {l : List Int} (w : World) (h1 : Nums w B1 .i64 a1 l) (hl : l.length ≤ 100000) (y : Int) : Calls Try.prog 20 #[.slice a1 l.length c1, .int .i64 y] w fun e w' => e = .returned (.int .i64 (firstF l y)) ∧ w' = w := by
  obtain ⟨n, hn⟩ : ∃ n, l.length = n := ⟨_, rfl⟩
  rw [hn] at hl ⊢
  have hn1 := fun j (hj : j < l.length) => h1.at hj
  have hno := fun (h : ∀ i (hi : i < l.length), l[i] ≠ y) => first_none h
  have hat := fun k (hk : k < l.length) he h => first_at (L := l) (y := y) (k := k) hk he h
  generalize firstF l y = z at hno hat ⊢
  replace hno := Lib.hid hno
  replace hat := Lib.hid hat
  replace hn1 := Lib.hid hn1
  replace hn := Lib.hid hn
  clear h1
  go_enter Try.func20, Try.ntmps20
  go_wp2
  go_loopw [8] (fun iv wr => ∃ j : Nat, j ≤ n ∧ iv = .int .i64 j ∧ Hid (∀ i (hi : i < l.length), i < j → l[i] ≠ y) ∧ Hid (wr = w)) (fun iv _ => n - (intOf iv).toNat)
  case atStart => exact ⟨0, Nat.zero_le _, rfl, Lib.hid (fun i hi h => absurd h (Nat.not_lt_zero _)), Lib.hid rfl⟩
  case round =>
    obtain ⟨j, hj, rfl, hR, hW⟩ := hrel
    by_cases hlt : j < n
    · have hjI : (j : Int) < (n : Int) := by omega
      have hj1 : j < l.length := by rw [hn.out]; exact hlt
      obtain ⟨d1, rfl, _, q1⟩ := hn1.out j hj1
      have hW2 := hW.out
      subst hW2
      by_cases he : l[j] = y
      · have hz := Lib.hid (hat.out j hj1 he (fun i hi => hR.out i (by omega) hi))
        have hb : (l[j] == y) = true := by simp [he]
        generalize l[j] = u at q1 hb
        clear he hR
        go_wp2
        go_ret
        exact ⟨ret_int hz.out.symm, rfl⟩
      · have hR2 : Hid (∀ i (hi : i < l.length), i < j + 1 → l[i] ≠ y) := Lib.hid (fun i hi h => by
          rcases Nat.lt_or_ge i j with h2 | h2
          · exact hR.out i hi h2
          · obtain rfl : i = j := by omega
            exact he)
        have hb : (l[j] == y) = false := by simp [he]
        generalize l[j] = u at q1 hb
        clear he hR
        go_wp2
        go_roundw
        case rel => exact ⟨j + 1, by omega, by go_num, hR2, (by first | exact Lib.hid rfl | exact Lib.hid trivial)⟩
        case measure => simp [intOf]; omega
    · obtain rfl : j = n := by omega
      have hz := Lib.hid (hno.out (fun i hi => hR.out i hi (by rw [← hn.out]; exact hi)))
      have hW2 := hW.out
      subst hW2
      go_wp2
      go_ret
      exact ⟨ret_int hz.out.symm, rfl⟩
end Go.Proofs.Ytaoegfdaemmogaa.Scn
