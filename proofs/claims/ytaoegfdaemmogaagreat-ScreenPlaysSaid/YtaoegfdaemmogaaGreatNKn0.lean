/-
  screen: made, ids, alike; what the store is asked. screen: known.
-/
import Derived.Test.YtaoegfdaemmogaaGreatNNew
import Derived.Test.YtaoegfdaemmogaaGreatRBld2
namespace Go.Proofs.YtaoegfdaemmogaaGreat.Scn
open Go Go.RowKit Go.Proofs.YtaoegfdaemmogaaGreat.Com Go.Proofs.YtaoegfdaemmogaaGreat.Rw Go.Proofs.YtaoegfdaemmogaaGreat.Lns
section
variable {B : Nat} {w w' : World} {x s nx most : Nat} {sv : Value} {R : List En} {S : Scr}
theorem len_sc (h : SC B w x s S) : Calls Tryz.prog 16 #[.pointer (some ⟨s, 0, none⟩)] w fun e w' => e = .returned (.int .i64 S.R.length) ∧ w = w' := by
  obtain ⟨sv, lv, L, R, h1, h2, h3⟩ := h
  have := slen_any h1.ln.st
  rw [← vw_len R, h3] at this
  exact this
theorem nx_sc (h : SC B w x s S) : Calls Tryz.prog 43 #[.pointer (some ⟨s, 0, none⟩)] w fun e w' => e = .returned (.int .i64 S.nx) ∧ w = w' := by
  obtain ⟨sv, lv, L, R, h1, h2, h3⟩ := h
  exact next_any h1.ln.st
theorem stfind_sc (h : SC B w x s S) (id : Int) : Calls Tryz.prog 17 #[.pointer (some ⟨s, 0, none⟩), .int .i64 id] w fun e w' => e = .returned (.int .i64 (findF (idsL S.R) id)) ∧ Below w.heap.size w w' := by
  obtain ⟨sv, lv, L, R, h1, h2, h3⟩ := h
  have := find_any h1.ln.st id
  have e1 : R.map En.id = idsL S.R := by rw [← h3]; simp [idsL, vw]
  rw [e1] at this
  exact this
/-- made, of numbers that may be. -/
def MadeYes (w : World) (rows cols most : Nat) (kp : Bool) (e : Ending) (w' : World) : Prop :=
  ∃ x s, e = .returned (.tuple #[.pointer (some ⟨x, 0, none⟩), .pointer (some ⟨s, 0, none⟩), .bool true]) ∧ SC w.heap.size w' x s (newS 1 most rows cols kp []) ∧ Below w.heap.size w w'
set_option maxHeartbeats 1000000 in
theorem made_yes (rows cols most : Nat) (kp : Bool) (hr1 : 1 ≤ rows) (hr5 : rows ≤ 512) (hc1 : 1 ≤ cols) (hc5 : cols ≤ 512) (hm : most ≤ 10000) (w : World) :
    Calls Tryz.prog 6 #[.int .i64 rows, .int .i64 cols, .int .i64 most, .bool kp] w (MadeYes w rows cols most kp) := by
  have h1 := Lib.hid (Lns.new_yes most hm w)
  have h2 := Lib.hid (fun w1 (h : SX w.heap.size w1 w.heap.size 1 most (.slice none 0 0) []) => snew_yes h (by simp) (by simp) rows cols kp hr1 hr5 hc1 hc5 (by omega))
  clear hr1 hr5 hc1 hc5 hm
  go_enter Tryz.func6, Tryz.ntmps6
  go_wp2_with (first
    | (go_at_call 22; (with_reducible refine h1.out.mono ?_); rintro e w1 ⟨rfl, hsx, hb1⟩)
    | (go_at_call 23; (with_reducible refine (h2.out _ hsx).mono ?_); rintro e w2 ⟨rfl, hsc, hf2⟩))
  have hres := Lib.hid (And.intro hsc (hb1.trans ((hf2.below hb1.size).mono (Nat.le_refl _))))
  go_ret3
  exact ⟨_, _, rfl, hres.out⟩
/-- made, of numbers that may not be. -/
def MadeNo (w : World) (e : Ending) (w' : World) : Prop := ∃ q, e = .returned (.tuple #[.pointer none, .pointer q, .bool false]) ∧ Below w.heap.size w w'
set_option maxHeartbeats 1000000 in
theorem made_no (rows cols most : Int) (kp : Bool) (hno : ¬ ((1 ≤ rows ∧ rows ≤ 512) ∧ (1 ≤ cols ∧ cols ≤ 512) ∧ 0 ≤ most ∧ most ≤ 10000)) (w : World) :
    Calls Tryz.prog 6 #[.int .i64 rows, .int .i64 cols, .int .i64 most, .bool kp] w (MadeNo w) := by
  by_cases hm : 0 ≤ most ∧ most ≤ 10000
  · obtain ⟨m, rfl⟩ : ∃ m : Nat, most = m := ⟨most.toNat, by omega⟩
    have h1 := Lib.hid (Lns.new_yes m (by omega) w)
    have h2 := Lib.hid (fun w1 p => snew_no rows cols p kp w1 (by
      by_cases q1 : 1 ≤ rows ∧ rows ≤ 512
      · exact .inr (.inl fun q2 => hno ⟨q1, q2, hm⟩)
      · exact .inl q1))
    clear hno hm
    go_enter Tryz.func6, Tryz.ntmps6
    go_wp2_with (first
      | (go_at_call 22; (with_reducible refine h1.out.mono ?_); rintro e w1 ⟨rfl, hsx, hb1⟩)
      | (go_at_call 23; (with_reducible refine (h2.out _ _).mono ?_); rintro e w2 ⟨rfl, rfl⟩))
    go_ret3
    exact ⟨_, rfl, hb1⟩
  · have h1 := Lib.hid (Lns.new_no most (by omega) w)
    clear hno hm
    go_enter Tryz.func6, Tryz.ntmps6
    go_wp2_with (first
      | (go_at_call 22; (with_reducible refine h1.out.mono ?_); rintro e w1 ⟨rfl, rfl⟩))
    go_ret3
    exact ⟨_, rfl, Below.refl _ _⟩
/-- ids: a slice of its own, with the ids. -/
def IdsDone (w : World) (l : List Int) (e : Ending) (w' : World) : Prop := ∃ v, e = .returned v ∧ Own w' w.heap.size 3 .i64 v l ∧ Below w.heap.size w w'
set_option maxRecDepth 100000 in
set_option maxHeartbeats 1000000 in
theorem ids_sc (h : SC B w x s S) (hF : Fit S) : Calls Tryz.prog 15 #[.pointer (some ⟨x, 0, none⟩)] w (IdsDone w (idsL S.L)) := by
  have hr := Lib.hid (rows_sc h hF.len)
  have hl5 := hF.len5
  have hids := fun w1 (hb : Below w.heap.size w w1) i => id_sc (h.below hb) hF.len i
  have hil : (idsL S.L).length = S.L.length := by simp [idsL]
  have hia : ∀ j (hj : j < S.L.length), idAt S.L j = (idsL S.L)[j]'(by rw [hil]; exact hj) := fun j hj => by rw [idAt_in hj]; simp [idsL]
  generalize idsL S.L = I at hil hia ⊢
  obtain ⟨n, hn⟩ : ∃ n, S.L.length = n := ⟨_, rfl⟩
  rw [hn] at hr hl5 hil
  replace hids := Lib.hid hids
  replace hia := Lib.hid hia
  replace hil := Lib.hid hil
  replace hn := Lib.hid hn
  clear h hF
  go_enter Tryz.func15, Tryz.ntmps15
  go_wp2_with ((go_at_call 36; (with_reducible refine (hr.out).mono ?_); rintro e w' ⟨rfl, rfl⟩))
  go_loopw [3, 7] (fun v iv wr => ∃ j : Nat, j ≤ n ∧ iv = .int .i64 j ∧ Hid (Own wr w.heap.size 3 .i64 v (I.take j) ∧ Below w.heap.size w wr) ∧ ∃ ao m c, v = .slice ao m c) (fun _ iv _ => n - (intOf iv).toNat)
  case atStart => exact ⟨0, Nat.zero_le _, rfl, Lib.hid ⟨Own.nil _ _ _ _, Below.refl _ _⟩, none, 0, 0, rfl⟩
  case round =>
    obtain ⟨j, hj, rfl, hR, ao, mm, cc, rfl⟩ := hrel
    obtain ⟨hO, hB⟩ := hR.out
    by_cases hlt : j < n
    · have hjI : (j : Int) < (n : Int) := by omega
      have hjL : j < I.length := by rw [hil.out]; exact hlt
      have hid := hids.out wr hB j
      rw [hia.out j (by rw [hn.out]; exact hlt)] at hid
      have htk := take_snoc hjL
      have hln : (I.take j).length = j := by rw [List.length_take]; omega
      generalize I[j] = y at hid htk
      generalize I.take j = T at hO hln htk
      replace hid := Lib.hid hid
      replace htk := Lib.hid htk
      replace hln := Lib.hid hln
      have hBl := hB.size
      have hO2 := hO.alloc (.cells #[.int .i64 y] 3)
      replace hO2 := Lib.hid hO2
      have hB' := Lib.hid hB
      have hO' := Lib.hid hO
      clear hB hO
      go_wp2_with (first
        | (go_at_call 40; (with_reducible refine (hid.out).mono ?_); rintro e w' ⟨rfl, rfl⟩)
        | (with_reducible show wpList _ _ _ (⟨some 15, .call _, _, _, _, _⟩ :: _) _ _; go_must (refine wpList_app elemW rfl (.tmp 10) (.tmp 14) rfl w.heap.size (.slice ao mm cc) T [y] (some ⟨wr.heap.size, 0, none⟩) (wr.heap.size + 1) 1 rfl rfl hO2.out (Nums.one _ _ _ _) (by simp; omega) (by have := hln.out; simp; omega) (by have := hln.out; simp [maxLen]; omega) ?_); intro v1 w4 hw1 ho4 _; obtain ⟨a1, m1, c1, rfl⟩ := own_slice hw1))
      have hres := Lib.hid (⟨by rw [htk.out]; exact hw1, below_app hB'.out hO'.out hB'.out.size _ ho4⟩ : Own w4 w.heap.size 3 .i64 (.slice a1 m1 c1) (I.take (j + 1)) ∧ Below w.heap.size w w4)
      clear hw1 ho4
      go_roundw
      case rel => exact ⟨j + 1, by omega, by go_num, hres, _, _, _, rfl⟩
      case measure => simp [intOf]; omega
    · obtain rfl : j = n := by omega
      have hres := Lib.hid (And.intro hO hB)
      clear hO hB
      go_wp2
      go_ret
      refine ⟨_, rfl, ?_, hres.out.2⟩
      have := hres.out.1
      rwa [List.take_of_length_le (by rw [hil.out]; omega)] at this
set_option maxRecDepth 100000 in
set_option maxHeartbeats 1000000 in
theorem alike_any {B1 B2 : Nat} {a1 a2 : Option Addr} {c1 c2 : Nat} {l m : List Int} (w : World) (h1 : Nums w B1 .i64 a1 l) (h2 : Nums w B2 .i64 a2 m) (hB1 : B1 ≤ w.heap.size) (hB2 : B2 ≤ w.heap.size) (hl : l.length ≤ 100000) : Calls Tryz.prog 14 #[.slice a1 l.length c1, .slice a2 m.length c2] w fun e w' => e = .returned (.bool (decide (l = m))) ∧ Below w.heap.size w w' := by
  by_cases hlm : l.length = m.length
  · have hn1 := fun w1 (hb : Below w.heap.size w w1) => h1.below hb hB1
    have hn2 := fun w1 (hb : Below w.heap.size w w1) => h2.below hb hB2
    rw [← hlm]
    obtain ⟨n, hn⟩ : ∃ n, l.length = n := ⟨_, rfl⟩
    rw [hn] at hlm hl ⊢
    replace hn1 := Lib.hid hn1
    replace hn2 := Lib.hid hn2
    replace hn := Lib.hid hn
    replace hlm := Lib.hid hlm
    clear h1 h2
    go_enter Tryz.func14, Tryz.ntmps14
    go_wp2
    go_loopw [13] (fun iv wr => ∃ j : Nat, j ≤ n ∧ iv = .int .i64 j ∧ Hid (Below w.heap.size w wr ∧ l.take j = m.take j)) (fun iv _ => n - (intOf iv).toNat)
    case atStart => exact ⟨0, Nat.zero_le _, rfl, Lib.hid ⟨Below.refl _ _, rfl⟩⟩
    case round =>
      obtain ⟨j, hj, rfl, hR⟩ := hrel
      obtain ⟨hB, hT⟩ := hR.out
      by_cases hlt : j < n
      · have hjI : (j : Int) < (n : Int) := by omega
        have hj1 : j < l.length := by rw [hn.out]; exact hlt
        have hj2 : j < m.length := by rw [← hlm.out]; exact hlt
        obtain ⟨d1, rfl, _, q1⟩ := (hn1.out wr hB).at hj1
        obtain ⟨d2, rfl, _, q2⟩ := (hn2.out wr hB).at hj2
        have t1 := take_snoc hj1
        have t2 := take_snoc hj2
        by_cases he : l[j] = m[j]
        · have hres := Lib.hid (fun w1 (hb : Below wr.heap.size wr w1) => (⟨below_next hB hb, by rw [t1, t2, hT, he]⟩ : Below w.heap.size w w1 ∧ l.take (j + 1) = m.take (j + 1)))
          rw [he] at q1
          generalize m[j] = y at q1 q2
          clear hB hT t1 t2 he hR
          go_wp2
          go_quiet (fail)
          go_wp2
          go_roundw
          case rel => exact ⟨j + 1, by omega, by go_num, Lib.hid (hres.out _ (below_dr (Below.refl _ _) _))⟩
          case measure => simp [intOf]; omega
        · have hres := Lib.hid (fun w1 (hb : Below wr.heap.size wr w1) => (⟨(decide_eq_false (fun hh => he (by subst hh; rfl))).symm, below_next hB hb⟩ : false = decide (l = m) ∧ Below w.heap.size w w1))
          have he' : (l[j] == m[j]) = false := beq_eq_false_iff_ne.2 he
          generalize l[j] = y1 at q1 he' he
          generalize m[j] = y2 at q2 he' he
          clear hB hT t1 t2 he hR
          go_wp2
          go_quiet (fail)
          go_wp2
          go_ret
          exact ⟨ret_bool (hres.out wr (Below.refl _ _)).1, (hres.out _ (below_dr (Below.refl _ _) _)).2⟩
      · obtain rfl : j = n := by omega
        have hres := Lib.hid (⟨by
          rw [List.take_of_length_le (by rw [hn.out]; omega), List.take_of_length_le (by rw [← hlm.out]; omega)] at hT
          exact (decide_eq_true hT).symm, hB⟩ : true = decide (l = m) ∧ Below w.heap.size w wr)
        clear hT hB hR
        go_wp2
        go_ret
        exact ⟨ret_bool hres.out.1, hres.out.2⟩
  · have hd : decide (l = m) = false := decide_eq_false (fun h => hlm (by rw [h]))
    rw [hd]
    have hne : ((l.length : Int) == (m.length : Int)) = false := beq_eq_false_iff_ne.2 (by omega)
    generalize l.length = n1 at hne ⊢
    generalize m.length = n2 at hne ⊢
    clear h1 h2 hlm hd hl
    go_enter Tryz.func14, Tryz.ntmps14
    go_wp2
    go_ret
    exact ⟨rfl, Below.refl _ _⟩
end
end Go.Proofs.YtaoegfdaemmogaaGreat.Scn
namespace Go.Proofs.YtaoegfdaemmogaaGreat.Scn
open Go Go.RowKit Go.Proofs.YtaoegfdaemmogaaGreat.Com Go.Proofs.YtaoegfdaemmogaaGreat.Rw Go.Proofs.YtaoegfdaemmogaaGreat.Lns
theorem own_nums' {w : World} {B : Nat} {e : TypeId} {k : IntKind} {v : Value} {l : List Int} (h : Own w B e k v l) : ∃ ao c, v = .slice ao l.length c ∧ Nums w w.heap.size k ao l := by
  obtain ⟨ao, c, e, _, _, hn⟩ := h.shape
  exact ⟨ao, c, e, hn⟩
/-- What ids told is held against a list of a literal. -/
theorem alike_lit {w w1 : World} {v : Value} {l : List Int} (m : List Int) (hO : Own w1 w.heap.size 3 .i64 v l) (hl : l.length ≤ 1000) (h : decide (l = m) = true) :
    Calls Tryz.prog 14 #[v, .slice (some ⟨w1.heap.size, 0, none⟩) m.length m.length] (w1.alloc (.cells (m.map (Value.int .i64)).toArray 3)) fun e w' => e = .returned (.bool true) ∧ Below (w1.alloc (.cells (m.map (Value.int .i64)).toArray 3)).heap.size (w1.alloc (.cells (m.map (Value.int .i64)).toArray 3)) w' := by
  obtain ⟨ao, c, rfl, hn⟩ := own_nums' hO
  have := alike_any (c1 := c) (c2 := m.length) (w1.alloc (.cells (m.map (Value.int .i64)).toArray 3)) (hn.alloc (Nat.le_refl _) _) (Nums.lit w1 3 .i64 m) (by simp) (by simp) (by omega)
  rw [h] at this
  exact this
def K0 : Scr := newS 1 9 4 3 true []
theorem K0_fit : Fit K0 := newS_fit (by decide) (by decide) (by decide) (by decide) (by decide)
theorem zero_ids (nx cols m : Nat) (a : At) : idsL (freshS nx cols m a) = (List.range m).map fun (j : Nat) => ((nx : Int) + (j : Int)) := by simp [idsL, freshS]
def K1 : Scr := upS K0 K0.top 1 zeroAt true
def K2a : Scr := { K0 with top := 1, bot := 2 }
def K2 : Scr := downS K2a K2a.top 1 zeroAt
def K3 : Scr := upS K0 1 2 zeroAt false
def K4 : Scr := resS K0 2 3 2
theorem K1_ids : idsL K1.L = [2, 3, 4, 5] := by kernel_rfl
theorem K1_R : idsL K1.R = [1] := by kernel_rfl
theorem K2_ids : idsL K2.L = [1, 5, 2, 4] := by kernel_rfl
theorem K2_R : K2.R.length = 0 := by kernel_rfl
theorem K3_ids : idsL K3.L = [1, 4, 5, 6] := by kernel_rfl
theorem K3_R : K3.R.length = 0 := by kernel_rfl
theorem K4_ids : idsL K4.L = [2, 3] := by kernel_rfl
theorem K4_R : idsL K4.R = [1] := by kernel_rfl
theorem K0_len : K0.L.length = 4 := by kernel_rfl
theorem K1_fit : Fit K1 := K0_fit.up (Nat.zero_le _) _ _ _
theorem K2a_fit : Fit K2a := ⟨K0_fit.len, K0_fit.len5, by have := K0_len; show 2 < K0.L.length; omega, by decide, K0_fit.c1, K0_fit.c5, K0_fit.wid, K0_fit.ids, K0_fit.pos⟩
theorem K2_fit : Fit K2 := K2a_fit.down (by decide) _ _
theorem K3_fit : Fit K3 := K0_fit.up (by have h := K0_len; show 1 ≤ K0.L.length - 1; omega) _ _ _

theorem resL_len (l : List Cel) (cols : Nat) : (resL l cols).length = cols := by
  unfold resL
  rw [mendAll_length]
  exact resX_length l cols
theorem Fit.res {S : Scr} (h : Fit S) {rows cols y : Nat} (hr1 : 1 ≤ rows) (hr5 : rows ≤ 512) (hc1 : 1 ≤ cols) (hc5 : cols ≤ 512) (hy : y < S.L.length) : Fit (resS S rows cols y) ∧ (resS S rows cols y).L.length = rows := by
  have hAl : (resA S rows y).L.length = S.L.length - (y - (rows - 1)) := by
    unfold resA
    rw [chg_len (by omega)]
    omega
  have hAi : ∀ p ∈ (resA S rows y).L, 1 ≤ p.1 ∧ p.1 < ((resA S rows y).nx : Int) := chg_ids h.ids h.pos
  have hAp : 1 ≤ (resA S rows y).nx := h.pos
  unfold resS
  generalize resA S rows y = S1 at hAl hAi hAp ⊢
  have hBl : (resB S1 rows).L.length = rows := by
    unfold resB
    rw [chg_len (by omega)]
    omega
  have hBi : ∀ p ∈ (resB S1 rows).L, 1 ≤ p.1 ∧ p.1 < ((resB S1 rows).nx : Int) := chg_ids hAi hAp
  have hBp : 1 ≤ (resB S1 rows).nx := Nat.le_trans hAp (Nat.le_add_right _ _)
  generalize resB S1 rows = S2 at hBl hBi hBp ⊢
  have hl : (margS (wideS S2 cols)).L.length = rows := by rw [← hBl]; exact List.length_map _
  have hb : (margS (wideS S2 cols)).bot = (margS (wideS S2 cols)).L.length - 1 := rfl
  refine ⟨⟨by omega, by omega, by omega, Nat.zero_le _, hc1, hc5, fun p hp => ?_, fun p hp => ?_, hBp⟩, hl⟩
  · obtain ⟨q, _, rfl⟩ := List.mem_map.1 hp
    exact resL_len _ _
  · obtain ⟨q, hq, rfl⟩ := List.mem_map.1 hp
    exact hBi q hq
theorem K4_fit : Fit K4 := (K0_fit.res (by decide) (by decide) (by decide) (by decide) (by rw [K0_len]; decide)).1
theorem K1_find : findF (idsL K1.R) 1 = 0 := by kernel_rfl
theorem K1_len : K1.R.length = 1 := by kernel_rfl
theorem K4_find : findF (idsL K4.R) 1 = 0 := by kernel_rfl

set_option maxRecDepth 100000 in
set_option maxHeartbeats 8000000 in
theorem known_any (w : World) : Calls Tryz.prog 5 #[] w fun e w' => e = .returned (.bool true) ∧ Below w.heap.size w w' := by
  have hmd : Hid (∀ w, Calls Tryz.prog 6 #[.int .i64 4, .int .i64 3, .int .i64 9, .bool true] w (MadeYes w 4 3 9 true)) := Lib.hid (fun w => made_yes 4 3 9 true (by decide) (by decide) (by decide) (by decide) (by decide) w)
  go_enter Tryz.func5, Tryz.ntmps5
  go_wp2
  go_loopw [7] (fun iv wr => (iv = .int .i64 0 ∨ iv = .int .i64 1 ∨ iv = .int .i64 2 ∨ iv = .int .i64 3 ∨ iv = .int .i64 4) ∧ Hid (Below w.heap.size w wr)) (fun iv _ => 4 - (intOf iv).toNat)
  case atStart => exact ⟨.inl rfl, Lib.hid (Below.refl _ _)⟩
  case round =>
    obtain ⟨hi, hB⟩ := hrel
    have hsz := hB.out.size
    rcases hi with rfl | rfl | rfl | rfl | rfl
    · go_wp2_with (first
        | (go_at_call 6; (with_reducible refine (hmd.out _).mono ?_); rintro e w1 ⟨x, s, rfl, hs1, hb1⟩; have hB1 := below_next hB.out hb1)
        | (go_at_call 13; (refine (Up_keep hs1 K0_fit 1 (by decide) zeroAt ⟨rfl, rfl⟩).mono ?_); rintro e w2 ⟨rfl, hs2, hf2⟩; change SC _ _ _ _ K1 at hs2; have hbs := hb1.size; have hB2 := hB1.trans ((hf2.below hbs).mono hsz))
        | (go_at_call 15; (with_reducible refine (ids_sc hs2 K1_fit).mono ?_); rintro e w3 ⟨v, rfl, hO, hb3⟩; rw [K1_ids] at hO)
        | (go_at_call 14; (refine (alike_lit [2, 3, 4, 5] hO (by decide) (by decide)).mono ?_); rintro e w4 ⟨rfl, hb4⟩; have hbb := below_next hb3 (below_next (below_new _ _) hb4); have hs4 := hs2.below hbb)
        | (go_at_call 16; (with_reducible refine (len_sc hs4).mono ?_); rintro e w' ⟨rfl, rfl⟩; have hln := K1_len)
        | (go_at_call 17; (with_reducible refine (stfind_sc hs4 1).mono ?_); rintro e w5 ⟨rfl, hb5⟩; have hfd := K1_find))
      have hres := Lib.hid (below_next (below_next hB2 hbb) hb5 : Below w.heap.size w w5)
      go_roundw
      case rel => exact ⟨.inr (.inl rfl), hres⟩
      case measure => simp [intOf]
    · go_wp2_with (first
        | (go_at_call 6; (with_reducible refine (hmd.out _).mono ?_); rintro e w1 ⟨x, s, rfl, hs1, hb1⟩; have hB1 := below_next hB.out hb1)
        | (go_at_call 18; (refine (setm_yes hs1 K0_fit 1 2 (by decide)).mono ?_); rintro e w1a ⟨rfl, hs1a, hf1a⟩; change SC _ _ _ _ K2a at hs1a)
        | (go_at_call 19; (refine (Down_sc hs1a K2a_fit 1 (by decide) zeroAt).mono ?_); rintro e w2 ⟨rfl, hs2, hf2⟩; change SC _ _ _ _ K2 at hs2; have hbs := hb1.size; have hB2 := (hB1.trans ((hf1a.below hbs).mono hsz)).trans ((hf2.below (Nat.le_trans hbs hf1a.size)).mono hsz))
        | (go_at_call 15; (with_reducible refine (ids_sc hs2 K2_fit).mono ?_); rintro e w3 ⟨v, rfl, hO, hb3⟩; rw [K2_ids] at hO)
        | (go_at_call 14; (refine (alike_lit [1, 5, 2, 4] hO (by decide) (by decide)).mono ?_); rintro e w4 ⟨rfl, hb4⟩; have hbb := below_next hb3 (below_next (below_new _ _) hb4); have hs4 := hs2.below hbb)
        | (go_at_call 16; (with_reducible refine (len_sc hs4).mono ?_); rintro e w' ⟨rfl, rfl⟩; have hln := K2_R))
      have hres := Lib.hid (below_next hB2 hbb : Below w.heap.size w w4)
      go_roundw
      case rel => exact ⟨.inr (.inr (.inl rfl)), hres⟩
      case measure => simp [intOf]
    · go_wp2_with (first
        | (go_at_call 6; (with_reducible refine (hmd.out _).mono ?_); rintro e w1 ⟨x, s, rfl, hs1, hb1⟩; have hB1 := below_next hB.out hb1)
        | (go_at_call 20; (refine (del_yes hs1 K0_fit 1 2 (by decide) (by decide) (by decide) zeroAt).mono ?_); rintro e w2 ⟨rfl, hs2, hf2⟩; change SC _ _ _ _ K3 at hs2; have hbs := hb1.size; have hB2 := hB1.trans ((hf2.below hbs).mono hsz))
        | (go_at_call 15; (with_reducible refine (ids_sc hs2 K3_fit).mono ?_); rintro e w3 ⟨v, rfl, hO, hb3⟩; rw [K3_ids] at hO)
        | (go_at_call 14; (refine (alike_lit [1, 4, 5, 6] hO (by decide) (by decide)).mono ?_); rintro e w4 ⟨rfl, hb4⟩; have hbb := below_next hb3 (below_next (below_new _ _) hb4); have hs4 := hs2.below hbb)
        | (go_at_call 16; (with_reducible refine (len_sc hs4).mono ?_); rintro e w' ⟨rfl, rfl⟩; have hln := K3_R))
      have hres := Lib.hid (below_next hB2 hbb : Below w.heap.size w w4)
      go_roundw
      case rel => exact ⟨.inr (.inr (.inr (.inl rfl))), hres⟩
      case measure => simp [intOf]
    · go_wp2_with (first
        | (go_at_call 6; (with_reducible refine (hmd.out _).mono ?_); rintro e w1 ⟨x, s, rfl, hs1, hb1⟩; have hB1 := below_next hB.out hb1)
        | (go_at_call 21; (refine (res_yes hs1 K0_fit 2 3 2 (by decide) (by decide) (by decide) (by decide) (by show 2 < K0.L.length; rw [K0_len]; decide) (by decide)).mono ?_); rintro e w2 ⟨rfl, hs2, hf2⟩; change SC _ _ _ _ K4 at hs2; have hbs := hb1.size; have hB2 := hB1.trans ((hf2.below hbs).mono hsz))
        | (go_at_call 15; (with_reducible refine (ids_sc hs2 K4_fit).mono ?_); rintro e w3 ⟨v, rfl, hO, hb3⟩; rw [K4_ids] at hO)
        | (go_at_call 14; (refine (alike_lit [2, 3] hO (by decide) (by decide)).mono ?_); rintro e w4 ⟨rfl, hb4⟩; have hbb := below_next hb3 (below_next (below_new _ _) hb4); have hs4 := hs2.below hbb)
        | (go_at_call 17; (with_reducible refine (stfind_sc hs4 1).mono ?_); rintro e w5 ⟨rfl, hb5⟩; have hfd := K4_find))
      have hres := Lib.hid (below_next (below_next hB2 hbb) hb5 : Below w.heap.size w w5)
      go_roundw
      case rel => exact ⟨.inr (.inr (.inr (.inr rfl))), hres⟩
      case measure => simp [intOf]
    · go_wp2
      go_ret
      exact ⟨rfl, hB.out⟩
end Go.Proofs.YtaoegfdaemmogaaGreat.Scn
