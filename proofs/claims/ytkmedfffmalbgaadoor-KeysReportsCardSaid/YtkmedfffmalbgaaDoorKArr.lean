/-
  keys: an arrow's bytes, on both sides.
-/
import Derived.Test.YtkmedfffmalbgaaDoorKRep
namespace Go.Proofs.YtkmedfffmalbgaaDoor.Kys
open Go Go.RowKit Go.Proofs.YtkmedfffmalbgaaDoor.Com Go.Proofs.YtkmedfffmalbgaaDoor.Mds

/-- An arrow's bytes; those of no arrow. -/
def arF (c : Bool) (kd : Int) : List Int := if 2 ≤ kd ∧ kd ≤ 5 then [27, if c = true then 79 else 91, 63 + kd] else []
theorem ar_enc (c n : Bool) {kd : Int} (h : 2 ≤ kd ∧ kd ≤ 5) : encK c n ⟨kd, 0, 0, 0⟩ = arF c kd := by
  rcases (show kd = 2 ∨ kd = 3 ∨ kd = 4 ∨ kd = 5 by omega) with rfl | rfl | rfl | rfl <;> cases c <;> rfl
theorem ar_none {c : Bool} {kd : Int} (h : ¬ (2 ≤ kd ∧ kd ≤ 5)) : arF c kd = [] := if_neg h
theorem ar_may {kd : Int} (h : 2 ≤ kd ∧ kd ≤ 5) : (Ky.mk kd 0 0 0).may := by
  rcases (show kd = 2 ∨ kd = 3 ∨ kd = 4 ∨ kd = 5 by omega) with rfl | rfl | rfl | rfl <;> decide
set_option maxHeartbeats 2000000 in
theorem arrow_any (m : Md) (kd : Int) (h0 : 0 ≤ kd ∧ kd ≤ 255) (w : World) (hT : Tab w) : Calls Tryd.prog 11 #[.agg (mA m), .int .u8 kd] w (Put w.heap.size (arF m.a2 kd) w) := by
  have hb0 := Lib.hid (below_new w (.cells (mA m) 23))
  have hm0 := Lib.hid (MB.made w m)
  by_cases h : 2 ≤ kd ∧ kd ≤ 5
  · have hcon : Calls Tryd.prog 17 #[.agg (mA m), .agg #[.int .u8 kd, .int .i32 0, .int .i64 0, .int .u8 0]] _ (EncIs (encK m.a2 m.a1 ⟨kd, 0, 0, 0⟩) _) := encode_yes m ⟨kd, 0, 0, 0⟩ (key_ok (by omega) (by decide) (by decide) (by decide)) (ar_may h) _ (hT.below hb0.out)
    rw [ar_enc m.a2 m.a1 h] at hcon
    obtain ⟨A, hA⟩ : ∃ A, A = arF m.a2 kd := ⟨_, rfl⟩
    rw [← hA] at hcon ⊢
    clear hA hT h0
    rcases (show kd = 2 ∨ kd = 3 ∨ kd = 4 ∨ kd = 5 by omega) with h' | h' | h' | h'
    all_goals
      subst h'
      clear h
      replace hcon := Lib.hid hcon
      go_enter Tryd.func11, Tryd.ntmps11
      go_wp2_with (first
        | (with_reducible show wpList _ _ _ (⟨some 14, .load _ (.tmp 2), _, _, _, _⟩ :: _) _ _; go_must (refine wpList_load_m rfl (.tmp 2) rfl rfl hm0.out ?_))
        | (go_at_call 17; (with_reducible refine (hcon.out).mono ?_); rintro e w1 ⟨v1, rfl, hr1, hc1⟩))
      go_ret
      exact ⟨v1, rfl, hr1.lower hb0.out.size, below_next hb0.out hc1⟩
  · rw [ar_none h]
    have h2 : (kd == 2) = false := by simp; omega
    have h3 : (kd == 3) = false := by simp; omega
    have h4 : (kd == 4) = false := by simp; omega
    have h5 : (kd == 5) = false := by simp; omega
    clear hT h0 h
    go_enter Tryd.func11, Tryd.ntmps11
    go_wp2_with fail
    go_ret
    exact ⟨_, rfl, Row.nil _ _ _, hb0.out⟩

theorem rmay_arrow {kd : Int} (h : 2 ≤ kd ∧ kd ≤ 5) (w : World) : Calls Tryd.prog 23 #[.agg (kA ⟨kd, 0, 0, 0⟩)] w (Tup (.bool true) w) := by
  have hb0 := Lib.hid (below_new w (.cells (kA ⟨kd, 0, 0, 0⟩) 34))
  have hd := KB.made w ⟨kd, 0, 0, 0⟩
  have hc0 := hd.c0
  have hc1 := hd.c1
  have hc2 := hd.c2
  have hc3 := hd.c3
  dsimp only at hc0 hc1 hc2 hc3
  clear hd
  rcases (show kd = 2 ∨ kd = 3 ∨ kd = 4 ∨ kd = 5 by omega) with rfl | rfl | rfl | rfl
  all_goals
    go_enter Tryd.func23, Tryd.ntmps23
    go_wp2_with fail
    go_ret
    exact ⟨rfl, hb0.out⟩
theorem rnumber_arrow {kd : Int} (h : 2 ≤ kd ∧ kd ≤ 5) (w : World) : Calls Tryd.prog 26 #[.agg (kA ⟨kd, 0, 0, 0⟩)] w (Tup (.int .i64 0) w) := by
  have hb0 := Lib.hid (below_new w (.cells (kA ⟨kd, 0, 0, 0⟩) 34))
  have hd := KB.made w ⟨kd, 0, 0, 0⟩
  have hc0 := hd.c0
  have hc2 := hd.c2
  dsimp only at hc0 hc2
  clear hd
  rcases (show kd = 2 ∨ kd = 3 ∨ kd = 4 ∨ kd = 5 by omega) with rfl | rfl | rfl | rfl
  all_goals
    go_enter Tryd.func26, Tryd.ntmps26
    go_wp2_with fail
    go_ret
    exact ⟨rfl, hb0.out⟩
theorem rfinal_2 (w : World) : Calls Tryd.prog 25 #[.agg (kA ⟨2, 0, 0, 0⟩)] w (Tup (.string { data := #[65] }) w) := by
  have hb0 := Lib.hid (below_new w (.cells (kA ⟨2, 0, 0, 0⟩) 34))
  have hd := KB.made w ⟨2, 0, 0, 0⟩
  have hc0 := hd.c0
  dsimp only at hc0
  clear hd
  go_enter Tryd.func25, Tryd.ntmps25
  go_wp2_with fail
  go_ret
  exact ⟨rfl, hb0.out⟩
theorem renc_2 (m : Md) (w : World) : Calls Tryd.prog 12 #[.agg (mA m), .agg (kA ⟨2, 0, 0, 0⟩)] w (EncIs (arF m.a2 2) w) := by
  have hb0 := Lib.hid (two_below w m ⟨2, 0, 0, 0⟩)
  have hm0 := Lib.hid (two_m w m ⟨2, 0, 0, 0⟩)
  have hd0 := Lib.hid (two_k w m ⟨2, 0, 0, 0⟩)
  have hmay := Lib.hid (fun w' => rmay_arrow (kd := 2) (by omega) w')
  have hfin := Lib.hid (fun w' => rfinal_2 w')
  have hnum := Lib.hid (fun w' => rnumber_arrow (kd := 2) (by omega) w')
  rcases ha : m.a2 with _ | _
  case' true =>
    have hadd := fun w' => (show (Op.stringOp .add { data := #[27, 79] } { data := #[65] }).run Tryd.prog w' = .ok (.string { data := #[27, 79, 65] }) w' from run_string_add_sum w' _ _ (by decide))
    have hsm : Lib.strCells { data := #[27, 79, 65] } = ([27, 79, 65] : List Int).map (Value.int .u8) := rfl
    have hE := Lib.hid (show arF true 2 = [27, 79, 65] from rfl)
  case' false =>
    have hadd := fun w' => (show (Op.stringOp .add { data := #[27, 91] } { data := #[65] }).run Tryd.prog w' = .ok (.string { data := #[27, 91, 65] }) w' from run_string_add_sum w' _ _ (by decide))
    have hsm : Lib.strCells { data := #[27, 91, 65] } = ([27, 91, 65] : List Int).map (Value.int .u8) := rfl
    have hE := Lib.hid (show arF false 2 = [27, 91, 65] from rfl)
  all_goals
    replace hsm := Lib.hid hsm
    replace ha := Lib.hid ha
    go_enter Tryd.func12, Tryd.ntmps12
    go_wp2_with (first
      | (with_reducible show wpList _ _ _ (⟨some 10, .load _ (.tmp 3), _, _, _, _⟩ :: _) _ _; go_must (refine wpList_load_k rfl (.tmp 3) rfl rfl hd0.out ?_))
      | (go_at_call 23; (with_reducible refine (hmay.out _).mono ?_); rintro e w1 ⟨rfl, hc1⟩; have hd1 := Lib.hid (hd0.out.below hc1); have hm1 := Lib.hid (hm0.out.below hc1); have hb1 := Lib.hid (below_next hb0.out hc1); have hx3 := hd1.out.c3; clear hc1 hd0 hm0 hb0)
      | (with_reducible show wpList _ _ _ (⟨some 22, .load _ (.tmp 3), _, _, _, _⟩ :: _) _ _; go_must (refine wpList_load_k rfl (.tmp 3) rfl rfl hd1.out ?_))
      | (go_at_call 25; (with_reducible refine (hfin.out _).mono ?_); rintro e w2 ⟨rfl, hc2⟩; have hd2 := Lib.hid (hd1.out.below hc2); have hm2 := Lib.hid (hm1.out.below hc2); have hb2 := Lib.hid (below_next hb1.out hc2); clear hc2 hd1 hm1 hb1 hx3)
      | (with_reducible show wpList _ _ _ (⟨some 24, .load _ (.tmp 3), _, _, _, _⟩ :: _) _ _; go_must (refine wpList_load_k rfl (.tmp 3) rfl rfl hd2.out ?_))
      | (go_at_call 26; (with_reducible refine (hnum.out _).mono ?_); rintro e w3 ⟨rfl, hc3⟩; have hd3 := Lib.hid (hd2.out.below hc3); have hm3 := Lib.hid (hm2.out.below hc3); have hb3 := Lib.hid (below_next hb2.out hc3); have hy0 := hd3.out.c0; have hy3 := hd3.out.c3; have hz := hm3.out.cell (k := 2) (by omega); rw [show m.get 2 = m.a2 from rfl, ha.out] at hz; clear hc3 hd2 hm2 hb2)
      | (with_reducible show wpList _ _ _ (⟨some 53, .convert _ _ _, _, _, _, _⟩ :: _) _ _; go_must (refine wpList_bytes Tryd.underlying9 Tryd.underlying26 Tryd.underlying5 rfl (.tmp 52) rfl w.heap.size _ _ hsm.out rfl hb3.out.size (by simp) ?_); intro v4 w4 h4 hc4)
      | (with_reducible show wpList _ _ _ (⟨some 59, .convert _ _ _, _, _, _, _⟩ :: _) _ _; go_must (refine wpList_bytes Tryd.underlying9 Tryd.underlying26 Tryd.underlying5 rfl (.tmp 58) rfl w.heap.size _ _ hsm.out rfl hb3.out.size (by simp) ?_); intro v4 w4 h4 hc4))
    go_ret2
    rw [hE.out]
    exact ⟨v4, rfl, h4, below_next hb3.out hc4⟩
theorem rfinal_3 (w : World) : Calls Tryd.prog 25 #[.agg (kA ⟨3, 0, 0, 0⟩)] w (Tup (.string { data := #[66] }) w) := by
  have hb0 := Lib.hid (below_new w (.cells (kA ⟨3, 0, 0, 0⟩) 34))
  have hd := KB.made w ⟨3, 0, 0, 0⟩
  have hc0 := hd.c0
  dsimp only at hc0
  clear hd
  go_enter Tryd.func25, Tryd.ntmps25
  go_wp2_with fail
  go_ret
  exact ⟨rfl, hb0.out⟩
theorem renc_3 (m : Md) (w : World) : Calls Tryd.prog 12 #[.agg (mA m), .agg (kA ⟨3, 0, 0, 0⟩)] w (EncIs (arF m.a2 3) w) := by
  have hb0 := Lib.hid (two_below w m ⟨3, 0, 0, 0⟩)
  have hm0 := Lib.hid (two_m w m ⟨3, 0, 0, 0⟩)
  have hd0 := Lib.hid (two_k w m ⟨3, 0, 0, 0⟩)
  have hmay := Lib.hid (fun w' => rmay_arrow (kd := 3) (by omega) w')
  have hfin := Lib.hid (fun w' => rfinal_3 w')
  have hnum := Lib.hid (fun w' => rnumber_arrow (kd := 3) (by omega) w')
  rcases ha : m.a2 with _ | _
  case' true =>
    have hadd := fun w' => (show (Op.stringOp .add { data := #[27, 79] } { data := #[66] }).run Tryd.prog w' = .ok (.string { data := #[27, 79, 66] }) w' from run_string_add_sum w' _ _ (by decide))
    have hsm : Lib.strCells { data := #[27, 79, 66] } = ([27, 79, 66] : List Int).map (Value.int .u8) := rfl
    have hE := Lib.hid (show arF true 3 = [27, 79, 66] from rfl)
  case' false =>
    have hadd := fun w' => (show (Op.stringOp .add { data := #[27, 91] } { data := #[66] }).run Tryd.prog w' = .ok (.string { data := #[27, 91, 66] }) w' from run_string_add_sum w' _ _ (by decide))
    have hsm : Lib.strCells { data := #[27, 91, 66] } = ([27, 91, 66] : List Int).map (Value.int .u8) := rfl
    have hE := Lib.hid (show arF false 3 = [27, 91, 66] from rfl)
  all_goals
    replace hsm := Lib.hid hsm
    replace ha := Lib.hid ha
    go_enter Tryd.func12, Tryd.ntmps12
    go_wp2_with (first
      | (with_reducible show wpList _ _ _ (⟨some 10, .load _ (.tmp 3), _, _, _, _⟩ :: _) _ _; go_must (refine wpList_load_k rfl (.tmp 3) rfl rfl hd0.out ?_))
      | (go_at_call 23; (with_reducible refine (hmay.out _).mono ?_); rintro e w1 ⟨rfl, hc1⟩; have hd1 := Lib.hid (hd0.out.below hc1); have hm1 := Lib.hid (hm0.out.below hc1); have hb1 := Lib.hid (below_next hb0.out hc1); have hx3 := hd1.out.c3; clear hc1 hd0 hm0 hb0)
      | (with_reducible show wpList _ _ _ (⟨some 22, .load _ (.tmp 3), _, _, _, _⟩ :: _) _ _; go_must (refine wpList_load_k rfl (.tmp 3) rfl rfl hd1.out ?_))
      | (go_at_call 25; (with_reducible refine (hfin.out _).mono ?_); rintro e w2 ⟨rfl, hc2⟩; have hd2 := Lib.hid (hd1.out.below hc2); have hm2 := Lib.hid (hm1.out.below hc2); have hb2 := Lib.hid (below_next hb1.out hc2); clear hc2 hd1 hm1 hb1 hx3)
      | (with_reducible show wpList _ _ _ (⟨some 24, .load _ (.tmp 3), _, _, _, _⟩ :: _) _ _; go_must (refine wpList_load_k rfl (.tmp 3) rfl rfl hd2.out ?_))
      | (go_at_call 26; (with_reducible refine (hnum.out _).mono ?_); rintro e w3 ⟨rfl, hc3⟩; have hd3 := Lib.hid (hd2.out.below hc3); have hm3 := Lib.hid (hm2.out.below hc3); have hb3 := Lib.hid (below_next hb2.out hc3); have hy0 := hd3.out.c0; have hy3 := hd3.out.c3; have hz := hm3.out.cell (k := 2) (by omega); rw [show m.get 2 = m.a2 from rfl, ha.out] at hz; clear hc3 hd2 hm2 hb2)
      | (with_reducible show wpList _ _ _ (⟨some 53, .convert _ _ _, _, _, _, _⟩ :: _) _ _; go_must (refine wpList_bytes Tryd.underlying9 Tryd.underlying26 Tryd.underlying5 rfl (.tmp 52) rfl w.heap.size _ _ hsm.out rfl hb3.out.size (by simp) ?_); intro v4 w4 h4 hc4)
      | (with_reducible show wpList _ _ _ (⟨some 59, .convert _ _ _, _, _, _, _⟩ :: _) _ _; go_must (refine wpList_bytes Tryd.underlying9 Tryd.underlying26 Tryd.underlying5 rfl (.tmp 58) rfl w.heap.size _ _ hsm.out rfl hb3.out.size (by simp) ?_); intro v4 w4 h4 hc4))
    go_ret2
    rw [hE.out]
    exact ⟨v4, rfl, h4, below_next hb3.out hc4⟩
theorem rfinal_4 (w : World) : Calls Tryd.prog 25 #[.agg (kA ⟨4, 0, 0, 0⟩)] w (Tup (.string { data := #[67] }) w) := by
  have hb0 := Lib.hid (below_new w (.cells (kA ⟨4, 0, 0, 0⟩) 34))
  have hd := KB.made w ⟨4, 0, 0, 0⟩
  have hc0 := hd.c0
  dsimp only at hc0
  clear hd
  go_enter Tryd.func25, Tryd.ntmps25
  go_wp2_with fail
  go_ret
  exact ⟨rfl, hb0.out⟩
theorem renc_4 (m : Md) (w : World) : Calls Tryd.prog 12 #[.agg (mA m), .agg (kA ⟨4, 0, 0, 0⟩)] w (EncIs (arF m.a2 4) w) := by
  have hb0 := Lib.hid (two_below w m ⟨4, 0, 0, 0⟩)
  have hm0 := Lib.hid (two_m w m ⟨4, 0, 0, 0⟩)
  have hd0 := Lib.hid (two_k w m ⟨4, 0, 0, 0⟩)
  have hmay := Lib.hid (fun w' => rmay_arrow (kd := 4) (by omega) w')
  have hfin := Lib.hid (fun w' => rfinal_4 w')
  have hnum := Lib.hid (fun w' => rnumber_arrow (kd := 4) (by omega) w')
  rcases ha : m.a2 with _ | _
  case' true =>
    have hadd := fun w' => (show (Op.stringOp .add { data := #[27, 79] } { data := #[67] }).run Tryd.prog w' = .ok (.string { data := #[27, 79, 67] }) w' from run_string_add_sum w' _ _ (by decide))
    have hsm : Lib.strCells { data := #[27, 79, 67] } = ([27, 79, 67] : List Int).map (Value.int .u8) := rfl
    have hE := Lib.hid (show arF true 4 = [27, 79, 67] from rfl)
  case' false =>
    have hadd := fun w' => (show (Op.stringOp .add { data := #[27, 91] } { data := #[67] }).run Tryd.prog w' = .ok (.string { data := #[27, 91, 67] }) w' from run_string_add_sum w' _ _ (by decide))
    have hsm : Lib.strCells { data := #[27, 91, 67] } = ([27, 91, 67] : List Int).map (Value.int .u8) := rfl
    have hE := Lib.hid (show arF false 4 = [27, 91, 67] from rfl)
  all_goals
    replace hsm := Lib.hid hsm
    replace ha := Lib.hid ha
    go_enter Tryd.func12, Tryd.ntmps12
    go_wp2_with (first
      | (with_reducible show wpList _ _ _ (⟨some 10, .load _ (.tmp 3), _, _, _, _⟩ :: _) _ _; go_must (refine wpList_load_k rfl (.tmp 3) rfl rfl hd0.out ?_))
      | (go_at_call 23; (with_reducible refine (hmay.out _).mono ?_); rintro e w1 ⟨rfl, hc1⟩; have hd1 := Lib.hid (hd0.out.below hc1); have hm1 := Lib.hid (hm0.out.below hc1); have hb1 := Lib.hid (below_next hb0.out hc1); have hx3 := hd1.out.c3; clear hc1 hd0 hm0 hb0)
      | (with_reducible show wpList _ _ _ (⟨some 22, .load _ (.tmp 3), _, _, _, _⟩ :: _) _ _; go_must (refine wpList_load_k rfl (.tmp 3) rfl rfl hd1.out ?_))
      | (go_at_call 25; (with_reducible refine (hfin.out _).mono ?_); rintro e w2 ⟨rfl, hc2⟩; have hd2 := Lib.hid (hd1.out.below hc2); have hm2 := Lib.hid (hm1.out.below hc2); have hb2 := Lib.hid (below_next hb1.out hc2); clear hc2 hd1 hm1 hb1 hx3)
      | (with_reducible show wpList _ _ _ (⟨some 24, .load _ (.tmp 3), _, _, _, _⟩ :: _) _ _; go_must (refine wpList_load_k rfl (.tmp 3) rfl rfl hd2.out ?_))
      | (go_at_call 26; (with_reducible refine (hnum.out _).mono ?_); rintro e w3 ⟨rfl, hc3⟩; have hd3 := Lib.hid (hd2.out.below hc3); have hm3 := Lib.hid (hm2.out.below hc3); have hb3 := Lib.hid (below_next hb2.out hc3); have hy0 := hd3.out.c0; have hy3 := hd3.out.c3; have hz := hm3.out.cell (k := 2) (by omega); rw [show m.get 2 = m.a2 from rfl, ha.out] at hz; clear hc3 hd2 hm2 hb2)
      | (with_reducible show wpList _ _ _ (⟨some 53, .convert _ _ _, _, _, _, _⟩ :: _) _ _; go_must (refine wpList_bytes Tryd.underlying9 Tryd.underlying26 Tryd.underlying5 rfl (.tmp 52) rfl w.heap.size _ _ hsm.out rfl hb3.out.size (by simp) ?_); intro v4 w4 h4 hc4)
      | (with_reducible show wpList _ _ _ (⟨some 59, .convert _ _ _, _, _, _, _⟩ :: _) _ _; go_must (refine wpList_bytes Tryd.underlying9 Tryd.underlying26 Tryd.underlying5 rfl (.tmp 58) rfl w.heap.size _ _ hsm.out rfl hb3.out.size (by simp) ?_); intro v4 w4 h4 hc4))
    go_ret2
    rw [hE.out]
    exact ⟨v4, rfl, h4, below_next hb3.out hc4⟩
theorem rfinal_5 (w : World) : Calls Tryd.prog 25 #[.agg (kA ⟨5, 0, 0, 0⟩)] w (Tup (.string { data := #[68] }) w) := by
  have hb0 := Lib.hid (below_new w (.cells (kA ⟨5, 0, 0, 0⟩) 34))
  have hd := KB.made w ⟨5, 0, 0, 0⟩
  have hc0 := hd.c0
  dsimp only at hc0
  clear hd
  go_enter Tryd.func25, Tryd.ntmps25
  go_wp2_with fail
  go_ret
  exact ⟨rfl, hb0.out⟩
theorem renc_5 (m : Md) (w : World) : Calls Tryd.prog 12 #[.agg (mA m), .agg (kA ⟨5, 0, 0, 0⟩)] w (EncIs (arF m.a2 5) w) := by
  have hb0 := Lib.hid (two_below w m ⟨5, 0, 0, 0⟩)
  have hm0 := Lib.hid (two_m w m ⟨5, 0, 0, 0⟩)
  have hd0 := Lib.hid (two_k w m ⟨5, 0, 0, 0⟩)
  have hmay := Lib.hid (fun w' => rmay_arrow (kd := 5) (by omega) w')
  have hfin := Lib.hid (fun w' => rfinal_5 w')
  have hnum := Lib.hid (fun w' => rnumber_arrow (kd := 5) (by omega) w')
  rcases ha : m.a2 with _ | _
  case' true =>
    have hadd := fun w' => (show (Op.stringOp .add { data := #[27, 79] } { data := #[68] }).run Tryd.prog w' = .ok (.string { data := #[27, 79, 68] }) w' from run_string_add_sum w' _ _ (by decide))
    have hsm : Lib.strCells { data := #[27, 79, 68] } = ([27, 79, 68] : List Int).map (Value.int .u8) := rfl
    have hE := Lib.hid (show arF true 5 = [27, 79, 68] from rfl)
  case' false =>
    have hadd := fun w' => (show (Op.stringOp .add { data := #[27, 91] } { data := #[68] }).run Tryd.prog w' = .ok (.string { data := #[27, 91, 68] }) w' from run_string_add_sum w' _ _ (by decide))
    have hsm : Lib.strCells { data := #[27, 91, 68] } = ([27, 91, 68] : List Int).map (Value.int .u8) := rfl
    have hE := Lib.hid (show arF false 5 = [27, 91, 68] from rfl)
  all_goals
    replace hsm := Lib.hid hsm
    replace ha := Lib.hid ha
    go_enter Tryd.func12, Tryd.ntmps12
    go_wp2_with (first
      | (with_reducible show wpList _ _ _ (⟨some 10, .load _ (.tmp 3), _, _, _, _⟩ :: _) _ _; go_must (refine wpList_load_k rfl (.tmp 3) rfl rfl hd0.out ?_))
      | (go_at_call 23; (with_reducible refine (hmay.out _).mono ?_); rintro e w1 ⟨rfl, hc1⟩; have hd1 := Lib.hid (hd0.out.below hc1); have hm1 := Lib.hid (hm0.out.below hc1); have hb1 := Lib.hid (below_next hb0.out hc1); have hx3 := hd1.out.c3; clear hc1 hd0 hm0 hb0)
      | (with_reducible show wpList _ _ _ (⟨some 22, .load _ (.tmp 3), _, _, _, _⟩ :: _) _ _; go_must (refine wpList_load_k rfl (.tmp 3) rfl rfl hd1.out ?_))
      | (go_at_call 25; (with_reducible refine (hfin.out _).mono ?_); rintro e w2 ⟨rfl, hc2⟩; have hd2 := Lib.hid (hd1.out.below hc2); have hm2 := Lib.hid (hm1.out.below hc2); have hb2 := Lib.hid (below_next hb1.out hc2); clear hc2 hd1 hm1 hb1 hx3)
      | (with_reducible show wpList _ _ _ (⟨some 24, .load _ (.tmp 3), _, _, _, _⟩ :: _) _ _; go_must (refine wpList_load_k rfl (.tmp 3) rfl rfl hd2.out ?_))
      | (go_at_call 26; (with_reducible refine (hnum.out _).mono ?_); rintro e w3 ⟨rfl, hc3⟩; have hd3 := Lib.hid (hd2.out.below hc3); have hm3 := Lib.hid (hm2.out.below hc3); have hb3 := Lib.hid (below_next hb2.out hc3); have hy0 := hd3.out.c0; have hy3 := hd3.out.c3; have hz := hm3.out.cell (k := 2) (by omega); rw [show m.get 2 = m.a2 from rfl, ha.out] at hz; clear hc3 hd2 hm2 hb2)
      | (with_reducible show wpList _ _ _ (⟨some 53, .convert _ _ _, _, _, _, _⟩ :: _) _ _; go_must (refine wpList_bytes Tryd.underlying9 Tryd.underlying26 Tryd.underlying5 rfl (.tmp 52) rfl w.heap.size _ _ hsm.out rfl hb3.out.size (by simp) ?_); intro v4 w4 h4 hc4)
      | (with_reducible show wpList _ _ _ (⟨some 59, .convert _ _ _, _, _, _, _⟩ :: _) _ _; go_must (refine wpList_bytes Tryd.underlying9 Tryd.underlying26 Tryd.underlying5 rfl (.tmp 58) rfl w.heap.size _ _ hsm.out rfl hb3.out.size (by simp) ?_); intro v4 w4 h4 hc4))
    go_ret2
    rw [hE.out]
    exact ⟨v4, rfl, h4, below_next hb3.out hc4⟩
theorem renc_arrow (m : Md) {kd : Int} (h : 2 ≤ kd ∧ kd ≤ 5) (w : World) : Calls Tryd.prog 12 #[.agg (mA m), .agg #[.int .u8 kd, .int .i32 0, .int .i64 0, .int .u8 0]] w (EncIs (arF m.a2 kd) w) := by
  rcases (show kd = 2 ∨ kd = 3 ∨ kd = 4 ∨ kd = 5 by omega) with rfl | rfl | rfl | rfl
  · exact renc_2 m w
  · exact renc_3 m w
  · exact renc_4 m w
  · exact renc_5 m w

end Go.Proofs.YtkmedfffmalbgaaDoor.Kys
