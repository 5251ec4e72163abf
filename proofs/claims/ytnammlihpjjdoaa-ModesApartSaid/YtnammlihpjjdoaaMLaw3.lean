/-
  modes: ModesBack.
-/
import Derived.Test.YtnammlihpjjdoaaMLaw2
namespace Go.Proofs.Ytnammlihpjjdoaa.Mds
open Go Go.RowKit Go.Proofs.Ytnammlihpjjdoaa.Com

theorem put_put (m : Md) (p : Bool) (n : Int) (b c : Bool) : (m.put p n b).put p n c = m.put p n c := set_set m (spot_le p n) b c
theorem put_has (m : Md) (p : Bool) (n : Int) : m.put p n (m.has p n) = m := set_get m (spot_le p n)
theorem has_put {m : Md} {p : Bool} {n : Int} (h : known p n = true) (b : Bool) : (m.put p n b).has p n = b := get_set m (of_decide_eq_true h) b
theorem spot_no {p : Bool} {n : Int} (h : known p n = false) : spot p n = 8 := by
  have h1 := of_decide_eq_false h
  have h2 := spot_le p n
  omega
theorem put_none {m : Md} {p : Bool} {n : Int} (h : known p n = false) (b : Bool) : m.put p n b = m := by
  unfold Md.put
  rw [spot_no h]
  rfl
theorem has_none {m : Md} {p : Bool} {n : Int} (h : known p n = false) : m.has p n = false := by
  unfold Md.has
  rw [spot_no h]
  rfl
set_option maxHeartbeats 8000000 in
theorem back_true (m : Md) (p : Bool) (n : Int) (hw : (Lit.int .i64 n).wf = true) (on : Bool) (x : Int) (hx : (Lit.int .u8 x).wf = true) (hk : known p n = true) (W : World) : Calls Try.prog 6 #[.agg (mA m), .bool p, .int .i64 n, .bool on, .int .u8 x] W (Yes W) := by
  have hx0 := byte_in hx
  have hg1 := fun w' => get_any m p n hw w'
  have hp1 := fun w' => put_any m p n hw on w'
  have hg2 := fun w' => get_any (m.put p n on) p n hw w'
  have hp2 := fun w' => put_any (m.put p n on) p n hw on w'
  have hp3 := fun w' => put_any (m.put p n on) p n hw (m.has p n) w'
  unfold PutIs at hp1 hp2 hp3
  unfold GetIs at hg1 hg2
  rw [put_put] at hp2 hp3
  rw [put_has] at hp3
  rw [hk] at hp1 hp2 hp3 hg1 hg2
  rw [has_put hk] at hg2
  generalize Md.put m p n on = X at *
  generalize m.has p n = was at *
  have hbt := fun w' => bits_any m w'
  have hof := fun w' => of_any m.bits (bits_ge m) (bits_lt m) w'
  rw [of_bits] at hof
  generalize m.bits = B at hbt hof
  have hop := fun w' => of_any x hx0.1 hx0.2 w'
  have hbo := fun w' => bits_any (ofBits x) w'
  rw [bits_of hx0.1 hx0.2] at hbo
  generalize ofBits x = c at hop hbo
  obtain ⟨c0, c1, c2, c3, c4, c5, c6, c7⟩ := c
  have hb0 := Lib.hid (below_new W (.cells (mA m) 23))
  have hd0 := Lib.hid (MB.made W m)
  obtain ⟨a0, a1, a2, a3, a4, a5, a6, a7⟩ := m
  replace hg1 := Lib.hid hg1
  replace hp1 := Lib.hid hp1
  replace hg2 := Lib.hid hg2
  replace hp2 := Lib.hid hp2
  replace hp3 := Lib.hid hp3
  replace hbt := Lib.hid (show ∀ w', Calls Try.prog 15 #[.agg #[.bool a0, .bool a1, .bool a2, .bool a3, .bool a4, .bool a5, .bool a6, .bool a7]] w' (Tup (.int .u8 B) w') from hbt)
  replace hbo := Lib.hid (show ∀ w', Calls Try.prog 15 #[.agg #[.bool c0, .bool c1, .bool c2, .bool c3, .bool c4, .bool c5, .bool c6, .bool c7]] w' (Tup (.int .u8 x) w') from hbo)
  replace hof := Lib.hid (show ∀ w', Calls Try.prog 17 #[.int .u8 B] w' (Tup (.agg #[.bool a0, .bool a1, .bool a2, .bool a3, .bool a4, .bool a5, .bool a6, .bool a7]) w') from hof)
  replace hop := Lib.hid (show ∀ w', Calls Try.prog 17 #[.int .u8 x] w' (Tup (.agg #[.bool c0, .bool c1, .bool c2, .bool c3, .bool c4, .bool c5, .bool c6, .bool c7]) w') from hop)
  clear hx hx0 hw hk
  go_enter Try.func6, Try.ntmps6
  go_wp2_with (first
    | (with_reducible show wpList _ _ _ (⟨some 22, .load _ (.tmp 5), _, _, _, _⟩ :: _) _ _; go_must (refine wpList_load_m rfl (.tmp 5) rfl rfl hd0.out ?_))
    | (go_at_call 11; (with_reducible refine (hg1.out _).mono ?_); rintro e w1 ⟨rfl, hb1⟩; have hd1 := Lib.hid (hd0.out.below hb1); have hbA := Lib.hid (below_next hb0.out hb1); clear hb1 hd0 hb0)
    | (with_reducible show wpList _ _ _ (⟨some 29, .load _ (.tmp 5), _, _, _, _⟩ :: _) _ _; go_must (refine wpList_load_m rfl (.tmp 5) rfl rfl hd1.out ?_))
    | (go_at_call 8; (with_reducible refine (hp1.out _).mono ?_); rintro e w2 ⟨rfl, hb2⟩; have hd2 := Lib.hid (hd1.out.below hb2); have hbB := Lib.hid (below_next hbA.out hb2); have hz2 := Lib.hid (MB.zero w2); clear hb2 hd1 hbA)
    | (with_reducible show wpList _ _ _ (⟨none, .store _ (.tmp 13) _, _, _, _, _⟩ :: _) _ _; go_must (refine wpList_store_m rfl (.tmp 13) (.tmp 34) rfl rfl rfl hz2.out ?_); intro w3 hx3 ho3; go_must (replace hx3 := Lib.hid hx3; have hbC := Lib.hid (made_store hbB.out ho3); have hd3 := Lib.hid (kept_store hd2.out ho3); clear ho3 hz2 hbB hd2))
    | (with_reducible show wpList _ _ _ (⟨some 37, .load _ (.tmp 13), _, _, _, _⟩ :: _) _ _; go_must (refine wpList_load_m rfl (.tmp 13) rfl rfl hx3.out ?_))
    | (go_at_call 11; (with_reducible refine (hg2.out _).mono ?_); rintro e w4 ⟨rfl, hb4⟩; have hx4 := Lib.hid (hx3.out.below hb4); have hd4 := Lib.hid (hd3.out.below hb4); have hbD := Lib.hid (below_next hbC.out hb4); clear hb4 hx3 hd3 hbC)
    | (with_reducible show wpList _ _ _ (⟨some 44, .load _ (.tmp 13), _, _, _, _⟩ :: _) _ _; go_must (refine wpList_load_m rfl (.tmp 13) rfl rfl hx4.out ?_))
    | (go_at_call 8; (with_reducible refine (hp2.out _).mono ?_); rintro e w5 ⟨rfl, hb5⟩; have hx5 := Lib.hid (hx4.out.below hb5); have hd5 := Lib.hid (hd4.out.below hb5); have hbE := Lib.hid (below_next hbD.out hb5); have hz5 := Lib.hid (MB.zero w5); clear hb5 hx4 hd4 hbD)
    | (with_reducible show wpList _ _ _ (⟨none, .store _ (.tmp 17) _, _, _, _, _⟩ :: _) _ _; go_must (refine wpList_store_m rfl (.tmp 17) (.tmp 49) rfl rfl rfl hz5.out ?_); intro w6 hy6 ho6; go_must (replace hy6 := Lib.hid hy6; have hbF := Lib.hid (made_store hbE.out ho6); have hx6 := Lib.hid (kept_store hx5.out ho6); have hd6 := Lib.hid (kept_store hd5.out ho6); clear ho6 hz5 hbE hx5 hd5))
    | (with_reducible show wpList _ _ _ (⟨some 52, .load _ (.tmp 13), _, _, _, _⟩ :: _) _ _; go_must (refine wpList_load_m rfl (.tmp 13) rfl rfl hx6.out ?_))
    | (go_at_call 8; (with_reducible refine (hp3.out _).mono ?_); rintro e w7 ⟨rfl, hb7⟩; have hx7 := Lib.hid (hx6.out.below hb7); have hy7 := Lib.hid (hy6.out.below hb7); have hd7 := Lib.hid (hd6.out.below hb7); have hbG := Lib.hid (below_next hbF.out hb7); have hz7 := Lib.hid (MB.zero w7); clear hb7 hx6 hy6 hd6 hbF)
    | (with_reducible show wpList _ _ _ (⟨none, .store _ (.tmp 19) _, _, _, _, _⟩ :: _) _ _; go_must (refine wpList_store_m rfl (.tmp 19) (.tmp 57) rfl rfl rfl hz7.out ?_); intro w8 hz8 ho8; go_must (replace hz8 := Lib.hid hz8; have hbH := Lib.hid (made_store hbG.out ho8); have hx8 := Lib.hid (kept_store hx7.out ho8); have hy8 := Lib.hid (kept_store hy7.out ho8); have hd8 := Lib.hid (kept_store hd7.out ho8); clear ho8 hz7 hbG hx7 hy7 hd7; have hd9 := Lib.hid hd8.out.drew; have hbI := Lib.hid (below_drew hbH.out)))
    | (with_reducible show wpList _ _ _ (⟨some 85, .load _ (.tmp 13), _, _, _, _⟩ :: _) _ _; go_must (refine wpList_load_m rfl (.tmp 13) rfl rfl hx8.out ?_))
    | (with_reducible show wpList _ _ _ (⟨some 86, .load _ (.tmp 17), _, _, _, _⟩ :: _) _ _; go_must (refine wpList_load_m rfl (.tmp 17) rfl rfl hy8.out ?_))
    | (with_reducible show wpList _ _ _ (⟨some 87, .binOp _ _ _ _ _, _, _, _, _⟩ :: _) _ _; go_must (refine wpList_neq_m rfl (.tmp 85) (.tmp 86) rfl rfl rfl ?_))
    | (with_reducible show wpList _ _ _ (⟨some 90, .load _ (.tmp 19), _, _, _, _⟩ :: _) _ _; go_must (refine wpList_load_m rfl (.tmp 19) rfl rfl hz8.out ?_))
    | (with_reducible show wpList _ _ _ (⟨some 91, .load _ (.tmp 5), _, _, _, _⟩ :: _) _ _; go_must (refine wpList_load_m rfl (.tmp 5) rfl rfl hd8.out ?_))
    | (with_reducible show wpList _ _ _ (⟨some 92, .binOp _ _ _ _ _, _, _, _, _⟩ :: _) _ _; go_must (refine wpList_neq_m rfl (.tmp 90) (.tmp 91) rfl rfl rfl ?_)))
  go_region_held3 (fun w' => w'.cell? ⟨W.heap.size, 0, none⟩ = some (.bool a0) ∧ w'.cell? ⟨W.heap.size, 1, none⟩ = some (.bool a1) ∧ w'.cell? ⟨W.heap.size, 2, none⟩ = some (.bool a2) ∧ w'.cell? ⟨W.heap.size, 3, none⟩ = some (.bool a3) ∧ w'.cell? ⟨W.heap.size, 4, none⟩ = some (.bool a4) ∧ w'.cell? ⟨W.heap.size, 5, none⟩ = some (.bool a5) ∧ w'.cell? ⟨W.heap.size, 6, none⟩ = some (.bool a6) ∧ w'.cell? ⟨W.heap.size, 7, none⟩ = some (.bool a7))
    (first | exact cells8 hd9.out | exact cells8 hd10.out | exact cells8 hd11.out | exact cells8 hd12.out | exact cells8 hd13.out | exact cells8 hd14.out)
    (first
      | (go_at_call 15; (with_reducible refine (hbt.out _).mono ?_); rintro e w10 ⟨rfl, hb10⟩; have hd10 := Lib.hid (hd9.out.below hb10); have hbJ := Lib.hid (below_next hbI.out hb10))
      | (go_at_call 17; (with_reducible refine (hof.out _).mono ?_); rintro e w11 ⟨rfl, hb11⟩; have hd11 := Lib.hid (hd10.out.below hb11); have hbK := Lib.hid (below_next hbJ.out hb11))
      | (go_at_call 17; (with_reducible refine (hop.out _).mono ?_); rintro e w12 ⟨rfl, hb12⟩; have hd12 := Lib.hid (hd11.out.below hb12); have hbL := Lib.hid (below_next hbK.out hb12))
      | (go_at_call 15; (with_reducible refine (hbo.out _).mono ?_); rintro e w13 ⟨rfl, hb13⟩; have hd13 := Lib.hid (hd12.out.below hb13); have hbM := Lib.hid (below_next hbL.out hb13))
      | (go_at_call 10; (with_reducible refine (known_any _).mono ?_); rintro e w14 ⟨rfl, hb14⟩; have hd14 := Lib.hid (hd13.out.below hb14); have hbN := Lib.hid (below_next hbM.out hb14)))
  go_wp2
  go_ret
  exact ⟨rfl, hbN.out⟩
set_option maxHeartbeats 8000000 in
theorem back_false (m : Md) (p : Bool) (n : Int) (hw : (Lit.int .i64 n).wf = true) (on : Bool) (x : Int) (hx : (Lit.int .u8 x).wf = true) (hk : known p n = false) (W : World) : Calls Try.prog 6 #[.agg (mA m), .bool p, .int .i64 n, .bool on, .int .u8 x] W (Yes W) := by
  have hx0 := byte_in hx
  have hg1 := fun w' => get_any m p n hw w'
  have hp1 := fun w' => put_any m p n hw on w'
  have hg2 := fun w' => get_any (m.put p n on) p n hw w'
  have hp2 := fun w' => put_any (m.put p n on) p n hw on w'
  have hp3 := fun w' => put_any (m.put p n on) p n hw (m.has p n) w'
  unfold PutIs at hp1 hp2 hp3
  unfold GetIs at hg1 hg2
  rw [put_put] at hp2 hp3
  rw [put_has] at hp3
  rw [hk] at hp1 hp2 hp3 hg1 hg2
  rw [has_none hk, put_none hk] at hg2
  rw [put_none hk] at hp1 hp2 hp3
  rw [has_none hk] at hp3 hg1
  generalize m.has p n = was at *
  have hbt := fun w' => bits_any m w'
  have hof := fun w' => of_any m.bits (bits_ge m) (bits_lt m) w'
  rw [of_bits] at hof
  generalize m.bits = B at hbt hof
  have hop := fun w' => of_any x hx0.1 hx0.2 w'
  have hbo := fun w' => bits_any (ofBits x) w'
  rw [bits_of hx0.1 hx0.2] at hbo
  generalize ofBits x = c at hop hbo
  obtain ⟨c0, c1, c2, c3, c4, c5, c6, c7⟩ := c
  have hb0 := Lib.hid (below_new W (.cells (mA m) 23))
  have hd0 := Lib.hid (MB.made W m)
  obtain ⟨a0, a1, a2, a3, a4, a5, a6, a7⟩ := m
  replace hg1 := Lib.hid hg1
  replace hp1 := Lib.hid hp1
  replace hg2 := Lib.hid hg2
  replace hp2 := Lib.hid hp2
  replace hp3 := Lib.hid hp3
  replace hbt := Lib.hid (show ∀ w', Calls Try.prog 15 #[.agg #[.bool a0, .bool a1, .bool a2, .bool a3, .bool a4, .bool a5, .bool a6, .bool a7]] w' (Tup (.int .u8 B) w') from hbt)
  replace hbo := Lib.hid (show ∀ w', Calls Try.prog 15 #[.agg #[.bool c0, .bool c1, .bool c2, .bool c3, .bool c4, .bool c5, .bool c6, .bool c7]] w' (Tup (.int .u8 x) w') from hbo)
  replace hof := Lib.hid (show ∀ w', Calls Try.prog 17 #[.int .u8 B] w' (Tup (.agg #[.bool a0, .bool a1, .bool a2, .bool a3, .bool a4, .bool a5, .bool a6, .bool a7]) w') from hof)
  replace hop := Lib.hid (show ∀ w', Calls Try.prog 17 #[.int .u8 x] w' (Tup (.agg #[.bool c0, .bool c1, .bool c2, .bool c3, .bool c4, .bool c5, .bool c6, .bool c7]) w') from hop)
  clear hx hx0 hw hk
  go_enter Try.func6, Try.ntmps6
  go_wp2_with (first
    | (with_reducible show wpList _ _ _ (⟨some 22, .load _ (.tmp 5), _, _, _, _⟩ :: _) _ _; go_must (refine wpList_load_m rfl (.tmp 5) rfl rfl hd0.out ?_))
    | (go_at_call 11; (with_reducible refine (hg1.out _).mono ?_); rintro e w1 ⟨rfl, hb1⟩; have hd1 := Lib.hid (hd0.out.below hb1); have hbA := Lib.hid (below_next hb0.out hb1); clear hb1 hd0 hb0)
    | (with_reducible show wpList _ _ _ (⟨some 29, .load _ (.tmp 5), _, _, _, _⟩ :: _) _ _; go_must (refine wpList_load_m rfl (.tmp 5) rfl rfl hd1.out ?_))
    | (go_at_call 8; (with_reducible refine (hp1.out _).mono ?_); rintro e w2 ⟨rfl, hb2⟩; have hd2 := Lib.hid (hd1.out.below hb2); have hbB := Lib.hid (below_next hbA.out hb2); have hz2 := Lib.hid (MB.zero w2); clear hb2 hd1 hbA)
    | (with_reducible show wpList _ _ _ (⟨none, .store _ (.tmp 13) _, _, _, _, _⟩ :: _) _ _; go_must (refine wpList_store_m rfl (.tmp 13) (.tmp 34) rfl rfl rfl hz2.out ?_); intro w3 hx3 ho3; go_must (replace hx3 := Lib.hid hx3; have hbC := Lib.hid (made_store hbB.out ho3); have hd3 := Lib.hid (kept_store hd2.out ho3); clear ho3 hz2 hbB hd2))
    | (with_reducible show wpList _ _ _ (⟨some 37, .load _ (.tmp 13), _, _, _, _⟩ :: _) _ _; go_must (refine wpList_load_m rfl (.tmp 13) rfl rfl hx3.out ?_))
    | (go_at_call 11; (with_reducible refine (hg2.out _).mono ?_); rintro e w4 ⟨rfl, hb4⟩; have hx4 := Lib.hid (hx3.out.below hb4); have hd4 := Lib.hid (hd3.out.below hb4); have hbD := Lib.hid (below_next hbC.out hb4); clear hb4 hx3 hd3 hbC)
    | (with_reducible show wpList _ _ _ (⟨some 44, .load _ (.tmp 13), _, _, _, _⟩ :: _) _ _; go_must (refine wpList_load_m rfl (.tmp 13) rfl rfl hx4.out ?_))
    | (go_at_call 8; (with_reducible refine (hp2.out _).mono ?_); rintro e w5 ⟨rfl, hb5⟩; have hx5 := Lib.hid (hx4.out.below hb5); have hd5 := Lib.hid (hd4.out.below hb5); have hbE := Lib.hid (below_next hbD.out hb5); have hz5 := Lib.hid (MB.zero w5); clear hb5 hx4 hd4 hbD)
    | (with_reducible show wpList _ _ _ (⟨none, .store _ (.tmp 17) _, _, _, _, _⟩ :: _) _ _; go_must (refine wpList_store_m rfl (.tmp 17) (.tmp 49) rfl rfl rfl hz5.out ?_); intro w6 hy6 ho6; go_must (replace hy6 := Lib.hid hy6; have hbF := Lib.hid (made_store hbE.out ho6); have hx6 := Lib.hid (kept_store hx5.out ho6); have hd6 := Lib.hid (kept_store hd5.out ho6); clear ho6 hz5 hbE hx5 hd5))
    | (with_reducible show wpList _ _ _ (⟨some 52, .load _ (.tmp 13), _, _, _, _⟩ :: _) _ _; go_must (refine wpList_load_m rfl (.tmp 13) rfl rfl hx6.out ?_))
    | (go_at_call 8; (with_reducible refine (hp3.out _).mono ?_); rintro e w7 ⟨rfl, hb7⟩; have hx7 := Lib.hid (hx6.out.below hb7); have hy7 := Lib.hid (hy6.out.below hb7); have hd7 := Lib.hid (hd6.out.below hb7); have hbG := Lib.hid (below_next hbF.out hb7); have hz7 := Lib.hid (MB.zero w7); clear hb7 hx6 hy6 hd6 hbF)
    | (with_reducible show wpList _ _ _ (⟨none, .store _ (.tmp 19) _, _, _, _, _⟩ :: _) _ _; go_must (refine wpList_store_m rfl (.tmp 19) (.tmp 57) rfl rfl rfl hz7.out ?_); intro w8 hz8 ho8; go_must (replace hz8 := Lib.hid hz8; have hbH := Lib.hid (made_store hbG.out ho8); have hx8 := Lib.hid (kept_store hx7.out ho8); have hy8 := Lib.hid (kept_store hy7.out ho8); have hd8 := Lib.hid (kept_store hd7.out ho8); clear ho8 hz7 hbG hx7 hy7 hd7; have hd9 := Lib.hid hd8.out.drew; have hbI := Lib.hid (below_drew hbH.out)))
    | (with_reducible show wpList _ _ _ (⟨some 79, .load _ (.tmp 13), _, _, _, _⟩ :: _) _ _; go_must (refine wpList_load_m rfl (.tmp 13) rfl rfl hx8.out ?_))
    | (with_reducible show wpList _ _ _ (⟨some 80, .load _ (.tmp 5), _, _, _, _⟩ :: _) _ _; go_must (refine wpList_load_m rfl (.tmp 5) rfl rfl hd8.out ?_))
    | (with_reducible show wpList _ _ _ (⟨some 81, .binOp _ _ _ _ _, _, _, _, _⟩ :: _) _ _; go_must (refine wpList_neq_m rfl (.tmp 79) (.tmp 80) rfl rfl rfl ?_))
    | (with_reducible show wpList _ _ _ (⟨some 85, .load _ (.tmp 13), _, _, _, _⟩ :: _) _ _; go_must (refine wpList_load_m rfl (.tmp 13) rfl rfl hx8.out ?_))
    | (with_reducible show wpList _ _ _ (⟨some 86, .load _ (.tmp 17), _, _, _, _⟩ :: _) _ _; go_must (refine wpList_load_m rfl (.tmp 17) rfl rfl hy8.out ?_))
    | (with_reducible show wpList _ _ _ (⟨some 87, .binOp _ _ _ _ _, _, _, _, _⟩ :: _) _ _; go_must (refine wpList_neq_m rfl (.tmp 85) (.tmp 86) rfl rfl rfl ?_))
    | (with_reducible show wpList _ _ _ (⟨some 90, .load _ (.tmp 19), _, _, _, _⟩ :: _) _ _; go_must (refine wpList_load_m rfl (.tmp 19) rfl rfl hz8.out ?_))
    | (with_reducible show wpList _ _ _ (⟨some 91, .load _ (.tmp 5), _, _, _, _⟩ :: _) _ _; go_must (refine wpList_load_m rfl (.tmp 5) rfl rfl hd8.out ?_))
    | (with_reducible show wpList _ _ _ (⟨some 92, .binOp _ _ _ _ _, _, _, _, _⟩ :: _) _ _; go_must (refine wpList_neq_m rfl (.tmp 90) (.tmp 91) rfl rfl rfl ?_)))
  go_region_held3 (fun w' => w'.cell? ⟨W.heap.size, 0, none⟩ = some (.bool a0) ∧ w'.cell? ⟨W.heap.size, 1, none⟩ = some (.bool a1) ∧ w'.cell? ⟨W.heap.size, 2, none⟩ = some (.bool a2) ∧ w'.cell? ⟨W.heap.size, 3, none⟩ = some (.bool a3) ∧ w'.cell? ⟨W.heap.size, 4, none⟩ = some (.bool a4) ∧ w'.cell? ⟨W.heap.size, 5, none⟩ = some (.bool a5) ∧ w'.cell? ⟨W.heap.size, 6, none⟩ = some (.bool a6) ∧ w'.cell? ⟨W.heap.size, 7, none⟩ = some (.bool a7))
    (first | exact cells8 hd9.out | exact cells8 hd10.out | exact cells8 hd11.out | exact cells8 hd12.out | exact cells8 hd13.out | exact cells8 hd14.out)
    (first
      | (go_at_call 15; (with_reducible refine (hbt.out _).mono ?_); rintro e w10 ⟨rfl, hb10⟩; have hd10 := Lib.hid (hd9.out.below hb10); have hbJ := Lib.hid (below_next hbI.out hb10))
      | (go_at_call 17; (with_reducible refine (hof.out _).mono ?_); rintro e w11 ⟨rfl, hb11⟩; have hd11 := Lib.hid (hd10.out.below hb11); have hbK := Lib.hid (below_next hbJ.out hb11))
      | (go_at_call 17; (with_reducible refine (hop.out _).mono ?_); rintro e w12 ⟨rfl, hb12⟩; have hd12 := Lib.hid (hd11.out.below hb12); have hbL := Lib.hid (below_next hbK.out hb12))
      | (go_at_call 15; (with_reducible refine (hbo.out _).mono ?_); rintro e w13 ⟨rfl, hb13⟩; have hd13 := Lib.hid (hd12.out.below hb13); have hbM := Lib.hid (below_next hbL.out hb13))
      | (go_at_call 10; (with_reducible refine (known_any _).mono ?_); rintro e w14 ⟨rfl, hb14⟩; have hd14 := Lib.hid (hd13.out.below hb14); have hbN := Lib.hid (below_next hbM.out hb14)))
  go_wp2
  go_ret
  exact ⟨rfl, hbN.out⟩
theorem back_law (m : Md) (p : Bool) (n : Int) (hw : (Lit.int .i64 n).wf = true) (on : Bool) (x : Int) (hx : (Lit.int .u8 x).wf = true) (W : World) : Calls Try.prog 6 #[.agg (mA m), .bool p, .int .i64 n, .bool on, .int .u8 x] W (Yes W) := by
  cases hk : known p n
  · exact back_false m p n hw on x hx hk W
  · exact back_true m p n hw on x hx hk W

end Go.Proofs.Ytnammlihpjjdoaa.Mds
