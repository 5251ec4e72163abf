/-
  keys: KeysRunes.
-/
import Derived.Test.YtkmedfffmalbgaaDoorKKnow
namespace Go.Proofs.YtkmedfffmalbgaaDoor.Kys
open Go Go.RowKit Go.Proofs.YtkmedfffmalbgaaDoor.Com Go.Proofs.YtkmedfffmalbgaaDoor.Mds

/-- Bytes as a text: the operation's run. -/
theorem text_of {w : World} {ao : Option Addr} {l : List Int} (h : Nums w w.heap.size .u8 ao l) (c : Nat) : (convert 26 9 (.slice ao l.length c)).run Tryd.prog w = .ok (.string (strOfNums l)) w :=
  run_text h Tryd.underlying26 Tryd.underlying5 Tryd.underlying9 c
theorem nums_drew {w : World} {k : IntKind} {ao : Option Addr} {l : List Int} (h : Nums w w.heap.size k ao l) : Nums w.drew w.drew.heap.size k ao l := h.only (only_drew [] w) (Nat.le_refl _) (by simp)
theorem str_app (l m : List Int) : strOfNums l ++ strOfNums m = strOfNums (l ++ m) := by
  apply ByteArray.ext
  simp [strOfNums, ByteArray.data_append]

/-- Behind a call more may be held. -/
theorem held_mono {P : Program} {md : Region.Mode} {ops : Array Oper} {Q : Exit → Act → World → Prop} {S S' : World → Prop} (h : ∀ w, S' w → S w) : ∀ (fuel : Nat) (listed : Array Bool) (a : Act) (w : World), wpAnyH P md ops Q S' fuel listed a w → wpAnyH P md ops Q S fuel listed a w
  | 0, _, _, _, H => H
  | fuel + 1, _, _, _, H => ⟨H.1, fun i hi => wpOp_mono (fun a' w' h' => ⟨h _ h'.1, held_mono h fuel _ a' w' h'.2⟩) (H.2 i hi)⟩

theorem rune_key_ok {r : Int} (hr : -2147483648 ≤ r ∧ r ≤ 2147483647) {md : Int} (h : 0 ≤ md ∧ md ≤ 7) : (Ky.mk 1 r 0 md).Ok := key_ok (by decide) hr (by decide) (by omega)
theorem rune_may {r : Int} (h : mayR r) {md : Int} (hm : md ≤ 7) : (Ky.mk 1 r 0 md).may := ⟨show (1 : Int) ≤ 1 by decide, show (1 : Int) ≤ 16 by decide, hm, .inl ⟨rfl, h, rfl⟩⟩
theorem rune_not {r : Int} (h : ¬ mayR r) {md : Int} : ¬ (Ky.mk 1 r 0 md).may := by
  rintro ⟨_, _, _, h1 | h1 | h1⟩
  · exact h h1.2.1
  · exact absurd h1.1 (show ¬ (1 : Int) = 12 by decide)
  · exact h1.1 rfl
theorem rune_enc0 (c n : Bool) (r : Int) : encK c n ⟨1, r, 0, 0⟩ = encF r := rfl
theorem rune_enc1 (c n : Bool) (r : Int) : encK c n ⟨1, r, 0, 1⟩ = encF r := rfl
theorem rune_enc2 (c n : Bool) (r : Int) : encK c n ⟨1, r, 0, 2⟩ = [27] ++ encF r := rfl
set_option maxHeartbeats 2000000 in
theorem runes_no (m : Md) (r : Int) (hr : -2147483648 ≤ r ∧ r ≤ 2147483647) (h : ¬ mayR r) (W : World) (hT : Tab W) : Calls Tryd.prog 6 #[.agg (mA m), .int .i32 r] W (Yes W) := by
  have hb0 := Lib.hid (below_new W (.cells (mA m) 23))
  have hd0 := Lib.hid (MB.made W m)
  have hA := Lib.hid (show ∀ w', Calls Tryd.prog 17 #[.agg (mA m), .agg #[.int .u8 1, .int .i32 r, .int .i64 0, .int .u8 0]] w' (NoKey w') from fun w' => encode_no m ⟨1, r, 0, 0⟩ (rune_key_ok hr (by decide)) (rune_not h) w')
  have hB := Lib.hid (show ∀ w', Calls Tryd.prog 17 #[.agg (mA m), .agg #[.int .u8 1, .int .i32 r, .int .i64 0, .int .u8 2]] w' (NoKey w') from fun w' => encode_no m ⟨1, r, 0, 2⟩ (rune_key_ok hr (by decide)) (rune_not h) w')
  have hC := Lib.hid (show ∀ w', Calls Tryd.prog 17 #[.agg (mA m), .agg #[.int .u8 1, .int .i32 r, .int .i64 0, .int .u8 1]] w' (NoKey w') from fun w' => encode_no m ⟨1, r, 0, 1⟩ (rune_key_ok hr (by decide)) (rune_not h) w')
  replace hT := Lib.hid hT
  rcases rune_ways r with ⟨h1, e⟩ | ⟨h1, h2, e⟩ | ⟨h1, h2, e⟩ | ⟨h1, h2, e⟩ | ⟨h1, h2, e⟩
  case inr.inr.inl => exact absurd e h
  case inr.inr.inr.inr => exact absurd e h
  case' inr.inr.inr.inl =>
    have hx : decide (r < 55296) = false := decide_eq_false (by omega)
    have hy : decide (57343 < r) = false := decide_eq_false (by omega)
  all_goals
    clear h e
    go_enter Tryd.func6, Tryd.ntmps6
    go_wp2_with (first
      | (with_reducible show wpList _ _ _ (⟨some 13, .load _ (.tmp 2), _, _, _, _⟩ :: _) _ _; go_must (refine wpList_load_m rfl (.tmp 2) rfl rfl hd0.out ?_))
      | (go_at_call 17; (with_reducible refine (hA.out _).mono ?_); rintro e w1 ⟨rfl, hc1⟩; have hd1 := Lib.hid (hd0.out.below hc1); have hb1 := Lib.hid (below_next hb0.out hc1); clear hc1 hd0 hb0)
      | (with_reducible show wpList _ _ _ (⟨some 20, .load _ (.tmp 2), _, _, _, _⟩ :: _) _ _; go_must (refine wpList_load_m rfl (.tmp 2) rfl rfl hd1.out ?_))
      | (go_at_call 17; (with_reducible refine (hB.out _).mono ?_); rintro e w2 ⟨rfl, hc2⟩; have hd2 := Lib.hid (hd1.out.below hc2); have hb2 := Lib.hid (below_next hb1.out hc2); clear hc2 hd1 hb1)
      | (with_reducible show wpList _ _ _ (⟨some 27, .load _ (.tmp 2), _, _, _, _⟩ :: _) _ _; go_must (refine wpList_load_m rfl (.tmp 2) rfl rfl hd2.out ?_))
      | (go_at_call 17; (with_reducible refine (hC.out _).mono ?_); rintro e w3 ⟨rfl, hc3⟩; have hb3 := Lib.hid (below_next hb2.out hc3); clear hc3 hb2)
      | (go_at_call 8; (with_reducible refine (known_any _ (hT.out.below hb3.out)).mono ?_); rintro e w4 ⟨rfl, hc4⟩))
    go_ret
    exact ⟨rfl, below_next hb3.out hc4⟩
set_option maxHeartbeats 8000000 in
theorem runes_yes (m : Md) (r : Int) (hr : -2147483648 ≤ r ∧ r ≤ 2147483647) (h : mayR r) (W : World) (hT : Tab W) : Calls Tryd.prog 6 #[.agg (mA m), .int .i32 r] W (Yes W) := by
  have hb0 := Lib.hid (below_new W (.cells (mA m) 23))
  have hd0 := Lib.hid (MB.made W m)
  have hA : ∀ w', Tab w' → Calls Tryd.prog 17 #[.agg (mA m), .agg #[.int .u8 1, .int .i32 r, .int .i64 0, .int .u8 0]] w' (EncIs (encF r) w') := fun w' ht => encode_yes m ⟨1, r, 0, 0⟩ (rune_key_ok hr (by decide)) (rune_may h (by decide)) w' ht
  have hB : ∀ w', Tab w' → Calls Tryd.prog 17 #[.agg (mA m), .agg #[.int .u8 1, .int .i32 r, .int .i64 0, .int .u8 2]] w' (EncIs ([27] ++ encF r) w') := fun w' ht => encode_yes m ⟨1, r, 0, 2⟩ (rune_key_ok hr (by decide)) (rune_may h (by decide)) w' ht
  have hC : ∀ w', Tab w' → Calls Tryd.prog 17 #[.agg (mA m), .agg #[.int .u8 1, .int .i32 r, .int .i64 0, .int .u8 1]] w' (EncIs (encF r) w') := fun w' ht => encode_yes m ⟨1, r, 0, 1⟩ (rune_key_ok hr (by decide)) (rune_may h (by decide)) w' ht
  have hD : ∀ w', Calls Tryd.prog 18 #[.int .i32 r] w' (Put w'.heap.size (encF r) w') := fun w' => encode_any r w'
  obtain ⟨L, hL⟩ : ∃ L, L = encF r := ⟨_, rfl⟩
  rw [← hL] at hA hB hC hD
  have hLl : L.length ≤ 4 := by rw [hL]; exact (enc_len r).2
  clear hL
  have hs2 := (str_app [27] L).symm
  rw [show strOfNums [27] = { data := #[27] } from rfl] at hs2
  have hadd : ∀ w', (Op.stringOp .add { data := #[27] } (strOfNums L)).run Tryd.prog w' = .ok (.string (strOfNums ([27] ++ L))) w' := fun w' => by
    rw [run_string_add_sum w' _ _ (by rw [strOfNums_size]; simp [ByteArray.size]; omega), hs2]
  obtain ⟨L2, hL2⟩ : ∃ L2, L2 = [27] ++ L := ⟨_, rfl⟩
  rw [← hL2] at hB hadd
  clear hL2 hs2
  replace hA := Lib.hid hA
  replace hB := Lib.hid hB
  replace hC := Lib.hid hC
  replace hD := Lib.hid hD
  replace hT := Lib.hid hT
  obtain ⟨h0, h1, h2 | h2⟩ := h
  all_goals
    go_enter Tryd.func6, Tryd.ntmps6
    go_wp2_with (first
      | (with_reducible show wpList _ _ _ (⟨some 13, .load _ (.tmp 2), _, _, _, _⟩ :: _) _ _; go_must (refine wpList_load_m rfl (.tmp 2) rfl rfl hd0.out ?_))
      | (go_at_call 17; (with_reducible refine (hA.out _ (hT.out.below hb0.out)).mono ?_); rintro e w1 ⟨v1, rfl, hr1, hc1⟩; obtain ⟨a1, c1, rfl, _, _, hn1⟩ := hr1.shape; replace hn1 := Lib.hid hn1; have hd1 := Lib.hid (hd0.out.below hc1); have hb1 := Lib.hid (below_next hb0.out hc1); clear hc1 hd0 hb0 hr1)
      | (with_reducible show wpList _ _ _ (⟨some 20, .load _ (.tmp 2), _, _, _, _⟩ :: _) _ _; go_must (refine wpList_load_m rfl (.tmp 2) rfl rfl hd1.out ?_))
      | (go_at_call 17; (with_reducible refine (hB.out _ (hT.out.below hb1.out)).mono ?_); rintro e w2 ⟨v2, rfl, hr2, hc2⟩; obtain ⟨a2, c2, rfl, _, _, hn2⟩ := hr2.shape; replace hn2 := Lib.hid hn2; replace hn1 := Lib.hid (nums_next hn1.out hc2); have hd2 := Lib.hid (hd1.out.below hc2); have hb2 := Lib.hid (below_next hb1.out hc2); clear hc2 hd1 hb1 hr2)
      | (with_reducible show wpList _ _ _ (⟨some 27, .load _ (.tmp 2), _, _, _, _⟩ :: _) _ _; go_must (refine wpList_load_m rfl (.tmp 2) rfl rfl hd2.out ?_))
      | (go_at_call 17; (with_reducible refine (hC.out _ (hT.out.below hb2.out)).mono ?_); rintro e w3 ⟨v3, rfl, hr3, hc3⟩; obtain ⟨a3, c3, rfl, _, _, hn3⟩ := hr3.shape; replace hn3 := Lib.hid (nums_drew hn3); replace hn1 := Lib.hid (nums_drew (nums_next hn1.out hc3)); replace hn2 := Lib.hid (nums_drew (nums_next hn2.out hc3)); have hb3 := Lib.hid (below_drew (below_next hb2.out hc3)); clear hc3 hb2 hr3))
    have hT3 := Lib.hid (hT.out.below hb3.out)
    clear hd2 hT hA hB hC
    refine wp_region_held_drew (S := fun w' => ((convert 26 9 (.slice a1 L.length c1)).run Tryd.prog w' = .ok (.string (strOfNums L)) w') ∧ ((convert 26 9 (.slice a2 L2.length c2)).run Tryd.prog w' = .ok (.string (strOfNums L2)) w') ∧ ((convert 26 9 (.slice a3 L.length c3)).run Tryd.prog w' = .ok (.string (strOfNums L)) w')) (by kernel_rfl) (by exact ⟨text_of hn1.out c1, text_of hn2.out c2, text_of hn3.out c3⟩) (fun hH => ?_)
    refine wpAnyH_take (i := 0) (oi := ⟨some 62, _, _, _, _, _⟩) (v := ?_) rfl (by kernel_rfl) (by kernel_rfl) (by kernel_rfl) (fun _ _ _ h => h) (Or.inl ⟨by rfl, ?_⟩) hH ?_
    rotate_left 1
    · (intro w hSw; (try dsimp only at hSw); go_simp) <;> with_reducible rfl
    try simp only [Act.put, List.setIfInBounds_toArray, List.set_cons_zero, List.set_cons_succ]
    refine wpAnyH_take (i := 1) (oi := ⟨some 63, _, _, _, _, _⟩) (v := ?_) rfl (by kernel_rfl) (by kernel_rfl) (by kernel_rfl) (fun _ _ _ h => h) (Or.inl ⟨by rfl, ?_⟩) hH ?_
    rotate_left 1
    · (intro w hSw; (try dsimp only at hSw); go_simp) <;> with_reducible rfl
    try simp only [Act.put, List.setIfInBounds_toArray, List.set_cons_zero, List.set_cons_succ]
    refine wpAnyH_take (i := 2) (oi := ⟨some 64, _, _, _, _, _⟩) (v := ?_) rfl (by kernel_rfl) (by kernel_rfl) (by kernel_rfl) (fun _ _ _ h => h) (Or.inl ⟨by rfl, ?_⟩) hH ?_
    rotate_left 1
    · (intro w hSw; (try dsimp only at hSw); go_simp) <;> with_reducible rfl
    try simp only [Act.put, List.setIfInBounds_toArray, List.set_cons_zero, List.set_cons_succ]
    refine wpAnyH_take (i := 3) (oi := ⟨some 65, _, _, _, _, _⟩) (v := ?_) rfl (by kernel_rfl) (by kernel_rfl) (by kernel_rfl) (fun _ _ _ h => h) (Or.inl ⟨by rfl, ?_⟩) hH ?_
    rotate_left 1
    · (intro w hSw; (try dsimp only at hSw); go_simp) <;> with_reducible rfl
    try simp only [Act.put, List.setIfInBounds_toArray, List.set_cons_zero, List.set_cons_succ]
    refine wpAnyH_take (i := 4) (oi := ⟨some 66, _, _, _, _, _⟩) (v := ?_) rfl (by kernel_rfl) (by kernel_rfl) (by kernel_rfl) (fun _ _ _ h => h) (Or.inl ⟨by rfl, ?_⟩) hH ?_
    rotate_left 1
    · (intro w hSw; (try dsimp only at hSw); go_simp) <;> with_reducible rfl
    try simp only [Act.put, List.setIfInBounds_toArray, List.set_cons_zero, List.set_cons_succ]
    refine wpAnyH_take (i := 5) (oi := ⟨some 67, _, _, _, _, _⟩) (v := ?_) rfl (by kernel_rfl) (by kernel_rfl) (by kernel_rfl) (fun _ _ _ h => h) (Or.inl ⟨by rfl, ?_⟩) hH ?_
    rotate_left 1
    · (intro w hSw; (try dsimp only at hSw); go_simp) <;> with_reducible rfl
    try simp only [Act.put, List.setIfInBounds_toArray, List.set_cons_zero, List.set_cons_succ]
    refine wpAnyH_ready (rs := [6]) (by kernel_rfl) (by simp) ?_
    refine AllReadyH.cons (o := ⟨some 68, _, _, _, _, _⟩) rfl (fun K hK => ?_) AllReadyH.nil
    go_simp
    go_at_call 18; refine (hD.out _).mono ?_; rintro e w4 ⟨v4, rfl, hr4, hc4⟩; obtain ⟨a4, c4, rfl, _, _, hn4⟩ := hr4.shape; replace hn1 := Lib.hid (nums_next hn1.out hc4); replace hn2 := Lib.hid (nums_next hn2.out hc4); replace hn3 := Lib.hid (nums_next hn3.out hc4); clear hr4
    refine hK.out _ _ (by exact ⟨text_of hn1.out c1, text_of hn2.out c2, text_of hn3.out c3⟩) (fun hH => ?_)
    clear hK K
    refine held_mono (S' := fun w' => (((convert 26 9 (.slice a1 L.length c1)).run Tryd.prog w' = .ok (.string (strOfNums L)) w') ∧ ((convert 26 9 (.slice a2 L2.length c2)).run Tryd.prog w' = .ok (.string (strOfNums L2)) w') ∧ ((convert 26 9 (.slice a3 L.length c3)).run Tryd.prog w' = .ok (.string (strOfNums L)) w')) ∧ ((convert 26 9 (.slice a4 L.length c4)).run Tryd.prog w' = .ok (.string (strOfNums L)) w')) (fun _ h => h.1) _ _ _ _ ?_
    replace hH := And.intro hH (text_of hn4 c4)
    try simp only [Act.put, List.setIfInBounds_toArray, List.set_cons_zero, List.set_cons_succ]
    refine wpAnyH_take (i := 7) (oi := ⟨some 69, _, _, _, _, _⟩) (v := ?_) rfl (by kernel_rfl) (by kernel_rfl) (by kernel_rfl) (fun _ _ _ h => h) (Or.inl ⟨by rfl, ?_⟩) hH ?_
    rotate_left 1
    · (intro w hSw; (try dsimp only at hSw); go_simp) <;> with_reducible rfl
    try simp only [Act.put, List.setIfInBounds_toArray, List.set_cons_zero, List.set_cons_succ]
    refine wpAnyH_take (i := 8) (oi := ⟨some 70, _, _, _, _, _⟩) (v := ?_) rfl (by kernel_rfl) (by kernel_rfl) (by kernel_rfl) (fun _ _ _ h => h) (Or.inl ⟨by rfl, ?_⟩) hH ?_
    rotate_left 1
    · (intro w hSw; (try dsimp only at hSw); go_simp) <;> with_reducible rfl
    try simp only [Act.put, List.setIfInBounds_toArray, List.set_cons_zero, List.set_cons_succ]
    refine wpAnyH_take (i := 9) (oi := ⟨some 71, _, _, _, _, _⟩) (v := ?_) rfl (by kernel_rfl) (by kernel_rfl) (by kernel_rfl) (fun _ _ _ h => h) (Or.inl ⟨by rfl, ?_⟩) hH ?_
    rotate_left 1
    · (intro w hSw; (try dsimp only at hSw); go_simp) <;> with_reducible rfl
    try simp only [Act.put, List.setIfInBounds_toArray, List.set_cons_zero, List.set_cons_succ]
    refine wpAnyH_take (i := 10) (oi := ⟨some 72, _, _, _, _, _⟩) (v := ?_) rfl (by kernel_rfl) (by kernel_rfl) (by kernel_rfl) (fun _ _ _ h => h) (Or.inl ⟨by rfl, ?_⟩) hH ?_
    rotate_left 1
    · (intro w hSw; (try dsimp only at hSw); go_simp) <;> with_reducible rfl
    try simp only [Act.put, List.setIfInBounds_toArray, List.set_cons_zero, List.set_cons_succ]
    refine wpAnyH_take (i := 11) (oi := ⟨some 73, _, _, _, _, _⟩) (v := ?_) rfl (by kernel_rfl) (by kernel_rfl) (by kernel_rfl) (fun _ _ _ h => h) (Or.inl ⟨by rfl, ?_⟩) hH ?_
    rotate_left 1
    · (intro w hSw; (try dsimp only at hSw); go_simp) <;> with_reducible rfl
    try simp only [Act.put, List.setIfInBounds_toArray, List.set_cons_zero, List.set_cons_succ]
    refine wpAnyH_take (i := 12) (oi := ⟨some 74, _, _, _, _, _⟩) (v := ?_) rfl (by kernel_rfl) (by kernel_rfl) (by kernel_rfl) (fun _ _ _ h => h) (Or.inl ⟨by rfl, ?_⟩) hH ?_
    rotate_left 1
    · (intro w hSw; (try dsimp only at hSw); go_simp) <;> with_reducible rfl
    try simp only [Act.put, List.setIfInBounds_toArray, List.set_cons_zero, List.set_cons_succ]
    refine wpAnyH_take (i := 13) (oi := ⟨some 75, _, _, _, _, _⟩) (v := ?_) rfl (by kernel_rfl) (by kernel_rfl) (by kernel_rfl) (fun _ _ _ h => h) (Or.inl ⟨by rfl, ?_⟩) hH ?_
    rotate_left 1
    · (intro w hSw; (try dsimp only at hSw); go_simp) <;> with_reducible rfl
    try simp only [Act.put, List.setIfInBounds_toArray, List.set_cons_zero, List.set_cons_succ]
    refine wpAnyH_take (i := 14) (oi := ⟨some 76, _, _, _, _, _⟩) (v := ?_) rfl (by kernel_rfl) (by kernel_rfl) (by kernel_rfl) (fun _ _ _ h => h) (Or.inl ⟨by rfl, ?_⟩) hH ?_
    rotate_left 1
    · (intro w hSw; (try dsimp only at hSw); go_simp) <;> with_reducible rfl
    try simp only [Act.put, List.setIfInBounds_toArray, List.set_cons_zero, List.set_cons_succ]
    refine wpAnyH_take (i := 15) (oi := ⟨some 77, _, _, _, _, _⟩) (v := ?_) rfl (by kernel_rfl) (by kernel_rfl) (by kernel_rfl) (fun _ _ _ h => h) (Or.inl ⟨by rfl, ?_⟩) hH ?_
    rotate_left 1
    · (intro w hSw; (try dsimp only at hSw); go_simp) <;> with_reducible rfl
    try simp only [Act.put, List.setIfInBounds_toArray, List.set_cons_zero, List.set_cons_succ]
    refine wpAnyH_take (i := 16) (oi := ⟨some 78, _, _, _, _, _⟩) (v := ?_) rfl (by kernel_rfl) (by kernel_rfl) (by kernel_rfl) (fun _ _ _ h => h) (Or.inl ⟨by rfl, ?_⟩) hH ?_
    rotate_left 1
    · (intro w hSw; (try dsimp only at hSw); go_simp) <;> with_reducible rfl
    try simp only [Act.put, List.setIfInBounds_toArray, List.set_cons_zero, List.set_cons_succ]
    refine wpAnyH_take (i := 17) (oi := ⟨some 79, _, _, _, _, _⟩) (v := ?_) rfl (by kernel_rfl) (by kernel_rfl) (by kernel_rfl) (fun _ _ _ h => h) (Or.inl ⟨by rfl, ?_⟩) hH ?_
    rotate_left 1
    · (intro w hSw; (try dsimp only at hSw); go_simp) <;> with_reducible rfl
    try simp only [Act.put, List.setIfInBounds_toArray, List.set_cons_zero, List.set_cons_succ]
    refine wpAnyH_take (i := 18) (oi := ⟨some 80, _, _, _, _, _⟩) (v := ?_) rfl (by kernel_rfl) (by kernel_rfl) (by kernel_rfl) (fun _ _ _ h => h) (Or.inl ⟨by rfl, ?_⟩) hH ?_
    rotate_left 1
    · (intro w hSw; (try dsimp only at hSw); go_simp) <;> with_reducible rfl
    try simp only [Act.put, List.setIfInBounds_toArray, List.set_cons_zero, List.set_cons_succ]
    refine wpAnyH_take (i := 19) (oi := ⟨some 81, _, _, _, _, _⟩) (v := ?_) rfl (by kernel_rfl) (by kernel_rfl) (by kernel_rfl) (fun _ _ _ h => h) (Or.inl ⟨by rfl, ?_⟩) hH ?_
    rotate_left 1
    · (intro w hSw; (try dsimp only at hSw); go_simp) <;> with_reducible rfl
    try simp only [Act.put, List.setIfInBounds_toArray, List.set_cons_zero, List.set_cons_succ]
    refine wpAnyH_take (i := 20) (oi := ⟨some 82, _, _, _, _, _⟩) (v := ?_) rfl (by kernel_rfl) (by kernel_rfl) (by kernel_rfl) (fun _ _ _ h => h) (Or.inl ⟨by rfl, ?_⟩) hH ?_
    rotate_left 1
    · (intro w hSw; (try dsimp only at hSw); go_simp) <;> with_reducible rfl
    try simp only [Act.put, List.setIfInBounds_toArray, List.set_cons_zero, List.set_cons_succ]
    refine wpAnyH_take (i := 21) (oi := ⟨some 83, _, _, _, _, _⟩) (v := ?_) rfl (by kernel_rfl) (by kernel_rfl) (by kernel_rfl) (fun _ _ _ h => h) (Or.inl ⟨by rfl, ?_⟩) hH ?_
    rotate_left 1
    · (intro w hSw; (try dsimp only at hSw); go_simp) <;> with_reducible rfl
    try simp only [Act.put, List.setIfInBounds_toArray, List.set_cons_zero, List.set_cons_succ]
    refine wpAnyH_take (i := 22) (oi := ⟨some 84, _, _, _, _, _⟩) (v := ?_) rfl (by kernel_rfl) (by kernel_rfl) (by kernel_rfl) (fun _ _ _ h => h) (Or.inl ⟨by rfl, ?_⟩) hH ?_
    rotate_left 1
    · (intro w hSw; (try dsimp only at hSw); go_simp) <;> with_reducible rfl
    try simp only [Act.put, List.setIfInBounds_toArray, List.set_cons_zero, List.set_cons_succ]
    refine wpAnyH_take (i := 23) (oi := ⟨some 85, _, _, _, _, _⟩) (v := ?_) rfl (by kernel_rfl) (by kernel_rfl) (by kernel_rfl) (fun _ _ _ h => h) (Or.inl ⟨by rfl, ?_⟩) hH ?_
    rotate_left 1
    · (intro w hSw; (try dsimp only at hSw); go_simp) <;> with_reducible rfl
    try simp only [Act.put, List.setIfInBounds_toArray, List.set_cons_zero, List.set_cons_succ]
    refine wpAnyH_take (i := 24) (oi := ⟨some 86, _, _, _, _, _⟩) (v := ?_) rfl (by kernel_rfl) (by kernel_rfl) (by kernel_rfl) (fun _ _ _ h => h) (Or.inl ⟨by rfl, ?_⟩) hH ?_
    rotate_left 1
    · (intro w hSw; (try dsimp only at hSw); go_simp) <;> with_reducible rfl
    try simp only [Act.put, List.setIfInBounds_toArray, List.set_cons_zero, List.set_cons_succ]
    refine wpAnyH_take (i := 25) (oi := ⟨some 87, _, _, _, _, _⟩) (v := ?_) rfl (by kernel_rfl) (by kernel_rfl) (by kernel_rfl) (fun _ _ _ h => h) (Or.inl ⟨by rfl, ?_⟩) hH ?_
    rotate_left 1
    · (intro w hSw; (try dsimp only at hSw); go_simp) <;> with_reducible rfl
    try simp only [Act.put, List.setIfInBounds_toArray, List.set_cons_zero, List.set_cons_succ]
    refine wpAnyH_ready (rs := [26]) (by kernel_rfl) (by simp) ?_
    refine AllReadyH.cons (o := ⟨some 88, _, _, _, _, _⟩) rfl (fun K hK => ?_) AllReadyH.nil
    go_simp
    go_at_call 8; refine (known_any _ (hT3.out.below hc4)).mono ?_; rintro e w5 ⟨rfl, hc5⟩
    refine hK.out _ _ (by exact ⟨⟨text_of (nums_next hn1.out hc5) c1, text_of (nums_next hn2.out hc5) c2, text_of (nums_next hn3.out hc5) c3⟩, text_of (nums_next hn4 hc5) c4⟩) (fun hH => ?_)
    clear hK K
    try simp only [Act.put, List.setIfInBounds_toArray, List.set_cons_zero, List.set_cons_succ]
    refine wpAnyH_take (i := 27) (oi := ⟨some 89, _, _, _, _, _⟩) (v := ?_) rfl (by kernel_rfl) (by kernel_rfl) (by kernel_rfl) (fun _ _ _ h => h) (Or.inl ⟨by rfl, ?_⟩) hH ?_
    rotate_left 1
    · (intro w hSw; (try dsimp only at hSw); go_simp) <;> with_reducible rfl
    try simp only [Act.put, List.setIfInBounds_toArray, List.set_cons_zero, List.set_cons_succ]
    refine wpAnyH_take (i := 28) (oi := ⟨some 4, _, _, _, _, _⟩) (v := ?_) rfl (by kernel_rfl) (by kernel_rfl) (by kernel_rfl) (fun _ _ _ h => h) (Or.inl ⟨by rfl, ?_⟩) hH ?_
    rotate_left 1
    · (intro w hSw; (try dsimp only at hSw); go_simp) <;> with_reducible rfl
    try simp only [Act.put, List.setIfInBounds_toArray, List.set_cons_zero, List.set_cons_succ]
    refine wpAnyH_done (by kernel_rfl) ?_ _
    go_wp2
    go_ret
    exact ⟨rfl, below_next hb3.out (below_next hc4 hc5)⟩

theorem runes_law (m : Md) (r : Int) (hw : (Lit.int .i32 r).wf = true) (W : World) (hT : Tab W) : Calls Tryd.prog 6 #[.agg (mA m), .int .i32 r] W (Yes W) := by
  have hr : -2147483648 ≤ r ∧ r ≤ 2147483647 := by
    simp [Lit.wf, IntKind.min, IntKind.max, IntKind.signed, IntKind.bits] at hw
    omega
  by_cases h : mayR r
  · exact runes_yes m r hr h W hT
  · exact runes_no m r hr h W hT

end Go.Proofs.YtkmedfffmalbgaaDoor.Kys
