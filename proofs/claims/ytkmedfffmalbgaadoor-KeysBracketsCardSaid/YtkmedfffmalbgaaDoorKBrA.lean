/-
  keys: KeysBrackets, one way behind the loop.
-/
import Derived.Test.YtkmedfffmalbgaaDoorKLaw2
namespace Go.Proofs.YtkmedfffmalbgaaDoor.Kys
open Go Go.RowKit Go.Proofs.YtkmedfffmalbgaaDoor.Com Go.Proofs.YtkmedfffmalbgaaDoor.Mds

set_option maxHeartbeats 2000000 in
theorem brackets_none1 (a0 b0 : Option Addr) (c d : Nat) (a b : List Int) (ha : a.length ≤ 1000) (hb : b.length ≤ 1000) (hno : ¬ (∃ (ha : 0 < a.length) (hb : 0 < b.length), a[a.length - 1] = 13 ∧ b[0] = 10)) (h0 : a.length = 0) (W : World) (hna : Nums W W.heap.size .i32 a0 a) (hnb : Nums W W.heap.size .i32 b0 b) (hT : Tab W) :
    Calls Tryd.prog 7 #[.slice a0 a.length c, .slice b0 b.length d] W (Yes W) := by
  replace h0 := Lib.hid h0
  have hlit := Own.lit W W.heap.size 21 .i32 [] (Nat.le_refl _) (by simp [maxLen])
  replace hlit := Lib.hid hlit
  have hna0 := Lib.hid (hna.alloc (Nat.le_refl _) (.cells #[] 21))
  have hnb0 := Lib.hid (hnb.alloc (Nat.le_refl _) (.cells #[] 21))
  have hbA := Lib.hid (below_new W (.cells #[] 21))
  obtain ⟨all, hall⟩ : ∃ all, all = a ++ b := ⟨_, rfl⟩
  have hlen : all.length ≤ 2000 := by rw [hall, List.length_append]; omega
  have hP : ∀ (x : Option Addr) (c' : Nat) (w' : World), Nums w' w'.heap.size .i32 x all → Tab w' → Calls Tryd.prog 9 #[.agg #[.bool false, .bool false, .bool false, .bool false, .bool false, .bool false, .bool false, .bool false], .slice x all.length c'] w' (Put w'.heap.size (plainP false all) w') := fun x c' w' h1 h2 => paste_any ⟨false, false, false, false, false, false, false, false⟩ x c' all (by omega) w' h1 h2
  have hO : ∀ (x : Option Addr) (c' : Nat) (w' : World), Nums w' w'.heap.size .i32 x all → Tab w' → Calls Tryd.prog 9 #[.agg #[.bool false, .bool false, .bool false, .bool false, .bool false, .bool false, .bool false, .bool true], .slice x all.length c'] w' (Put w'.heap.size (b200 ++ plainP false all ++ b201) w') := fun x c' w' h1 h2 => paste_any ⟨false, false, false, false, false, false, false, true⟩ x c' all (by omega) w' h1 h2
  have hok := plain_ok all false
  have hPlen := plain_len all false
  have hPt := plain_two hno
  rw [← hall] at hPt
  have hA : ∀ (w' : World), Nums w' w'.heap.size .i32 a0 a → Tab w' → Calls Tryd.prog 9 #[.agg #[.bool false, .bool false, .bool false, .bool false, .bool false, .bool false, .bool false, .bool false], .slice a0 a.length c] w' (Put w'.heap.size (plainP false a) w') := fun w' h1 h2 => paste_any ⟨false, false, false, false, false, false, false, false⟩ a0 c a (by omega) w' h1 h2
  have hB : ∀ (w' : World), Nums w' w'.heap.size .i32 b0 b → Tab w' → Calls Tryd.prog 9 #[.agg #[.bool false, .bool false, .bool false, .bool false, .bool false, .bool false, .bool false, .bool false], .slice b0 b.length d] w' (Put w'.heap.size (plainP false b) w') := fun w' h1 h2 => paste_any ⟨false, false, false, false, false, false, false, false⟩ b0 d b (by omega) w' h1 h2
  have hAl := plain_len a false
  have hBl := plain_len b false
  obtain ⟨PA, hPA⟩ : ∃ PA, PA = plainP false a := ⟨_, rfl⟩
  obtain ⟨PB, hPB⟩ : ∃ PB, PB = plainP false b := ⟨_, rfl⟩
  rw [← hPA] at hA hAl hPt
  rw [← hPB] at hB hBl hPt
  obtain ⟨PL, hPL⟩ : ∃ PL, PL = plainP false all := ⟨_, rfl⟩
  rw [← hPL] at hP hO hok hPlen
  have hPb : PL.length ≤ 8000 := by omega
  have h200 : b200.length = 6 := rfl
  have h201 : b201.length = 6 := rfl
  have hadd1 := fun w' => add_str (x := { data := #[27, 91, 50, 48, 48, 126] }) (l := b200) (m := PL) rfl (by omega) w'
  obtain ⟨Q1, hQ1⟩ : ∃ Q1, Q1 = b200 ++ PL := ⟨_, rfl⟩
  have hadd2 := fun w' => add_str' (x := { data := #[27, 91, 50, 48, 49, 126] }) (l := Q1) (m := b201) rfl (by rw [hQ1, List.length_append]; omega) w'
  rw [← hQ1] at hadd1 hO
  obtain ⟨ON, hON⟩ : ∃ ON, ON = Q1 ++ b201 := ⟨_, rfl⟩
  rw [← hON] at hadd2 hO
  have hadd3 := fun w' => add_str (x := strOfNums PA) (l := PA) (m := PB) rfl (by omega) w'
  rw [← hPt, ← hPL] at hadd3
  replace hadd3 := Lib.hid hadd3
  replace hA := Lib.hid hA
  replace hB := Lib.hid hB
  replace hP := Lib.hid hP
  replace hO := Lib.hid hO
  replace hok := Lib.hid hok
  replace hlen := Lib.hid hlen
  replace hall := Lib.hid hall
  have hla : (a.length : Int) ≤ 1000 := by omega
  have hlb : (b.length : Int) ≤ 1000 := by omega
  replace hT := Lib.hid hT
  clear hQ1 hON h200 h201 hPlen hPL hPt hPA hPB hAl hBl hno
  go_enter Tryd.func7, Tryd.ntmps7
  go_wp2_with (first
    | (at_builtin; refine wpList_app elemR rfl (.tmp 19) (.tmp 20) rfl W.heap.size (.slice (some ⟨W.heap.size, 0, none⟩) 0 0) [] a a0 W.heap.size c rfl rfl hlit.out hna0.out (by simp) (by simp; omega) (by simp [maxLen]; omega) ?_; intro v1 w1 hown1 ho1 hat1; rw [List.nil_append] at hown1; have hb1 := Lib.hid (hbA.out.trans (ho1.below hbA.out.size (by simp [Value.ownBlock]))); have hna1 := Lib.hid (hna0.out.only ho1 hbA.out.size (by simp [Value.ownBlock])); have hnb1 := Lib.hid (hnb0.out.only ho1 hbA.out.size (by simp [Value.ownBlock])); replace hown1 := Lib.hid hown1; clear ho1 hat1 hlit)
    | (at_builtin; refine wpList_app elemR rfl (.tmp 21) (.tmp 22) rfl W.heap.size v1 a b b0 W.heap.size d rfl rfl hown1.out hnb1.out hb1.out.size (by omega) (by simp [maxLen]; omega) ?_; intro v2 w2 hown2 ho2 hat2; rw [← hall.out] at hown2; have hlt1 := hown1.out.lt; have hb2 := Lib.hid (hb1.out.trans (ho2.below hb1.out.size (by intro x hx; exact (hlt1 x (by simpa using hx)).1))); have hna2 := Lib.hid ((hna1.out.only ho2 hb1.out.size (by intro x hx; exact (hlt1 x (by simpa using hx)).1)).more hb2.out.size); have hnb2 := Lib.hid ((hnb1.out.only ho2 hb1.out.size (by intro x hx; exact (hlt1 x (by simpa using hx)).1)).more hb2.out.size); obtain ⟨a5, c5, rfl, _, _, hn5⟩ := hown2.shape; replace hn5 := Lib.hid hn5; clear ho2 hat2 hlt1 hown2)
    | (go_at_call 9; (with_reducible refine (hP.out a5 c5 _ hn5.out (hT.out.below hb2.out)).mono ?_); rintro e w3 ⟨v3, rfl, hr3, hc3⟩; obtain ⟨ap, cp, rfl, _, _, hn3⟩ := hr3.shape; have hst3 : Hid (BSt W a0 b0 ap a b PL w3) := ⟨nums_next hna2.out hc3, nums_next hnb2.out hc3, hn3, below_next hb2.out hc3⟩; have hn6 := Lib.hid (nums_next hn5.out hc3); clear hn5 hn3 hr3 hc3 hna2 hnb2 hb2)
    | (go_at_call 9; (with_reducible refine (hO.out a5 c5 _ hn6.out (hT.out.below hst3.out.below)).mono ?_); rintro e w4 ⟨v4, rfl, hr4, hc4⟩; obtain ⟨aq, cq, rfl, _, _, hn4⟩ := hr4.shape; replace hn4 := Lib.hid hn4; have hst4 := Lib.hid (hst3.out.next hc4); clear hn6 hr4 hc4)
    | (with_reducible show wpList _ _ _ (⟨some 31, .convert _ _ _, _, _, _, _⟩ :: _) _ _; go_must (refine wpList_text rfl (.tmp 30) rfl Tryd.underlying26 Tryd.underlying5 Tryd.underlying9 cq hn4.out rfl ?_))
    | (with_reducible show wpList _ _ _ (⟨some 33, .convert _ _ _, _, _, _, _⟩ :: _) _ _; go_must (refine wpList_text rfl (.tmp 32) rfl Tryd.underlying26 Tryd.underlying5 Tryd.underlying9 cp hst4.out.pl rfl ?_)))
  clear hadd1 hadd2 hP hO hn4 hst3 hall
  go_loop [39] (fun i => ∃ k : Nat, i = .int .i64 k ∧ k ≤ PL.length) (fun i => PL.length - (intOf i).toNat)
  case atStart => exact ⟨0, rfl, by omega⟩
  case round =>
    obtain ⟨k, rfl, hk⟩ := hrel
    by_cases hlt : k < PL.length
    · obtain ⟨ad, rfl, _, hcell⟩ := hst4.out.pl.at hlt
      have hx := hok.out _ (List.getElem_mem hlt)
      clear hst4 hok hA hB hadd3
      generalize PL[k] = x at hcell hx
      rcases hx with ⟨h1, h2⟩ | h1 | h1
      all_goals
        try subst h1
        go_wp2_with fail
        go_round
        case rel => exact ⟨k + 1, by go_num, by omega⟩
        case measure => simp [intOf]; omega
    · clear hok
      have hz : ¬ (0 : Int) < (a.length : Int) := by have := h0.out; omega
      clear h0
      go_wp2_with fail
      have h5 := Lib.hid hst4.out.drew
      replace hadd3 := hadd3.out
      clear hst4
      refine wp_region_held_drew (S := fun w' => ((convert 26 9 (.slice ap PL.length cp)).run Tryd.prog w' = .ok (.string (strOfNums PL)) w')) (by kernel_rfl) (by exact text_of h5.out.pl cp) (fun hH => ?_)
      refine wpAnyH_take (i := 0) (oi := ⟨some 82, _, _, _, _, _⟩) (v := ?_) rfl (by kernel_rfl) (by kernel_rfl) (by kernel_rfl) (fun _ _ _ h => h) (Or.inl ⟨by rfl, ?_⟩) hH ?_
      rotate_left 1
      · (intro w hSw; (try dsimp only at hSw); go_simp) <;> with_reducible rfl
      try simp only [Act.put, List.setIfInBounds_toArray, List.set_cons_zero, List.set_cons_succ]
      refine wpAnyH_take (i := 1) (oi := ⟨some 83, _, _, _, _, _⟩) (v := ?_) rfl (by kernel_rfl) (by kernel_rfl) (by kernel_rfl) (fun _ _ _ h => h) (Or.inl ⟨by rfl, ?_⟩) hH ?_
      rotate_left 1
      · (intro w hSw; (try dsimp only at hSw); go_simp) <;> with_reducible rfl
      try simp only [Act.put, List.setIfInBounds_toArray, List.set_cons_zero, List.set_cons_succ]
      refine wpAnyH_take (i := 2) (oi := ⟨some 84, _, _, _, _, _⟩) (v := ?_) rfl (by kernel_rfl) (by kernel_rfl) (by kernel_rfl) (fun _ _ _ h => h) (Or.inl ⟨by rfl, ?_⟩) hH ?_
      rotate_left 1
      · (intro w hSw; (try dsimp only at hSw); go_simp) <;> with_reducible rfl
      try simp only [Act.put, List.setIfInBounds_toArray, List.set_cons_zero, List.set_cons_succ]
      refine wpAnyH_take (i := 3) (oi := ⟨some 85, _, _, _, _, _⟩) (v := ?_) rfl (by kernel_rfl) (by kernel_rfl) (by kernel_rfl) (fun _ _ _ h => h) (Or.inl ⟨by rfl, ?_⟩) hH ?_
      rotate_left 1
      · (intro w hSw; (try dsimp only at hSw); go_simp) <;> with_reducible rfl
      try simp only [Act.put, List.setIfInBounds_toArray, List.set_cons_zero, List.set_cons_succ]
      refine wpAnyH_take (i := 6) (oi := ⟨some 88, _, _, _, _, _⟩) (v := ?_) rfl (by kernel_rfl) (by kernel_rfl) (by kernel_rfl) (fun _ _ _ h => h) (Or.inl ⟨by rfl, ?_⟩) hH ?_
      rotate_left 1
      · (intro w hSw; (try dsimp only at hSw); go_simp) <;> with_reducible rfl
      try simp only [Act.put, List.setIfInBounds_toArray, List.set_cons_zero, List.set_cons_succ]
      refine wpAnyH_take (i := 7) (oi := ⟨some 89, _, _, _, _, _⟩) (v := ?_) rfl (by kernel_rfl) (by kernel_rfl) (by kernel_rfl) (fun _ _ _ h => h) (Or.inl ⟨by rfl, ?_⟩) hH ?_
      rotate_left 1
      · (intro w hSw; (try dsimp only at hSw); go_simp) <;> with_reducible rfl
      try simp only [Act.put, List.setIfInBounds_toArray, List.set_cons_zero, List.set_cons_succ]
      refine wpAnyH_ready (rs := [4]) (by kernel_rfl) (by simp) ?_
      refine AllReadyH.cons (o := ⟨some 86, _, _, _, _, _⟩) rfl (fun K hK => ?_) AllReadyH.nil
      go_simp
      go_at_call 9; refine (hA.out _ h5.out.fst (hT.out.below h5.out.below)).mono ?_; rintro e w6 ⟨v6, rfl, hr6, hc6⟩; obtain ⟨a6, c6, rfl, _, _, hn6⟩ := hr6.shape; have h6 := Lib.hid (h5.out.next hc6); clear hr6 hc6
      refine hK.out _ _ (by exact text_of h6.out.pl cp) (fun hH => ?_)
      clear hK K
      refine held_mono (S' := fun w' => (((convert 26 9 (.slice ap PL.length cp)).run Tryd.prog w' = .ok (.string (strOfNums PL)) w')) ∧ ((convert 26 9 (.slice a6 PA.length c6)).run Tryd.prog w' = .ok (.string (strOfNums PA)) w')) (fun _ h => h.1) _ _ _ _ ?_
      replace hH := And.intro hH (text_of hn6 c6)
      try simp only [Act.put, List.setIfInBounds_toArray, List.set_cons_zero, List.set_cons_succ]
      refine wpAnyH_take (i := 5) (oi := ⟨some 87, _, _, _, _, _⟩) (v := ?_) rfl (by kernel_rfl) (by kernel_rfl) (by kernel_rfl) (fun _ _ _ h => h) (Or.inl ⟨by rfl, ?_⟩) hH ?_
      rotate_left 1
      · (intro w hSw; (try dsimp only at hSw); go_simp) <;> with_reducible rfl
      try simp only [Act.put, List.setIfInBounds_toArray, List.set_cons_zero, List.set_cons_succ]
      refine wpAnyH_ready (rs := [8]) (by kernel_rfl) (by simp) ?_
      refine AllReadyH.cons (o := ⟨some 90, _, _, _, _, _⟩) rfl (fun K hK => ?_) AllReadyH.nil
      go_simp
      go_at_call 9; refine (hB.out _ h6.out.snd (hT.out.below h6.out.below)).mono ?_; rintro e w7 ⟨v7, rfl, hr7, hc7⟩; obtain ⟨a7, c7, rfl, _, _, hn7⟩ := hr7.shape; have h7 := Lib.hid (h6.out.next hc7); have hn6' := Lib.hid (nums_next hn6 hc7); clear hr7 hc7 hn6
      refine hK.out _ _ (by exact ⟨text_of h7.out.pl cp, text_of hn6'.out c6⟩) (fun hH => ?_)
      clear hK K
      refine held_mono (S' := fun w' => ((((convert 26 9 (.slice ap PL.length cp)).run Tryd.prog w' = .ok (.string (strOfNums PL)) w')) ∧ ((convert 26 9 (.slice a6 PA.length c6)).run Tryd.prog w' = .ok (.string (strOfNums PA)) w')) ∧ ((convert 26 9 (.slice a7 PB.length c7)).run Tryd.prog w' = .ok (.string (strOfNums PB)) w')) (fun _ h => h.1) _ _ _ _ ?_
      replace hH := And.intro hH (text_of hn7 c7)
      try simp only [Act.put, List.setIfInBounds_toArray, List.set_cons_zero, List.set_cons_succ]
      refine wpAnyH_take (i := 9) (oi := ⟨some 91, _, _, _, _, _⟩) (v := ?_) rfl (by kernel_rfl) (by kernel_rfl) (by kernel_rfl) (fun _ _ _ h => h) (Or.inl ⟨by rfl, ?_⟩) hH ?_
      rotate_left 1
      · (intro w hSw; (try dsimp only at hSw); go_simp) <;> with_reducible rfl
      try simp only [Act.put, List.setIfInBounds_toArray, List.set_cons_zero, List.set_cons_succ]
      refine wpAnyH_take (i := 10) (oi := ⟨some 92, _, _, _, _, _⟩) (v := ?_) rfl (by kernel_rfl) (by kernel_rfl) (by kernel_rfl) (fun _ _ _ h => h) (Or.inl ⟨by rfl, ?_⟩) hH ?_
      rotate_left 1
      · (intro w hSw; (try dsimp only at hSw); go_simp) <;> with_reducible rfl
      try simp only [Act.put, List.setIfInBounds_toArray, List.set_cons_zero, List.set_cons_succ]
      refine wpAnyH_take (i := 11) (oi := ⟨some 93, _, _, _, _, _⟩) (v := ?_) rfl (by kernel_rfl) (by kernel_rfl) (by kernel_rfl) (fun _ _ _ h => h) (Or.inl ⟨by rfl, ?_⟩) hH ?_
      rotate_left 1
      · (intro w hSw; (try dsimp only at hSw); go_simp) <;> with_reducible rfl
      try simp only [Act.put, List.setIfInBounds_toArray, List.set_cons_zero, List.set_cons_succ]
      refine wpAnyH_take (i := 12) (oi := ⟨some 94, _, _, _, _, _⟩) (v := ?_) rfl (by kernel_rfl) (by kernel_rfl) (by kernel_rfl) (fun _ _ _ h => h) (Or.inl ⟨by rfl, ?_⟩) hH ?_
      rotate_left 1
      · (intro w hSw; (try dsimp only at hSw); go_simp) <;> with_reducible rfl
      try simp only [Act.put, List.setIfInBounds_toArray, List.set_cons_zero, List.set_cons_succ]
      refine wpAnyH_ready (rs := [13]) (by kernel_rfl) (by simp) ?_
      refine AllReadyH.cons (o := ⟨some 95, _, _, _, _, _⟩) rfl (fun K hK => ?_) AllReadyH.nil
      go_simp
      go_at_call 8; refine (known_any _ (hT.out.below h7.out.below)).mono ?_; rintro e w8 ⟨rfl, hc8⟩
      refine hK.out _ _ (by exact ⟨⟨text_of (h7.out.next hc8).pl cp, text_of (nums_next hn6'.out hc8) c6⟩, text_of (nums_next hn7 hc8) c7⟩) (fun hH => ?_)
      clear hK K
      try simp only [Act.put, List.setIfInBounds_toArray, List.set_cons_zero, List.set_cons_succ]
      refine wpAnyH_take (i := 14) (oi := ⟨some 96, _, _, _, _, _⟩) (v := ?_) rfl (by kernel_rfl) (by kernel_rfl) (by kernel_rfl) (fun _ _ _ h => h) (Or.inl ⟨by rfl, ?_⟩) hH ?_
      rotate_left 1
      · (intro w hSw; (try dsimp only at hSw); go_simp) <;> with_reducible rfl
      try simp only [Act.put, List.setIfInBounds_toArray, List.set_cons_zero, List.set_cons_succ]
      refine wpAnyH_take (i := 15) (oi := ⟨some 4, _, _, _, _, _⟩) (v := ?_) rfl (by kernel_rfl) (by kernel_rfl) (by kernel_rfl) (fun _ _ _ h => h) (Or.inl ⟨by rfl, ?_⟩) hH ?_
      rotate_left 1
      · (intro w hSw; (try dsimp only at hSw); go_simp) <;> with_reducible rfl
      try simp only [Act.put, List.setIfInBounds_toArray, List.set_cons_zero, List.set_cons_succ]
      refine wpAnyH_done (by kernel_rfl) ?_ _
      go_wp2
      go_ret
      exact ⟨rfl, (h7.out.next hc8).below⟩

end Go.Proofs.YtkmedfffmalbgaaDoor.Kys
