/-
  keys: KeysPaste.
-/
import Derived.Test.YtkmedfffmalbgaaDoorKRPas
import Derived.Test.YtkmedfffmalbgaaDoorKRun
import Derived.Test.YtkmedfffmalbgaaDoorIn
import Derived.BigRegion
namespace Go.Proofs.YtkmedfffmalbgaaDoor.Kys
open Go Go.RowKit Go.Proofs.YtkmedfffmalbgaaDoor.Com Go.Proofs.YtkmedfffmalbgaaDoor.Mds

theorem elemR : Elem Tryd.prog 24 21 .i32 4 := ⟨Tryd.underlying24, info_parts (by kernel_rfl)⟩
/-- What is known while both texts are compared. -/
structure LSt (W : World) (m : Md) (ai ao ab : Option Addr) (text out : List Int) (wr : World) : Prop where
  inn : Nums wr wr.heap.size .i32 ai text
  txt : Nums wr wr.heap.size .i32 ao text
  bts : Nums wr wr.heap.size .u8 ab out
  box : MB wr W.heap.size m
  below : Below W.heap.size W wr
theorem LSt.drew {W wr : World} {m : Md} {ai ao ab : Option Addr} {text out : List Int} (h : LSt W m ai ao ab text out wr) : LSt W m ai ao ab text out wr.drew := ⟨nums_drew h.inn, nums_drew h.txt, nums_drew h.bts, mb_drew h.box, below_drew h.below⟩
theorem LSt.next {W wr w' : World} {m : Md} {ai ao ab : Option Addr} {text out : List Int} (h : LSt W m ai ao ab text out wr) (hb : Below wr.heap.size wr w') : LSt W m ai ao ab text out w' := ⟨nums_next h.inn hb, nums_next h.txt hb, nums_next h.bts hb, h.box.below hb, below_next h.below hb⟩
theorem paste_long (m : Md) (ao : Option Addr) (n c : Nat) (hl : 1000 < n) (W : World) (hT : Tab W) : Calls Tryd.prog 3 #[.agg (mA m), .slice ao n c] W (Yes W) := by
  have hb0 := Lib.hid (below_new W (.cells (mA m) 23))
  have hk := Lib.hid (known_any _ (hT.below hb0.out))
  have hl' : (1000 : Int) < (n : Int) := by omega
  clear hT
  go_enter Tryd.func3, Tryd.ntmps3
  go_wp2_with ((go_at_call 8; (with_reducible refine (hk.out).mono ?_); rintro e w1 ⟨rfl, hb1⟩))
  go_ret
  exact ⟨rfl, below_next hb0.out hb1⟩
set_option maxHeartbeats 8000000 in
theorem paste_short (m : Md) (ao : Option Addr) (c : Nat) (text : List Int) (hl : text.length ≤ 1000) (W : World) (hn : Nums W W.heap.size .i32 ao text) (hT : Tab W) :
    Calls Tryd.prog 3 #[.agg (mA m), .slice ao text.length c] W (Yes W) := by
  have hb0 := Lib.hid (below_new W (.cells (mA m) 23))
  have hd0 := Lib.hid (MB.made W m)
  have hsz0 : (W.alloc (.cells (mA m) 23)).heap.size = W.heap.size + 1 := by simp
  have hlit := Own.lit (W.alloc (.cells (mA m) 23)) W.heap.size 21 .i32 [] hb0.out.size (by simp [maxLen])
  rw [hsz0] at hlit
  replace hlit := Lib.hid hlit
  have hn0 := Lib.hid ((hn.below hb0.out (Nat.le_refl _)).alloc hb0.out.size (.cells #[] 21))
  have hdA := Lib.hid (hd0.out.alloc (.cells #[] 21))
  have hbA := Lib.hid (below_next hb0.out (below_new _ (.cells #[] 21)))
  have hP : ∀ (a : Option Addr) (c' : Nat) (w' : World), Nums w' w'.heap.size .i32 a text → Tab w' → Calls Tryd.prog 9 #[.agg (mA m), .slice a text.length c'] w' (Put w'.heap.size (pasteF m.a7 text) w') := fun a c' w' h1 h2 => paste_any m a c' text (by omega) w' h1 h2
  have hR : ∀ (w' : World), Nums w' w'.heap.size .i32 ao text → Calls Tryd.prog 10 #[.agg (mA m), .slice ao text.length c] w' (Put w'.heap.size (pasteF m.a7 text) w') := fun w' h1 => rpaste_any m ao c text (by omega) w' h1
  obtain ⟨out, hout⟩ : ∃ out, out = pasteF m.a7 text := ⟨_, rfl⟩
  rw [← hout] at hP hR
  replace hP := Lib.hid hP
  have hl' : (text.length : Int) ≤ 1000 := by omega
  replace hT := Lib.hid hT
  clear hout hsz0
  go_enter Tryd.func3, Tryd.ntmps3
  go_wp2_with (first
    | (at_builtin; refine wpList_app elemR rfl (.tmp 12) (.tmp 13) rfl W.heap.size (.slice (some ⟨W.heap.size + 1, 0, none⟩) 0 0) [] text ao W.heap.size c rfl rfl hlit.out hn0.out (by simp; omega) (by simp; omega) (by simp [maxLen]; omega) ?_; intro v5 w1 hown ho1 hat1; obtain ⟨ai, ci, rfl, _, _, hni⟩ := hown.shape; rw [List.nil_append] at hni; have hd1 := Lib.hid (hdA.out.only ho1 (by simp [Value.ownBlock])); have hb1 := Lib.hid (hbA.out.trans (ho1.below hbA.out.size (by simp [Value.ownBlock]))); replace hni := Lib.hid hni; have hno := Lib.hid ((hn0.out.only ho1 hbA.out.size (by simp [Value.ownBlock])).more hb1.out.size); clear ho1 hat1 hown hlit)
    | (with_reducible show wpList _ _ _ (⟨some 15, .load _ (.tmp 2), _, _, _, _⟩ :: _) _ _; go_must (refine wpList_load_m rfl (.tmp 2) rfl rfl hd1.out ?_))
    | (go_at_call 9; refine (hP.out ai ci _ hni.out (hT.out.below hb1.out)).mono ?_; rintro e w2 ⟨v2, rfl, hr2, hc2⟩; obtain ⟨ab, cb, rfl, _, _, hnb⟩ := hr2.shape; have hst : Hid (LSt W m ai ao ab text out w2) := ⟨nums_next hni.out hc2, nums_next hno.out hc2, hnb, hd1.out.below hc2, below_next hb1.out hc2⟩; clear hr2 hc2 hnb))
  clear hb0 hd0 hn0 hdA hbA hd1 hb1 hni hno hP hn
  go_loopw [20] (fun i wr => ∃ k : Nat, i = .int .i64 k ∧ k ≤ text.length ∧ Hid (LSt W m ai ao ab text out wr)) (fun i _ => text.length - (intOf i).toNat)
  case atStart => exact ⟨0, rfl, by omega, hst⟩
  case round =>
    clear hst
    obtain ⟨k, rfl, hk, hat⟩ := hrel
    by_cases hlt : k < text.length
    · obtain ⟨ad, rfl, _, hci⟩ := hat.out.inn.at hlt
      obtain ⟨ad', rfl, _, hct⟩ := hat.out.txt.at hlt
      have hnx := Lib.hid hat.out.drew
      clear hat hR
      generalize text[k] = x at hci hct
      go_wp2
      go_region
      go_wp2_with fail
      go_roundw
      case rel => exact ⟨k + 1, by go_num, by omega, hnx.out⟩
      case measure => simp [intOf]; omega
    · go_wp2_with fail
      obtain ⟨a0, a1, a2, a3, a4, a5, a6, a7⟩ := m
      have h3 := Lib.hid hat.out.drew
      replace hR := Lib.hid (show ∀ (w' : World), Nums w' w'.heap.size .i32 ao text → Calls Tryd.prog 10 #[.agg #[.bool a0, .bool a1, .bool a2, .bool a3, .bool a4, .bool a5, .bool a6, .bool a7], .slice ao text.length c] w' (Put w'.heap.size out w') from hR)
      clear hat
      refine wp_region_held_drew (S := fun w' => ((convert 26 9 (.slice ab out.length cb)).run Tryd.prog w' = .ok (.string (strOfNums out)) w') ∧ w'.cell? ⟨W.heap.size, 0, none⟩ = some (.bool a0) ∧ w'.cell? ⟨W.heap.size, 1, none⟩ = some (.bool a1) ∧ w'.cell? ⟨W.heap.size, 2, none⟩ = some (.bool a2) ∧ w'.cell? ⟨W.heap.size, 3, none⟩ = some (.bool a3) ∧ w'.cell? ⟨W.heap.size, 4, none⟩ = some (.bool a4) ∧ w'.cell? ⟨W.heap.size, 5, none⟩ = some (.bool a5) ∧ w'.cell? ⟨W.heap.size, 6, none⟩ = some (.bool a6) ∧ w'.cell? ⟨W.heap.size, 7, none⟩ = some (.bool a7)) (by kernel_rfl) (by exact ⟨text_of h3.out.bts cb, mcells h3.out.box⟩) (fun hH => ?_)
      refine wpAnyH_take (i := 0) (oi := ⟨some 33, _, _, _, _, _⟩) (v := ?_) rfl (by kernel_rfl) (by kernel_rfl) (by kernel_rfl) (fun _ _ _ h => h) (Or.inl ⟨by rfl, ?_⟩) hH ?_
      rotate_left 1
      · (intro w hSw; (try dsimp only at hSw); go_simp) <;> with_reducible rfl
      try simp only [Act.put, List.setIfInBounds_toArray, List.set_cons_zero, List.set_cons_succ]
      refine wpAnyH_take (i := 1) (oi := ⟨some 34, _, _, _, _, _⟩) (v := ?_) rfl (by kernel_rfl) (by kernel_rfl) (by kernel_rfl) (fun _ _ _ h => h) (Or.inl ⟨by rfl, ?_⟩) hH ?_
      rotate_left 1
      · (intro w hSw; (try dsimp only at hSw); go_simp) <;> with_reducible rfl
      try simp only [Act.put, List.setIfInBounds_toArray, List.set_cons_zero, List.set_cons_succ]
      refine wpAnyH_take (i := 2) (oi := ⟨some 35, _, _, _, _, _⟩) (v := ?_) rfl (by kernel_rfl) (by kernel_rfl) (by kernel_rfl) (fun _ _ _ h => h) (Or.inl ⟨by rfl, ?_⟩) hH ?_
      rotate_left 1
      · (intro w hSw; (try dsimp only at hSw); go_simp) <;> with_reducible rfl
      try simp only [Act.put, List.setIfInBounds_toArray, List.set_cons_zero, List.set_cons_succ]
      refine wpAnyH_take (i := 3) (oi := ⟨some 36, _, _, _, _, _⟩) (v := ?_) rfl (by kernel_rfl) (by kernel_rfl) (by kernel_rfl) (fun _ _ _ h => h) (Or.inl ⟨by rfl, ?_⟩) hH ?_
      rotate_left 1
      · (intro w hSw; (try dsimp only at hSw); go_simp) <;> with_reducible rfl
      try simp only [Act.put, List.setIfInBounds_toArray, List.set_cons_zero, List.set_cons_succ]
      refine wpAnyH_ready (rs := [4]) (by kernel_rfl) (by simp) ?_
      refine AllReadyH.cons (o := ⟨some 37, _, _, _, _, _⟩) rfl (fun K hK => ?_) AllReadyH.nil
      go_simp
      go_at_call 10; refine (hR.out _ h3.out.txt).mono ?_; rintro e w4 ⟨v4, rfl, hr4, hc4⟩; obtain ⟨a9, c9, rfl, _, _, hn9⟩ := hr4.shape; have h4 := Lib.hid (h3.out.next hc4); clear hr4
      refine hK.out _ _ (by exact ⟨text_of h4.out.bts cb, mcells h4.out.box⟩) (fun hH => ?_)
      clear hK K
      refine held_mono (S' := fun w' => (((convert 26 9 (.slice ab out.length cb)).run Tryd.prog w' = .ok (.string (strOfNums out)) w') ∧ w'.cell? ⟨W.heap.size, 0, none⟩ = some (.bool a0) ∧ w'.cell? ⟨W.heap.size, 1, none⟩ = some (.bool a1) ∧ w'.cell? ⟨W.heap.size, 2, none⟩ = some (.bool a2) ∧ w'.cell? ⟨W.heap.size, 3, none⟩ = some (.bool a3) ∧ w'.cell? ⟨W.heap.size, 4, none⟩ = some (.bool a4) ∧ w'.cell? ⟨W.heap.size, 5, none⟩ = some (.bool a5) ∧ w'.cell? ⟨W.heap.size, 6, none⟩ = some (.bool a6) ∧ w'.cell? ⟨W.heap.size, 7, none⟩ = some (.bool a7)) ∧ ((convert 26 9 (.slice a9 out.length c9)).run Tryd.prog w' = .ok (.string (strOfNums out)) w')) (fun _ h => h.1) _ _ _ _ ?_
      replace hH := And.intro hH (text_of hn9 c9)
      try simp only [Act.put, List.setIfInBounds_toArray, List.set_cons_zero, List.set_cons_succ]
      refine wpAnyH_take (i := 5) (oi := ⟨some 38, _, _, _, _, _⟩) (v := ?_) rfl (by kernel_rfl) (by kernel_rfl) (by kernel_rfl) (fun _ _ _ h => h) (Or.inl ⟨by rfl, ?_⟩) hH ?_
      rotate_left 1
      · (intro w hSw; (try dsimp only at hSw); go_simp) <;> with_reducible rfl
      try simp only [Act.put, List.setIfInBounds_toArray, List.set_cons_zero, List.set_cons_succ]
      refine wpAnyH_take (i := 6) (oi := ⟨some 39, _, _, _, _, _⟩) (v := ?_) rfl (by kernel_rfl) (by kernel_rfl) (by kernel_rfl) (fun _ _ _ h => h) (Or.inl ⟨by rfl, ?_⟩) hH ?_
      rotate_left 1
      · (intro w hSw; (try dsimp only at hSw); go_simp) <;> with_reducible rfl
      try simp only [Act.put, List.setIfInBounds_toArray, List.set_cons_zero, List.set_cons_succ]
      refine wpAnyH_take (i := 7) (oi := ⟨some 40, _, _, _, _, _⟩) (v := ?_) rfl (by kernel_rfl) (by kernel_rfl) (by kernel_rfl) (fun _ _ _ h => h) (Or.inl ⟨by rfl, ?_⟩) hH ?_
      rotate_left 1
      · (intro w hSw; (try dsimp only at hSw); go_simp) <;> with_reducible rfl
      try simp only [Act.put, List.setIfInBounds_toArray, List.set_cons_zero, List.set_cons_succ]
      refine wpAnyH_ready (rs := [8]) (by kernel_rfl) (by simp) ?_
      refine AllReadyH.cons (o := ⟨some 41, _, _, _, _, _⟩) rfl (fun K hK => ?_) AllReadyH.nil
      go_simp
      go_at_call 8; refine (known_any _ (hT.out.below h4.out.below)).mono ?_; rintro e w5 ⟨rfl, hc5⟩
      refine hK.out _ _ (by exact ⟨⟨text_of (h4.out.next hc5).bts cb, mcells (h4.out.next hc5).box⟩, text_of (nums_next hn9 hc5) c9⟩) (fun hH => ?_)
      clear hK K
      try simp only [Act.put, List.setIfInBounds_toArray, List.set_cons_zero, List.set_cons_succ]
      refine wpAnyH_take (i := 9) (oi := ⟨some 42, _, _, _, _, _⟩) (v := ?_) rfl (by kernel_rfl) (by kernel_rfl) (by kernel_rfl) (fun _ _ _ h => h) (Or.inl ⟨by rfl, ?_⟩) hH ?_
      rotate_left 1
      · (intro w hSw; (try dsimp only at hSw); go_simp) <;> with_reducible rfl
      try simp only [Act.put, List.setIfInBounds_toArray, List.set_cons_zero, List.set_cons_succ]
      refine wpAnyH_take (i := 10) (oi := ⟨some 4, _, _, _, _, _⟩) (v := ?_) rfl (by kernel_rfl) (by kernel_rfl) (by kernel_rfl) (fun _ _ _ h => h) (Or.inl ⟨by rfl, ?_⟩) hH ?_
      rotate_left 1
      · (intro w hSw; (try dsimp only at hSw); go_simp) <;> with_reducible rfl
      try simp only [Act.put, List.setIfInBounds_toArray, List.set_cons_zero, List.set_cons_succ]
      refine wpAnyH_done (by kernel_rfl) ?_ _
      go_wp2
      go_ret
      exact ⟨rfl, (h4.out.next hc5).below⟩
theorem paste_law (m : Md) (text : List Int) (_hf : Fits .i32 text) (ao : Option Addr) (c : Nat) (_hc : text.length ≤ c) (_hm : c ≤ maxLen) (W : World) (hT : Tab W) (hn : Nums W W.heap.size .i32 ao text) :
    Calls Tryd.prog 3 #[.agg (mA m), .slice ao text.length c] W (Yes W) := by
  by_cases hl : text.length ≤ 1000
  · exact paste_short m ao c text hl W hn hT
  · exact paste_long m ao text.length c (by omega) W hT

end Go.Proofs.YtkmedfffmalbgaaDoor.Kys
