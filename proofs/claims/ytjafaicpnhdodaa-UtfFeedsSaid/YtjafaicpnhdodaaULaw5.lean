/-
  The law UtfFeeds: the walk.
-/
import Derived.Test.YtjafaicpnhdodaaUFeed
import Derived.Deep.RegionLaw
import Derived.IntWalk
import Derived.Deep.AppendLies
namespace Go.Proofs.Ytjafaicpnhdodaa.Utf
open Go Go.RowKit Go.Proofs.Ytjafaicpnhdodaa.Com

theorem own_nums {w : World} {B : Nat} {e : TypeId} {k : IntKind} {ao : Option Addr} {n c : Nat} {l : List Int} (h : Own w B e k (.slice ao n c) l) : Nums w w.heap.size k ao l := by
  obtain ⟨a', c', e', _, _, hn⟩ := h.shape
  cases e'
  exact hn

set_option maxRecDepth 100000 in
set_option maxHeartbeats 4000000 in
theorem lawFeeds (l : List Int) (hf : Fits .u8 l) (ao : Option Addr) (c : Nat) (hc : l.length ≤ c) (hm : c ≤ maxLen) (en : Int) (_we : (Lit.int .i64 en).wf = true) (w : World)
    (hn : Nums w w.heap.size .u8 ao l) :
    Calls Try.prog 5 #[.slice ao l.length c, .int .i64 en] w fun e w' => e = .returned (.bool true) ∧ Below w.heap.size w w' := by
  have hb := bytes_of_fits hf
  have h63 : l.length ≤ 9223372036854775807 := by simp only [maxLen] at hm; omega
  have hc63 : c ≤ 9223372036854775807 := by simp only [maxLen] at hm; omega
  clear hm hf
  by_cases h0 : 300 < l.length
  · go_enter Try.func5, Try.ntmps5
    go_wp2_with ((go_at_call 9; refine (known_any _).mono ?_; rintro e w1 ⟨rfl, hb1⟩))
    go_ret
    exact ⟨rfl, hb1⟩
  have h0' : l.length ≤ 300 := by omega
  clear h0
  go_enter Try.func5, Try.ntmps5
  go_wp2_with ((go_at_call 15; refine (new_any _).mono ?_; rintro e wn ⟨rfl, hdn, hon⟩))
  have hne : w.heap.size < wn.heap.size := Block.lt hdn
  go_loopw [7, 8, 9, 23] (fun v7 v8 fr i wr => ∃ (k f : Nat) (H : List Int), i = .int .i64 k ∧ fr = .int .i64 f ∧ k ≤ l.length ∧ FeedsAt w w.heap.size wn.heap.size l v7 v8 f k H wr) (fun _ _ _ i _ => l.length - (intOf i).toNat)
  case atStart =>
    refine ⟨0, 0, [], rfl, rfl, by omega, ⟨Block.alloc hdn _, Block.made _ _ _, ?_, Own.nil _ _ _ _, by simp [Value.ownBlock], (hon.nil).trans ((Below.refl _ _).alloc (by omega) _), by omega, by omega, by omega⟩, by simp, by omega⟩
    exact Own.nil _ _ _ _
  case round =>
    obtain ⟨k, f, H, rfl, rfl, hk, ⟨hmem, hHl, hfk⟩⟩ := hrel
    by_cases hlt : k < l.length
    · have hBr := hmem.below.size
      obtain ⟨b8, d8, rfl, _, _, _⟩ := hmem.own8.shape
      obtain ⟨ad, rfl, _, hcell⟩ := (hn.below hmem.below (Nat.le_refl _)).at hlt
      have hcellF : ∀ w', Below w.heap.size w w' → w'.cell? (ad.add k) = some (.int .u8 l[k]) := fun w' hb' => by
        obtain ⟨ad', e', _, hc'⟩ := (hn.below hb' (Nat.le_refl _)).at hlt
        cases e'
        exact hc'
      replace hcellF := Lib.hid hcellF
      have hx := hb _ (List.getElem_mem hlt)
      have hok := run_ok (seg l f k) zero_ok (seg_bytes hb f k)
      have hsn := run_snoc (seg l f k) l[k] zero
      rw [← seg_next hfk hlt] at hsn
      have hT := take_len (runF zero (seg l f k)).1 l[k]
      have hol := run_len (seg_bytes hb f k)
      have hsl := seg_len l f k
      have hfeed := Lib.hid (feed_any _ hok l[k] hx w.heap.size wr hmem.dec0)
      have hfeed2 := fun w2 hd => Lib.hid (feed_any _ hok l[k] hx wn.heap.size w2 hd)
      generalize hDD : (runF zero (seg l f k)).1 = D at *
      generalize hOO : (runF zero (seg l f k)).2 = out at *
      generalize hRR : takeF D l[k] = R at *
      generalize l[k] = x at *
      replace hDD := Lib.hid hDD
      replace hOO := Lib.hid hOO
      replace hRR := Lib.hid hRR
      replace hsn := Lib.hid hsn
      go_wp2_with fail
      refine hfeed.out.mono ?_
      rintro e w1 ⟨v1, rfl, hfd⟩
      have hmem1 := hmem.fed0 hfd
      obtain ⟨b1, d1, rfl, _, _, hn1⟩ := hfd.own.shape
      go_wp2_with fail
      refine (copy_any R.1 w.heap.size w1 hmem1.dec0).mono ?_
      rintro e w2 ⟨rfl, hdc, hoc⟩
      have hmem2 := hmem1.new hoc.nil
      have hcell2 := hcellF.out w2 hmem2.below
      go_wp2_with fail
      refine (hfeed2 w2 hmem2.dec1).out.mono ?_
      rintro e w3 ⟨v3, rfl, hfd3⟩
      have hmem3 := hmem2.fed1 hfd3
      obtain ⟨b3, d3, rfl, _, _, hn3⟩ := hfd3.own.shape
      clear hcell hcell2
      have hl3 := (Own.only hfd.own hoc (by simp)).only hfd3.only (fun g hg hm => by
        have h1 := (hfd.own.lt g hg).1
        have h2 := hmem.dec1.lt
        simp at hm
        omega)
      go_wp2_with fail
      refine (same_yes R.2 b3 b1 d3 d1 w3 w3.heap.size (by omega) hn3 (own_nums hl3)).mono ?_
      rintro e w4 ⟨rfl, hb4⟩
      have hmem4 := hmem3.new hb4
      have hn4 := (own_nums hl3).below hb4 (Nat.le_refl _)
      have hs4 := hmem4.below.size
      have hs34 := hb4.size
      have hTl : (H ++ out).length ≤ 300 := by simp; omega
      go_wp2_with ((with_reducible show wpList _ _ _ (⟨some 53, .call _, _, _, _, _⟩ :: _) _ _; go_must (refine wpList_app elemR rfl (.tmp 51) (.tmp 52) rfl w.heap.size u7 (H ++ out) R.2 b1 w3.heap.size d1 rfl rfl hmem4.own7 hn4 ?_ ?_ ?_ ?_; (omega); (omega); (simp only [maxLen]; omega); intro v5 w5 hown5 ho5 hat5)))
      have hmem5 := hmem4.app7 hown5 ho5 hat5
      have hdc4 := (Block.only hdc hfd3.only (by have := hmem.dec1.lt; have := hfd.only.size; simp; omega)).only (Only.of_below hb4 []) (by simp)
      have hdc5 := Block.only hdc4 ho5 (fun hm => (hmem4.own7.apart hdc4 (by decide)) (by simpa using hm))
      obtain ⟨T1, hT1⟩ : ∃ T1, T1 = H ++ out ++ R.2 := ⟨_, rfl⟩
      rw [← hT1] at hmem5
      have hT1l : T1.length ≤ 302 := by rw [hT1]; simp; simp at hTl; omega
      have hT1' : H ++ (out ++ R.2) = T1 := by rw [hT1, List.append_assoc]
      replace hT1 := Lib.hid hT1
      replace hT1' := Lib.hid hT1'
      have hSl : (seg l f (k + 1)).length = k + 1 - f := by unfold seg; simp; omega
      have hsay := say_any (seg l f (k + 1)) (seg_bytes hb f (k + 1)) (some (ad.add f)) (c - f) w5 (by omega) (by omega) (((hn.below hmem5.below (Nat.le_refl _)).piece f (k + 1)).more hmem5.below.size)
      rw [hSl] at hsay
      unfold SayTold at hsay
      rw [hsn.out] at hsay
      replace hsay := Lib.hid hsay
      obtain ⟨v5a, v5c, rfl, _, _, _⟩ := hmem5.own7.shape
      clear hown5 ho5 hat5 hmem4 hmem3 hmem2 hmem1 hn4 hl3 hn3 hn1 hdc4 hdc hSl
      refine hsay.out.mono ?_
      rintro e w6 ⟨v6, rfl, hown6, hb6⟩
      have hmem6 := hmem5.new hb6
      have hdc6 := Block.only hdc5 (Only.of_below hb6 []) (by simp)
      obtain ⟨b6, d6, rfl, _, _, hn6⟩ := hown6.shape
      have hBs6 := hmem6.below.size
      have hHn := own_nums hmem6.own8
      obtain ⟨W, hW⟩ : ∃ W, W = out ++ R.2 := ⟨_, rfl⟩
      have hWl : W.length ≤ 302 := by rw [hW]; simp; simp at hTl; omega
      rw [← hW] at hn6 hT1' ⊢
      replace hW := Lib.hid hW
      go_wp2_with (first
        | (with_reducible show wpList _ _ _ (⟨some 66, .call _, _, _, _, _⟩ :: _) _ _; go_must (refine wpList_app elemR rfl (.tmp 64) (.tmp 65) rfl w6.heap.size (.slice (some ⟨w6.heap.size, 0, none⟩) 0 0) [] H b8 w6.heap.size d8 rfl rfl (own_empty w6 _ _) (hHn.alloc (Nat.le_refl _) _) ?_ ?_ ?_ ?_; (simp); (simp; omega); (simp [maxLen]; omega); intro v7 w7 hown7 ho7 hat7; have hB7 : Below w6.heap.size w6 w7 := (enc_below _ _).trans (ho7.below (by simp) (by simp [Value.ownBlock])); rw [List.nil_append] at hown7; have hs7 := hB7.size; have hn67 := hn6.below hB7 (Nat.le_refl _)))
        | (with_reducible show wpList _ _ _ (⟨some 68, .call _, _, _, _, _⟩ :: _) _ _; go_must (refine wpList_app elemR rfl (.tmp 66) (.tmp 67) rfl w6.heap.size v7 H W b6 w6.heap.size d6 rfl rfl hown7 hn67 ?_ ?_ ?_ ?_; (omega); (omega); (simp only [maxLen]; omega); intro v8 w8 hown8 ho8 hat8)))
      have hB8 := below_app0 hB7 hown7 hB7.size ho8
      rw [hT1'.out] at hown8
      obtain ⟨b9, d9, rfl, _, _, hn9⟩ := hown8.shape
      have hmem8 := hmem6.new hB8
      have hdc8 := Block.only hdc6 (Only.of_below hB8 []) (by simp)
      refine (same_yes T1 v5a b9 v5c d9 w8 w8.heap.size (by omega) (own_nums hmem8.own7) hn9).mono ?_
      rintro e w9 ⟨rfl, hb9⟩
      have hmem9 := hmem8.new hb9
      have hdc9 := Block.only hdc8 (Only.of_below hb9 []) (by simp)
      have hRok : R.1.Ok := by rw [← hRR.out, ← hDD.out]; exact take_ok (run_ok _ zero_ok (seg_bytes hb f k)) hx
      have hdcn : w.heap.size ≤ w1.heap.size ∧ wn.heap.size < w1.heap.size := by have := hfd.only.size; have := hmem.dec1.lt; omega
      clear hown6 hn6 hown7 hown8 ho7 ho8 hn67 hn9 hdc8 hdc6 hdc5 hmem8 hmem6 hHn hB7 hB8 hb9 hb6 hsay hmem5
      go_wp2_with ((go_at_call 19; refine (open_any R.1 w.heap.size w9 hmem9.dec0).mono ?_; rintro e w' ⟨rfl, rfl⟩))
      refine (feed_any R.1 hRok 255 ⟨by omega, by omega⟩ w1.heap.size w9 hdc9).mono ?_
      rintro e w10 ⟨v10, rfl, hfd10⟩
      have hmem10 := hmem9.other hfd10.only (fun g hg => by
        simp at hg
        subst hg
        exact ⟨hdcn.1, by omega, by omega, hmem9.own7.apart hdc9 (by decide), hmem9.own8.apart hdc9 (by decide)⟩)
      clear hfd10 hdc9 hmem9
      by_cases hen : (k : Int) = en
      · subst hen
        have hE1 := end_len R.1
        have hz := end_ok hRok
        go_wp2_with ((go_at_call 19; refine (open_any R.1 w.heap.size w10 hmem10.dec0).mono ?_; rintro e w' ⟨rfl, rfl⟩))
        refine (stop_any R.1 w.heap.size w10 hmem10.dec0).mono ?_
        rintro e w11 ⟨v11, rfl, hfd11⟩
        have hmem11 := hmem10.fed0 hfd11
        obtain ⟨b11, d11, rfl, _, _, hn11⟩ := hfd11.own.shape
        have hs11 := hmem11.below.size
        rw [hz] at hmem11
        replace hz := Lib.hid hz
        go_wp2_with ((with_reducible show wpList _ _ _ (⟨some 89, .call _, _, _, _, _⟩ :: _) _ _; go_must (refine wpList_app elemR rfl (.tmp 86) (.tmp 88) rfl w.heap.size (.slice v5a T1.length v5c) T1 (endF R.1).2 b11 w11.heap.size d11 rfl rfl hmem11.own7 hn11 ?_ ?_ ?_ ?_; (omega); (omega); (simp only [maxLen]; omega); intro v12 w12 hown12 ho12 hat12)))
        have hmem12 := hmem11.app7 hown12 ho12 hat12
        obtain ⟨T2, hT2⟩ : ∃ T2, T2 = T1 ++ (endF R.1).2 := ⟨_, rfl⟩
        rw [← hT2] at hmem12
        have hT2l : T2.length ≤ 303 := by rw [hT2]; simp; omega
        have hT2' : H ++ decF (seg l f (k + 1)) = T2 := by
          rw [hT2, ← hT1'.out, hW.out]
          unfold decF
          rw [hsn.out]
          simp only [List.append_assoc]
        replace hT2 := Lib.hid hT2
        replace hT2' := Lib.hid hT2'
        obtain ⟨v12a, v12c, rfl, _, _, _⟩ := hmem12.own7.shape
        clear hown12 ho12 hat12 hmem11 hmem10 hfd11 hn11
        refine (stop_any R.1 wn.heap.size w12 hmem12.dec1).mono ?_
        rintro e w13 ⟨v13, rfl, hfd13⟩
        have hmem13 := hmem12.fed1 hfd13
        rw [hz.out] at hmem13
        clear hfd13 hmem12
        go_wp2_with fail
        have hs13 := hmem13.below.size
        have hHn : ∀ W', Below w13.heap.size w13 W' → Nums W' w13.heap.size .i32 b8 H := fun W' hb' => (own_nums hmem13.own8).below hb' (Nat.le_refl _)
        have hdec : ∀ W', Below w13.heap.size w13 W' → Calls Try.prog 12 #[.slice (some (ad.add f)) (k + 1 - f) (c - f)] W' (DecTold W' (seg l f (k + 1))) := fun W' hb' => by
          have hbw := below_next hmem13.below hb'
          have hSl : (seg l f (k + 1)).length = k + 1 - f := by unfold seg; simp; omega
          have h := refDecode_any (seg l f (k + 1)) (seg_bytes hb f (k + 1)) (some (ad.add f)) (c - f) W' (by omega) (by omega) (((hn.below hbw (Nat.le_refl _)).piece f (k + 1)).more hbw.size)
          rw [hSl] at h
          exact h
        replace hHn := Lib.hid hHn
        replace hdec := Lib.hid hdec
        obtain ⟨Z, hZ⟩ : ∃ Z, Z = decF (seg l f (k + 1)) := ⟨_, rfl⟩
        have hZl : Z.length ≤ 300 := by rw [hZ]; exact Nat.le_trans (dec_len (seg_bytes hb f (k + 1))) (by have := seg_len l f (k + 1); omega)
        rw [← hZ] at hT2'
        replace hZ := Lib.hid hZ
        have hd0 : Below w13.heap.size w13 w13.drew := (Below.refl _ _).drew
        have hw2 : (0 : Int) ≤ (k : Int) + 1 := by omega
        have hw3 : (k : Int) + 1 ≤ (c : Int) := by omega
        have hw5 : f ≤ k + 1 := by omega
        have hw6 : ¬ c = f := by omega
        have hw1 : IntKind.i64.wrap ((k : Int) + 1) = (k : Int) + 1 := IntWalk.i64_in _ (by omega)
        have hw4 : ((k : Int) + 1).toNat = k + 1 := by omega
        go_region_law (first
          | (refine step_app elemR rfl (.tmp 91) (.tmp 92) rfl w13.heap.size (.slice (some ⟨w13.heap.size, 0, none⟩) 0 0) [] H b8 w13.heap.size d8 rfl rfl (own_empty _ _ _) (hHn.out _ (hd0.alloc (Nat.le_refl _) _)) (by simp) (by simp; omega) (by simp [maxLen]; omega) ?_; intro v15 w15 hown15 ho15 hat15)
          | (go_simp; go_at_call 12; refine (hdec.out _ ?_).mono ?_; (first | exact hd0 | exact (hd0.alloc (Nat.le_refl _) _).trans (ho15.below (by simp) (by simp [Value.ownBlock])) | exact hd0.alloc (Nat.le_refl _) _); rintro e w16 ⟨v16, rfl, hown16, hb16⟩; rw [← hZ.out] at hown16; obtain ⟨b16, d16, rfl, _, _, hn16⟩ := hown16.shape)
          | (have hq15 := Own.only hown15 (Only.of_below hb16 []) (by simp); refine step_app elemR rfl (.tmp 93) (.tmp 99) rfl w13.heap.size v15 ([] ++ H) Z b16 w16.heap.size d16 rfl rfl hq15 hn16 (by have := hb16.size; have := ho15.size; simp at this; omega) (by simp; omega) (by simp [maxLen]; omega) ?_; intro v17 w17 hown17 ho17 hat17))
        clear hw1 hw4 hw2 hw3
        have hb15 : Below w13.heap.size w13 w15 := (hd0.alloc (Nat.le_refl _) _).trans (ho15.below (by simp) (by simp [Value.ownBlock]))
        have hB16 := below_next hb15 hb16
        have hB17 := below_app0 hB16 hq15 hB16.size ho17
        rw [List.nil_append, hT2'.out] at hown17
        obtain ⟨b17, d17, rfl, _, _, hn17⟩ := hown17.shape
        have hmem17 := hmem13.row8 hB17 hown17
        have hT2k : T2.length ≤ k + 1 := by
          rw [← hT2'.out, hZ.out, List.length_append]
          have := dec_len (seg_bytes hb f (k + 1))
          have := seg_len l f (k + 1)
          omega
        clear hown15 ho15 hat15 hown16 hn16 hq15 hown17 ho17 hat17 hb15 hb16 hB16 hB17 hmem13 hHn hdec hd0
        go_wp2_with fail
        refine (same_yes T2 v12a b17 v12c d17 w17 w17.heap.size (by omega) (own_nums hmem17.own7) hn17).mono ?_
        rintro e w18 ⟨rfl, hb18⟩
        have hmem18 := hmem17.new hb18
        clear hmem17 hn17 hb18
        go_wp2_with ((go_at_call 19; refine (open_any zero w.heap.size w18 hmem18.dec0).mono ?_; rintro e w' ⟨rfl, rfl⟩))
        refine (stop_any zero w.heap.size w18 hmem18.dec0).mono ?_
        rintro e w19 ⟨v19, rfl, hfd19⟩
        have hmem19 := hmem18.fed0 hfd19
        obtain ⟨b19, d19, rfl, _, _, _⟩ := hfd19.own.shape
        clear hmem18 hfd19
        go_wp2_with fail
        go_roundw
        case rel =>
          refine ⟨k + 1, k + 1, T2, by go_num, by go_num, by omega, ⟨?_, hT2k, by omega⟩⟩
          rw [seg_self]
          show Mem w w.heap.size wn.heap.size zero zero _ _ (T2 ++ []) T2 w19
          rw [List.append_nil]
          exact hmem19
        case measure => simp [intOf]; omega
      · have hen' : ((k : Int) == en) = false := by simpa using hen
        clear hen
        go_wp2_with ((go_at_call 19; refine (open_any R.1 w.heap.size w10 hmem10.dec0).mono ?_; rintro e w' ⟨rfl, rfl⟩))
        go_roundw
        case rel =>
          refine ⟨k + 1, f, H, by go_num, rfl, by omega, ⟨?_, hHl, by omega⟩⟩
          rw [hsn.out]
          show Mem w w.heap.size wn.heap.size R.1 R.1 _ _ (H ++ (out ++ R.2)) H w10
          rw [← hW.out, hT1'.out]
          exact hmem10
        case measure => simp [intOf]; omega
    · have hB := hmem.below
      clear hmem hn
      go_wp2_with (first
        | (go_at_call 16; refine (feed_nil 97 _).mono ?_; rintro e w' ⟨rfl, rfl⟩)
        | (go_at_call 19; refine (open_nil _).mono ?_; rintro e w' ⟨rfl, rfl⟩)
        | (go_at_call 20; refine (stop_nil _).mono ?_; rintro e w' ⟨rfl, rfl⟩)
        | (go_at_call 17; refine (copy_nil _).mono ?_; rintro e w' ⟨rfl, rfl⟩)
        | (go_at_call 9; refine (known_any _).mono ?_; rintro e wz ⟨rfl, hbz⟩))
      go_ret
      exact ⟨rfl, below_next hB hbz⟩

end Go.Proofs.Ytjafaicpnhdodaa.Utf
