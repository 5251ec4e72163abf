/-
  The reference's Begins, value and Say.
-/
import Derived.Test.YtjafaicpnhdodaaULeaf
namespace Go.Proofs.Ytjafaicpnhdodaa.Utf
open Go Go.RowKit Go.Proofs.Ytjafaicpnhdodaa.Com

theorem cnt_go {m : List Int} {i : Nat} (h1 : i < sizeF (m.getD 0 0)) (h2 : i < m.length) (h3 : OkAt m i) : cntF m (4 - i) i = cntF m (4 - (i + 1)) (i + 1) := by
  have h4 := sizeF_le (m.getD 0 0)
  rw [show 4 - i = (4 - (i + 1)) + 1 by omega, cntF, if_pos ⟨h1, h2, h3⟩]
theorem cnt_stop {m : List Int} {f i : Nat} (h : ¬ (i < sizeF (m.getD 0 0) ∧ i < m.length ∧ OkAt m i)) : cntF m f i = i := by
  cases f with
  | zero => rfl
  | succ f => rw [cntF, if_neg h]
theorem getD_drop (l : List Int) (k i : Nat) : (l.drop k).getD i 0 = l.getD (k + i) 0 := by simp [List.getD, List.getElem?_drop]
theorem getD_at {l : List Int} {i : Nat} (h : i < l.length) : l.getD i 0 = l[i] := by simp [List.getD, List.getElem?_eq_getElem h]

set_option maxHeartbeats 1000000 in
theorem begins_any (l : List Int) (hb : Bytes l) (ao : Option Addr) (c k : Nat) (w : World) (B : Nat) (hl : l.length ≤ 1048576) (hk : k < l.length) (h : Nums w B .u8 ao l) :
    Calls Try.prog 24 #[.slice ao l.length c, .int .i64 k] w fun e w' => e = .returned (.int .i64 (beginsF (l.drop k))) ∧ w = w' := by
  obtain ⟨ad, rfl, _, hc0⟩ := h.at hk
  have hx := hb l[k] (List.getElem_mem hk)
  obtain ⟨hx1, hx2⟩ := hx
  have HX := Lib.hid (getD_drop l k 0)
  have HS := Lib.hid (show (l.drop k).getD 0 0 = l[k] by rw [getD_drop]; exact getD_at hk)
  have hs4 := sizeF_le l[k]
  have HB := Lib.hid (show cntF (l.drop k) (4 - 0) 0 = beginsF (l.drop k) from rfl)
  have hlen : (l.drop k).length = l.length - k := by simp
  have HL := Lib.hid hlen
  clear hlen
  generalize hX : l[k] = x at *
  have hX' := Lib.hid hX
  clear hX
  go_enter Try.func24, Try.ntmps24
  go_wp2_with (go_at_call 25; refine (size_any _ hx1 hx2 _).mono ?_; rintro e w' ⟨rfl, rfl⟩)
  go_loop [6] (fun n => ∃ i : Nat, n = .int .i64 i ∧ i ≤ sizeF x ∧ k + i ≤ l.length ∧ Hid (cntF (l.drop k) (4 - i) i = beginsF (l.drop k))) (fun n => 4 - (intOf n).toNat)
  case atStart => exact ⟨0, rfl, by omega, by omega, HB⟩
  case round =>
    obtain ⟨i, rfl, his, hil, HC⟩ := hrel
    by_cases hgo : i < sizeF x ∧ k + i < l.length
    · obtain ⟨g1, g2⟩ := hgo
      obtain ⟨ad', e', _, hc1⟩ := h.at g2
      cases e'
      obtain ⟨hy1, hy2⟩ := hb l[k + i] (List.getElem_mem g2)
      have HY := Lib.hid (show (l.drop k).getD i 0 = l[k + i] by rw [getD_drop]; exact getD_at g2)
      clear h hb
      generalize l[k + i] = y at hc1 hy1 hy2 HY
      have hso : i < sizeF ((l.drop k).getD 0 0) := by rw [HS.out]; exact g1
      have hlo : i < (l.drop k).length := by rw [HL.out]; omega
      have hso' := Lib.hid hso
      have hlo' := Lib.hid hlo
      clear hso hlo
      have go_ : OkAt (l.drop k) i → Hid (cntF (l.drop k) (4 - (i + 1)) (i + 1) = beginsF (l.drop k)) := fun h3 => (cnt_go hso'.out hlo'.out h3).symm.trans HC.out
      have stop_ : ¬ OkAt (l.drop k) i → Hid ((i : Int) = beginsF (l.drop k)) := fun h3 => by
        have h5 := (cnt_stop (f := 4 - i) (i := i) (m := l.drop k) (fun h6 => h3 h6.2.2)).symm.trans HC.out
        show _ = _
        omega
      rcases (show i = 0 ∨ i = 1 ∨ 2 ≤ i by omega) with rfl | rfl | hi
      · replace go_ := go_ (.inl rfl)
        clear stop_
        go_wp2
        go_round
        case rel => exact ⟨1, rfl, by omega, by omega, go_⟩
        case measure => simp [intOf]
      · have hc2 : w.cell? ⟨ad.block, ad.off + (k + 1), none⟩ = some (.int .u8 y) := by simpa [Addr.add] using hc1
        clear hc1
        by_cases hok : loF x ≤ y ∧ y ≤ hiF x
        · replace go_ := go_ (.inr (.inl ⟨rfl, by rw [HS.out, HY.out]; exact hok.1, by rw [HS.out, HY.out]; exact hok.2⟩))
          clear stop_
          have hok' := Lib.hid hok
          clear hok
          go_wp2_with (go_at_call 29; refine (second_yes _ _ hok'.out.1 hok'.out.2 _).mono ?_; rintro e w' ⟨rfl, rfl⟩)
          go_round
          case rel => exact ⟨2, rfl, by omega, by omega, go_⟩
          case measure => simp [intOf]
        · replace stop_ := stop_ (fun h7 => by
            rcases h7 with h7 | ⟨_, h7, h8⟩ | ⟨h7, _⟩
            · omega
            · rw [HS.out, HY.out] at h7 h8; exact hok ⟨h7, h8⟩
            · omega)
          clear go_
          have hok' : Hid (y < loF x ∨ hiF x < y) := by show _ ∨ _; omega
          clear hok
          go_wp2_with (go_at_call 29; refine (second_no _ _ hok'.out _).mono ?_; rintro e w' ⟨rfl, rfl⟩)
          go_ret
          exact ⟨ret_int stop_.out, rfl⟩
      · rcases (show y < 128 ∨ 191 < y ∨ (128 ≤ y ∧ y ≤ 191) by omega) with hy | hy | ⟨hy, hy'⟩
        · replace stop_ := stop_ (fun h7 => by
            rcases h7 with h7 | ⟨h7, _⟩ | ⟨_, h7, h8⟩
            · omega
            · omega
            · rw [HY.out] at h7; omega)
          clear go_
          go_wp2
          go_ret
          exact ⟨ret_int stop_.out, rfl⟩
        · replace stop_ := stop_ (fun h7 => by
            rcases h7 with h7 | ⟨h7, _⟩ | ⟨_, h7, h8⟩
            · omega
            · omega
            · rw [HY.out] at h8; omega)
          clear go_
          go_wp2
          go_ret
          exact ⟨ret_int stop_.out, rfl⟩
        · replace go_ := go_ (.inr (.inr ⟨hi, by rw [HY.out]; exact hy, by rw [HY.out]; exact hy'⟩))
          clear stop_
          go_wp2
          go_round
          case rel => exact ⟨i + 1, by go_num, by omega, by omega, go_⟩
          case measure => simp [intOf]; omega
    · have stop_ : Hid ((i : Int) = beginsF (l.drop k)) := by
        have h5 := (cnt_stop (f := 4 - i) (i := i) (m := l.drop k) (fun h6 => hgo ⟨by have := h6.1; rw [HS.out] at this; exact this, by have := h6.2.1; rw [HL.out] at this; omega⟩)).symm.trans HC.out
        show _ = _
        omega
      clear h hb
      by_cases g1 : i < sizeF x
      · have g2 : l.length ≤ k + i := by omega
        clear hgo
        go_wp2
        go_ret
        exact ⟨ret_int stop_.out, rfl⟩
      · clear hgo
        go_wp2
        go_ret
        exact ⟨ret_int stop_.out, rfl⟩

theorem val_bd {m : List Int} (hb : Bytes m) (s : Nat) : ∀ j, j ≤ 2 → j < m.length → -991360 ≤ valF m s j ∧ valF m s j ≤ 1052735 := by
  have hg : ∀ i, i < m.length → 0 ≤ m.getD i 0 ∧ m.getD i 0 ≤ 255 := fun i hi => by rw [getD_at hi]; exact hb _ (List.getElem_mem hi)
  have hl : 0 ≤ leadF s ∧ leadF s ≤ 240 := by unfold leadF; split <;> (try split) <;> (try split) <;> omega
  intro j hj hm
  rcases (show j = 0 ∨ j = 1 ∨ j = 2 by omega) with rfl | rfl | rfl
  · have := hg 0 hm
    simp only [valF]; omega
  · have h0 := hg 0 (by omega)
    have h1 := hg 1 (by omega)
    simp only [valF, Nat.zero_add]; omega
  · have h0 := hg 0 (by omega)
    have h1 := hg 1 (by omega)
    have h2 := hg 2 (by omega)
    simp only [valF, Nat.zero_add, Nat.reduceAdd]; omega

set_option maxHeartbeats 1000000 in
theorem value_any (m : List Int) (hb : Bytes m) (n : Nat) (hn : m.length = n) (h1 : 1 ≤ n) (h4 : n ≤ 4) (ao : Option Addr) (c : Nat) (w : World) (B : Nat) (h : Nums w B .u8 ao m) :
    Calls Try.prog 26 #[.slice ao n c] w fun e w' => e = .returned (.int .i32 (valF m n (n - 1))) ∧ w = w' := by
  have HN := Lib.hid hn
  have hn' : n ≤ m.length := by omega
  clear hn
  obtain ⟨ad, rfl, _, hc0⟩ := h.at (show 0 < m.length by omega)
  have hc1 : w.cell? ad = some (.int .u8 m[0]) := by simpa [Addr.add] using hc0
  clear hc0
  obtain ⟨hx1, hx2⟩ := hb m[0] (List.getElem_mem (show 0 < m.length by omega))
  have H0 := Lib.hid (show valF m n 0 = m[0] - leadF n by rw [valF, getD_at (show 0 < m.length by omega)])
  generalize m[0] = x at hc1 hx1 hx2 H0
  have HG : Hid (∀ i, 0 < i → i < n → ∃ y, 0 ≤ y ∧ y ≤ 255 ∧ m.getD i 0 = y ∧ w.cell? ⟨ad.block, ad.off + i, none⟩ = some (.int .u8 y)) := fun i hi0 hi => by
    obtain ⟨ad', e', _, hc⟩ := h.at (show i < m.length by omega)
    cases e'
    have hy := hb m[i] (List.getElem_mem (show i < m.length by omega))
    refine ⟨m[i], hy.1, hy.2, getD_at (by omega), ?_⟩
    have e : ad.add i = ⟨ad.block, ad.off + i, none⟩ := by unfold Addr.add; rw [if_neg (by omega)]
    rw [← e]
    exact hc
  have HB : Hid (∀ j, j ≤ 2 → j < n → -991360 ≤ valF m n j ∧ valF m n j ≤ 1052735) := fun j h1 h2 => val_bd hb n j h1 (by omega)
  clear h hb
  have HS : Hid (∀ j, valF m n (j + 1) = valF m n j * 64 + m.getD (j + 1) 0 - 128) := fun j => rfl
  have hl : leadF 1 = 0 ∧ leadF 2 = 192 ∧ leadF 3 = 224 ∧ leadF 4 = 240 := by simp [leadF]
  obtain ⟨l1, l2, l3, l4⟩ := hl
  have HE : Hid (n = 1 ∧ valF m n 0 = x ∨ n = 2 ∧ valF m n 0 = x - 192 ∨ n = 3 ∧ valF m n 0 = x - 224 ∨ n = 4 ∧ valF m n 0 = x - 240) := by
    have := H0.out
    rcases (show n = 1 ∨ n = 2 ∨ n = 3 ∨ n = 4 by omega) with rfl | rfl | rfl | rfl
    · exact .inl ⟨rfl, by omega⟩
    · exact .inr (.inl ⟨rfl, by omega⟩)
    · exact .inr (.inr (.inl ⟨rfl, by omega⟩))
    · exact .inr (.inr (.inr ⟨rfl, by omega⟩))
  clear l1 l2 l3 l4 H0
  have HV : ∀ j, Hid (valF m n j = valF m n j) := fun j => rfl
  generalize hV : valF m n = V at *
  clear hV HV
  rcases HE.out with ⟨rfl, e⟩ | ⟨rfl, e⟩ | ⟨rfl, e⟩ | ⟨rfl, e⟩
  all_goals
    replace e := Lib.hid e
    clear HE hn' h1 h4
    go_enter Try.func26, Try.ntmps26
    go_wp2
    go_loop [3, 4] (fun r i => ∃ j : Nat, i = .int .i64 (j + 1 : Nat) ∧ j + 1 ≤ m.length ∧ r = .int .i32 (V j)) (fun _ i => 8 - (intOf i).toNat)
    case atStart => exact ⟨0, rfl, by rw [HN.out]; omega, by rw [e.out]⟩
    case round =>
      obtain ⟨j, rfl, hj, rfl⟩ := hrel
      rw [HN.out] at hj
      by_cases hlt : j + 1 < m.length
      · rw [HN.out] at hlt
        obtain ⟨y, hy0, hy1, hy, hc⟩ := HG.out (j + 1) (by omega) hlt
        obtain ⟨b1, b2⟩ := HB.out j (by omega) (by omega)
        have HS' := Lib.hid (HS.out j)
        rw [hy] at HS'
        generalize V j = r at b1 b2 HS'
        go_wp2
        all_goals
          go_round
          case rel => exact ⟨j + 1, by go_num, by rw [HN.out]; omega, by rw [HS'.out]⟩
          case measure => simp [intOf]; omega
      · rw [HN.out] at hlt
        go_wp2
        go_ret
        exact ⟨ret_int (by congr 1; omega), rfl⟩

end Go.Proofs.Ytjafaicpnhdodaa.Utf
