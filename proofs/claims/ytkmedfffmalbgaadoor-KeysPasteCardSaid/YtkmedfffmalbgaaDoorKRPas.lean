/-
  keys: Paste of the reference.
-/
import Derived.Test.YtkmedfffmalbgaaDoorKPas2
import Derived.Lib.SlBytesConst
namespace Go.Proofs.YtkmedfffmalbgaaDoor.Kys
open Go Go.RowKit Go.Proofs.YtkmedfffmalbgaaDoor.Com Go.Proofs.YtkmedfffmalbgaaDoor.Mds

theorem rmay_any (r : Int) (w : World) : Calls Tryd.prog 21 #[.int .i32 r] w fun e w' => e = .returned (.bool (decide (mayR r))) ∧ w = w' := by
  rcases rune_ways r with ⟨h1, e⟩ | ⟨h1, h2, e⟩ | ⟨h1, h2, e⟩ | ⟨h1, h2, e⟩ | ⟨h1, h2, e⟩
  all_goals
    replace e := Lib.hid e
    go_enter Tryd.func21, Tryd.ntmps21
    go_wp2
    go_ret
    first
      | exact ⟨ret_bool (decide_eq_true e.out).symm, rfl⟩
      | exact ⟨ret_bool (decide_eq_false e.out).symm, rfl⟩
      | exact ⟨ret_bool (by simp [e.out]; omega), rfl⟩
theorem rmay_yes {r : Int} (h : mayR r) (w : World) : Calls Tryd.prog 21 #[.int .i32 r] w fun e w' => e = .returned (.bool true) ∧ w = w' := by
  have := rmay_any r w
  rwa [decide_eq_true h] at this
theorem rmay_no {r : Int} (h : ¬ mayR r) (w : World) : Calls Tryd.prog 21 #[.int .i32 r] w fun e w' => e = .returned (.bool false) ∧ w = w' := by
  have := rmay_any r w
  rwa [decide_eq_false h] at this

/-- A literal's array that bears the run time's mark. -/
theorem marked (w : World) (B : Nat) (e : TypeId) (l : List Int) (hB : B ≤ w.heap.size) (hm : l.length ≤ maxLen) :
    Row (w.alloc (.cells (l.map (Value.int .u8)).toArray e ((l.map (Value.int .u8)).toArray.size, (l.map (Value.int .u8)).toArray.size + 1))) B e (.slice (some ⟨w.heap.size, 0, none⟩) l.length l.length) l :=
  .inr ⟨w.heap.size, l.length, _, _, rfl, hB, heap_alloc_new w _, fun _ => Nat.le_refl _, Nat.le_refl _, hm, by simp, by simp [List.take_of_length_le]⟩
theorem marked_nums (w : World) (e : TypeId) (l : List Int) (hm : l.length ≤ maxLen) :
    Nums (w.alloc (.cells (l.map (Value.int .u8)).toArray e ((l.map (Value.int .u8)).toArray.size, (l.map (Value.int .u8)).toArray.size + 1))) (w.alloc (.cells (l.map (Value.int .u8)).toArray e ((l.map (Value.int .u8)).toArray.size, (l.map (Value.int .u8)).toArray.size + 1))).heap.size .u8 (some ⟨w.heap.size, 0, none⟩) l := by
  obtain ⟨ao, c, e', _, _, h⟩ := (marked w w.heap.size e l (Nat.le_refl _) hm).shape
  cases e'
  exact h
theorem marked200 (w : World) (B : Nat) (hB : B ≤ w.heap.size) : Row (w.alloc (.cells #[.int .u8 27, .int .u8 91, .int .u8 50, .int .u8 48, .int .u8 48, .int .u8 126] 5 (6, 7))) B 5 (.slice (some ⟨w.heap.size, 0, none⟩) 6 6) b200 := marked w B 5 b200 hB (by decide)
theorem marked201 (w : World) : Nums (w.alloc (.cells #[.int .u8 27, .int .u8 91, .int .u8 50, .int .u8 48, .int .u8 49, .int .u8 126] 5 (6, 7))) (w.alloc (.cells #[.int .u8 27, .int .u8 91, .int .u8 50, .int .u8 48, .int .u8 49, .int .u8 126] 5 (6, 7))).heap.size .u8 (some ⟨w.heap.size, 0, none⟩) b201 := marked_nums w 5 b201 (by decide)
set_option maxHeartbeats 8000000 in
theorem rpaste_false (m : Md) (hon : m.a7 = false) (ao : Option Addr) (c : Nat) (text : List Int) (hl : text.length ≤ 100000000) (w : World) (hn : Nums w w.heap.size .i32 ao text) :
    Calls Tryd.prog 10 #[.agg (mA m), .slice ao text.length c] w (Put w.heap.size (pasteF false text) w) := by
  have hb0 := Lib.hid (below_new w (.cells (mA m) 23))
  have hd0 := Lib.hid (MB.made w m)
  have hlen := Lib.hid (fun k => pas_len (on := false) hl k)
  go_enter Tryd.func10, Tryd.ntmps10
  go_wp2_with fail
  have hst : Hid (PasAt w m [] text 0 (.slice none 0 0) (w.alloc (.cells (mA m) 23))) := ⟨Row.nil _ _ _, hb0.out, hd0.out⟩
  clear hd0
  go_loopw [5, 6] (fun v i wr => ∃ k : Nat, i = .int .i64 k ∧ k ≤ text.length ∧ Hid (PasAt w m [] text k v wr)) (fun _ i _ => text.length - (intOf i).toNat)
  case atStart => exact ⟨0, rfl, by omega, hst⟩
  case round =>
    clear hst
    obtain ⟨k, rfl, hk, hat⟩ := hrel
    have hsz := hat.out.below.size
    by_cases hlt : k < text.length
    · obtain ⟨ad, rfl, _, hcell⟩ := (hn.below hat.out.below (Nat.le_refl _)).at hlt
      have hrow := hat.out.row
      have hbel := Lib.hid hat.out.below
      have hbox := Lib.hid hat.out.box
      have hL := Lib.hid (hlen.out k)
      obtain ⟨acc, hacc⟩ : ∃ acc, acc = ([] : List Int) ++ plainP false (text.take k) := ⟨_, rfl⟩
      rw [← hacc] at hrow
      replace hL := Lib.hid (show acc.length ≤ 500000000 by rw [hacc]; exact hL.out)
      replace hacc := Lib.hid hacc
      by_cases hr10 : text[k] = 10
      · rcases k with _ | j
        · have he := Lib.hid (show oneP (ahead text 0) text[0] = [13] by rw [hr10]; rfl)
          rw [hr10] at hcell
          have hcell0 : wr.cell? ad = some (.int .i32 10) := by simpa [Addr.add] using hcell
          clear hcell hr10 hat hn
          go_wp2_with (at_builtin; refine wpList_appR elemB rfl (.tmp 35) (.tmp 36) rfl w.heap.size _ acc [13] _ _ 1 rfl rfl (hrow.alloc _) (Nums.one wr _ .u8 13) (by simp; omega) (by have := hL.out; simp; omega) ?_; intro v2 w2 h2 ho2; have hb2 := Lib.hid (row_below (hbel.out.trans ((Below.refl _ _).alloc hsz _)) (hrow.alloc _) (by simp; omega) ho2); have hm2 := Lib.hid (box_app (hbox.out.alloc _) (hrow.alloc _) ho2); replace h2 := Lib.hid h2; clear ho2)
          go_roundw
          case rel => exact ⟨0 + 1, by go_num, by omega, pas_next hlt hacc.out he.out h2.out hb2.out hm2.out⟩
          case measure => simp [intOf]; omega
        · obtain ⟨ad', e', _, hprev⟩ := (hn.below hat.out.below (Nat.le_refl _)).at (show j < text.length by omega)
          cases e'
          rw [hr10] at hcell
          have hcell1 : wr.cell? ⟨ad.block, ad.off + (j + 1), none⟩ = some (.int .i32 10) := by simpa [Addr.add] using hcell
          clear hcell
          by_cases hp : text[j] = 13
          · have hsame := Lib.hid (pas_same hat.out hlt (show oneP (ahead text (j + 1)) text[j + 1] = [] by rw [hr10]; exact one_10t _ (by simp [ahead, is13, List.getD, show j < text.length by omega, hp])))
            rw [hp] at hprev
            clear hr10 hat hn hp
            go_wp2_with fail
            go_roundw
            case rel => exact ⟨j + 1 + 1, by go_num, by omega, hsame.out⟩
            case measure => simp [intOf]; omega
          · have he := Lib.hid (show oneP (ahead text (j + 1)) text[j + 1] = [13] by rw [hr10]; exact one_10f _ (by simp [ahead, is13, List.getD, show j < text.length by omega, hp]))
            clear hr10 hat hn
            generalize text[j] = y at hprev hp
            have hq : (y != 13) = true := by simpa using hp
            go_wp2_with (at_builtin; refine wpList_appR elemB rfl (.tmp 35) (.tmp 36) rfl w.heap.size _ acc [13] _ _ 1 rfl rfl (hrow.alloc _) (Nums.one wr _ .u8 13) (by simp; omega) (by have := hL.out; simp; omega) ?_; intro v2 w2 h2 ho2; have hb2 := Lib.hid (row_below (hbel.out.trans ((Below.refl _ _).alloc hsz _)) (hrow.alloc _) (by simp; omega) ho2); have hm2 := Lib.hid (box_app (hbox.out.alloc _) (hrow.alloc _) ho2); replace h2 := Lib.hid h2; clear ho2)
            go_roundw
            case rel => exact ⟨j + 1 + 1, by go_num, by omega, pas_next hlt hacc.out he.out h2.out hb2.out hm2.out⟩
            case measure => simp [intOf]; omega
      · by_cases hr13 : text[k] = 13
        · have he := Lib.hid (show oneP (ahead text k) text[k] = [13] by rw [hr13]; rfl)
          rw [hr13] at hcell
          clear hr10 hr13 hat hn
          go_wp2_with (at_builtin; refine wpList_appR elemB rfl (.tmp 35) (.tmp 36) rfl w.heap.size _ acc [13] _ _ 1 rfl rfl (hrow.alloc _) (Nums.one wr _ .u8 13) (by simp; omega) (by have := hL.out; simp; omega) ?_; intro v2 w2 h2 ho2; have hb2 := Lib.hid (row_below (hbel.out.trans ((Below.refl _ _).alloc hsz _)) (hrow.alloc _) (by simp; omega) ho2); have hm2 := Lib.hid (box_app (hbox.out.alloc _) (hrow.alloc _) ho2); replace h2 := Lib.hid h2; clear ho2)
          go_roundw
          case rel => exact ⟨k + 1, by go_num, by omega, pas_next hlt hacc.out he.out h2.out hb2.out hm2.out⟩
          case measure => simp [intOf]; omega
        · by_cases hpa : pasted text[k]
          · have he := Lib.hid (one_p (ahead text k) hr10 hr13 hpa)
            have hXl := Lib.hid (enc_len text[k]).2
            have henc := fun w' => rencode_any text[k] w'
            skip
            obtain ⟨X, hX⟩ : ∃ X, X = encF text[k] := ⟨_, rfl⟩
            rw [← hX] at henc
            replace he := Lib.hid (show oneP (ahead text k) text[k] = X from he.out.trans hX.symm)
            replace hXl := Lib.hid (show X.length ≤ 4 by rw [hX]; exact hXl.out)
            replace henc := Lib.hid henc
            clear hat hn hX
            generalize text[k] = r at hcell henc hr10 hr13 hpa
            rcases hpa with h9 | ⟨h32, h126⟩ | ⟨h160, hmr⟩
            case' inr.inr => have hpas := Lib.hid (fun w' => rmay_yes hmr w')
            case' inl => subst h9
            all_goals
            go_wp2_with (first
            | (go_at_call 21; (with_reducible refine (hpas.out _).mono ?_); rintro e w' ⟨rfl, rfl⟩)
            | (go_at_call 22; (with_reducible refine (henc.out _).mono ?_); rintro e w1 ⟨v1, rfl, hr1, hb1⟩; obtain ⟨a1, c1, rfl, _, _, hn1⟩ := hr1.shape; replace hn1 := Lib.hid hn1; replace hb1 := Lib.hid hb1; clear hr1)
            | (at_builtin; refine wpList_appR elemB rfl (.tmp 56) (.tmp 58) rfl w.heap.size _ acc X a1 _ c1 rfl rfl (hrow.below hb1.out) hn1.out (by have := hb1.out.size; omega) (by have := hL.out; have := hXl.out; omega) ?_; intro v2 w2 h2 ho2; have hb2 := Lib.hid (row_below (hbel.out.trans (hb1.out.mono hsz)) (hrow.below hb1.out) (by have := hb1.out.size; omega) ho2); have hm2 := Lib.hid (box_app (hbox.out.below hb1.out) (hrow.below hb1.out) ho2); replace h2 := Lib.hid h2; clear ho2))
            go_roundw
            case rel => exact ⟨k + 1, by go_num, by omega, pas_next hlt hacc.out he.out h2.out hb2.out hm2.out⟩
            case measure => simp [intOf]; omega
          · have hsame := Lib.hid (pas_same hat.out hlt (one_n (ahead text k) hr10 hr13 hpa))
            skip
            clear hat hn
            generalize text[k] = r at hcell hr10 hr13 hpa
            have hways : (r < 9 ∨ 9 < r ∧ r < 32) ∨ (126 < r ∧ r < 160) ∨ (160 ≤ r ∧ ¬ mayR r) := by
              unfold pasted at hpa
              have h9 : r ≠ 9 := fun h => hpa (.inl h)
              have h32 : ¬ (32 ≤ r ∧ r ≤ 126) := fun h => hpa (.inr (.inl h))
              by_cases ha : r < 32
              · exact .inl (by omega)
              · by_cases hb : r < 160
                · exact .inr (.inl ⟨by omega, hb⟩)
                · exact .inr (.inr ⟨by omega, fun hm => hpa (.inr (.inr ⟨by omega, hm⟩))⟩)
            rcases hways with (hz | ⟨hz, hz'⟩) | ⟨hz, hz'⟩ | ⟨hz, hmr⟩
            case' inr.inr => have hpas := Lib.hid (fun w' => rmay_no hmr w')
            all_goals
            go_wp2_with ((go_at_call 21; (with_reducible refine (hpas.out _).mono ?_); rintro e w' ⟨rfl, rfl⟩))
            go_roundw
            case rel => exact ⟨k + 1, by go_num, by omega, hsame.out⟩
            case measure => simp [intOf]; omega
    · have hkl : text.take k = text := List.take_of_length_le (by omega)
      have hrow := hat.out.row
      have hbel := Lib.hid hat.out.below
      have hcon := hat.out.box.cell (k := 7) (by omega)
      rw [show m.get 7 = m.a7 from rfl, hon] at hcon
      rw [hkl] at hrow
      replace hrow := Lib.hid hrow
      clear hkl hat hn
      go_wp2_with fail
      go_ret
      exact ⟨_, rfl, hrow.out, hbel.out⟩
set_option maxHeartbeats 8000000 in
theorem rpaste_true (m : Md) (hon : m.a7 = true) (ao : Option Addr) (c : Nat) (text : List Int) (hl : text.length ≤ 100000000) (w : World) (hn : Nums w w.heap.size .i32 ao text) :
    Calls Tryd.prog 10 #[.agg (mA m), .slice ao text.length c] w (Put w.heap.size (pasteF true text) w) := by
  have hb0 := Lib.hid (below_new w (.cells (mA m) 23))
  have hd0 := Lib.hid (MB.made w m)
  have hlen := Lib.hid (fun k => pas_len (on := false) hl k)
  go_enter Tryd.func10, Tryd.ntmps10
  go_wp2_with fail
  have hst : Hid (PasAt w m [] text 0 (.slice none 0 0) (w.alloc (.cells (mA m) 23))) := ⟨Row.nil _ _ _, hb0.out, hd0.out⟩
  clear hd0
  go_loopw [5, 6] (fun v i wr => ∃ k : Nat, i = .int .i64 k ∧ k ≤ text.length ∧ Hid (PasAt w m [] text k v wr)) (fun _ i _ => text.length - (intOf i).toNat)
  case atStart => exact ⟨0, rfl, by omega, hst⟩
  case round =>
    clear hst
    obtain ⟨k, rfl, hk, hat⟩ := hrel
    have hsz := hat.out.below.size
    by_cases hlt : k < text.length
    · obtain ⟨ad, rfl, _, hcell⟩ := (hn.below hat.out.below (Nat.le_refl _)).at hlt
      have hrow := hat.out.row
      have hbel := Lib.hid hat.out.below
      have hbox := Lib.hid hat.out.box
      have hL := Lib.hid (hlen.out k)
      obtain ⟨acc, hacc⟩ : ∃ acc, acc = ([] : List Int) ++ plainP false (text.take k) := ⟨_, rfl⟩
      rw [← hacc] at hrow
      replace hL := Lib.hid (show acc.length ≤ 500000000 by rw [hacc]; exact hL.out)
      replace hacc := Lib.hid hacc
      by_cases hr10 : text[k] = 10
      · rcases k with _ | j
        · have he := Lib.hid (show oneP (ahead text 0) text[0] = [13] by rw [hr10]; rfl)
          rw [hr10] at hcell
          have hcell0 : wr.cell? ad = some (.int .i32 10) := by simpa [Addr.add] using hcell
          clear hcell hr10 hat hn
          go_wp2_with (at_builtin; refine wpList_appR elemB rfl (.tmp 35) (.tmp 36) rfl w.heap.size _ acc [13] _ _ 1 rfl rfl (hrow.alloc _) (Nums.one wr _ .u8 13) (by simp; omega) (by have := hL.out; simp; omega) ?_; intro v2 w2 h2 ho2; have hb2 := Lib.hid (row_below (hbel.out.trans ((Below.refl _ _).alloc hsz _)) (hrow.alloc _) (by simp; omega) ho2); have hm2 := Lib.hid (box_app (hbox.out.alloc _) (hrow.alloc _) ho2); replace h2 := Lib.hid h2; clear ho2)
          go_roundw
          case rel => exact ⟨0 + 1, by go_num, by omega, pas_next hlt hacc.out he.out h2.out hb2.out hm2.out⟩
          case measure => simp [intOf]; omega
        · obtain ⟨ad', e', _, hprev⟩ := (hn.below hat.out.below (Nat.le_refl _)).at (show j < text.length by omega)
          cases e'
          rw [hr10] at hcell
          have hcell1 : wr.cell? ⟨ad.block, ad.off + (j + 1), none⟩ = some (.int .i32 10) := by simpa [Addr.add] using hcell
          clear hcell
          by_cases hp : text[j] = 13
          · have hsame := Lib.hid (pas_same hat.out hlt (show oneP (ahead text (j + 1)) text[j + 1] = [] by rw [hr10]; exact one_10t _ (by simp [ahead, is13, List.getD, show j < text.length by omega, hp])))
            rw [hp] at hprev
            clear hr10 hat hn hp
            go_wp2_with fail
            go_roundw
            case rel => exact ⟨j + 1 + 1, by go_num, by omega, hsame.out⟩
            case measure => simp [intOf]; omega
          · have he := Lib.hid (show oneP (ahead text (j + 1)) text[j + 1] = [13] by rw [hr10]; exact one_10f _ (by simp [ahead, is13, List.getD, show j < text.length by omega, hp]))
            clear hr10 hat hn
            generalize text[j] = y at hprev hp
            have hq : (y != 13) = true := by simpa using hp
            go_wp2_with (at_builtin; refine wpList_appR elemB rfl (.tmp 35) (.tmp 36) rfl w.heap.size _ acc [13] _ _ 1 rfl rfl (hrow.alloc _) (Nums.one wr _ .u8 13) (by simp; omega) (by have := hL.out; simp; omega) ?_; intro v2 w2 h2 ho2; have hb2 := Lib.hid (row_below (hbel.out.trans ((Below.refl _ _).alloc hsz _)) (hrow.alloc _) (by simp; omega) ho2); have hm2 := Lib.hid (box_app (hbox.out.alloc _) (hrow.alloc _) ho2); replace h2 := Lib.hid h2; clear ho2)
            go_roundw
            case rel => exact ⟨j + 1 + 1, by go_num, by omega, pas_next hlt hacc.out he.out h2.out hb2.out hm2.out⟩
            case measure => simp [intOf]; omega
      · by_cases hr13 : text[k] = 13
        · have he := Lib.hid (show oneP (ahead text k) text[k] = [13] by rw [hr13]; rfl)
          rw [hr13] at hcell
          clear hr10 hr13 hat hn
          go_wp2_with (at_builtin; refine wpList_appR elemB rfl (.tmp 35) (.tmp 36) rfl w.heap.size _ acc [13] _ _ 1 rfl rfl (hrow.alloc _) (Nums.one wr _ .u8 13) (by simp; omega) (by have := hL.out; simp; omega) ?_; intro v2 w2 h2 ho2; have hb2 := Lib.hid (row_below (hbel.out.trans ((Below.refl _ _).alloc hsz _)) (hrow.alloc _) (by simp; omega) ho2); have hm2 := Lib.hid (box_app (hbox.out.alloc _) (hrow.alloc _) ho2); replace h2 := Lib.hid h2; clear ho2)
          go_roundw
          case rel => exact ⟨k + 1, by go_num, by omega, pas_next hlt hacc.out he.out h2.out hb2.out hm2.out⟩
          case measure => simp [intOf]; omega
        · by_cases hpa : pasted text[k]
          · have he := Lib.hid (one_p (ahead text k) hr10 hr13 hpa)
            have hXl := Lib.hid (enc_len text[k]).2
            have henc := fun w' => rencode_any text[k] w'
            skip
            obtain ⟨X, hX⟩ : ∃ X, X = encF text[k] := ⟨_, rfl⟩
            rw [← hX] at henc
            replace he := Lib.hid (show oneP (ahead text k) text[k] = X from he.out.trans hX.symm)
            replace hXl := Lib.hid (show X.length ≤ 4 by rw [hX]; exact hXl.out)
            replace henc := Lib.hid henc
            clear hat hn hX
            generalize text[k] = r at hcell henc hr10 hr13 hpa
            rcases hpa with h9 | ⟨h32, h126⟩ | ⟨h160, hmr⟩
            case' inr.inr => have hpas := Lib.hid (fun w' => rmay_yes hmr w')
            case' inl => subst h9
            all_goals
            go_wp2_with (first
            | (go_at_call 21; (with_reducible refine (hpas.out _).mono ?_); rintro e w' ⟨rfl, rfl⟩)
            | (go_at_call 22; (with_reducible refine (henc.out _).mono ?_); rintro e w1 ⟨v1, rfl, hr1, hb1⟩; obtain ⟨a1, c1, rfl, _, _, hn1⟩ := hr1.shape; replace hn1 := Lib.hid hn1; replace hb1 := Lib.hid hb1; clear hr1)
            | (at_builtin; refine wpList_appR elemB rfl (.tmp 56) (.tmp 58) rfl w.heap.size _ acc X a1 _ c1 rfl rfl (hrow.below hb1.out) hn1.out (by have := hb1.out.size; omega) (by have := hL.out; have := hXl.out; omega) ?_; intro v2 w2 h2 ho2; have hb2 := Lib.hid (row_below (hbel.out.trans (hb1.out.mono hsz)) (hrow.below hb1.out) (by have := hb1.out.size; omega) ho2); have hm2 := Lib.hid (box_app (hbox.out.below hb1.out) (hrow.below hb1.out) ho2); replace h2 := Lib.hid h2; clear ho2))
            go_roundw
            case rel => exact ⟨k + 1, by go_num, by omega, pas_next hlt hacc.out he.out h2.out hb2.out hm2.out⟩
            case measure => simp [intOf]; omega
          · have hsame := Lib.hid (pas_same hat.out hlt (one_n (ahead text k) hr10 hr13 hpa))
            skip
            clear hat hn
            generalize text[k] = r at hcell hr10 hr13 hpa
            have hways : (r < 9 ∨ 9 < r ∧ r < 32) ∨ (126 < r ∧ r < 160) ∨ (160 ≤ r ∧ ¬ mayR r) := by
              unfold pasted at hpa
              have h9 : r ≠ 9 := fun h => hpa (.inl h)
              have h32 : ¬ (32 ≤ r ∧ r ≤ 126) := fun h => hpa (.inr (.inl h))
              by_cases ha : r < 32
              · exact .inl (by omega)
              · by_cases hb : r < 160
                · exact .inr (.inl ⟨by omega, hb⟩)
                · exact .inr (.inr ⟨by omega, fun hm => hpa (.inr (.inr ⟨by omega, hm⟩))⟩)
            rcases hways with (hz | ⟨hz, hz'⟩) | ⟨hz, hz'⟩ | ⟨hz, hmr⟩
            case' inr.inr => have hpas := Lib.hid (fun w' => rmay_no hmr w')
            all_goals
            go_wp2_with ((go_at_call 21; (with_reducible refine (hpas.out _).mono ?_); rintro e w' ⟨rfl, rfl⟩))
            go_roundw
            case rel => exact ⟨k + 1, by go_num, by omega, hsame.out⟩
            case measure => simp [intOf]; omega
    · have hkl : text.take k = text := List.take_of_length_le (by omega)
      have hrow := hat.out.row
      have hbel := Lib.hid hat.out.below
      have hcon := hat.out.box.cell (k := 7) (by omega)
      rw [show m.get 7 = m.a7 from rfl, hon] at hcon
      have hL := hlen.out k
      rw [hkl] at hrow hL
      have hE := Lib.hid (show pasteF true text = b200 ++ plainP false text ++ b201 from rfl)
      obtain ⟨acc, hacc⟩ : ∃ acc, acc = plainP false text := ⟨_, rfl⟩
      rw [List.nil_append, ← hacc] at hrow
      rw [← hacc] at hE
      replace hL : acc.length ≤ 500000000 := by rw [hacc]; exact hL
      obtain ⟨a5, c5, rfl, _, _, hn5⟩ := hrow.shape
      have kc := fun (w : World) (C : Array Value) (n c : Nat) => Lib.run_convert_bytes_const (P := Tryd.prog) w 26 5 C n c Tryd.underlying26 Tryd.underlying5
      have h200 := Lib.hid (show b200.length = 6 from rfl)
      have h201 := Lib.hid (show b201.length = 6 from rfl)
      replace hL := Lib.hid hL
      replace hn5 := Lib.hid hn5
      clear hkl hat hacc hn hrow
      go_wp2_with (first
        | (at_builtin; refine wpList_appR elemB rfl (.tmp 63) (.tmp 64) rfl w.heap.size _ b200 acc a5 wr.heap.size c5 rfl rfl (marked200 wr _ hsz) (hn5.out.alloc (Nat.le_refl _) _) (by simp; omega) (by have := hL.out; rw [h200.out]; omega) ?_; intro v3 w3 h3 ho3; have hb3 := Lib.hid (row_below (hbel.out.trans ((Below.refl _ _).alloc hsz _)) (marked200 wr _ hsz) (by simp; omega) ho3); replace h3 := Lib.hid h3; clear ho3)
        | (at_builtin; refine wpList_appR elemB rfl (.tmp 65) (.tmp 67) rfl w.heap.size _ (b200 ++ acc) b201 _ _ 6 rfl rfl (h3.out.alloc _) (marked201 w3) (by have := hb3.out.size; simp; omega) (by have := hL.out; have := h200.out; have := h201.out; rw [List.length_append]; omega) ?_; intro v4 w4 h4 ho4; have hb4 := Lib.hid (row_below (hb3.out.trans ((Below.refl _ _).alloc hb3.out.size _)) (h3.out.alloc _) (by have := hb3.out.size; simp; omega) ho4); replace h4 := Lib.hid h4; clear ho4))
      go_ret
      exact ⟨v4, rfl, by rw [hE.out]; exact h4.out, hb4.out⟩
theorem rpaste_any (m : Md) (ao : Option Addr) (c : Nat) (text : List Int) (hl : text.length ≤ 100000000) (w : World) (hn : Nums w w.heap.size .i32 ao text) :
    Calls Tryd.prog 10 #[.agg (mA m), .slice ao text.length c] w (Put w.heap.size (pasteF m.a7 text) w) := by
  rcases h : m.a7 with _ | _
  · exact rpaste_false m h ao c text hl w hn
  · exact rpaste_true m h ao c text hl w hn

end Go.Proofs.YtkmedfffmalbgaaDoor.Kys
