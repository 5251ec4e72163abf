/-
  keys: Paste of the program.
-/
import Derived.Test.YtkmedfffmalbgaaDoorKPas
namespace Go.Proofs.YtkmedfffmalbgaaDoor.Kys
open Go Go.RowKit Go.Proofs.YtkmedfffmalbgaaDoor.Com Go.Proofs.YtkmedfffmalbgaaDoor.Mds

def PutM (l : List Int) (m : Md) (w : World) (e : Ending) (w' : World) : Prop := ∃ v, e = .returned v ∧ Row w' w.heap.size 5 v l ∧ Below w.heap.size w w' ∧ MB w' w.heap.size m
theorem PutM.of {w w1 : World} {l : List Int} {m : Md} (hb : Below w.heap.size w w1) (hm : MB w1 w.heap.size m) (e : Ending) (w' : World) (h : Put w1.heap.size l w1 e w') : PutM l m w e w' := by
  obtain ⟨v, he, hr, hb1⟩ := h
  exact ⟨v, he, hr.lower hb.size, below_next hb hb1, hm.below hb1⟩

set_option maxHeartbeats 8000000 in
theorem paste_false (m : Md) (hon : m.a7 = false) (ao : Option Addr) (c : Nat) (text : List Int) (hl : text.length ≤ 100000000) (w : World) (hn : Nums w w.heap.size .i32 ao text) :
    Calls Tryd.prog 9 #[.agg (mA m), .slice ao text.length c] w (Put w.heap.size (pasteF false text) w) := by
  have hb0 := Lib.hid (below_new w (.cells (mA m) 23))
  have hd0 := Lib.hid (MB.made w m)
  have hon0 := hd0.out.cell (k := 7) (by omega)
  rw [show m.get 7 = m.a7 from rfl, hon] at hon0
  have hlen := Lib.hid (fun k => pas_len (on := false) hl k)
  go_enter Tryd.func9, Tryd.ntmps9
  go_wp2_with fail
  have hst : Hid (PasAt w m [] text 0 (.slice none 0 0) (w.alloc (.cells (mA m) 23))) := ⟨Row.nil _ _ _, hb0.out, hd0.out⟩
  clear hon0 hd0
  go_loopw [5, 16] (fun v i wr => ∃ k : Nat, i = .int .i64 k ∧ k ≤ text.length ∧ Hid (PasAt w m ([] : List Int) text k v wr)) (fun _ i _ => text.length - (intOf i).toNat)
  case atStart => exact ⟨0, rfl, by omega, hst⟩
  case round =>
    clear hst
    obtain ⟨k, rfl, hk, hat⟩ := hrel
    have hsz := hat.out.below.size
    by_cases hlt : k < text.length
    · obtain ⟨ad, rfl, _, hcell⟩ := (hn.below hat.out.below (Nat.le_refl _)).at hlt
      have hrow := hat.out.row
      have hbel := Lib.hid hat.out.below
      have hbox := Lib.hid hat.out.box
      have hL := Lib.hid (hlen.out k)
      obtain ⟨acc, hacc⟩ : ∃ acc, acc = ([] : List Int) ++ plainP false (text.take k) := ⟨_, rfl⟩
      rw [← hacc] at hrow
      replace hL := Lib.hid (show acc.length ≤ 500000000 by rw [hacc]; exact hL.out)
      replace hacc := Lib.hid hacc
      by_cases hr10 : text[k] = 10
      · rcases k with _ | j
        · have he := Lib.hid (show oneP (ahead text 0) text[0] = [13] by rw [hr10]; rfl)
          rw [hr10] at hcell
          have hcell0 : wr.cell? ad = some (.int .i32 10) := by simpa [Addr.add] using hcell
          clear hcell hr10 hat hn
          go_wp2_with (at_builtin; refine wpList_appR elemB rfl (.tmp 41) (.tmp 42) rfl w.heap.size _ acc [13] _ _ 1 rfl rfl (hrow.alloc _) (Nums.one wr _ .u8 13) (by simp; omega) (by have := hL.out; simp; omega) ?_; intro v2 w2 h2 ho2; have hb2 := Lib.hid (row_below (hbel.out.trans ((Below.refl _ _).alloc hsz _)) (hrow.alloc _) (by simp; omega) ho2); have hm2 := Lib.hid (box_app (hbox.out.alloc _) (hrow.alloc _) ho2); replace h2 := Lib.hid h2; clear ho2)
          go_roundw
          case rel => exact ⟨0 + 1, by go_num, by omega, pas_next hlt hacc.out he.out h2.out hb2.out hm2.out⟩
          case measure => simp [intOf]; omega
        · obtain ⟨ad', e', _, hprev⟩ := (hn.below hat.out.below (Nat.le_refl _)).at (show j < text.length by omega)
          cases e'
          rw [hr10] at hcell
          have hcell1 : wr.cell? ⟨ad.block, ad.off + (j + 1), none⟩ = some (.int .i32 10) := by simpa [Addr.add] using hcell
          clear hcell
          by_cases hp : text[j] = 13
          · have hsame := Lib.hid (pas_same hat.out hlt (show oneP (ahead text (j + 1)) text[j + 1] = [] by rw [hr10]; exact one_10t _ (by simp [ahead, is13, List.getD, show j < text.length by omega, hp])))
            rw [hp] at hprev
            clear hr10 hat hn hp
            go_wp2_with fail
            go_roundw
            case rel => exact ⟨j + 1 + 1, by go_num, by omega, hsame.out⟩
            case measure => simp [intOf]; omega
          · have he := Lib.hid (show oneP (ahead text (j + 1)) text[j + 1] = [13] by rw [hr10]; exact one_10f _ (by simp [ahead, is13, List.getD, show j < text.length by omega, hp]))
            clear hr10 hat hn
            generalize text[j] = y at hprev hp
            skip
            go_wp2_with (at_builtin; refine wpList_appR elemB rfl (.tmp 41) (.tmp 42) rfl w.heap.size _ acc [13] _ _ 1 rfl rfl (hrow.alloc _) (Nums.one wr _ .u8 13) (by simp; omega) (by have := hL.out; simp; omega) ?_; intro v2 w2 h2 ho2; have hb2 := Lib.hid (row_below (hbel.out.trans ((Below.refl _ _).alloc hsz _)) (hrow.alloc _) (by simp; omega) ho2); have hm2 := Lib.hid (box_app (hbox.out.alloc _) (hrow.alloc _) ho2); replace h2 := Lib.hid h2; clear ho2)
            go_roundw
            case rel => exact ⟨j + 1 + 1, by go_num, by omega, pas_next hlt hacc.out he.out h2.out hb2.out hm2.out⟩
            case measure => simp [intOf]; omega
      · by_cases hr13 : text[k] = 13
        · have he := Lib.hid (show oneP (ahead text k) text[k] = [13] by rw [hr13]; rfl)
          rw [hr13] at hcell
          clear hr10 hr13 hat hn
          go_wp2_with (at_builtin; refine wpList_appR elemB rfl (.tmp 41) (.tmp 42) rfl w.heap.size _ acc [13] _ _ 1 rfl rfl (hrow.alloc _) (Nums.one wr _ .u8 13) (by simp; omega) (by have := hL.out; simp; omega) ?_; intro v2 w2 h2 ho2; have hb2 := Lib.hid (row_below (hbel.out.trans ((Below.refl _ _).alloc hsz _)) (hrow.alloc _) (by simp; omega) ho2); have hm2 := Lib.hid (box_app (hbox.out.alloc _) (hrow.alloc _) ho2); replace h2 := Lib.hid h2; clear ho2)
          go_roundw
          case rel => exact ⟨k + 1, by go_num, by omega, pas_next hlt hacc.out he.out h2.out hb2.out hm2.out⟩
          case measure => simp [intOf]; omega
        · by_cases hpa : pasted text[k]
          · have he := Lib.hid (one_p (ahead text k) hr10 hr13 hpa)
            have hXl := Lib.hid (enc_len text[k]).2
            have henc := fun w' => encode_any text[k] w'
            have hpas := Lib.hid (fun w' => pasted_yes hpa w')
            obtain ⟨X, hX⟩ : ∃ X, X = encF text[k] := ⟨_, rfl⟩
            rw [← hX] at henc
            replace he := Lib.hid (show oneP (ahead text k) text[k] = X from he.out.trans hX.symm)
            replace hXl := Lib.hid (show X.length ≤ 4 by rw [hX]; exact hXl.out)
            replace henc := Lib.hid henc
            clear hat hn hX
            generalize text[k] = r at hcell henc hpas hr10 hr13 hpa
            clear hpa
            go_wp2_with (first
            | (go_at_call 20; (with_reducible refine (hpas.out _).mono ?_); rintro e w' ⟨rfl, rfl⟩)
            | (go_at_call 18; (with_reducible refine (henc.out _).mono ?_); rintro e w1 ⟨v1, rfl, hr1, hb1⟩; obtain ⟨a1, c1, rfl, _, _, hn1⟩ := hr1.shape; replace hn1 := Lib.hid hn1; replace hb1 := Lib.hid hb1; clear hr1)
            | (at_builtin; refine wpList_appR elemB rfl (.tmp 47) (.tmp 49) rfl w.heap.size _ acc X a1 _ c1 rfl rfl (hrow.below hb1.out) hn1.out (by have := hb1.out.size; omega) (by have := hL.out; have := hXl.out; omega) ?_; intro v2 w2 h2 ho2; have hb2 := Lib.hid (row_below (hbel.out.trans (hb1.out.mono hsz)) (hrow.below hb1.out) (by have := hb1.out.size; omega) ho2); have hm2 := Lib.hid (box_app (hbox.out.below hb1.out) (hrow.below hb1.out) ho2); replace h2 := Lib.hid h2; clear ho2))
            go_roundw
            case rel => exact ⟨k + 1, by go_num, by omega, pas_next hlt hacc.out he.out h2.out hb2.out hm2.out⟩
            case measure => simp [intOf]; omega
          · have hsame := Lib.hid (pas_same hat.out hlt (one_n (ahead text k) hr10 hr13 hpa))
            have hpas := Lib.hid (fun w' => pasted_no hpa w')
            clear hat hn
            generalize text[k] = r at hcell hpas hr10 hr13 hpa
            clear hpa
            go_wp2_with ((go_at_call 20; (with_reducible refine (hpas.out _).mono ?_); rintro e w' ⟨rfl, rfl⟩))
            go_roundw
            case rel => exact ⟨k + 1, by go_num, by omega, hsame.out⟩
            case measure => simp [intOf]; omega
    · have hkl : text.take k = text := List.take_of_length_le (by omega)
      have hrow := hat.out.row
      have hbel := Lib.hid hat.out.below
      have hcon := hat.out.box.cell (k := 7) (by omega)
      rw [show m.get 7 = m.a7 from rfl, hon] at hcon
      rw [hkl] at hrow
      replace hrow := Lib.hid hrow
      clear hkl hat hn
      go_wp2_with fail
      go_ret
      exact ⟨_, rfl, hrow.out, hbel.out⟩
set_option maxHeartbeats 8000000 in
theorem paste_true (m : Md) (hon : m.a7 = true) (ao : Option Addr) (c : Nat) (text : List Int) (hl : text.length ≤ 100000000) (w : World) (hn : Nums w w.heap.size .i32 ao text) (hT : Tab w) :
    Calls Tryd.prog 9 #[.agg (mA m), .slice ao text.length c] w (Put w.heap.size (pasteF true text) w) := by
  have hb0 := Lib.hid (below_new w (.cells (mA m) 23))
  have hd0 := Lib.hid (MB.made w m)
  have hon0 := hd0.out.cell (k := 7) (by omega)
  rw [show m.get 7 = m.a7 from rfl, hon] at hon0
  have hlen := Lib.hid (fun k => pas_len (on := true) hl k)
  have hc := (ctl1 _ _ csi_b (by simp) 126 _ (hT.below hb0.out) (x := 200) (by omega)).mono (PutM.of hb0.out hd0.out)
  rw [show (w.alloc (.cells (mA m) 23)).heap.size = w.heap.size + 1 by simp, ctl200] at hc
  have hc2 := fun w' hT' => ctl1 _ _ csi_b (by simp) 126 w' hT' (x := 201) (by omega)
  rw [ctl201] at hc2
  replace hc := Lib.hid hc
  replace hc2 := Lib.hid hc2
  have h200 := Lib.hid (show b200.length = 6 from rfl)
  have h201 := Lib.hid (show b201.length = 6 from rfl)
  go_enter Tryd.func9, Tryd.ntmps9
  go_wp2_with (first
    | (go_at_call 19; (with_reducible refine (hc.out).mono ?_); rintro e w1 ⟨v1, rfl, hr1, hb1, hx1⟩; obtain ⟨a1, c1, rfl, _, _, hn1⟩ := hr1.shape; replace hn1 := Lib.hid hn1; replace hb1 := Lib.hid hb1; have hbx := Lib.hid hx1; clear hr1 hx1)
    | (at_builtin; refine wpList_appR elemB rfl (.tmp 10) (.tmp 12) rfl w.heap.size (.slice none 0 0) [] b200 a1 _ c1 rfl rfl (Row.nil _ _ _) hn1.out hb1.out.size (by have := h200.out; simp only [List.length_nil]; omega) ?_; intro v0 w0 h0 ho0))
  have hst : Hid (PasAt w m b200 text 0 v0 w0) := ⟨by simpa [plainP] using h0, row_below (e := 5) hb1.out (Row.nil _ _ _) hb1.out.size ho0, hbx.out.only ho0 (by simp [Value.ownBlock])⟩
  clear h0 ho0 hn1 hc hon0 hd0
  go_loopw [5, 16] (fun v i wr => ∃ k : Nat, i = .int .i64 k ∧ k ≤ text.length ∧ Hid (PasAt w m b200 text k v wr)) (fun _ i _ => text.length - (intOf i).toNat)
  case atStart => exact ⟨0, rfl, by omega, hst⟩
  case round =>
    clear hst
    obtain ⟨k, rfl, hk, hat⟩ := hrel
    have hsz := hat.out.below.size
    by_cases hlt : k < text.length
    · obtain ⟨ad, rfl, _, hcell⟩ := (hn.below hat.out.below (Nat.le_refl _)).at hlt
      have hrow := hat.out.row
      have hbel := Lib.hid hat.out.below
      have hbox := Lib.hid hat.out.box
      have hL := Lib.hid (hlen.out k)
      obtain ⟨acc, hacc⟩ : ∃ acc, acc = b200 ++ plainP false (text.take k) := ⟨_, rfl⟩
      rw [← hacc] at hrow
      replace hL := Lib.hid (show acc.length ≤ 500000000 by rw [hacc]; exact hL.out)
      replace hacc := Lib.hid hacc
      by_cases hr10 : text[k] = 10
      · rcases k with _ | j
        · have he := Lib.hid (show oneP (ahead text 0) text[0] = [13] by rw [hr10]; rfl)
          rw [hr10] at hcell
          have hcell0 : wr.cell? ad = some (.int .i32 10) := by simpa [Addr.add] using hcell
          clear hcell hr10 hat hT hn
          go_wp2_with (at_builtin; refine wpList_appR elemB rfl (.tmp 41) (.tmp 42) rfl w.heap.size _ acc [13] _ _ 1 rfl rfl (hrow.alloc _) (Nums.one wr _ .u8 13) (by simp; omega) (by have := hL.out; simp; omega) ?_; intro v2 w2 h2 ho2; have hb2 := Lib.hid (row_below (hbel.out.trans ((Below.refl _ _).alloc hsz _)) (hrow.alloc _) (by simp; omega) ho2); have hm2 := Lib.hid (box_app (hbox.out.alloc _) (hrow.alloc _) ho2); replace h2 := Lib.hid h2; clear ho2)
          go_roundw
          case rel => exact ⟨0 + 1, by go_num, by omega, pas_next hlt hacc.out he.out h2.out hb2.out hm2.out⟩
          case measure => simp [intOf]; omega
        · obtain ⟨ad', e', _, hprev⟩ := (hn.below hat.out.below (Nat.le_refl _)).at (show j < text.length by omega)
          cases e'
          rw [hr10] at hcell
          have hcell1 : wr.cell? ⟨ad.block, ad.off + (j + 1), none⟩ = some (.int .i32 10) := by simpa [Addr.add] using hcell
          clear hcell
          by_cases hp : text[j] = 13
          · have hsame := Lib.hid (pas_same hat.out hlt (show oneP (ahead text (j + 1)) text[j + 1] = [] by rw [hr10]; exact one_10t _ (by simp [ahead, is13, List.getD, show j < text.length by omega, hp])))
            rw [hp] at hprev
            clear hr10 hat hT hn hp
            go_wp2_with fail
            go_roundw
            case rel => exact ⟨j + 1 + 1, by go_num, by omega, hsame.out⟩
            case measure => simp [intOf]; omega
          · have he := Lib.hid (show oneP (ahead text (j + 1)) text[j + 1] = [13] by rw [hr10]; exact one_10f _ (by simp [ahead, is13, List.getD, show j < text.length by omega, hp]))
            clear hr10 hat hT hn
            generalize text[j] = y at hprev hp
            skip
            go_wp2_with (at_builtin; refine wpList_appR elemB rfl (.tmp 41) (.tmp 42) rfl w.heap.size _ acc [13] _ _ 1 rfl rfl (hrow.alloc _) (Nums.one wr _ .u8 13) (by simp; omega) (by have := hL.out; simp; omega) ?_; intro v2 w2 h2 ho2; have hb2 := Lib.hid (row_below (hbel.out.trans ((Below.refl _ _).alloc hsz _)) (hrow.alloc _) (by simp; omega) ho2); have hm2 := Lib.hid (box_app (hbox.out.alloc _) (hrow.alloc _) ho2); replace h2 := Lib.hid h2; clear ho2)
            go_roundw
            case rel => exact ⟨j + 1 + 1, by go_num, by omega, pas_next hlt hacc.out he.out h2.out hb2.out hm2.out⟩
            case measure => simp [intOf]; omega
      · by_cases hr13 : text[k] = 13
        · have he := Lib.hid (show oneP (ahead text k) text[k] = [13] by rw [hr13]; rfl)
          rw [hr13] at hcell
          clear hr10 hr13 hat hT hn
          go_wp2_with (at_builtin; refine wpList_appR elemB rfl (.tmp 41) (.tmp 42) rfl w.heap.size _ acc [13] _ _ 1 rfl rfl (hrow.alloc _) (Nums.one wr _ .u8 13) (by simp; omega) (by have := hL.out; simp; omega) ?_; intro v2 w2 h2 ho2; have hb2 := Lib.hid (row_below (hbel.out.trans ((Below.refl _ _).alloc hsz _)) (hrow.alloc _) (by simp; omega) ho2); have hm2 := Lib.hid (box_app (hbox.out.alloc _) (hrow.alloc _) ho2); replace h2 := Lib.hid h2; clear ho2)
          go_roundw
          case rel => exact ⟨k + 1, by go_num, by omega, pas_next hlt hacc.out he.out h2.out hb2.out hm2.out⟩
          case measure => simp [intOf]; omega
        · by_cases hpa : pasted text[k]
          · have he := Lib.hid (one_p (ahead text k) hr10 hr13 hpa)
            have hXl := Lib.hid (enc_len text[k]).2
            have henc := fun w' => encode_any text[k] w'
            have hpas := Lib.hid (fun w' => pasted_yes hpa w')
            obtain ⟨X, hX⟩ : ∃ X, X = encF text[k] := ⟨_, rfl⟩
            rw [← hX] at henc
            replace he := Lib.hid (show oneP (ahead text k) text[k] = X from he.out.trans hX.symm)
            replace hXl := Lib.hid (show X.length ≤ 4 by rw [hX]; exact hXl.out)
            replace henc := Lib.hid henc
            clear hat hT hn hX
            generalize text[k] = r at hcell henc hpas hr10 hr13 hpa
            clear hpa
            go_wp2_with (first
            | (go_at_call 20; (with_reducible refine (hpas.out _).mono ?_); rintro e w' ⟨rfl, rfl⟩)
            | (go_at_call 18; (with_reducible refine (henc.out _).mono ?_); rintro e w1 ⟨v1, rfl, hr1, hb1⟩; obtain ⟨a1, c1, rfl, _, _, hn1⟩ := hr1.shape; replace hn1 := Lib.hid hn1; replace hb1 := Lib.hid hb1; clear hr1)
            | (at_builtin; refine wpList_appR elemB rfl (.tmp 47) (.tmp 49) rfl w.heap.size _ acc X a1 _ c1 rfl rfl (hrow.below hb1.out) hn1.out (by have := hb1.out.size; omega) (by have := hL.out; have := hXl.out; omega) ?_; intro v2 w2 h2 ho2; have hb2 := Lib.hid (row_below (hbel.out.trans (hb1.out.mono hsz)) (hrow.below hb1.out) (by have := hb1.out.size; omega) ho2); have hm2 := Lib.hid (box_app (hbox.out.below hb1.out) (hrow.below hb1.out) ho2); replace h2 := Lib.hid h2; clear ho2))
            go_roundw
            case rel => exact ⟨k + 1, by go_num, by omega, pas_next hlt hacc.out he.out h2.out hb2.out hm2.out⟩
            case measure => simp [intOf]; omega
          · have hsame := Lib.hid (pas_same hat.out hlt (one_n (ahead text k) hr10 hr13 hpa))
            have hpas := Lib.hid (fun w' => pasted_no hpa w')
            clear hat hT hn
            generalize text[k] = r at hcell hpas hr10 hr13 hpa
            clear hpa
            go_wp2_with ((go_at_call 20; (with_reducible refine (hpas.out _).mono ?_); rintro e w' ⟨rfl, rfl⟩))
            go_roundw
            case rel => exact ⟨k + 1, by go_num, by omega, hsame.out⟩
            case measure => simp [intOf]; omega
    · have hkl : text.take k = text := List.take_of_length_le (by omega)
      have hrow := hat.out.row
      have hbel := Lib.hid hat.out.below
      have hbox := hat.out.box
      have hcon := hbox.cell (k := 7) (by omega)
      rw [show m.get 7 = m.a7 from rfl, hon] at hcon
      have hL := hlen.out k
      rw [hkl] at hrow hL
      have hE := Lib.hid (show pasteF true text = b200 ++ plainP false text ++ b201 from rfl)
      obtain ⟨acc, hacc⟩ : ∃ acc, acc = b200 ++ plainP false text := ⟨_, rfl⟩
      rw [← hacc] at hrow hE
      replace hL := Lib.hid (show acc.length ≤ 500000000 by rw [hacc]; exact hL)
      have hTr := Lib.hid (hT.below hat.out.below)
      clear hkl hat hT hacc hn hbox
      go_wp2_with (first
        | (go_at_call 19; (with_reducible refine (hc2.out _ hTr.out).mono ?_); rintro e w3 ⟨v3, rfl, hr3, hb3⟩; obtain ⟨a3, c3, rfl, _, _, hn3⟩ := hr3.shape; replace hn3 := Lib.hid hn3; replace hb3 := Lib.hid hb3; clear hr3)
        | (at_builtin; refine wpList_appR elemB rfl (.tmp 54) (.tmp 56) rfl w.heap.size _ acc b201 a3 _ c3 rfl rfl (hrow.below hb3.out) hn3.out (by have := hb3.out.size; omega) (by have := hL.out; rw [h201.out]; omega) ?_; intro v4 w4 h4 ho4; have hb4 := Lib.hid (row_below (hbel.out.trans (hb3.out.mono hsz)) (hrow.below hb3.out) (by have := hb3.out.size; omega) ho4); replace h4 := Lib.hid h4; clear ho4))
      go_ret
      exact ⟨v4, rfl, by rw [hE.out]; exact h4.out, hb4.out⟩
theorem paste_any (m : Md) (ao : Option Addr) (c : Nat) (text : List Int) (hl : text.length ≤ 100000000) (w : World) (hn : Nums w w.heap.size .i32 ao text) (hT : Tab w) :
    Calls Tryd.prog 9 #[.agg (mA m), .slice ao text.length c] w (Put w.heap.size (pasteF m.a7 text) w) := by
  rcases h : m.a7 with _ | _
  · exact paste_false m h ao c text hl w hn
  · exact paste_true m h ao c text hl w hn hT

end Go.Proofs.YtkmedfffmalbgaaDoor.Kys
