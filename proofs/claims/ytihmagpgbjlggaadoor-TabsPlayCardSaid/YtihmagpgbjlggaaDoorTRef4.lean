/-
  tabs: the reference's Resize, New.
-/
import Derived.Test.YtihmagpgbjlggaaDoorTRef3
import Derived.Test.YtihmagpgbjlggaaDoorTRes
namespace Go.Proofs.YtihmagpgbjlggaaDoor.Tbs
open Go Go.RowKit Go.Proofs.YtihmagpgbjlggaaDoor.Com

/-- P7.3, flag by flag. -/
def resG (f : Nat → Bool) (n : Nat) : Nat → Bool := fun c => if c < n then f c else decide (0 < c) && c % 8 == 0
def RRes (B : Nat) (w : World) (r n : Nat) (f : Nat → Bool) (e : Ending) (w' : World) : Prop := ∃ v, e = .returned (.int .i64 0) ∧ Ref B w' r v n f ∧ Only [r] w w'
theorem rresize_bad {w : World} (r : Nat) (m : Int) (hm : ¬ (1 ≤ m ∧ m ≤ 512)) : Calls Tryd.prog 16 #[.pointer (some ⟨r, 0, none⟩), .int .i64 m] w (Err w 2) := by
  have hM := Lib.hid (may_ref m)
  rw [may_false hm] at hM
  clear hm
  go_enter Tryd.func16, Tryd.ntmps16
  go_wp2_with (go_at_call 7; (with_reducible refine (hM.out _).mono ?_); rintro e w' ⟨rfl, rfl⟩)
  go_ret
  exact ⟨rfl, rfl⟩
structure ResAt (w wr : World) (g : Nat → Bool) (k : Nat) (v : Value) : Prop where
  own : OwnB wr w.heap.size v (flags g k)
  below : Below w.heap.size w wr
theorem ResAt.slice {w wr : World} {g : Nat → Bool} {k : Nat} {v : Value} (h : ResAt w wr g k v) : ∃ ao n c, v = .slice ao n c := by
  obtain ⟨ao, c, e, _⟩ := h.own.shape
  exact ⟨ao, _, c, e⟩
theorem ResAt.app {w wr w1 : World} {g : Nat → Bool} {k : Nat} {v v1 : Value} (h : ResAt w wr g k v) {b : Bool} (hb : g k = b) {o : Obj} (hown : OwnB w1 w.heap.size v1 (flags g k ++ [b])) (ho : Only v.ownBlock.toList (wr.alloc o) w1) : ResAt w w1 g (k + 1) v1 :=
  ⟨by rw [flags_succ, hb]; exact hown, h.below.trans (((Below.refl _ wr).alloc h.below.size o).trans (ho.below (by have := h.below.size; simp; omega) (fun q hq => (h.own.lt q (by simpa using hq)).1)))⟩

set_option maxRecDepth 100000 in
set_option maxHeartbeats 2000000 in
theorem rresize_any {B : Nat} {w : World} {r : Nat} {v : Value} {n : Nat} {f : Nat → Bool} (h : Ref B w r v n f) (hn2 : n ≤ 512) (hB : B ≤ w.heap.size) (m : Nat) (hm : 1 ≤ m) (hm2 : m ≤ 512) : Calls Tryd.prog 16 #[.pointer (some ⟨r, 0, none⟩), .int .i64 m] w (RRes B w r m (resG f n)) := by
  have hM := Lib.hid (may_ref m)
  rw [may_true (by omega)] at hM
  obtain ⟨ao, cap, rfl, _, hbl⟩ := h.row.shape
  rw [flags_len] at h
  have hbw := Lib.hid (fun w' (hb : Below w.heap.size w w') => h.below hb)
  have hld : Hid (∀ wr, Below w.heap.size w wr → ∀ k, k < n → ∃ ad, ao = some ad ∧ wr.cell? (ad.add k) = some (.bool (f k))) := Lib.hid fun wr hb k hk => by
    obtain ⟨ao', cap', e', _, hbl'⟩ := (h.below hb).row.shape
    rw [flags_len] at e'
    cases e'
    exact hbl' k _ (flags_at f hk)
  have h0 : Hid (ResAt w w (resG f n) 0 (.slice none 0 0)) := Lib.hid ⟨OwnB.nil _ _, Below.refl _ _⟩
  clear h hbl
  go_enter Tryd.func16, Tryd.ntmps16
  go_wp2_with (go_at_call 7; (with_reducible refine (hM.out _).mono ?_); rintro e w' ⟨rfl, rfl⟩)
  clear hM
  go_loopw [5, 6] (fun o i wr => ∃ k : Nat, k ≤ m ∧ i = .int .i64 k ∧ Hid (ResAt w wr (resG f n) k o)) (fun _ i _ => m - (intOf i).toNat)
  case atStart => exact ⟨0, by omega, rfl, h0⟩
  case round =>
    obtain ⟨k, hk, rfl, hR⟩ := hrel
    clear h0
    obtain ⟨av, nv, cv, rfl⟩ := hR.out.slice
    have hRef := hbw.out _ hR.out.below
    have hc0 := hRef.cell
    by_cases hlt : k < m
    · have hlen : (flags (resG f n) k).length ≤ 512 := by rw [flags_len]; omega
      have hBs := hR.out.below.size
      by_cases hkn : k < n
      · obtain ⟨ad, hao, hcell⟩ := hld.out _ hR.out.below k hkn
        subst hao
        have hg : Hid (resG f n k = f k) := Lib.hid (if_pos hkn)
        generalize f k = b at hcell hg
        clear hRef
        go_wp2_with (first
          | (with_reducible show wpList _ _ _ (⟨some 31, .call _, _, _, _, _⟩ :: _) _ _; go_must (refine wpList_appB rfl (.tmp 22) (.tmp 30) rfl w.heap.size (.slice av nv cv) (flags (resG f n) k) b ⟨_, 0, none⟩ 1 rfl rfl (hR.out.own.below (below_new _ _)) (lit_cell _ _ _) (by simp; omega) (by omega) ?_); intro v3 w3 hown3 ho3))
        have hR2 := Lib.hid (hR.out.app hg.out hown3 ho3)
        obtain ⟨a3, n3, c3, rfl⟩ := hR2.out.slice
        clear hown3 ho3 hR hc0
        go_wp2
        go_roundw
        case rel => exact ⟨k + 1, by omega, by go_num, hR2⟩
        case measure => simp [intOf]; omega
      · by_cases hk0 : k = 0
        · subst hk0
          have hg : Hid (resG f n 0 = false) := Lib.hid (by unfold resG; rw [if_neg hkn]; rfl)
          clear hRef
          go_wp2_with (first
            | (with_reducible show wpList _ _ _ (⟨some 41, .call _, _, _, _, _⟩ :: _) _ _; go_must (refine wpList_appB rfl (.tmp 32) (.tmp 40) rfl w.heap.size (.slice av nv cv) (flags (resG f n) 0) false ⟨_, 0, none⟩ 1 rfl rfl (hR.out.own.below (below_new _ _)) (lit_cell _ _ _) (by simp; omega) (by omega) ?_); intro v3 w3 hown3 ho3))
          have hR2 := Lib.hid (hR.out.app hg.out hown3 ho3)
          obtain ⟨a3, n3, c3, rfl⟩ := hR2.out.slice
          clear hown3 ho3 hR hc0
          go_wp2
          go_roundw
          case rel => exact ⟨1, by omega, by go_num, hR2⟩
          case measure => simp [intOf]; omega
        · have hk1 : 0 < k := by omega
          obtain ⟨b, hb⟩ : ∃ b, b = (k % 8 == 0) := ⟨_, rfl⟩
          have hg : Hid (resG f n k = b) := Lib.hid (by unfold resG; rw [if_neg hkn, hb]; simp [hk1])
          have h8 : (((k : Int) % 8) == 0) = b := by rw [hb, Bool.eq_iff_iff]; simp; omega
          clear hRef hb
          go_upto_region 6 with (first
            | (with_reducible show wpList _ _ _ (⟨some 41, .call _, _, _, _, _⟩ :: _) _ _; go_must (refine wpList_appB rfl (.tmp 32) (.tmp 40) rfl w.heap.size (.slice av nv cv) (flags (resG f n) k) b ⟨_, 0, none⟩ 1 rfl rfl (hR.out.own.below (below_new _ _)) (lit_cell _ _ _) (by simp; omega) (by omega) ?_); intro v3 w3 hown3 ho3))
          have hR2 := Lib.hid (hR.out.app hg.out hown3 ho3)
          obtain ⟨a3, n3, c3, rfl⟩ := hR2.out.slice
          clear hown3 ho3 hR hc0 h8
          go_wp2
          go_roundw
          case rel => exact ⟨k + 1, by omega, by go_num, hR2⟩
          case measure => simp [intOf]; omega
    · obtain rfl : k = m := by omega
      have hfr := hRef.box.free 0
      have hbx : Block (wr.setCell ⟨r, 0, none⟩ (.slice av nv cv)) r 40 #[.slice av nv cv] := hRef.box.set 0 _
      have hne := hR.out.own.not_in hRef.box (by decide)
      have hE : Hid (RRes B w r k (resG f n) (.returned (.int .i64 0)) (wr.setCell ⟨r, 0, none⟩ (.slice av nv cv))) := Lib.hid ⟨_, rfl, ⟨hbx, (hR.out.own.only (Only.setCell wr ⟨r, 0, none⟩ _) hne).lower hB⟩, (Only.of_below hR.out.below [r]).trans (Only.setCell wr ⟨r, 0, none⟩ _)⟩
      clear hR hRef hbx hne
      go_wp2
      go_ret
      exact hE.out

end Go.Proofs.YtihmagpgbjlggaaDoor.Tbs
