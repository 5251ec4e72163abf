/-
  tabs: the reference's ClearAll, Stops, Next, Prev; Same.
-/
import Derived.Test.YtihmagpgbjlggaaDoorTRef
import Derived.Deep.LoopGhost
namespace Go.Proofs.YtihmagpgbjlggaaDoor.Tbs
open Go Go.RowKit Go.Proofs.YtihmagpgbjlggaaDoor.Com

def ckF (f : Nat → Bool) (k : Nat) : Nat → Bool := fun c => if c < k then false else f c
theorem ck_zero (f : Nat → Bool) : ckF f 0 = f := by funext c; simp [ckF]
theorem ck_next (f : Nat → Bool) (k : Nat) : putF (ckF f k) k false = ckF f (k + 1) := by
  funext c
  unfold putF ckF
  by_cases e : c = k
  · rw [if_pos e, if_pos (by omega)]
  · rw [if_neg e]
    by_cases h : c < k
    · rw [if_pos h, if_pos (by omega)]
    · rw [if_neg h, if_neg (by omega)]
/-- What ClearAll leaves. -/
def RClr (B : Nat) (w : World) (r : Nat) (v : Value) (n : Nat) (f : Nat → Bool) (e : Ending) (w' : World) : Prop := (∃ x, e = .returned x) ∧ Ref B w' r v n f ∧ Only v.ownBlock.toList w w'
set_option maxHeartbeats 1000000 in
theorem rclear_any {B : Nat} {w : World} {r : Nat} {v : Value} {n : Nat} {f : Nat → Bool} (h : Ref B w r v n f) (hn : 1 ≤ n) (hn2 : n ≤ 512) : Calls Tryd.prog 14 #[.pointer (some ⟨r, 0, none⟩)] w (RClr B w r v n (fun _ => false)) := by
  obtain ⟨g, cap, rfl, _⟩ := h.slice hn
  have h0 : Hid (Ref B w r (.slice (some ⟨g, 0, none⟩) n cap) n (ckF f 0) ∧ Only [g] w w) := Lib.hid ⟨by rw [ck_zero]; exact h, Only.refl _ _⟩
  clear h
  go_enter Tryd.func14, Tryd.ntmps14
  go_wp2
  go_loopw [2] (fun i wr => ∃ k : Nat, k ≤ n ∧ i = .int .i64 k ∧ Hid (Ref B wr r (.slice (some ⟨g, 0, none⟩) n cap) n (ckF f k) ∧ Only [g] w wr)) (fun i _ => n - (intOf i).toNat)
  case atStart => exact ⟨0, by omega, rfl, h0⟩
  case round =>
    obtain ⟨k, hk, rfl, hR⟩ := hrel
    clear h0
    have hc0 := hR.out.1.cell
    by_cases hlt : k < n
    · obtain ⟨g', cap', e', _, hcell, hfr⟩ := hR.out.1.slice hn
      cases e'
      have hc1 := hcell k hlt
      have hf1 := hfr k
      have hst := hR.out.1.row.stored (by rw [flags_len]) k false
      rw [flags_set, ck_next] at hst
      have hbx : Block (wr.setCell ⟨g, k, none⟩ (.bool false)) r 40 #[.slice (some ⟨g, 0, none⟩) n cap] := hR.out.1.box.only (Only.setCell wr ⟨g, k, none⟩ (.bool false)) (by
        have := hR.out.1.row.apart hR.out.1.box (by decide)
        simp [Value.ownBlock] at this
        simpa using fun e => this e.symm)
      have hE : Hid (Ref B (wr.setCell ⟨g, k, none⟩ (.bool false)) r (.slice (some ⟨g, 0, none⟩) n cap) n (ckF f (k + 1)) ∧ Only [g] w (wr.setCell ⟨g, k, none⟩ (.bool false))) := Lib.hid ⟨⟨hbx, hst⟩, hR.out.2.trans (Only.setCell wr ⟨g, k, none⟩ (.bool false))⟩
      clear hcell hfr hst hbx hR
      go_wp2
      go_roundw
      case rel => exact ⟨k + 1, by omega, by go_num, hE⟩
      case measure => simp [intOf]; omega
    · obtain rfl : k = n := by omega
      have hE : Hid (Ref B _ r (.slice (some ⟨g, 0, none⟩) k cap) k (fun _ => false)) := Lib.hid ⟨hR.out.1.box, by
        have := hR.out.1.row
        rwa [flags_congr (f := ckF f k) (g := fun _ => false) fun c hc => by unfold ckF; rw [if_pos hc]] at this⟩
      have hO := Lib.hid hR.out.2
      clear hR
      go_wp2
      go_end0
      exact ⟨⟨_, rfl⟩, hE.out, by simpa [Value.ownBlock] using hO.out⟩

set_option maxHeartbeats 1000000 in
theorem rstops_any {B : Nat} {w : World} {r : Nat} {v : Value} {n : Nat} {f : Nat → Bool} (h : Ref B w r v n f) (hn : 1 ≤ n) (hn2 : n ≤ 512) : Calls Tryd.prog 21 #[.pointer (some ⟨r, 0, none⟩)] w (Shown w (stsI f n)) := by
  have hb := Lib.hid (fun w' (hb : Below w.heap.size w w') => h.below hb)
  obtain ⟨g, cap, rfl, _⟩ := h.slice hn
  have h0 : Hid (Own w w.heap.size 3 .i64 (.slice none 0 0) (stsI f 0) ∧ Below w.heap.size w w) := Lib.hid ⟨Own.nil _ _ _ _, Below.refl _ _⟩
  clear h
  go_enter Tryd.func21, Tryd.ntmps21
  go_wp2
  go_loopw [3, 4] (fun o i wr => ∃ k : Nat, k ≤ n ∧ i = .int .i64 k ∧ Hid (Own wr w.heap.size 3 .i64 o (stsI f k) ∧ Below w.heap.size w wr)) (fun _ i _ => n - (intOf i).toNat)
  case atStart => exact ⟨0, by omega, rfl, h0⟩
  case round =>
    obtain ⟨k, hk, rfl, hR⟩ := hrel
    clear h0
    have hRef := hb.out _ hR.out.2
    have hc0 := hRef.cell
    obtain ⟨av, nv, cv, rfl⟩ := own_slice hR.out.1
    by_cases hlt : k < n
    · obtain ⟨g', cap', e', _, hcell, _⟩ := hRef.slice hn
      cases e'
      have hc1 := hcell k hlt
      have hlen : (stsI f k).length ≤ 512 := by rw [stsI_len]; have := sts_bound f k; omega
      rcases hfk : f k with _ | _
      · have hE : stsI f (k + 1) = stsI f k := by unfold stsI; rw [sts_no hfk]
        rw [hfk] at hc1
        have hR2 : Hid (Own _ w.heap.size 3 .i64 (.slice av nv cv) (stsI f (k + 1)) ∧ Below w.heap.size w _) := Lib.hid (by rw [hE]; exact hR.out)
        clear hcell hRef hR hE
        go_wp2
        go_roundw
        case rel => exact ⟨k + 1, by omega, by go_num, hR2⟩
        case measure => simp [intOf]; omega
      · have hE : Hid (stsI f (k + 1) = stsI f k ++ [(k : Int)]) := Lib.hid (by unfold stsI; rw [sts_yes hfk, List.map_append]; rfl)
        rw [hfk] at hc1
        have hB := hR.out.2.size
        clear hcell hRef
        go_wp2_with (first
          | (with_reducible show wpList _ _ _ (⟨some 24, .call _, _, _, _, _⟩ :: _) _ _; go_must (refine wpList_app elemI rfl (.tmp 21) (.tmp 23) rfl w.heap.size (.slice av nv cv) (stsI f k) [(k : Int)] (some ⟨_, 0, none⟩) _ 1 rfl rfl (hR.out.1.alloc _) (Nums.one _ _ _ _) ?_ ?_ ?_ ?_; (simp; omega); (simp; omega); (simp [maxLen]; omega); intro v3 w3 hown3 ho3 hat3)))
        have hR2 : Hid (Own w3 w.heap.size 3 .i64 v3 (stsI f (k + 1)) ∧ Below w.heap.size w w3) := Lib.hid ⟨by rw [hE.out]; exact hown3, below_app hR.out.2 hR.out.1 hB _ ho3⟩
        obtain ⟨a3, n3, c3, rfl⟩ := own_slice hown3
        clear hown3 ho3 hat3 hR hE
        go_wp2
        go_roundw
        case rel => exact ⟨k + 1, by omega, by go_num, hR2⟩
        case measure => simp [intOf]; omega
    · obtain rfl : k = n := by omega
      clear hRef
      go_wp2
      go_ret
      exact ⟨_, rfl, hR.out.1, hR.out.2⟩

set_option maxHeartbeats 1000000 in
theorem same_yes (l : List Int) (ao bo : Option Addr) (c d : Nat) (w : World) (B : Nat) (hl : l.length ≤ 1048576) (h1 : Nums w B .i64 ao l) (h2 : Nums w B .i64 bo l) :
    Calls Tryd.prog 19 #[.slice ao l.length c, .slice bo l.length d] w fun e w' => e = .returned (.bool true) ∧ Below w.heap.size w w' := by
  go_enter Tryd.func19, Tryd.ntmps19
  go_wp2
  go_loopw [5] (fun i wr => ∃ k n : Nat, k ≤ l.length ∧ i = .int .i64 k ∧ wr = w.drewN n) (fun i _ => l.length - (intOf i).toNat)
  case atStart => exact ⟨0, 0, by omega, rfl, rfl⟩
  case round =>
    obtain ⟨k, n, hk, rfl, rfl⟩ := hrel
    by_cases hlt : k < l.length
    · obtain ⟨ad, rfl, _, hc1⟩ := h1.at hlt
      obtain ⟨bd, rfl, _, hc2⟩ := h2.at hlt
      clear h1 h2
      generalize l[k] = x at hc1 hc2
      go_wp2
      go_quiet (fail)
      go_wp2
      go_roundw
      case rel => exact ⟨k + 1, _, by omega, by go_num, rfl⟩
      case measure => simp [intOf]; omega
    · go_wp2
      go_ret
      exact ⟨rfl, below_dr (Below.refl _ _) _⟩

end Go.Proofs.YtihmagpgbjlggaaDoor.Tbs
