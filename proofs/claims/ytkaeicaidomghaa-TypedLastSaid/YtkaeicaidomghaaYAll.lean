/-
  typed: the ring gone over by a function: what it hands on.
-/
import Derived.Test.YtkaeicaidomghaaYRng
import Derived.Test.YtkaeicaidomghaaYLeaf
import Derived.Shelf.Abstract
import Derived.Shelf.RegionOpen
import Derived.OwnWalkIn
import Derived.TacticsInMore
import Derived.LoopNIn
import Derived.LoopIn
namespace Go.Proofs.Ytkaeicaidomghaa.Tpd
open Go Go.RowKit Go.Shelf Go.Proofs.Ytkaeicaidomghaa.Com
attribute [local go_sem] Oper.semAt_some

def encK (x : Key) : Array Value := #[.agg #[.int .i32 x.1, .int .i64 x.2]]
theorem grew (w : World) (m : Nat) : w.grownBy (w.drewN m) none := ⟨rfl, rfl, rfl, Nat.le_refl _, fun _ _ _ => rfl⟩

set_option maxRecDepth 100000 in
set_option maxHeartbeats 2000000 in
theorem all_hands {w : World} {d n0 m : Nat} {life last : Int} {ks : List Key} (h : TL w d life last ks) (hd : d < n0) :
    Hands m Try.prog 19 #[.pointer (some ⟨d, 2, none⟩)] encK (Below n0) (fun xs => xs = ks) (fun pre => pre <+: ks) (fun pre x => pre ++ [x] <+: ks) w := by
  intro l J Jx W hW hJ hJx hY h0
  have hT := h.below hW
  obtain ⟨p, f, hf, hn, hb, hs⟩ := hT
  obtain ⟨N, hN⟩ : ∃ N, N = ks.length := ⟨_, rfl⟩
  rw [← hN] at hb hn
  have hs' := Lib.hid hs
  have hN' := Lib.hid hN
  have hc := hb.cnt
  have hW2 := Lib.hid hW
  clear hs hN hW
  refine callsIn_of_wp Try.func19 rfl trivial ?_ rfl
  simp only [Try.ntmps19, List.size_toArray, List.length_cons, List.length_nil, Nat.reduceAdd, Nat.reduceSub, Array.replicate_succ, Array.replicate_zero, List.push_toArray, List.append_toArray, List.nil_append, List.cons_append]
  gi_wp2
  gi_loopw [9] (fun i wr => ∃ k : Nat, k ≤ N ∧ i = .int .i64 k ∧ Hid (J (ks.take k) wr ∧ Below n0 W wr)) (fun i _ => N - (intOf i).toNat)
  case atStart => exact ⟨0, Nat.zero_le _, rfl, Lib.hid ⟨h0, Below.refl _ _⟩⟩
  case round =>
    obtain ⟨k, hk, rfl, hst⟩ := hrel
    by_cases hlt : k < N
    · have hlk : k < ks.length := by have := hN'.out; omega
      have hb2 : LB wr d life last p f N := by
        have := hst.out.2.block d hd
        exact this.trans hb
      have hP := Lib.hid (place_any (w := wr.drew) (hb2.only (only_drew [] wr) (by simp)) hf k (by omega))
      have hq := pos_lt f k
      have c0 := hb2.r hq
      have c1 := hb2.t hq
      have e0 := hs'.out k hlk
      rw [e0] at c0 c1
      have hj2 := hJ _ wr wr.drew hst.out.1 (grew wr 1)
      obtain ⟨fn, tmps, assign, body, hy, hR⟩ := hY (ks.take k) ks[k] wr.drew hj2 (by have := List.take_prefix (k + 1) ks; rwa [List.take_add_one, List.getElem?_eq_getElem hlk] at this)
      obtain ⟨x, hx⟩ : ∃ x, x = ks[k] := ⟨_, rfl⟩
      rw [← hx] at hy c0 c1
      have hx' := Lib.hid hx
      clear hx e0
      obtain ⟨xr, xt⟩ := x
      simp only [encK] at hy
      have hR2 : RoundIn .wide (m - 1) Try.prog l fn tmps assign body wr.drew fun e B => ∃ b, e = .returned (.bool b) ∧ Hid ((b = true ∧ J (ks.take (k + 1)) B ∧ Below n0 W B) ∨ (b = false ∧ Jx (ks.take (k + 1)) B)) := hR.mono (by
        rintro e B (⟨rfl, hJ3, hk3⟩ | ⟨rfl, hJx3⟩)
        · exact ⟨true, rfl, Lib.hid (.inl ⟨rfl, by rw [List.take_add_one, List.getElem?_eq_getElem hlk]; exact hJ3, hst.out.2.trans (((below_drewN (Below.refl n0 wr) 1)).trans hk3)⟩)⟩
        · exact ⟨false, rfl, Lib.hid (.inr ⟨rfl, by rw [List.take_add_one, List.getElem?_eq_getElem hlk]; exact hJx3⟩)⟩)
      clear hR hj2
      have hmo : Try.prog.follows .mixedOrders = true := by kernel_rfl
      gi_wp2
      gi_region_with_o (first
        | (refine ⟨trivial, fun h => (by cases h), ?_⟩; refine (callsIn_wide.2 hP.out).mono ?_; rintro e w' ⟨rfl, rfl⟩)
        | (refine ⟨fun h => (by cases h), ?_⟩; refine hR2.mono ?_; rintro e W3 ⟨b, rfl, hh⟩))
      all_goals clear hR2 hP
      all_goals cases b with
      | true =>
        gi_wp2
        go_roundw
        case rel =>
          rcases hh.out with ⟨_, h1, h2⟩ | ⟨h1, _⟩
          · exact ⟨k + 1, by omega, by simp, Lib.hid ⟨h1, h2⟩⟩
          · cases h1
        case measure => simp [intOf]; omega
      | false =>
        gi_wp2
        refine bodyPost_ret (results_none rfl _ _ _) rfl ?_
        rcases hh.out with ⟨h1, _⟩ | ⟨_, h1⟩
        · cases h1
        · exact ⟨⟨_, rfl⟩, .inr ⟨_, List.take_prefix _ _, h1⟩⟩
    · obtain rfl : k = N := by omega
      gi_wp2
      go_end0
      refine ⟨⟨_, rfl⟩, .inl ⟨_, rfl, ?_⟩⟩
      have := hst.out.1
      rwa [hN'.out, List.take_length] at this
end Go.Proofs.Ytkaeicaidomghaa.Tpd
