/-
  typed: the law TypedNone.
-/
import Derived.Test.YtkaeicaidomghaaYSt
namespace Go.Proofs.Ytkaeicaidomghaa.Tpd
open Go Go.RowKit Go.Proofs.Ytkaeicaidomghaa.Com

set_option maxRecDepth 100000 in
set_option maxHeartbeats 4000000 in
theorem none_law (r : Int) (_ : (Lit.int .i32 r).wf = true) (now : Int) (_ : (Lit.int .i64 now).wf = true) (w : World) : Calls Try.prog 3 #[.int .i32 r, .int .i64 now] w (Yes w) := by
  obtain ⟨z, hz, hz1⟩ : ∃ z : Array Value, (∀ w, (zeroValue 28).run Try.prog w = .ok (.agg z) w) ∧ z = zA := ⟨zA, zero_list, rfl⟩
  have hb0 : LB (w.alloc (.cells z 28)) w.heap.size 0 0 zP 0 0 := by rw [hz1]; exact Block.made w _ _
  have hB0 := below_new w (.cells z 28)
  have hzs : z.size = 132 := by rw [hz1]; simp [zA, tyL_len]
  replace hz1 := Lib.hid hz1
  go_enter Try.func3, Try.ntmps3
  go_upto_region 2 with (fail)
  generalize hw1 : w.alloc (.cells z 28) = w1 at hb0 hB0 ⊢
  have hb1 := Block.made w1 29 #[.pointer none, .pointer (some ⟨w.heap.size, 0, none⟩)]
  have hB1 := below_new w1 (.cells #[.pointer none, .pointer (some ⟨w.heap.size, 0, none⟩)] 29)
  go_wp2
  generalize w1.alloc (.cells #[.pointer none, .pointer (some ⟨w.heap.size, 0, none⟩)] 29) = w2 at hb1 hB1 ⊢
  have hno : ∀ wr v, Below w2.heap.size w2 wr → (v = .pointer none ∨ v = .pointer (some ⟨w.heap.size, 0, none⟩)) → NoList wr v := fun wr v hb hv => by
    rcases hv with rfl | rfl
    · exact .inl rfl
    · exact .inr ⟨_, _, _, _, _, rfl, (hb0.below hB1).below hb⟩
  have hwB := Lib.hid (below_next hB0 hB1)
  replace hno := Lib.hid hno
  have hk := Lib.hid (fun wr => known_any wr)
  have hcell : ∀ wr, Below w2.heap.size w2 wr → Hid (Block wr w1.heap.size 29 #[.pointer none, .pointer (some ⟨w.heap.size, 0, none⟩)]) := fun wr hb => Lib.hid (hb1.only (Only.of_below hb []) (by simp))
  replace hcell := Lib.hid hcell
  clear hb0 hB0 hb1 hB1 hz1 hz hzs hw1
  go_loopw [12] (fun i wr => ∃ k : Nat, k ≤ 2 ∧ i = .int .i64 k ∧ Hid (Below w2.heap.size w2 wr)) (fun i _ => 2 - (intOf i).toNat)
  case atStart => exact ⟨0, by omega, rfl, Lib.hid (Below.refl _ _)⟩
  case round =>
    obtain ⟨k, hk2, rfl, hst⟩ := hrel
    by_cases hlt : k < 2
    · have hkk : k = 0 ∨ k = 1 := by omega
      have hcb := (hcell.out wr hst.out).out
      have hnx : Hid (∀ v wr, (v = .pointer none ∨ v = .pointer (some ⟨w.heap.size, 0, none⟩)) → Below w2.heap.size w2 wr → NoList wr v) := Lib.hid fun v wr h1 h2 => hno.out wr v h2 h1
      obtain ⟨v, hv, hcv⟩ : ∃ v : Option Addr, (Value.pointer v = .pointer none ∨ Value.pointer v = .pointer (some ⟨w.heap.size, 0, none⟩)) ∧ wr.cell? ⟨w1.heap.size, k, none⟩ = some (.pointer v) := by
        rcases hkk with rfl | rfl
        · exact ⟨none, .inl rfl, hcb.cell 0 rfl⟩
        · exact ⟨some ⟨w.heap.size, 0, none⟩, .inr rfl, hcb.cell 1 rfl⟩
      have hN := Lib.hid (fun wr h => hnx.out (.pointer v) wr hv h)
      have h1 := Lib.hid (type_no (hN.out wr hst.out) r now)
      have h2 := Lib.hid (take_no (hN.out wr hst.out) r now)
      have h3 := Lib.hid (waits_no (hN.out wr hst.out) now)
      have h4 := Lib.hid (fun w' (hb : Below wr.heap.size wr w') => copy_no (hN.out w' (below_next hst.out hb)))
      have h5 := Lib.hid (fun w' (hb : Below wr.heap.size wr w') => clear_no (hN.out w' (below_next hst.out hb)))
      clear hno hnx hv hcb hkk hN hcell
      go_wp2_with (first
        | (go_at_call 6; (with_reducible refine (h1.out).mono ?_); rintro e w' ⟨⟨v1, rfl⟩, rfl⟩)
        | (go_at_call 7; (with_reducible refine (h2.out).mono ?_); rintro e w' ⟨rfl, rfl⟩)
        | (go_at_call 8; (with_reducible refine (h3.out).mono ?_); rintro e w3 ⟨rfl, hb3⟩; replace h4 := Lib.hid (h4.out w3 hb3); replace h5 := Lib.hid (h5.out w3 hb3); replace hb3 := Lib.hid hb3)
        | (go_at_call 9; (with_reducible refine (h4.out).mono ?_); rintro e w' ⟨rfl, rfl⟩)
        | (go_at_call 10; (with_reducible refine (h5.out).mono ?_); rintro e w' ⟨⟨v5, rfl⟩, rfl⟩))
      go_roundw
      case rel => exact ⟨k + 1, by omega, by simp, Lib.hid (below_next hst.out hb3.out)⟩
      case measure => simp [intOf]; omega
    · obtain rfl : k = 2 := by omega
      have hfin := Lib.hid (fun w4 (hb : Below wr.heap.size wr w4) => below_next (below_next hwB.out hst.out) hb)
      clear hno hcell hst
      go_wp2_with ((go_at_call 11; (with_reducible refine (hk.out _).mono ?_); rintro e w4 ⟨rfl, hb⟩; replace hb := Lib.hid (hfin.out w4 hb)))
      go_ret
      exact ⟨rfl, hb.out⟩
end Go.Proofs.Ytkaeicaidomghaa.Tpd
