/- Part 49 of the proof that the card of EmuNone holds. -/
import Derived.Test.YtkjpjegmanpbfaaGreatDoorPN48
import Derived.Test.YtkjpjegmanpbfaaGreatDoorPN23
set_option maxHeartbeats 16000000
set_option maxRecDepth 100000
namespace Go.Proofs.YtkjpjegmanpbfaaGreatDoor.Emu
open Go Go.RowKit Go.Proofs.YtkjpjegmanpbfaaGreatDoor.Com Go.Proofs.YtkjpjegmanpbfaaGreatDoor.Rw Go.Proofs.YtkjpjegmanpbfaaGreatDoor.Lns Go.Proofs.YtkjpjegmanpbfaaGreatDoor.Scn
section
variable {w wr w' : World}
theorem same_zero (w : World) : Calls Tryz.prog 11 #[.agg #[.slice none 0 0, .slice none 0 0, .int .i64 0, .int .i64 0, .bool false, .bool false, .bool false, .int .i64 0, .int .i64 0, .int .u32 0, .int .u32 0, .int .u16 0], .agg #[.slice none 0 0, .slice none 0 0, .int .i64 0, .int .i64 0, .bool false, .bool false, .bool false, .int .i64 0, .int .i64 0, .int .u32 0, .int .u32 0, .int .u16 0]] w fun e w' => e = .returned (.bool true) ∧ Below w.heap.size w w' :=
 have h : Rws 0 w 0 (.slice none 0 0) (.slice none 0 0) [] [] := ⟨World.ownsRow_nil _ _ _ _, Own.nil _ _ _ _, fun p hp => (by cases hp)⟩
 samegrid_any (cols := 0) 0 0 false false false 0 0 0 0 0 h h rfl rfl (by omega) (by simp) (by simp)
theorem neq_modes (w : World) : (binOp .neq 46 (.agg #[.bool false, .bool false, .bool false, .bool false, .bool false, .bool false, .bool false, .bool false]) (.agg #[.bool false, .bool false, .bool false, .bool false, .bool false, .bool false, .bool false, .bool false])).run Tryz.prog w = .ok (.bool false) w := by kernel_rfl
theorem eqg_modes (w : World) : (eqGuard .neq 46 (.tmp 37) (.tmp 38) (.agg #[.bool false, .bool false, .bool false, .bool false, .bool false, .bool false, .bool false, .bool false]) (.agg #[.bool false, .bool false, .bool false, .bool false, .bool false, .bool false, .bool false, .bool false])).run Tryz.prog w = .ok () w := by kernel_rfl
theorem idx0 (z : Nat) (w : World) : (Instr.index 32 (.agg #[.pointer none, .pointer (some ⟨z, 0, none⟩)]) (.int .i64 0)).run Tryz.prog w = .ok (.pointer none) w := by kernel_rfl
theorem idx1 (z : Nat) (w : World) : (Instr.index 32 (.agg #[.pointer none, .pointer (some ⟨z, 0, none⟩)]) (.int .i64 1)).run Tryz.prog w = .ok (.pointer (some ⟨z, 0, none⟩)) w := by kernel_rfl
theorem none_law (x : AcT) (q : Pl3) (a : Int) (_ : (Lit.int .i64 a).wf = true) (b : Int) (_ : (Lit.int .i64 b).wf = true) (W : World) (hT : Tbl W) : Calls Tryz.prog 3 #[.agg (acV x q).toArray, .int .i64 a, .int .i64 b] W fun e w' => e = .returned (.bool true) ∧ Below W.heap.size W w' := by
 obtain ⟨k, r, pr, lp, li, f, lt⟩ := x
 obtain ⟨pa, pc, ia, ic, ta, tc⟩ := q
 simp only [acV]
 generalize lp.length = pn
 generalize li.length = im
 generalize lt.length = tn
 have hbn := below_new W (.cells #[.int .u8 k, .int .i32 r, .int .i32 pr, .slice pa pn pc, .slice ia im ic, .int .i32 f, .slice ta tn tc] 25)
 have hbx := Block.made W 25 #[.int .u8 k, .int .i32 r, .int .i32 pr, .slice pa pn pc, .slice ia im ic, .int .i32 f, .slice ta tn tc]
 have hgr := Lib.hid (fun w1 => great_any (k := k) (r := r) (pr := pr) (pa := pa) (pn := pn) (pc := pc) (ia := ia) (im := im) (ic := ic) (f := f) (ta := ta) (tn := tn) (tc := tc) w1)
 have hkn := Lib.hid (fun w1 (hb : Below W.heap.size W w1) => known_any (hT.below hb))
 clear hT
 go_enter Tryz.func3, Tryz.ntmps3
 go_upto_region 1 with (fail)
 have hlt := hbx.lt
 generalize hbe : W.heap.size = bx at hbx ⊢
 replace hbe := Lib.hid hbe
 generalize W.alloc (.cells #[.int .u8 k, .int .i32 r, .int .i32 pr, .slice pa pn pc, .slice ia im ic, .int .i32 f, .slice ta tn tc] 25) = w0 at hbx hbn hlt ⊢
 have y0 := hbx.cell 0 (v := .int .u8 k) rfl
 have y1 := hbx.cell 1 (v := .int .i32 r) rfl
 have y2 := hbx.cell 2 (v := .int .i32 pr) rfl
 have y3 := hbx.cell 3 (v := .slice pa pn pc) rfl
 have y4 := hbx.cell 4 (v := .slice ia im ic) rfl
 have y5 := hbx.cell 5 (v := .int .i32 f) rfl
 have y6 := hbx.cell 6 (v := .slice ta tn tc) rfl
 replace hbx := Lib.hid hbx
 rcases hg : greatB pn im tn
 ·rw [hg] at hgr
  clear hg
  go_upto_region 4 with ((go_at_call 7; (with_reducible refine (hgr.out _).mono ?_); rintro e w1 ⟨rfl, hb1⟩))
  have hb01 := hbn.trans (hb1.mono (Nat.le_of_lt hlt))
  have hbx1 := Block.only hbx.out (Only.of_below hb1 []) (by simp)
  have hbz := below_new w1 (.cells #[.pointer none] 30)
  have hz := Block.made w1 30 #[.pointer none]
  have hbx2 := Block.only hbx1 (Only.of_below hbz []) (by simp)
  have hb02 : Below W.heap.size W (w1.alloc (.cells #[.pointer none] 30)) := hb01.trans (hbz.mono hb01.size)
  generalize w1.heap.size = z at hz ⊢
  generalize w1.alloc (.cells #[.pointer none] 30) = w2 at hz hbx2 hb02 ⊢
  clear hbx hbx1 hbz hb1 hb01 hgr y0 y1 y2 y3 y4 y5 y6 hbn
  have hst : Hid (Below W.heap.size W w2 ∧ Block w2 bx 25 #[.int .u8 k, .int .i32 r, .int .i32 pr, .slice pa pn pc, .slice ia im ic, .int .i32 f, .slice ta tn tc] ∧ Block w2 z 30 #[.pointer none]) := Lib.hid ⟨hb02, hbx2, hz⟩
  clear hz hbx2 hb02
  go_wp2
  go_loopw [14] (fun i wr => ∃ j : Nat, j ≤ 2 ∧ i = .int .i64 j ∧ Hid (Below W.heap.size W wr ∧ Block wr bx 25 #[.int .u8 k, .int .i32 r, .int .i32 pr, .slice pa pn pc, .slice ia im ic, .int .i32 f, .slice ta tn tc] ∧ Block wr z 30 #[.pointer none])) (fun i _ => 2 - (intOf i).toNat)
  case atStart => exact ⟨0, by omega, rfl, hst⟩
  case round =>
   obtain ⟨j, hj, rfl, hR⟩ := hrel
   clear hst
   by_cases hlt : j < 2
   ·have hj2 : j = 0 ∨ j = 1 := by omega
    rcases hj2 with rfl | rfl
    ·obtain ⟨hb, hbx, hz⟩ := hR.out
     have hno : NoT wr (.pointer none) := .inl rfl
     have y0 := hbx.cell 0 (v := .int .u8 k) rfl
     have y1 := hbx.cell 1 (v := .int .i32 r) rfl
     have y2 := hbx.cell 2 (v := .int .i32 pr) rfl
     have y3 := hbx.cell 3 (v := .slice pa pn pc) rfl
     have y4 := hbx.cell 4 (v := .slice ia im ic) rfl
     have y5 := hbx.cell 5 (v := .int .i32 f) rfl
     have y6 := hbx.cell 6 (v := .slice ta tn tc) rfl
     have hn := Lib.hid (fun w1 (hb : Below wr.heap.size wr w1) => hno.below hb)
     have hend := Lib.hid (fun w1 (hb1 : Below wr.heap.size wr w1) => (⟨hb.trans (hb1.mono hb.size), Block.only hbx (Only.of_below hb1 []) (by simp), Block.only hz (Only.of_below hb1 []) (by simp)⟩ : Below W.heap.size W w1 ∧ Block w1 bx 25 #[.int .u8 k, .int .i32 r, .int .i32 pr, .slice pa pn pc, .slice ia im ic, .int .i32 f, .slice ta tn tc] ∧ Block w1 z 30 #[.pointer none]))
     have hix := idx0
     have hnq := neq_modes
     have hng := eqg_modes
     clear hno hb hbx hz hR
     go_wp2_with (first
      | (go_at_call 9; (with_reducible refine (tdo_no (hn.out _ (Below.refl _ _))).mono ?_); rintro e w1 ⟨rfl, hb1⟩)
      | (go_at_call 10; (with_reducible refine (tres_no (hn.out _ hb1) a b).mono ?_); rintro e w2 ⟨rfl, rfl⟩)
      | (go_at_call 12; (with_reducible refine (tgrid_no (hn.out _ hb1)).mono ?_); rintro e w3 ⟨rfl, hb3'⟩; have hb3 := below_next hb1 hb3')
      | (go_at_call 11; (with_reducible refine (same_zero _).mono ?_); rintro e w4 ⟨rfl, hb4'⟩; have hb4 := below_next hb3 hb4')
      | (go_at_call 13; (with_reducible refine (tmods_no (hn.out _ hb4)).mono ?_); rintro e w5 ⟨rfl, hb5'⟩; have hb5 := below_next hb4 hb5')
      | (go_at_call 14; (with_reducible refine (tback_no (hn.out _ hb5)).mono ?_); rintro e w6 ⟨rfl, rfl⟩)
      | (go_at_call 15; (with_reducible refine (tjour_no (hn.out _ hb5)).mono ?_); rintro e w7 ⟨rfl, rfl⟩)
      | (go_at_call 16; (with_reducible refine (trepl_no (hn.out _ hb5)).mono ?_); rintro e w8 ⟨rfl, rfl⟩)
      | (go_at_call 17; (with_reducible refine (tprin_no (hn.out _ hb5)).mono ?_); rintro e w9 ⟨rfl, rfl⟩))
     have hst := Lib.hid (hend.out _ hb5)
     go_roundw
     case rel => exact ⟨1, by omega, by go_num, hst⟩
     case measure => simp [intOf]
    ·obtain ⟨hb, hbx, hz⟩ := hR.out
     have hno : NoT wr (.pointer (some ⟨z, 0, none⟩)) := .inr ⟨z, rfl, hz⟩
     have y0 := hbx.cell 0 (v := .int .u8 k) rfl
     have y1 := hbx.cell 1 (v := .int .i32 r) rfl
     have y2 := hbx.cell 2 (v := .int .i32 pr) rfl
     have y3 := hbx.cell 3 (v := .slice pa pn pc) rfl
     have y4 := hbx.cell 4 (v := .slice ia im ic) rfl
     have y5 := hbx.cell 5 (v := .int .i32 f) rfl
     have y6 := hbx.cell 6 (v := .slice ta tn tc) rfl
     have hn := Lib.hid (fun w1 (hb : Below wr.heap.size wr w1) => hno.below hb)
     have hend := Lib.hid (fun w1 (hb1 : Below wr.heap.size wr w1) => (⟨hb.trans (hb1.mono hb.size), Block.only hbx (Only.of_below hb1 []) (by simp), Block.only hz (Only.of_below hb1 []) (by simp)⟩ : Below W.heap.size W w1 ∧ Block w1 bx 25 #[.int .u8 k, .int .i32 r, .int .i32 pr, .slice pa pn pc, .slice ia im ic, .int .i32 f, .slice ta tn tc] ∧ Block w1 z 30 #[.pointer none]))
     have hix := idx1
     have hnq := neq_modes
     have hng := eqg_modes
     clear hno hb hbx hz hR
     go_wp2_with (first
      | (go_at_call 9; (with_reducible refine (tdo_no (hn.out _ (Below.refl _ _))).mono ?_); rintro e w1 ⟨rfl, hb1⟩)
      | (go_at_call 10; (with_reducible refine (tres_no (hn.out _ hb1) a b).mono ?_); rintro e w2 ⟨rfl, rfl⟩)
      | (go_at_call 12; (with_reducible refine (tgrid_no (hn.out _ hb1)).mono ?_); rintro e w3 ⟨rfl, hb3'⟩; have hb3 := below_next hb1 hb3')
      | (go_at_call 11; (with_reducible refine (same_zero _).mono ?_); rintro e w4 ⟨rfl, hb4'⟩; have hb4 := below_next hb3 hb4')
      | (go_at_call 13; (with_reducible refine (tmods_no (hn.out _ hb4)).mono ?_); rintro e w5 ⟨rfl, hb5'⟩; have hb5 := below_next hb4 hb5')
      | (go_at_call 14; (with_reducible refine (tback_no (hn.out _ hb5)).mono ?_); rintro e w6 ⟨rfl, rfl⟩)
      | (go_at_call 15; (with_reducible refine (tjour_no (hn.out _ hb5)).mono ?_); rintro e w7 ⟨rfl, rfl⟩)
      | (go_at_call 16; (with_reducible refine (trepl_no (hn.out _ hb5)).mono ?_); rintro e w8 ⟨rfl, rfl⟩)
      | (go_at_call 17; (with_reducible refine (tprin_no (hn.out _ hb5)).mono ?_); rintro e w9 ⟨rfl, rfl⟩))
     have hst := Lib.hid (hend.out _ hb5)
     go_roundw
     case rel => exact ⟨2, by omega, by go_num, hst⟩
     case measure => simp [intOf]
   ·obtain rfl : j = 2 := by omega
    obtain ⟨hb, _, _⟩ := hR.out
    go_wp2_with ((go_at_call 8; (with_reducible refine (hkn.out _ hb).mono ?_); rintro e w2 ⟨rfl, hb2⟩))
    go_ret
    exact ⟨rfl, hb.trans (hb2.mono hb.size)⟩
 ·rw [hg] at hgr
  clear hg
  go_wp2_with (first
   | (go_at_call 7; (with_reducible refine (hgr.out _).mono ?_); rintro e w1 ⟨rfl, hb1⟩; have hb01 := hbn.trans (hb1.mono (Nat.le_of_lt hlt)))
   | (go_at_call 8; (with_reducible refine (hkn.out _ hb01).mono ?_); rintro e w2 ⟨rfl, hb2⟩))
  go_ret
  exact ⟨rfl, hb01.trans (hb2.mono hb01.size)⟩
end
end Go.Proofs.YtkjpjegmanpbfaaGreatDoor.Emu
