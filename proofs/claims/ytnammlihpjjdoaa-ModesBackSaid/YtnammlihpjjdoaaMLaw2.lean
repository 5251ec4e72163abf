/-
  modes: ModesBits.
-/
import Derived.Test.YtnammlihpjjdoaaMLaw1
import Derived.Deep.RegionHeld3
namespace Go.Proofs.Ytnammlihpjjdoaa.Mds
open Go Go.RowKit Go.Proofs.Ytnammlihpjjdoaa.Com

theorem byte_in {n : Int} (h : (Lit.int .u8 n).wf = true) : 0 ≤ n ∧ n < 256 := by
  simp [Lit.wf, IntKind.min, IntKind.max, IntKind.signed, IntKind.bits] at h
  omega
theorem cells8 {w : World} {g : Nat} {a0 a1 a2 a3 a4 a5 a6 a7 : Bool} (h : MB w g ⟨a0, a1, a2, a3, a4, a5, a6, a7⟩) :
    w.cell? ⟨g, 0, none⟩ = some (.bool a0) ∧ w.cell? ⟨g, 1, none⟩ = some (.bool a1) ∧ w.cell? ⟨g, 2, none⟩ = some (.bool a2) ∧ w.cell? ⟨g, 3, none⟩ = some (.bool a3) ∧ w.cell? ⟨g, 4, none⟩ = some (.bool a4) ∧ w.cell? ⟨g, 5, none⟩ = some (.bool a5) ∧ w.cell? ⟨g, 6, none⟩ = some (.bool a6) ∧ w.cell? ⟨g, 7, none⟩ = some (.bool a7) :=
  ⟨h.cell (k := 0) (by omega), h.cell (k := 1) (by omega), h.cell (k := 2) (by omega), h.cell (k := 3) (by omega), h.cell (k := 4) (by omega), h.cell (k := 5) (by omega), h.cell (k := 6) (by omega), h.cell (k := 7) (by omega)⟩
theorem MB.drew {w : World} {g : Nat} {m : Md} (h : MB w g m) : MB w.drew g m := h
theorem below_drew {w w' : World} {B : Nat} (h : Below B w w') : Below B w w'.drew := below_drewN h 1

set_option maxHeartbeats 4000000 in
theorem bits_law (m : Md) (x : Int) (hx : (Lit.int .u8 x).wf = true) (W : World) : Calls Try.prog 5 #[.agg (mA m), .int .u8 x] W (Yes W) := by
  have hx0 := byte_in hx
  have hbp : ∀ w', Calls Try.prog 15 #[.agg (mA m)] w' (Tup (.int .u8 m.bits) w') := fun w' => bits_any m w'
  have hbr : ∀ w', Calls Try.prog 16 #[.agg (mA m)] w' (Tup (.int .u8 m.bits) w') := fun w' => rbits_any m w'
  have hop := fun w' => of_any x hx0.1 hx0.2 w'
  have hor := fun w' => rof_any x hx0.1 hx0.2 w'
  generalize ofBits x = c at hop hor
  obtain ⟨c0, c1, c2, c3, c4, c5, c6, c7⟩ := c
  have hb0 := Lib.hid (below_drew (below_new W (.cells (mA m) 23)))
  have hd0 := Lib.hid (MB.made W m).drew
  generalize m.bits = B at hbp hbr
  obtain ⟨a0, a1, a2, a3, a4, a5, a6, a7⟩ := m
  replace hbp := Lib.hid hbp
  replace hbr := Lib.hid hbr
  replace hop := Lib.hid (show ∀ w', Calls Try.prog 17 #[.int .u8 x] w' (Tup (.agg #[.bool c0, .bool c1, .bool c2, .bool c3, .bool c4, .bool c5, .bool c6, .bool c7]) w') from hop)
  replace hor := Lib.hid (show ∀ w', Calls Try.prog 18 #[.int .u8 x] w' (Tup (.agg #[.bool c0, .bool c1, .bool c2, .bool c3, .bool c4, .bool c5, .bool c6, .bool c7]) w') from hor)
  clear hx hx0
  go_enter Try.func5, Try.ntmps5
  go_wp2
  go_region_held3 (fun w' => w'.cell? ⟨W.heap.size, 0, none⟩ = some (.bool a0) ∧ w'.cell? ⟨W.heap.size, 1, none⟩ = some (.bool a1) ∧ w'.cell? ⟨W.heap.size, 2, none⟩ = some (.bool a2) ∧ w'.cell? ⟨W.heap.size, 3, none⟩ = some (.bool a3) ∧ w'.cell? ⟨W.heap.size, 4, none⟩ = some (.bool a4) ∧ w'.cell? ⟨W.heap.size, 5, none⟩ = some (.bool a5) ∧ w'.cell? ⟨W.heap.size, 6, none⟩ = some (.bool a6) ∧ w'.cell? ⟨W.heap.size, 7, none⟩ = some (.bool a7))
    (first | exact cells8 hd0.out | exact cells8 hd1.out | exact cells8 hd2.out | exact cells8 hd3.out | exact cells8 hd4.out | exact cells8 hd5.out)
    (first
      | (go_at_call 15; refine (hbp.out _).mono ?_; rintro e w1 ⟨rfl, hb1⟩; have hd1 := Lib.hid (hd0.out.below hb1); have hbA := Lib.hid (below_next hb0.out hb1))
      | (go_at_call 16; refine (hbr.out _).mono ?_; rintro e w2 ⟨rfl, hb2⟩; have hd2 := Lib.hid (hd1.out.below hb2); have hbB := Lib.hid (below_next hbA.out hb2))
      | (go_at_call 17; refine (hop.out _).mono ?_; rintro e w3 ⟨rfl, hb3⟩; have hd3 := Lib.hid (hd2.out.below hb3); have hbC := Lib.hid (below_next hbB.out hb3))
      | (go_at_call 18; refine (hor.out _).mono ?_; rintro e w4 ⟨rfl, hb4⟩; have hd4 := Lib.hid (hd3.out.below hb4); have hbD := Lib.hid (below_next hbC.out hb4))
      | (go_at_call 10; refine (known_any _).mono ?_; rintro e w5 ⟨rfl, hb5⟩; have hd5 := Lib.hid (hd4.out.below hb5); have hbE := Lib.hid (below_next hbD.out hb5)))
  go_wp2
  go_ret
  exact ⟨rfl, hbE.out⟩

end Go.Proofs.Ytnammlihpjjdoaa.Mds
