/- Part 47 of the proof that the card of EmuNone holds. -/
import Derived.Test.YtkjpjegmanpbfaaGreatDoorPN44
import Derived.Test.YtkjpjegmanpbfaaGreatDoorPN46
import Derived.Test.YtkjpjegmanpbfaaGreatDoorPN45
set_option maxHeartbeats 16000000
set_option maxRecDepth 100000
namespace Go.Proofs.YtkjpjegmanpbfaaGreatDoor.Emu
open Go Go.RowKit Go.Proofs.YtkjpjegmanpbfaaGreatDoor.Com Go.Proofs.YtkjpjegmanpbfaaGreatDoor.Rw Go.Proofs.YtkjpjegmanpbfaaGreatDoor.Lns Go.Proofs.YtkjpjegmanpbfaaGreatDoor.Scn
section
variable {B B' : Nat} {w w' : World} {cols : Nat} {cv iv cv' iv' : Value} {rs rs' : List TRow} {ids : List Int}
theorem fl_hdr (cols : Nat) (rs : List TRow) : fl (hdr cols) rs = rs.map fun p => .slice (some ⟨p.1, 0, none⟩) cols cols := by
 induction rs with
 | nil => rfl
 | cons a l ih => rw [show a :: l = [a] ++ l from rfl, fl_app, fl_one, ih]; rfl
theorem Rws.cv_at (h : Rws B w cols cv iv rs ids) {i : Nat} (hi : i < rs.length) : ∃ g c, cv = .slice (some ⟨g, 0, none⟩) rs.length c ∧ rs.length ≤ c ∧ c ≤ maxLen ∧ w.cell? ⟨g, i, none⟩ = some (.slice (some ⟨rs[i].1, 0, none⟩) cols cols) := by
 obtain ⟨g, c, tail, rfl, _, hb, h1, h2⟩ := own_block h.rows (by omega)
 refine ⟨g, c, rfl, h1, h2, hb.cell i ?_⟩
 rw [List.getElem?_toArray, List.getElem?_append_left (by rw [fl_hdr]; simpa using hi), fl_hdr, List.getElem?_map, List.getElem?_eq_getElem hi]
 rfl
theorem Rws.iv_at (h : Rws B w cols cv iv rs ids) {i : Nat} (hi : i < ids.length) : ∃ g c, iv = .slice (some ⟨g, 0, none⟩) ids.length c ∧ ids.length ≤ c ∧ c ≤ maxLen ∧ w.cell? ⟨g, i, none⟩ = some (.int .i64 ids[i]) := by
 obtain ⟨g, c, tail, rfl, _, hb, h1, h2⟩ := own_block (show w.ownsRow B 3 1 iv ids.length (ids.map (Value.int .i64)) from h.ids) (by omega)
 refine ⟨g, c, rfl, h1, h2, hb.cell i ?_⟩
 rw [List.getElem?_toArray, List.getElem?_append_left (by simpa using hi), List.getElem?_map, List.getElem?_eq_getElem hi]
 rfl
def gridQ (r c : Int) (p h m : Bool) (tp bt f b g : Int) : List Value := [.int .i64 r, .int .i64 c, .bool p, .bool h, .bool m, .int .i64 tp, .int .i64 bt, .int .u32 f, .int .u32 b, .int .u16 g]
theorem samegrid_any (r c : Int) (p h m : Bool) (tp bt f b g : Int) (h1 : Rws B w cols cv iv rs ids) (h2 : Rws B' w cols cv' iv' rs' ids) (hl : rs.length = ids.length) (hc : rs'.map (fun p => p.2.map (·.1)) = rs.map (fun p => p.2.map (·.1))) (h5 : cols ≤ 512) (hn : rs.length ≤ 512) (h4 : ∀ q ∈ rs, q.2.length = cols ∧ ∀ x ∈ q.2, x.1.m.length ≤ 4) :
  Calls Tryz.prog 11 #[.agg (gridA cv iv (gridQ r c p h m tp bt f b g)), .agg (gridA cv' iv' (gridQ r c p h m tp bt f b g))] w fun e w' => e = .returned (.bool true) ∧ Below w.heap.size w w' := by
 have hl' : rs'.length = ids.length := by have := congrArg List.length hc; simpa [hl] using this
 have hk1 := fun w1 (hb : Below w.heap.size w w1) => h1.below hb
 have hk2 := fun w1 (hb : Below w.heap.size w w1) => h2.below hb
 obtain ⟨a1, c1, rfl, _, _⟩ := owns_shape h1.rows
 obtain ⟨a2, c2, rfl, _, _⟩ := h1.ids.shape
 obtain ⟨a3, c3, rfl, _, _⟩ := owns_shape h2.rows
 obtain ⟨a4, c4, rfl, _, _⟩ := h2.ids.shape
 have hsame : Hid (∀ w1, Below w.heap.size w w1 → ∀ i, i < ids.length → ∃ g1 g2 x y, a1 = some ⟨g1, 0, none⟩ ∧ a2 = some ⟨g2, 0, none⟩ ∧ (∃ g3 g4 x' y', a3 = some ⟨g3, 0, none⟩ ∧ a4 = some ⟨g4, 0, none⟩ ∧
   (∀ w2, Below w.heap.size w w2 → w2.cell? ⟨g1, i, none⟩ = some (.slice (some ⟨x, 0, none⟩) cols cols) ∧ w2.cell? ⟨g2, i, none⟩ = some (.int .i64 y) ∧ w2.cell? ⟨g3, i, none⟩ = some (.slice (some ⟨x', 0, none⟩) cols cols) ∧ w2.cell? ⟨g4, i, none⟩ = some (.int .i64 y')) ∧ y' = y ∧
   (∀ w2, Below w.heap.size w w2 → Calls Tryz.prog 27 #[.slice (some ⟨x, 0, none⟩) cols cols, .slice (some ⟨x', 0, none⟩) cols cols] w2 fun e w' => e = .returned (.bool true) ∧ Below w2.heap.size w2 w'))) := Lib.hid fun w1 hb i hi => by
  have hi1 : i < rs.length := by omega
  have hi2 : i < rs'.length := by omega
  obtain ⟨g1, q1, e1, _, _, _⟩ := h1.cv_at hi1
  obtain ⟨g2, q2, e2, _, _, _⟩ := h1.iv_at hi
  obtain ⟨g3, q3, e3, _, _, _⟩ := h2.cv_at hi2
  obtain ⟨g4, q4, e4, _, _, _⟩ := h2.iv_at hi
  simp only [Value.slice.injEq] at e1 e2 e3 e4
  refine ⟨g1, g2, rs[i].1, ids[i], e1.1, e2.1, g3, g4, rs'[i].1, ids[i], e3.1, e4.1, fun w2 hb2 => ?_, rfl, fun w2 hb2 => ?_⟩
  ·obtain ⟨g1', q1', e1', _, _, x1⟩ := (hk1 w2 hb2).cv_at hi1
   obtain ⟨g2', q2', e2', _, _, x2⟩ := (hk1 w2 hb2).iv_at hi
   obtain ⟨g3', q3', e3', _, _, x3⟩ := (hk2 w2 hb2).cv_at hi2
   obtain ⟨g4', q4', e4', _, _, x4⟩ := (hk2 w2 hb2).iv_at hi
   simp only [Value.slice.injEq, e1.1, e2.1, e3.1, e4.1, Option.some.injEq, Addr.mk.injEq] at e1' e2' e3' e4'
   rw [← e1'.1.1] at x1
   rw [← e2'.1.1] at x2
   rw [← e3'.1.1] at x3
   rw [← e4'.1.1] at x4
   exact ⟨x1, x2, x3, x4⟩
  ·have hm := List.getElem_mem hi1
   refine same_any ((hk1 w2 hb2).apis _ hm) ((hk2 w2 hb2).apis _ (List.getElem_mem hi2)) (h4 _ hm).1 ?_ h5 (h4 _ hm).2
   have e := congrArg (·[i]?) hc
   simp only [List.getElem?_map, List.getElem?_eq_getElem hi1, List.getElem?_eq_getElem hi2, Option.map_some, Option.some.injEq] at e
   exact e
 have hn5 : ids.length ≤ 512 := by omega
 rw [hl, hl'] at *
 generalize ids.length = n at *
 clear h1 h2 hk1 hk2 hc h4 h5 hn hl hl'
 simp only [gridA, gridQ]
 have z1 : (r != r) = false := by simp
 have z2 : (c != c) = false := by simp
 have z3 : (p != p) = false := by simp
 have z4 : (h != h) = false := by simp
 have z5 : (m != m) = false := by simp
 have z6 : (tp != tp) = false := by simp
 have z7 : (bt != bt) = false := by simp
 have z8 : ((n : Int) != (n : Int)) = false := by simp
 have z9 : (f != f) = false := by simp
 have za : (b != b) = false := by simp
 have zb : (g != g) = false := by simp
 go_enter Tryz.func11, Tryz.ntmps11
 go_wp2
 have hb0 := below_next (below_new w (.cells #[.slice a1 n c1, .slice a2 n c2, .int .i64 r, .int .i64 c, .bool p, .bool h, .bool m, .int .i64 tp, .int .i64 bt, .int .u32 f, .int .u32 b, .int .u16 g] 43)) (below_new _ (.cells #[.slice a3 n c3, .slice a4 n c4, .int .i64 r, .int .i64 c, .bool p, .bool h, .bool m, .int .i64 tp, .int .i64 bt, .int .u32 f, .int .u32 b, .int .u16 g] 43))
 have hx1 := Block.only (Block.made w 43 #[.slice a1 n c1, .slice a2 n c2, .int .i64 r, .int .i64 c, .bool p, .bool h, .bool m, .int .i64 tp, .int .i64 bt, .int .u32 f, .int .u32 b, .int .u16 g]) (Only.of_below (below_new _ (.cells #[.slice a3 n c3, .slice a4 n c4, .int .i64 r, .int .i64 c, .bool p, .bool h, .bool m, .int .i64 tp, .int .i64 bt, .int .u32 f, .int .u32 b, .int .u16 g] 43)) []) (by simp)
 have hx2 := Block.made (w.alloc (.cells #[.slice a1 n c1, .slice a2 n c2, .int .i64 r, .int .i64 c, .bool p, .bool h, .bool m, .int .i64 tp, .int .i64 bt, .int .u32 f, .int .u32 b, .int .u16 g] 43)) 43 #[.slice a3 n c3, .slice a4 n c4, .int .i64 r, .int .i64 c, .bool p, .bool h, .bool m, .int .i64 tp, .int .i64 bt, .int .u32 f, .int .u32 b, .int .u16 g]
 rw [World.size_alloc] at hx2
 generalize (w.alloc (.cells #[.slice a1 n c1, .slice a2 n c2, .int .i64 r, .int .i64 c, .bool p, .bool h, .bool m, .int .i64 tp, .int .i64 bt, .int .u32 f, .int .u32 b, .int .u16 g] 43)).alloc (.cells #[.slice a3 n c3, .slice a4 n c4, .int .i64 r, .int .i64 c, .bool p, .bool h, .bool m, .int .i64 tp, .int .i64 bt, .int .u32 f, .int .u32 b, .int .u16 g] 43) = w0 at hb0 hx1 hx2 ⊢
 have hbx := Lib.hid (fun w1 (hb : Below w0.heap.size w0 w1) => (⟨(Block.only hx1 (Only.of_below hb []) (by simp)).cell 0 rfl, (Block.only hx1 (Only.of_below hb []) (by simp)).cell 1 rfl, (Block.only hx2 (Only.of_below hb []) (by simp)).cell 0 rfl, (Block.only hx2 (Only.of_below hb []) (by simp)).cell 1 rfl⟩ : w1.cell? ⟨w.heap.size, 0, none⟩ = some (.slice a1 n c1) ∧ w1.cell? ⟨w.heap.size, 1, none⟩ = some (.slice a2 n c2) ∧ w1.cell? ⟨w.heap.size + 1, 0, none⟩ = some (.slice a3 n c3) ∧ w1.cell? ⟨w.heap.size + 1, 1, none⟩ = some (.slice a4 n c4)))
 replace hb0 := Lib.hid hb0
 clear hx1 hx2 z1 z2 z3 z4 z5 z6 z7 z8 z9 za zb
 go_loopw [5] (fun i wr => ∃ k : Nat, k ≤ n ∧ i = .int .i64 k ∧ Hid (Below w0.heap.size w0 wr)) (fun i _ => n - (intOf i).toNat)
 case atStart => exact ⟨0, Nat.zero_le _, rfl, Lib.hid (Below.refl _ _)⟩
 case round =>
  obtain ⟨k, hk, rfl, hR⟩ := hrel
  obtain ⟨d0, d1, d2, d3⟩ := hbx.out _ hR.out
  by_cases hlt : k < n
  ·have hkI : (k : Int) < (n : Int) := by omega
   obtain ⟨g1, g2, x, y, rfl, rfl, g3, g4, x', y', rfl, rfl, hcl, rfl, hsm⟩ := hsame.out _ (Below.refl _ _) k hlt
   have hbr := Lib.hid (fun w2 (hb : Below wr.heap.size wr w2) => below_next hb0.out (below_next hR.out hb))
   have hbr0 := Lib.hid (fun w2 (hb : Below wr.heap.size wr w2) => below_next hR.out hb)
   have zy : (y' != y') = false := by simp
   replace hcl := Lib.hid hcl
   replace hsm := Lib.hid hsm
   clear hsame
   go_upto_region 6 with (fail)
   refine Eqt.region_until (fun w' => Below wr.heap.size wr w') (by kernel_rfl) ?_
   have hH : Below wr.heap.size wr wr.drew := below_dr (Below.refl wr.heap.size wr) 1
   refine Eqt.wpAnyU_pure (i := 0) (oi := ⟨some 94, _, _, _, _, _⟩) (v := ?_) rfl (by kernel_rfl) (by kernel_rfl) (by kernel_rfl) (fun _ _ _ h => h) (Or.inl ⟨by rfl, ?_⟩) (fun _ => hH) ?_
   rotate_left 1
   ·(intro w; go_simp) <;> with_reducible rfl
   try simp only [Act.put, List.setIfInBounds_toArray, List.set_cons_zero, List.set_cons_succ]
   refine Eqt.wpAnyU_pure (i := 2) (oi := ⟨some 96, _, _, _, _, _⟩) (v := ?_) rfl (by kernel_rfl) (by kernel_rfl) (by kernel_rfl) (fun _ _ _ h => h) (Or.inl ⟨by rfl, ?_⟩) (fun _ => hH) ?_
   rotate_left 1
   ·(intro w; go_simp) <;> with_reducible rfl
   try simp only [Act.put, List.setIfInBounds_toArray, List.set_cons_zero, List.set_cons_succ]
   refine Eqt.wpAnyU_pure (i := 5) (oi := ⟨some 99, _, _, _, _, _⟩) (v := ?_) rfl (by kernel_rfl) (by kernel_rfl) (by kernel_rfl) (fun _ _ _ h => h) (Or.inl ⟨by rfl, ?_⟩) (fun _ => hH) ?_
   rotate_left 1
   ·(intro w; go_simp) <;> with_reducible rfl
   try simp only [Act.put, List.setIfInBounds_toArray, List.set_cons_zero, List.set_cons_succ]
   refine Eqt.wpAnyU_pure (i := 7) (oi := ⟨some 101, _, _, _, _, _⟩) (v := ?_) rfl (by kernel_rfl) (by kernel_rfl) (by kernel_rfl) (fun _ _ _ h => h) (Or.inl ⟨by rfl, ?_⟩) (fun _ => hH) ?_
   rotate_left 1
   ·(intro w; go_simp) <;> with_reducible rfl
   try simp only [Act.put, List.setIfInBounds_toArray, List.set_cons_zero, List.set_cons_succ]
   refine Eqt.wpAnyU_take (i := 1) (oi := ⟨some 95, _, _, _, _, _⟩) (v := ?_) rfl (by kernel_rfl) (by kernel_rfl) (by kernel_rfl) (fun _ _ _ h => h) (Or.inl ⟨by rfl, ?_⟩) hH ?_
   rotate_left 1
   ·(intro w hSw; have q := hbx.out _ (hbr0.out _ hSw); obtain ⟨q0, q1, q2, q3⟩ := q; go_simp) <;> with_reducible rfl
   try simp only [Act.put, List.setIfInBounds_toArray, List.set_cons_zero, List.set_cons_succ]
   refine Eqt.wpAnyU_pure (i := 3) (oi := ⟨some 97, _, _, _, _, _⟩) (v := ?_) rfl (by kernel_rfl) (by kernel_rfl) (by kernel_rfl) (fun _ _ _ h => h) (Or.inl ⟨by rfl, ?_⟩) (fun _ => hH) ?_
   rotate_left 1
   ·(intro w; go_simp) <;> with_reducible rfl
   try simp only [Act.put, List.setIfInBounds_toArray, List.set_cons_zero, List.set_cons_succ]
   refine Eqt.wpAnyU_take (i := 4) (oi := ⟨some 98, _, _, _, _, _⟩) (v := ?_) rfl (by kernel_rfl) (by kernel_rfl) (by kernel_rfl) (fun _ _ _ h => h) (Or.inl ⟨by rfl, ?_⟩) hH ?_
   rotate_left 1
   ·(intro w hSw; have q := hcl.out _ (hbr.out _ hSw); obtain ⟨q0, q1, q2, q3⟩ := q; go_simp) <;> with_reducible rfl
   try simp only [Act.put, List.setIfInBounds_toArray, List.set_cons_zero, List.set_cons_succ]
   refine Eqt.wpAnyU_take (i := 6) (oi := ⟨some 100, _, _, _, _, _⟩) (v := ?_) rfl (by kernel_rfl) (by kernel_rfl) (by kernel_rfl) (fun _ _ _ h => h) (Or.inl ⟨by rfl, ?_⟩) hH ?_
   rotate_left 1
   ·(intro w hSw; have q := hbx.out _ (hbr0.out _ hSw); obtain ⟨q0, q1, q2, q3⟩ := q; go_simp) <;> with_reducible rfl
   try simp only [Act.put, List.setIfInBounds_toArray, List.set_cons_zero, List.set_cons_succ]
   refine Eqt.wpAnyU_pure (i := 8) (oi := ⟨some 102, _, _, _, _, _⟩) (v := ?_) rfl (by kernel_rfl) (by kernel_rfl) (by kernel_rfl) (fun _ _ _ h => h) (Or.inl ⟨by rfl, ?_⟩) (fun _ => hH) ?_
   rotate_left 1
   ·(intro w; go_simp) <;> with_reducible rfl
   try simp only [Act.put, List.setIfInBounds_toArray, List.set_cons_zero, List.set_cons_succ]
   refine Eqt.wpAnyU_take (i := 9) (oi := ⟨some 103, _, _, _, _, _⟩) (v := ?_) rfl (by kernel_rfl) (by kernel_rfl) (by kernel_rfl) (fun _ _ _ h => h) (Or.inl ⟨by rfl, ?_⟩) hH ?_
   rotate_left 1
   ·(intro w hSw; have q := hcl.out _ (hbr.out _ hSw); obtain ⟨q0, q1, q2, q3⟩ := q; go_simp) <;> with_reducible rfl
   try simp only [Act.put, List.setIfInBounds_toArray, List.set_cons_zero, List.set_cons_succ]
   refine Eqt.wpAnyU_pure (i := 10) (oi := ⟨some 104, _, _, _, _, _⟩) (v := .bool false) rfl (by kernel_rfl) (by kernel_rfl) (by kernel_rfl) (fun _ _ _ h => h) (Or.inl ⟨by rfl, ?_⟩) (fun _ => hH) ?_
   ·(intro w; go_simp)
   try simp only [Act.put, List.setIfInBounds_toArray, List.set_cons_zero, List.set_cons_succ]
   refine Eqt.wpAnyU_pure (i := 11) (oi := ⟨some 105, _, _, _, _, _⟩) (v := ?_) rfl (by kernel_rfl) (by kernel_rfl) (by kernel_rfl) (fun _ _ _ h => h) (Or.inl ⟨by rfl, ?_⟩) (fun _ => hH) ?_
   rotate_left 1
   ·(intro w; go_simp) <;> with_reducible rfl
   try simp only [Act.put, List.setIfInBounds_toArray, List.set_cons_zero, List.set_cons_succ]
   refine Eqt.wpAnyU_pure (i := 12) (oi := ⟨some 106, _, _, _, _, _⟩) (v := ?_) rfl (by kernel_rfl) (by kernel_rfl) (by kernel_rfl) (fun _ _ _ h => h) (Or.inl ⟨by rfl, ?_⟩) (fun _ => hH) ?_
   rotate_left 1
   ·(intro w; go_simp) <;> with_reducible rfl
   try simp only [Act.put, List.setIfInBounds_toArray, List.set_cons_zero, List.set_cons_succ]
   refine Eqt.wpAnyU_pure (i := 14) (oi := ⟨some 108, _, _, _, _, _⟩) (v := ?_) rfl (by kernel_rfl) (by kernel_rfl) (by kernel_rfl) (fun _ _ _ h => h) (Or.inl ⟨by rfl, ?_⟩) (fun _ => hH) ?_
   rotate_left 1
   ·(intro w; go_simp) <;> with_reducible rfl
   try simp only [Act.put, List.setIfInBounds_toArray, List.set_cons_zero, List.set_cons_succ]
   refine Eqt.wpAnyU_pure (i := 17) (oi := ⟨some 111, _, _, _, _, _⟩) (v := ?_) rfl (by kernel_rfl) (by kernel_rfl) (by kernel_rfl) (fun _ _ _ h => h) (Or.inl ⟨by rfl, ?_⟩) (fun _ => hH) ?_
   rotate_left 1
   ·(intro w; go_simp) <;> with_reducible rfl
   try simp only [Act.put, List.setIfInBounds_toArray, List.set_cons_zero, List.set_cons_succ]
   refine Eqt.wpAnyU_pure (i := 19) (oi := ⟨some 113, _, _, _, _, _⟩) (v := ?_) rfl (by kernel_rfl) (by kernel_rfl) (by kernel_rfl) (fun _ _ _ h => h) (Or.inl ⟨by rfl, ?_⟩) (fun _ => hH) ?_
   rotate_left 1
   ·(intro w; go_simp) <;> with_reducible rfl
   try simp only [Act.put, List.setIfInBounds_toArray, List.set_cons_zero, List.set_cons_succ]
   refine Eqt.wpAnyU_take (i := 13) (oi := ⟨some 107, _, _, _, _, _⟩) (v := ?_) rfl (by kernel_rfl) (by kernel_rfl) (by kernel_rfl) (fun _ _ _ h => h) (Or.inl ⟨by rfl, ?_⟩) hH ?_
   rotate_left 1
   ·(intro w hSw; have q := hbx.out _ (hbr0.out _ hSw); obtain ⟨q0, q1, q2, q3⟩ := q; go_simp) <;> with_reducible rfl
   try simp only [Act.put, List.setIfInBounds_toArray, List.set_cons_zero, List.set_cons_succ]
   refine Eqt.wpAnyU_pure (i := 15) (oi := ⟨some 109, _, _, _, _, _⟩) (v := ?_) rfl (by kernel_rfl) (by kernel_rfl) (by kernel_rfl) (fun _ _ _ h => h) (Or.inl ⟨by rfl, ?_⟩) (fun _ => hH) ?_
   rotate_left 1
   ·(intro w; go_simp) <;> with_reducible rfl
   try simp only [Act.put, List.setIfInBounds_toArray, List.set_cons_zero, List.set_cons_succ]
   refine Eqt.wpAnyU_take (i := 16) (oi := ⟨some 110, _, _, _, _, _⟩) (v := ?_) rfl (by kernel_rfl) (by kernel_rfl) (by kernel_rfl) (fun _ _ _ h => h) (Or.inl ⟨by rfl, ?_⟩) hH ?_
   rotate_left 1
   ·(intro w hSw; have q := hcl.out _ (hbr.out _ hSw); obtain ⟨q0, q1, q2, q3⟩ := q; go_simp) <;> with_reducible rfl
   try simp only [Act.put, List.setIfInBounds_toArray, List.set_cons_zero, List.set_cons_succ]
   refine Eqt.wpAnyU_take (i := 18) (oi := ⟨some 112, _, _, _, _, _⟩) (v := ?_) rfl (by kernel_rfl) (by kernel_rfl) (by kernel_rfl) (fun _ _ _ h => h) (Or.inl ⟨by rfl, ?_⟩) hH ?_
   rotate_left 1
   ·(intro w hSw; have q := hbx.out _ (hbr0.out _ hSw); obtain ⟨q0, q1, q2, q3⟩ := q; go_simp) <;> with_reducible rfl
   try simp only [Act.put, List.setIfInBounds_toArray, List.set_cons_zero, List.set_cons_succ]
   refine Eqt.wpAnyU_pure (i := 20) (oi := ⟨some 114, _, _, _, _, _⟩) (v := ?_) rfl (by kernel_rfl) (by kernel_rfl) (by kernel_rfl) (fun _ _ _ h => h) (Or.inl ⟨by rfl, ?_⟩) (fun _ => hH) ?_
   rotate_left 1
   ·(intro w; go_simp) <;> with_reducible rfl
   try simp only [Act.put, List.setIfInBounds_toArray, List.set_cons_zero, List.set_cons_succ]
   refine Eqt.wpAnyU_take (i := 21) (oi := ⟨some 115, _, _, _, _, _⟩) (v := ?_) rfl (by kernel_rfl) (by kernel_rfl) (by kernel_rfl) (fun _ _ _ h => h) (Or.inl ⟨by rfl, ?_⟩) hH ?_
   rotate_left 1
   ·(intro w hSw; have q := hcl.out _ (hbr.out _ hSw); obtain ⟨q0, q1, q2, q3⟩ := q; go_simp) <;> with_reducible rfl
   try simp only [Act.put, List.setIfInBounds_toArray, List.set_cons_zero, List.set_cons_succ]
   refine Eqt.wpAnyU_one 22 [18, 13, 9, 6, 4, 1] (o := ⟨some 116, _, _, _, _, _⟩) (by kernel_rfl) rfl (by kernel_rfl) (fun K hK => ?_)
   go_simp
   go_at_call 27
   (with_reducible refine (hsm.out _ (hbr.out _ hH)).mono ?_)
   rintro e w6 ⟨rfl, hb6⟩
   replace hH := below_next hH hb6
   refine hK.out _ _ (fun _ => hH) ?_
   clear hK K
   try simp only [Act.put, List.setIfInBounds_toArray, List.set_cons_zero, List.set_cons_succ]
   refine Eqt.wpAnyU_pure (i := 23) (oi := ⟨some 117, _, _, _, _, _⟩) (v := ?_) rfl (by kernel_rfl) (by kernel_rfl) (by kernel_rfl) (fun _ _ _ h => h) (Or.inl ⟨by rfl, ?_⟩) (fun _ => hH) ?_
   rotate_left 1
   ·(intro w; go_simp) <;> with_reducible rfl
   try simp only [Act.put, List.setIfInBounds_toArray, List.set_cons_zero, List.set_cons_succ]
   refine Eqt.wpAnyU_pure (i := 24) (oi := ⟨some 118, _, _, _, _, _⟩) (v := ?_) rfl (by kernel_rfl) (by kernel_rfl) (by kernel_rfl) (fun _ _ _ h => h) (Or.inl ⟨by rfl, ?_⟩) (fun _ => hH) ?_
   rotate_left 1
   ·(intro w; go_simp) <;> with_reducible rfl
   try simp only [Act.put, List.setIfInBounds_toArray, List.set_cons_zero, List.set_cons_succ]
   refine Eqt.wpAnyU_done (by kernel_rfl) ?_ _
   (try dsimp only [Act.put])
   clear d0 d1 d2 d3
   go_wp2
   go_roundw
   case rel => exact ⟨k + 1, by omega, by go_num, Lib.hid (hbr0.out _ hH)⟩
   case measure => simp [intOf]; omega
  ·obtain rfl : k = n := by omega
   clear hsame
   go_wp2
   go_ret
   exact ⟨rfl, below_next hb0.out hR.out⟩
end
theorem fr_old {Z : Zn} {ts : List TypeId} {a b : World} (h : Scn.Fr Z ts a b) : Rw.Fr 0 ts a b := ⟨h.os, h.tape, h.output, h.size, fun k hk hn => h.block k hk (.inr (hn.resolve_left (by omega)))⟩
theorem fr_base {Z : Zn} {ts : List TypeId} {a b : World} {B : Nat} (h : Scn.Fr Z ts a b) (hz : ∀ k, k < B → ¬ Z k) (hB : B ≤ a.heap.size) : Below B a b := ⟨h.os, h.tape, h.output, h.size, fun k hk => h.block k (by omega) (.inl (hz k hk))⟩
structure Kn (w wr : World) (d t : Nat) (T : Ter) : Prop where
 tv : TV (fun k => w.heap.size ≤ k) wr d t T
 ok : Ok T
 below : Below w.heap.size w wr
section
variable {w wr w' : World} {d t : Nat} {T T' : Ter} {x : AcT} {pa ia ta : Option Addr} {pn pc ic tn tc : Nat}
theorem Kn.on (h : Kn w wr d t T) (hb : Below wr.heap.size wr w') : Kn w w' d t T := ⟨h.tv.below hb, h.ok, below_next h.below hb⟩
theorem Kn.turn (h : Kn w wr d t T) (h1 : TV (fun k => w.heap.size ≤ k) w' d t T') (ho : Ok T') (hf : Scn.Fr (fun k => w.heap.size ≤ k) TT wr w') : Kn w w' d t T' := ⟨h1, ho, h.below.trans (fr_base hf (fun k hk => by omega) h.below.size)⟩
theorem Kn.kept (h : Kn w wr d t T) {b : Nat} {ty : TypeId} (ho : Only [b] wr w') (hb : Typ wr b ty) (hB : w.heap.size ≤ b) (h1 : ∀ x ∈ TT, x ∉ [ty]) (h2 : 30 ∉ [ty]) : Kn w w' d t T := by
 have hf : Scn.Fr (fun k => w.heap.size ≤ k) [ty] wr w' := Scn.Fr.of_only ho fun k hk _ => by
  obtain rfl : k = b := by simpa using hk
  exact ⟨hB, _, by simp, hb⟩
 obtain ⟨P, hP⟩ := h.tv.tm
 exact ⟨⟨Scn.Block.fr h.tv.blk hf (.inl h2), P, hP.kept hf h1 hP.low⟩, h.ok, h.below.trans (fr_base hf (fun k hk => by omega) h.below.size)⟩
theorem kn_do (h : Kn w wr d t T) (hw : Wf x) (hR : Roomy T x) (hp : NA (fun k => w.heap.size ≤ k) wr (.slice pa pn pc) x.params) (hra : RA (fun k => w.heap.size ≤ k) wr ia x.inter) : Calls Tryz.prog 9 #[.pointer (some ⟨d, 0, none⟩), .agg #[.int .u8 x.kind, .int .i32 x.r, .int .i32 x.priv, .slice pa pn pc, .slice ia x.inter.length ic, .int .i32 x.fin, .slice ta tn tc]] wr fun e w' => e = .returned (.int .i64 0) ∧ Kn w w' d t (doT T x) ∧ Rw.Fr 0 TT wr w' :=
 (tdo_any h.tv h.ok hw hR hp hra).mono fun _ _ ⟨he, h1, hf⟩ => ⟨he, h.turn h1 (gw_do h.ok x).ok hf, fr_old hf⟩
theorem na_nil (Z : Zn) (w : World) : NA Z w (.slice none 0 0) [] := ⟨none, 0, rfl, Nat.le_refl _, by simp [maxLen], fun n hn => by simp at hn, fun i y hy => by simp at hy⟩
theorem ra_nil (Z : Zn) (w : World) (ao : Option Addr) : RA Z w ao [] := fun i y hy => by simp at hy
theorem kn_print (h : Kn w wr d t T) (r : Int) (hr : (Lit.int .i32 r).wf = true) (hR : Roomy T (prA r)) : Calls Tryz.prog 9 #[.pointer (some ⟨d, 0, none⟩), .agg #[.int .u8 1, .int .i32 r, .int .i32 0, .slice none 0 0, .slice none 0 0, .int .i32 0, .slice none 0 0]] wr fun e w' => e = .returned (.int .i64 0) ∧ Kn w w' d t (doT T (prA r)) ∧ Rw.Fr 0 TT wr w' :=
 kn_do (x := prA r) h ⟨(by decide : (Lit.int .u8 1).wf = true), hr, (by decide : (Lit.int .i32 0).wf = true), fun n hn => by simp [prA] at hn⟩ hR (na_nil _ _) (ra_nil _ _ _)
theorem kn_csi (h : Kn w wr d t T) (pr : Int) (n f : Int) (hn : (Lit.int .i64 n).wf = true) (hf : (Lit.int .i32 f).wf = true) {g c : Nat} (hb : Block wr g 3 #[.int .i64 n]) (hc : 1 ≤ c ∧ c ≤ maxLen) (hR : Roomy T (csA pr [n] f)) : Calls Tryz.prog 9 #[.pointer (some ⟨d, 0, none⟩), .agg #[.int .u8 4, .int .i32 0, .int .i32 pr, .slice (some ⟨g, 0, none⟩) 1 c, .slice none 0 0, .int .i32 f, .slice none 0 0]] wr fun e w' => e = .returned (.int .i64 0) ∧ Kn w w' d t (doT T (csA pr [n] f)) ∧ Rw.Fr 0 TT wr w' := by
 refine kn_do (x := csA pr [n] f) h ⟨(by decide : (Lit.int .u8 4).wf = true), (by decide : (Lit.int .i32 0).wf = true), hf, fun n hn => by simp [csA] at hn⟩ hR ⟨some ⟨g, 0, none⟩, c, rfl, hc.1, hc.2, fun m hm => ?_, fun i y hy => ?_⟩ (ra_nil _ _ _)
 ·obtain rfl : m = n := by simpa [csA] using hm
  exact hn
 ·rcases i with _ | i
  ·obtain rfl : n = y := by simpa [csA] using hy
   refine ⟨_, rfl, ⟨hb.lt, .inr fun t' ht' hT => ?_⟩, ?_⟩
   ·have e := Typ.inj (Block.typ hb) hT
    rw [← e] at ht'
    revert ht'
    decide
   ·exact hb.cell 0 rfl
  ·simp [csA] at hy
theorem kn_grid (h : Kn w wr d t T) : Calls Tryz.prog 12 #[.pointer (some ⟨d, 0, none⟩)] wr fun e w' => ∃ cv iv rs, e = .returned (.agg (gridA cv iv (gridG T))) ∧ GridT w.heap.size w' T cv iv rs ∧ Below wr.heap.size wr w' ∧ Kn w w' d t T :=
 (tgrid_any h.tv h.ok).mono fun _ _ ⟨cv, iv, rs, he, hg, hb⟩ => ⟨cv, iv, rs, he, hg.lower h.below.size, hb, h.on hb⟩
theorem kn_prints (h : Kn w wr d t T) : Calls Tryz.prog 17 #[.pointer (some ⟨d, 0, none⟩)] wr fun e w' => e = .returned (.int .u64 T.prints) ∧ wr = w' := tprints_any h.tv
theorem kn_jour (h : Kn w wr d t T) : Calls Tryz.prog 15 #[.pointer (some ⟨d, 0, none⟩)] wr fun e w' => (∃ ao c, e = .returned (.slice ao T.jr.length c)) ∧ Kn w w' d t { T with jr := [] } ∧ Rw.Fr 0 TT wr w' :=
 (tjournal_any h.tv).mono fun _ _ ⟨he, h1, hf⟩ => ⟨he, h.turn h1 ⟨h.ok.fit, h.ok.fitm, h.ok.rows, h.ok.cols, h.ok.row, h.ok.col, h.ok.sv, h.ok.svm, h.ok.tn, h.ok.alt⟩ hf, fr_old hf⟩
theorem kn_repl (h : Kn w wr d t T) : Calls Tryz.prog 16 #[.pointer (some ⟨d, 0, none⟩)] wr fun e w' => (∃ v, e = .returned v ∧ Kys.Row w' 0 5 v T.rp) ∧ Kn w w' d t { T with rp := [] } ∧ Rw.Fr 0 TT wr w' :=
 (treplies_any h.tv).mono fun _ _ ⟨he, h1, hf⟩ => ⟨he, h.turn h1 ⟨h.ok.fit, h.ok.fitm, h.ok.rows, h.ok.cols, h.ok.row, h.ok.col, h.ok.sv, h.ok.svm, h.ok.tn, h.ok.alt⟩ hf, fr_old hf⟩
theorem ok_new (rows cols most : Nat) (hr1 : 1 ≤ rows) (hr5 : rows ≤ 512) (hc1 : 1 ≤ cols) (hc5 : cols ≤ 512) : Ok (newT rows cols most) := Ok.begin (Nat.le_refl 1) hr1 hr5 hc1 hc5
theorem kn_new (hT : Tbl w) (rows cols most : Nat) (hr1 : 1 ≤ rows) (hr5 : rows ≤ 512) (hc1 : 1 ≤ cols) (hc5 : cols ≤ 512) (hm : most ≤ 10000) : Calls Tryz.prog 18 #[.int .i64 rows, .int .i64 cols, .int .i64 most] w fun e w' => ∃ d t, e = .returned (.tuple #[.pointer (some ⟨d, 0, none⟩), .int .i64 0]) ∧ Kn w w' d t (newT rows cols most) ∧ Below w.heap.size w w' :=
 (tnew_yes hT rows cols most hr1 hr5 hc1 hc5 hm).mono fun _ _ ⟨d, t, he, _, hB, hTM, hb⟩ => ⟨d, t, he, ⟨⟨hB, hTM⟩, ok_new rows cols most hr1 hr5 hc1 hc5, hb⟩, hb⟩
theorem same_told {B B' : Nat} {w : World} {T1 T2 : Ter} {cv iv cv' iv' : Value} {rs rs' : List TRow} (h1 : GridT B w T1 cv iv rs) (h2 : GridT B' w T2 cv' iv' rs') (ok : Ok T1) (hL : T2.vis.L = T1.vis.L) (hc : T2.vis.cols = T1.vis.cols) (hg : gridG T2 = gridG T1) (h4 : ∀ p ∈ T1.vis.L, ∀ c ∈ p.2, c.m.length ≤ 4) :
  Calls Tryz.prog 11 #[.agg (gridA cv iv (gridG T1)), .agg (gridA cv' iv' (gridG T2))] w fun e w' => e = .returned (.bool true) ∧ Below w.heap.size w w' := by
 obtain ⟨r2, l2, g2⟩ := h2
 rw [hL, hc] at r2
 rw [hL] at l2 g2
 rw [hg]
 refine samegrid_any T1.c.row T1.c.col T1.c.pend (!T1.m.a5) T1.other.isNone T1.vis.top T1.vis.bot T1.p.a.f T1.p.a.b T1.p.a.g h1.rws r2 (by rw [h1.len, List.length_map]) (g2.trans h1.got.symm) ok.fit.c5 (by rw [h1.len]; exact ok.fit.len5) fun q hq => ?_
 have hm : q.2.map (·.1) ∈ T1.vis.L.map (·.2) := by
  rw [← h1.got]
  exact List.mem_map.2 ⟨q, hq, rfl⟩
 obtain ⟨p, hp, e⟩ := List.mem_map.1 hm
 have hw := ok.fit.wid p hp
 rw [e, List.length_map] at hw
 refine ⟨hw, fun x hx => h4 p hp x.1 ?_⟩
 rw [e]
 exact List.mem_map.2 ⟨x, hx, rfl⟩
end
end Go.Proofs.YtkjpjegmanpbfaaGreatDoor.Emu
