/-
  row: a row that is not there, or was not made.
-/
import Derived.Test.YtnnaagkdlmamjaaRKnow
namespace Go.Proofs.Ytnnaagkdlmamjaa.Rw
open Go Go.RowKit Go.Proofs.Ytnnaagkdlmamjaa.Com

/-- A row that is not there, or a zero one. -/
def NilRow (w : World) (p : Option Addr) : Prop := p = none ∨ ∃ d, p = some ⟨d, 0, none⟩ ∧ w.cell? ⟨d, 0, none⟩ = some (.slice none 0 0)
theorem NilRow.below {w w' : World} {p : Option Addr} (h : NilRow w p) (hb : Below w.heap.size w w') : NilRow w' p := by
  rcases h with h | ⟨d, h, hc⟩
  · exact .inl h
  · exact .inr ⟨d, h, (hb.cell (p := ⟨d, 0, none⟩) (World.block_lt_of_cell? _ _ hc)).trans hc⟩
theorem len_p {p : Option Addr} {w : World} (h : NilRow w p) : Calls Try.prog 27 #[.pointer p] w fun e w' => e = .returned (.int .i64 0) ∧ w = w' := by
  rcases h with rfl | ⟨d, rfl, hc⟩
  · exact len_nil w
  · exact len_zero hc
theorem cells_p {p : Option Addr} {w : World} (h : NilRow w p) : Calls Try.prog 17 #[.pointer p] w fun e w' => e = .returned (.slice none 0 0) ∧ w = w' := by
  rcases h with rfl | ⟨d, rfl, hc⟩
  · exact cells_nil w
  · exact cells_zero hc
theorem copy_p {p : Option Addr} {w : World} (h : NilRow w p) : Calls Try.prog 12 #[.pointer p] w fun e w' => e = .returned (.pointer none) ∧ w = w' := by
  rcases h with rfl | ⟨d, rfl, hc⟩
  · exact copy_nil w
  · exact copy_zero hc
theorem blank_p {p : Option Addr} {w : World} (h : NilRow w p) (x : Int) : Calls Try.prog 24 #[.pointer p, .int .i64 x] w fun e w' => e = .returned (.bool true) ∧ w = w' := by
  rcases h with rfl | ⟨d, rfl, hc⟩
  · exact blank_nil x w
  · exact blank_zero hc x
theorem cell_p {p : Option Addr} {w : World} (h : NilRow w p) (x : Int) : Calls Try.prog 25 #[.pointer p, .int .i64 x] w (CellNo w 1) := by
  rcases h with rfl | ⟨d, rfl, hc⟩
  · exact cell_nil x w
  · exact cell_zero hc x
theorem put_p {p : Option Addr} {w : World} (h : NilRow w p) (col x : Int) (wide : Bool) (a : At) : Calls Try.prog 14 #[.pointer p, .int .i64 col, .int .i32 x, .bool wide, .agg #[.int .u32 a.f, .int .u32 a.b, .int .u16 a.g]] w fun e w' => e = .returned (.int .i64 1) ∧ Below w.heap.size w w' := by
  obtain ⟨af, ab, ag⟩ := a
  have hl := Lib.hid (len_p (h.below (below_new w (.cells #[.int .u32 af, .int .u32 ab, .int .u16 ag] 34))))
  clear h
  go_enter Try.func14, Try.ntmps14
  go_wp2_with ((go_at_call 27; (with_reducible refine (hl.out).mono ?_); rintro e w' ⟨rfl, rfl⟩))
  go_ret
  exact ⟨rfl, below_new _ _⟩
theorem join_p {p : Option Addr} {w : World} (h : NilRow w p) (col x : Int) : Calls Try.prog 15 #[.pointer p, .int .i64 col, .int .i32 x] w fun e w' => e = .returned (.int .i64 1) ∧ Below w.heap.size w w' := by
  have hl := Lib.hid (len_p h)
  clear h
  go_enter Try.func15, Try.ntmps15
  go_wp2_with ((go_at_call 27; (with_reducible refine (hl.out).mono ?_); rintro e w' ⟨rfl, rfl⟩))
  go_ret
  exact ⟨rfl, Below.refl _ _⟩
theorem erase_p {p : Option Addr} {w : World} (h : NilRow w p) (col k : Int) (a : At) : Calls Try.prog 13 #[.pointer p, .int .i64 col, .int .i64 k, .agg #[.int .u32 a.f, .int .u32 a.b, .int .u16 a.g]] w fun e w' => e = .returned (.int .i64 1) ∧ Below w.heap.size w w' := by
  obtain ⟨af, ab, ag⟩ := a
  have hl := Lib.hid (len_p (h.below (below_new w (.cells #[.int .u32 af, .int .u32 ab, .int .u16 ag] 34))))
  clear h
  go_enter Try.func13, Try.ntmps13
  go_wp2_with ((go_at_call 27; (with_reducible refine (hl.out).mono ?_); rintro e w' ⟨rfl, rfl⟩))
  go_ret
  exact ⟨rfl, below_new _ _⟩
theorem insert_p {p : Option Addr} {w : World} (h : NilRow w p) (col k : Int) (a : At) : Calls Try.prog 19 #[.pointer p, .int .i64 col, .int .i64 k, .agg #[.int .u32 a.f, .int .u32 a.b, .int .u16 a.g]] w fun e w' => e = .returned (.int .i64 1) ∧ Below w.heap.size w w' := by
  obtain ⟨af, ab, ag⟩ := a
  have hl := Lib.hid (len_p (h.below (below_new w (.cells #[.int .u32 af, .int .u32 ab, .int .u16 ag] 34))))
  clear h
  go_enter Try.func19, Try.ntmps19
  go_wp2_with ((go_at_call 27; (with_reducible refine (hl.out).mono ?_); rintro e w' ⟨rfl, rfl⟩))
  go_ret
  exact ⟨rfl, below_new _ _⟩
theorem delete_p {p : Option Addr} {w : World} (h : NilRow w p) (col k : Int) (a : At) : Calls Try.prog 20 #[.pointer p, .int .i64 col, .int .i64 k, .agg #[.int .u32 a.f, .int .u32 a.b, .int .u16 a.g]] w fun e w' => e = .returned (.int .i64 1) ∧ Below w.heap.size w w' := by
  obtain ⟨af, ab, ag⟩ := a
  have hl := Lib.hid (len_p (h.below (below_new w (.cells #[.int .u32 af, .int .u32 ab, .int .u16 ag] 34))))
  clear h
  go_enter Try.func20, Try.ntmps20
  go_wp2_with ((go_at_call 27; (with_reducible refine (hl.out).mono ?_); rintro e w' ⟨rfl, rfl⟩))
  go_ret
  exact ⟨rfl, below_new _ _⟩
theorem resize_p {p : Option Addr} {w : World} (h : NilRow w p) (k : Int) : Calls Try.prog 26 #[.pointer p, .int .i64 k] w fun e w' => e = .returned (.int .i64 1) ∧ Below w.heap.size w w' := by
  have hl := Lib.hid (len_p h)
  clear h
  go_enter Try.func26, Try.ntmps26
  go_wp2_with ((go_at_call 27; (with_reducible refine (hl.out).mono ?_); rintro e w' ⟨rfl, rfl⟩))
  go_ret
  exact ⟨rfl, Below.refl _ _⟩

/-- A call that is told. -/
structure Opr where
  kind : Int
  col : Int
  n : Int
  r : Int
  wide : Bool
  a : At
def opV (o : Opr) : List Value := .int .i64 o.kind :: .int .i64 o.col :: .int .i64 o.n :: .int .i32 o.r :: .bool o.wide :: attV o.a
structure NSt (w0 w : World) (b dz : Nat) (o : Opr) : Prop where
  box : Block w b 36 (opV o).toArray
  zero : Block w dz 56 #[.slice none 0 0]
  below : Below w0.heap.size w0 w
theorem NSt.next {w0 w w' : World} {b dz : Nat} {o : Opr} (h : NSt w0 w b dz o) (hb : Below w.heap.size w w') : NSt w0 w' b dz o := ⟨h.box.only (Only.of_below hb []) (by simp), h.zero.only (Only.of_below hb []) (by simp), below_next h.below hb⟩
theorem NSt.nil {w0 w : World} {b dz : Nat} {o : Opr} (h : NSt w0 w b dz o) {p : Option Addr} (hp : p = none ∨ p = some ⟨dz, 0, none⟩) : NilRow w p := by
  rcases hp with hp | hp
  · exact .inl hp
  · exact .inr ⟨dz, hp, h.zero.cell 0 rfl⟩
theorem NSt.cells {w0 w : World} {b dz : Nat} {k c n r : Int} {wd : Bool} {f bb g : Int} (h : NSt w0 w b dz ⟨k, c, n, r, wd, ⟨f, bb, g⟩⟩) : w.cell? ⟨b, 1, none⟩ = some (.int .i64 c) ∧ w.cell? ⟨b, 2, none⟩ = some (.int .i64 n) ∧ w.cell? ⟨b, 3, none⟩ = some (.int .i32 r) ∧ w.cell? ⟨b, 4, none⟩ = some (.bool wd) ∧ w.cell? ⟨b, 5, none⟩ = some (.int .u32 f) ∧ w.cell? ⟨b, 6, none⟩ = some (.int .u32 bb) ∧ w.cell? ⟨b, 7, none⟩ = some (.int .u16 g) :=
  ⟨h.box.cell 1 rfl, h.box.cell 2 rfl, h.box.cell 3 rfl, h.box.cell 4 rfl, h.box.cell 5 rfl, h.box.cell 6 rfl, h.box.cell 7 rfl⟩
theorem two0 (v' : Option Addr) (w : World) : (Instr.index 57 (.agg #[.pointer none, .pointer v']) (.int .i64 0)).run Try.prog w = .ok (.pointer none) w := by kernel_rfl
theorem two1 (v' : Option Addr) (w : World) : (Instr.index 57 (.agg #[.pointer none, .pointer v']) (.int .i64 1)).run Try.prog w = .ok (.pointer v') w := by kernel_rfl

set_option maxRecDepth 100000 in
set_option maxHeartbeats 8000000 in
theorem lawNone (o : Opr) (w : World) : Calls Try.prog 6 #[.agg (opV o).toArray] w fun e w' => e = .returned (.bool true) ∧ Below w.heap.size w w' := by
  obtain ⟨ok, oc, on, or', ow, ⟨of', ob, og⟩⟩ := o
  have hO : (opV ⟨ok, oc, on, or', ow, ⟨of', ob, og⟩⟩).toArray = #[.int .i64 ok, .int .i64 oc, .int .i64 on, .int .i32 or', .bool ow, .int .u32 of', .int .u32 ob, .int .u16 og] := rfl
  have hb0 := Block.made w 36 (opV ⟨ok, oc, on, or', ow, ⟨of', ob, og⟩⟩).toArray
  have hz0 := Block.made (w.alloc (.cells (opV ⟨ok, oc, on, or', ow, ⟨of', ob, og⟩⟩).toArray 36)) 56 #[.slice none 0 0]
  have hN0 : NSt w ((w.alloc (.cells (opV ⟨ok, oc, on, or', ow, ⟨of', ob, og⟩⟩).toArray 36)).alloc (.cells #[.slice none 0 0] 56)) w.heap.size (w.heap.size + 1) ⟨ok, oc, on, or', ow, ⟨of', ob, og⟩⟩ :=
    ⟨hb0.alloc _, by simpa using hz0, ((Below.refl _ _).alloc (Nat.le_refl _) _).alloc (by simp) _⟩
  rw [hO] at hN0 ⊢
  clear hb0 hz0 hO
  replace hN0 := Lib.hid hN0
  go_enter Try.func6, Try.ntmps6
  go_wp2
  obtain ⟨dz, hdz⟩ : ∃ dz, dz = w.heap.size + 1 := ⟨_, rfl⟩
  obtain ⟨b, hb⟩ : ∃ b, b = w.heap.size := ⟨_, rfl⟩
  rw [← hdz, ← hb] at hN0
  rw [← hdz]
  rw [← hb]
  clear hdz
  replace hb := Lib.hid hb
  generalize (w.alloc (.cells #[.int .i64 ok, .int .i64 oc, .int .i64 on, .int .i32 or', .bool ow, .int .u32 of', .int .u32 ob, .int .u16 og] 36)).alloc (.cells #[.slice none 0 0] 56) = w0 at hN0 ⊢
  go_loopw [9] (fun i wr => ∃ k : Int, 0 ≤ k ∧ k ≤ 2 ∧ i = .int .i64 k ∧ Hid (NSt w wr b dz ⟨ok, oc, on, or', ow, ⟨of', ob, og⟩⟩)) (fun i _ => (2 - intOf i).toNat)
  case atStart => exact ⟨0, by omega, by omega, rfl, hN0⟩
  case round =>
    obtain ⟨k, hk0, hk2, rfl, hR⟩ := hrel
    have hR := hR.out
    clear hN0
    by_cases hlt : k < 2
    · obtain ⟨p, hp, hix⟩ : ∃ p, (p = none ∨ p = some ⟨dz, 0, none⟩) ∧ ∀ w, (Instr.index 57 (.agg #[.pointer none, .pointer (some ⟨dz, 0, none⟩)]) (.int .i64 k)).run Try.prog w = .ok (.pointer p) w := by
        have : k = 0 ∨ k = 1 := by omega
        rcases this with rfl | rfl
        · exact ⟨_, .inl rfl, two0 _⟩
        · exact ⟨_, .inr rfl, two1 _⟩
      obtain ⟨c1, c2, c3, c4, c5, c6, c7⟩ := hR.cells
      replace hp := Lib.hid hp
      replace hix := Lib.hid hix
      go_wp2_with (with_reducible show wpList _ _ _ (⟨some 11, .index _ _ _, _, _, _, _⟩ :: _) _ _; go_must (refine wpList_idx rfl hix.out (.tmp 8) (.tmp 9) rfl rfl rfl ?_))
      refine (cell_p (hR.nil hp.out) oc).mono ?_
      rintro e w1 ⟨rfl, hb1⟩
      have hR1 := hR.next hb1
      clear hb1 c1 c2 c3 c4 c5 c6 c7
      obtain ⟨c1, c2, c3, c4, c5, c6, c7⟩ := hR1.cells
      have hz1 := Lib.hid (fresh_api w1)
      go_wp2_with (first
        | (with_reducible show wpList _ _ _ (⟨none, .store _ (.tmp 6) _, _, _, _, _⟩ :: _) _ _; go_must (refine wpList_storeN rfl 48 (.tmp 6) (.tmp 17) rfl (g := w1.heap.size) (i := 0) hz1.out (apiC zeroCel (.slice none 0 0)) rfl rfl (by decide) (info48' _ _) (apiC_one rfl) ?_); intro w2 hr2 ho2; have hs2 := stored_api hr2.out; have e0 : w2.cell? ⟨w1.heap.size, 0, none⟩ = some (.int .i32 0) := hs2.cell 0 rfl; have e1 : w2.cell? ⟨w1.heap.size, 1, none⟩ = some (.slice none 0 0) := hs2.cell 1 rfl; have hR2 := hR1.next (below_fresh ho2); clear c1 c2 c3 c4 c5 c6 c7; obtain ⟨c1, c2, c3, c4, c5, c6, c7⟩ := hR2.cells))
      clear hs2 e0 e1 hr2 ho2 hR1 hz1
      refine (put_p (hR2.nil hp.out) oc or' ow ⟨of', ob, og⟩).mono ?_
      rintro e w3 ⟨rfl, hb3⟩
      have hR3 := hR2.next hb3
      clear hb3 c1 c2 c3 c4 c5 c6 c7 hR2
      obtain ⟨c1, c2, c3, c4, c5, c6, c7⟩ := hR3.cells
      go_wp2_with fail
      refine (join_p (hR3.nil hp.out) oc or').mono ?_
      rintro e w4 ⟨rfl, hb4⟩
      have hR4 := hR3.next hb4
      clear hb4 c1 c2 c3 c4 c5 c6 c7 hR3
      obtain ⟨c1, c2, c3, c4, c5, c6, c7⟩ := hR4.cells
      go_wp2_with fail
      refine (erase_p (hR4.nil hp.out) oc on ⟨of', ob, og⟩).mono ?_
      rintro e w5 ⟨rfl, hb5⟩
      have hR5 := hR4.next hb5
      clear hb5 c1 c2 c3 c4 c5 c6 c7 hR4
      obtain ⟨c1, c2, c3, c4, c5, c6, c7⟩ := hR5.cells
      go_wp2_with fail
      refine (insert_p (hR5.nil hp.out) oc on ⟨of', ob, og⟩).mono ?_
      rintro e w6 ⟨rfl, hb6⟩
      have hR6 := hR5.next hb6
      clear hb6 c1 c2 c3 c4 c5 c6 c7 hR5
      obtain ⟨c1, c2, c3, c4, c5, c6, c7⟩ := hR6.cells
      go_wp2_with fail
      refine (delete_p (hR6.nil hp.out) oc on ⟨of', ob, og⟩).mono ?_
      rintro e w7 ⟨rfl, hb7⟩
      have hR7 := hR6.next hb7
      clear hb7 c1 c2 c3 c4 c5 c6 c7 hR6
      obtain ⟨c1, c2, c3, c4, c5, c6, c7⟩ := hR7.cells
      go_wp2_with fail
      refine (resize_p (hR7.nil hp.out) on).mono ?_
      rintro e w8 ⟨rfl, hb8⟩
      have hR8 := hR7.next hb8
      clear hb8 c1 c2 c3 c4 c5 c6 c7 hR7
      obtain ⟨c1, c2, c3, c4, c5, c6, c7⟩ := hR8.cells
      go_wp2_with fail
      refine (blank_p (hR8.nil hp.out) oc).mono ?_
      rintro e w9 ⟨rfl, rfl⟩
      go_wp2_with fail
      refine (len_p (hR8.nil hp.out)).mono ?_
      rintro e w9 ⟨rfl, rfl⟩
      go_wp2_with fail
      refine (cells_p (hR8.nil hp.out)).mono ?_
      rintro e w9 ⟨rfl, rfl⟩
      go_wp2_with fail
      refine (copy_p (hR8.nil hp.out)).mono ?_
      rintro e w9 ⟨rfl, rfl⟩
      go_wp2_with fail
      replace hR8 := Lib.hid hR8
      go_roundw
      case rel => exact ⟨k + 1, by omega, by omega, rfl, hR8⟩
      case measure => simp [intOf]; omega
    · have hkn := Lib.hid (known_any wr)
      go_wp2_with ((go_at_call 9; (with_reducible refine (hkn.out).mono ?_); rintro e w1 ⟨rfl, hb1⟩))
      go_ret
      exact ⟨rfl, below_next hR.below hb1⟩
end Go.Proofs.Ytnnaagkdlmamjaa.Rw
