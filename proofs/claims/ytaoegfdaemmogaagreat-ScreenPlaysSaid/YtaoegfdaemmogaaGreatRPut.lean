/-
  row: Put.
-/
import Derived.Test.YtaoegfdaemmogaaGreatRClr
namespace Go.Proofs.YtaoegfdaemmogaaGreat.Rw
open Go Go.RowKit Go.Proofs.YtaoegfdaemmogaaGreat.Com

/-- What a call leaves that tells v and turns the row. -/
def OpDone (w : World) (d g n cap : Nat) (tail : List Value) (l : List Cel) (v : Value) (e : Ending) (w' : World) : Prop := e = .returned v ∧ RowX w' d g n cap tail l ∧ Only [g] w w'
/-- As a walk meets a row: what it asks of a world that is like the first one but for new blocks. -/
structure Like (w : World) (d g n cap : Nat) (tail : List Value) (l : List Cel) (w1 : World) : Prop where
  row : RowX w1 d g n cap tail l
  below : Below w.heap.size w w1
theorem RowX.like {w : World} {d g n cap : Nat} {tail : List Value} {l : List Cel} (h : RowX w d g n cap tail l) : Like w d g n cap tail l w := ⟨h, Below.refl _ _⟩
theorem Like.next {w w1 w2 : World} {d g n cap : Nat} {tail : List Value} {l : List Cel} (h : Like w d g n cap tail l w1) (hb : Below w1.heap.size w1 w2) : Like w d g n cap tail l w2 := ⟨h.row.below hb, below_next h.below hb⟩
theorem Like.stays {w w1 : World} {d g n cap : Nat} {tail : List Value} {l : List Cel} (h : Like w d g n cap tail l w1) : RowX w1 d g n cap tail l ∧ Only [g] w w1 := ⟨h.row, Only.of_below h.below _⟩
theorem Like.turned {w w1 w2 : World} {d g n cap : Nat} {tail : List Value} {l l' : List Cel} (h : Like w d g n cap tail l w1) (hr : RowX w2 d g n cap tail l') (ho : Only [g] w1 w2) : RowX w2 d g n cap tail l' ∧ Only [g] w w2 := ⟨hr, (Only.of_below h.below _).trans ho⟩

section
variable {w : World} {d g n cap : Nat} {tail : List Value} {l : List Cel}
theorem like_box (h : RowX w d g n cap tail l) (a b c : Int) : Like w d g n cap tail l (w.alloc (.cells #[.int .u32 a, .int .u32 b, .int .u16 c] 37)) := h.like.next (below_new _ _)

set_option maxHeartbeats 2000000 in
theorem put_no (h : RowX w d g n cap tail l) (col x : Int) (hc : -9223372036854775808 ≤ col ∧ col ≤ 9223372036854775807) (wide : Bool) (a : At) (hno : runeB x = false ∨ col < 0 ∨ (n : Int) ≤ col ∨ (wide = true ∧ (n : Int) ≤ col + 1)) :
    Calls Tryz.prog 33 #[.pointer (some ⟨d, 0, none⟩), .int .i64 col, .int .i32 x, .bool wide, .agg #[.int .u32 a.f, .int .u32 a.b, .int .u16 a.g]] w (OpDone w d g n cap tail l (.int .i64 2)) := by
  obtain ⟨af, ab, ag⟩ := a
  have hn := h.pos
  have hn5 := h.small
  have hn0 : ((n : Int) == 0) = false := beq_eq_false_iff_ne.2 (by omega)
  have hL := like_box h af ab ag
  have hlen := Lib.hid (len_any hL.row)
  have hyes := Lib.hid (fun j h0 h1 => has_yes hL.row j h0 h1)
  have hnot := Lib.hid (fun j h0 => has_no hL.row j h0)
  have hres := Lib.hid hL.stays
  have hmp := mayPut_any x
  simp only
  by_cases h1 : runeB x = false
  · rw [h1] at hmp
    replace hmp := Lib.hid hmp
    clear hL h hno h1
    go_enter Tryz.func33, Tryz.ntmps33
    go_wp2_with (first | (go_at_call 66; (with_reducible refine (hlen.out).mono ?_); rintro e w' ⟨rfl, rfl⟩) | (go_at_call 67; (with_reducible refine (hmp.out _).mono ?_); rintro e w' ⟨rfl, rfl⟩))
    go_ret
    exact ⟨rfl, hres.out⟩
  have h1 : runeB x = true := by simpa using h1
  rw [h1] at hmp
  replace hmp := Lib.hid hmp
  by_cases h2 : col < 0 ∨ (n : Int) ≤ col
  · replace h2 := Lib.hid h2
    clear hL h hno h1
    go_enter Tryz.func33, Tryz.ntmps33
    go_wp2_with (first | (go_at_call 66; (with_reducible refine (hlen.out).mono ?_); rintro e w' ⟨rfl, rfl⟩) | (go_at_call 67; (with_reducible refine (hmp.out _).mono ?_); rintro e w' ⟨rfl, rfl⟩) | (go_at_call 68; (with_reducible refine (hnot.out _ h2.out).mono ?_); rintro e w' ⟨rfl, rfl⟩))
    go_ret
    exact ⟨rfl, hres.out⟩
  · obtain ⟨hw, h3⟩ : wide = true ∧ (n : Int) ≤ col + 1 := by
      rcases hno with hh | hh | hh | hh
      · simp [h1] at hh
      · omega
      · omega
      · exact hh
    subst hw
    have h4 : 0 ≤ col := by omega
    have h5 : col < n := by omega
    clear hL h hno h1 h2
    go_enter Tryz.func33, Tryz.ntmps33
    go_wp2_with (first | (go_at_call 66; (with_reducible refine (hlen.out).mono ?_); rintro e w' ⟨rfl, rfl⟩) | (go_at_call 67; (with_reducible refine (hmp.out _).mono ?_); rintro e w' ⟨rfl, rfl⟩))
    with_reducible refine (hyes.out _ h4 h5).mono ?_
    rintro e w1 ⟨rfl, rfl⟩
    go_wp2_with fail
    with_reducible refine (hnot.out _ (Or.inr h3)).mono ?_
    rintro e w1 ⟨rfl, rfl⟩
    go_wp2_with fail
    go_ret
    exact ⟨rfl, hres.out⟩

set_option maxHeartbeats 2000000 in
theorem put_yes (h : RowX w d g n cap tail l) (hwh : Whole l) (col : Nat) (x : Int) (wide : Bool) (a : At) (h1 : runeB x = true) (h2 : col + (cellsPut x wide a).length ≤ n) :
    Calls Tryz.prog 33 #[.pointer (some ⟨d, 0, none⟩), .int .i64 col, .int .i32 x, .bool wide, .agg #[.int .u32 a.f, .int .u32 a.b, .int .u16 a.g]] w (OpDone w d g n cap tail (setL l col (cellsPut x wide a)) (.int .i64 0)) := by
  obtain ⟨af, ab, ag⟩ := a
  have hn := h.pos
  have hn5 := h.small
  have hn0 : ((n : Int) == 0) = false := beq_eq_false_iff_ne.2 (by omega)
  have hL := like_box h af ab ag
  have hlen := Lib.hid (len_any hL.row)
  have hyes := Lib.hid (fun j h0 h1 => has_yes hL.row j h0 h1)
  have hmp := mayPut_any x
  rw [h1] at hmp
  replace hmp := Lib.hid hmp
  simp only
  cases wide
  · have h3 : col + 1 ≤ n := by simpa [cellsPut] using h2
    have hset := fun w1 (hb : Below (w.alloc (.cells #[.int .u32 af, .int .u32 ab, .int .u16 ag] 37)).heap.size (w.alloc (.cells #[.int .u32 af, .int .u32 ab, .int .u16 ag] 37)) w1) hs => set_any (hL.row.below hb) hwh col (cellsPut x false ⟨af, ab, ag⟩) h2 (some ⟨w.heap.size + 1, 0, none⟩) 1 hs
    have hblk := Block.made (w.alloc (.cells #[.int .u32 af, .int .u32 ab, .int .u16 ag] 37)) 114 (fl cellC (cellsPut x false ⟨af, ab, ag⟩)).toArray
    have e1 : (fl cellC (cellsPut x false ⟨af, ab, ag⟩)).toArray = #[.int .i32 x, .int .i32 0, .int .i32 0, .int .i32 0, .int .i32 0, .int .u8 0, .int .u8 0, .int .u32 af, .int .u32 ab, .int .u16 ag] := by simp [fl, cellsPut, cellC, pad4, attV]
    have hfin := fun w1 w2 (hb : Below (w.alloc (.cells #[.int .u32 af, .int .u32 ab, .int .u16 ag] 37)).heap.size (w.alloc (.cells #[.int .u32 af, .int .u32 ab, .int .u16 ag] 37)) w1) (hr : RowX w2 d g n cap tail (setL l col (cellsPut x false ⟨af, ab, ag⟩))) (ho : Only [g] w1 w2) => (hL.next hb).turned hr ho
    have hlen1 : (cellsPut x false ⟨af, ab, ag⟩).length = 1 := rfl
    have hs0 := hset _ (below_new _ _) (fun _ => ⟨_, rfl, fun j v hj => by
      rw [Addr.add_lit, Nat.zero_add]
      exact Block.cell (by simpa using hblk) j (by simpa using hj)⟩)
    rw [e1, hlen1] at hs0
    clear hset hblk e1
    replace hs0 := Lib.hid hs0
    replace hfin := Lib.hid hfin
    clear hL h h1 h2
    go_enter Tryz.func33, Tryz.ntmps33
    go_wp2_with (first
      | (go_at_call 66; (with_reducible refine (hlen.out).mono ?_); rintro e w' ⟨rfl, rfl⟩)
      | (go_at_call 67; (with_reducible refine (hmp.out _).mono ?_); rintro e w' ⟨rfl, rfl⟩)
      | (go_at_call 68; (with_reducible refine (hyes.out _ (by omega) (by omega)).mono ?_); rintro e w' ⟨rfl, rfl⟩)
      | (go_at_call 69; (with_reducible refine (hs0.out).mono ?_); rintro e w2 ⟨⟨v2, rfl⟩, hR2, ho2⟩))
    go_ret
    exact ⟨rfl, hfin.out _ _ (below_new _ _) hR2 ho2⟩
  · have h3 : col + 1 < n := by simp [cellsPut] at h2; omega
    have hset := fun w1 (hb : Below (w.alloc (.cells #[.int .u32 af, .int .u32 ab, .int .u16 ag] 37)).heap.size (w.alloc (.cells #[.int .u32 af, .int .u32 ab, .int .u16 ag] 37)) w1) hs => set_any (hL.row.below hb) hwh col (cellsPut x true ⟨af, ab, ag⟩) h2 (some ⟨w.heap.size + 1, 0, none⟩) 2 hs
    have hblk := Block.made (w.alloc (.cells #[.int .u32 af, .int .u32 ab, .int .u16 ag] 37)) 114 (fl cellC (cellsPut x true ⟨af, ab, ag⟩)).toArray
    have e1 : (fl cellC (cellsPut x true ⟨af, ab, ag⟩)).toArray = #[.int .i32 x, .int .i32 0, .int .i32 0, .int .i32 0, .int .i32 0, .int .u8 0, .int .u8 1, .int .u32 af, .int .u32 ab, .int .u16 ag, .int .i32 0, .int .i32 0, .int .i32 0, .int .i32 0, .int .i32 0, .int .u8 0, .int .u8 2, .int .u32 af, .int .u32 ab, .int .u16 ag] := by simp [fl, cellsPut, cellC, pad4, attV]
    have hfin := fun w1 w2 (hb : Below (w.alloc (.cells #[.int .u32 af, .int .u32 ab, .int .u16 ag] 37)).heap.size (w.alloc (.cells #[.int .u32 af, .int .u32 ab, .int .u16 ag] 37)) w1) (hr : RowX w2 d g n cap tail (setL l col (cellsPut x true ⟨af, ab, ag⟩))) (ho : Only [g] w1 w2) => (hL.next hb).turned hr ho
    have hlen1 : (cellsPut x true ⟨af, ab, ag⟩).length = 2 := rfl
    have hs0 := hset _ (below_new _ _) (fun _ => ⟨_, rfl, fun j v hj => by
      rw [Addr.add_lit, Nat.zero_add]
      exact Block.cell (by simpa using hblk) j (by simpa using hj)⟩)
    rw [e1, hlen1] at hs0
    clear hset hblk e1
    replace hs0 := Lib.hid hs0
    replace hfin := Lib.hid hfin
    clear hL h h1 h2
    go_enter Tryz.func33, Tryz.ntmps33
    go_wp2_with (first
      | (go_at_call 66; (with_reducible refine (hlen.out).mono ?_); rintro e w' ⟨rfl, rfl⟩)
      | (go_at_call 67; (with_reducible refine (hmp.out _).mono ?_); rintro e w' ⟨rfl, rfl⟩)
      | (go_at_call 68; (with_reducible refine (hyes.out _ (by omega) (by omega)).mono ?_); rintro e w' ⟨rfl, rfl⟩)
      | (go_at_call 69; (with_reducible refine (hs0.out).mono ?_); rintro e w2 ⟨⟨v2, rfl⟩, hR2, ho2⟩))
    go_ret
    exact ⟨rfl, hfin.out _ _ (below_new _ _) hR2 ho2⟩
end
end Go.Proofs.YtaoegfdaemmogaaGreat.Rw
