/-
  sgr: Numbers, and the reference's.
-/
import Derived.Test.YtlpihhjdgipgnaaDoorSApplies
import Derived.Test.YtlpihhjdgipgnaaDoorSTMath
namespace Go.Proofs.YtlpihhjdgipgnaaDoor.Sgr
open Go Go.RowKit Go.Proofs.YtlpihhjdgipgnaaDoor.Com

theorem wrap_byte {x y : Int} (h : x = y) (h0 : 0 ≤ y) (h1 : y < 256) : wrap64 x = y := by rw [h]; exact IntWalk.wrap64_in _ (by omega)
theorem part0 (c : Int) (h0 : 0 ≤ c) (h1 : c ≤ 4294967295) (w : World) :
    Calls Tryd.prog 31 #[.int .u32 c, .int .i64 0] w fun e w' => e = .returned (.int .i64 (c % 256)) ∧ w = w' := by
  have hE := Lib.hid (and_255 (c := c) (by omega) (by omega))
  go_enter Tryd.func31, Tryd.ntmps31
  go_wp2
  go_ret
  exact ⟨ret_int (wrap_byte hE.out (by omega) (by omega)), rfl⟩
theorem part8 (c : Int) (h0 : 0 ≤ c) (h1 : c ≤ 4294967295) (w : World) :
    Calls Tryd.prog 31 #[.int .u32 c, .int .i64 8] w fun e w' => e = .returned (.int .i64 (c / 256 % 256)) ∧ w = w' := by
  have hE := Lib.hid (and_255 (c := c / 256) (by omega) (by omega))
  go_enter Tryd.func31, Tryd.ntmps31
  go_wp2
  go_ret
  exact ⟨ret_int (wrap_byte hE.out (by omega) (by omega)), rfl⟩
theorem part16 (c : Int) (h0 : 0 ≤ c) (h1 : c ≤ 4294967295) (w : World) :
    Calls Tryd.prog 31 #[.int .u32 c, .int .i64 16] w fun e w' => e = .returned (.int .i64 (c / 65536 % 256)) ∧ w = w' := by
  have hE := Lib.hid (and_255 (c := c / 65536) (by omega) (by omega))
  go_enter Tryd.func31, Tryd.ntmps31
  go_wp2
  go_ret
  exact ⟨ret_int (wrap_byte hE.out (by omega) (by omega)), rfl⟩

/-- Numbers in a row of the call's own. -/
def Row (w : World) (l : List Int) (e : Ending) (w' : World) : Prop := ∃ v, e = .returned v ∧ Own w' w.heap.size 3 .i64 v l ∧ Below w.heap.size w w'
theorem row_slot {w w' : World} {l : List Int} {v : Value} {L : List Int} (h : Own w' w.heap.size 3 .i64 v l) (e : l = L) (hb : Below w.heap.size w w') : Row w L (.returned v) w' := by
  subst e
  exact ⟨v, rfl, h, hb⟩
theorem lit_row (w w1 : World) (hb : Below w.heap.size w w1) (l : List Int) (hl : l.length ≤ 5) : Own (w1.alloc (.cells (l.map (Value.int .i64)).toArray 3)) w.heap.size 3 .i64 (.slice (some ⟨w1.heap.size, 0, none⟩) l.length l.length) l ∧ Below w.heap.size w (w1.alloc (.cells (l.map (Value.int .i64)).toArray 3)) :=
  ⟨Own.lit w1 w.heap.size _ _ l hb.size (by simp [maxLen]; omega), below_next hb (below_new _ _)⟩
theorem lit_row1 (w : World) (o : Obj) (l : List Int) (hl : l.length ≤ 5) : Own ((w.alloc o).alloc (.cells (l.map (Value.int .i64)).toArray 3)) w.heap.size 3 .i64 (.slice (some ⟨w.heap.size + 1, 0, none⟩) l.length l.length) l ∧ Below w.heap.size w ((w.alloc o).alloc (.cells (l.map (Value.int .i64)).toArray 3)) := by
  have h := lit_row w (w.alloc o) (below_new _ _) l hl
  rw [World.size_alloc] at h
  exact h
theorem lit_row2 (w : World) (o : Obj) (l : List Int) (hl : l.length ≤ 5) : Own ((w.alloc o).alloc (.cells (l.map (Value.int .i64)).toArray 3)).drew w.heap.size 3 .i64 (.slice (some ⟨w.heap.size + 1, 0, none⟩) l.length l.length) l ∧ Below w.heap.size w ((w.alloc o).alloc (.cells (l.map (Value.int .i64)).toArray 3)).drew :=
  ⟨(lit_row1 w o l hl).1.only (only_drew [] _) (by simp), below_dr (lit_row1 w o l hl).2 1⟩
theorem num_zero (u b fo : Int) : numF u b fo 0 = [] := if_pos rfl
theorem num_rgb {u b fo c : Int} (h : 16777216 ≤ c) : numF u b fo c = [fo, 2, c / 65536 % 256, c / 256 % 256, c % 256] := by unfold numF; rw [if_neg (by omega), if_pos h]
theorem num_usual {u b fo c : Int} (h0 : 1 ≤ c) (h : c ≤ 8) : numF u b fo c = [u + (c - 1)] := by unfold numF; rw [if_neg (by omega), if_neg (by omega), if_pos h]
theorem num_bright {u b fo c : Int} (h0 : 9 ≤ c) (h : c ≤ 16) : numF u b fo c = [b + (c - 1)] := by unfold numF; rw [if_neg (by omega), if_neg (by omega), if_neg (by omega), if_pos h]
theorem num_more {u b fo c : Int} (h0 : 17 ≤ c) (h : c < 16777216) : numF u b fo c = [fo, 5, c - 1] := by unfold numF; rw [if_neg (by omega), if_neg (by omega), if_neg (by omega), if_neg (by omega)]

set_option maxHeartbeats 2000000 in
theorem nums_any (u b fo no c : Int) (hu : 0 ≤ u ∧ u ≤ 1000) (hbb : 0 ≤ b ∧ b ≤ 1000) (h0 : 0 ≤ c) (hc : colF c = true) (w : World) :
    Calls Tryd.prog 23 #[.agg #[.int .i64 u, .int .i64 b, .int .i64 fo, .int .i64 no], .int .u32 c] w (Row w (numF u b fo c)) := by
  have hcol := of_col hc
  have h25 : c < 33554432 := by omega
  have hbit := and_bit_int h0 h25
  have hb0 := Lib.hid (below_new w (.cells #[.int .i64 u, .int .i64 b, .int .i64 fo, .int .i64 no] 51))
  obtain ⟨u0, u1⟩ := hu
  obtain ⟨b0, b1⟩ := hbb
  by_cases z : c = 0
  · subst z
    clear hbit
    go_enter Tryd.func23, Tryd.ntmps23
    go_wp2
    go_ret
    exact row_slot (Own.nil _ _ _ _) (num_zero _ _ _).symm hb0.out
  have z' : (c == 0) = false := by simpa using z
  by_cases hr : 16777216 ≤ c
  · rw [decide_eq_true hr] at hbit
    have hE := Lib.hid (num_rgb (u := u) (b := b) (fo := fo) hr)
    have p0 := Lib.hid (fun w' => part0 c h0 (by omega) w')
    have p8 := Lib.hid (fun w' => part8 c h0 (by omega) w')
    have p16 := Lib.hid (fun w' => part16 c h0 (by omega) w')
    have q2 : (w.alloc (.cells #[.int .i64 u, .int .i64 b, .int .i64 fo, .int .i64 no] 51)).cell? ⟨w.heap.size, 2, none⟩ = some (.int .i64 fo) := by
      have := (Block.made w 51 #[.int .i64 u, .int .i64 b, .int .i64 fo, .int .i64 no]).cell 2 rfl
      exact this
    go_enter Tryd.func23, Tryd.ntmps23
    go_wp2_with fail
    go_region_held3 (fun w' => w'.cell? ⟨w.heap.size, 2, none⟩ = some (.int .i64 fo))
      (first | exact q2 | go_keep)
      (first
        | (go_at_call 31; with_reducible refine (p16.out _).mono ?_; rintro e w' ⟨rfl, rfl⟩)
        | (go_at_call 31; with_reducible refine (p8.out _).mono ?_; rintro e w' ⟨rfl, rfl⟩)
        | (go_at_call 31; with_reducible refine (p0.out _).mono ?_; rintro e w' ⟨rfl, rfl⟩))
    go_wp2
    go_ret
    exact row_slot (lit_row2 w _ [fo, 2, c / 65536 % 256, c / 256 % 256, c % 256] (by simp)).1 hE.out.symm (lit_row2 w _ [fo, 2, c / 65536 % 256, c / 256 % 256, c % 256] (by simp)).2
  rw [decide_eq_false hr] at hbit
  by_cases h8 : c ≤ 8
  · have hE := Lib.hid (num_usual (u := u) (b := b) (fo := fo) (by omega) h8)
    clear hcol
    go_enter Tryd.func23, Tryd.ntmps23
    go_wp2
    go_ret
    exact row_slot (lit_row1 w _ [u + (c - 1)] (by simp)).1 hE.out.symm (lit_row1 w _ [u + (c - 1)] (by simp)).2
  by_cases h16 : c ≤ 16
  · have hE := Lib.hid (num_bright (u := u) (b := b) (fo := fo) (by omega) h16)
    clear hcol
    go_enter Tryd.func23, Tryd.ntmps23
    go_wp2
    go_ret
    exact row_slot (lit_row1 w _ [b + (c - 1)] (by simp)).1 hE.out.symm (lit_row1 w _ [b + (c - 1)] (by simp)).2
  · have hE := Lib.hid (num_more (u := u) (b := b) (fo := fo) (c := c) (by omega) (by omega))
    clear hcol
    go_enter Tryd.func23, Tryd.ntmps23
    go_wp2
    go_ret
    exact row_slot (lit_row1 w _ [fo, 5, c - 1] (by simp)).1 hE.out.symm (lit_row1 w _ [fo, 5, c - 1] (by simp)).2

set_option maxHeartbeats 2000000 in
theorem rnums_any (c gr : Int) (hg : 0 ≤ gr ∧ gr ≤ 1000) (h0 : 0 ≤ c) (hc : colF c = true) (w : World) :
    Calls Tryd.prog 25 #[.int .u32 c, .int .i64 gr] w (Row w (numF (30 + gr) (82 + gr) (38 + gr) c)) := by
  have hcol := of_col hc
  have h25 : c < 33554432 := by omega
  obtain ⟨u0, u1⟩ := hg
  by_cases z : c = 0
  · subst z
    go_enter Tryd.func25, Tryd.ntmps25
    go_wp2
    go_ret
    exact row_slot (Own.nil _ _ _ _) (num_zero _ _ _).symm (Below.refl _ _)
  have z' : (c == 0) = false := by simpa using z
  by_cases h8 : c ≤ 8
  · have hE := Lib.hid (num_usual (u := 30 + gr) (b := 82 + gr) (fo := 38 + gr) (by omega) h8)
    clear hcol
    go_enter Tryd.func25, Tryd.ntmps25
    go_wp2
    go_ret
    exact row_slot (lit_row w _ (Below.refl _ _) [29 + gr + c] (by simp)).1 (by rw [hE.out]; simp; omega) (lit_row w _ (Below.refl _ _) [29 + gr + c] (by simp)).2
  by_cases h16 : c ≤ 16
  · have hE := Lib.hid (num_bright (u := 30 + gr) (b := 82 + gr) (fo := 38 + gr) (by omega) h16)
    clear hcol
    go_enter Tryd.func25, Tryd.ntmps25
    go_wp2
    go_ret
    exact row_slot (lit_row w _ (Below.refl _ _) [81 + gr + c] (by simp)).1 (by rw [hE.out]; simp; omega) (lit_row w _ (Below.refl _ _) [81 + gr + c] (by simp)).2
  by_cases h256 : c ≤ 256
  · have hE := Lib.hid (num_more (u := 30 + gr) (b := 82 + gr) (fo := 38 + gr) (c := c) (by omega) (by omega))
    clear hcol
    go_enter Tryd.func25, Tryd.ntmps25
    go_wp2
    go_ret
    exact row_slot (lit_row w _ (Below.refl _ _) [38 + gr, 5, c - 1] (by simp)).1 hE.out.symm (lit_row w _ (Below.refl _ _) [38 + gr, 5, c - 1] (by simp)).2
  · have hr : 16777216 ≤ c := by omega
    have hE := Lib.hid (num_rgb (u := 30 + gr) (b := 82 + gr) (fo := 38 + gr) hr)
    clear hcol
    go_enter Tryd.func25, Tryd.ntmps25
    go_wp2
    go_ret
    exact row_slot (lit_row w _ (Below.refl _ _) [38 + gr, 2, (c - 16777216) / 65536, (c - 16777216) / 256 % 256, (c - 16777216) % 256] (by simp)).1 (by rw [hE.out]; simp; omega) (lit_row w _ (Below.refl _ _) [38 + gr, 2, (c - 16777216) / 65536, (c - 16777216) / 256 % 256, (c - 16777216) % 256] (by simp)).2

end Go.Proofs.YtlpihhjdgipgnaaDoor.Sgr
