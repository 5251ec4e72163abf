/-
  screen: a screen that is not there, or was not made; ScreenNone.
-/
import Derived.Test.YtaoegfdaemmogaaNKn0
import Derived.Test.YtaoegfdaemmogaaNArg
namespace Go.Proofs.Ytaoegfdaemmogaa.Scn
open Go Go.RowKit Go.Proofs.Ytaoegfdaemmogaa.Com Go.Proofs.Ytaoegfdaemmogaa.Rw Go.Proofs.Ytaoegfdaemmogaa.Lns

/-- No screen at p: none is there, or a zero one. -/
def NoX (w : World) (p : Option Addr) : Prop := p = none ∨ ∃ d, p = some ⟨d, 0, none⟩ ∧ Block w d 60 #[.pointer none, .bool false, .int .i64 0, .slice none 0 0, .int .i64 0, .int .i64 0]
section
variable {w w' : World} {p : Option Addr}
theorem NoX.below (h : NoX w p) (hb : Below w.heap.size w w') : NoX w' p := h.imp id fun ⟨d, e, hd⟩ => ⟨d, e, hd.only (Only.of_below hb []) (by simp)⟩
theorem made_nx (h : NoX w p) : Calls Try.prog 35 #[.pointer p] w fun e w' => e = .returned (.bool false) ∧ w = w' := by
  rcases h with rfl | ⟨d, rfl, hd⟩
  · go_enter Try.func35, Try.ntmps35
    go_wp2
    go_ret
    exact ⟨rfl, rfl⟩
  · have c3 := hd.cell 3 rfl
    clear hd
    go_enter Try.func35, Try.ntmps35
    go_wp2
    go_ret
    exact ⟨rfl, rfl⟩
theorem margins_nx (h : NoX w p) : Calls Try.prog 22 #[.pointer p] w fun e w' => e = .returned (.tuple #[.int .i64 0, .int .i64 0]) ∧ w = w' := by
  have hm := Lib.hid (made_nx h)
  clear h
  go_enter Try.func22, Try.ntmps22
  go_wp2_with ((go_at_call 35; (with_reducible refine (hm.out).mono ?_); rintro e w' ⟨rfl, rfl⟩))
  go_ret2
  exact ⟨rfl, rfl⟩
theorem res_nx (h : NoX w p) (a b c : Int) : Calls Try.prog 13 #[.pointer p, .int .i64 a, .int .i64 b, .int .i64 c] w fun e w' => e = .returned (.tuple #[.int .i64 0, .int .i64 1]) ∧ w = w' := by
  have hm := Lib.hid (made_nx h)
  clear h
  go_enter Try.func13, Try.ntmps13
  go_wp2_with ((go_at_call 35; (with_reducible refine (hm.out).mono ?_); rintro e w' ⟨rfl, rfl⟩))
  go_ret2
  exact ⟨rfl, rfl⟩
theorem has_nx (h : NoX w p) (i : Int) : Calls Try.prog 37 #[.pointer p, .int .i64 i] w fun e w' => e = .returned (.bool false) ∧ w = w' := by
  have hr : Calls Try.prog 30 #[.pointer p] w fun e w' => e = .returned (.int .i64 0) ∧ w = w' := by
    have hm := Lib.hid (made_nx h)
    clear h
    go_enter Try.func30, Try.ntmps30
    go_wp2_with ((go_at_call 35; (with_reducible refine (hm.out).mono ?_); rintro e w' ⟨rfl, rfl⟩))
    go_ret
    exact ⟨rfl, rfl⟩
  replace hr := Lib.hid hr
  clear h
  by_cases h0 : 0 ≤ i
  · have h1 : decide (i < 0) = false := decide_eq_false (by omega)
    go_enter Try.func37, Try.ntmps37
    go_wp2_with ((go_at_call 30; (with_reducible refine (hr.out).mono ?_); rintro e w' ⟨rfl, rfl⟩))
    go_ret
    first | exact ⟨rfl, rfl⟩ | exact ⟨ret_bool (by simp; omega), rfl⟩
  · have h1 : decide (0 ≤ i) = false := decide_eq_false h0
    go_enter Try.func37, Try.ntmps37
    go_wp2_with ((go_at_call 30; (with_reducible refine (hr.out).mono ?_); rintro e w' ⟨rfl, rfl⟩))
    go_ret
    first | exact ⟨rfl, rfl⟩ | exact ⟨ret_bool (by simp; omega), rfl⟩
theorem rows_nx (h : NoX w p) : Calls Try.prog 30 #[.pointer p] w fun e w' => e = .returned (.int .i64 0) ∧ w = w' := by
  have hm := Lib.hid (made_nx h)
  clear h
  go_enter Try.func30, Try.ntmps30
  go_wp2_with ((go_at_call 35; (with_reducible refine (hm.out).mono ?_); rintro e w' ⟨rfl, rfl⟩))
  go_ret
  exact ⟨rfl, rfl⟩
theorem cols_nx (h : NoX w p) : Calls Try.prog 15 #[.pointer p] w fun e w' => e = .returned (.int .i64 0) ∧ w = w' := by
  have hm := Lib.hid (made_nx h)
  clear h
  go_enter Try.func15, Try.ntmps15
  go_wp2_with ((go_at_call 35; (with_reducible refine (hm.out).mono ?_); rintro e w' ⟨rfl, rfl⟩))
  go_ret
  exact ⟨rfl, rfl⟩
theorem row_nx (h : NoX w p) (i : Int) : Calls Try.prog 17 #[.pointer p, .int .i64 i] w fun e w' => e = .returned (.pointer none) ∧ w = w' := by
  have hm := Lib.hid (has_nx h i)
  clear h
  go_enter Try.func17, Try.ntmps17
  go_wp2_with ((go_at_call 37; (with_reducible refine (hm.out).mono ?_); rintro e w' ⟨rfl, rfl⟩))
  go_ret
  exact ⟨rfl, rfl⟩
theorem id_nx (h : NoX w p) (i : Int) : Calls Try.prog 31 #[.pointer p, .int .i64 i] w fun e w' => e = .returned (.int .i64 0) ∧ w = w' := by
  have hm := Lib.hid (has_nx h i)
  clear h
  go_enter Try.func31, Try.ntmps31
  go_wp2_with ((go_at_call 37; (with_reducible refine (hm.out).mono ?_); rintro e w' ⟨rfl, rfl⟩))
  go_ret
  exact ⟨rfl, rfl⟩
theorem setm_nx (h : NoX w p) (a b : Int) : Calls Try.prog 21 #[.pointer p, .int .i64 a, .int .i64 b] w fun e w' => e = .returned (.int .i64 1) ∧ w = w' := by
  have hm := Lib.hid (made_nx h)
  clear h
  go_enter Try.func21, Try.ntmps21
  go_wp2_with ((go_at_call 35; (with_reducible refine (hm.out).mono ?_); rintro e w' ⟨rfl, rfl⟩))
  go_ret
  exact ⟨rfl, rfl⟩
theorem find_nx (h : NoX w p) (i : Int) : Calls Try.prog 16 #[.pointer p, .int .i64 i] w fun e w' => e = .returned (.int .i64 (-1)) ∧ w = w' := by
  have hm := Lib.hid (rows_nx h)
  clear h
  go_enter Try.func16, Try.ntmps16
  go_wp2_with ((go_at_call 30; (with_reducible refine (hm.out).mono ?_); rintro e w' ⟨rfl, rfl⟩))
  refine wp_loop_rounds 1 ?_
  rw [rounds_succ]
  go_wp2
  go_ret
  exact ⟨rfl, rfl⟩
theorem up_nx (h : NoX w p) (n : Int) (a b c : Int) : Calls Try.prog 23 #[.pointer p, .int .i64 n, .agg #[.int .u32 a, .int .u32 b, .int .u16 c]] w fun e w' => e = .returned (.int .i64 1) ∧ Below w.heap.size w w' := by
  have hb := below_new w (.cells #[.int .u32 a, .int .u32 b, .int .u16 c] 36)
  have hm := Lib.hid (made_nx (h.below hb))
  replace hb := Lib.hid hb
  clear h
  go_enter Try.func23, Try.ntmps23
  go_wp2_with ((go_at_call 35; (with_reducible refine (hm.out).mono ?_); rintro e w' ⟨rfl, rfl⟩))
  go_ret
  exact ⟨rfl, hb.out⟩
theorem down_nx (h : NoX w p) (n : Int) (a b c : Int) : Calls Try.prog 24 #[.pointer p, .int .i64 n, .agg #[.int .u32 a, .int .u32 b, .int .u16 c]] w fun e w' => e = .returned (.int .i64 1) ∧ Below w.heap.size w w' := by
  have hb := below_new w (.cells #[.int .u32 a, .int .u32 b, .int .u16 c] 36)
  have hm := Lib.hid (made_nx (h.below hb))
  replace hb := Lib.hid hb
  clear h
  go_enter Try.func24, Try.ntmps24
  go_wp2_with ((go_at_call 35; (with_reducible refine (hm.out).mono ?_); rintro e w' ⟨rfl, rfl⟩))
  go_ret
  exact ⟨rfl, hb.out⟩
theorem ins_nx (h : NoX w p) (i n : Int) (a b c : Int) : Calls Try.prog 27 #[.pointer p, .int .i64 i, .int .i64 n, .agg #[.int .u32 a, .int .u32 b, .int .u16 c]] w fun e w' => e = .returned (.int .i64 1) ∧ Below w.heap.size w w' := by
  have hb := below_new w (.cells #[.int .u32 a, .int .u32 b, .int .u16 c] 36)
  have hm := Lib.hid (made_nx (h.below hb))
  replace hb := Lib.hid hb
  clear h
  go_enter Try.func27, Try.ntmps27
  go_wp2_with ((go_at_call 35; (with_reducible refine (hm.out).mono ?_); rintro e w' ⟨rfl, rfl⟩))
  go_ret
  exact ⟨rfl, hb.out⟩
theorem del_nx (h : NoX w p) (i n : Int) (a b c : Int) : Calls Try.prog 28 #[.pointer p, .int .i64 i, .int .i64 n, .agg #[.int .u32 a, .int .u32 b, .int .u16 c]] w fun e w' => e = .returned (.int .i64 1) ∧ Below w.heap.size w w' := by
  have hb := below_new w (.cells #[.int .u32 a, .int .u32 b, .int .u16 c] 36)
  have hm := Lib.hid (made_nx (h.below hb))
  replace hb := Lib.hid hb
  clear h
  go_enter Try.func28, Try.ntmps28
  go_wp2_with ((go_at_call 35; (with_reducible refine (hm.out).mono ?_); rintro e w' ⟨rfl, rfl⟩))
  go_ret
  exact ⟨rfl, hb.out⟩
end
theorem idx0 (bz : Nat) (w : World) : (Instr.index 63 (.agg #[.pointer none, .pointer (some ⟨bz, 0, none⟩)]) (.int .i64 0)).run Try.prog w = .ok (.pointer none) w := by
  kernel_rfl
theorem idx1 (bz : Nat) (w : World) : (Instr.index 63 (.agg #[.pointer none, .pointer (some ⟨bz, 0, none⟩)]) (.int .i64 1)).run Try.prog w = .ok (.pointer (some ⟨bz, 0, none⟩)) w := by
  kernel_rfl
theorem wpList_idx {P : Program} {ops : Array Oper} {rest : List Oper} {o : Oper} {a : Go.Act} {w : World} {Q : Exit → Go.Act → World → Prop} (hgd : o.guard = none) {t : TypeId} {u j v : Value} (h : ∀ w, (Instr.index t u j).run P w = .ok v w) (x i : Operand) (ho : o.op = .index t x i) (hx : a.eval x = u) (hj : a.eval i = j)
    (hK : wpList P ops Q rest (a.put o.dst v) w) : wpList P ops Q (o :: rest) a w :=
  wpList_plain hgd fun _ hK' => by
    unfold Oper.wp execOp
    simp only [ho, hx, hj, Sem.run_bind, h, Sem.run_pure, Result.andThen_ok]
    exact hK' _ _ hK

set_option maxRecDepth 100000 in
set_option maxHeartbeats 8000000 in
theorem none_law (o : Opr) (_ : o.Ok) (W : World) : Calls Try.prog 5 #[.agg (opV o).toArray] W fun e W' => e = .returned (.bool true) ∧ Below W.heap.size W W' := by

  obtain ⟨kind, at', n, cols, r, wide, ⟨af, ab, ag⟩⟩ := o
  have hV : (opV ⟨kind, at', n, cols, r, wide, ⟨af, ab, ag⟩⟩).toArray = #[.int .i64 kind, .int .i64 at', .int .i64 n, .int .i64 cols, .int .i32 r, .bool wide, .int .u32 af, .int .u32 ab, .int .u16 ag] := rfl
  rw [hV]
  have hb1 := below_new W (.cells #[.int .i64 kind, .int .i64 at', .int .i64 n, .int .i64 cols, .int .i32 r, .bool wide, .int .u32 af, .int .u32 ab, .int .u16 ag] 38)
  have hb2 := below_next hb1 (below_new (W.alloc (.cells #[.int .i64 kind, .int .i64 at', .int .i64 n, .int .i64 cols, .int .i32 r, .bool wide, .int .u32 af, .int .u32 ab, .int .u16 ag] 38)) (.cells #[.pointer none, .bool false, .int .i64 0, .slice none 0 0, .int .i64 0, .int .i64 0] 60))
  have k1 := (Block.made W 38 #[.int .i64 kind, .int .i64 at', .int .i64 n, .int .i64 cols, .int .i32 r, .bool wide, .int .u32 af, .int .u32 ab, .int .u16 ag]).alloc (.cells #[.pointer none, .bool false, .int .i64 0, .slice none 0 0, .int .i64 0, .int .i64 0] 60)
  have k2 := Block.made (W.alloc (.cells #[.int .i64 kind, .int .i64 at', .int .i64 n, .int .i64 cols, .int .i32 r, .bool wide, .int .u32 af, .int .u32 ab, .int .u16 ag] 38)) 60 #[.pointer none, .bool false, .int .i64 0, .slice none 0 0, .int .i64 0, .int .i64 0]
  simp only [World.size_alloc] at k2
  have hN := Lib.hid (fun w => snew_no 2 2 none true w (.inr (.inr rfl)))
  have hK := Lib.hid (fun w => known_any w)
  obtain ⟨bo, hbo⟩ : ∃ bo, bo = W.heap.size := ⟨_, rfl⟩
  obtain ⟨bz, hbz⟩ : ∃ bz, bz = W.heap.size + 1 := ⟨_, rfl⟩
  rw [← hbo] at k1
  rw [← hbz] at k2
  have hbW := Lib.hid hb2
  clear hb1 hb2 hV
  go_enter Try.func5, Try.ntmps5
  go_wp2_with ((go_at_call 29; (with_reducible refine (hN.out _).mono ?_); rintro e w' ⟨rfl, rfl⟩))
  generalize (W.alloc (.cells #[.int .i64 kind, .int .i64 at', .int .i64 n, .int .i64 cols, .int .i32 r, .bool wide, .int .u32 af, .int .u32 ab, .int .u16 ag] 38)).alloc (.cells #[.pointer none, .bool false, .int .i64 0, .slice none 0 0, .int .i64 0, .int .i64 0] 60) = W0 at k1 k2 hbW ⊢
  rw [← hbz, ← hbo]
  replace hbo := Lib.hid hbo
  replace hbz := Lib.hid hbz
  have hS := Lib.hid (fun w' (hb : Below W0.heap.size W0 w') => (⟨(k1.only (Only.of_below hb []) (by simp)).cell 1 rfl, (k1.only (Only.of_below hb []) (by simp)).cell 2 rfl, (k1.only (Only.of_below hb []) (by simp)).cell 3 rfl, (k1.only (Only.of_below hb []) (by simp)).cell 6 rfl, (k1.only (Only.of_below hb []) (by simp)).cell 7 rfl, (k1.only (Only.of_below hb []) (by simp)).cell 8 rfl⟩ : w'.cell? ⟨bo, 1, none⟩ = some (.int .i64 at') ∧ w'.cell? ⟨bo, 2, none⟩ = some (.int .i64 n) ∧ w'.cell? ⟨bo, 3, none⟩ = some (.int .i64 cols) ∧ w'.cell? ⟨bo, 6, none⟩ = some (.int .u32 af) ∧ w'.cell? ⟨bo, 7, none⟩ = some (.int .u32 ab) ∧ w'.cell? ⟨bo, 8, none⟩ = some (.int .u16 ag)))
  have hX1 : Hid (∀ w', Below W0.heap.size W0 w' → NoX w' none) := Lib.hid (fun _ _ => .inl rfl)
  have hX2 : Hid (∀ w', Below W0.heap.size W0 w' → NoX w' (some ⟨bz, 0, none⟩)) := Lib.hid (fun w' hb => .inr ⟨bz, rfl, k2.only (Only.of_below hb []) (by simp)⟩)
  clear k1 k2
  go_loopw [23] (fun iv wr => ∃ k : Int, 0 ≤ k ∧ k ≤ 2 ∧ iv = .int .i64 k ∧ Hid (Below W0.heap.size W0 wr)) (fun iv _ => (2 - intOf iv).toNat)
  case atStart => exact ⟨0, by omega, by omega, rfl, Lib.hid (Below.refl _ _)⟩
  case round =>
    obtain ⟨k, hk0, hk2, rfl, hB⟩ := hrel
    have hB0 := hB.out
    obtain ⟨s1, s2, s3, s6, s7, s8⟩ := hS.out _ hB0
    by_cases hlt : k < 2
    · obtain ⟨p, hX, hix⟩ : ∃ p, Hid (∀ w', Below W0.heap.size W0 w' → NoX w' p) ∧ Hid (∀ w, (Instr.index 63 (.agg #[.pointer none, .pointer (some ⟨bz, 0, none⟩)]) (.int .i64 k)).run Try.prog w = .ok (.pointer p) w) := by
        have : k = 0 ∨ k = 1 := by omega
        rcases this with rfl | rfl
        · exact ⟨_, hX1, Lib.hid (idx0 _)⟩
        · exact ⟨_, hX2, Lib.hid (idx1 _)⟩
      clear hX1 hX2 hN hK
      go_wp2_with (first
        | (with_reducible show wpList _ _ _ (⟨some 25, .index _ _ _, _, _, _, _⟩ :: _) _ _; go_must (refine wpList_idx rfl hix.out (.tmp 22) (.tmp 23) rfl rfl rfl ?_))
        | (go_at_call 22; (with_reducible refine (margins_nx (hX.out _ hB0)).mono ?_); rintro e w' ⟨rfl, rfl⟩)
        | (go_at_call 13; (with_reducible refine (res_nx (hX.out _ hB0) _ _ _).mono ?_); rintro e w' ⟨rfl, rfl⟩))
      have hd : Hid (Below W0.heap.size W0 wr.drew) := Lib.hid (below_next hB0 (below_dr (Below.refl wr.heap.size wr) 1))
      have c0 := hS.out _ hd.out
      clear hix hB hB0 hbW
      simp only [List.append]
      go_region_held3 (fun w' => w'.cell? ⟨bo, 1, none⟩ = some (.int .i64 at') ∧ w'.cell? ⟨bo, 2, none⟩ = some (.int .i64 n) ∧ w'.cell? ⟨bo, 3, none⟩ = some (.int .i64 cols) ∧ w'.cell? ⟨bo, 6, none⟩ = some (.int .u32 af) ∧ w'.cell? ⟨bo, 7, none⟩ = some (.int .u32 ab) ∧ w'.cell? ⟨bo, 8, none⟩ = some (.int .u16 ag))
        (first | exact ⟨s1, s2, s3, s6, s7, s8⟩ | exact c0 | exact hS.out _ hb4.out | exact hS.out _ hb3.out | exact hS.out _ hb2.out | exact hS.out _ hb1.out | exact hS.out _ hd.out)
        (first
          | (go_at_call 30; (with_reducible refine (rows_nx (hX.out _ hd.out)).mono ?_); rintro e w' ⟨rfl, rfl⟩)
          | (go_at_call 15; (with_reducible refine (cols_nx (hX.out _ hd.out)).mono ?_); rintro e w' ⟨rfl, rfl⟩)
          | (go_at_call 31; (with_reducible refine (id_nx (hX.out _ hd.out) _).mono ?_); rintro e w' ⟨rfl, rfl⟩)
          | (go_at_call 17; (with_reducible refine (row_nx (hX.out _ hd.out) _).mono ?_); rintro e w' ⟨rfl, rfl⟩)
          | (go_at_call 16; (with_reducible refine (find_nx (hX.out _ hd.out) _).mono ?_); rintro e w' ⟨rfl, rfl⟩)
          | (go_at_call 21; (with_reducible refine (setm_nx (hX.out _ hd.out) _ _).mono ?_); rintro e w' ⟨rfl, rfl⟩)
          | (go_at_call 23; (with_reducible refine (up_nx (hX.out _ hd.out) _ _ _ _).mono ?_); rintro e v1 ⟨rfl, hc1⟩; have hb1 := Lib.hid (below_next hd.out hc1))
          | (go_at_call 24; (with_reducible refine (down_nx (hX.out _ hb1.out) _ _ _ _).mono ?_); rintro e v2 ⟨rfl, hc2⟩; have hb2 := Lib.hid (below_next hb1.out hc2))
          | (go_at_call 27; (with_reducible refine (ins_nx (hX.out _ hb2.out) _ _ _ _ _).mono ?_); rintro e v3 ⟨rfl, hc3⟩; have hb3 := Lib.hid (below_next hb2.out hc3))
          | (go_at_call 28; (with_reducible refine (del_nx (hX.out _ hb3.out) _ _ _ _ _).mono ?_); rintro e v4 ⟨rfl, hc4⟩; have hb4 := Lib.hid (below_next hb3.out hc4)))
      have hres := hb4
      go_wp2
      go_roundw
      case rel => exact ⟨k + 1, by omega, by omega, by go_num, hres⟩
      case measure => simp [intOf]; omega
    · obtain rfl : k = 2 := by omega
      go_wp2_with ((go_at_call 7; (with_reducible refine (hK.out _).mono ?_); rintro e w9 ⟨rfl, hb9⟩))
      go_ret
      exact ⟨rfl, (hbW.out.trans (hB0.mono hbW.out.size)).trans (hb9.mono (Nat.le_trans hbW.out.size hB0.size))⟩
end Go.Proofs.Ytaoegfdaemmogaa.Scn
