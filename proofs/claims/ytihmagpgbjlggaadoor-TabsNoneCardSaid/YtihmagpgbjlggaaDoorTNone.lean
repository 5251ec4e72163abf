/-
  tabs: the law TabsNone.
-/
import Derived.Test.YtihmagpgbjlggaaDoorTSt
namespace Go.Proofs.YtihmagpgbjlggaaDoor.Tbs
open Go Go.RowKit Go.Proofs.YtihmagpgbjlggaaDoor.Com

theorem idx0 (p : Option Addr) (w : World) : (Instr.index 52 (.agg #[.pointer none, .pointer p]) (.int .i64 0)).run Tryd.prog w = .ok (.pointer none) w := by kernel_rfl
theorem idx1 (p : Option Addr) (w : World) : (Instr.index 52 (.agg #[.pointer none, .pointer p]) (.int .i64 1)).run Tryd.prog w = .ok (.pointer p) w := by kernel_rfl
/-- An element of an array that lies in a slot. -/
theorem wpList_idx {P : Program} {ops : Array Oper} {rest : List Oper} {o : Oper} {a : Act} {w : World} {Q : Exit → Act → World → Prop} (hgd : o.guard = none) {t : TypeId} {u j v : Value} (h : ∀ w, (Instr.index t u j).run P w = .ok v w) (x i : Operand) (ho : o.op = .index t x i) (hx : a.eval x = u) (hj : a.eval i = j)
    (hK : wpList P ops Q rest (a.put o.dst v) w) : wpList P ops Q (o :: rest) a w :=
  wpList_plain hgd fun _ hK' => by
    unfold Oper.wp execOp
    simp only [ho, hx, hj, Sem.run_bind, h, Sem.run_pure, Result.andThen_ok]
    exact hK' _ _ hK
theorem zero_tabs (w : World) : TabsIn (w.alloc (.cells #[.int .i64 0, .int .u64 0, .int .u64 0, .int .u64 0, .int .u64 0, .int .u64 0, .int .u64 0, .int .u64 0, .int .u64 0] 51)) w.heap.size 0 (fun _ => false) := by
  unfold TabsIn
  rw [tab_eq]
  simp only [none_wd]
  exact Block.made w _ _

set_option maxRecDepth 100000 in
set_option maxHeartbeats 4000000 in
theorem lawNone (col : Int) (_ : (Lit.int .i64 col).wf = true) (n : Int) (_ : (Lit.int .i64 n).wf = true) (w : World) (T : Tab w) : Calls Tryd.prog 5 #[.int .i64 col, .int .i64 n] w (Yes w) := by
  have hz := zero_tabs w
  have hb0 := below_new w (.cells #[.int .i64 0, .int .u64 0, .int .u64 0, .int .u64 0, .int .u64 0, .int .u64 0, .int .u64 0, .int .u64 0, .int .u64 0] 51)
  go_enter Tryd.func5, Tryd.ntmps5
  go_wp2
  generalize (w.alloc (.cells #[.int .i64 0, .int .u64 0, .int .u64 0, .int .u64 0, .int .u64 0, .int .u64 0, .int .u64 0, .int .u64 0, .int .u64 0] 51)) = w1 at hz hb0 ⊢
  generalize w.heap.size = d at hz ⊢
  have hno : ∀ v, (v = .pointer none ∨ v = .pointer (some ⟨d, 0, none⟩)) → NoTabs w1 v := fun v hv => hv.elim .inl fun e => .inr ⟨d, _, e, hz⟩
  replace hno := Lib.hid hno
  replace T := Lib.hid (T.below hb0)
  replace hb0 := Lib.hid hb0
  clear hz
  go_loop [9] (fun i => ∃ k : Nat, k ≤ 2 ∧ i = .int .i64 k) (fun i => 2 - (intOf i).toNat)
  case atStart => exact ⟨0, by omega, rfl⟩
  case round =>
    obtain ⟨k, hk, rfl⟩ := hrel
    by_cases hlt : k < 2
    · have hk2 : k = 0 ∨ k = 1 := by omega
      rcases hk2 with rfl | rfl
      · have hv := hno.out (.pointer none) (.inl rfl)
        have h1 := Lib.hid (set_no hv col)
        have h2 := Lib.hid (clr_no hv col)
        have h3 := Lib.hid (clearAll_no hv)
        have h4 := Lib.hid (resize_no hv n)
        have h5 := Lib.hid (next_no hv col n)
        have h6 := Lib.hid (prev_no hv col n)
        have h7 := Lib.hid (cols_no hv)
        have h8 := Lib.hid (stops_no hv)
        have h9 := Lib.hid (copy_no hv)
        have hix := Lib.hid (idx0 (some ⟨d, 0, none⟩))
        clear hv
        go_wp2_with (first
          | (with_reducible show wpList _ _ _ (⟨some 11, .index _ _ _, _, _, _, _⟩ :: _) _ _; go_must (refine wpList_idx rfl hix.out (.tmp 8) (.tmp 9) rfl rfl rfl ?_))
          | (go_at_call 10; (with_reducible refine (h1.out).mono ?_); rintro e w' ⟨rfl, rfl⟩)
          | (go_at_call 12; (with_reducible refine (h2.out).mono ?_); rintro e w' ⟨rfl, rfl⟩)
          | (go_at_call 13; (with_reducible refine (h3.out).mono ?_); rintro e w' ⟨rfl, rfl⟩)
          | (go_at_call 15; (with_reducible refine (h4.out).mono ?_); rintro e w' ⟨rfl, rfl⟩)
          | (go_at_call 22; (with_reducible refine (h5.out).mono ?_); rintro e w' ⟨rfl, rfl⟩)
          | (go_at_call 24; (with_reducible refine (h6.out).mono ?_); rintro e w' ⟨rfl, rfl⟩)
          | (go_at_call 18; (with_reducible refine (h7.out).mono ?_); rintro e w' ⟨rfl, rfl⟩)
          | (go_at_call 20; (with_reducible refine (h8.out).mono ?_); rintro e w' ⟨rfl, rfl⟩)
          | (go_at_call 17; (with_reducible refine (h9.out).mono ?_); rintro e w' ⟨rfl, rfl⟩))
        go_round
        case rel => exact ⟨1, by omega, by go_num⟩
        case measure => simp [intOf]
      · have hv := hno.out (.pointer (some ⟨d, 0, none⟩)) (.inr rfl)
        have h1 := Lib.hid (set_no hv col)
        have h2 := Lib.hid (clr_no hv col)
        have h3 := Lib.hid (clearAll_no hv)
        have h4 := Lib.hid (resize_no hv n)
        have h5 := Lib.hid (next_no hv col n)
        have h6 := Lib.hid (prev_no hv col n)
        have h7 := Lib.hid (cols_no hv)
        have h8 := Lib.hid (stops_no hv)
        have h9 := Lib.hid (copy_no hv)
        have hix := Lib.hid (idx1 (some ⟨d, 0, none⟩))
        clear hv
        go_wp2_with (first
          | (with_reducible show wpList _ _ _ (⟨some 11, .index _ _ _, _, _, _, _⟩ :: _) _ _; go_must (refine wpList_idx rfl hix.out (.tmp 8) (.tmp 9) rfl rfl rfl ?_))
          | (go_at_call 10; (with_reducible refine (h1.out).mono ?_); rintro e w' ⟨rfl, rfl⟩)
          | (go_at_call 12; (with_reducible refine (h2.out).mono ?_); rintro e w' ⟨rfl, rfl⟩)
          | (go_at_call 13; (with_reducible refine (h3.out).mono ?_); rintro e w' ⟨rfl, rfl⟩)
          | (go_at_call 15; (with_reducible refine (h4.out).mono ?_); rintro e w' ⟨rfl, rfl⟩)
          | (go_at_call 22; (with_reducible refine (h5.out).mono ?_); rintro e w' ⟨rfl, rfl⟩)
          | (go_at_call 24; (with_reducible refine (h6.out).mono ?_); rintro e w' ⟨rfl, rfl⟩)
          | (go_at_call 18; (with_reducible refine (h7.out).mono ?_); rintro e w' ⟨rfl, rfl⟩)
          | (go_at_call 20; (with_reducible refine (h8.out).mono ?_); rintro e w' ⟨rfl, rfl⟩)
          | (go_at_call 17; (with_reducible refine (h9.out).mono ?_); rintro e w' ⟨rfl, rfl⟩))
        go_round
        case rel => exact ⟨2, by omega, by go_num⟩
        case measure => simp [intOf]
    · obtain rfl : k = 2 := by omega
      have hkn := Lib.hid (known_any w1 T.out)
      go_wp2_with ((go_at_call 8; (with_reducible refine (hkn.out).mono ?_); rintro e w2 ⟨rfl, hb2⟩))
      go_ret
      exact ⟨rfl, below_next hb0.out hb2⟩

end Go.Proofs.YtihmagpgbjlggaaDoor.Tbs
