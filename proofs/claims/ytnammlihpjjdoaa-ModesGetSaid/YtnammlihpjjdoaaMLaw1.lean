/-
  modes: flags compared; ModesPut and ModesGet.
-/
import Derived.Test.YtnammlihpjjdoaaMKnow
import Derived.Laws.StructEq
namespace Go.Proofs.Ytnammlihpjjdoaa.Mds
open Go Go.RowKit Go.Proofs.Ytnammlihpjjdoaa.Com

theorem rowM : 23 < Try.prog.types.size := of_decide_eq_true (by kernel_rfl)
theorem keyM : Try.prog.keyType 23 = true := by kernel_rfl
theorem wideM : (match Try.prog.underlying 23 with | some (.array _ _) | some (.struct _) => true | _ => false) = true := by kernel_rfl
theorem cM : Try.prog.cellsOf 23 = 8 := by kernel_rfl
theorem lits_m (m : Md) (D : Nat) : ∃ l, Try.prog.keyLits (D + 1 + 1) 23 (mA m).toList = some l := by
  simp [Program.keyLits, mA, Try.underlying23, Try.underlying4, cM, cB]
theorem formed_m (m : Md) : Value.formed Try.prog 23 (.agg (mA m)) = true := by
  simp [Value.formed, mA, Try.underlying23, cM]
theorem key_m (m : Md) : ∃ l, keyOf Try.prog 23 (.agg (mA m)) = some l := by
  obtain ⟨D, hD⟩ : ∃ D, Try.prog.types.size + 1 = D + 1 + 1 := ⟨Try.prog.types.size - 1, by have := rowM; omega⟩
  have hf := formed_m m
  obtain ⟨l, hl⟩ := lits_m m D
  rw [← hD] at hl
  refine ⟨.string (keyBytes l), ?_⟩
  unfold keyOf
  rw [Try.underlying23]
  dsimp only
  rw [keyM, hf, if_pos (by rfl)]
  have e : (Value.agg (mA m)).cells.toList = (mA m).toList := rfl
  rw [e, hl]
  rfl
theorem equal_m (m : Md) (w : World) : (Op.equalIn 10000 23 (.agg (mA m)) (.agg (mA m))).run Try.prog w = .ok true w := by
  obtain ⟨l, hl⟩ := key_m m
  obtain ⟨r, h1, h2⟩ := run_equal_deep (P := Try.prog) w (m := 2) (by omega) (k := 23) (by kernel_rfl) wideM hl hl
  rw [h2.2 rfl] at h1
  exact h1
/-- The same flags are equal. -/
theorem wpList_eql_m {o : Oper} {ops : Array Oper} {rest : List Oper} {a : Act} {w : World} {Q : Exit → Act → World → Prop} (hw : Region.wanted o (yielded ops a.tmps) = true) (x y : Operand) {t : TypeId} (ho : o.op = .binOp .eql 23 x y t) {m : Md} (hx : a.eval x = .agg (mA m)) (hy : a.eval y = .agg (mA m))
    (h : wpList Try.prog ops Q rest (a.put o.dst (.bool true)) w) : wpList Try.prog ops Q (o :: rest) a w :=
  wpList_wanted hw fun _ hK => by
    unfold Oper.wp execOp
    simp only [ho, hx, hy, run_eqGuard_agg w .eql 23 x y _ _ Try.eqGuardType23, run_eql_struct, equal_m, Sem.run_bind, Sem.run_pure, Result.andThen_ok]
    exact hK _ _ h
theorem wpList_neq_m {o : Oper} {ops : Array Oper} {rest : List Oper} {a : Act} {w : World} {Q : Exit → Act → World → Prop} (hw : Region.wanted o (yielded ops a.tmps) = true) (x y : Operand) {t : TypeId} (ho : o.op = .binOp .neq 23 x y t) {m : Md} (hx : a.eval x = .agg (mA m)) (hy : a.eval y = .agg (mA m))
    (h : wpList Try.prog ops Q rest (a.put o.dst (.bool false)) w) : wpList Try.prog ops Q (o :: rest) a w :=
  wpList_wanted hw fun _ hK => by
    unfold Oper.wp execOp
    simp only [ho, hx, hy, run_eqGuard_agg w .neq 23 x y _ _ Try.eqGuardType23, run_neq_struct, equal_m, Sem.run_bind, Sem.run_pure, Result.andThen_ok]
    exact hK _ _ h

set_option maxHeartbeats 2000000 in
theorem put_law (m : Md) (p : Bool) (n : Int) (hw : (Lit.int .i64 n).wf = true) (on : Bool) (W : World) : Calls Try.prog 3 #[.agg (mA m), .bool p, .int .i64 n, .bool on] W (Yes W) := by
  have hb0 := Lib.hid (below_new W (.cells (mA m) 23))
  have hd0 := Lib.hid (MB.made W m)
  have hput := Lib.hid (fun w' => put_any m p n hw on w')
  clear hw
  go_enter Try.func3, Try.ntmps3
  go_wp2_with (first
    | (with_reducible show wpList _ _ _ (⟨some 14, .load _ (.tmp 4), _, _, _, _⟩ :: _) _ _; go_must (refine wpList_load_m rfl (.tmp 4) rfl rfl hd0.out ?_))
    | (go_at_call 8; (with_reducible refine (hput.out _).mono ?_); rintro e w1 ⟨rfl, hb1⟩; have hd1 := Lib.hid (hd0.out.below hb1); have hbA := Lib.hid (below_next hb0.out hb1); have hz1 := Lib.hid (MB.zero w1); clear hb1 hd0 hb0)
    | (with_reducible show wpList _ _ _ (⟨none, .store _ (.tmp 9) _, _, _, _, _⟩ :: _) _ _; go_must (refine wpList_store_m rfl (.tmp 9) (.tmp 19) rfl rfl rfl hz1.out ?_); intro w2 hd2 ho2; go_must (replace hd2 := Lib.hid hd2; have hbB := Lib.hid (made_store hbA.out ho2); have hd3 := Lib.hid (kept_store hd1.out ho2); clear ho2 hz1 hbA hd1))
    | (with_reducible show wpList _ _ _ (⟨some 22, .load _ (.tmp 4), _, _, _, _⟩ :: _) _ _; go_must (refine wpList_load_m rfl (.tmp 4) rfl rfl hd3.out ?_))
    | (go_at_call 9; (with_reducible refine (rput_any m p n on _).mono ?_); rintro e w3 ⟨rfl, hb3⟩; have hd4 := Lib.hid (hd2.out.below hb3); have hbC := Lib.hid (below_next hbB.out hb3); have hz3 := Lib.hid (MB.zero w3); clear hb3 hd2 hbB hd3)
    | (with_reducible show wpList _ _ _ (⟨none, .store _ (.tmp 11) _, _, _, _, _⟩ :: _) _ _; go_must (refine wpList_store_m rfl (.tmp 11) (.tmp 27) rfl rfl rfl hz3.out ?_); intro w4 hd5 ho4; go_must (replace hd5 := Lib.hid hd5; have hbD := Lib.hid (made_store hbC.out ho4); have hd6 := Lib.hid (kept_store hd4.out ho4); clear ho4 hz3 hbC hd4))
    | (with_reducible show wpList _ _ _ (⟨some 29, .load _ (.tmp 9), _, _, _, _⟩ :: _) _ _; go_must (refine wpList_load_m rfl (.tmp 9) rfl rfl hd6.out ?_))
    | (with_reducible show wpList _ _ _ (⟨some 30, .load _ (.tmp 11), _, _, _, _⟩ :: _) _ _; go_must (refine wpList_load_m rfl (.tmp 11) rfl rfl hd5.out ?_))
    | (with_reducible show wpList _ _ _ (⟨some 31, .binOp _ _ _ _ _, _, _, _, _⟩ :: _) _ _; go_must (refine wpList_eql_m rfl (.tmp 29) (.tmp 30) rfl rfl rfl ?_))
    | (go_at_call 10; (with_reducible refine (known_any _).mono ?_); rintro e w5 ⟨rfl, hb5⟩; have hbE := Lib.hid (below_next hbD.out hb5); clear hb5 hbD))
  go_ret
  exact ⟨rfl, hbE.out⟩

set_option maxHeartbeats 2000000 in
theorem get_law (m : Md) (p : Bool) (n : Int) (hw : (Lit.int .i64 n).wf = true) (W : World) : Calls Try.prog 4 #[.agg (mA m), .bool p, .int .i64 n] W (Yes W) := by
  have hb0 := Lib.hid (below_new W (.cells (mA m) 23))
  have hd0 := Lib.hid (MB.made W m)
  have hget := Lib.hid (fun w' => get_any m p n hw w')
  clear hw
  go_enter Try.func4, Try.ntmps4
  go_wp2_with (first
    | (with_reducible show wpList _ _ _ (⟨some 12, .load _ (.tmp 3), _, _, _, _⟩ :: _) _ _; go_must (refine wpList_load_m rfl (.tmp 3) rfl rfl hd0.out ?_))
    | (go_at_call 11; (with_reducible refine (hget.out _).mono ?_); rintro e w1 ⟨rfl, hb1⟩; have hd1 := Lib.hid (hd0.out.below hb1); have hbA := Lib.hid (below_next hb0.out hb1); clear hb1 hd0 hb0)
    | (with_reducible show wpList _ _ _ (⟨some 19, .load _ (.tmp 3), _, _, _, _⟩ :: _) _ _; go_must (refine wpList_load_m rfl (.tmp 3) rfl rfl hd1.out ?_))
    | (go_at_call 12; (with_reducible refine (rget_any m p n _).mono ?_); rintro e w2 ⟨rfl, hb2⟩; have hbB := Lib.hid (below_next hbA.out hb2); clear hb2 hbA hd1)
    | (go_at_call 13; (with_reducible refine (default_any _).mono ?_); rintro e w3 ⟨rfl, hb3⟩; have hbC := Lib.hid (below_next hbB.out hb3); clear hb3 hbB)
    | (go_at_call 14; (with_reducible refine (rdefault_any _).mono ?_); rintro e w4 ⟨rfl, hb4⟩; have hbD := Lib.hid (below_next hbC.out hb4); clear hb4 hbC)
    | (with_reducible show wpList _ _ _ (⟨some 36, .binOp _ _ _ _ _, _, _, _, _⟩ :: _) _ _; go_must (refine wpList_eql_m rfl (.tmp 34) (.tmp 35) rfl rfl rfl ?_))
    | (go_at_call 10; (with_reducible refine (known_any _).mono ?_); rintro e w5 ⟨rfl, hb5⟩; have hbE := Lib.hid (below_next hbD.out hb5); clear hb5 hbD))
  go_ret
  exact ⟨rfl, hbE.out⟩

end Go.Proofs.Ytnammlihpjjdoaa.Mds
