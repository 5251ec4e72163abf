/-
  modes: the law's known; flags loaded and stored whole.
-/
import Derived.Test.YtnammlihpjjdoaaMRput
namespace Go.Proofs.Ytnammlihpjjdoaa.Mds
open Go Go.RowKit Go.Proofs.Ytnammlihpjjdoaa.Com

/-- Flags are loaded whole. -/
theorem wpList_load_m {o : Oper} {ops : Array Oper} {rest : List Oper} {a : Act} {w : World} {Q : Exit → Act → World → Prop} (hw : Region.wanted o (yielded ops a.tmps) = true) (x : Operand) (ho : o.op = .load 23 x) {g : Nat} {m : Md} (hx : a.eval x = .pointer (some ⟨g, 0, none⟩))
    (hb : MB w g m) (h : wpList Try.prog ops Q rest (a.put o.dst (.agg (mA m))) w) : wpList Try.prog ops Q (o :: rest) a w :=
  wpList_wanted hw fun _ hK => by
    unfold Oper.wp execOp
    simp only [ho, hx, Instr.loadAt, Instr.sureAddr, Sem.run_bind, Sem.run_pure, Result.andThen_ok, load_row hb.blk Try.underlying23 rfl (mA_info m)]
    exact hK _ _ h
/-- Flags are stored whole. -/
theorem wpList_store_m {o : Oper} {ops : Array Oper} {rest : List Oper} {a : Act} {w : World} {Q : Exit → Act → World → Prop} (hg : o.guard = none) (x y : Operand) (ho : o.op = .store 23 x y) {g : Nat} {m0 m : Md} (hx : a.eval x = .pointer (some ⟨g, 0, none⟩)) (hy : a.eval y = .agg (mA m))
    (hb : MB w g m0) (h : ∀ w', MB w' g m → Only [g] w w' → wpList Try.prog ops Q rest (a.put o.dst undef) w') : wpList Try.prog ops Q (o :: rest) a w :=
  wpList_storeAll hg _ x y ho hb.blk (mA m) hx hy (mA_info m) rfl (mA_one m) fun w' h1 h2 => h w' (MB.of h1) h2

def Yes (w : World) (e : Ending) (w' : World) : Prop := e = .returned (.bool true) ∧ Below w.heap.size w w'
def start6 : Md := ⟨false, false, false, false, true, true, true, false⟩
def Tup (v : Value) (w : World) (e : Ending) (w' : World) : Prop := e = .returned v ∧ Below w.heap.size w w'
theorem know_get (w : World) : Calls Try.prog 11 #[.agg (mA start), .bool true, .int .i64 7] w (Tup (.tuple #[.bool true, .bool true]) w) := get_any start true 7 (by decide) w
theorem know_put (w : World) : Calls Try.prog 8 #[.agg (mA start), .bool true, .int .i64 1049, .bool true] w (Tup (.tuple #[.agg (mA start6), .bool true]) w) := put_any start true 1049 (by decide) true w
theorem know_bits (w : World) : Calls Try.prog 15 #[.agg (mA start)] w (Tup (.int .u8 48) w) := bits_any start w
theorem know_bits6 (w : World) : Calls Try.prog 15 #[.agg (mA start6)] w (Tup (.int .u8 112) w) := bits_any start6 w
/-- A block is made for flags, and they are stored. -/
theorem made_store {w w' w2 : World} (h : Below w.heap.size w w') (ho : Only [w'.heap.size] (w'.alloc (.cells #[.bool false, .bool false, .bool false, .bool false, .bool false, .bool false, .bool false, .bool false] 23)) w2) : Below w.heap.size w w2 :=
  (below_next h (below_new w' _)).trans (ho.below (by have := h.size; simp; omega) (by have := h.size; simpa using this))
/-- Flags of another block stay behind it. -/
theorem kept_store {w' w2 : World} {g : Nat} {m : Md} (hd : MB w' g m) (ho : Only [w'.heap.size] (w'.alloc (.cells #[.bool false, .bool false, .bool false, .bool false, .bool false, .bool false, .bool false, .bool false] 23)) w2) : MB w2 g m :=
  (hd.alloc _).only ho (by have := hd.lt; simp; omega)
set_option maxHeartbeats 2000000 in
theorem known_any (w : World) : Calls Try.prog 10 #[] w (Yes w) := by
  go_enter Try.func10, Try.ntmps10
  go_wp2_with (first
    | (go_at_call 13; (with_reducible refine (default_any _).mono ?_); rintro e w1 ⟨rfl, hb1⟩; have hz1 := Lib.hid (MB.zero w1); have hb2 := Lib.hid hb1; clear hb1)
    | (with_reducible show wpList _ _ _ (⟨none, .store _ (.tmp 1) _, _, _, _, _⟩ :: _) _ _; go_must (refine wpList_store_m rfl (.tmp 1) (.tmp 6) rfl rfl rfl hz1.out ?_); intro w2 hd2 ho2; go_must (replace hd2 := Lib.hid hd2; have hb3 := Lib.hid (made_store hb2.out ho2); clear ho2 hz1 hb2))
    | (with_reducible show wpList _ _ _ (⟨some 8, .load _ (.tmp 1), _, _, _, _⟩ :: _) _ _; go_must (refine wpList_load_m rfl (.tmp 1) rfl rfl hd2.out ?_))
    | (go_at_call 11; (with_reducible refine (know_get _).mono ?_); rintro e w3 ⟨rfl, hb4⟩; have hd3 := Lib.hid (hd2.out.below hb4); have hb5 := Lib.hid (below_next hb3.out hb4); clear hb4 hd2 hb3)
    | (with_reducible show wpList _ _ _ (⟨some 13, .load _ (.tmp 1), _, _, _, _⟩ :: _) _ _; go_must (refine wpList_load_m rfl (.tmp 1) rfl rfl hd3.out ?_))
    | (go_at_call 8; (with_reducible refine (know_put _).mono ?_); rintro e w4 ⟨rfl, hb6⟩; have hd4 := Lib.hid (hd3.out.below hb6); have hb7 := Lib.hid (below_next hb5.out hb6); have hz4 := Lib.hid (MB.zero w4); clear hb6 hd3 hb5)
    | (with_reducible show wpList _ _ _ (⟨none, .store _ (.tmp 4) _, _, _, _, _⟩ :: _) _ _; go_must (refine wpList_store_m rfl (.tmp 4) (.tmp 15) rfl rfl rfl hz4.out ?_); intro w5 hd5 ho5; go_must (replace hd5 := Lib.hid hd5; have hb8 := Lib.hid (made_store hb7.out ho5); have hd6 := Lib.hid (kept_store hd4.out ho5); clear ho5 hz4 hb7 hd4))
    | (with_reducible show wpList _ _ _ (⟨some 25, .load _ (.tmp 1), _, _, _, _⟩ :: _) _ _; go_must (refine wpList_load_m rfl (.tmp 1) rfl rfl hd6.out ?_))
    | (go_at_call 15; (with_reducible refine (know_bits _).mono ?_); rintro e w6 ⟨rfl, hb9⟩; have hd7 := Lib.hid (hd5.out.below hb9); have hb10 := Lib.hid (below_next hb8.out hb9); clear hb9 hd5 hb8)
    | (with_reducible show wpList _ _ _ (⟨some 30, .load _ (.tmp 4), _, _, _, _⟩ :: _) _ _; go_must (refine wpList_load_m rfl (.tmp 4) rfl rfl hd7.out ?_))
    | (go_at_call 15; (with_reducible refine (know_bits6 _).mono ?_); rintro e w7 ⟨rfl, hb11⟩; have hb12 := Lib.hid (below_next hb10.out hb11); clear hb11 hb10))
  go_ret
  exact ⟨rfl, hb12.out⟩

end Go.Proofs.Ytnammlihpjjdoaa.Mds
