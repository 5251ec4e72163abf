/-
  Name of chartab (over the map that it makes) and of its reference; the reference's Charset.
-/
import Derived.Test.YtjffiikdfoejhaaDoorCase
import Derived.Maps.Own
import Derived.Maps.Views
namespace Go.Proofs.YtjffiikdfoejhaaDoor.Cht
open Go Go.RowKit Go.Maps

def nameDatum (s : ByteArray) (n : Int) : DataW Unit := .agg [.lit (.string s.data.toList), .lit (.int .i64 n)]
/-- How an element of the map reads. -/
def nameElem : Value → Option (DataW Unit × List MemPlace)
  | .agg xs => match xs.toList with
    | [.string s, .int .i64 n] => some (nameDatum s n, [])
    | _ => none
  | _ => none
theorem nameElem_inv {v : Value} {z : DataW Unit × List MemPlace} (h : nameElem v = some z) : ∃ s n, v = .agg #[.string s, .int .i64 n] ∧ z = (nameDatum s n, []) := by
  unfold nameElem at h
  split at h
  · rename_i xs
    split at h
    · rename_i s n e
      refine ⟨s, n, ?_, by simpa using h.symm⟩
      rw [show xs = #[Value.string s, Value.int .i64 n] from Array.toList_inj.1 (by rw [e])]
    · cases h
  · cases h
theorem nameDatum_inj {s s' : ByteArray} {n n' : Int} (h : nameDatum s n = nameDatum s' n') : s = s' ∧ n = n' := by
  simp only [nameDatum, DataW.agg.injEq, List.cons.injEq, DataW.lit.injEq, Lit.string.injEq, Lit.int.injEq, true_and, and_true] at h
  obtain ⟨h1, h2⟩ := h
  refine ⟨?_, h2⟩
  cases s; cases s'
  simpa [Array.toList_inj] using h1

def putRows (l : List (Int × ByteArray × Int)) : DataW Unit := l.foldr (fun x D => D.put (.int .i32 x.1) (nameDatum x.2.1 x.2.2)) (.map [])
theorem putRows_isMap : ∀ l, IsMap (putRows l)
  | [] => isMap_empty
  | _ :: l => (putRows_isMap l).put _ _
theorem putRows_at (r : Int) : ∀ l : List (Int × ByteArray × Int), (∀ x ∈ l, WideAt.IsKeyLit (.int .i32 x.1)) → (putRows l).atKey (.int .i32 r) (nameDatum ⟨#[]⟩ 0) = nameDatum (nameFind l r).1 (nameFind l r).2
  | [], _ => rfl
  | x :: l, h => by
    show ((putRows l).put (.int .i32 x.1) (nameDatum x.2.1 x.2.2)).atKey (.int .i32 r) _ = _
    unfold nameFind
    by_cases e : r = x.1
    · rw [if_pos e, e, atKey_put_same (putRows_isMap l) (h x (List.mem_cons_self ..))]
    · rw [if_neg e, atKey_put_other (by simpa using e)]
      exact putRows_at r l (fun y hy => h y (List.mem_cons_of_mem _ hy))

theorem keys : Keyed Tryd.prog 21 := int_keyed Tryd.underlying21
theorem keyAt (r : Int) (h1 : -2147483648 ≤ r) (h2 : r ≤ 2147483647) : keyOf Tryd.prog 21 (.int .i32 r) = some (.int .i32 r) :=
  keyOf_int_mk Tryd.underlying21 (WalkArith.wf_i32 ⟨h1, h2⟩)
theorem zero_name (w : World) : (zeroValue 38).run Tryd.prog w = .ok (.agg #[.string ⟨#[]⟩, .int .i64 0]) w := by kernel_rfl

/-- One row of the map's literal: the operation stores it. -/
theorem upon_row {o : Oper} {a : Act} {next : Act → World → Prop} {Q : Exit → Act → World → Prop} {w : World} {b k : Nat} {l : List (Int × ByteArray × Int)} {r n : Int} {s : ByteArray}
    (hown : w.ownsMap Tryd.prog 21 nameElem b k (putRows l)) (hk : k < maxLen) (hr : -2147483648 ≤ r ∧ r ≤ 2147483647)
    (hK : ∀ w', w'.ownsMap Tryd.prog 21 nameElem b (k + 1) (putRows ((r, s, n) :: l)) → w.grownBy w' (some b) → next (a.put o.dst undef) w') :
    Oper.upon Tryd.prog o a next Q (((Instr.mapUpdate 39 (.map (some b)) (.int .i32 r) (.agg #[.string s, .int .i64 n])).run Tryd.prog w).andThen fun _ w' => .ok .skip w') := by
  obtain ⟨w', hrun, r1, r2⟩ := hown.update keys Tryd.underlying39 hk (keyAt r hr.1 hr.2) (show nameElem (.agg #[.string s, .int .i64 n]) = some (nameDatum s n, []) from rfl)
  rw [hrun]
  exact hK w' r1 r2

set_option maxHeartbeats 4000000 in
set_option maxRecDepth 100000 in
theorem names_any (w : World) :
    Calls Tryd.prog 36 #[] w fun e w' => e = .returned (.map (some w.heap.size)) ∧ w'.ownsMap Tryd.prog 21 nameElem w.heap.size 32 (putRows nameTab) ∧ Below w.heap.size w w' := by
  have hmm := @run_makeMap Tryd.prog
  have hown : (w.alloc (.map #[] 0)).ownsMap Tryd.prog 21 nameElem w.heap.size 0 (putRows []) := World.ownsMap_made w Tryd.prog 21 nameElem
  have hb : Below w.heap.size w (w.alloc (.map #[] 0)) := (Below.refl _ _).alloc (Nat.le_refl _) _
  go_enter Tryd.func36, Tryd.ntmps36
  go_wp2_with ((refine upon_row hown ?_ ?_ ?_; (unfold maxLen; omega); omega; clear hown; intro wn hown hgrow; replace hb := hb.grown hgrow hb.size (fun j hj => by cases hj; exact Nat.le_refl _); clear hgrow))
  go_ret
  exact ⟨rfl, hown, hb⟩

end Go.Proofs.YtjffiikdfoejhaaDoor.Cht
