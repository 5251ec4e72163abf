/-
  sgr: the law's map of pairs: eight entries laid one by one; what an entry of it is.
-/
import Derived.Test.YtlpihhjdgipgnaaDoorSParts
import Derived.Maps.RangeWalk
import Derived.Maps.Own
import Derived.Carry
namespace Go.Proofs.YtlpihhjdgipgnaaDoor.Sgr
open Go Go.RowKit Go.Proofs.YtlpihhjdgipgnaaDoor.Com
open Go.WideShapes Go.WideAt
open Go.Maps (Keyed keyOf_int_mk)

theorem law3 : Keyed Tryd.prog 3 := Maps.int_keyed Tryd.underlying3
/-- An entry of a literal: as 'm[k] = v'. -/
theorem wpList_insert_own {H : Type} {P : Program} (w : World) {ops : Array Oper} {rest : List Oper} {o : Oper} {a : Act} {Q : Exit → Act → World → Prop}
    (hg : o.guard = none) (m x v : Operand) (t : TypeId) (hop : o.op = Op.insert t m x v)
    (k e : TypeId) (K : Keyed P k) (ht : P.underlying t = some (.map k e)) (R : Value → Option (DataW H × List MemPlace)) (b n : Nat) (D : DataW H)
    (hm : a.eval m = .map (some b)) (hown : w.ownsMap P k R b n D) (hn : n < maxLen) (key val : Value) (kl : Lit) (hx : a.eval x = key) (hv : a.eval v = val) (hkey : keyOf P k key = some kl)
    (d : DataW H) (ps : List MemPlace) (hval : R val = some (d, ps))
    (hK : ∀ w', w'.ownsMap P k R b (n + 1) (D.put kl d) → w.grownBy w' (some b) → wpList P ops Q rest (a.put o.dst undef) w') :
    wpList P ops Q (o :: rest) a w := by
  refine wpList_plain hg fun K' hK' => ?_
  obtain ⟨w', hrun, r1, r2⟩ := hown.update K ht hn hkey hval
  unfold Oper.wp
  simp [execOp, hop, hm, hx, hv, hrun, Result.andThen]
  exact hK' _ _ (hK w' r1 r2)

theorem wpList_insert_ii (w : World) {ops : Array Oper} {rest : List Oper} {o : Oper} {a : Act} {Q : Exit → Act → World → Prop} (p q : Int)
    (hg : o.guard = none) (m : Operand) (hop : o.op = Op.insert 38 m (.const (.int .i64 p)) (.const (.int .i64 q)))
    (b n : Nat) (D : DataW Unit) (hm : a.eval m = .map (some b)) (hown : w.ownsMap Tryd.prog 3 (plainElem Tryd.prog 3) b n D) (hn : n < maxLen) (wp : (Lit.int .i64 p).wf = true) (wq : (Lit.int .i64 q).wf = true)
    (hK : ∀ w', w'.ownsMap Tryd.prog 3 (plainElem Tryd.prog 3) b (n + 1) (D.put (.int .i64 p) (.lit (.int .i64 q))) → w.grownBy w' (some b) → wpList Tryd.prog ops Q rest (a.put o.dst undef) w') :
    wpList Tryd.prog ops Q (o :: rest) a w :=
  wpList_insert_own w hg m _ _ _ hop 3 3 law3 Tryd.underlying38 _ b n D hm hown hn (.int .i64 p) (.int .i64 q) (.int .i64 p) rfl rfl (keyOf_int_mk Tryd.underlying3 wp) _ [] (plainElem_int Tryd.underlying3 wq) hK

def D8 : DataW Unit := .map [(.int .i64 1, .lit (.int .i64 22)), (.int .i64 2, .lit (.int .i64 22)), (.int .i64 3, .lit (.int .i64 23)), (.int .i64 4, .lit (.int .i64 24)), (.int .i64 5, .lit (.int .i64 25)), (.int .i64 7, .lit (.int .i64 27)), (.int .i64 8, .lit (.int .i64 28)), (.int .i64 9, .lit (.int .i64 29))]
theorem made8 : ((((((((DataW.map [] : DataW Unit).put (.int .i64 1) (.lit (.int .i64 22))).put (.int .i64 2) (.lit (.int .i64 22))).put (.int .i64 3) (.lit (.int .i64 23))).put (.int .i64 4) (.lit (.int .i64 24))).put (.int .i64 5) (.lit (.int .i64 25))).put (.int .i64 7) (.lit (.int .i64 27))).put (.int .i64 8) (.lit (.int .i64 28))).put (.int .i64 9) (.lit (.int .i64 29)) = D8 := by kernel_rfl
theorem has8 {x : Int} (h : Maps.has D8 (.int .i64 x) = true) : x = 1 ∨ x = 2 ∨ x = 3 ∨ x = 4 ∨ x = 5 ∨ x = 7 ∨ x = 8 ∨ x = 9 := by
  simp [Maps.has, D8, Lit.sameKey] at h
  omega
theorem pair8 {x c : Int} (h : Maps.has D8 (.int .i64 x) = true) (hat : ∀ zd, D8.atKey (.int .i64 x) zd = .lit (.int .i64 c)) : Pair x c := by
  have hc := hat (.lit (.int .i64 0))
  rcases has8 h with rfl | rfl | rfl | rfl | rfl | rfl | rfl | rfl
  all_goals
    simp [DataW.atKey, D8, Lit.sameKey] at hc
    subst hc
    constructor

theorem only_some {w w' : World} {b : Nat} (h : w.grownBy w' (some b)) : Only [b] w w' := by simpa using Only.grown h
theorem only_null {w w' : World} (h : w.grownBy w' Option.none) : Only [] w w' := by simpa using Only.grown h
/-- Nothing that was there has turned. -/
theorem grown_none {w w' : World} (h : Below w.heap.size w w') : w.grownBy w' none := ⟨h.os, h.tape, h.output, h.size, fun k hk _ => h.block k hk⟩
theorem ranges_new {P : Program} {k : TypeId} {R : Value → Option (DataW Unit × List MemPlace)} {w w' : World} {b r n : Nat} {D : DataW Unit} {left : Lit → Bool} {cnt : Nat} (h : w.ranges P k R b r n D left cnt) (hb : Below w.heap.size w w') : w'.ranges P k R b r n D left cnt := h.kept (grown_none hb) (by simp) (by simp)

end Go.Proofs.YtlpihhjdgipgnaaDoor.Sgr
