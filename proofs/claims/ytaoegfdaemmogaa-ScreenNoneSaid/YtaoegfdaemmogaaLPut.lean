/-
  lines: the counter; the ring emptied, and a new line put into it.
-/
import Derived.Test.YtaoegfdaemmogaaLRing
namespace Go.Proofs.Ytaoegfdaemmogaa.Lns
open Go Go.RowKit Go.Proofs.Ytaoegfdaemmogaa.Com Go.Proofs.Ytaoegfdaemmogaa.Rw

theorem step_appN {P : Program} {t e : TypeId} {z : Value} {size : Nat} (E : ElemN P t e z size) {w : World} {ops : Array Oper} {o : Oper} {a : Go.Act} {K : Go.Act → World → Prop} {Q : Exit → Go.Act → World → Prop} {F : Prop} (hw : Region.wanted o (yielded ops a.tmps) = true) (s x : Operand)
    (ho : o.op = .call { callee := .builtin .append, args := #[s, x], argTypes := #[t, t] })
    (B : Nat) (v : Value) (n : Nat) (xs : List Value) (ad : Addr) (m c : Nat) (news : List Value) (hs : a.eval s = v) (hxe : a.eval x = .slice (some ad) m c)
    (h : w.ownsRow B e size v n xs) (hl : news.length = m * size) (hnews : ∀ j u, news[j]? = some u → w.cell? (ad.add j) = some u) (h1 : ∀ u ∈ news, u.oneCell' = true) (hB : B ≤ w.heap.size) (hx : n + m ≤ 100000)
    (hK : ∀ v' w', w'.ownsRow B e size v' (n + m) (xs ++ news) → Only v.ownBlock.toList w w' → (v'.ownBlock = v.ownBlock ∨ v'.ownBlock = some w.heap.size) → K (a.put o.dst v') w') :
    if Region.wanted o (yielded ops a.tmps) = true then Oper.wp P o a w K Q else F := by
  rw [if_pos hw]
  exact wp_appN E s x ho B v n xs ad m c news hs hxe h hl hnews h1 hB hx hK
theorem elemL : ElemN Try.prog 58 92 (.agg #[.int .i64 0, .pointer none]) 2 := by
  have h : (Try.prog.info? 92).map (fun i => (i.zero, i.size, decide (i.bytes ≤ 100))) = some (some (.agg #[.int .i64 0, .pointer none]), 2, true) := by kernel_rfl
  refine ⟨Try.underlying58, ?_, rfl, by omega⟩
  cases hq : Try.prog.info? 92 with
  | none => simp [hq] at h
  | some i =>
    simp only [hq, Option.map_some, Option.some.injEq, Prod.mk.injEq, decide_eq_true_eq] at h
    exact ⟨i, rfl, h.1, h.2.1, h.2.2⟩
theorem info31 : (Try.prog.info? 58).map (·.size) = some 1 := by kernel_rfl
theorem splice2 {α : Type} (cur : List α) (o : Nat) (a b : α) (h : o + 2 ≤ cur.length) : splice cur o [a, b] = (cur.set o a).set (o + 1) b := by
  unfold splice
  simp only [List.length_cons, List.length_nil]
  rw [List.set_eq_take_append_cons_drop, if_pos (by rw [List.length_set]; omega), List.take_add_one, List.getElem?_set, if_pos rfl, if_pos (by omega), List.take_set_of_le (Nat.le_refl _), List.drop_set_of_lt (by omega)]
  simp
theorem fl_set2 (P : List En) (o : Nat) (e0 : En) (h : o < P.length) : fl lineC (P.set o e0) = ((fl lineC P).set (o * 2) (.int .i64 e0.id)).set (o * 2 + 1) (.pointer (some ⟨e0.d, 0, none⟩)) := by
  have e1 := fl_splice lineC_length P [e0] [] o (by simp; omega)
  rw [List.append_nil, List.append_nil, fl_one, splice_set _ _ _ h] at e1
  rw [← e1]
  exact splice2 _ _ _ _ (by rw [fl_length lineC_length]; omega)
section
variable {B : Nat} {w w' : World} {s nx most o : Nat} {sv : Value} {P R : List En}

theorem setnx (h : SX0 B w s nx most sv o P) (m : Nat) (h0 : 0 < m) (h1 : m ≤ 1000000) : SX0 B (w.setCell ⟨s, 0, none⟩ (.int .i64 m)) s m most sv o P :=
  have ho : Only [s] w (w.setCell ⟨s, 0, none⟩ (.int .i64 m)) := Only.setCell w ⟨s, 0, none⟩ _
  ⟨h.blk.set 0 _, owns_only h.own ho (fun g hg => not_in1 (owns_typ h.own g hg) (Block.typ h.blk) (by decide)), h.le, h.old, h.olt, h.most, h0, h1, h.lo⟩
theorem take_any (h : SX0 B w s nx most sv o P) (hx : nx < 1000000) : Calls Try.prog 82 #[.pointer (some ⟨s, 0, none⟩)] w fun e w' => e = .returned (.int .i64 nx) ∧ SX0 B w' s (nx + 1) most sv o P ∧ Only [s] w w' := by
  obtain ⟨h0, _, _, _⟩ := h.cells
  have hf := h.blk.free 0
  have hn := setnx h (nx + 1) (by omega) (by omega)
  rw [Int.natCast_add, Int.natCast_one] at hn
  have hres := Lib.hid (And.intro hn (Only.setCell w ⟨s, 0, none⟩ (.int .i64 ((nx : Int) + 1))))
  clear h hn
  go_enter Try.func82, Try.ntmps82
  go_wp2
  go_ret
  exact ⟨ret_int (by omega), hres.out⟩
theorem taken_any (h : SX0 B w s nx most sv o P) (id : Int) : Calls Try.prog 93 #[.pointer (some ⟨s, 0, none⟩), .int .i64 id] w fun e w' => e = .returned (.bool (decide (1 ≤ id ∧ id < nx))) ∧ w = w' := by
  obtain ⟨h0, _, _, _⟩ := h.cells
  obtain ⟨b, hb⟩ : ∃ b, b = decide (1 ≤ id ∧ id < nx) := ⟨_, rfl⟩
  rw [← hb]
  replace hb := Lib.hid hb
  clear h
  by_cases h1 : 1 ≤ id
  · go_enter Try.func93, Try.ntmps93
    go_wp2
    go_ret
    exact ⟨ret_bool (by rw [hb.out, Bool.eq_iff_iff]; simp; omega), rfl⟩
  · have h2 : decide (1 ≤ id) = false := decide_eq_false h1
    go_enter Try.func93, Try.ntmps93
    go_wp2
    go_ret
    exact ⟨ret_bool (by rw [hb.out]; symm; exact decide_eq_false (by omega)), rfl⟩
end
end Go.Proofs.Ytaoegfdaemmogaa.Lns
