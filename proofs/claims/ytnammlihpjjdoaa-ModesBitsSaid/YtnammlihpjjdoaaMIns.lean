/-
  modes: a map literal whose entries may be put in whatever order: behind all of them the map has them all.
-/
import Derived.Test.YtnammlihpjjdoaaMMap
import Derived.Orders
namespace Go.Proofs.Ytnammlihpjjdoaa.Mds
open Go Go.RowKit Go.Proofs.Ytnammlihpjjdoaa.Com

theorem getD_same {l : Array Bool} {i : Nat} (h : i < l.size) (c d : Bool) : l.getD i c = l.getD i d := by
  simp [Array.getD, h]

theorem wpOp_insert {ops : Array Oper} {Q : Exit → Act → World → Prop} {i : Nat} {o : Oper} {a : Act} {w w' : World} {K : Act → World → Prop} (ho : ops[i]? = some o) (hg : o.guard = none) (hd : o.dst = none) {T : TypeId} {m k v : Operand} (hop : o.op = .insert T m k v)
    (hrun : (Instr.mapUpdate T (a.eval m) (a.eval k) (a.eval v)).run Try.prog w = .ok () w') (hK : K a w') : wpOp Try.prog ops Q i K a w := by
  unfold wpOp
  simp only [ho]
  rw [if_pos (by simp [Region.wanted, hg])]
  left
  unfold Oper.wp
  simp [execOp, hop, hrun, Result.andThen]
  show K (a.put o.dst undef) w'
  rw [hd]
  exact hK

theorem after_of {xs : Array Edge} {n : Nat} {all : List Nat} {tail : Nat → Bool} (h : (xs.all fun e => decide (e.on < n) && !all.contains e.on && !tail e.on) = true) : ∀ e ∈ xs, e.on < n ∧ e.on ∉ all ∧ tail e.on = false := by
  intro e he
  have := Array.all_eq_true_iff_forall_mem.1 h e he
  simpa [and_assoc] using this
theorem waits_of {xs : Array Edge} {md : Region.Mode} {i : Nat} (h : (xs.any fun e => Region.binds md e && e.on == i) = true) : ∃ e ∈ xs, Region.binds md e = true ∧ e.on = i := by
  obtain ⟨e, he, hb⟩ := Array.any_eq_true'.1 h
  simp only [Bool.and_eq_true, beq_iff_eq] at hb
  exact ⟨e, he, hb.1, hb.2⟩
theorem wpOp_makeMap {ops : Array Oper} {Q : Exit → Act → World → Prop} {i : Nat} {o : Oper} {a : Act} {w : World} {K : Act → World → Prop} {T : TypeId} (ho : ops[i]? = some o) (hg : o.guard = none) (hop : o.op = .makeMap T none)
    (hK : K (a.put o.dst (.map (some w.heap.size))) (w.alloc (.map #[] 0))) : wpOp Try.prog ops Q i K a w := by
  unfold wpOp
  simp only [ho]
  rw [if_pos (by simp [Region.wanted, hg])]
  left
  have hrun := run_makeMap (P := Try.prog) T w
  unfold Oper.wp
  simp [execOp, hop, hrun, Result.andThen]
  exact hK
theorem listed_eq {l : Array Bool} {n : Nat} {tail : Nat → Bool} (hs : l.size = n) (h : ∀ j, j < n → (l.getD j true = false ↔ tail j = true)) : l = ((List.range n).map fun j => !tail j).toArray := by
  subst hs
  apply Array.ext
  · simp
  intro j h1 h2
  have := h j h1
  rw [show l.getD j true = l[j] by simp [Array.getD, h1]] at this
  simp only [List.getElem_toArray, List.getElem_map, List.getElem_range]
  cases hl : l[j] <;> cases ht : tail j <;> simp_all

/-- The entries numbered 'all', put in whatever order. -/
theorem inserts {ops : Array Oper} {Q : Exit → Act → World → Prop} {md : Region.Mode} {a : Act} {b : Nat} (ent : Nat → En) (all : List Nat) (tail : Nat → Bool)
    (hop : ∀ i ∈ all, ∃ o, ops[i]? = some o ∧ o.guard = none ∧ o.dst = none ∧ (o.after.all fun e => decide (e.on < ops.size) && !all.contains e.on && !tail e.on) = true ∧
      ∃ m k v, o.op = .insert 41 m k v ∧ a.eval m = .map (some b) ∧ a.eval k = kv (ent i).p (ent i).n ∧ a.eval v = .func (.func (ent i).f) #[] #[])
    (hwait : ∀ j, tail j = true → ∃ o, ops[j]? = some o ∧ ∀ i ∈ all, (o.after.any fun e => Region.binds md e && e.on == i) = true)
    (hw : ∀ i ∈ all, (Lit.int .i64 (ent i).n).wf = true) (hdis : ∀ i ∈ all, ∀ j ∈ all, (ent i).p = (ent j).p → (ent i).n = (ent j).n → i = j)
    (w0 : World) (f : Nat)
    (hend : ∀ listed l w, listed.size = ops.size → (∀ j, j < ops.size → (listed.getD j true = false ↔ tail j = true)) → Mp w b l → (∀ e, e ∈ l ↔ ∃ i ∈ all, e = ent i) → Only [b] w0 w → wpAny Try.prog md ops Q f listed a w) :
    ∀ (n : Nat) (todo : List Nat) (l : List En) (w : World) (listed : Array Bool), todo.length = n → todo.Nodup → (∀ i ∈ todo, i ∈ all) → listed.size = ops.size → (∀ j, j < ops.size → (listed.getD j true = false ↔ j ∈ todo ∨ tail j = true)) →
      Mp w b l → (∀ e, e ∈ l ↔ ∃ i ∈ all, i ∉ todo ∧ e = ent i) → Only [b] w0 w → wpAny Try.prog md ops Q (n + f) listed a w := by
  have hin : ∀ i ∈ all, i < ops.size := fun i hi => by
    obtain ⟨o, ho, _⟩ := hop i hi
    exact (Array.getElem?_eq_some_iff.1 ho).1
  intro n
  induction n with
  | zero =>
    intro todo l w listed hn hnd hsub hsz hl hm hmem ho
    have h0 : todo = [] := List.eq_nil_of_length_eq_zero hn
    subst h0
    rw [Nat.zero_add]
    exact hend listed l w hsz (fun j hj => by simpa using hl j hj) hm (fun e => by simpa using hmem e) ho
  | succ n ih =>
    intro todo l w listed hn hnd hsub hsz hl hm hmem hon
    rw [Nat.add_right_comm]
    obtain ⟨i0, hi0⟩ : ∃ i0, i0 ∈ todo := by
      rcases todo with _ | ⟨x, r⟩
      · simp at hn
      · exact ⟨x, List.mem_cons_self⟩
    have ready : ∀ i ∈ todo, i ∈ Region.ready md ops listed := fun i hi => by
      obtain ⟨o, ho, _, _, haf, _⟩ := hop i (hsub i hi)
      refine mem_ready.2 ⟨(hl i (hin i (hsub i hi))).2 (.inl hi), o, ho, fun e he _ => ?_⟩
      obtain ⟨q1, q2, q3⟩ := after_of haf e he
      rw [getD_same (by omega) false true]
      cases hc : listed.getD e.on true
      · rcases (hl e.on q1).1 hc with h | h
        · exact absurd (hsub _ h) q2
        · rw [q3] at h
          cases h
      · rfl
    refine ⟨fun h0 => (by have := ready i0 hi0; rw [h0] at this; simp at this), fun i hi => ?_⟩
    obtain ⟨hun, o', ho', hall⟩ := mem_ready.1 hi
    have hlt : i < ops.size := (Array.getElem?_eq_some_iff.1 ho').1
    rcases (hl i hlt).1 hun with hit | htl
    case inr =>
      obtain ⟨o2, ho2, hw2⟩ := hwait i htl
      rw [ho'] at ho2
      cases ho2
      obtain ⟨e, he, hb, hon2⟩ := waits_of (hw2 i0 (hsub i0 hi0))
      have h1 := hall e he hb
      have h2 := (hl i0 (hin i0 (hsub i0 hi0))).2 (.inl hi0)
      rw [hon2, getD_same (by have := hin i0 (hsub i0 hi0); omega) false true, h2] at h1
      cases h1
    obtain ⟨o, ho, hg, hd, haf, m, k, v, hopi, em, ek, ev⟩ := hop i (hsub i hit)
    have hfine : Fine l := fun e he => by
      obtain ⟨j, hj, _, rfl⟩ := (hmem e).1 he
      exact hw j hj
    have hne : ∀ e ∈ l, ¬ (e.p = (ent i).p ∧ e.n = (ent i).n) := by
      rintro e he ⟨q1, q2⟩
      obtain ⟨j, hj, hjt, rfl⟩ := (hmem e).1 he
      have := hdis j hj i (hsub i hit) q1 q2
      subst this
      exact hjt hit
    obtain ⟨w', hrun, hm', hon'⟩ := put_new hm hfine (ent i).p (ent i).n (hw i (hsub i hit)) (ent i).f hne
    refine wpOp_insert ho hg hd hopi (by rw [em, ek, ev]; exact hrun) ?_
    refine ih (todo.erase i) (l ++ [⟨(ent i).p, (ent i).n, (ent i).f⟩]) w' (listed.setIfInBounds i true) (by rw [List.length_erase_of_mem hit]; omega) (hnd.erase i) (fun j hj => hsub j (List.mem_of_mem_erase hj)) (by simpa using hsz) ?_ hm' ?_ (hon.trans hon')
    · intro j hj
      by_cases hji : i = j
      · subst hji
        have ht : listed.size > i := by omega
        have h1 : (listed.setIfInBounds i true).getD i true = true := by simp [ht]
        rw [h1]
        constructor
        · intro h
          cases h
        · rintro (h | h)
          · exact absurd h (hnd.not_mem_erase)
          · obtain ⟨o2, ho2, hw2⟩ := hwait i h
            rw [ho] at ho2
            cases ho2
            obtain ⟨e, he, hb, hon2⟩ := waits_of (hw2 i (hsub i hit))
            exact absurd (hsub i hit) (hon2 ▸ (after_of haf e he).2.1)
      · rw [getD_set_ne true hji, hl j hj, List.mem_erase_of_ne (Ne.symm hji)]
    · intro e
      rw [List.mem_append, hmem e, List.mem_singleton]
      constructor
      · rintro (⟨j, hj, hjt, rfl⟩ | rfl)
        · exact ⟨j, hj, fun h => hjt (List.mem_of_mem_erase h), rfl⟩
        · exact ⟨i, hsub i hit, hnd.not_mem_erase, rfl⟩
      · rintro ⟨j, hj, hjt, rfl⟩
        by_cases hji : j = i
        · subst hji
          exact .inr rfl
        · exact .inl ⟨j, hj, fun h => hjt ((List.mem_erase_of_ne hji).2 h), rfl⟩

end Go.Proofs.Ytnammlihpjjdoaa.Mds
