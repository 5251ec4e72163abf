/-
  tabs: rows of bools that the call owns.
-/
import Derived.Test.YtihmagpgbjlggaaDoorTAll
namespace Go.Proofs.YtihmagpgbjlggaaDoor.Tbs
open Go Go.RowKit Go.Proofs.YtihmagpgbjlggaaDoor.Com

def OwnB (w : World) (B : Nat) (v : Value) (l : List Bool) : Prop := w.ownsRow B 4 1 v l.length (l.map Value.bool)
/-- What a slice of bools shows. -/
def Bools (w : World) (ao : Option Addr) (l : List Bool) : Prop := ∀ i x, l[i]? = some x → ∃ ad, ao = some ad ∧ w.cell? (ad.add i) = some (.bool x)
theorem Bools.at {w : World} {ao : Option Addr} {l : List Bool} (h : Bools w ao l) {i : Nat} (hi : i < l.length) : ∃ ad, ao = some ad ∧ w.cell? (ad.add i) = some (.bool l[i]) := h i _ (List.getElem?_eq_getElem hi)
theorem OwnB.nil (w : World) (B : Nat) : OwnB w B (.slice none 0 0) [] := World.ownsRow_nil w B 4 1
theorem OwnB.lt {w : World} {B : Nat} {v : Value} {l : List Bool} (h : OwnB w B v l) : ∀ g, v.ownBlock = some g → B ≤ g ∧ g < w.heap.size := World.ownsRow.lt h
theorem OwnB.only {L : List Nat} {w w' : World} {B : Nat} {v : Value} {l : List Bool} (h : OwnB w B v l) (ho : Only L w w') (hn : ∀ g, v.ownBlock = some g → g ∉ L) : OwnB w' B v l := by
  refine ⟨h.1, ?_⟩
  rcases h.2 with h2 | ⟨g, cap, cur, rfl, hg, hh, r⟩
  · exact .inl h2
  · exact .inr ⟨g, cap, cur, rfl, hg, (ho.block g (lt_of_block hh) (hn g rfl)).trans hh, r⟩
theorem OwnB.below {w w' : World} {B : Nat} {v : Value} {l : List Bool} (h : OwnB w B v l) (hb : Below w.heap.size w w') : OwnB w' B v l := h.only (Only.of_below hb []) (by simp)
theorem OwnB.lower {w : World} {B B' : Nat} {v : Value} {l : List Bool} (h : OwnB w B v l) (hB : B' ≤ B) : OwnB w B' v l := by
  refine ⟨h.1, ?_⟩
  rcases h.2 with h2 | ⟨g, cap, cur, rfl, hg, r⟩
  · exact .inl h2
  · exact .inr ⟨g, cap, cur, rfl, by omega, r⟩
theorem OwnB.shape {w : World} {B : Nat} {v : Value} {l : List Bool} (h : OwnB w B v l) : ∃ ao cap, v = .slice ao l.length cap ∧ l.length ≤ cap ∧ Bools w ao l := by
  have hc := fun g hg => World.ownsRow.cells h (g := g) hg
  rcases h.2 with ⟨rfl, hn⟩ | ⟨g, cap, cur, rfl, _, hh, hn, hm, _⟩
  · have hl : l = [] := List.eq_nil_of_length_eq_zero hn
    subst hl
    exact ⟨none, 0, rfl, Nat.le_refl _, fun i x h => by simp at h⟩
  · exact ⟨_, cap, rfl, hn, fun i x hx => ⟨_, rfl, hc g rfl i _ (by rw [List.getElem?_map, hx]; rfl)⟩⟩
/-- A block of another type is another block. -/
theorem OwnB.apart {w : World} {B : Nat} {t : TypeId} {v : Value} {l : List Bool} {g : Nat} {cs : Array Value} (h : OwnB w B v l) (hb : Block w g t cs) (ht : 4 ≠ t) : v.ownBlock ≠ some g := by
  intro hv
  rcases h.2 with ⟨rfl, _⟩ | ⟨g', cap, cur, rfl, _, hh, _⟩
  · simp [Value.ownBlock] at hv
  · have he : g' = g := by simpa [Value.ownBlock] using hv
    exact Block.apart (t := 4) hh hb ht he
theorem OwnB.not_in {w : World} {B : Nat} {t : TypeId} {v : Value} {l : List Bool} {g : Nat} {cs : Array Value} (h : OwnB w B v l) (hb : Block w g t cs) (ht : 4 ≠ t) : ∀ k, v.ownBlock = some k → k ∉ [g] := fun k hk hm => by
  obtain rfl : k = g := by simpa using hm
  exact h.apart hb ht hk
/-- What an owned row of at least one bool looks like. -/
theorem OwnB.form {w : World} {B : Nat} {v : Value} {l : List Bool} (h : OwnB w B v l) (hl : 0 < l.length) :
    ∃ g cap, v = .slice (some ⟨g, 0, none⟩) l.length cap ∧ B ≤ g ∧ (∀ i x, l[i]? = some x → w.cell? ⟨g, i, none⟩ = some (.bool x)) ∧ ∀ i, w.frozen? ⟨g, i, none⟩ = false := by
  have hs := h.shape
  rcases h.2 with ⟨_, hn⟩ | ⟨g, cap, cur, rfl, hg, _⟩
  · omega
  · refine ⟨g, cap, rfl, hg, fun i x hx => ?_, fun i => World.ownsRow.frozenAt h i⟩
    obtain ⟨ao, c', e', _, hn⟩ := hs
    cases e'
    obtain ⟨ad, e', hc⟩ := hn i x hx
    cases e'
    rw [Addr.add_lit, Nat.zero_add] at hc
    exact hc
theorem OwnB.stored {w : World} {B : Nat} {g n cap : Nat} {l : List Bool} (h : OwnB w B (.slice (some ⟨g, 0, none⟩) n cap) l) (hn : n = l.length) (i : Nat) (x : Bool) :
    OwnB (w.setCell ⟨g, i, none⟩ (.bool x)) B (.slice (some ⟨g, 0, none⟩) n cap) (l.set i x) := by
  subst hn
  have := (World.ownsRow.stored h i (.bool x)).1
  unfold OwnB
  rw [List.length_set, List.map_set]
  exact this

theorem elemB : ∃ i, Tryd.prog.info? 4 = some i ∧ i.zero = some (.bool false) ∧ i.size = 1 ∧ i.bytes = 1 := by
  have h : (Tryd.prog.info? 4).map (fun i => (i.zero, i.size, i.bytes)) = some (some (.bool false), 1, 1) := by kernel_rfl
  obtain ⟨i, h0, h1, h2, h3⟩ := info_parts h
  exact ⟨i, h0, h1, h2, h3⟩
/-- append of one bool. -/
theorem run_appB (w : World) (ty : TypeId) (B : Nat) (v : Value) (l : List Bool) (b : Bool) (ad : Addr) (c : Nat) (h : OwnB w B v l) (hm : w.cell? ad = some (.bool b)) (hB : B ≤ w.heap.size) (hn : l.length + 1 ≤ 1000000) :
    ∃ v' w', (Builtin.append_ #[38, 38] ty #[v, .slice (some ad) 1 c]).run Tryd.prog w = .ok v' w' ∧ OwnB w' B v' (l ++ [b]) ∧ Only v.ownBlock.toList w w' := by
  obtain ⟨i, hi, hz, hs, hb⟩ := elemB
  obtain ⟨v', w', hr, h2, h3, _, _⟩ := run_append_own_at (P := Tryd.prog) w B 38 ty 4 i (.bool false) 1 1 Tryd.underlying38 hi hz hs hb rfl (by omega) v l.length (l.map Value.bool) h ad 1 c [.bool b] (by simp)
    (fun j u hu => by
      rcases j with _ | j
      · simp at hu
        subst hu
        simpa [Addr.add] using hm
      · simp at hu)
    (fun u hu => by
      simp at hu
      subst hu
      rfl) (by simp [maxLen]; omega) (by omega) hB
  refine ⟨v', w', hr, ?_, Only.grown h3⟩
  unfold OwnB
  rw [List.length_append, List.map_append]
  exact h2
theorem wpList_appB {w : World} {ops : Array Oper} {rest : List Oper} {o : Oper} {a : Act} {Q : Exit → Act → World → Prop} (hgd : Region.wanted o (yielded ops a.tmps) = true) (s x : Operand)
    (ho : o.op = .call { callee := .builtin .append, args := #[s, x], argTypes := #[38, 38] })
    (B : Nat) (v : Value) (l : List Bool) (b : Bool) (ad : Addr) (c : Nat) (hs : a.eval s = v) (hxe : a.eval x = .slice (some ad) 1 c)
    (h : OwnB w B v l) (hm : w.cell? ad = some (.bool b)) (hB : B ≤ w.heap.size) (hn : l.length + 1 ≤ 1000000)
    (hK : ∀ v' w', OwnB w' B v' (l ++ [b]) → Only v.ownBlock.toList w w' → wpList Tryd.prog ops Q rest (a.put o.dst v') w') : wpList Tryd.prog ops Q (o :: rest) a w :=
  wpList_wanted hgd fun K hK' => by
    obtain ⟨v', w', hr, h2, h3⟩ := run_appB w o.type B v l b ad c h hm hB hn
    unfold Oper.wp execOp
    simp only [ho, resolve, invoke, builtin, Sem.run_bind, Sem.run_pure, Result.andThen_ok, List.map_toArray, List.map_cons, List.map_nil, hs, hxe, hr]
    exact hK' _ _ (hK v' w' h2 h3)
theorem lit_cell (w : World) (t : TypeId) (b : Bool) : (w.alloc (.cells #[.bool b] t)).cell? ⟨w.heap.size, 0, none⟩ = some (.bool b) := (Block.made w t #[.bool b]).cell 0 rfl

end Go.Proofs.YtihmagpgbjlggaaDoor.Tbs
