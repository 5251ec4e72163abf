/-
  More words for memory: what a call leaves below a number, an owned row's cells and a store into one, an append in a region that draws.
-/
import Derived.Test.YtbibnnbmiefcgaaCom
import Derived.WalkSmall
namespace Go.Proofs.Ytbibnnbmiefcgaa.Com
open Go Go.RowKit

theorem below_new (w : World) (o : Obj) : Below w.heap.size w (w.alloc o) := (Below.refl _ _).alloc (Nat.le_refl _) o
theorem below_next {a b c : World} (h : Below a.heap.size a b) (g : Below b.heap.size b c) : Below a.heap.size a c := h.trans (g.mono h.size)
theorem below_on {a b c : World} {d : Nat} (h : Below a.heap.size a b) (g : Only [d] b c) (hd : a.heap.size ≤ d) : Below a.heap.size a c := h.trans (g.below h.size (by simpa using hd))
theorem below_dr {a b : World} (h : Below a.heap.size a b) (n : Nat) : Below a.heap.size a (b.drewN n) := below_drewN h n

theorem own_nums {w : World} {B : Nat} {e : TypeId} {k : IntKind} {ao : Option Addr} {n c : Nat} {l : List Int} (h : Own w B e k (.slice ao n c) l) : Nums w w.heap.size k ao l := by
  obtain ⟨a', c', e', _, _, hn⟩ := h.shape
  cases e'
  exact hn
theorem own_apart {w : World} {B B' : Nat} {e e' : TypeId} {k k' : IntKind} {v v' : Value} {l l' : List Int} (h : Own w B e k v l) (h' : Own w B' e' k' v' l') (he : e ≠ e') : ∀ g, v.ownBlock = some g → g ∉ v'.ownBlock.toList := by
  intro g hg hm
  rcases h.2 with ⟨rfl, _⟩ | ⟨x, cap, cur, rfl, _, hh, _⟩
  · simp [Value.ownBlock] at hg
  · have hx : x = g := by simpa [Value.ownBlock] using hg
    subst hx
    exact h'.apart (g := x) hh (fun e => he e.symm) (by simpa using hm)
/-- What an owned row of at least one number looks like. -/
theorem own_form {w : World} {B : Nat} {e : TypeId} {k : IntKind} {v : Value} {l : List Int} (h : Own w B e k v l) (hl : 0 < l.length) :
    ∃ g cap, v = .slice (some ⟨g, 0, none⟩) l.length cap ∧ B ≤ g ∧ (∀ i x, l[i]? = some x → w.cell? ⟨g, i, none⟩ = some (.int k x)) ∧ ∀ i, w.frozen? ⟨g, i, none⟩ = false := by
  have hs := h.shape
  rcases h.2 with ⟨_, hn⟩ | ⟨g, cap, cur, rfl, hg, _⟩
  · omega
  · refine ⟨g, cap, rfl, hg, fun i x hx => ?_, fun i => World.ownsRow.frozenAt h i⟩
    obtain ⟨ao, c', e', _, _, hn⟩ := hs
    cases e'
    obtain ⟨ad, e', _, hc⟩ := hn i x hx
    cases e'
    rw [Addr.add_lit, Nat.zero_add] at hc
    exact hc
theorem own_stored {w : World} {B : Nat} {e : TypeId} {k : IntKind} {g n cap : Nat} {l : List Int} (h : Own w B e k (.slice (some ⟨g, 0, none⟩) n cap) l) (hn : n = l.length) (i : Nat) (x : Int) :
    Own (w.setCell ⟨g, i, none⟩ (.int k x)) B e k (.slice (some ⟨g, 0, none⟩) n cap) (l.set i x) := by
  subst hn
  have := (World.ownsRow.stored h i (.int k x)).1
  unfold Own
  rw [List.length_set, List.map_set]
  exact this

/-- append in a region that draws its order. -/
theorem step_app {P : Program} {t e : TypeId} {k : IntKind} {bytes : Nat} (E : Elem P t e k bytes) {w : World} {ops : Array Oper} {o : Oper} {a : Act} {K : Act → World → Prop} {Q : Exit → Act → World → Prop} {F : Prop} (hw : Region.wanted o (yielded ops a.tmps) = true) (s x : Operand)
    (ho : o.op = .call { callee := .builtin .append, args := #[s, x], argTypes := #[t, t] })
    (B : Nat) (v : Value) (l m : List Int) (ao : Option Addr) (B' c : Nat) (hs : a.eval s = v) (hxe : a.eval x = .slice ao m.length c)
    (h : Own w B e k v l) (hm : Nums w B' k ao m) (hB : B ≤ w.heap.size) (hn : (l.length + m.length) * bytes ≤ 140737488355328) (hx : l.length + m.length ≤ maxLen)
    (hK : ∀ v' w', Own w' B e k v' (l ++ m) → Only v.ownBlock.toList w w' → (v'.ownBlock = v.ownBlock ∨ v'.ownBlock = some w.heap.size) → K (a.put o.dst v') w') :
    if Region.wanted o (yielded ops a.tmps) = true then Oper.wp P o a w K Q else F := by
  rw [if_pos hw]
  exact wp_app E s x ho B v l m ao B' c hs hxe h hm hB hn hx hK

theorem take_snoc {l : List Int} {k : Nat} (h : k < l.length) : l.take (k + 1) = l.take k ++ [l[k]] := by
  rw [List.take_add_one, List.getElem?_eq_getElem h]
  rfl
theorem getD_at {l : List Int} {k : Nat} (h : k < l.length) : l.getD k 0 = l[k] := by rw [List.getD_eq_getElem?_getD, List.getElem?_eq_getElem h]; rfl

end Go.Proofs.Ytbibnnbmiefcgaa.Com
