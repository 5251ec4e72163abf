/-
  More words for memory: what a call leaves below a number, an owned row's cells and a store into one, an append in a region that draws. More words for memory: numbers in blocks that are told apart by a predicate; two lists side by side; a value of some cells stored into a known block; a text gone over while memory is made. More words for memory: a struct loaded from where its cells are.
-/
import Derived.Test.YtaoegfdaemmogaaGreatIn
import Derived.WalkSmall
import Derived.Laws.RangeAny
namespace Go.Proofs.YtaoegfdaemmogaaGreat.Com
open Go Go.RowKit

theorem below_new (w : World) (o : Obj) : Below w.heap.size w (w.alloc o) := (Below.refl _ _).alloc (Nat.le_refl _) o
theorem below_next {a b c : World} (h : Below a.heap.size a b) (g : Below b.heap.size b c) : Below a.heap.size a c := h.trans (g.mono h.size)
theorem below_on {a b c : World} {d : Nat} (h : Below a.heap.size a b) (g : Only [d] b c) (hd : a.heap.size ≤ d) : Below a.heap.size a c := h.trans (g.below h.size (by simpa using hd))
theorem below_dr {a b : World} (h : Below a.heap.size a b) (n : Nat) : Below a.heap.size a (b.drewN n) := below_drewN h n

theorem own_nums {w : World} {B : Nat} {e : TypeId} {k : IntKind} {ao : Option Addr} {n c : Nat} {l : List Int} (h : Own w B e k (.slice ao n c) l) : Nums w w.heap.size k ao l := by
  obtain ⟨a', c', e', _, _, hn⟩ := h.shape
  cases e'
  exact hn
theorem own_apart {w : World} {B B' : Nat} {e e' : TypeId} {k k' : IntKind} {v v' : Value} {l l' : List Int} (h : Own w B e k v l) (h' : Own w B' e' k' v' l') (he : e ≠ e') : ∀ g, v.ownBlock = some g → g ∉ v'.ownBlock.toList := by
  intro g hg hm
  rcases h.2 with ⟨rfl, _⟩ | ⟨x, cap, cur, rfl, _, hh, _⟩
  · simp [Value.ownBlock] at hg
  · have hx : x = g := by simpa [Value.ownBlock] using hg
    subst hx
    exact h'.apart (g := x) hh (fun e => he e.symm) (by simpa using hm)
/-- What an owned row of at least one number looks like. -/
theorem own_form {w : World} {B : Nat} {e : TypeId} {k : IntKind} {v : Value} {l : List Int} (h : Own w B e k v l) (hl : 0 < l.length) :
    ∃ g cap, v = .slice (some ⟨g, 0, none⟩) l.length cap ∧ B ≤ g ∧ (∀ i x, l[i]? = some x → w.cell? ⟨g, i, none⟩ = some (.int k x)) ∧ ∀ i, w.frozen? ⟨g, i, none⟩ = false := by
  have hs := h.shape
  rcases h.2 with ⟨_, hn⟩ | ⟨g, cap, cur, rfl, hg, _⟩
  · omega
  · refine ⟨g, cap, rfl, hg, fun i x hx => ?_, fun i => World.ownsRow.frozenAt h i⟩
    obtain ⟨ao, c', e', _, _, hn⟩ := hs
    cases e'
    obtain ⟨ad, e', _, hc⟩ := hn i x hx
    cases e'
    rw [Addr.add_lit, Nat.zero_add] at hc
    exact hc
theorem own_stored {w : World} {B : Nat} {e : TypeId} {k : IntKind} {g n cap : Nat} {l : List Int} (h : Own w B e k (.slice (some ⟨g, 0, none⟩) n cap) l) (hn : n = l.length) (i : Nat) (x : Int) :
    Own (w.setCell ⟨g, i, none⟩ (.int k x)) B e k (.slice (some ⟨g, 0, none⟩) n cap) (l.set i x) := by
  subst hn
  have := (World.ownsRow.stored h i (.int k x)).1
  unfold Own
  rw [List.length_set, List.map_set]
  exact this

/-- append in a region that draws its order. -/
theorem step_app {P : Program} {t e : TypeId} {k : IntKind} {bytes : Nat} (E : Elem P t e k bytes) {w : World} {ops : Array Oper} {o : Oper} {a : Act} {K : Act → World → Prop} {Q : Exit → Act → World → Prop} {F : Prop} (hw : Region.wanted o (yielded ops a.tmps) = true) (s x : Operand)
    (ho : o.op = .call { callee := .builtin .append, args := #[s, x], argTypes := #[t, t] })
    (B : Nat) (v : Value) (l m : List Int) (ao : Option Addr) (B' c : Nat) (hs : a.eval s = v) (hxe : a.eval x = .slice ao m.length c)
    (h : Own w B e k v l) (hm : Nums w B' k ao m) (hB : B ≤ w.heap.size) (hn : (l.length + m.length) * bytes ≤ 140737488355328) (hx : l.length + m.length ≤ maxLen)
    (hK : ∀ v' w', Own w' B e k v' (l ++ m) → Only v.ownBlock.toList w w' → (v'.ownBlock = v.ownBlock ∨ v'.ownBlock = some w.heap.size) → K (a.put o.dst v') w') :
    if Region.wanted o (yielded ops a.tmps) = true then Oper.wp P o a w K Q else F := by
  rw [if_pos hw]
  exact wp_app E s x ho B v l m ao B' c hs hxe h hm hB hn hx hK

theorem take_snoc {l : List Int} {k : Nat} (h : k < l.length) : l.take (k + 1) = l.take k ++ [l[k]] := by
  rw [List.take_add_one, List.getElem?_eq_getElem h]
  rfl
theorem getD_at {l : List Int} {k : Nat} (h : k < l.length) : l.getD k 0 = l[k] := by rw [List.getD_eq_getElem?_getD, List.getElem?_eq_getElem h]; rfl

end Go.Proofs.YtaoegfdaemmogaaGreat.Com
namespace Go.Proofs.YtaoegfdaemmogaaGreat.Com
open Go Go.RowKit

theorem only_drew (L : List Nat) (w : World) : Only L w w.drew := ⟨rfl, rfl, rfl, Nat.le_refl _, fun _ _ _ => rfl⟩
theorem only_none {w w' : World} (h : Only (Value.slice none 0 0).ownBlock.toList w w') : Only [] w w' := by simpa [Value.ownBlock] using h
theorem no_block {p : Nat → Prop} : ∀ b, (Value.slice none 0 0).ownBlock = some b → p b := fun _ h => by cases h
theorem own_slice {w : World} {B : Nat} {e : TypeId} {k : IntKind} {v : Value} {l : List Int} (h : Own w B e k v l) : ∃ ao n c, v = .slice ao n c := by
  obtain ⟨ao, c, e, _⟩ := h.shape
  exact ⟨ao, _, c, e⟩

/-! Numbers in blocks that are told apart by ok. -/
def NumsP (w : World) (ok : Nat → Prop) (k : IntKind) (ao : Option Addr) (l : List Int) : Prop :=
  ∀ i x, l[i]? = some x → ∃ ad, ao = some ad ∧ ok ad.block ∧ w.cell? (ad.add i) = some (.int k x)
section
variable {w w' : World} {ok ok' : Nat → Prop} {k : IntKind} {ao : Option Addr} {l : List Int}
theorem NumsP.nil (w : World) (ok : Nat → Prop) (k : IntKind) (ao : Option Addr) : NumsP w ok k ao [] := fun i x h => by simp at h
theorem NumsP.mono (h : NumsP w ok k ao l) (hm : ∀ g, g < w.heap.size → ok g → ok' g) : NumsP w ok' k ao l := fun i x hx => by
  obtain ⟨ad, e, hk, hc⟩ := h i x hx
  have hlt := World.block_lt_of_cell? _ _ hc
  rw [block_add] at hlt
  exact ⟨ad, e, hm _ hlt hk, hc⟩
theorem NumsP.only {L : List Nat} (h : NumsP w ok k ao l) (ho : Only L w w') (hn : ∀ g ∈ L, ¬ ok g) : NumsP w' ok k ao l := fun i x hx => by
  obtain ⟨ad, e, hk, hc⟩ := h i x hx
  have hlt := World.block_lt_of_cell? _ _ hc
  rw [block_add] at hlt
  refine ⟨ad, e, hk, (World.cell?_of_block (w := w) (ho.block _ (by rw [block_add]; exact hlt) (fun hm => ?_))).trans hc⟩
  rw [block_add] at hm
  exact hn _ hm hk
theorem NumsP.nums (h : NumsP w ok k ao l) : Nums w w.heap.size k ao l := h.mono (fun _ hg _ => hg)
end
theorem numsP_own {w : World} {B : Nat} {e : TypeId} {k : IntKind} {v : Value} {l : List Int} (h : Own w B e k v l) : ∃ ao cap, v = .slice ao l.length cap ∧ l.length ≤ cap ∧ cap ≤ maxLen ∧ NumsP w (fun g => v.ownBlock = some g) k ao l := by
  obtain ⟨ao, cap, rfl, h1, h2, hn⟩ := h.shape
  refine ⟨ao, cap, rfl, h1, h2, fun i x hx => ?_⟩
  obtain ⟨ad, rfl, _, hc⟩ := hn i x hx
  exact ⟨ad, rfl, rfl, hc⟩

theorem numsP_new {w : World} {B : Nat} {e : TypeId} {k : IntKind} {ao : Option Addr} {n c : Nat} {l : List Int} (h : Own w B e k (.slice ao n c) l) : NumsP w (B ≤ ·) k ao l := by
  have hlt := h.lt
  obtain ⟨ao', c', e', _, _, hn⟩ := numsP_own h
  cases e'
  exact hn.mono (fun g _ hg => (hlt g hg).1)
theorem numsP_lit (w : World) (e : TypeId) (k : IntKind) (l : List Int) : NumsP (w.alloc (.cells (l.map (Value.int k)).toArray e)) (· < (w.alloc (.cells (l.map (Value.int k)).toArray e)).heap.size) k (some ⟨w.heap.size, 0, none⟩) l := by
  have := Nums.lit w e k l
  intro i x hx
  obtain ⟨ad, e1, h1, h2⟩ := this i x hx
  exact ⟨ad, e1, by simpa using h1, h2⟩


inductive All2 {α β : Type} (R : α → β → Prop) : List α → List β → Prop
  | nil : All2 R [] []
  | cons {a b l m} (h : R a b) (t : All2 R l m) : All2 R (a :: l) (b :: m)
theorem All2.app {α β : Type} {R : α → β → Prop} {l l' : List α} {m m' : List β} (h : All2 R l m) (g : All2 R l' m') : All2 R (l ++ l') (m ++ m') := by
  induction h with
  | nil => exact g
  | cons h _ ih => exact .cons h ih
theorem All2.mono {α β : Type} {R R' : α → β → Prop} {l : List α} {m : List β} (h : All2 R l m) (hm : ∀ a b, R a b → R' a b) : All2 R' l m := by
  induction h with
  | nil => exact .nil
  | cons h _ ih => exact .cons (hm _ _ h) ih
theorem All2.len {α β : Type} {R : α → β → Prop} {l : List α} {m : List β} (h : All2 R l m) : m.length = l.length := by
  induction h with
  | nil => rfl
  | cons _ _ ih => simp [ih]
theorem All2.at {α β : Type} {R : α → β → Prop} {l : List α} {m : List β} (h : All2 R l m) {i : Nat} {a : α} (ha : l[i]? = some a) : ∃ b, m[i]? = some b ∧ R a b := by
  induction h generalizing i with
  | nil => simp at ha
  | cons h _ ih =>
    rcases i with _ | i
    · simp at ha; subst ha; exact ⟨_, rfl, h⟩
    · exact ih (by simpa using ha)

theorem flat_len {α : Type} {n : Nat} {l : List α} {css : List (List Value)} {R : α → List Value → Prop} (h : All2 R l css) (h7 : ∀ a c, R a c → c.length = n) : css.flatten.length = l.length * n := by
  induction h with
  | nil => simp
  | cons h _ ih => simp only [List.flatten_cons, List.length_append, List.length_cons, ih, h7 _ _ h, Nat.add_mul]; omega
theorem flat_at {α : Type} {n : Nat} {l : List α} {css : List (List Value)} {R : α → List Value → Prop} (h : All2 R l css) (h7 : ∀ a c, R a c → c.length = n) {i j : Nat} {c : List Value} {u : Value} (hc : css[i]? = some c) (hu : c[j]? = some u) : css.flatten[i * n + j]? = some u := by
  induction h generalizing i with
  | nil => simp at hc
  | cons h t ih =>
    rcases i with _ | i
    · simp at hc
      subst hc
      have := (List.getElem?_eq_some_iff.1 hu).1
      rw [List.flatten_cons, List.getElem?_append_left (by omega)]
      simpa using hu
    · have e : (i + 1) * n = i * n + n := by rw [Nat.add_mul]; omega
      rw [List.flatten_cons, List.getElem?_append_right (by rw [h7 _ _ h]; omega), h7 _ _ h, show (i + 1) * n + j - n = i * n + j by omega]
      exact ih (by simpa using hc)

/-! Some cells are stored, from i on, into a block that is known whole. -/
theorem wpList_storeAt {P : Program} {ops : Array Oper} {rest : List Oper} {o : Oper} {a : Go.Act} {w : World} {Q : Exit → Go.Act → World → Prop} (hgd : o.guard = none) (ty : TypeId) (x y : Operand) (ho : o.op = .store ty x y)
    {g i : Nat} {t : TypeId} {cs : Array Value} (hb : Block w g t cs) (vs : Array Value) (hx : a.eval x = .pointer (some ⟨g, i, none⟩)) (hy : a.eval y = .agg vs) (hi : i + vs.size ≤ cs.size) (hinfo : (P.info? ty).map (·.size) = some vs.size) (h1 : vs.all (·.oneCell') = true)
    (h : ∀ w', Block w' g t (cs.toList.take i ++ (vs.toList ++ cs.toList.drop (i + vs.size))).toArray → Only [g] w w' → wpList P ops Q rest (a.put o.dst undef) w') : wpList P ops Q (o :: rest) a w :=
  wpList_plain hgd fun _ hK => by
    have := run_storeCells_at (P := P) g i t vs.toList 0 cs w hb (by simpa using hi) (fun x hx => (Array.all_eq_true_iff_forall_mem.1 h1) x (by simpa using hx))
    cases hq : P.info? ty with
    | none => simp [hq] at hinfo
    | some j =>
      have hs : j.size = vs.size := by simpa [hq] using hinfo
      have hc : (Value.agg vs).cells = vs := rfl
      simp only [Nat.add_zero, Array.length_toList] at this
      unfold Oper.wp execOp
      simp [ho, hx, hy, Instr.storeAt, Instr.sureAddr, Sem.run_bind, Sem.run_pure, storeVar, sizeOf, typeInfo, hq, hc, hs, this]
      exact hK _ _ (h _ (setRow_heap w g cs _ t _ hb) (only_setRow w g _))
theorem lt_of_block' {w : World} {b : Nat} {o : Obj} (h : w.heap[b]? = some o) : b < w.heap.size := by
  rcases Nat.lt_or_ge b w.heap.size with h1 | h1
  · exact h1
  · rw [Array.getElem?_eq_none h1] at h; cases h
theorem next_step {P : Program} {w : World} {b k : Nat} {s : ByteArray} (hit : w.heap[b]? = some (.stringIter s k)) (hk : k < s.size) (ha : (s[k]'hk).toNat < 128) :
    ∃ w1, (∀ ty, (Instr.next (.pointer (some ⟨b, 0, none⟩)) true ty).run P w = .ok (.tuple #[.bool true, .int .i64 k, .int .i32 (s[k]'hk).toNat]) w1) ∧ w1.heap[b]? = some (.stringIter s (k + 1)) ∧ Only [b] w w1 := by
  have hlt := lt_of_block' hit
  refine ⟨{ w with heap := w.heap.setIfInBounds b (.stringIter s (k + 1)) }, fun ty => ?_, ?_, rfl, rfl, rfl, ?_, fun g hg hn => ?_⟩
  · simp only [Instr.next, getObj, setObj, Sem.run_bind, Sem.run, hit, Result.andThen, hk, if_true, decode_ascii s k hk ha]
    simp [goInt]
  · simp [hlt]
  · simp
  · have : b ≠ g := fun e => hn (by simp [e])
    simp [this]
theorem next_end {P : Program} {w : World} {b k : Nat} {s : ByteArray} (hit : w.heap[b]? = some (.stringIter s k)) (hk : ¬ k < s.size) (ty : TypeId) :
    (Instr.next (.pointer (some ⟨b, 0, none⟩)) true ty).run P w = .ok (.tuple #[.bool false]) w := by
  simp [Instr.next, getObj, Sem.run, hit, hk]


end Go.Proofs.YtaoegfdaemmogaaGreat.Com
namespace Go.Proofs.YtaoegfdaemmogaaGreat.Com
open Go Go.RowKit
variable {P : Program}

/-- A struct is loaded from where its cells are. -/
theorem run_loadVar_at (w : World) (ty : TypeId) (ad : Addr) (cs : List Value) (d : TypeDesc) (hc : ∀ j v, cs[j]? = some v → w.cell? (ad.add j) = some v)
    (hu : P.underlying ty = some d) (hd : (match d with | .struct _ | .array _ _ => true | _ => false) = true) (hi : (P.info? ty).map (·.size) = some cs.length) : (loadVar ty ad).run P w = .ok (.agg cs.toArray) w := by
  have hl := run_loadCells_list (P := P) w ad cs hc
  have hagg : (isAgg ty).run P w = .ok true w := by
    unfold isAgg
    rw [Sem.run_bind, run_underlying hu w]
    cases d <;> simp_all
  cases hq : P.info? ty with
  | none => simp [hq] at hi
  | some i =>
    have hs : i.size = cs.length := by simpa [hq] using hi
    simp [loadVar, Sem.run_bind, hagg, sizeOf, typeInfo, hq, hs, hl]
theorem wpList_loadAt {o : Oper} {ops : Array Oper} {rest : List Oper} {a : Act} {w : World} {Q : Exit → Act → World → Prop} (hw : Region.wanted o (yielded ops a.tmps) = true) (ty : TypeId) (x : Operand) (ho : o.op = .load ty x) (ad : Addr) (hx : a.eval x = .pointer (some ad))
    (cs : List Value) (d : TypeDesc) (hc : ∀ j v, cs[j]? = some v → w.cell? (ad.add j) = some v) (hu : P.underlying ty = some d) (hd : (match d with | .struct _ | .array _ _ => true | _ => false) = true) (hi : (P.info? ty).map (·.size) = some cs.length)
    (h : wpList P ops Q rest (a.put o.dst (.agg cs.toArray)) w) : wpList P ops Q (o :: rest) a w :=
  wpList_wanted hw fun _ hK => by
    unfold Oper.wp execOp
    simp only [ho, hx, Instr.loadAt, Instr.sureAddr, Sem.run_bind, Sem.run_pure, Result.andThen_ok, run_loadVar_at w ty ad cs d hc hu hd hi]
    exact hK _ _ h

end Go.Proofs.YtaoegfdaemmogaaGreat.Com
