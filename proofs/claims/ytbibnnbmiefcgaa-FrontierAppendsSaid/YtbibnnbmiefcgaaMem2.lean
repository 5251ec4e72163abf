/-
  More words for memory: numbers in blocks that are told apart by a predicate; two lists side by side; a value of some cells stored into a known block; a text gone over while memory is made.
-/
import Derived.Test.YtbibnnbmiefcgaaMem
import Derived.Laws.RangeAny
namespace Go.Proofs.Ytbibnnbmiefcgaa.Com
open Go Go.RowKit

theorem only_drew (L : List Nat) (w : World) : Only L w w.drew := ⟨rfl, rfl, rfl, Nat.le_refl _, fun _ _ _ => rfl⟩
theorem only_none {w w' : World} (h : Only (Value.slice none 0 0).ownBlock.toList w w') : Only [] w w' := by simpa [Value.ownBlock] using h
theorem no_block {p : Nat → Prop} : ∀ b, (Value.slice none 0 0).ownBlock = some b → p b := fun _ h => by cases h
theorem own_slice {w : World} {B : Nat} {e : TypeId} {k : IntKind} {v : Value} {l : List Int} (h : Own w B e k v l) : ∃ ao n c, v = .slice ao n c := by
  obtain ⟨ao, c, e, _⟩ := h.shape
  exact ⟨ao, _, c, e⟩

/-! Numbers in blocks that are told apart by ok. -/
def NumsP (w : World) (ok : Nat → Prop) (k : IntKind) (ao : Option Addr) (l : List Int) : Prop :=
  ∀ i x, l[i]? = some x → ∃ ad, ao = some ad ∧ ok ad.block ∧ w.cell? (ad.add i) = some (.int k x)
section
variable {w w' : World} {ok ok' : Nat → Prop} {k : IntKind} {ao : Option Addr} {l : List Int}
theorem NumsP.nil (w : World) (ok : Nat → Prop) (k : IntKind) (ao : Option Addr) : NumsP w ok k ao [] := fun i x h => by simp at h
theorem NumsP.mono (h : NumsP w ok k ao l) (hm : ∀ g, g < w.heap.size → ok g → ok' g) : NumsP w ok' k ao l := fun i x hx => by
  obtain ⟨ad, e, hk, hc⟩ := h i x hx
  have hlt := World.block_lt_of_cell? _ _ hc
  rw [block_add] at hlt
  exact ⟨ad, e, hm _ hlt hk, hc⟩
theorem NumsP.only {L : List Nat} (h : NumsP w ok k ao l) (ho : Only L w w') (hn : ∀ g ∈ L, ¬ ok g) : NumsP w' ok k ao l := fun i x hx => by
  obtain ⟨ad, e, hk, hc⟩ := h i x hx
  have hlt := World.block_lt_of_cell? _ _ hc
  rw [block_add] at hlt
  refine ⟨ad, e, hk, (World.cell?_of_block (w := w) (ho.block _ (by rw [block_add]; exact hlt) (fun hm => ?_))).trans hc⟩
  rw [block_add] at hm
  exact hn _ hm hk
theorem NumsP.nums (h : NumsP w ok k ao l) : Nums w w.heap.size k ao l := h.mono (fun _ hg _ => hg)
end
theorem numsP_own {w : World} {B : Nat} {e : TypeId} {k : IntKind} {v : Value} {l : List Int} (h : Own w B e k v l) : ∃ ao cap, v = .slice ao l.length cap ∧ l.length ≤ cap ∧ cap ≤ maxLen ∧ NumsP w (fun g => v.ownBlock = some g) k ao l := by
  obtain ⟨ao, cap, rfl, h1, h2, hn⟩ := h.shape
  refine ⟨ao, cap, rfl, h1, h2, fun i x hx => ?_⟩
  obtain ⟨ad, rfl, _, hc⟩ := hn i x hx
  exact ⟨ad, rfl, rfl, hc⟩

theorem numsP_new {w : World} {B : Nat} {e : TypeId} {k : IntKind} {ao : Option Addr} {n c : Nat} {l : List Int} (h : Own w B e k (.slice ao n c) l) : NumsP w (B ≤ ·) k ao l := by
  have hlt := h.lt
  obtain ⟨ao', c', e', _, _, hn⟩ := numsP_own h
  cases e'
  exact hn.mono (fun g _ hg => (hlt g hg).1)
theorem numsP_lit (w : World) (e : TypeId) (k : IntKind) (l : List Int) : NumsP (w.alloc (.cells (l.map (Value.int k)).toArray e)) (· < (w.alloc (.cells (l.map (Value.int k)).toArray e)).heap.size) k (some ⟨w.heap.size, 0, none⟩) l := by
  have := Nums.lit w e k l
  intro i x hx
  obtain ⟨ad, e1, h1, h2⟩ := this i x hx
  exact ⟨ad, e1, by simpa using h1, h2⟩


inductive All2 {α β : Type} (R : α → β → Prop) : List α → List β → Prop
  | nil : All2 R [] []
  | cons {a b l m} (h : R a b) (t : All2 R l m) : All2 R (a :: l) (b :: m)
theorem All2.app {α β : Type} {R : α → β → Prop} {l l' : List α} {m m' : List β} (h : All2 R l m) (g : All2 R l' m') : All2 R (l ++ l') (m ++ m') := by
  induction h with
  | nil => exact g
  | cons h _ ih => exact .cons h ih
theorem All2.mono {α β : Type} {R R' : α → β → Prop} {l : List α} {m : List β} (h : All2 R l m) (hm : ∀ a b, R a b → R' a b) : All2 R' l m := by
  induction h with
  | nil => exact .nil
  | cons h _ ih => exact .cons (hm _ _ h) ih
theorem All2.len {α β : Type} {R : α → β → Prop} {l : List α} {m : List β} (h : All2 R l m) : m.length = l.length := by
  induction h with
  | nil => rfl
  | cons _ _ ih => simp [ih]
theorem All2.at {α β : Type} {R : α → β → Prop} {l : List α} {m : List β} (h : All2 R l m) {i : Nat} {a : α} (ha : l[i]? = some a) : ∃ b, m[i]? = some b ∧ R a b := by
  induction h generalizing i with
  | nil => simp at ha
  | cons h _ ih =>
    rcases i with _ | i
    · simp at ha; subst ha; exact ⟨_, rfl, h⟩
    · exact ih (by simpa using ha)

theorem flat_len {α : Type} {n : Nat} {l : List α} {css : List (List Value)} {R : α → List Value → Prop} (h : All2 R l css) (h7 : ∀ a c, R a c → c.length = n) : css.flatten.length = l.length * n := by
  induction h with
  | nil => simp
  | cons h _ ih => simp only [List.flatten_cons, List.length_append, List.length_cons, ih, h7 _ _ h, Nat.add_mul]; omega
theorem flat_at {α : Type} {n : Nat} {l : List α} {css : List (List Value)} {R : α → List Value → Prop} (h : All2 R l css) (h7 : ∀ a c, R a c → c.length = n) {i j : Nat} {c : List Value} {u : Value} (hc : css[i]? = some c) (hu : c[j]? = some u) : css.flatten[i * n + j]? = some u := by
  induction h generalizing i with
  | nil => simp at hc
  | cons h t ih =>
    rcases i with _ | i
    · simp at hc
      subst hc
      have := (List.getElem?_eq_some_iff.1 hu).1
      rw [List.flatten_cons, List.getElem?_append_left (by omega)]
      simpa using hu
    · have e : (i + 1) * n = i * n + n := by rw [Nat.add_mul]; omega
      rw [List.flatten_cons, List.getElem?_append_right (by rw [h7 _ _ h]; omega), h7 _ _ h, show (i + 1) * n + j - n = i * n + j by omega]
      exact ih (by simpa using hc)

/-! Some cells are stored, from i on, into a block that is known whole. -/
theorem wpList_storeAt {P : Program} {ops : Array Oper} {rest : List Oper} {o : Oper} {a : Go.Act} {w : World} {Q : Exit → Go.Act → World → Prop} (hgd : o.guard = none) (ty : TypeId) (x y : Operand) (ho : o.op = .store ty x y)
    {g i : Nat} {t : TypeId} {cs : Array Value} (hb : Block w g t cs) (vs : Array Value) (hx : a.eval x = .pointer (some ⟨g, i, none⟩)) (hy : a.eval y = .agg vs) (hi : i + vs.size ≤ cs.size) (hinfo : (P.info? ty).map (·.size) = some vs.size) (h1 : vs.all (·.oneCell') = true)
    (h : ∀ w', Block w' g t (cs.toList.take i ++ (vs.toList ++ cs.toList.drop (i + vs.size))).toArray → Only [g] w w' → wpList P ops Q rest (a.put o.dst undef) w') : wpList P ops Q (o :: rest) a w :=
  wpList_plain hgd fun _ hK => by
    have := run_storeCells_at (P := P) g i t vs.toList 0 cs w hb (by simpa using hi) (fun x hx => (Array.all_eq_true_iff_forall_mem.1 h1) x (by simpa using hx))
    cases hq : P.info? ty with
    | none => simp [hq] at hinfo
    | some j =>
      have hs : j.size = vs.size := by simpa [hq] using hinfo
      have hc : (Value.agg vs).cells = vs := rfl
      simp only [Nat.add_zero, Array.length_toList] at this
      unfold Oper.wp execOp
      simp [ho, hx, hy, Instr.storeAt, Instr.sureAddr, Sem.run_bind, Sem.run_pure, storeVar, sizeOf, typeInfo, hq, hc, hs, this]
      exact hK _ _ (h _ (setRow_heap w g cs _ t _ hb) (only_setRow w g _))
theorem lt_of_block' {w : World} {b : Nat} {o : Obj} (h : w.heap[b]? = some o) : b < w.heap.size := by
  rcases Nat.lt_or_ge b w.heap.size with h1 | h1
  · exact h1
  · rw [Array.getElem?_eq_none h1] at h; cases h
theorem next_step {P : Program} {w : World} {b k : Nat} {s : ByteArray} (hit : w.heap[b]? = some (.stringIter s k)) (hk : k < s.size) (ha : (s[k]'hk).toNat < 128) :
    ∃ w1, (∀ ty, (Instr.next (.pointer (some ⟨b, 0, none⟩)) true ty).run P w = .ok (.tuple #[.bool true, .int .i64 k, .int .i32 (s[k]'hk).toNat]) w1) ∧ w1.heap[b]? = some (.stringIter s (k + 1)) ∧ Only [b] w w1 := by
  have hlt := lt_of_block' hit
  refine ⟨{ w with heap := w.heap.setIfInBounds b (.stringIter s (k + 1)) }, fun ty => ?_, ?_, rfl, rfl, rfl, ?_, fun g hg hn => ?_⟩
  · simp only [Instr.next, getObj, setObj, Sem.run_bind, Sem.run, hit, Result.andThen, hk, if_true, decode_ascii s k hk ha]
    simp [goInt]
  · simp [hlt]
  · simp
  · have : b ≠ g := fun e => hn (by simp [e])
    simp [this]
theorem next_end {P : Program} {w : World} {b k : Nat} {s : ByteArray} (hit : w.heap[b]? = some (.stringIter s k)) (hk : ¬ k < s.size) (ty : TypeId) :
    (Instr.next (.pointer (some ⟨b, 0, none⟩)) true ty).run P w = .ok (.tuple #[.bool false]) w := by
  simp [Instr.next, getObj, Sem.run, hit, hk]


end Go.Proofs.Ytbibnnbmiefcgaa.Com
