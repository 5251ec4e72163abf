/-
  Words for memory: numbers that a slice shows; rows of numbers that the call owns; a struct's block; what a call may have turned.
-/
import Derived.WalkKit
import Derived.Below
import Derived.Laws.OwnMore
import Derived.Laws.Rows
import Derived.Maps.AppendAt
import Derived.Deep.Draws
import Derived.Lib.Hide
import Derived.OwnWalk
import Derived.OneCell
import Derived.Laws.Tables
import Derived.Laws.CopyRow
import Derived.Laws.BytesArg
namespace Go.Proofs.Ytbibnnbmiefcgaa.Com
open Go Go.RowKit

theorem ret_bool {a b : Bool} (h : a = b) : Ending.returned (.bool a) = .returned (.bool b) := by rw [h]
theorem ret_int {k : IntKind} {a b : Int} (h : a = b) : Ending.returned (.int k a) = .returned (.int k b) := by rw [h]

/-- Of the blocks of w none has turned but those of L; there may be new ones. -/
structure Only (L : List Nat) (w w' : World) : Prop where
  os : w'.os = w.os
  tape : w'.tape = w.tape
  output : w'.output = w.output
  size : w.heap.size ≤ w'.heap.size
  block : ∀ k, k < w.heap.size → k ∉ L → w'.heap[k]? = w.heap[k]?

theorem Only.refl (L : List Nat) (w : World) : Only L w w := ⟨rfl, rfl, rfl, Nat.le_refl _, fun _ _ _ => rfl⟩
theorem Only.trans {L : List Nat} {a b c : World} (h : Only L a b) (g : Only L b c) : Only L a c :=
  ⟨g.os.trans h.os, g.tape.trans h.tape, g.output.trans h.output, Nat.le_trans h.size g.size, fun k hk hn => (g.block k (Nat.lt_of_lt_of_le hk h.size) hn).trans (h.block k hk hn)⟩
/-- The second step may also turn blocks that were not there at first. -/
theorem Only.then {L L' : List Nat} {a b c : World} (h : Only L a b) (g : Only L' b c) (hL : ∀ k ∈ L', k ∈ L ∨ a.heap.size ≤ k) : Only L a c :=
  ⟨g.os.trans h.os, g.tape.trans h.tape, g.output.trans h.output, Nat.le_trans h.size g.size, fun k hk hn =>
    (g.block k (Nat.lt_of_lt_of_le hk h.size) (fun hm => (hL k hm).elim hn (fun hge => by omega))).trans (h.block k hk hn)⟩
theorem Only.mono {L L' : List Nat} {a b : World} (h : Only L a b) (hL : ∀ k ∈ L, k ∈ L') : Only L' a b :=
  ⟨h.os, h.tape, h.output, h.size, fun k hk hn => h.block k hk (fun hm => hn (hL k hm))⟩
theorem Only.alloc (L : List Nat) (w : World) (o : Obj) : Only L w (w.alloc o) := ⟨rfl, rfl, rfl, by simp, fun k hk _ => Below.heap_alloc _ _ _ hk⟩
theorem Only.setCell (w : World) (p : Addr) (u : Value) : Only [p.block] w (w.setCell p u) :=
  ⟨rfl, rfl, rfl, by simp [World.setCell], fun k _ hn => Below.heap_setCell _ _ _ _ (by simpa using hn)⟩
theorem Only.drewN (L : List Nat) (w : World) (n : Nat) : Only L w (w.drewN n) := ⟨rfl, rfl, rfl, Nat.le_refl _, fun _ _ _ => rfl⟩
theorem Only.grown {w w' : World} {row : Option Nat} (h : w.grownBy w' row) : Only row.toList w w' :=
  ⟨h.os, h.tape, h.output, h.size, fun k hk hn => h.block k hk (fun e => hn (by rw [← e]; simp))⟩
theorem Only.below {L : List Nat} {w w' : World} {B : Nat} (h : Only L w w') (hB : B ≤ w.heap.size) (hL : ∀ k ∈ L, B ≤ k) : Below B w w' :=
  ⟨h.os, h.tape, h.output, h.size, fun k hk => h.block k (Nat.lt_of_lt_of_le hk hB) (fun hm => by have := hL k hm; omega)⟩
theorem Only.of_below {w w' : World} (h : Below w.heap.size w w') (L : List Nat) : Only L w w' := ⟨h.os, h.tape, h.output, h.size, fun k hk _ => h.block k hk⟩
theorem Only.nil {w w' : World} (h : Only [] w w') : Below w.heap.size w w' := h.below (Nat.le_refl _) (by simp)

/-! A block that is known whole. -/
def Block (w : World) (g : Nat) (t : TypeId) (cs : Array Value) : Prop := w.heap[g]? = some (.cells cs t (0, 0))
theorem Block.lt {w : World} {g : Nat} {t : TypeId} {cs : Array Value} (h : Block w g t cs) : g < w.heap.size := lt_of_block h
theorem Block.cell {w : World} {g : Nat} {t : TypeId} {cs : Array Value} (h : Block w g t cs) (i : Nat) {v : Value} (hv : cs[i]? = some v) : w.cell? ⟨g, i, none⟩ = some v := (cell_of_row w g i cs t (0, 0) h).trans hv
theorem Block.free {w : World} {g : Nat} {t : TypeId} {cs : Array Value} (h : Block w g t cs) (i : Nat) : w.frozen? ⟨g, i, none⟩ = false := frozen_of_row w g i cs t h
theorem Block.made (w : World) (t : TypeId) (cs : Array Value) : Block (w.alloc (.cells cs t)) w.heap.size t cs := heap_alloc_new w _
theorem Block.set {w : World} {g : Nat} {t : TypeId} {cs : Array Value} (h : Block w g t cs) (i : Nat) (u : Value) : Block (w.setCell ⟨g, i, none⟩ u) g t (cs.setIfInBounds i u) := heap_setCell_same w g i cs t u h
theorem Block.only {L : List Nat} {w w' : World} {g : Nat} {t : TypeId} {cs : Array Value} (h : Block w g t cs) (ho : Only L w w') (hn : g ∉ L) : Block w' g t cs := (ho.block g h.lt hn).trans h
theorem Block.alloc {w : World} {g : Nat} {t : TypeId} {cs : Array Value} (h : Block w g t cs) (o : Obj) : Block (w.alloc o) g t cs := h.only (Only.alloc [] w o) (by simp)
theorem Block.apart {w : World} {g g' : Nat} {t t' : TypeId} {cs cs' : Array Value} (h : Block w g t cs) (h' : Block w g' t' cs') (ht : t ≠ t') : g ≠ g' := by
  intro e
  subst e
  unfold Block at h h'
  rw [h] at h'
  simp only [Option.some.injEq, Obj.cells.injEq] at h'
  exact ht h'.2.1

/-! Numbers that a slice shows, whatever it is. -/
def Nums (w : World) (B : Nat) (k : IntKind) (ao : Option Addr) (l : List Int) : Prop :=
  ∀ i x, l[i]? = some x → ∃ ad, ao = some ad ∧ ad.block < B ∧ w.cell? (ad.add i) = some (.int k x)
theorem Nums.nil (w : World) (B : Nat) (k : IntKind) (ao : Option Addr) : Nums w B k ao [] := fun i x h => by simp at h
theorem Nums.at {w : World} {B : Nat} {k : IntKind} {ao : Option Addr} {l : List Int} (h : Nums w B k ao l) {i : Nat} (hi : i < l.length) : ∃ ad, ao = some ad ∧ ad.block < B ∧ w.cell? (ad.add i) = some (.int k l[i]) :=
  h i _ (List.getElem?_eq_getElem hi)
theorem block_add (ad : Addr) (n : Nat) : (ad.add n).block = ad.block := by unfold Addr.add; split <;> rfl
theorem add_add (ad : Addr) (i j : Nat) : (ad.add i).add j = ad.add (i + j) := by
  unfold Addr.add
  by_cases hi : i = 0 <;> by_cases hj : j = 0 <;> simp [hi, hj, Nat.add_assoc]
theorem Nums.kept {w w' : World} {B : Nat} {k : IntKind} {ao : Option Addr} {l : List Int} (h : Nums w B k ao l) (hb : ∀ g, g < B → w'.heap[g]? = w.heap[g]?) : Nums w' B k ao l := fun i x hx => by
  obtain ⟨ad, e, hlt, hc⟩ := h i x hx
  exact ⟨ad, e, hlt, (World.cell?_of_block (w := w) (hb _ (by rw [block_add]; exact hlt))).trans hc⟩
theorem Nums.below {w w' : World} {B B' : Nat} {k : IntKind} {ao : Option Addr} {l : List Int} (h : Nums w B k ao l) (hb : Below B' w w') (hB : B ≤ B') : Nums w' B k ao l := h.kept fun g hg => hb.block g (by omega)
theorem Nums.only {L : List Nat} {w w' : World} {B : Nat} {k : IntKind} {ao : Option Addr} {l : List Int} (h : Nums w B k ao l) (ho : Only L w w') (hB : B ≤ w.heap.size) (hL : ∀ k ∈ L, B ≤ k) : Nums w' B k ao l :=
  h.kept fun g hg => ho.block g (by omega) (fun hm => by have := hL g hm; omega)
theorem Nums.alloc {w : World} {B : Nat} {k : IntKind} {ao : Option Addr} {l : List Int} (h : Nums w B k ao l) (hB : B ≤ w.heap.size) (o : Obj) : Nums (w.alloc o) B k ao l := h.only (Only.alloc [] w o) hB (by simp)
theorem Nums.more {w : World} {B B' : Nat} {k : IntKind} {ao : Option Addr} {l : List Int} (h : Nums w B k ao l) (hB : B ≤ B') : Nums w B' k ao l := fun i x hx => by
  obtain ⟨ad, e, hlt, hc⟩ := h i x hx
  exact ⟨ad, e, by omega, hc⟩
/-- A piece of it. -/
theorem Nums.piece {w : World} {B : Nat} {k : IntKind} {ao : Option Addr} {l : List Int} (h : Nums w B k ao l) (lo hi : Nat) : Nums w B k (ao.map (·.add lo)) ((l.take hi).drop lo) := fun i x hx => by
  have hx' : l[lo + i]? = some x := by
    rw [List.getElem?_drop, List.getElem?_take] at hx
    split at hx
    · exact hx
    · cases hx
  obtain ⟨ad, rfl, hlt, hc⟩ := h (lo + i) x hx'
  exact ⟨ad.add lo, rfl, by rw [block_add]; exact hlt, by rw [add_add]; exact hc⟩

/-! A row of numbers that the call owns. -/
def Own (w : World) (B : Nat) (e : TypeId) (k : IntKind) (v : Value) (l : List Int) : Prop := w.ownsRow B e 1 v l.length (l.map (Value.int k))
theorem Own.nil (w : World) (B : Nat) (e : TypeId) (k : IntKind) : Own w B e k (.slice none 0 0) [] := World.ownsRow_nil w B e 1
theorem Own.lt {w : World} {B : Nat} {e : TypeId} {k : IntKind} {v : Value} {l : List Int} (h : Own w B e k v l) : ∀ g, v.ownBlock = some g → B ≤ g ∧ g < w.heap.size := World.ownsRow.lt h
theorem Own.only {L : List Nat} {w w' : World} {B : Nat} {e : TypeId} {k : IntKind} {v : Value} {l : List Int} (h : Own w B e k v l) (ho : Only L w w') (hn : ∀ g, v.ownBlock = some g → g ∉ L) : Own w' B e k v l := by
  refine ⟨h.1, ?_⟩
  rcases h.2 with h2 | ⟨g, cap, cur, rfl, hg, hh, r⟩
  · exact .inl h2
  · exact .inr ⟨g, cap, cur, rfl, hg, (ho.block g (lt_of_block hh) (hn g rfl)).trans hh, r⟩
theorem Own.alloc {w : World} {B : Nat} {e : TypeId} {k : IntKind} {v : Value} {l : List Int} (h : Own w B e k v l) (o : Obj) : Own (w.alloc o) B e k v l := h.only (Only.alloc [] w o) (by simp)
theorem Own.lower {w : World} {B B' : Nat} {e : TypeId} {k : IntKind} {v : Value} {l : List Int} (h : Own w B e k v l) (hB : B' ≤ B) : Own w B' e k v l := by
  refine ⟨h.1, ?_⟩
  rcases h.2 with h2 | ⟨g, cap, cur, rfl, hg, r⟩
  · exact .inl h2
  · exact .inr ⟨g, cap, cur, rfl, by omega, r⟩
theorem Own.shape {w : World} {B : Nat} {e : TypeId} {k : IntKind} {v : Value} {l : List Int} (h : Own w B e k v l) : ∃ ao cap, v = .slice ao l.length cap ∧ l.length ≤ cap ∧ cap ≤ maxLen ∧ Nums w w.heap.size k ao l := by
  have hc := fun g hg => World.ownsRow.cells h (g := g) hg
  rcases h.2 with ⟨rfl, hn⟩ | ⟨g, cap, cur, rfl, _, hh, hn, hm, _⟩
  · have hl : l = [] := List.eq_nil_of_length_eq_zero hn
    subst hl
    exact ⟨none, 0, rfl, Nat.le_refl _, by simp [maxLen], Nums.nil _ _ _ _⟩
  · refine ⟨_, cap, rfl, hn, hm, fun i x hx => ⟨_, rfl, lt_of_block hh, hc g rfl i _ (by rw [List.getElem?_map, hx]; rfl)⟩⟩
/-- A block of another element type is another block. -/
theorem Own.apart {w : World} {B : Nat} {e t : TypeId} {k : IntKind} {v : Value} {l : List Int} {g : Nat} {cs : Array Value} (h : Own w B e k v l) (hb : Block w g t cs) (ht : e ≠ t) : v.ownBlock ≠ some g := by
  intro hv
  rcases h.2 with ⟨rfl, _⟩ | ⟨g', cap, cur, rfl, _, hh, _⟩
  · simp [Value.ownBlock] at hv
  · have he : g' = g := by simpa [Value.ownBlock] using hv
    exact Block.apart (t := e) hh hb ht he
/-- A literal's own array. -/
theorem Own.lit (w : World) (B : Nat) (e : TypeId) (k : IntKind) (l : List Int) (hB : B ≤ w.heap.size) (hm : l.length ≤ maxLen) :
    Own (w.alloc (.cells (l.map (Value.int k)).toArray e)) B e k (.slice (some ⟨w.heap.size, 0, none⟩) l.length l.length) l := by
  have h := World.ownsRow_lit w (e := e) (base := B) (size := 1) (l.map (Value.int k)).toArray l.length hB hm (by simp)
  exact h

/-- An operation whose guard, if it has one, holds. -/
theorem wpList_wanted {P : Program} {ops : Array Oper} {rest : List Oper} {o : Oper} {a : Act} {w : World} {Q : Exit → Act → World → Prop} (hw : Region.wanted o (yielded ops a.tmps) = true)
    (h : ∀ K : Act → World → Prop, (∀ a w, wpList P ops Q rest a w → K a w) → o.wp P a w K Q) : wpList P ops Q (o :: rest) a w :=
  wpList_step fun K hK => by rw [if_pos hw]; exact h K hK

/-- What append asks of the slice's type. -/
structure Elem (P : Program) (t e : TypeId) (k : IntKind) (bytes : Nat) : Prop where
  slice : P.underlying t = some (.slice e)
  info : ∃ i, P.info? e = some i ∧ i.zero = some (.int k 0) ∧ i.size = 1 ∧ i.bytes = bytes

/-- append of the numbers that another slice shows: what is owned behind it, what has turned, and where it lies. -/
theorem run_app {P : Program} {t e : TypeId} {k : IntKind} {bytes : Nat} (E : Elem P t e k bytes) (w : World) (ty : TypeId) (B : Nat) (v : Value) (l m : List Int) (ao : Option Addr) (B' c : Nat)
    (h : Own w B e k v l) (hm : Nums w B' k ao m) (hB : B ≤ w.heap.size) (hn : (l.length + m.length) * bytes ≤ 140737488355328) (hx : l.length + m.length ≤ maxLen) :
    ∃ v' w', (Builtin.append_ #[t, t] ty #[v, .slice ao m.length c]).run P w = .ok v' w' ∧ Own w' B e k v' (l ++ m) ∧ Only v.ownBlock.toList w w' ∧ (v'.ownBlock = v.ownBlock ∨ v'.ownBlock = some w.heap.size) := by
  obtain ⟨i, hi, hz, hs, hb⟩ := E.info
  rcases ao with _ | ad
  · have hm0 : m = [] := by
      rcases m with _ | ⟨x, m⟩
      · rfl
      · obtain ⟨ad, h', _⟩ := hm 0 x rfl
        cases h'
    subst hm0
    refine ⟨v, w, ?_, by simpa using h, Only.refl _ _, .inl rfl⟩
    rcases h.2 with ⟨rfl, _⟩ | ⟨g, cap, cur, rfl, _, _, hnc, _⟩
    · simp [Builtin.append_, run_underlying E.slice, sizeOf, typeInfo, hi, Builtin.lenOf, Builtin.firstCells]
    · simp [Builtin.append_, run_underlying E.slice, sizeOf, typeInfo, hi, Builtin.lenOf, Builtin.firstCells, hnc, storeCells]
  · obtain ⟨v', w', hr, h2, h3, _, h5⟩ := run_append_own_at (P := P) w B t ty e i (.int k 0) 1 bytes E.slice hi hz hs hb rfl (by omega) v l.length (l.map (Value.int k)) h ad m.length c (m.map (Value.int k)) (by simp)
      (fun j u hu => by
        rw [List.getElem?_map] at hu
        rcases hx' : m[j]? with _ | x
        · rw [hx'] at hu; cases hu
        · rw [hx'] at hu
          obtain ⟨ad', e', _, hc⟩ := hm j x hx'
          cases e'
          cases hu
          exact hc)
      (fun u hu => by
        obtain ⟨x, _, rfl⟩ := List.mem_map.1 hu
        rfl) hx hn hB
    refine ⟨v', w', hr, ?_, Only.grown h3, h5⟩
    unfold Own
    rw [List.length_append, List.map_append]
    exact h2

theorem wp_app {P : Program} {t e : TypeId} {k : IntKind} {bytes : Nat} (E : Elem P t e k bytes) {w : World} {o : Oper} {a : Act} {K : Act → World → Prop} {Q : Exit → Act → World → Prop} (s x : Operand)
    (ho : o.op = .call { callee := .builtin .append, args := #[s, x], argTypes := #[t, t] })
    (B : Nat) (v : Value) (l m : List Int) (ao : Option Addr) (B' c : Nat) (hs : a.eval s = v) (hxe : a.eval x = .slice ao m.length c)
    (h : Own w B e k v l) (hm : Nums w B' k ao m) (hB : B ≤ w.heap.size) (hn : (l.length + m.length) * bytes ≤ 140737488355328) (hx : l.length + m.length ≤ maxLen)
    (hK : ∀ v' w', Own w' B e k v' (l ++ m) → Only v.ownBlock.toList w w' → (v'.ownBlock = v.ownBlock ∨ v'.ownBlock = some w.heap.size) → K (a.put o.dst v') w') : o.wp P a w K Q := by
  obtain ⟨v', w', hr, h2, h3, h4⟩ := run_app E w o.type B v l m ao B' c h hm hB hn hx
  unfold Oper.wp execOp
  simp only [ho, resolve, invoke, builtin, Sem.run_bind, Sem.run_pure, Result.andThen_ok, List.map_toArray, List.map_cons, List.map_nil, hs, hxe, hr]
  exact hK v' w' h2 h3 h4

theorem wpList_app {P : Program} {t e : TypeId} {k : IntKind} {bytes : Nat} (E : Elem P t e k bytes) {w : World} {ops : Array Oper} {rest : List Oper} {o : Oper} {a : Act} {Q : Exit → Act → World → Prop} (hgd : Region.wanted o (yielded ops a.tmps) = true) (s x : Operand)
    (ho : o.op = .call { callee := .builtin .append, args := #[s, x], argTypes := #[t, t] })
    (B : Nat) (v : Value) (l m : List Int) (ao : Option Addr) (B' c : Nat) (hs : a.eval s = v) (hxe : a.eval x = .slice ao m.length c)
    (h : Own w B e k v l) (hm : Nums w B' k ao m) (hB : B ≤ w.heap.size) (hn : (l.length + m.length) * bytes ≤ 140737488355328) (hx : l.length + m.length ≤ maxLen)
    (hK : ∀ v' w', Own w' B e k v' (l ++ m) → Only v.ownBlock.toList w w' → (v'.ownBlock = v.ownBlock ∨ v'.ownBlock = some w.heap.size) → wpList P ops Q rest (a.put o.dst v') w') : wpList P ops Q (o :: rest) a w :=
  wpList_wanted hgd fun _ hK' => wp_app E s x ho B v l m ao B' c hs hxe h hm hB hn hx fun v' w' h1 h2 h3 => hK' _ _ (hK v' w' h1 h2 h3)

/-- A literal of one number. -/
theorem Nums.one (w : World) (e : TypeId) (k : IntKind) (x : Int) : Nums (w.alloc (.cells #[.int k x] e)) (w.heap.size + 1) k (some ⟨w.heap.size, 0, none⟩) [x] := fun i y hy => by
  rcases i with _ | i
  · simp at hy
    subst hy
    exact ⟨_, rfl, by simp, by simp [Addr.add]⟩
  · simp at hy

/-- Behind a literal and its append nothing has turned below the number from which the row is owned. -/
theorem below_app {w wr w1 : World} {e : TypeId} {k : IntKind} {v : Value} {l : List Int} {B : Nat} (hb : Below B w wr) (h : Own wr B e k v l) (hB : B ≤ wr.heap.size) (o : Obj) (ho : Only v.ownBlock.toList (wr.alloc o) w1) : Below B w w1 :=
  hb.trans (((Below.refl _ wr).alloc hB o).trans (ho.below (by simp; omega) (fun g hg => (h.lt g (by simpa using hg)).1)))
theorem below_app0 {w wr w1 : World} {e : TypeId} {k : IntKind} {v : Value} {l : List Int} {B : Nat} (hb : Below B w wr) (h : Own wr B e k v l) (hB : B ≤ wr.heap.size) (ho : Only v.ownBlock.toList wr w1) : Below B w w1 :=
  hb.trans (ho.below hB (fun g hg => (h.lt g (by simpa using hg)).1))

/-! Stores into a block that is known whole: behind one the block is known again, and nothing else has turned. -/
theorem only_setRow (w : World) (g : Nat) (cs : Array Value) : Only [g] w (w.setRow g cs) := ⟨rfl, rfl, rfl, by simp, fun k _ hk => setRow_other w g k _ (by simpa using hk)⟩
theorem run_store1 {P : Program} {w : World} {g i : Nat} {t : TypeId} {cs : Array Value} (hb : Block w g t cs) (ty : TypeId) (v : Value) (hi : i < cs.size) (hinfo : (P.info? ty).map (·.size) = some 1) (h1 : v.oneCell' = true) :
    (storeVar ty ⟨g, i, none⟩ v).run P w = .ok () (w.setRow g (cs.toList.take i ++ [v] ++ cs.toList.drop (i + 1)).toArray) := by
  have := run_storeCells_at (P := P) g i t [v] 0 cs w hb (by simp; omega) (fun x hx => by simp at hx; subst hx; exact h1)
  have hc : v.cells = #[v] := by cases v <;> first | rfl | cases h1
  cases hq : P.info? ty with
  | none => simp [hq] at hinfo
  | some j =>
    have hs : j.size = 1 := by simpa [hq] using hinfo
    simp only [Nat.add_zero, List.length_singleton] at this
    simp [storeVar, sizeOf, typeInfo, hq, hc, hs, this]
theorem wpList_store1 {P : Program} {ops : Array Oper} {rest : List Oper} {o : Oper} {a : Act} {w : World} {Q : Exit → Act → World → Prop} (hgd : o.guard = none) (ty : TypeId) (x y : Operand) (ho : o.op = .store ty x y)
    {g i : Nat} {t : TypeId} {cs : Array Value} (hb : Block w g t cs) (v : Value) (hx : a.eval x = .pointer (some ⟨g, i, none⟩)) (hy : a.eval y = v) (hi : i < cs.size) (hinfo : (P.info? ty).map (·.size) = some 1) (h1 : v.oneCell' = true)
    (h : ∀ w', Block w' g t (cs.toList.take i ++ [v] ++ cs.toList.drop (i + 1)).toArray → Only [g] w w' → wpList P ops Q rest (a.put o.dst undef) w') : wpList P ops Q (o :: rest) a w :=
  wpList_plain hgd fun _ hK => by
    unfold Oper.wp execOp
    simp only [ho, hx, hy, Instr.storeAt, Instr.sureAddr, Sem.run_bind, Sem.run_pure, Result.andThen_ok, run_store1 hb ty v hi hinfo h1]
    exact hK _ _ (h _ (setRow_heap w g cs _ t _ hb) (only_setRow w g _))
theorem wpList_storeAll {P : Program} {ops : Array Oper} {rest : List Oper} {o : Oper} {a : Act} {w : World} {Q : Exit → Act → World → Prop} (hgd : o.guard = none) (ty : TypeId) (x y : Operand) (ho : o.op = .store ty x y)
    {g : Nat} {t : TypeId} {old : Array Value} (hb : Block w g t old) (cs : Array Value) (hx : a.eval x = .pointer (some ⟨g, 0, none⟩)) (hy : a.eval y = .agg cs) (hinfo : (P.info? ty).map (·.size) = some cs.size) (hs : old.size = cs.size) (h1 : cs.all (·.oneCell') = true)
    (h : ∀ w', Block w' g t cs → Only [g] w w' → wpList P ops Q rest (a.put o.dst undef) w') : wpList P ops Q (o :: rest) a w :=
  wpList_store_row hgd ty x y ho g cs hx hy t old hb hinfo hs h1 (h _ (setRow_heap w g old _ t _ hb) (only_setRow w g _))

/-! Bytes as a text. -/
theorem run_text {P : Program} {w : World} {B : Nat} {ao : Option Addr} {l : List Int} (h : Nums w B .u8 ao l) {src dst e : TypeId} (hs : P.underlying src = some (.slice e)) (he : P.underlying e = some (.int .u8)) (hd : P.underlying dst = some .string) (c : Nat) :
    (convert src dst (.slice ao l.length c)).run P w = .ok (.string (strOfNums l)) w := by
  rcases ao with _ | ad
  · have hl : l = [] := by
      rcases l with _ | ⟨x, l⟩
      · rfl
      · obtain ⟨ad, h', _⟩ := h 0 x rfl
        cases h'
    subst hl
    rw [run_convert_bytes_nil w src e hs he _ c dst hd]
    rfl
  · have hl : (loadCells ad l.length).run P w = .ok (l.map (Value.int .u8)).toArray w := by
      have := run_loadCells_list (P := P) w ad (l.map (Value.int .u8)) (fun j v hj => by
        rw [List.getElem?_map] at hj
        rcases hx : l[j]? with _ | x
        · rw [hx] at hj; cases hj
        · rw [hx] at hj
          obtain ⟨ad', e', _, hc⟩ := h j x hx
          cases e'
          cases hj
          exact hc)
      simpa using this
    rw [run_convert_bytes_string w src dst e _ _ c hs he hd, run_bytesToString w _ _ c l hl, foldl_push_bytes]
    simp [strOfNums, ByteArray.empty, ByteArray.emptyWithCapacity]
    rfl
theorem wpList_text {P : Program} {ops : Array Oper} {rest : List Oper} {o : Oper} {a : Act} {w : World} {Q : Exit → Act → World → Prop} (hw : Region.wanted o (yielded ops a.tmps) = true) {src dst e : TypeId} (x : Operand) (ho : o.op = .convert src dst x)
    (hs : P.underlying src = some (.slice e)) (he : P.underlying e = some (.int .u8)) (hd : P.underlying dst = some .string) {B : Nat} {ao : Option Addr} {l : List Int} (c : Nat) (h : Nums w B .u8 ao l) (hx : a.eval x = .slice ao l.length c)
    (hK : wpList P ops Q rest (a.put o.dst (.string (strOfNums l))) w) : wpList P ops Q (o :: rest) a w :=
  wpList_wanted hw fun _ hK' => by
    unfold Oper.wp execOp
    simp only [ho, hx, Sem.run_bind, run_text h hs he hd, Result.andThen_ok]
    exact hK' _ _ hK
/-- A literal. -/
theorem Nums.lit (w : World) (e : TypeId) (k : IntKind) (l : List Int) : Nums (w.alloc (.cells (l.map (Value.int k)).toArray e)) (w.heap.size + 1) k (some ⟨w.heap.size, 0, none⟩) l := fun i x hx =>
  ⟨_, rfl, by simp, by
    rw [Addr.add_lit]
    have hb := Block.made w e (l.map (Value.int k)).toArray
    rw [Nat.zero_add]
    exact hb.cell i (by simp [hx])⟩

end Go.Proofs.Ytbibnnbmiefcgaa.Com
