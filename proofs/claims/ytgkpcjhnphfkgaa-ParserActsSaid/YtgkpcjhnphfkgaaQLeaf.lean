/-
  parser: the parser's block; the text that it owns; acts in memory.
-/
import Derived.Test.YtgkpcjhnphfkgaaChecked
import Derived.Test.YtgkpcjhnphfkgaaQMath
import Derived.Test.YtgkpcjhnphfkgaaMem
import Derived.WalkLawsBesides
import Derived.LoopTactic
import Derived.IntWalk
import Derived.Outline
import Derived.Deep.QuietTactic
import Derived.BigQuiet
import Derived.Deep.DeepMust
namespace Go.Proofs.Ytgkpcjhnphfkgaa.Prs
open Go Go.RowKit Go.Proofs.Ytgkpcjhnphfkgaa.Com Go.Proofs.Ytgkpcjhnphfkgaa.Par

/-- The cells of a list of numbers: its 32 places, how many count, whether a Next was too many. -/
def cellsL (L : Lst) : List Value := (L.n ++ List.replicate (32 - L.n.length) 0).map (Value.int .i64) ++ [.int .i64 L.n.length, .bool L.over]
def tailL (q : Sq) (v : Value) : List Value := [.int .i32 q.a, .int .i32 q.b, .int .i64 q.cnt, .bool q.many, v]
/-- The cells of a parser: its state, its sequence, its text. -/
def parL (S : PS) (v : Value) : List Value := .int .u8 S.st :: .int .i32 S.sq.pr :: (cellsL S.sq.num ++ tailL S.sq v)
def PBlk (w : World) (d : Nat) (S : PS) (v : Value) : Prop := Block w d 43 (parL S v).toArray

theorem cells_pad {L : Lst} (h : L.n.length ≤ 32) : ((L.n ++ List.replicate (32 - L.n.length) 0).map (Value.int .i64)).length = 32 := by simp; omega
theorem cells_at {L : Lst} {i : Nat} (h : i < L.n.length) : (cellsL L)[i]? = some (.int .i64 L.n[i]) := by
  unfold cellsL
  rw [List.getElem?_append_left (by simp; omega), List.getElem?_map, List.getElem?_append_left h, List.getElem?_eq_getElem h]
  rfl
theorem cells_count {L : Lst} (h : L.n.length ≤ 32) : (cellsL L)[32]? = some (.int .i64 L.n.length) := by
  unfold cellsL
  rw [List.getElem?_append_right (by rw [cells_pad h]; omega), cells_pad h]
  rfl
theorem cells_over {L : Lst} (h : L.n.length ≤ 32) : (cellsL L)[33]? = some (.bool L.over) := by
  unfold cellsL
  rw [List.getElem?_append_right (by rw [cells_pad h]; omega), cells_pad h]
  rfl
theorem cells_size {L : Lst} (h : L.n.length ≤ 32) : (cellsL L).length = 34 := by
  unfold cellsL
  rw [List.length_append, cells_pad h]
  rfl
theorem cells_put {L : Lst} {i : Nat} (hi : i < L.n.length) (x : Int) : (cellsL L).set i (.int .i64 x) = cellsL ⟨L.n.set i x, L.over⟩ := by
  unfold cellsL
  rw [List.set_append_left _ _ (by simp; omega), ← List.map_set, List.set_append_left _ _ hi]
  simp
theorem cells_begin {L : Lst} (h : L.n.length = 0) : (cellsL L).set 32 (.int .i64 1) = cellsL ⟨begF L.n, L.over⟩ := by
  obtain ⟨n, o⟩ := L
  have : n = [] := List.eq_nil_of_length_eq_zero h
  subst this
  rfl
theorem cells_next {L : Lst} (h : L.n.length < 32) : (cellsL L).set 32 (.int .i64 ((L.n.length : Int) + 1)) = cellsL ⟨L.n ++ [0], L.over⟩ := by
  have hp := cells_pad (L := L) (by omega)
  have e : L.n ++ [0] ++ List.replicate (32 - (L.n ++ [0]).length) 0 = L.n ++ List.replicate (32 - L.n.length) 0 := by
    rw [List.append_assoc, List.length_append, List.length_singleton]
    congr 1
    rw [show 32 - L.n.length = (32 - (L.n.length + 1)) + 1 by omega, List.replicate_succ]
    rfl
  unfold cellsL
  rw [List.set_append_right _ _ (by rw [hp]; omega), hp]
  simp only [e]
  congr 1
  simp
theorem cells_over2 {L : Lst} (h : L.n.length ≤ 32) : (cellsL L).set 33 (.bool true) = cellsL ⟨L.n, true⟩ := by
  have hp := cells_pad h
  unfold cellsL
  rw [List.set_append_right _ _ (by rw [hp]; omega), hp]
  rfl
theorem cells_one (L : Lst) : (cellsL L).all (·.oneCell') = true := by
  unfold cellsL
  simp [Value.oneCell']

/-! Where a cell of the list, of the rest stands in the parser's block. -/
theorem par_num {S : PS} {v : Value} {i : Nat} {u : Value} (h : (cellsL S.sq.num)[i]? = some u) : (parL S v)[2 + i]? = some u := by
  unfold parL
  rw [show 2 + i = i + 1 + 1 by omega, List.getElem?_cons_succ, List.getElem?_cons_succ, List.getElem?_append_left (List.getElem?_eq_some_iff.1 h).1]
  exact h
theorem par_tail {S : PS} {v : Value} (hL : S.sq.num.n.length ≤ 32) {i : Nat} {u : Value} (h : (tailL S.sq v)[i]? = some u) : (parL S v)[36 + i]? = some u := by
  unfold parL
  rw [show 36 + i = (34 + i) + 1 + 1 by omega, List.getElem?_cons_succ, List.getElem?_cons_succ, List.getElem?_append_right (by rw [cells_size hL]; omega), cells_size hL, Nat.add_sub_cancel_left]
  exact h
theorem par_size {S : PS} {v : Value} (hL : S.sq.num.n.length ≤ 32) : (parL S v).length = 41 := by
  unfold parL
  simp [cells_size hL, tailL]
section
variable {w : World} {d : Nat} {S : PS} {v : Value}
theorem PBlk.blk (h : PBlk w d S v) : Block w d 43 (parL S v).toArray := h
theorem PBlk.free (h : PBlk w d S v) (i : Nat) : w.frozen? ⟨d, i, none⟩ = false := Block.free h i
theorem PBlk.lt (h : PBlk w d S v) : d < w.heap.size := Block.lt h
theorem PBlk.c0 (h : PBlk w d S v) : w.cell? ⟨d, 0, none⟩ = some (.int .u8 S.st) := Block.cell h 0 rfl
theorem PBlk.c1 (h : PBlk w d S v) : w.cell? ⟨d, 1, none⟩ = some (.int .i32 S.sq.pr) := Block.cell h 1 rfl
theorem PBlk.at (h : PBlk w d S v) {i : Nat} (hi : i < S.sq.num.n.length) : w.cell? ⟨d, 2 + i, none⟩ = some (.int .i64 S.sq.num.n[i]) := Block.cell h (2 + i) (by simpa using par_num (v := v) (cells_at hi))
theorem PBlk.count (h : PBlk w d S v) (hk : S.sq.num.n.length ≤ 32) : w.cell? ⟨d, 34, none⟩ = some (.int .i64 S.sq.num.n.length) := Block.cell h 34 (by simpa using par_num (v := v) (cells_count hk))
theorem PBlk.over (h : PBlk w d S v) (hk : S.sq.num.n.length ≤ 32) : w.cell? ⟨d, 35, none⟩ = some (.bool S.sq.num.over) := Block.cell h 35 (by simpa using par_num (v := v) (cells_over hk))
theorem PBlk.pa (h : PBlk w d S v) (hk : S.sq.num.n.length ≤ 32) : w.cell? ⟨d, 36, none⟩ = some (.int .i32 S.sq.a) := Block.cell h 36 (by simpa using par_tail (v := v) hk (i := 0) rfl)
theorem PBlk.pb (h : PBlk w d S v) (hk : S.sq.num.n.length ≤ 32) : w.cell? ⟨d, 37, none⟩ = some (.int .i32 S.sq.b) := Block.cell h 37 (by simpa using par_tail (v := v) hk (i := 1) rfl)
theorem PBlk.cnt (h : PBlk w d S v) (hk : S.sq.num.n.length ≤ 32) : w.cell? ⟨d, 38, none⟩ = some (.int .i64 S.sq.cnt) := Block.cell h 38 (by simpa using par_tail (v := v) hk (i := 2) rfl)
theorem PBlk.many (h : PBlk w d S v) (hk : S.sq.num.n.length ≤ 32) : w.cell? ⟨d, 39, none⟩ = some (.bool S.sq.many) := Block.cell h 39 (by simpa using par_tail (v := v) hk (i := 3) rfl)
theorem PBlk.txt (h : PBlk w d S v) (hk : S.sq.num.n.length ≤ 32) : w.cell? ⟨d, 40, none⟩ = some v := Block.cell h 40 (by simpa using par_tail (v := v) hk (i := 4) rfl)
theorem PBlk.only {L : List Nat} {w' : World} (h : PBlk w d S v) (ho : Only L w w') (hn : d ∉ L) : PBlk w' d S v := Block.only h ho hn
theorem PBlk.new {w' : World} (h : PBlk w d S v) (hb : Below w.heap.size w w') : PBlk w' d S v := h.only (Only.of_below hb []) (by simp)
theorem PBlk.set {S' : PS} {v' : Value} (h : PBlk w d S v) {i : Nat} {u : Value} (hs : (parL S v).set i u = parL S' v') : PBlk (w.setCell ⟨d, i, none⟩ u) d S' v' := by
  have := Block.set h i u
  rw [List.setIfInBounds_toArray, hs] at this
  exact this
end
theorem set_num {S : PS} {v : Value} {i : Nat} {u : Value} {L : Lst} (hL : S.sq.num.n.length ≤ 32) (hi : i < 34) (h : (cellsL S.sq.num).set i u = cellsL L) : (parL S v).set (2 + i) u = parL (S.num L) v := by
  unfold parL
  replace hi : i < (cellsL S.sq.num).length := by rw [cells_size hL]; exact hi
  rw [show 2 + i = i + 1 + 1 by omega, List.set_cons_succ, List.set_cons_succ, List.set_append_left _ _ hi, h]
  rfl
theorem set_tail {S : PS} {v : Value} (hL : S.sq.num.n.length ≤ 32) {i : Nat} {u : Value} {q : Sq} {v' : Value} (hq : q.pr = S.sq.pr ∧ q.num = S.sq.num) (h : (tailL S.sq v).set i u = tailL q v') :
    (parL S v).set (36 + i) u = parL ⟨S.st, q, S.text⟩ v' := by
  unfold parL
  rw [show 36 + i = (34 + i) + 1 + 1 by omega, List.set_cons_succ, List.set_cons_succ, List.set_append_right _ _ (by rw [cells_size hL]; omega), cells_size hL, Nat.add_sub_cancel_left, h]
  simp only [hq.1, hq.2]
theorem set_a {S : PS} (hL : S.sq.num.n.length ≤ 32) (v : Value) (r : Int) : (parL S v).set 36 (.int .i32 r) = parL ⟨S.st, ⟨S.sq.pr, S.sq.num, r, S.sq.b, S.sq.cnt, S.sq.many⟩, S.text⟩ v := set_tail (v := v) hL (i := 0) ⟨rfl, rfl⟩ rfl
theorem set_b {S : PS} (hL : S.sq.num.n.length ≤ 32) (v : Value) (r : Int) : (parL S v).set 37 (.int .i32 r) = parL ⟨S.st, ⟨S.sq.pr, S.sq.num, S.sq.a, r, S.sq.cnt, S.sq.many⟩, S.text⟩ v := set_tail (v := v) hL (i := 1) ⟨rfl, rfl⟩ rfl
theorem set_cnt {S : PS} (hL : S.sq.num.n.length ≤ 32) (v : Value) (n : Nat) : (parL S v).set 38 (.int .i64 n) = parL ⟨S.st, ⟨S.sq.pr, S.sq.num, S.sq.a, S.sq.b, n, S.sq.many⟩, S.text⟩ v := set_tail (v := v) hL (i := 2) (q := ⟨S.sq.pr, S.sq.num, S.sq.a, S.sq.b, n, S.sq.many⟩) ⟨rfl, rfl⟩ rfl
theorem set_many {S : PS} (hL : S.sq.num.n.length ≤ 32) (v : Value) : (parL S v).set 39 (.bool true) = parL ⟨S.st, ⟨S.sq.pr, S.sq.num, S.sq.a, S.sq.b, S.sq.cnt, true⟩, S.text⟩ v := set_tail (v := v) hL (i := 3) ⟨rfl, rfl⟩ rfl
theorem set_txt {S : PS} (hL : S.sq.num.n.length ≤ 32) (v v' : Value) : (parL S v).set 40 v' = parL S v' := set_tail (v := v) hL (i := 4) ⟨rfl, rfl⟩ rfl
theorem set_st (S : PS) (v : Value) (s : Int) : (parL S v).set 0 (.int .u8 s) = parL ⟨s, S.sq, S.text⟩ v := rfl
theorem set_pr (S : PS) (v : Value) (r : Int) : (parL S v).set 1 (.int .i32 r) = parL (S.priv r) v := rfl

/-! Numbers in blocks that are told apart by ok. -/
def NumsP (w : World) (ok : Nat → Prop) (k : IntKind) (ao : Option Addr) (l : List Int) : Prop :=
  ∀ i x, l[i]? = some x → ∃ ad, ao = some ad ∧ ok ad.block ∧ w.cell? (ad.add i) = some (.int k x)
section
variable {w w' : World} {ok ok' : Nat → Prop} {k : IntKind} {ao : Option Addr} {l : List Int}
theorem NumsP.nil (w : World) (ok : Nat → Prop) (k : IntKind) (ao : Option Addr) : NumsP w ok k ao [] := fun i x h => by simp at h
theorem NumsP.mono (h : NumsP w ok k ao l) (hm : ∀ g, g < w.heap.size → ok g → ok' g) : NumsP w ok' k ao l := fun i x hx => by
  obtain ⟨ad, e, hk, hc⟩ := h i x hx
  have hlt := World.block_lt_of_cell? _ _ hc
  rw [block_add] at hlt
  exact ⟨ad, e, hm _ hlt hk, hc⟩
theorem NumsP.only {L : List Nat} (h : NumsP w ok k ao l) (ho : Only L w w') (hn : ∀ g ∈ L, ¬ ok g) : NumsP w' ok k ao l := fun i x hx => by
  obtain ⟨ad, e, hk, hc⟩ := h i x hx
  have hlt := World.block_lt_of_cell? _ _ hc
  rw [block_add] at hlt
  refine ⟨ad, e, hk, (World.cell?_of_block (w := w) (ho.block _ (by rw [block_add]; exact hlt) (fun hm => ?_))).trans hc⟩
  rw [block_add] at hm
  exact hn _ hm hk
theorem NumsP.nums (h : NumsP w ok k ao l) : Nums w w.heap.size k ao l := h.mono (fun _ hg _ => hg)
end
theorem numsP_own {w : World} {B : Nat} {e : TypeId} {k : IntKind} {v : Value} {l : List Int} (h : Own w B e k v l) : ∃ ao cap, v = .slice ao l.length cap ∧ l.length ≤ cap ∧ cap ≤ maxLen ∧ NumsP w (fun g => v.ownBlock = some g) k ao l := by
  obtain ⟨ao, cap, rfl, h1, h2, hn⟩ := h.shape
  refine ⟨ao, cap, rfl, h1, h2, fun i x hx => ?_⟩
  obtain ⟨ad, rfl, _, hc⟩ := hn i x hx
  exact ⟨ad, rfl, rfl, hc⟩

/-! Acts in memory. -/
inductive All2 {α β : Type} (R : α → β → Prop) : List α → List β → Prop
  | nil : All2 R [] []
  | cons {a b l m} (h : R a b) (t : All2 R l m) : All2 R (a :: l) (b :: m)
theorem All2.app {α β : Type} {R : α → β → Prop} {l l' : List α} {m m' : List β} (h : All2 R l m) (g : All2 R l' m') : All2 R (l ++ l') (m ++ m') := by
  induction h with
  | nil => exact g
  | cons h _ ih => exact .cons h ih
theorem All2.mono {α β : Type} {R R' : α → β → Prop} {l : List α} {m : List β} (h : All2 R l m) (hm : ∀ a b, R a b → R' a b) : All2 R' l m := by
  induction h with
  | nil => exact .nil
  | cons h _ ih => exact .cons (hm _ _ h) ih
theorem All2.len {α β : Type} {R : α → β → Prop} {l : List α} {m : List β} (h : All2 R l m) : m.length = l.length := by
  induction h with
  | nil => rfl
  | cons _ _ ih => simp [ih]
theorem All2.at {α β : Type} {R : α → β → Prop} {l : List α} {m : List β} (h : All2 R l m) {i : Nat} {a : α} (ha : l[i]? = some a) : ∃ b, m[i]? = some b ∧ R a b := by
  induction h generalizing i with
  | nil => simp at ha
  | cons h _ ih =>
    rcases i with _ | i
    · simp at ha; subst ha; exact ⟨_, rfl, h⟩
    · exact ih (by simpa using ha)

def actL (A : Act) (p i t : Value) : List Value := [.int .u8 A.kind, .int .i32 A.R, .int .i32 A.priv, p, i, .int .i32 A.final, t]
structure ActIs (w : World) (ok : Nat → Prop) (A : Act) (cs : List Value) : Prop where
  ex : ∃ ap cp ai ci at_ ct, cs = actL A (.slice ap A.params.length cp) (.slice ai A.inter.length ci) (.slice at_ A.text.length ct) ∧ NumsP w ok .i64 ap A.params ∧ NumsP w ok .i32 ai A.inter ∧ NumsP w ok .i32 at_ A.text
section
variable {w w' : World} {ok ok' : Nat → Prop} {A : Act} {cs : List Value}
theorem ActIs.len (h : ActIs w ok A cs) : cs.length = 7 := by
  obtain ⟨_, _, _, _, _, _, rfl, _⟩ := h.ex
  rfl
theorem ActIs.one (h : ActIs w ok A cs) : ∀ u ∈ cs, u.oneCell' = true := by
  obtain ⟨_, _, _, _, _, _, rfl, _⟩ := h.ex
  simp [actL, Value.oneCell']
theorem ActIs.mono (h : ActIs w ok A cs) (hm : ∀ g, g < w.heap.size → ok g → ok' g) : ActIs w ok' A cs := by
  obtain ⟨a, b, c, d, e, f, rfl, h1, h2, h3⟩ := h.ex
  exact ⟨a, b, c, d, e, f, rfl, h1.mono hm, h2.mono hm, h3.mono hm⟩
theorem ActIs.only {L : List Nat} (h : ActIs w ok A cs) (ho : Only L w w') (hn : ∀ g ∈ L, ¬ ok g) : ActIs w' ok A cs := by
  obtain ⟨a, b, c, d, e, f, rfl, h1, h2, h3⟩ := h.ex
  exact ⟨a, b, c, d, e, f, rfl, h1.only ho hn, h2.only ho hn, h3.only ho hn⟩
end
theorem flat_len {l : List Act} {css : List (List Value)} {R : Act → List Value → Prop} (h : All2 R l css) (h7 : ∀ a c, R a c → c.length = 7) : css.flatten.length = l.length * 7 := by
  induction h with
  | nil => rfl
  | cons h _ ih => simp only [List.flatten_cons, List.length_append, List.length_cons, ih, h7 _ _ h]; omega
theorem flat_at {l : List Act} {css : List (List Value)} {R : Act → List Value → Prop} (h : All2 R l css) (h7 : ∀ a c, R a c → c.length = 7) {i j : Nat} {c : List Value} {u : Value} (hc : css[i]? = some c) (hu : c[j]? = some u) : css.flatten[i * 7 + j]? = some u := by
  induction h generalizing i with
  | nil => simp at hc
  | cons h t ih =>
    rcases i with _ | i
    · simp at hc
      subst hc
      have := (List.getElem?_eq_some_iff.1 hu).1
      rw [List.flatten_cons, List.getElem?_append_left (by omega)]
      simpa using hu
    · rw [List.flatten_cons, List.getElem?_append_right (by rw [h7 _ _ h]; omega), h7 _ _ h, show (i + 1) * 7 + j - 7 = i * 7 + j by omega]
      exact ih (by simpa using hc)

/-- Acts in a row that the call owns; what they name lies in blocks that ok allows. -/
structure ActsIn (w : World) (B : Nat) (ok : Nat → Prop) (x : Value) (As : List Act) : Prop where
  ex : ∃ css : List (List Value), All2 (ActIs w (fun g => ok g ∧ x.ownBlock ≠ some g)) As css ∧ w.ownsRow B 33 7 x As.length css.flatten
section
variable {w w' : World} {B B' : Nat} {ok ok' : Nat → Prop} {x : Value} {As : List Act}
theorem ActsIn.nil (w : World) (B : Nat) (ok : Nat → Prop) : ActsIn w B ok (.slice none 0 0) [] := ⟨[], .nil, World.ownsRow_nil w B _ 7⟩
theorem ActsIn.mono (h : ActsIn w B ok x As) (hm : ∀ g, g < w.heap.size → ok g → ok' g) : ActsIn w B ok' x As := by
  obtain ⟨css, h1, h2⟩ := h.ex
  exact ⟨css, h1.mono (fun _ _ h => h.mono (fun g hg hk => ⟨hm g hg hk.1, hk.2⟩)), h2⟩
theorem ActsIn.lower (h : ActsIn w B ok x As) (hB : B' ≤ B) : ActsIn w B' ok x As := by
  obtain ⟨css, h1, h2, h3⟩ := h.ex
  refine ⟨css, h1, h2, ?_⟩
  rcases h3 with h3 | ⟨g, cap, cur, rfl, hg, r⟩
  · exact .inl h3
  · exact .inr ⟨g, cap, cur, rfl, by omega, r⟩
theorem ActsIn.row (h : ActsIn w B ok x As) : ∀ g, x.ownBlock = some g → B ≤ g ∧ g < w.heap.size := by
  obtain ⟨css, _, h2⟩ := h.ex
  exact World.ownsRow.lt h2
theorem ActsIn.only {L : List Nat} (h : ActsIn w B ok x As) (ho : Only L w w') (hn : ∀ g ∈ L, ¬ ok g) (hx : ∀ g, x.ownBlock = some g → g ∉ L) : ActsIn w' B ok x As := by
  obtain ⟨css, h1, h2, h3⟩ := h.ex
  refine ⟨css, h1.mono (fun _ _ h => h.only ho (fun g hg hk => hn g hg hk.1)), h2, ?_⟩
  rcases h3 with h3 | ⟨g, cap, cur, rfl, hg, hh, r⟩
  · exact .inl h3
  · exact .inr ⟨g, cap, cur, rfl, hg, (ho.block g (lt_of_block hh) (hx g rfl)).trans hh, r⟩
/-- A row of another element type, a block of another type, is another block. -/
theorem ActsIn.apart_row (h : ActsIn w B ok x As) {B2 : Nat} {e : TypeId} {k : IntKind} {v : Value} {l : List Int} (h2 : Own w B2 e k v l) (he : e ≠ 33) : ∀ g, x.ownBlock = some g → v.ownBlock ≠ some g := by
  intro g hg hv
  obtain ⟨css, _, _, h3⟩ := h.ex
  rcases h3 with ⟨rfl, _⟩ | ⟨g', cap, cur, rfl, _, hh, _⟩
  · simp [Value.ownBlock] at hg
  · have e' : g' = g := by simpa [Value.ownBlock] using hg
    subst e'
    exact h2.apart (g := g') hh he hv
theorem ActsIn.apart_blk (h : ActsIn w B ok x As) {d : Nat} {t : TypeId} {cs : Array Value} (h2 : Block w d t cs) (he : t ≠ 33) : x.ownBlock ≠ some d := by
  intro hg
  obtain ⟨css, _, _, h3⟩ := h.ex
  rcases h3 with ⟨rfl, _⟩ | ⟨g', cap, cur, rfl, _, hh, _⟩
  · simp [Value.ownBlock] at hg
  · have e' : g' = d := by simpa [Value.ownBlock] using hg
    subst e'
    exact Block.apart (t := t) h2 hh he rfl
theorem ActsIn.shape (h : ActsIn w B ok x As) : ∃ ao cap, x = .slice ao As.length cap ∧ As.length ≤ cap ∧ cap ≤ maxLen := by
  obtain ⟨css, _, _, h3⟩ := h.ex
  rcases h3 with ⟨rfl, hn⟩ | ⟨g, cap, cur, rfl, _, _, hn, hm, _⟩
  · exact ⟨none, 0, by rw [hn], by omega, by simp [maxLen]⟩
  · exact ⟨_, cap, rfl, hn, hm⟩
end

/-- Acts as a slice shows them. -/
structure ActsRd (w : World) (ao : Option Addr) (As : List Act) : Prop where
  at_ : ∀ i A, As[i]? = some A → ∃ g cs, ao = some ⟨g, 0, none⟩ ∧ g < w.heap.size ∧ ActIs w (· < w.heap.size) A cs ∧ ∀ j u, cs[j]? = some u → w.cell? ⟨g, i * 7 + j, none⟩ = some u
theorem ActsIn.rd {w : World} {B : Nat} {ok : Nat → Prop} {As : List Act} {ao : Option Addr} {n c : Nat} (h : ActsIn w B ok (.slice ao n c) As) : n = As.length ∧ ActsRd w ao As := by
  obtain ⟨css, h1, h2⟩ := h.ex
  have hn : n = As.length := by
    obtain ⟨a', c', e, _⟩ := h.shape
    cases e
    rfl
  refine ⟨hn, ⟨fun i A hA => ?_⟩⟩
  obtain ⟨cs, hc, hi⟩ := h1.at hA
  have hcell := fun g hg => World.ownsRow.cells h2 (g := g) hg
  rcases h2.2 with ⟨_, hn⟩ | ⟨g, cap, cur, e, _, hh, _⟩
  · have : i < As.length := (List.getElem?_eq_some_iff.1 hA).1
    omega
  · cases e
    refine ⟨g, cs, rfl, lt_of_block hh, hi.mono (fun _ hg _ => hg), fun j u hu => ?_⟩
    have := hcell g rfl _ u (flat_at h1 (fun _ _ h => h.len) hc hu)
    rw [Addr.add_lit, Nat.zero_add] at this
    exact this
theorem ActsRd.below {w w' : World} {ao : Option Addr} {As : List Act} (h : ActsRd w ao As) (hb : Below w.heap.size w w') : ActsRd w' ao As := ⟨fun i A hA => by
  obtain ⟨g, cs, e, hlt, h1, h2⟩ := h.at_ i A hA
  have ho := Only.of_below hb []
  exact ⟨g, cs, e, by have := hb.size; omega, (h1.only ho (by simp)).mono (fun g hg _ => hg), fun j u hu => (World.cell?_of_block (w := w) (ho.block g hlt (by simp))).trans (h2 j u hu)⟩⟩

/-- A parser's block, and the text that it owns. -/
structure ParIn (w : World) (B d : Nat) (v : Value) (S : PS) : Prop where
  blk : PBlk w d S v
  own : Own w B 21 .i32 v S.text
  low : B ≤ d
theorem ParIn.apart {w : World} {B d : Nat} {v : Value} {S : PS} (h : ParIn w B d v S) : v.ownBlock ≠ some d := h.own.apart h.blk.blk (by decide)
theorem ParIn.only {w w' : World} {B d : Nat} {v : Value} {S : PS} (h : ParIn w B d v S) {L : List Nat} (ho : Only L w w') (h1 : d ∉ L) (h2 : ∀ g, v.ownBlock = some g → g ∉ L) : ParIn w' B d v S := ⟨h.blk.only ho h1, h.own.only ho h2, h.low⟩
theorem ParIn.new {w w' : World} {B d : Nat} {v : Value} {S : PS} (h : ParIn w B d v S) (hb : Below w.heap.size w w') : ParIn w' B d v S := h.only (Only.of_below hb []) (by simp) (by simp)

/-- Which blocks an act that is told may name: new ones, and the text's that the parser gave away. -/
structure Mine (n d : Nat) (v u : Value) (g : Nat) : Prop where
  from_ : n ≤ g ∨ v.ownBlock = some g
  text : u.ownBlock ≠ some g
  block : g ≠ d
/-- What a call of the parser's leaves that tells acts. -/
structure FedU (w : World) (B d : Nat) (v : Value) (S' : PS) (As : List Act) (x u : Value) (w' : World) : Prop where
  par : ParIn w' B d u S'
  lies : u.ownBlock = v.ownBlock ∨ u.ownBlock = none ∨ ∃ g, u.ownBlock = some g ∧ w.heap.size ≤ g
  acts : ActsIn w' w.heap.size (Mine w.heap.size d v u) x As
  only : Only (d :: v.ownBlock.toList) w w'
def Fed (w : World) (B d : Nat) (v : Value) (X : Stp) (e : Ending) (w' : World) : Prop := ∃ x u, e = .returned x ∧ FedU w B d v X.2 X.1 x u w'

end Go.Proofs.Ytgkpcjhnphfkgaa.Prs
