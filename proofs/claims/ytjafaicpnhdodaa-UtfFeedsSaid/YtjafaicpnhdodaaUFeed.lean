/-
  The law UtfFeeds: the memory of its round, and the round's plain facts.
-/
import Derived.Test.YtjafaicpnhdodaaULaw4
namespace Go.Proofs.Ytjafaicpnhdodaa.Utf
open Go Go.RowKit Go.Proofs.Ytjafaicpnhdodaa.Com

/-- append in a region that draws its order. -/
theorem step_app {P : Program} {t e : TypeId} {k : IntKind} {bytes : Nat} (E : Elem P t e k bytes) {w : World} {ops : Array Oper} {o : Oper} {a : Act} {K : Act → World → Prop} {Q : Exit → Act → World → Prop} {F : Prop} (hw : Region.wanted o (yielded ops a.tmps) = true) (s x : Operand)
    (ho : o.op = .call { callee := .builtin .append, args := #[s, x], argTypes := #[t, t] })
    (B : Nat) (v : Value) (l m : List Int) (ao : Option Addr) (B' c : Nat) (hs : a.eval s = v) (hxe : a.eval x = .slice ao m.length c)
    (h : Own w B e k v l) (hm : Nums w B' k ao m) (hB : B ≤ w.heap.size) (hn : (l.length + m.length) * bytes ≤ 140737488355328) (hx : l.length + m.length ≤ maxLen)
    (hK : ∀ v' w', Own w' B e k v' (l ++ m) → Only v.ownBlock.toList w w' → (v'.ownBlock = v.ownBlock ∨ v'.ownBlock = some w.heap.size) → K (a.put o.dst v') w') :
    if Region.wanted o (yielded ops a.tmps) = true then Oper.wp P o a w K Q else F := by
  rw [if_pos hw]
  exact wp_app E s x ho B v l m ao B' c hs hxe h hm hB hn hx hK

/-- Two decoders, two rows of runes. -/
structure Mem (w : World) (d0 d1 : Nat) (D0 D1 : Dec) (v7 v8 : Value) (T H : List Int) (wr : World) : Prop where
  dec0 : DecIn wr d0 D0
  dec1 : DecIn wr d1 D1
  own7 : Own wr w.heap.size 21 .i32 v7 T
  own8 : Own wr w.heap.size 21 .i32 v8 H
  two : ∀ g, v7.ownBlock = some g → v8.ownBlock ≠ some g
  below : Below w.heap.size w wr
  at0 : w.heap.size ≤ d0
  at1 : w.heap.size ≤ d1
  ne : d0 ≠ d1

section
variable {w wr w' : World} {d0 d1 : Nat} {D0 D1 : Dec} {v7 v8 : Value} {T H : List Int}
theorem Mem.ap7 (h : Mem w d0 d1 D0 D1 v7 v8 T H wr) : v7.ownBlock ≠ some d0 ∧ v7.ownBlock ≠ some d1 := ⟨h.own7.apart h.dec0 (by decide), h.own7.apart h.dec1 (by decide)⟩
theorem Mem.ap8 (h : Mem w d0 d1 D0 D1 v7 v8 T H wr) : v8.ownBlock ≠ some d0 ∧ v8.ownBlock ≠ some d1 := ⟨h.own8.apart h.dec0 (by decide), h.own8.apart h.dec1 (by decide)⟩
/-- What turns none of the four. -/
theorem Mem.other {L : List Nat} (h : Mem w d0 d1 D0 D1 v7 v8 T H wr) (ho : Only L wr w') (hL : ∀ g ∈ L, w.heap.size ≤ g ∧ g ≠ d0 ∧ g ≠ d1 ∧ v7.ownBlock ≠ some g ∧ v8.ownBlock ≠ some g) : Mem w d0 d1 D0 D1 v7 v8 T H w' :=
  ⟨Block.only h.dec0 ho (fun hm => (hL _ hm).2.1 rfl), Block.only h.dec1 ho (fun hm => (hL _ hm).2.2.1 rfl), h.own7.only ho (fun _ hg hm => (hL _ hm).2.2.2.1 hg), h.own8.only ho (fun _ hg hm => (hL _ hm).2.2.2.2 hg), h.two,
    h.below.trans (ho.below h.below.size (fun _ hg => (hL _ hg).1)), h.at0, h.at1, h.ne⟩
theorem Mem.new (h : Mem w d0 d1 D0 D1 v7 v8 T H wr) (hb : Below wr.heap.size wr w') : Mem w d0 d1 D0 D1 v7 v8 T H w' := h.other (Only.of_below hb []) (by simp)
theorem Mem.fed0 {R : Dec × List Int} {v : Value} (h : Mem w d0 d1 D0 D1 v7 v8 T H wr) (hf : Fed wr d0 R v w') : Mem w d0 d1 R.1 D1 v7 v8 T H w' :=
  ⟨hf.dec, Block.only h.dec1 hf.only (by simpa using fun e => h.ne e.symm), h.own7.only hf.only (apart_one h.ap7.1), h.own8.only hf.only (apart_one h.ap8.1), h.two,
    h.below.trans (hf.only.below h.below.size (by simpa using h.at0)), h.at0, h.at1, h.ne⟩
theorem Mem.fed1 {R : Dec × List Int} {v : Value} (h : Mem w d0 d1 D0 D1 v7 v8 T H wr) (hf : Fed wr d1 R v w') : Mem w d0 d1 D0 R.1 v7 v8 T H w' :=
  ⟨Block.only h.dec0 hf.only (by simpa using h.ne), hf.dec, h.own7.only hf.only (apart_one h.ap7.2), h.own8.only hf.only (apart_one h.ap8.2), h.two,
    h.below.trans (hf.only.below h.below.size (by simpa using h.at1)), h.at0, h.at1, h.ne⟩
theorem Mem.app7 {v : Value} {T' : List Int} (h : Mem w d0 d1 D0 D1 v7 v8 T H wr) (hown : Own w' w.heap.size 21 .i32 v T') (ho : Only v7.ownBlock.toList wr w') (hat : v.ownBlock = v7.ownBlock ∨ v.ownBlock = some wr.heap.size) : Mem w d0 d1 D0 D1 v v8 T' H w' := by
  have h1 := h.ap7
  refine ⟨Block.only h.dec0 ho (fun hm => h1.1 (by simpa using hm)), Block.only h.dec1 ho (fun hm => h1.2 (by simpa using hm)), hown, h.own8.only ho (fun g hg hm => h.two g (by simpa using hm) hg), fun g hg hg8 => ?_,
    h.below.trans (ho.below h.below.size (fun g hg => (h.own7.lt g (by simpa using hg)).1)), h.at0, h.at1, h.ne⟩
  rcases hat with e | e
  · exact h.two g (e ▸ hg) hg8
  · have h2 := (h.own8.lt g hg8).2
    rw [e] at hg
    have h3 : wr.heap.size = g := by simpa using hg
    omega
/-- The second row is another one, of new memory. -/
theorem Mem.row8 {v : Value} {H' : List Int} (h : Mem w d0 d1 D0 D1 v7 v8 T H wr) (hb : Below wr.heap.size wr w') (hown : Own w' wr.heap.size 21 .i32 v H') : Mem w d0 d1 D0 D1 v7 v T H' w' := by
  have h1 := h.new hb
  refine ⟨h1.dec0, h1.dec1, h1.own7, hown.lower h.below.size, fun g hg hg8 => ?_, h1.below, h1.at0, h1.at1, h1.ne⟩
  have h2 := (h.own7.lt g hg).2
  have h3 := (hown.lt g hg8).1
  omega
end

/-! The bytes from f to k. -/
def seg (l : List Int) (f k : Nat) : List Int := (l.take k).drop f
theorem seg_next {l : List Int} {f k : Nat} (hf : f ≤ k) (hk : k < l.length) : seg l f (k + 1) = seg l f k ++ [l[k]] := by
  unfold seg
  rw [take_snoc hk, List.drop_append_of_le_length (by simp; omega)]
theorem seg_self (l : List Int) (k : Nat) : seg l k k = [] := by
  unfold seg
  exact List.drop_of_length_le (by simp; omega)
theorem seg_len (l : List Int) (f k : Nat) : (seg l f k).length ≤ k - f := by
  unfold seg
  simp
  omega
theorem seg_bytes {l : List Int} (h : Bytes l) (f k : Nat) : Bytes (seg l f k) := fun x hx => h x (List.mem_of_mem_take (List.mem_of_mem_drop hx))

/-- Where the loop stands: from f on k bytes were fed. -/
structure FeedsAt (w : World) (d0 d1 : Nat) (l : List Int) (v7 v8 : Value) (f k : Nat) (H : List Int) (wr : World) : Prop where
  mem : Mem w d0 d1 (runF zero (seg l f k)).1 (runF zero (seg l f k)).1 v7 v8 (H ++ (runF zero (seg l f k)).2) H wr
  len : H.length ≤ f
  le : f ≤ k

end Go.Proofs.Ytjafaicpnhdodaa.Utf
