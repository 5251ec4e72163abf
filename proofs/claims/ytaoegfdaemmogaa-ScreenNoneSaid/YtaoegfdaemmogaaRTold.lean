/-
  row: cells as they are handed out.
-/
import Derived.Test.YtaoegfdaemmogaaRJoin
namespace Go.Proofs.Ytaoegfdaemmogaa.Rw
open Go Go.RowKit Go.Proofs.Ytaoegfdaemmogaa.Com

/-! A cell that is handed out, its marks' list v beside it; a row of such. -/
def apiC (c : Cel) (v : Value) : List Value := .int .i32 c.r :: v :: .int .u8 c.wide :: attV c.a
def apiP (p : Cel × Value) : List Value := apiC p.1 p.2
theorem apiP_length (p : Cel × Value) : (apiP p).length = 6 := rfl
theorem Own.one {w : World} {B : Nat} {e : TypeId} {k : IntKind} {v : Value} {l : List Int} (h : Own w B e k v l) : v.oneCell' = true := by
  obtain ⟨ao, c, rfl, _⟩ := h.shape
  rfl
theorem Own.typ {w : World} {B : Nat} {e : TypeId} {k : IntKind} {v : Value} {l : List Int} (h : Own w B e k v l) {g : Nat} (hg : v.ownBlock = some g) : Typ w g e := by
  rcases h.2 with ⟨rfl, _⟩ | ⟨x, cap, cur, rfl, _, hh, _⟩
  · cases hg
  · obtain rfl : x = g := by simpa [Value.ownBlock] using hg
    exact ⟨cur, _, hh⟩
theorem Own.fr {B B' : Nat} {ts : List TypeId} {w w' : World} {e : TypeId} {k : IntKind} {v : Value} {l : List Int} (h : Own w B e k v l) (hf : Fr B' ts w w') (he : e ∉ ts) : Own w' B e k v l := by
  have hty := fun g hg => Own.typ h (g := g) hg
  have hlt := fun g hg => (h.lt g hg).2
  refine ⟨h.1, ?_⟩
  rcases h.2 with h2 | ⟨g, cap, cur, rfl, hg, hh, r⟩
  · exact .inl h2
  · refine .inr ⟨g, cap, cur, rfl, hg, (hf.block g (hlt g rfl) (.inr fun t ht hT => he ?_)).trans hh, r⟩
    rw [Typ.inj (hty g rfl) hT]
    exact ht
structure Api (B : Nat) (w : World) (v : Value) (ps : List (Cel × Value)) : Prop where
  own : w.ownsRow B 119 6 v ps.length (fl apiP ps)
  comb : ∀ p ∈ ps, Own w B 21 .i32 p.2 p.1.m
theorem ownsRow_fr {B B' : Nat} {ts : List TypeId} {w w' : World} {e : TypeId} {s n : Nat} {v : Value} {xs : List Value} (h : w.ownsRow B e s v n xs) (hf : Fr B' ts w w') (he : e ∉ ts) : w'.ownsRow B e s v n xs := by
  have hlt := World.ownsRow.lt h
  refine ⟨h.1, ?_⟩
  rcases h.2 with h2 | ⟨g, cap, cur, rfl, hg, hh, r⟩
  · exact .inl h2
  · refine .inr ⟨g, cap, cur, rfl, hg, (hf.block g (hlt g rfl).2 (.inr fun t ht hT => he ?_)).trans hh, r⟩
    rw [Typ.inj (⟨cur, _, hh⟩ : Typ w g e) hT]
    exact ht
theorem Api.fr {B B' : Nat} {ts : List TypeId} {w w' : World} {v : Value} {ps : List (Cel × Value)} (h : Api B w v ps) (hf : Fr B' ts w w') (h1 : 119 ∉ ts) (h2 : 21 ∉ ts) : Api B w' v ps := ⟨ownsRow_fr h.own hf h1, fun p hp => Own.fr (h.comb p hp) hf h2⟩
theorem Api.below {B : Nat} {w w' : World} {v : Value} {ps : List (Cel × Value)} (h : Api B w v ps) (hb : Below w.heap.size w w') : Api B w' v ps := h.fr (Fr.of_below (B := 0) (ts := []) hb) (by simp) (by simp)
theorem Api.lower {B B' : Nat} {w : World} {v : Value} {ps : List (Cel × Value)} (h : Api B w v ps) (hB : B' ≤ B) : Api B' w v ps := ⟨by
  refine ⟨h.own.1, ?_⟩
  rcases h.own.2 with h2 | ⟨g, cap, cur, e, hg, r⟩
  · exact .inl h2
  · exact .inr ⟨g, cap, cur, e, Nat.le_trans hB hg, r⟩, fun p hp => (h.comb p hp).lower hB⟩

theorem elemI : Elem Try.prog 117 21 .i32 4 := by
  have h : (Try.prog.info? 21).map (fun i => (i.zero, i.size, i.bytes)) = some (some (.int .i32 0), 1, 4) := by kernel_rfl
  obtain ⟨i, h0, h1, h2, h3⟩ := info_parts h
  exact ⟨Try.underlying117, i, h0, h1, h2, h3⟩
theorem info48 : (Try.prog.info? 119).map (·.size) = some 6 := by kernel_rfl
theorem info48' (c : Cel) (v : Value) : (Try.prog.info? 119).map (·.size) = some (apiC c v).length := info48
theorem apiC_one {c : Cel} {v : Value} (h : v.oneCell' = true) : ∀ u ∈ apiC c v, u.oneCell' = true := by
  intro u hu
  simp only [apiC, attV, List.mem_cons, List.not_mem_nil, or_false] at hu
  rcases hu with rfl | rfl | rfl | rfl | rfl | rfl
  · rfl
  · exact h
  · rfl
  · rfl
  · rfl
  · rfl

theorem marks_slice (k : Nat) (hk : k ≤ 4) (bx : Nat) (w : World) :
    (Instr.sliceAt 111 (.pointer (some ⟨bx, 1, none⟩)) none (some (.int .u8 k)) none).run Try.prog w = .ok (.slice (some ⟨bx, 1, none⟩) k 4) w := by
  have ht : Try.prog.underlying 111 = some (.array (Try.prog.arrayLen 111) (Try.prog.elem 111)) := by kernel_rfl
  have hl : Try.prog.arrayLen 111 = 4 := by kernel_rfl
  have hi : (Try.prog.info? (Try.prog.elem 111)).map (·.size) = some 1 := by kernel_rfl
  rw [run_sliceAt_array_h w _ ⟨bx, 1, none⟩ ht .u8 k (by omega) (by rw [hl]; omega)]
  cases hq : Try.prog.info? (Try.prog.elem 111) with
  | none => simp [hq] at hi
  | some j =>
    have hs : j.size = 1 := by simpa [hq] using hi
    simp [sizeOf, typeInfo, hq, hs, slicedAt, hl, Addr.add]
theorem wpList_appk {P : Program} {t e : TypeId} {k : IntKind} {bytes : Nat} (E : Elem P t e k bytes) {w : World} {ops : Array Oper} {rest : List Oper} {o : Oper} {a : Go.Act} {Q : Exit → Go.Act → World → Prop} (hgd : Region.wanted o (yielded ops a.tmps) = true) (s x : Operand)
    (ho : o.op = .call { callee := .builtin .append, args := #[s, x], argTypes := #[t, t] })
    (B : Nat) (v : Value) (l m : List Int) (n : Nat) (hn' : n = m.length) (ao : Option Addr) (B' c : Nat) (hs : a.eval s = v) (hxe : a.eval x = .slice ao n c)
    (h : Own w B e k v l) (hm : Nums w B' k ao m) (hB : B ≤ w.heap.size) (hn : (l.length + n) * bytes ≤ 140737488355328) (hx : l.length + n ≤ maxLen)
    (hK : ∀ v' w', Own w' B e k v' (l ++ m) → Only v.ownBlock.toList w w' → (v'.ownBlock = v.ownBlock ∨ v'.ownBlock = some w.heap.size) → wpList P ops Q rest (a.put o.dst v') w') : wpList P ops Q (o :: rest) a w := by
  subst hn'
  exact wpList_app E hgd s x ho B v l m ao B' c hs hxe h hm hB hn hx hK
/-- What told leaves. -/
def ToldC (w : World) (c : Cel) (e : Ending) (w' : World) : Prop := ∃ v, e = .returned (.agg (apiC c v).toArray) ∧ Own w' w.heap.size 21 .i32 v c.m ∧ Below w.heap.size w w'

end Go.Proofs.Ytaoegfdaemmogaa.Rw
