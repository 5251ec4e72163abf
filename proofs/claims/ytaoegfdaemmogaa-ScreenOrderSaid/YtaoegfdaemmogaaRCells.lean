/-
  row: cells as they are handed out. row: Cells, Cell.
-/
import Derived.Test.YtaoegfdaemmogaaRJoin
namespace Go.Proofs.Ytaoegfdaemmogaa.Rw
open Go Go.RowKit Go.Proofs.Ytaoegfdaemmogaa.Com

/-! A cell that is handed out, its marks' list v beside it; a row of such. -/
def apiC (c : Cel) (v : Value) : List Value := .int .i32 c.r :: v :: .int .u8 c.wide :: attV c.a
def apiP (p : Cel × Value) : List Value := apiC p.1 p.2
theorem apiP_length (p : Cel × Value) : (apiP p).length = 6 := rfl
theorem Own.one {w : World} {B : Nat} {e : TypeId} {k : IntKind} {v : Value} {l : List Int} (h : Own w B e k v l) : v.oneCell' = true := by
  obtain ⟨ao, c, rfl, _⟩ := h.shape
  rfl
theorem Own.typ {w : World} {B : Nat} {e : TypeId} {k : IntKind} {v : Value} {l : List Int} (h : Own w B e k v l) {g : Nat} (hg : v.ownBlock = some g) : Typ w g e := by
  rcases h.2 with ⟨rfl, _⟩ | ⟨x, cap, cur, rfl, _, hh, _⟩
  · cases hg
  · obtain rfl : x = g := by simpa [Value.ownBlock] using hg
    exact ⟨cur, _, hh⟩
theorem Own.fr {B B' : Nat} {ts : List TypeId} {w w' : World} {e : TypeId} {k : IntKind} {v : Value} {l : List Int} (h : Own w B e k v l) (hf : Fr B' ts w w') (he : e ∉ ts) : Own w' B e k v l := by
  have hty := fun g hg => Own.typ h (g := g) hg
  have hlt := fun g hg => (h.lt g hg).2
  refine ⟨h.1, ?_⟩
  rcases h.2 with h2 | ⟨g, cap, cur, rfl, hg, hh, r⟩
  · exact .inl h2
  · refine .inr ⟨g, cap, cur, rfl, hg, (hf.block g (hlt g rfl) (.inr fun t ht hT => he ?_)).trans hh, r⟩
    rw [Typ.inj (hty g rfl) hT]
    exact ht
structure Api (B : Nat) (w : World) (v : Value) (ps : List (Cel × Value)) : Prop where
  own : w.ownsRow B 119 6 v ps.length (fl apiP ps)
  comb : ∀ p ∈ ps, Own w B 21 .i32 p.2 p.1.m
theorem ownsRow_fr {B B' : Nat} {ts : List TypeId} {w w' : World} {e : TypeId} {s n : Nat} {v : Value} {xs : List Value} (h : w.ownsRow B e s v n xs) (hf : Fr B' ts w w') (he : e ∉ ts) : w'.ownsRow B e s v n xs := by
  have hlt := World.ownsRow.lt h
  refine ⟨h.1, ?_⟩
  rcases h.2 with h2 | ⟨g, cap, cur, rfl, hg, hh, r⟩
  · exact .inl h2
  · refine .inr ⟨g, cap, cur, rfl, hg, (hf.block g (hlt g rfl).2 (.inr fun t ht hT => he ?_)).trans hh, r⟩
    rw [Typ.inj (⟨cur, _, hh⟩ : Typ w g e) hT]
    exact ht
theorem Api.fr {B B' : Nat} {ts : List TypeId} {w w' : World} {v : Value} {ps : List (Cel × Value)} (h : Api B w v ps) (hf : Fr B' ts w w') (h1 : 119 ∉ ts) (h2 : 21 ∉ ts) : Api B w' v ps := ⟨ownsRow_fr h.own hf h1, fun p hp => Own.fr (h.comb p hp) hf h2⟩
theorem Api.below {B : Nat} {w w' : World} {v : Value} {ps : List (Cel × Value)} (h : Api B w v ps) (hb : Below w.heap.size w w') : Api B w' v ps := h.fr (Fr.of_below (B := 0) (ts := []) hb) (by simp) (by simp)
theorem Api.lower {B B' : Nat} {w : World} {v : Value} {ps : List (Cel × Value)} (h : Api B w v ps) (hB : B' ≤ B) : Api B' w v ps := ⟨by
  refine ⟨h.own.1, ?_⟩
  rcases h.own.2 with h2 | ⟨g, cap, cur, e, hg, r⟩
  · exact .inl h2
  · exact .inr ⟨g, cap, cur, e, Nat.le_trans hB hg, r⟩, fun p hp => (h.comb p hp).lower hB⟩

theorem elemI : Elem Try.prog 117 21 .i32 4 := by
  have h : (Try.prog.info? 21).map (fun i => (i.zero, i.size, i.bytes)) = some (some (.int .i32 0), 1, 4) := by kernel_rfl
  obtain ⟨i, h0, h1, h2, h3⟩ := info_parts h
  exact ⟨Try.underlying117, i, h0, h1, h2, h3⟩
theorem info48 : (Try.prog.info? 119).map (·.size) = some 6 := by kernel_rfl
theorem info48' (c : Cel) (v : Value) : (Try.prog.info? 119).map (·.size) = some (apiC c v).length := info48
theorem apiC_one {c : Cel} {v : Value} (h : v.oneCell' = true) : ∀ u ∈ apiC c v, u.oneCell' = true := by
  intro u hu
  simp only [apiC, attV, List.mem_cons, List.not_mem_nil, or_false] at hu
  rcases hu with rfl | rfl | rfl | rfl | rfl | rfl
  · rfl
  · exact h
  · rfl
  · rfl
  · rfl
  · rfl

theorem marks_slice (k : Nat) (hk : k ≤ 4) (bx : Nat) (w : World) :
    (Instr.sliceAt 111 (.pointer (some ⟨bx, 1, none⟩)) none (some (.int .u8 k)) none).run Try.prog w = .ok (.slice (some ⟨bx, 1, none⟩) k 4) w := by
  have ht : Try.prog.underlying 111 = some (.array (Try.prog.arrayLen 111) (Try.prog.elem 111)) := by kernel_rfl
  have hl : Try.prog.arrayLen 111 = 4 := by kernel_rfl
  have hi : (Try.prog.info? (Try.prog.elem 111)).map (·.size) = some 1 := by kernel_rfl
  rw [run_sliceAt_array_h w _ ⟨bx, 1, none⟩ ht .u8 k (by omega) (by rw [hl]; omega)]
  cases hq : Try.prog.info? (Try.prog.elem 111) with
  | none => simp [hq] at hi
  | some j =>
    have hs : j.size = 1 := by simpa [hq] using hi
    simp [sizeOf, typeInfo, hq, hs, slicedAt, hl, Addr.add]
theorem wpList_appk {P : Program} {t e : TypeId} {k : IntKind} {bytes : Nat} (E : Elem P t e k bytes) {w : World} {ops : Array Oper} {rest : List Oper} {o : Oper} {a : Go.Act} {Q : Exit → Go.Act → World → Prop} (hgd : Region.wanted o (yielded ops a.tmps) = true) (s x : Operand)
    (ho : o.op = .call { callee := .builtin .append, args := #[s, x], argTypes := #[t, t] })
    (B : Nat) (v : Value) (l m : List Int) (n : Nat) (hn' : n = m.length) (ao : Option Addr) (B' c : Nat) (hs : a.eval s = v) (hxe : a.eval x = .slice ao n c)
    (h : Own w B e k v l) (hm : Nums w B' k ao m) (hB : B ≤ w.heap.size) (hn : (l.length + n) * bytes ≤ 140737488355328) (hx : l.length + n ≤ maxLen)
    (hK : ∀ v' w', Own w' B e k v' (l ++ m) → Only v.ownBlock.toList w w' → (v'.ownBlock = v.ownBlock ∨ v'.ownBlock = some w.heap.size) → wpList P ops Q rest (a.put o.dst v') w') : wpList P ops Q (o :: rest) a w := by
  subst hn'
  exact wpList_app E hgd s x ho B v l m ao B' c hs hxe h hm hB hn hx hK
/-- What told leaves. -/
def ToldC (w : World) (c : Cel) (e : Ending) (w' : World) : Prop := ∃ v, e = .returned (.agg (apiC c v).toArray) ∧ Own w' w.heap.size 21 .i32 v c.m ∧ Below w.heap.size w w'

end Go.Proofs.Ytaoegfdaemmogaa.Rw
namespace Go.Proofs.Ytaoegfdaemmogaa.Rw
open Go Go.RowKit Go.Proofs.Ytaoegfdaemmogaa.Com

def zp : Cel × Value := (zeroCel, .slice none 0 0)
theorem info48z : (Try.prog.info? 119).map (fun i => (i.zero, i.size, decide (i.bytes ≤ 100))) = some (some (.agg (apiP zp).toArray), 6, true) := by kernel_rfl
theorem make_api (n : Nat) (hn : n ≤ 512) (w : World) : (Instr.makeSlice 114 (.int .i64 (n : Int)) (.int .i64 (n : Int))).run Try.prog w = .ok (.slice (some ⟨w.heap.size, 0, none⟩) n n) (w.alloc (.cells (fl apiP (List.replicate n zp)).toArray 119)) := by
  have h := info48z
  cases hq : Try.prog.info? 119 with
  | none => simp [hq] at h
  | some i =>
    simp only [hq, Option.map_some, Option.some.injEq, Prod.mk.injEq, decide_eq_true_eq] at h
    obtain ⟨hz, hs, hb⟩ := h
    have hm : i.bytes * n ≤ 100 * 512 := Nat.mul_le_mul hb hn
    have := run_make_rowN 114 119 i _ Try.underlying114 hq hz .i64 .i64 n n (Nat.le_refl _) (by omega) (by omega) w
    rw [this, hs]
    have e : (Value.agg (apiP zp).toArray).cells = (apiP zp).toArray := rfl
    rw [e, made_fl apiP 6 apiP_length (by omega)]
/-- The cells of the place i, as a load meets them. -/
theorem RowX.load {w : World} {d g n cap : Nat} {tail : List Value} {l : List Cel} (h : RowX w d g n cap tail l) {i : Nat} (hi : i < l.length) : ∀ j v, (cellC l[i])[j]? = some v → w.cell? ((⟨g, i * 10, none⟩ : Addr).add j) = some v := by
  intro j v hj
  have hlt := (List.getElem?_eq_some_iff.1 hj).1
  rw [cellC_length] at hlt
  rw [Addr.add_lit]
  exact h.at' hi hlt hj
structure CellsSt (w wr : World) (d g n cap : Nat) (tail : List Value) (l : List Cel) (g2 k : Nat) (ps : List (Cel × Value)) : Prop where
  row : RowX wr d g n cap tail l
  got : Block wr g2 119 (fl apiP (ps ++ List.replicate (n - k) zp)).toArray
  comb : ∀ p ∈ ps, Own wr w.heap.size 21 .i32 p.2 p.1.m
  map : ps.map (·.1) = l.take k
  below : Below w.heap.size w wr
theorem CellsSt.next {w wr w5 w6 : World} {d g n cap : Nat} {tail : List Value} {l : List Cel} {g2 k : Nat} {ps : List (Cel × Value)} (h : CellsSt w wr d g n cap tail l g2 k ps) (hk : k < n) (hkl : k < l.length) (hg2 : w.heap.size ≤ g2) (v : Value) (hb : Below wr.heap.size wr w5) (ho : Own w5 wr.heap.size 21 .i32 v l[k].m)
    (h6 : Block w6 g2 119 (splice (fl apiP (ps ++ List.replicate (n - k) zp)) (k * 6) (apiC l[k] v)).toArray) (ho6 : Only [g2] w5 w6) : CellsSt w w6 d g n cap tail l g2 (k + 1) (ps ++ [(l[k], v)]) := by
  have hlp : ps.length = k := by
    have := congrArg List.length h.map
    simp at this
    omega
  have hfs := fl_splice apiP_length (ps ++ List.replicate (n - k) zp) [(l[k], v)] [] k (by simp; omega)
  rw [splice_set _ _ _ (by simp; omega), List.append_nil, List.append_nil, fl_one] at hfs
  have hset : (ps ++ List.replicate (n - k) zp).set k (l[k], v) = (ps ++ [(l[k], v)]) ++ List.replicate (n - (k + 1)) zp := by
    rw [List.set_append_right _ _ (by omega), hlp, Nat.sub_self, show n - k = (n - (k + 1)) + 1 by omega, List.replicate_succ, List.set_cons_zero, List.append_assoc]
    rfl
  rw [hset] at hfs
  have hg2w : Typ w5 g2 119 := Block.typ (h.got.only (Only.of_below hb []) (by simp))
  have hfr : Fr 0 [119] w5 w6 := Fr.of_only ho6 (fun k hk _ => ⟨Nat.zero_le _, _, List.mem_singleton.2 rfl, by simp at hk; subst hk; exact hg2w⟩)
  have hne1 : d ≠ g2 := Block.apart h.row.ptr h.got (by decide)
  have hne2 : g ≠ g2 := Block.apart h.row.row h.got (by decide)
  refine ⟨(h.row.below hb).kept ho6 (by simpa using hne1) (by simpa using hne2), ?_, ?_, ?_, ?_⟩
  · rw [← hfs]; exact h6
  · intro p hp
    rcases List.mem_append.1 hp with hp | hp
    · exact Own.fr (Own.fr (h.comb p hp) (Fr.of_below (B := 0) (ts := []) hb) (by simp)) hfr (by decide)
    · simp at hp
      subst hp
      exact Own.fr (Own.lower ho h.below.size) hfr (by decide)
  · rw [List.map_append, h.map, List.take_add_one, List.getElem?_eq_getElem hkl]
    rfl
  · exact (below_next h.below hb).trans (ho6.below (by have := h.below.size; have := hb.size; omega) (by simpa using hg2))
/-- What Cells leaves. -/
def GotCells (w : World) (n : Nat) (l : List Cel) (e : Ending) (w' : World) : Prop := ∃ g2 ps, e = .returned (.slice (some ⟨g2, 0, none⟩) n n) ∧ Api w.heap.size w' (.slice (some ⟨g2, 0, none⟩) n n) ps ∧ ps.map (·.1) = l ∧ Below w.heap.size w w' ∧ w.heap.size ≤ g2

end Go.Proofs.Ytaoegfdaemmogaa.Rw
