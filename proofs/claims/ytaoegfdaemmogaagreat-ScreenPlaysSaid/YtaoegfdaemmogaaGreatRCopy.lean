/-
  row: cells as they are handed out. row: Cells, Cell. row: append of structs; Copy; Cell.
-/
import Derived.Test.YtaoegfdaemmogaaGreatRJoin
import Derived.WalkSpells
namespace Go.Proofs.YtaoegfdaemmogaaGreat.Rw
open Go Go.RowKit Go.Proofs.YtaoegfdaemmogaaGreat.Com

/-! A cell that is handed out, its marks' list v beside it; a row of such. -/
def apiC (c : Cel) (v : Value) : List Value := .int .i32 c.r :: v :: .int .u8 c.wide :: attV c.a
def apiP (p : Cel × Value) : List Value := apiC p.1 p.2
theorem apiP_length (p : Cel × Value) : (apiP p).length = 6 := rfl
theorem Own.one {w : World} {B : Nat} {e : TypeId} {k : IntKind} {v : Value} {l : List Int} (h : Own w B e k v l) : v.oneCell' = true := by
  obtain ⟨ao, c, rfl, _⟩ := h.shape
  rfl
theorem Own.typ {w : World} {B : Nat} {e : TypeId} {k : IntKind} {v : Value} {l : List Int} (h : Own w B e k v l) {g : Nat} (hg : v.ownBlock = some g) : Typ w g e := by
  rcases h.2 with ⟨rfl, _⟩ | ⟨x, cap, cur, rfl, _, hh, _⟩
  · cases hg
  · obtain rfl : x = g := by simpa [Value.ownBlock] using hg
    exact ⟨cur, _, hh⟩
theorem Own.fr {B B' : Nat} {ts : List TypeId} {w w' : World} {e : TypeId} {k : IntKind} {v : Value} {l : List Int} (h : Own w B e k v l) (hf : Fr B' ts w w') (he : e ∉ ts) : Own w' B e k v l := by
  have hty := fun g hg => Own.typ h (g := g) hg
  have hlt := fun g hg => (h.lt g hg).2
  refine ⟨h.1, ?_⟩
  rcases h.2 with h2 | ⟨g, cap, cur, rfl, hg, hh, r⟩
  · exact .inl h2
  · refine .inr ⟨g, cap, cur, rfl, hg, (hf.block g (hlt g rfl) (.inr fun t ht hT => he ?_)).trans hh, r⟩
    rw [Typ.inj (hty g rfl) hT]
    exact ht
structure Api (B : Nat) (w : World) (v : Value) (ps : List (Cel × Value)) : Prop where
  own : w.ownsRow B 117 6 v ps.length (fl apiP ps)
  comb : ∀ p ∈ ps, Own w B 21 .i32 p.2 p.1.m
theorem ownsRow_fr {B B' : Nat} {ts : List TypeId} {w w' : World} {e : TypeId} {s n : Nat} {v : Value} {xs : List Value} (h : w.ownsRow B e s v n xs) (hf : Fr B' ts w w') (he : e ∉ ts) : w'.ownsRow B e s v n xs := by
  have hlt := World.ownsRow.lt h
  refine ⟨h.1, ?_⟩
  rcases h.2 with h2 | ⟨g, cap, cur, rfl, hg, hh, r⟩
  · exact .inl h2
  · refine .inr ⟨g, cap, cur, rfl, hg, (hf.block g (hlt g rfl).2 (.inr fun t ht hT => he ?_)).trans hh, r⟩
    rw [Typ.inj (⟨cur, _, hh⟩ : Typ w g e) hT]
    exact ht
theorem Api.fr {B B' : Nat} {ts : List TypeId} {w w' : World} {v : Value} {ps : List (Cel × Value)} (h : Api B w v ps) (hf : Fr B' ts w w') (h1 : 117 ∉ ts) (h2 : 21 ∉ ts) : Api B w' v ps := ⟨ownsRow_fr h.own hf h1, fun p hp => Own.fr (h.comb p hp) hf h2⟩
theorem Api.below {B : Nat} {w w' : World} {v : Value} {ps : List (Cel × Value)} (h : Api B w v ps) (hb : Below w.heap.size w w') : Api B w' v ps := h.fr (Fr.of_below (B := 0) (ts := []) hb) (by simp) (by simp)
theorem Api.lower {B B' : Nat} {w : World} {v : Value} {ps : List (Cel × Value)} (h : Api B w v ps) (hB : B' ≤ B) : Api B' w v ps := ⟨by
  refine ⟨h.own.1, ?_⟩
  rcases h.own.2 with h2 | ⟨g, cap, cur, e, hg, r⟩
  · exact .inl h2
  · exact .inr ⟨g, cap, cur, e, Nat.le_trans hB hg, r⟩, fun p hp => (h.comb p hp).lower hB⟩

theorem elemI : Elem Tryz.prog 115 21 .i32 4 := by
  have h : (Tryz.prog.info? 21).map (fun i => (i.zero, i.size, i.bytes)) = some (some (.int .i32 0), 1, 4) := by kernel_rfl
  obtain ⟨i, h0, h1, h2, h3⟩ := info_parts h
  exact ⟨Tryz.underlying115, i, h0, h1, h2, h3⟩
theorem info48 : (Tryz.prog.info? 117).map (·.size) = some 6 := by kernel_rfl
theorem info48' (c : Cel) (v : Value) : (Tryz.prog.info? 117).map (·.size) = some (apiC c v).length := info48
theorem apiC_one {c : Cel} {v : Value} (h : v.oneCell' = true) : ∀ u ∈ apiC c v, u.oneCell' = true := by
  intro u hu
  simp only [apiC, attV, List.mem_cons, List.not_mem_nil, or_false] at hu
  rcases hu with rfl | rfl | rfl | rfl | rfl | rfl
  · rfl
  · exact h
  · rfl
  · rfl
  · rfl
  · rfl

theorem marks_slice (k : Nat) (hk : k ≤ 4) (bx : Nat) (w : World) :
    (Instr.sliceAt 112 (.pointer (some ⟨bx, 1, none⟩)) none (some (.int .u8 k)) none).run Tryz.prog w = .ok (.slice (some ⟨bx, 1, none⟩) k 4) w := by
  have ht : Tryz.prog.underlying 112 = some (.array (Tryz.prog.arrayLen 112) (Tryz.prog.elem 112)) := by kernel_rfl
  have hl : Tryz.prog.arrayLen 112 = 4 := by kernel_rfl
  have hi : (Tryz.prog.info? (Tryz.prog.elem 112)).map (·.size) = some 1 := by kernel_rfl
  rw [run_sliceAt_array_h w _ ⟨bx, 1, none⟩ ht .u8 k (by omega) (by rw [hl]; omega)]
  cases hq : Tryz.prog.info? (Tryz.prog.elem 112) with
  | none => simp [hq] at hi
  | some j =>
    have hs : j.size = 1 := by simpa [hq] using hi
    simp [sizeOf, typeInfo, hq, hs, slicedAt, hl, Addr.add]
theorem wpList_appk {P : Program} {t e : TypeId} {k : IntKind} {bytes : Nat} (E : Elem P t e k bytes) {w : World} {ops : Array Oper} {rest : List Oper} {o : Oper} {a : Go.Act} {Q : Exit → Go.Act → World → Prop} (hgd : Region.wanted o (yielded ops a.tmps) = true) (s x : Operand)
    (ho : o.op = .call { callee := .builtin .append, args := #[s, x], argTypes := #[t, t] })
    (B : Nat) (v : Value) (l m : List Int) (n : Nat) (hn' : n = m.length) (ao : Option Addr) (B' c : Nat) (hs : a.eval s = v) (hxe : a.eval x = .slice ao n c)
    (h : Own w B e k v l) (hm : Nums w B' k ao m) (hB : B ≤ w.heap.size) (hn : (l.length + n) * bytes ≤ 140737488355328) (hx : l.length + n ≤ maxLen)
    (hK : ∀ v' w', Own w' B e k v' (l ++ m) → Only v.ownBlock.toList w w' → (v'.ownBlock = v.ownBlock ∨ v'.ownBlock = some w.heap.size) → wpList P ops Q rest (a.put o.dst v') w') : wpList P ops Q (o :: rest) a w := by
  subst hn'
  exact wpList_app E hgd s x ho B v l m ao B' c hs hxe h hm hB hn hx hK
/-- What told leaves. -/
def ToldC (w : World) (c : Cel) (e : Ending) (w' : World) : Prop := ∃ v, e = .returned (.agg (apiC c v).toArray) ∧ Own w' w.heap.size 21 .i32 v c.m ∧ Below w.heap.size w w'

set_option maxRecDepth 100000 in
set_option maxHeartbeats 2000000 in
theorem told_any (c : Cel) (hm : c.m.length ≤ 4) (w : World) : Calls Tryz.prog 73 #[.agg (cellC c).toArray] w (ToldC w c) := by
  obtain ⟨r, m, wd, ⟨af, ab, ag⟩⟩ := c
  simp only at hm
  obtain ⟨p0, p1, p2, p3, hp⟩ : ∃ p0 p1 p2 p3, pad4 m = [p0, p1, p2, p3] := by
    match m, hm with
    | [], _ => exact ⟨_, _, _, _, rfl⟩
    | [_], _ => exact ⟨_, _, _, _, rfl⟩
    | [_, _], _ => exact ⟨_, _, _, _, rfl⟩
    | [_, _, _], _ => exact ⟨_, _, _, _, rfl⟩
    | [_, _, _, _], _ => exact ⟨_, _, _, _, rfl⟩
  have hmi : ∀ (i : Nat) (x : Int), m[i]? = some x → [p0, p1, p2, p3][i]? = some x := by
    intro i x hx
    rw [← hp, pad4, List.getElem?_take, if_pos (by have := (List.getElem?_eq_some_iff.1 hx).1; omega), List.getElem?_append_left (List.getElem?_eq_some_iff.1 hx).1]
    exact hx
  have hC : (cellC ⟨r, m, wd, ⟨af, ab, ag⟩⟩).toArray = #[.int .i32 r, .int .i32 p0, .int .i32 p1, .int .i32 p2, .int .i32 p3, .int .u8 m.length, .int .u8 wd, .int .u32 af, .int .u32 ab, .int .u16 ag] := by simp [cellC, hp, attV]
  rw [hC]
  have hbx := Block.made w 114 #[.int .i32 r, .int .i32 p0, .int .i32 p1, .int .i32 p2, .int .i32 p3, .int .u8 m.length, .int .u8 wd, .int .u32 af, .int .u32 ab, .int .u16 ag]
  have hnums : ∀ W, Block W w.heap.size 114 #[.int .i32 r, .int .i32 p0, .int .i32 p1, .int .i32 p2, .int .i32 p3, .int .u8 m.length, .int .u8 wd, .int .u32 af, .int .u32 ab, .int .u16 ag] → Nums W W.heap.size .i32 (some ⟨w.heap.size, 1, none⟩) m := by
    intro W hW i x hx
    refine ⟨_, rfl, hW.lt, ?_⟩
    rw [Addr.add_lit]
    refine hW.cell _ ?_
    have := hmi i x hx
    match i, this with
    | 0, h => simp at h; simp [h]
    | 1, h => simp at h; simp [h]
    | 2, h => simp at h; simp [h]
    | 3, h => simp at h; simp [h]
  have hsl := fun W => marks_slice m.length hm w.heap.size W
  have hb1 := hbx.alloc (.cells #[.int .i32 0, .slice none 0 0, .int .u8 0, .int .u32 0, .int .u32 0, .int .u16 0] 117)
  have hr1 : Block ((w.alloc (.cells #[.int .i32 r, .int .i32 p0, .int .i32 p1, .int .i32 p2, .int .i32 p3, .int .u8 m.length, .int .u8 wd, .int .u32 af, .int .u32 ab, .int .u16 ag] 114)).alloc (.cells #[.int .i32 0, .slice none 0 0, .int .u8 0, .int .u32 0, .int .u32 0, .int .u16 0] 117)) (w.heap.size + 1) 117 #[.int .i32 0, .slice none 0 0, .int .u8 0, .int .u32 0, .int .u32 0, .int .u16 0] := by
    have := Block.made (w.alloc (.cells #[.int .i32 r, .int .i32 p0, .int .i32 p1, .int .i32 p2, .int .i32 p3, .int .u8 m.length, .int .u8 wd, .int .u32 af, .int .u32 ab, .int .u16 ag] 114)) 117 #[.int .i32 0, .slice none 0 0, .int .u8 0, .int .u32 0, .int .u32 0, .int .u16 0]
    simpa using this
  have hbel : Below w.heap.size w ((w.alloc (.cells #[.int .i32 r, .int .i32 p0, .int .i32 p1, .int .i32 p2, .int .i32 p3, .int .u8 m.length, .int .u8 wd, .int .u32 af, .int .u32 ab, .int .u16 ag] 114)).alloc (.cells #[.int .i32 0, .slice none 0 0, .int .u8 0, .int .u32 0, .int .u32 0, .int .u16 0] 117)) := ((Below.refl _ _).alloc (Nat.le_refl _) _).alloc (by simp) _
  obtain ⟨k, hk⟩ : ∃ k, k = m.length := ⟨_, rfl⟩
  rw [← hk] at hsl hm
  have hkk := Lib.hid hk
  replace hnums := Lib.hid hnums
  clear hp hmi hC hbx
  rw [← hk] at hnums hb1 hr1 hbel ⊢
  clear hk
  replace hb1 := Lib.hid hb1
  replace hr1 := Lib.hid hr1
  replace hbel := Lib.hid hbel
  go_enter Tryz.func73, Tryz.ntmps73
  go_wp2_with (first
    | (with_reducible show wpList _ _ _ (⟨some 8, .call _, _, _, _, _⟩ :: _) _ _; go_must (refine wpList_appk elemI rfl (.const (.slice none 0 0)) (.tmp 7) rfl w.heap.size (.slice none 0 0) [] m k hkk.out (some ⟨w.heap.size, 1, none⟩) (w.heap.size + 2) 4 rfl rfl (Own.nil _ _ _ _) (by simpa using hnums.out _ hb1.out) (by simp; omega) (by simp; omega) (by simp [maxLen]; omega) ?_); intro v2 w2 hown2 ho2 hat2; obtain ⟨a2, n2, c2, rfl⟩ := own_slice hown2; have ho2' := only_none ho2; have hbx2 := hb1.out.only ho2' (by simp); have hr2 := hr1.out.only ho2' (by simp); have f0 := hbx2.cell 0 rfl; have f6 := hbx2.cell 6 rfl; have f7 := hbx2.cell 7 rfl; have f8 := hbx2.cell 8 rfl; have f9 := hbx2.cell 9 rfl)
    | (with_reducible show wpList _ _ _ (⟨none, .store _ (.tmp 2) _, _, _, _, _⟩ :: _) _ _; go_must (refine wpList_storeN rfl 117 (.tmp 2) (.tmp 16) rfl (g := (w.heap.size + 1)) (i := 0) hr2 (apiC ⟨r, m, wd, ⟨af, ab, ag⟩⟩ (.slice a2 n2 c2)) rfl rfl (by simp [apiC, attV]) (info48' _ _) (apiC_one rfl) ?_); intro w3 hr3 ho3))
  have hn1 : w.heap.size + 1 ∉ (Value.slice a2 n2 c2).ownBlock.toList := fun hm => by
    have := Own.typ hown2 (by simpa using hm)
    exact absurd (Typ.inj this (Block.typ hr2)) (by decide)
  have hown3 := hown2.only ho3 (fun g hg hm => hn1 (by simp at hm; subst hm; rw [hg]; simp))
  rw [List.nil_append] at hown3
  have hb3 : Block w3 (w.heap.size + 1) 117 (apiC ⟨r, m, wd, ⟨af, ab, ag⟩⟩ (.slice a2 n2 c2)).toArray := by
    have := hr3.out
    simpa [splice, apiC, attV] using this
  have hbel2 : Below w.heap.size w w2 := hbel.out.trans (ho2'.nil.mono (by simp; omega))
  exact bodyPost_ret (v := .agg (apiC ⟨r, m, wd, ⟨af, ab, ag⟩⟩ (.slice a2 n2 c2)).toArray) (results_cell_row rfl _ _ (w.heap.size + 1) 117 _ (0, 0) _ rfl hb3 Tryz.underlying117 rfl (info48' _ _)) rfl ⟨_, rfl, Own.lower hown3 (by simp), hbel2.trans (ho3.below hbel2.size (by simp))⟩
end Go.Proofs.YtaoegfdaemmogaaGreat.Rw
namespace Go.Proofs.YtaoegfdaemmogaaGreat.Rw
open Go Go.RowKit Go.Proofs.YtaoegfdaemmogaaGreat.Com

def zp : Cel × Value := (zeroCel, .slice none 0 0)
theorem info48z : (Tryz.prog.info? 117).map (fun i => (i.zero, i.size, decide (i.bytes ≤ 100))) = some (some (.agg (apiP zp).toArray), 6, true) := by kernel_rfl
theorem make_api (n : Nat) (hn : n ≤ 512) (w : World) : (Instr.makeSlice 75 (.int .i64 (n : Int)) (.int .i64 (n : Int))).run Tryz.prog w = .ok (.slice (some ⟨w.heap.size, 0, none⟩) n n) (w.alloc (.cells (fl apiP (List.replicate n zp)).toArray 117)) := by
  have h := info48z
  cases hq : Tryz.prog.info? 117 with
  | none => simp [hq] at h
  | some i =>
    simp only [hq, Option.map_some, Option.some.injEq, Prod.mk.injEq, decide_eq_true_eq] at h
    obtain ⟨hz, hs, hb⟩ := h
    have hm : i.bytes * n ≤ 100 * 512 := Nat.mul_le_mul hb hn
    have := run_make_rowN 75 117 i _ Tryz.underlying75 hq hz .i64 .i64 n n (Nat.le_refl _) (by omega) (by omega) w
    rw [this, hs]
    have e : (Value.agg (apiP zp).toArray).cells = (apiP zp).toArray := rfl
    rw [e, made_fl apiP 6 apiP_length (by omega)]
/-- The cells of the place i, as a load meets them. -/
theorem RowX.load {w : World} {d g n cap : Nat} {tail : List Value} {l : List Cel} (h : RowX w d g n cap tail l) {i : Nat} (hi : i < l.length) : ∀ j v, (cellC l[i])[j]? = some v → w.cell? ((⟨g, i * 10, none⟩ : Addr).add j) = some v := by
  intro j v hj
  have hlt := (List.getElem?_eq_some_iff.1 hj).1
  rw [cellC_length] at hlt
  rw [Addr.add_lit]
  exact h.at' hi hlt hj
structure CellsSt (w wr : World) (d g n cap : Nat) (tail : List Value) (l : List Cel) (g2 k : Nat) (ps : List (Cel × Value)) : Prop where
  row : RowX wr d g n cap tail l
  got : Block wr g2 117 (fl apiP (ps ++ List.replicate (n - k) zp)).toArray
  comb : ∀ p ∈ ps, Own wr w.heap.size 21 .i32 p.2 p.1.m
  map : ps.map (·.1) = l.take k
  below : Below w.heap.size w wr
theorem CellsSt.next {w wr w5 w6 : World} {d g n cap : Nat} {tail : List Value} {l : List Cel} {g2 k : Nat} {ps : List (Cel × Value)} (h : CellsSt w wr d g n cap tail l g2 k ps) (hk : k < n) (hkl : k < l.length) (hg2 : w.heap.size ≤ g2) (v : Value) (hb : Below wr.heap.size wr w5) (ho : Own w5 wr.heap.size 21 .i32 v l[k].m)
    (h6 : Block w6 g2 117 (splice (fl apiP (ps ++ List.replicate (n - k) zp)) (k * 6) (apiC l[k] v)).toArray) (ho6 : Only [g2] w5 w6) : CellsSt w w6 d g n cap tail l g2 (k + 1) (ps ++ [(l[k], v)]) := by
  have hlp : ps.length = k := by
    have := congrArg List.length h.map
    simp at this
    omega
  have hfs := fl_splice apiP_length (ps ++ List.replicate (n - k) zp) [(l[k], v)] [] k (by simp; omega)
  rw [splice_set _ _ _ (by simp; omega), List.append_nil, List.append_nil, fl_one] at hfs
  have hset : (ps ++ List.replicate (n - k) zp).set k (l[k], v) = (ps ++ [(l[k], v)]) ++ List.replicate (n - (k + 1)) zp := by
    rw [List.set_append_right _ _ (by omega), hlp, Nat.sub_self, show n - k = (n - (k + 1)) + 1 by omega, List.replicate_succ, List.set_cons_zero, List.append_assoc]
    rfl
  rw [hset] at hfs
  have hg2w : Typ w5 g2 117 := Block.typ (h.got.only (Only.of_below hb []) (by simp))
  have hfr : Fr 0 [117] w5 w6 := Fr.of_only ho6 (fun k hk _ => ⟨Nat.zero_le _, _, List.mem_singleton.2 rfl, by simp at hk; subst hk; exact hg2w⟩)
  have hne1 : d ≠ g2 := Block.apart h.row.ptr h.got (by decide)
  have hne2 : g ≠ g2 := Block.apart h.row.row h.got (by decide)
  refine ⟨(h.row.below hb).kept ho6 (by simpa using hne1) (by simpa using hne2), ?_, ?_, ?_, ?_⟩
  · rw [← hfs]; exact h6
  · intro p hp
    rcases List.mem_append.1 hp with hp | hp
    · exact Own.fr (Own.fr (h.comb p hp) (Fr.of_below (B := 0) (ts := []) hb) (by simp)) hfr (by decide)
    · simp at hp
      subst hp
      exact Own.fr (Own.lower ho h.below.size) hfr (by decide)
  · rw [List.map_append, h.map, List.take_add_one, List.getElem?_eq_getElem hkl]
    rfl
  · exact (below_next h.below hb).trans (ho6.below (by have := h.below.size; have := hb.size; omega) (by simpa using hg2))
/-- What Cells leaves. -/
def GotCells (w : World) (n : Nat) (l : List Cel) (e : Ending) (w' : World) : Prop := ∃ g2 ps, e = .returned (.slice (some ⟨g2, 0, none⟩) n n) ∧ Api w.heap.size w' (.slice (some ⟨g2, 0, none⟩) n n) ps ∧ ps.map (·.1) = l ∧ Below w.heap.size w w' ∧ w.heap.size ≤ g2

theorem cells_nil (w : World) : Calls Tryz.prog 42 #[.pointer none] w fun e w' => e = .returned (.slice none 0 0) ∧ w = w' := by
  go_enter Tryz.func42, Tryz.ntmps42
  go_wp2_with ((go_at_call 66; (with_reducible refine (len_nil _).mono ?_); rintro e w' ⟨rfl, rfl⟩))
  go_ret
  exact ⟨rfl, rfl⟩
theorem cells_zero {w : World} {d : Nat} (h : w.cell? ⟨d, 0, none⟩ = some (.slice none 0 0)) : Calls Tryz.prog 42 #[.pointer (some ⟨d, 0, none⟩)] w fun e w' => e = .returned (.slice none 0 0) ∧ w = w' := by
  have hl := Lib.hid (len_zero h)
  go_enter Tryz.func42, Tryz.ntmps42
  go_wp2_with ((go_at_call 66; (with_reducible refine (hl.out).mono ?_); rintro e w' ⟨rfl, rfl⟩))
  go_ret
  exact ⟨rfl, rfl⟩

set_option maxRecDepth 100000 in
set_option maxHeartbeats 4000000 in
theorem cells_any {w : World} {d g n cap : Nat} {tail : List Value} {l : List Cel} (h : RowX w d g n cap tail l) (h4 : ∀ c ∈ l, c.m.length ≤ 4) :
    Calls Tryz.prog 42 #[.pointer (some ⟨d, 0, none⟩)] w (GotCells w n l) := by
  have hn := h.pos
  have hn5 := h.small
  have hle := h.le
  have hcm := h.cap
  unfold maxLen at hcm
  have hn0 : ((n : Int) == 0) = false := beq_eq_false_iff_ne.2 (by omega)
  have hlen := Lib.hid (len_any h)
  have hc := h.slice
  have hmk := make_api n hn5 w
  have hb0 := Block.made w 117 (fl apiP (List.replicate n zp)).toArray
  have hS0 : CellsSt w (w.alloc (.cells (fl apiP (List.replicate n zp)).toArray 117)) d g n cap tail l w.heap.size 0 [] :=
    ⟨h.below (below_new _ _), by simpa using hb0, by simp, by simp, below_new _ _⟩
  have hs1 := hS0.row.slice
  have hll := Lib.hid h.len
  replace hS0 := Lib.hid hS0
  clear h hb0
  go_enter Tryz.func42, Tryz.ntmps42
  go_wp2_with ((go_at_call 66; (with_reducible refine (hlen.out).mono ?_); rintro e w' ⟨rfl, rfl⟩))
  obtain ⟨g2, hg2⟩ : ∃ g2, g2 = w.heap.size := ⟨_, rfl⟩
  have hge : w.heap.size ≤ g2 := by omega
  rw [← hg2] at hS0 ⊢
  clear hmk hc hg2
  generalize w.alloc (.cells (fl apiP (List.replicate n zp)).toArray 117) = w0 at hS0 hs1 ⊢
  go_loopw [20] (fun i wr => ∃ (k : Nat) (ps : List (Cel × Value)), k ≤ n ∧ i = .int .i64 k ∧ Hid (CellsSt w wr d g n cap tail l g2 k ps)) (fun i _ => n - (intOf i).toNat)
  case atStart => exact ⟨0, [], Nat.zero_le _, rfl, hS0⟩
  case round =>
    obtain ⟨k, ps, hk, rfl, hR⟩ := hrel
    have hR := hR.out
    clear hS0 hs1
    by_cases hlt : k < n
    · have hkl : k < l.length := by rw [hll.out]; exact hlt
      have hld := hR.row.load hkl
      have hto := fun w => told_any l[k] (h4 _ (List.getElem_mem hkl)) w
      have hnx := fun w5 w6 v hb ho h6 ho6 => hR.next (w5 := w5) (w6 := w6) hlt hkl hge v hb ho h6 ho6
      have hgot := fun w5 (hb : Below wr.heap.size wr w5) => hR.got.only (Only.of_below hb []) (by simp)
      have hgl : (fl apiP (ps ++ List.replicate (n - k) zp)).length = n * 6 := by
        have hlp : ps.length = k := by
          have := congrArg List.length hR.map
          simp at this
          omega
        rw [fl_length apiP_length]; simp; omega
      have hC10 := cellC_length l[k]
      have hone := cellC_one l[k]
      have hinf := infoC' l[k]
      have hmkb := Block.made wr 114 (cellC zeroCel).toArray
      have hz : (cellC zeroCel).toArray = #[.int .i32 0, .int .i32 0, .int .i32 0, .int .i32 0, .int .i32 0, .int .u8 0, .int .u8 0, .int .u32 0, .int .u32 0, .int .u16 0] := rfl
      rw [hz] at hmkb
      have hkk : k * 6 + 6 ≤ n * 6 := by omega
      generalize l[k] = c at hld hto hnx hC10 hone hinf
      generalize hC : cellC c = C at hld hto hC10 hone hinf
      generalize fl apiP (ps ++ List.replicate (n - k) zp) = X at hgot hnx hgl
      replace hld := Lib.hid hld
      replace hto := Lib.hid hto
      replace hnx := Lib.hid hnx
      replace hgot := Lib.hid hgot
      replace hgl := Lib.hid hgl
      replace hC10 := Lib.hid hC10
      replace hone := Lib.hid hone
      replace hinf := Lib.hid hinf
      replace hmkb := Lib.hid hmkb
      replace hC := Lib.hid hC
      clear hR hz h4
      go_wp2_with (first
        | (with_reducible show wpList _ _ _ (⟨some 24, .load _ (.tmp 23), _, _, _, _⟩ :: _) _ _; go_must (refine wpList_loadAt rfl 114 (.tmp 23) rfl ⟨g, k * 10, none⟩ rfl C _ hld.out Tryz.underlying114 rfl hinf.out ?_))
        | (with_reducible show wpList _ _ _ (⟨none, .store _ (.tmp 5) _, _, _, _, _⟩ :: _) _ _; go_must (refine wpList_storeN rfl 114 (.tmp 5) (.tmp 24) rfl (g := wr.heap.size) (i := 0) hmkb.out C rfl rfl (by rw [hC10.out]; decide) (hinf.out) (hone.out) ?_); intro w1 hr1 ho1; have hb1 : Block w1 wr.heap.size 114 C.toArray := by have := hr1.out; rw [show splice _ 0 C = C by unfold splice; rw [hC10.out]; simp] at this; exact this)
        | (with_reducible show wpList _ _ _ (⟨some 27, .load _ (.tmp 5), _, _, _, _⟩ :: _) _ _; go_must (refine wpList_loadAt rfl 114 (.tmp 5) rfl ⟨wr.heap.size, 0, none⟩ rfl C _ (fun j v hj => by rw [Addr.add_lit, Nat.zero_add]; exact hb1.cell j (by simpa using hj)) Tryz.underlying114 rfl hinf.out ?_)))
      have hb01 : Below wr.heap.size wr w1 := (below_new wr _).trans (ho1.below (by simp) (by simp))
      refine (hto.out w1).mono ?_
      rintro e w2 ⟨v, rfl, hown, hb2⟩
      have hb02 := below_next hb01 hb2
      have hg2' := Lib.hid (hgot.out _ hb02)
      have hone2 := Lib.hid (apiC_one (c := c) (Own.one hown))
      have hnx2 := Lib.hid (fun w6 h6 ho6 => hnx.out w2 w6 v hb02 (Own.lower hown hb01.size) h6 ho6)
      clear hown hb2 hb1 hr1 ho1 hb01 hb02 hgot hnx hto hld
      obtain ⟨V, hV⟩ : ∃ V, V = apiC c v := ⟨_, rfl⟩
      have hV6 : V.length = 6 := by rw [hV]; rfl
      rw [← hV] at hone2 hnx2 ⊢
      have hinf2 : Hid ((Tryz.prog.info? 117).map (·.size) = some V.length) := Lib.hid (by rw [hV6]; exact info48)
      replace hV := Lib.hid hV
      replace hV6 := Lib.hid hV6
      go_wp2_with (first
        | (with_reducible show wpList _ _ _ (⟨none, .store _ (.tmp 29) _, _, _, _, _⟩ :: _) _ _; go_must (refine wpList_storeN rfl 117 (.tmp 29) (.tmp 28) rfl (g := g2) (i := k * 6) hg2'.out V rfl rfl (by rw [hgl.out, hV6.out]; exact hkk) (hinf2.out) (hone2.out) ?_); intro w6 hr6 ho6))
      replace hnx2 := Lib.hid (hnx2.out _ hr6.out ho6)
      clear hr6 ho6 hg2' hone2
      go_roundw
      case rel => exact ⟨k + 1, ps ++ [(c, v)], by omega, by go_num, hnx2⟩
      case measure => simp [intOf]; omega
    · obtain rfl : k = n := by omega
      have hlp : ps.length = k := by
        have := congrArg List.length hR.map
        simp [hll.out] at this
        exact this
      have hres : GotCells w k l (.returned (.slice (some ⟨g2, 0, none⟩) k k)) wr := by
        refine ⟨g2, ps, rfl, ⟨⟨fl_length apiP_length ps, .inr ⟨g2, k, _, by rw [hlp], hge, hR.got, by omega, by unfold maxLen; omega, ?_, ?_⟩⟩, hR.comb⟩, ?_, hR.below, hge⟩
        · simp [fl_length apiP_length, hlp]
        · have e : (ps.length * 6) = (fl apiP ps).length := (fl_length apiP_length ps).symm
          rw [e, fl_app]
          simp
        · rw [hR.map, List.take_of_length_le (by rw [hll.out]; exact Nat.le_refl _)]
      replace hres := Lib.hid hres
      clear hR hlp
      go_wp2
      go_ret
      exact hres.out
end Go.Proofs.YtaoegfdaemmogaaGreat.Rw
namespace Go.Proofs.YtaoegfdaemmogaaGreat.Rw
open Go Go.RowKit Go.Proofs.YtaoegfdaemmogaaGreat.Com

/-- What append asks of a slice of structs. -/
structure ElemN (P : Program) (t e : TypeId) (z : Value) (size : Nat) : Prop where
  slice : P.underlying t = some (.slice e)
  info : ∃ i, P.info? e = some i ∧ i.zero = some z ∧ i.size = size ∧ i.bytes ≤ 100
  cells : z.cells.size = size
  pos : 0 < size
section
variable {P : Program} {t e : TypeId} {z : Value} {size : Nat}
theorem wp_appN (E : ElemN P t e z size) {w : World} {o : Oper} {a : Go.Act} {K : Go.Act → World → Prop} {Q : Exit → Go.Act → World → Prop} (s x : Operand)
    (ho : o.op = .call { callee := .builtin .append, args := #[s, x], argTypes := #[t, t] })
    (B : Nat) (v : Value) (n : Nat) (xs : List Value) (ad : Addr) (m c : Nat) (news : List Value) (hs : a.eval s = v) (hxe : a.eval x = .slice (some ad) m c)
    (h : w.ownsRow B e size v n xs) (hl : news.length = m * size) (hnews : ∀ j u, news[j]? = some u → w.cell? (ad.add j) = some u) (h1 : ∀ u ∈ news, u.oneCell' = true) (hB : B ≤ w.heap.size) (hx : n + m ≤ 100000)
    (hK : ∀ v' w', w'.ownsRow B e size v' (n + m) (xs ++ news) → Only v.ownBlock.toList w w' → (v'.ownBlock = v.ownBlock ∨ v'.ownBlock = some w.heap.size) → K (a.put o.dst v') w') : o.wp P a w K Q := by
  obtain ⟨i, hi, hz, hsz, hb⟩ := E.info
  have hby : (n + m) * i.bytes ≤ 100000 * 100 := Nat.mul_le_mul hx hb
  obtain ⟨v', w', hr, h2, h3, _, h5⟩ := run_append_own_at (P := P) w B t o.type e i z size i.bytes E.slice hi hz hsz rfl E.cells E.pos v n xs h ad m c news hl hnews h1 (by unfold maxLen; omega) (by omega) hB
  unfold Oper.wp execOp
  simp only [ho, resolve, invoke, builtin, Sem.run_bind, Sem.run_pure, Result.andThen_ok, List.map_toArray, List.map_cons, List.map_nil, hs, hxe, hr]
  exact hK v' w' h2 (Only.grown h3) h5
theorem wpList_appN (E : ElemN P t e z size) {w : World} {ops : Array Oper} {rest : List Oper} {o : Oper} {a : Go.Act} {Q : Exit → Go.Act → World → Prop} (hgd : Region.wanted o (yielded ops a.tmps) = true) (s x : Operand)
    (ho : o.op = .call { callee := .builtin .append, args := #[s, x], argTypes := #[t, t] })
    (B : Nat) (v : Value) (n : Nat) (xs : List Value) (ad : Addr) (m c : Nat) (news : List Value) (hs : a.eval s = v) (hxe : a.eval x = .slice (some ad) m c)
    (h : w.ownsRow B e size v n xs) (hl : news.length = m * size) (hnews : ∀ j u, news[j]? = some u → w.cell? (ad.add j) = some u) (h1 : ∀ u ∈ news, u.oneCell' = true) (hB : B ≤ w.heap.size) (hx : n + m ≤ 100000)
    (hK : ∀ v' w', w'.ownsRow B e size v' (n + m) (xs ++ news) → Only v.ownBlock.toList w w' → (v'.ownBlock = v.ownBlock ∨ v'.ownBlock = some w.heap.size) → wpList P ops Q rest (a.put o.dst v') w') : wpList P ops Q (o :: rest) a w :=
  wpList_wanted hgd fun _ hK' => wp_appN E s x ho B v n xs ad m c news hs hxe h hl hnews h1 hB hx fun v' w' h1 h2 h3 => hK' _ _ (hK v' w' h1 h2 h3)
end
theorem elemC : ElemN Tryz.prog 120 114 (.agg (cellC zeroCel).toArray) 10 := by
  have h : (Tryz.prog.info? 114).map (fun i => (i.zero, i.size, decide (i.bytes ≤ 100))) = some (some (.agg (cellC zeroCel).toArray), 10, true) := by kernel_rfl
  refine ⟨Tryz.underlying120, ?_, rfl, by omega⟩
  cases hq : Tryz.prog.info? 114 with
  | none => simp [hq] at h
  | some i =>
    simp only [hq, Option.map_some, Option.some.injEq, Prod.mk.injEq, decide_eq_true_eq] at h
    exact ⟨i, rfl, h.1, h.2.1, h.2.2⟩
theorem elemA : ElemN Tryz.prog 75 117 (.agg (apiP zp).toArray) 6 := by
  have h := info48z
  refine ⟨Tryz.underlying75, ?_, rfl, by omega⟩
  cases hq : Tryz.prog.info? 117 with
  | none => simp [hq] at h
  | some i =>
    simp only [hq, Option.map_some, Option.some.injEq, Prod.mk.injEq, decide_eq_true_eq] at h
    exact ⟨i, rfl, h.1, h.2.1, h.2.2⟩
theorem own_block {w : World} {B : Nat} {e : TypeId} {s n : Nat} {v : Value} {xs : List Value} (h : w.ownsRow B e s v n xs) (hn : 0 < n) : ∃ g cap tail, v = .slice (some ⟨g, 0, none⟩) n cap ∧ B ≤ g ∧ Block w g e (xs ++ tail).toArray ∧ n ≤ cap ∧ cap ≤ maxLen := by
  rcases h.2 with ⟨_, h0⟩ | ⟨g, cap, cur, rfl, hg, hh, hc, hm, _, ht⟩
  · omega
  · refine ⟨g, cap, cur.toList.drop (n * s), rfl, hg, ?_, hc, hm⟩
    rw [← ht, List.take_append_drop]
    exact hh
def CloneDone (w : World) (n : Nat) (l : List Cel) (e : Ending) (w' : World) : Prop := ∃ g cap tail, e = .returned (.slice (some ⟨g, 0, none⟩) n cap) ∧ Block w' g 114 (fl cellC l ++ tail).toArray ∧ n ≤ cap ∧ cap ≤ maxLen ∧ Below w.heap.size w w' ∧ w.heap.size ≤ g
set_option maxHeartbeats 1000000 in
theorem clone_any {w : World} {d g n cap : Nat} {tail : List Value} {l : List Cel} (h : RowX w d g n cap tail l) :
    Calls Tryz.prog 104 #[.slice (some ⟨g, 0, none⟩) n cap] w (CloneDone w n l) := by
  have hn := h.pos
  have hn5 := h.small
  have hll := h.len
  have hnil : ∀ W, (binOp .eql 120 (.slice (some ⟨g, 0, none⟩) n cap) (.slice none 0 0)).run Tryz.prog W = .ok (.bool false) W := fun W => Lib.run_eql_slice_nil W _ _ (some ⟨g, 0, none⟩) n cap 0 0 Tryz.underlying120
  have hown : (w.alloc (.cells #[] 114)).ownsRow w.heap.size 114 10 (.slice (some ⟨w.heap.size, 0, none⟩) 0 0) 0 [] := by
    have := World.ownsRow_lit (e := 114) (base := w.heap.size) (size := 10) w #[] 0 (Nat.le_refl _) (by simp [maxLen]) (by simp)
    simpa using this
  have hnews : ∀ j u, (fl cellC l)[j]? = some u → (w.alloc (.cells #[] 114)).cell? ((⟨g, 0, none⟩ : Addr).add j) = some u := by
    intro j u hj
    have := ((h.below (below_new w (.cells #[] 114))).part 0 l.length (by omega)) j u
    rw [List.drop_zero, List.take_length] at this
    exact this hj
  have hlen : (fl cellC l).length = n * 10 := by rw [fl_length cellC_length, hll]
  have hone := fl_one' cellC_one l
  replace hown := Lib.hid hown
  replace hnews := Lib.hid hnews
  replace hlen := Lib.hid hlen
  replace hone := Lib.hid hone
  clear h hll
  go_enter Tryz.func104, Tryz.ntmps104
  go_wp2_with (first
    | (with_reducible show wpList _ _ _ (⟨some 7, .call _, _, _, _, _⟩ :: _) _ _; go_must (refine wpList_appN elemC rfl (.tmp 5) (.tmp 6) rfl w.heap.size (.slice (some ⟨w.heap.size, 0, none⟩) 0 0) 0 [] ⟨g, 0, none⟩ n cap (fl cellC l) rfl rfl hown.out hlen.out hnews.out hone.out (by simp) (by omega) ?_); intro v2 w2 hown2 ho2 hat2))
  go_ret
  rw [Nat.zero_add, List.nil_append] at hown2
  obtain ⟨g2, cap2, tail2, rfl, hg2, hb2, hc2, hm2⟩ := own_block hown2 hn
  exact ⟨g2, cap2, tail2, rfl, hb2, hc2, hm2, ((Below.refl _ _).alloc (Nat.le_refl _) _).trans (ho2.below (by simp) (by simp [Value.ownBlock])), hg2⟩
def CopyDone (w : World) (n : Nat) (l : List Cel) (e : Ending) (w' : World) : Prop := ∃ d g cap tail, e = .returned (.pointer (some ⟨d, 0, none⟩)) ∧ RowX w' d g n cap tail l ∧ Below w.heap.size w w' ∧ w.heap.size ≤ d ∧ w.heap.size ≤ g
set_option maxHeartbeats 1000000 in
theorem copy_any {w : World} {d g n cap : Nat} {tail : List Value} {l : List Cel} (h : RowX w d g n cap tail l) :
    Calls Tryz.prog 102 #[.pointer (some ⟨d, 0, none⟩)] w (CopyDone w n l) := by
  have hn := h.pos
  have hn5 := h.small
  have hll := Lib.hid h.len
  have hn0 : ((n : Int) == 0) = false := beq_eq_false_iff_ne.2 (by omega)
  have hlen := Lib.hid (len_any h)
  have hc := h.slice
  have hcl := Lib.hid (clone_any h)
  clear h
  go_enter Tryz.func102, Tryz.ntmps102
  go_wp2_with (first
    | (go_at_call 66; (with_reducible refine (hlen.out).mono ?_); rintro e w' ⟨rfl, rfl⟩)
    | (go_at_call 104; (with_reducible refine (hcl.out).mono ?_); rintro e w1 ⟨g1, cap1, tail1, rfl, hb1, hle1, hm1, hbel1, hg1⟩))
  go_ret
  exact ⟨w1.heap.size, g1, cap1, tail1, rfl, ⟨Block.made w1 _ _, hb1.alloc _, hll.out, hle1, hm1, hn, hn5⟩, hbel1.alloc hbel1.size _, hbel1.size, hg1⟩
theorem copy_nil (w : World) : Calls Tryz.prog 102 #[.pointer none] w fun e w' => e = .returned (.pointer none) ∧ w = w' := by
  go_enter Tryz.func102, Tryz.ntmps102
  go_wp2_with ((go_at_call 66; (with_reducible refine (len_nil _).mono ?_); rintro e w' ⟨rfl, rfl⟩))
  go_ret
  exact ⟨rfl, rfl⟩
theorem copy_zero {w : World} {d : Nat} (h : w.cell? ⟨d, 0, none⟩ = some (.slice none 0 0)) : Calls Tryz.prog 102 #[.pointer (some ⟨d, 0, none⟩)] w fun e w' => e = .returned (.pointer none) ∧ w = w' := by
  have hl := Lib.hid (len_zero h)
  go_enter Tryz.func102, Tryz.ntmps102
  go_wp2_with ((go_at_call 66; (with_reducible refine (hl.out).mono ?_); rintro e w' ⟨rfl, rfl⟩))
  go_ret
  exact ⟨rfl, rfl⟩

/-! Cell. -/
theorem load_api {w : World} {g : Nat} {c : Cel} {v : Value} (h : Block w g 117 (apiC c v).toArray) : (loadVar 117 ⟨g, 0, none⟩).run Tryz.prog w = .ok (.agg (apiC c v).toArray) w :=
  run_loadVar_at w 117 ⟨g, 0, none⟩ (apiC c v) _ (fun j u hj => by rw [Addr.add_lit, Nat.zero_add]; exact h.cell j (by simpa using hj)) Tryz.underlying117 rfl (info48' c v)
theorem results_cell_tmp {fn : Func} {p q : Tmp} (h : fn.results = #[.cell p 117, .tmp q]) (tmps : Array Value) (w : World) (g : Nat) (c : Cel) (v : Value)
    (hp : tmps.getD p undef = .pointer (some ⟨g, 0, none⟩)) (hg : Block w g 117 (apiC c v).toArray) :
    (results fn tmps).run Tryz.prog w = .ok (.tuple #[.agg (apiC c v).toArray, tmps.getD q undef]) w := by
  have hp' : tmps[p]?.getD undef = .pointer (some ⟨g, 0, none⟩) := by simpa using hp
  simp [results, h, hp', asAddr, load_api hg]
def CellNo (w : World) (x : Int) (e : Ending) (w' : World) : Prop := e = .returned (.tuple #[.agg (apiC zeroCel (.slice none 0 0)).toArray, .int .i64 x]) ∧ Below w.heap.size w w'
theorem fresh_api (w : World) : Block (w.alloc (.cells #[.int .i32 0, .slice none 0 0, .int .u8 0, .int .u32 0, .int .u32 0, .int .u16 0] 117)) w.heap.size 117 (apiC zeroCel (.slice none 0 0)).toArray := Block.made w _ _
theorem stored_api {w1 : World} {b : Nat} {c c' : Cel} {v v' : Value} (hr : Block w1 b 117 (splice (apiC c v) 0 (apiC c' v')).toArray) : Block w1 b 117 (apiC c' v').toArray := by
  simpa [splice, apiC, attV] using hr
theorem below_fresh {w w1 : World} {o : Obj} (ho1 : Only [w.heap.size] (w.alloc o) w1) : Below w.heap.size w w1 := (below_new _ _).trans (ho1.below (by simp) (by simp))
section
variable {w : World} {d g n cap : Nat} {tail : List Value} {l : List Cel}
def CellYes (w : World) (c : Cel) (e : Ending) (w' : World) : Prop := ∃ v, e = .returned (.tuple #[.agg (apiC c v).toArray, .int .i64 0]) ∧ Own w' w.heap.size 21 .i32 v c.m ∧ Below w.heap.size w w'
end
end Go.Proofs.YtaoegfdaemmogaaGreat.Rw
