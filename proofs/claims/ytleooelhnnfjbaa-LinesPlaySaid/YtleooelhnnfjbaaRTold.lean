/-
  row: cells as they are handed out.
-/
import Derived.Test.YtleooelhnnfjbaaRJoin
namespace Go.Proofs.Ytleooelhnnfjbaa.Rw
open Go Go.RowKit Go.Proofs.Ytleooelhnnfjbaa.Com

/-! A cell that is handed out, its marks' list v beside it; a row of such. -/
def apiC (c : Cel) (v : Value) : List Value := .int .i32 c.r :: v :: .int .u8 c.wide :: attV c.a
def apiP (p : Cel × Value) : List Value := apiC p.1 p.2
theorem apiP_length (p : Cel × Value) : (apiP p).length = 6 := rfl
theorem Own.one {w : World} {B : Nat} {e : TypeId} {k : IntKind} {v : Value} {l : List Int} (h : Own w B e k v l) : v.oneCell' = true := by
  obtain ⟨ao, c, rfl, _⟩ := h.shape
  rfl
theorem Own.typ {w : World} {B : Nat} {e : TypeId} {k : IntKind} {v : Value} {l : List Int} (h : Own w B e k v l) {g : Nat} (hg : v.ownBlock = some g) : Typ w g e := by
  rcases h.2 with ⟨rfl, _⟩ | ⟨x, cap, cur, rfl, _, hh, _⟩
  · cases hg
  · obtain rfl : x = g := by simpa [Value.ownBlock] using hg
    exact ⟨cur, _, hh⟩
theorem Own.fr {B B' : Nat} {ts : List TypeId} {w w' : World} {e : TypeId} {k : IntKind} {v : Value} {l : List Int} (h : Own w B e k v l) (hf : Fr B' ts w w') (he : e ∉ ts) : Own w' B e k v l := by
  have hty := fun g hg => Own.typ h (g := g) hg
  have hlt := fun g hg => (h.lt g hg).2
  refine ⟨h.1, ?_⟩
  rcases h.2 with h2 | ⟨g, cap, cur, rfl, hg, hh, r⟩
  · exact .inl h2
  · refine .inr ⟨g, cap, cur, rfl, hg, (hf.block g (hlt g rfl) (.inr fun t ht hT => he ?_)).trans hh, r⟩
    rw [Typ.inj (hty g rfl) hT]
    exact ht
structure Api (B : Nat) (w : World) (v : Value) (ps : List (Cel × Value)) : Prop where
  own : w.ownsRow B 87 6 v ps.length (fl apiP ps)
  comb : ∀ p ∈ ps, Own w B 21 .i32 p.2 p.1.m
theorem ownsRow_fr {B B' : Nat} {ts : List TypeId} {w w' : World} {e : TypeId} {s n : Nat} {v : Value} {xs : List Value} (h : w.ownsRow B e s v n xs) (hf : Fr B' ts w w') (he : e ∉ ts) : w'.ownsRow B e s v n xs := by
  have hlt := World.ownsRow.lt h
  refine ⟨h.1, ?_⟩
  rcases h.2 with h2 | ⟨g, cap, cur, rfl, hg, hh, r⟩
  · exact .inl h2
  · refine .inr ⟨g, cap, cur, rfl, hg, (hf.block g (hlt g rfl).2 (.inr fun t ht hT => he ?_)).trans hh, r⟩
    rw [Typ.inj (⟨cur, _, hh⟩ : Typ w g e) hT]
    exact ht
theorem Api.fr {B B' : Nat} {ts : List TypeId} {w w' : World} {v : Value} {ps : List (Cel × Value)} (h : Api B w v ps) (hf : Fr B' ts w w') (h1 : 87 ∉ ts) (h2 : 21 ∉ ts) : Api B w' v ps := ⟨ownsRow_fr h.own hf h1, fun p hp => Own.fr (h.comb p hp) hf h2⟩
theorem Api.below {B : Nat} {w w' : World} {v : Value} {ps : List (Cel × Value)} (h : Api B w v ps) (hb : Below w.heap.size w w') : Api B w' v ps := h.fr (Fr.of_below (B := 0) (ts := []) hb) (by simp) (by simp)
theorem Api.lower {B B' : Nat} {w : World} {v : Value} {ps : List (Cel × Value)} (h : Api B w v ps) (hB : B' ≤ B) : Api B' w v ps := ⟨by
  refine ⟨h.own.1, ?_⟩
  rcases h.own.2 with h2 | ⟨g, cap, cur, e, hg, r⟩
  · exact .inl h2
  · exact .inr ⟨g, cap, cur, e, Nat.le_trans hB hg, r⟩, fun p hp => (h.comb p hp).lower hB⟩

theorem elemI : Elem Try.prog 85 21 .i32 4 := by
  have h : (Try.prog.info? 21).map (fun i => (i.zero, i.size, i.bytes)) = some (some (.int .i32 0), 1, 4) := by kernel_rfl
  obtain ⟨i, h0, h1, h2, h3⟩ := info_parts h
  exact ⟨Try.underlying85, i, h0, h1, h2, h3⟩
theorem info48 : (Try.prog.info? 87).map (·.size) = some 6 := by kernel_rfl
theorem info48' (c : Cel) (v : Value) : (Try.prog.info? 87).map (·.size) = some (apiC c v).length := info48
theorem apiC_one {c : Cel} {v : Value} (h : v.oneCell' = true) : ∀ u ∈ apiC c v, u.oneCell' = true := by
  intro u hu
  simp only [apiC, attV, List.mem_cons, List.not_mem_nil, or_false] at hu
  rcases hu with rfl | rfl | rfl | rfl | rfl | rfl
  · rfl
  · exact h
  · rfl
  · rfl
  · rfl
  · rfl

theorem marks_slice (k : Nat) (hk : k ≤ 4) (bx : Nat) (w : World) :
    (Instr.sliceAt 91 (.pointer (some ⟨bx, 1, none⟩)) none (some (.int .u8 k)) none).run Try.prog w = .ok (.slice (some ⟨bx, 1, none⟩) k 4) w := by
  have ht : Try.prog.underlying 91 = some (.array (Try.prog.arrayLen 91) (Try.prog.elem 91)) := by kernel_rfl
  have hl : Try.prog.arrayLen 91 = 4 := by kernel_rfl
  have hi : (Try.prog.info? (Try.prog.elem 91)).map (·.size) = some 1 := by kernel_rfl
  rw [run_sliceAt_array_h w _ ⟨bx, 1, none⟩ ht .u8 k (by omega) (by rw [hl]; omega)]
  cases hq : Try.prog.info? (Try.prog.elem 91) with
  | none => simp [hq] at hi
  | some j =>
    have hs : j.size = 1 := by simpa [hq] using hi
    simp [sizeOf, typeInfo, hq, hs, slicedAt, hl, Addr.add]
theorem wpList_appk {P : Program} {t e : TypeId} {k : IntKind} {bytes : Nat} (E : Elem P t e k bytes) {w : World} {ops : Array Oper} {rest : List Oper} {o : Oper} {a : Go.Act} {Q : Exit → Go.Act → World → Prop} (hgd : Region.wanted o (yielded ops a.tmps) = true) (s x : Operand)
    (ho : o.op = .call { callee := .builtin .append, args := #[s, x], argTypes := #[t, t] })
    (B : Nat) (v : Value) (l m : List Int) (n : Nat) (hn' : n = m.length) (ao : Option Addr) (B' c : Nat) (hs : a.eval s = v) (hxe : a.eval x = .slice ao n c)
    (h : Own w B e k v l) (hm : Nums w B' k ao m) (hB : B ≤ w.heap.size) (hn : (l.length + n) * bytes ≤ 140737488355328) (hx : l.length + n ≤ maxLen)
    (hK : ∀ v' w', Own w' B e k v' (l ++ m) → Only v.ownBlock.toList w w' → (v'.ownBlock = v.ownBlock ∨ v'.ownBlock = some w.heap.size) → wpList P ops Q rest (a.put o.dst v') w') : wpList P ops Q (o :: rest) a w := by
  subst hn'
  exact wpList_app E hgd s x ho B v l m ao B' c hs hxe h hm hB hn hx hK
/-- What told leaves. -/
def ToldC (w : World) (c : Cel) (e : Ending) (w' : World) : Prop := ∃ v, e = .returned (.agg (apiC c v).toArray) ∧ Own w' w.heap.size 21 .i32 v c.m ∧ Below w.heap.size w w'

set_option maxRecDepth 100000 in
set_option maxHeartbeats 2000000 in
theorem told_any (c : Cel) (hm : c.m.length ≤ 4) (w : World) : Calls Try.prog 35 #[.agg (cellC c).toArray] w (ToldC w c) := by
  obtain ⟨r, m, wd, ⟨af, ab, ag⟩⟩ := c
  simp only at hm
  obtain ⟨p0, p1, p2, p3, hp⟩ : ∃ p0 p1 p2 p3, pad4 m = [p0, p1, p2, p3] := by
    match m, hm with
    | [], _ => exact ⟨_, _, _, _, rfl⟩
    | [_], _ => exact ⟨_, _, _, _, rfl⟩
    | [_, _], _ => exact ⟨_, _, _, _, rfl⟩
    | [_, _, _], _ => exact ⟨_, _, _, _, rfl⟩
    | [_, _, _, _], _ => exact ⟨_, _, _, _, rfl⟩
  have hmi : ∀ (i : Nat) (x : Int), m[i]? = some x → [p0, p1, p2, p3][i]? = some x := by
    intro i x hx
    rw [← hp, pad4, List.getElem?_take, if_pos (by have := (List.getElem?_eq_some_iff.1 hx).1; omega), List.getElem?_append_left (List.getElem?_eq_some_iff.1 hx).1]
    exact hx
  have hC : (cellC ⟨r, m, wd, ⟨af, ab, ag⟩⟩).toArray = #[.int .i32 r, .int .i32 p0, .int .i32 p1, .int .i32 p2, .int .i32 p3, .int .u8 m.length, .int .u8 wd, .int .u32 af, .int .u32 ab, .int .u16 ag] := by simp [cellC, hp, attV]
  rw [hC]
  have hbx := Block.made w 93 #[.int .i32 r, .int .i32 p0, .int .i32 p1, .int .i32 p2, .int .i32 p3, .int .u8 m.length, .int .u8 wd, .int .u32 af, .int .u32 ab, .int .u16 ag]
  have hnums : ∀ W, Block W w.heap.size 93 #[.int .i32 r, .int .i32 p0, .int .i32 p1, .int .i32 p2, .int .i32 p3, .int .u8 m.length, .int .u8 wd, .int .u32 af, .int .u32 ab, .int .u16 ag] → Nums W W.heap.size .i32 (some ⟨w.heap.size, 1, none⟩) m := by
    intro W hW i x hx
    refine ⟨_, rfl, hW.lt, ?_⟩
    rw [Addr.add_lit]
    refine hW.cell _ ?_
    have := hmi i x hx
    match i, this with
    | 0, h => simp at h; simp [h]
    | 1, h => simp at h; simp [h]
    | 2, h => simp at h; simp [h]
    | 3, h => simp at h; simp [h]
  have hsl := fun W => marks_slice m.length hm w.heap.size W
  have hb1 := hbx.alloc (.cells #[.int .i32 0, .slice none 0 0, .int .u8 0, .int .u32 0, .int .u32 0, .int .u16 0] 87)
  have hr1 : Block ((w.alloc (.cells #[.int .i32 r, .int .i32 p0, .int .i32 p1, .int .i32 p2, .int .i32 p3, .int .u8 m.length, .int .u8 wd, .int .u32 af, .int .u32 ab, .int .u16 ag] 93)).alloc (.cells #[.int .i32 0, .slice none 0 0, .int .u8 0, .int .u32 0, .int .u32 0, .int .u16 0] 87)) (w.heap.size + 1) 87 #[.int .i32 0, .slice none 0 0, .int .u8 0, .int .u32 0, .int .u32 0, .int .u16 0] := by
    have := Block.made (w.alloc (.cells #[.int .i32 r, .int .i32 p0, .int .i32 p1, .int .i32 p2, .int .i32 p3, .int .u8 m.length, .int .u8 wd, .int .u32 af, .int .u32 ab, .int .u16 ag] 93)) 87 #[.int .i32 0, .slice none 0 0, .int .u8 0, .int .u32 0, .int .u32 0, .int .u16 0]
    simpa using this
  have hbel : Below w.heap.size w ((w.alloc (.cells #[.int .i32 r, .int .i32 p0, .int .i32 p1, .int .i32 p2, .int .i32 p3, .int .u8 m.length, .int .u8 wd, .int .u32 af, .int .u32 ab, .int .u16 ag] 93)).alloc (.cells #[.int .i32 0, .slice none 0 0, .int .u8 0, .int .u32 0, .int .u32 0, .int .u16 0] 87)) := ((Below.refl _ _).alloc (Nat.le_refl _) _).alloc (by simp) _
  obtain ⟨k, hk⟩ : ∃ k, k = m.length := ⟨_, rfl⟩
  rw [← hk] at hsl hm
  have hkk := Lib.hid hk
  replace hnums := Lib.hid hnums
  clear hp hmi hC hbx
  rw [← hk] at hnums hb1 hr1 hbel ⊢
  clear hk
  replace hb1 := Lib.hid hb1
  replace hr1 := Lib.hid hr1
  replace hbel := Lib.hid hbel
  go_enter Try.func35, Try.ntmps35
  go_wp2_with (first
    | (with_reducible show wpList _ _ _ (⟨some 8, .call _, _, _, _, _⟩ :: _) _ _; go_must (refine wpList_appk elemI rfl (.const (.slice none 0 0)) (.tmp 7) rfl w.heap.size (.slice none 0 0) [] m k hkk.out (some ⟨w.heap.size, 1, none⟩) (w.heap.size + 2) 4 rfl rfl (Own.nil _ _ _ _) (by simpa using hnums.out _ hb1.out) (by simp; omega) (by simp; omega) (by simp [maxLen]; omega) ?_); intro v2 w2 hown2 ho2 hat2; obtain ⟨a2, n2, c2, rfl⟩ := own_slice hown2; have ho2' := only_none ho2; have hbx2 := hb1.out.only ho2' (by simp); have hr2 := hr1.out.only ho2' (by simp); have f0 := hbx2.cell 0 rfl; have f6 := hbx2.cell 6 rfl; have f7 := hbx2.cell 7 rfl; have f8 := hbx2.cell 8 rfl; have f9 := hbx2.cell 9 rfl)
    | (with_reducible show wpList _ _ _ (⟨none, .store _ (.tmp 2) _, _, _, _, _⟩ :: _) _ _; go_must (refine wpList_storeN rfl 87 (.tmp 2) (.tmp 16) rfl (g := (w.heap.size + 1)) (i := 0) hr2 (apiC ⟨r, m, wd, ⟨af, ab, ag⟩⟩ (.slice a2 n2 c2)) rfl rfl (by simp [apiC, attV]) (info48' _ _) (apiC_one rfl) ?_); intro w3 hr3 ho3))
  have hn1 : w.heap.size + 1 ∉ (Value.slice a2 n2 c2).ownBlock.toList := fun hm => by
    have := Own.typ hown2 (by simpa using hm)
    exact absurd (Typ.inj this (Block.typ hr2)) (by decide)
  have hown3 := hown2.only ho3 (fun g hg hm => hn1 (by simp at hm; subst hm; rw [hg]; simp))
  rw [List.nil_append] at hown3
  have hb3 : Block w3 (w.heap.size + 1) 87 (apiC ⟨r, m, wd, ⟨af, ab, ag⟩⟩ (.slice a2 n2 c2)).toArray := by
    have := hr3.out
    simpa [splice, apiC, attV] using this
  have hbel2 : Below w.heap.size w w2 := hbel.out.trans (ho2'.nil.mono (by simp; omega))
  exact bodyPost_ret (v := .agg (apiC ⟨r, m, wd, ⟨af, ab, ag⟩⟩ (.slice a2 n2 c2)).toArray) (results_cell_row rfl _ _ (w.heap.size + 1) 87 _ (0, 0) _ rfl hb3 Try.underlying87 rfl (info48' _ _)) rfl ⟨_, rfl, Own.lower hown3 (by simp), hbel2.trans (ho3.below hbel2.size (by simp))⟩
end Go.Proofs.Ytleooelhnnfjbaa.Rw
