/-
  row: the law's own known answers. row: the reference's small calls.
-/
import Derived.Test.YtaoegfdaemmogaaGreatRCopy
import Derived.Laws.Cover4
namespace Go.Proofs.YtaoegfdaemmogaaGreat.Rw
open Go Go.RowKit Go.Proofs.YtaoegfdaemmogaaGreat.Com

/-! The text of a row. -/
/-- The cells of the place i of a row that was handed out, as a load meets them. -/
theorem Api.load {B : Nat} {w : World} {g n cap : Nat} {ps : List (Cel × Value)} (h : Api B w (.slice (some ⟨g, 0, none⟩) n cap) ps) {i : Nat} (hi : i < ps.length) : ∀ j v, (apiP ps[i])[j]? = some v → w.cell? ((⟨g, i * 6, none⟩ : Addr).add j) = some v := by
  intro j v hj
  have hj6 := (List.getElem?_eq_some_iff.1 hj).1
  rw [apiP_length] at hj6
  have e := fl_at apiP_length hi hj6
  rw [hj] at e
  have hlt : i * 6 + j < ps.length * 6 := by omega
  rcases h.own.2 with ⟨h0, _⟩ | ⟨g', cap', cur, e', _, hg, _, _, _, ht⟩
  · cases h0
  · simp only [Value.slice.injEq, Option.some.injEq, Addr.mk.injEq, and_true] at e'
    obtain ⟨rfl, rfl, rfl⟩ := e'
    rw [Addr.add_lit, cell_of_row w g _ cur _ (0, 0) hg]
    rw [← ht, List.getElem?_take, if_pos hlt] at e
    simpa using e
theorem Api.lt {B : Nat} {w : World} {v : Value} {ps : List (Cel × Value)} (h : Api B w v ps) : ∀ g, v.ownBlock = some g → B ≤ g ∧ g < w.heap.size := World.ownsRow.lt h.own

/-! a, a wide rune, b. -/
end Go.Proofs.YtaoegfdaemmogaaGreat.Rw
namespace Go.Proofs.YtaoegfdaemmogaaGreat.Rw
open Go Go.RowKit Go.Proofs.YtaoegfdaemmogaaGreat.Com

theorem clear_any (a : At) (w : World) : Calls Tryz.prog 96 #[.agg #[.int .u32 a.f, .int .u32 a.b, .int .u16 a.g]] w fun e w' => e = .returned (.agg (apiC (clr a) (.slice none 0 0)).toArray) ∧ Below w.heap.size w w' := by
  obtain ⟨f, b, g⟩ := a
  go_enter Tryz.func96, Tryz.ntmps96
  go_wp2
  exact bodyPost_ret (v := .agg (apiC (clr ⟨f, b, g⟩) (.slice none 0 0)).toArray) (by simp [results, Tryz.results96, go_sem, apiC, clr, attV]) rfl ⟨rfl, (((Below.refl _ _).alloc (Nat.le_refl _) _).alloc (by simp) _)⟩

theorem only_one {g n c : Nat} {w w' : World} (h : Only (Value.slice (some ⟨g, 0, none⟩) n c).ownBlock.toList w w') : Only [g] w w' := h
theorem api_at {w : World} {g : Nat} {c : Cel} {v : Value} (h : Block w g 117 (apiC c v).toArray) : ∀ j u, (apiC c v)[j]? = some u → w.cell? ((⟨g, 0, none⟩ : Addr).add j) = some u := fun j u hj => by
  rw [Addr.add_lit, Nat.zero_add]
  exact h.cell j (by simpa using hj)
theorem box_put {w : World} {g : Nat} {r wd f b a : Int} {m : List Int} {v v' : Value} (h : Block w g 117 ((#[Value.int .i32 r, v, .int .u8 wd, .int .u32 f, .int .u32 b, .int .u16 a] : Array Value).toList.take 1 ++ [v'] ++ (#[Value.int .i32 r, v, .int .u8 wd, .int .u32 f, .int .u32 b, .int .u16 a] : Array Value).toList.drop (1 + 1)).toArray) : Block w g 117 (apiC ⟨r, m, wd, ⟨f, b, a⟩⟩ v').toArray := h
/-- A cell in memory of its own. -/
def OwnC (w : World) (c : Cel) (e : Ending) (w' : World) : Prop := ∃ v, e = .returned (.agg (apiC c v).toArray) ∧ Own w' w.heap.size 21 .i32 v c.m ∧ Below w.heap.size w w'
theorem info46 : (Tryz.prog.info? 115).map (·.size) = some 1 := by kernel_rfl
set_option maxRecDepth 100000 in
set_option maxHeartbeats 2000000 in
theorem own_any {B : Nat} (c : Cel) (v : Value) (w : World) (h : Own w B 21 .i32 v c.m) (hm : c.m.length ≤ 4) : Calls Tryz.prog 97 #[.agg (apiC c v).toArray] w (OwnC w c) := by
  obtain ⟨ao, cp, rfl, _, _, hnums⟩ := h.shape
  obtain ⟨r, m, wd, ⟨af, ab, ag⟩⟩ := c
  simp only at hm hnums h ⊢
  have hC : (apiC ⟨r, m, wd, ⟨af, ab, ag⟩⟩ (.slice ao m.length cp)).toArray = #[.int .i32 r, .slice ao m.length cp, .int .u8 wd, .int .u32 af, .int .u32 ab, .int .u16 ag] := rfl
  rw [hC]
  obtain ⟨k, hk⟩ : ∃ k, k = m.length := ⟨_, rfl⟩
  have hb0 := Block.made w 117 #[.int .i32 r, .slice ao k cp, .int .u8 wd, .int .u32 af, .int .u32 ab, .int .u16 ag]
  have hr0 : Block ((w.alloc (.cells #[.int .i32 r, .slice ao k cp, .int .u8 wd, .int .u32 af, .int .u32 ab, .int .u16 ag] 117)).alloc (.cells #[.int .i32 0, .slice none 0 0, .int .u8 0, .int .u32 0, .int .u32 0, .int .u16 0] 117)) (w.heap.size + 1) 117 (apiC zeroCel (.slice none 0 0)).toArray := by
    have := fresh_api (w.alloc (.cells #[.int .i32 r, .slice ao k cp, .int .u8 wd, .int .u32 af, .int .u32 ab, .int .u16 ag] 117))
    simpa using this
  have hb1 := hb0.alloc (.cells #[.int .i32 0, .slice none 0 0, .int .u8 0, .int .u32 0, .int .u32 0, .int .u16 0] 117)
  have hb2 := hb1.alloc (.cells #[] 21)
  have hr2 := hr0.alloc (.cells #[] 21)
  have hbel : Below w.heap.size w (((w.alloc (.cells #[.int .i32 r, .slice ao k cp, .int .u8 wd, .int .u32 af, .int .u32 ab, .int .u16 ag] 117)).alloc (.cells #[.int .i32 0, .slice none 0 0, .int .u8 0, .int .u32 0, .int .u32 0, .int .u16 0] 117)).alloc (.cells #[] 21)) := (((Below.refl _ _).alloc (Nat.le_refl _) _).alloc (by simp) _).alloc (by simp; omega) _
  have hown0 : Own (((w.alloc (.cells #[.int .i32 r, .slice ao k cp, .int .u8 wd, .int .u32 af, .int .u32 ab, .int .u16 ag] 117)).alloc (.cells #[.int .i32 0, .slice none 0 0, .int .u8 0, .int .u32 0, .int .u32 0, .int .u16 0] 117)).alloc (.cells #[] 21)) (w.heap.size + 2) 21 .i32 (.slice (some ⟨w.heap.size + 2, 0, none⟩) 0 0) [] := by
    have := Own.lit ((w.alloc (.cells #[.int .i32 r, .slice ao k cp, .int .u8 wd, .int .u32 af, .int .u32 ab, .int .u16 ag] 117)).alloc (.cells #[.int .i32 0, .slice none 0 0, .int .u8 0, .int .u32 0, .int .u32 0, .int .u16 0] 117)) (w.heap.size + 2) 21 .i32 [] (by simp) (by simp)
    simpa using this
  have hn2 := (hnums.below hbel (Nat.le_refl _))
  have hkk := Lib.hid hk
  rw [← hk] at hm ⊢
  replace hb2 := Lib.hid hb2
  replace hr2 := Lib.hid hr2
  replace hbel := Lib.hid hbel
  replace hown0 := Lib.hid hown0
  replace hn2 := Lib.hid hn2
  clear hb0 hb1 hr0 hC hk hnums h
  go_enter Tryz.func97, Tryz.ntmps97
  go_wp2_with (first
    | (with_reducible show wpList _ _ _ (⟨some 6, .call _, _, _, _, _⟩ :: _) _ _; go_must (refine wpList_appk elemI rfl (.tmp 3) (.tmp 5) rfl (w.heap.size + 2) (.slice (some ⟨w.heap.size + 2, 0, none⟩) 0 0) [] m k hkk.out ao w.heap.size cp rfl rfl hown0.out hn2.out (by simp) (by simp; omega) (by simp [maxLen]; omega) ?_); intro v3 w3 hown3 ho3 hat3; obtain ⟨a3, n3, c3, rfl⟩ := own_slice hown3; have ho3' := only_one ho3; have hb3 := hb2.out.only ho3' (by simp); have hr3 := hr2.out.only ho3' (by simp))
    | (with_reducible show wpList _ _ _ (⟨none, .store _ (.tmp 7) _, _, _, _, _⟩ :: _) _ _; go_must (refine wpList_store1 rfl _ (.tmp 7) (.tmp 6) rfl hb3 (.slice _ _ _) rfl rfl (by simp) (by exact info46) rfl ?_); intro w4 hb4 ho4; have hb4' := box_put (m := m) hb4; have hr4 := hr3.only ho4 (by simp))
    | (with_reducible show wpList _ _ _ (⟨some 8, .load _ (.tmp 1), _, _, _, _⟩ :: _) _ _; go_must (refine wpList_loadAt rfl 117 (.tmp 1) rfl ⟨w.heap.size, 0, none⟩ rfl (apiC ⟨r, m, wd, ⟨af, ab, ag⟩⟩ (.slice a3 n3 c3)) _ (api_at hb4') Tryz.underlying117 rfl (info48' _ _) ?_))
    | (with_reducible show wpList _ _ _ (⟨none, .store _ (.tmp 2) _, _, _, _, _⟩ :: _) _ _; go_must (refine wpList_storeN rfl 117 (.tmp 2) (.tmp 8) rfl (g := (w.heap.size + 1)) (i := 0) hr4 (apiC ⟨r, m, wd, ⟨af, ab, ag⟩⟩ (.slice a3 n3 c3)) rfl rfl (by simp [apiC, attV]) (info48' _ _) (apiC_one rfl) ?_); intro w5 hr5 ho5))
  have hty := fun g hg => Own.typ hown3 (g := g) hg
  rw [List.nil_append] at hown3
  have hown4 := hown3.only ho4 (fun g hg hm => by
    simp at hm; subst hm
    exact absurd (Typ.inj (hty _ hg) (Block.typ hb3)) (by decide))
  have hown5 := hown4.only ho5 (fun g hg hm => by
    simp at hm; subst hm
    exact absurd (Typ.inj (hty _ hg) (Block.typ hr3)) (by decide))
  have hb3' : Below w.heap.size w w3 := hbel.out.trans (ho3'.below (by simp; omega) (by simp))
  have hb5 : Below w.heap.size w w5 := (hb3'.trans (ho4.below hb3'.size (by simp))).trans (ho5.below (by have := hb3'.size; have := ho4.size; omega) (by simp))
  exact bodyPost_ret (v := .agg (apiC ⟨r, m, wd, ⟨af, ab, ag⟩⟩ (.slice a3 n3 c3)).toArray) (results_cell_row rfl _ _ (w.heap.size + 1) 117 _ (0, 0) _ rfl (stored_api hr5.out) Tryz.underlying117 rfl (info48' _ _)) rfl ⟨_, rfl, Own.lower hown5 (by omega), hb5⟩
end Go.Proofs.YtaoegfdaemmogaaGreat.Rw
