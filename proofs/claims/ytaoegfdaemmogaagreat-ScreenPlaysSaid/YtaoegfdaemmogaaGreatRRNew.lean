/-
  row: what Put builds; a cell of the reference's row is turned. row: the reference's New and From.
-/
import Derived.Test.YtaoegfdaemmogaaGreatRBld2
namespace Go.Proofs.YtaoegfdaemmogaaGreat.Rw
open Go Go.RowKit Go.Proofs.YtaoegfdaemmogaaGreat.Com

/-- Six stores. -/
def put6 (w : World) (g o : Nat) (v0 v1 v2 v3 v4 v5 : Value) : World := (((((w.setCell ⟨g, o, none⟩ v0).setCell ⟨g, o + 1, none⟩ v1).setCell ⟨g, o + 2, none⟩ v2).setCell ⟨g, o + 3, none⟩ v3).setCell ⟨g, o + 4, none⟩ v4).setCell ⟨g, o + 5, none⟩ v5
theorem put6_only (w : World) (g o : Nat) (v0 v1 v2 v3 v4 v5 : Value) : Only [g] w (put6 w g o v0 v1 v2 v3 v4 v5) :=
  only_put (only_put (only_put (only_put (only_put (only_put (Only.refl _ _) _ _) _ _) _ _) _ _) _ _) _ _
theorem put6_block {w : World} {g o : Nat} {t : TypeId} {cur : List Value} (h : Block w g t cur.toArray) (ho : o + 6 ≤ cur.length) (v0 v1 v2 v3 v4 v5 : Value) : Block (put6 w g o v0 v1 v2 v3 v4 v5) g t (splice cur o [v0, v1, v2, v3, v4, v5]).toArray := by
  rw [splice6 _ _ _ _ _ _ _ _ ho]
  have set1 := fun {w : World} {l : List Value} (h : Block w g t l.toArray) (i : Nat) (u : Value) => (by have := h.set i u; rwa [List.setIfInBounds_toArray] at this : Block (w.setCell ⟨g, i, none⟩ u) g t (l.set i u).toArray)
  exact set1 (set1 (set1 (set1 (set1 (set1 h _ _) _ _) _ _) _ _) _ _) _ _
section
variable {B : Nat} {w w' : World} {d gv n cap : Nat} {ps : List (Cel × Value)}
theorem RefX.block (h : RefX B w d gv n cap ps) : ∃ tail, Block w gv 117 (fl apiP ps ++ tail).toArray ∧ (fl apiP ps ++ tail).length = cap * 6 := by
  obtain ⟨g, c, tail, e, _, hb, _, _, hl⟩ := own_block' h.api.own (by rw [h.len]; exact h.pos)
  simp only [Value.slice.injEq, Option.some.injEq, Addr.mk.injEq, and_true] at e
  obtain ⟨rfl, _, rfl⟩ := e
  exact ⟨tail, hb, hl⟩
theorem RefX.free (h : RefX B w d gv n cap ps) (j : Nat) : w.frozen? ⟨gv, j, none⟩ = false := by
  obtain ⟨tail, hb, _⟩ := h.block
  exact hb.free j
/-- A cell of the row is another one. -/
theorem RefX.put (h : RefX B w d gv n cap ps) {i : Nat} (hi : i < ps.length) (q : Cel × Value) (hq : Own w B 21 .i32 q.2 q.1.m) {tail : List Value} (_ : Block w gv 117 (fl apiP ps ++ tail).toArray) (hl : (fl apiP ps ++ tail).length = cap * 6) (hb' : Block w' gv 117 (splice (fl apiP ps ++ tail) (i * 6) (apiP q)).toArray) (ho : Only [gv] w w') : RefX B w' d gv n cap (ps.set i q) := by
  have hf : Fr B [117] w w' := Fr.of_only ho (fun k hk _ => by simp at hk; subst hk; exact ⟨(h.api.lt _ rfl).1, _, List.mem_singleton.2 rfl, Block.typ ‹_›⟩)
  have hfs := fl_splice apiP_length ps [q] tail i (by simp; omega)
  rw [splice_set _ _ _ hi, fl_one] at hfs
  rw [hfs] at hb'
  have hgv := (h.api.lt _ rfl).1
  have hll : (fl apiP (ps.set i q) ++ tail).length = cap * 6 := by rw [← hl]; simp [fl_length apiP_length]
  refine ⟨Block.fr h.ptr hf (.inl (by decide)), ⟨⟨fl_length apiP_length _, .inr ⟨gv, cap, _, by rw [List.length_set, h.len], hgv, hb', by rw [List.length_set, h.len]; exact h.le, h.cap, by rw [List.size_toArray, hll], ?_⟩⟩, ?_⟩, by rw [List.length_set, h.len], h.pos, h.small, h.le, h.cap, h.lo⟩
  · have e : (ps.set i q).length * 6 = (fl apiP (ps.set i q)).length := (fl_length apiP_length _).symm
    rw [e]
    simp
  · intro p hp
    rcases List.mem_or_eq_of_mem_set hp with hp | rfl
    · exact Own.fr (h.api.comb p hp) hf (by decide)
    · exact Own.fr hq hf (by decide)
theorem RefX.put6 (h : RefX B w d gv n cap ps) {i : Nat} (hi : i < ps.length) (c : Cel) (v : Value) (hq : Own w B 21 .i32 v c.m) : RefX B (Rw.put6 w gv (i * 6) (.int .i32 c.r) v (.int .u8 c.wide) (.int .u32 c.a.f) (.int .u32 c.a.b) (.int .u16 c.a.g)) d gv n cap (ps.set i (c, v)) := by
  obtain ⟨tail, hb, hl⟩ := h.block
  have hfit : i * 6 + 6 ≤ (fl apiP ps ++ tail).length := by
    rw [List.length_append, fl_length apiP_length]
    have : (i + 1) * 6 ≤ ps.length * 6 := Nat.mul_le_mul_right _ hi
    omega
  exact h.put hi (c, v) hq hb hl (put6_block hb hfit _ _ _ _ _ _) (put6_only _ _ _ _ _ _ _ _ _)
theorem RefX.drawn (h : RefX B w d gv n cap ps) (q : Nat) : RefX B (w.drewN q) d gv n cap ps := h.below (below_dr (Below.refl _ _) q)
theorem RefX.cells (h : RefX B w d gv n cap ps) {i : Nat} (hi : i < ps.length) : w.cell? ⟨gv, i * 6, none⟩ = some (.int .i32 ps[i].1.r) ∧ w.cell? ⟨gv, i * 6 + 1, none⟩ = some ps[i].2 ∧ w.cell? ⟨gv, i * 6 + 2, none⟩ = some (.int .u8 ps[i].1.wide) ∧ w.cell? ⟨gv, i * 6 + 3, none⟩ = some (.int .u32 ps[i].1.a.f) ∧ w.cell? ⟨gv, i * 6 + 4, none⟩ = some (.int .u32 ps[i].1.a.b) ∧ w.cell? ⟨gv, i * 6 + 5, none⟩ = some (.int .u16 ps[i].1.a.g) := by
  have hl := h.api.load hi
  have e := fun j v hj => by have := hl j v hj; rw [Addr.add_lit] at this; exact this
  exact ⟨e 0 _ rfl, e 1 _ rfl, e 2 _ rfl, e 3 _ rfl, e 4 _ rfl, e 5 _ rfl⟩
end
theorem RefX.setWide {B : Nat} {w : World} {d gv n cap : Nat} {ps : List (Cel × Value)} (h : RefX B w d gv n cap ps) {i : Nat} (hi : i < ps.length) (y : Int) : RefX B (w.setCell ⟨gv, i * 6 + 2, none⟩ (.int .u8 y)) d gv n cap (ps.set i (⟨ps[i].1.r, ps[i].1.m, y, ps[i].1.a⟩, ps[i].2)) := by
  obtain ⟨tail, hb, hl⟩ := h.block
  have hfit : i * 6 + 6 ≤ (fl apiP ps ++ tail).length := by
    rw [List.length_append, fl_length apiP_length]
    have : (i + 1) * 6 ≤ ps.length * 6 := Nat.mul_le_mul_right _ hi
    omega
  have e0 := fl_splice apiP_length ps [ps[i]] tail i (by simp; omega)
  rw [fl_one, splice_set _ _ _ hi, List.set_getElem_self] at e0
  have e1 := splice_put (fl apiP ps ++ tail) (apiP ps[i]) (i * 6) 2 (.int .u8 y) (by rw [apiP_length]; exact hfit) (by rw [apiP_length]; omega)
  rw [e0] at e1
  have hset := hb.set (i * 6 + 2) (.int .u8 y)
  rw [List.setIfInBounds_toArray, ← e1] at hset
  exact h.put hi (⟨ps[i].1.r, ps[i].1.m, y, ps[i].1.a⟩, ps[i].2) (h.api.comb ps[i] (List.getElem_mem hi)) hb hl hset (Only.setCell w ⟨gv, i * 6 + 2, none⟩ _)
theorem cels_set1 (ps : List (Cel × Value)) (i : Nat) (c : Cel) (v : Value) : cels (ps.set i (c, v)) = (cels ps).set i c := by simp [cels, List.map_set]

theorem ref_turn {B : Nat} {w w3 w4 : World} {d gl n cl : Nat} {l0 l : List Cel} {ps3 ps4 : List (Cel × Value)} {e0 : Ending} {v : Value} (h : RefDone B w d l0 e0 w3) (_ : RefX B w3 d gl n cl ps3) (ho : Only [gl] w3 w4) (h4 : RefX B w4 d gl n cl ps4) (hc : cels ps4 = l) (hgl : w.heap.size ≤ gl) : RefDone B w d l (.returned v) w4 := by
  exact ⟨⟨v, rfl⟩, ⟨gl, n, cl, ps4, h4, hc⟩, h.2.2.then ho (fun k hk => .inr (by simp at hk; omega))⟩
/-- What Put leaves is told in two ways. -/
theorem put_same {l : List Cel} (hw : Whole l) (col : Nat) (x : Int) (wide : Bool) (a : At) (h : col + (cellsPut x wide a).length ≤ l.length) :
    splice (mendAll (splice l col (List.replicate (cellsPut x wide a).length (clr zeroAt)))) col (cellsPut x wide a) = setL l col (cellsPut x wide a) := by
  have hl1 : (splice l col (List.replicate (cellsPut x wide a).length (clr zeroAt))).length = l.length := length_splice _ _ _ (by simpa using h)
  have hl2 : (splice l col (cellsPut x wide a)).length = l.length := length_splice _ _ _ h
  have hS := W_splice (l := l) (cs := List.replicate (cellsPut x wide a).length (clr zeroAt)) (col := col) (by simpa using h)
  have hT := W_splice (l := l) (cs := cellsPut x wide a) (col := col) h
  simp only [List.length_replicate, W_clr] at hS
  have hw' := (whole_iff _).1 hw
  have hcw := (whole_iff _).1 (whole_cells x wide a)
  have hends : W (cellsPut x wide a) 0 ≠ 2 ∧ (∀ j, j + 1 = (cellsPut x wide a).length → W (cellsPut x wide a) j ≠ 1) := by
    refine ⟨hcw.1, fun j hj h1 => ?_⟩
    have := (hcw.2 j).1 h1
    rw [W_out (by omega)] at this
    omega
  have hpos : 0 < (cellsPut x wide a).length := by cases wide <;> simp [cellsPut]
  have hat1 : ∀ i, (i < col ∨ col + (cellsPut x wide a).length ≤ i) → (splice l col (List.replicate (cellsPut x wide a).length (clr zeroAt)))[i]? = l[i]? ∧ (splice l col (cellsPut x wide a))[i]? = l[i]? := by
    intro i hi
    have hlt : (l.take col).length = col := by rw [List.length_take]; omega
    have key : ∀ V : List Cel, V.length = (cellsPut x wide a).length → (l.take col ++ (V ++ l.drop (col + V.length)))[i]? = l[i]? := by
      intro V hV
      rcases hi with hi | hi
      · rw [List.getElem?_append_left (by omega), List.getElem?_take, if_pos hi]
      · rw [List.getElem?_append_right (by omega), hlt, List.getElem?_append_right (by omega), List.getElem?_drop]
        congr 1
        omega
    exact ⟨key _ (by simp), key _ rfl⟩
  have hin : ∀ i, col ≤ i → i < col + (cellsPut x wide a).length → (splice l col (cellsPut x wide a))[i]? = (cellsPut x wide a)[i - col]? := by
    intro i h1 h2
    have hlt : (l.take col).length = col := by rw [List.length_take]; omega
    unfold splice
    rw [List.getElem?_append_right (by omega), hlt, List.getElem?_append_left (by omega)]
  generalize splice l col (List.replicate (cellsPut x wide a).length (clr zeroAt)) = S at hS hl1 hat1 ⊢
  unfold setL
  have houtA : ∀ i, (i < col ∨ col + (cellsPut x wide a).length ≤ i) → (Alone S i ↔ Alone (splice l col (cellsPut x wide a)) i) := by
    intro i hi
    have s0 := hS i; have s1 := hS (i + 1); have s2 := hS (i - 1)
    have t0 := hT i; have t1 := hT (i + 1); have t2 := hT (i - 1)
    have e0 := hends.1
    have e1 := hends.2 (i - 1 - col)
    have hlast : W (cellsPut x wide a) (i - 1 - col) ≠ 1 ∨ i ≠ col + (cellsPut x wide a).length := by
      by_cases c : i = col + (cellsPut x wide a).length
      · exact .inl (e1 (by omega))
      · exact .inr c
    have hfirst : i + 1 = col → W (cellsPut x wide a) (i + 1 - col) ≠ 2 := fun c => by rw [show i + 1 - col = 0 by omega]; exact e0
    unfold Alone
    generalize W (cellsPut x wide a) (i - 1 - col) = y1 at *
    generalize W (cellsPut x wide a) (i + 1 - col) = y2 at *
    rcases hi with hi | hi
    · rw [if_pos hi] at s0 t0
      rw [if_pos (by omega)] at s2 t2
      split at s1 <;> split at t1 <;> (try split at s1) <;> (try split at t1) <;> omega
    · rw [if_neg (by omega), if_neg (by omega)] at s0 t0 s1 t1
      split at s2 <;> split at t2 <;> (try split at s2) <;> (try split at t2) <;> omega
  have hinA : ∀ i, col ≤ i → i < col + (cellsPut x wide a).length → ¬ Alone (splice l col (cellsPut x wide a)) i := by
    intro i h1 h2
    have t0 := hT i; have t1 := hT (i + 1); have t2 := hT (i - 1)
    rw [if_neg (by omega), if_pos h2] at t0
    have w0 := hcw.2 (i - col)
    have w1 := hcw.2 (i - 1 - col)
    have e0 := hends.1
    have e1 := hends.2 (i - col)
    rw [show i - col + 1 = i + 1 - col by omega] at w0
    unfold Alone
    rw [if_neg (show ¬ i + 1 < col by omega)] at t1
    by_cases c : i = col
    · subst c
      rw [Nat.sub_self] at t0 w0 e1
      generalize W (cellsPut x wide a) 0 = y0 at *
      generalize W (cellsPut x wide a) (i + 1 - i) = y2 at *
      split at t1 <;> omega
    · rw [show i - 1 - col + 1 = i - col by omega] at w1
      rw [if_neg (by omega), if_pos (by omega)] at t2
      generalize W (cellsPut x wide a) (i - col) = y0 at *
      generalize W (cellsPut x wide a) (i + 1 - col) = y2 at *
      generalize W (cellsPut x wide a) (i - 1 - col) = y1 at *
      split at t1 <;> omega
  generalize splice l col (cellsPut x wide a) = T at hl2 hT hat1 hin houtA hinA ⊢
  apply List.ext_getElem?
  intro i
  rw [mendAll_at]
  have hlt : ((mendAll S).take col).length = col := by rw [List.length_take, mendAll_length, hl1]; omega
  by_cases c1 : i < col
  · have e := hat1 i (.inl c1)
    rw [e.2]
    unfold splice
    rw [List.getElem?_append_left (by omega), List.getElem?_take, if_pos c1, mendAll_at, e.1]
    cases l[i]? with
    | none => rfl
    | some c =>
      simp only [Option.map_some]
      congr 1
      by_cases hA : Alone S i
      · rw [if_pos hA, if_pos ((houtA i (.inl c1)).1 hA)]
      · rw [if_neg hA, if_neg (fun hh => hA ((houtA i (.inl c1)).2 hh))]
  · by_cases c2 : i < col + (cellsPut x wide a).length
    · rw [hin i (by omega) c2]
      have hn := hinA i (by omega) c2
      unfold splice
      rw [List.getElem?_append_right (by omega), hlt, List.getElem?_append_left (by omega)]
      cases (cellsPut x wide a)[i - col]? with
      | none => rfl
      | some c => simp only [Option.map_some]; rw [if_neg hn]
    · have e := hat1 i (.inr (by omega))
      rw [e.2]
      unfold splice
      rw [List.getElem?_append_right (by omega), hlt, List.getElem?_append_right (by omega), List.getElem?_drop, show col + (cellsPut x wide a).length + (i - col - (cellsPut x wide a).length) = i by omega, mendAll_at, e.1]
      cases l[i]? with
      | none => rfl
      | some c =>
        simp only [Option.map_some]
        congr 1
        by_cases hA : Alone S i
        · rw [if_pos hA, if_pos ((houtA i (.inr (by omega))).1 hA)]
        · rw [if_neg hA, if_neg (fun hh => hA ((houtA i (.inr (by omega))).2 hh))]
end Go.Proofs.YtaoegfdaemmogaaGreat.Rw
namespace Go.Proofs.YtaoegfdaemmogaaGreat.Rw
open Go Go.RowKit Go.Proofs.YtaoegfdaemmogaaGreat.Com

theorem own_shape {w : World} {B : Nat} {e : TypeId} {s n : Nat} {v : Value} {xs : List Value} (h : w.ownsRow B e s v n xs) : ∃ ao m c, v = .slice ao m c := by
  rcases h.2 with ⟨rfl, _⟩ | ⟨g, cap, cur, rfl, _⟩
  · exact ⟨_, _, _, rfl⟩
  · exact ⟨_, _, _, rfl⟩
def newq : Cel × Value := (clr zeroAt, .slice none 0 0)
structure NewSt (w wr : World) (k : Nat) (lv : Value) : Prop where
  box : Block wr w.heap.size 78 #[lv]
  own : wr.ownsRow (w.heap.size + 1) 117 6 lv k (fl apiP (List.replicate k newq))
  below : Below w.heap.size w wr
theorem NewSt.start (w : World) : NewSt w (w.alloc (.cells #[.slice none 0 0] 78)) 0 (.slice none 0 0) :=
  ⟨Block.made w _ _, ⟨rfl, .inl ⟨rfl, rfl⟩⟩, below_new _ _⟩
theorem NewSt.shape {w wr : World} {k : Nat} {lv : Value} (h : NewSt w wr k lv) : ∃ ao m c, lv = .slice ao m c := by
  rcases h.own.2 with ⟨rfl, _⟩ | ⟨g, cap, cur, rfl, _⟩
  · exact ⟨_, _, _, rfl⟩
  · exact ⟨_, _, _, rfl⟩
theorem NewSt.next {w wr wa w3 w4 : World} {k : Nat} {lv lv1 : Value} (h : NewSt w wr k lv) (hl : w3.ownsRow (w.heap.size + 1) 117 6 lv1 (k + 1) (fl apiP (List.replicate k newq) ++ apiP newq)) (hb : Below wr.heap.size wr wa) (ho : Only lv.ownBlock.toList wa w3) (h4 : Block w4 w.heap.size 78 #[lv1]) (ho4 : Only [w.heap.size] w3 w4) (hb3 : Block w3 w.heap.size 78 #[lv]) : NewSt w w4 (k + 1) lv1 := by
  have hlt := World.ownsRow.lt h.own
  refine ⟨h4, ?_, ?_⟩
  · have e : fl apiP (List.replicate (k + 1) newq) = fl apiP (List.replicate k newq) ++ apiP newq := by
      rw [List.replicate_succ', fl_app, fl_one]
    rw [e]
    exact ownsRow_fr hl (Fr.of_only ho4 (B := 0) (ts := [78]) (fun x hx _ => by
      simp at hx; subst hx
      exact ⟨Nat.zero_le _, _, List.mem_singleton.2 rfl, Block.typ hb3⟩)) (by decide)
  · have h3 : Below w.heap.size w w3 := (below_next h.below hb).trans (ho.below (Nat.le_trans h.below.size hb.size) (fun x hx => by
      have := (hlt x (by simpa using hx)).1
      omega))
    exact h3.trans (ho4.below h3.size (by simp))
theorem NewSt.done {w wr : World} {n : Nat} {lv : Value} (h : NewSt w wr n lv) (h0 : 0 < n) (h5 : n ≤ 512) : RefIn w.heap.size wr w.heap.size (List.replicate n (clr zeroAt)) := by
  obtain ⟨g, cap, tail, rfl, hg, hb, hc, hm, ht⟩ := own_block' h.own h0
  refine ⟨g, n, cap, List.replicate n newq, ⟨h.box, ⟨?_, ?_⟩, by simp, h0, h5, hc, hm, Nat.le_refl _⟩, by simp [cels, newq]⟩
  · rw [List.length_replicate]
    have hA : Api (w.heap.size + 1) wr (.slice (some ⟨g, 0, none⟩) n cap) (List.replicate n newq) := ⟨by rw [List.length_replicate]; exact h.own, fun p hp => by obtain ⟨_, rfl⟩ := List.mem_replicate.1 hp; exact Own.nil _ _ _ _⟩
    have := (hA.lower (B' := w.heap.size) (by omega)).own
    rwa [List.length_replicate] at this
  · intro p hp
    obtain ⟨_, rfl⟩ := List.mem_replicate.1 hp
    exact Own.nil _ _ _ _

set_option maxRecDepth 100000 in
set_option maxHeartbeats 4000000 in
theorem rnew_any (w : World) (n : Nat) (h1 : 1 ≤ n) (h5 : n ≤ 512) :
    Calls Tryz.prog 83 #[.int .i64 n] w fun e w' => e = .returned (.pointer (some ⟨w.heap.size, 0, none⟩)) ∧ RefIn w.heap.size w' w.heap.size (List.replicate n (clr zeroAt)) ∧ Below w.heap.size w w' := by
  have h0 := Lib.hid (NewSt.start w)
  go_enter Tryz.func83, Tryz.ntmps83
  go_wp2
  go_loopw [4] (fun i wr => ∃ (k : Nat) (lv : Value), k ≤ n ∧ i = .int .i64 k ∧ Hid (NewSt w wr k lv)) (fun i _ => n - (intOf i).toNat)
  case atStart => exact ⟨0, _, Nat.zero_le _, rfl, h0⟩
  case round =>
    obtain ⟨k, lv, hk, rfl, hR⟩ := hrel
    have hR := hR.out
    obtain ⟨ao, m0, c0, rfl⟩ := hR.shape
    have hs := hR.box.cell 0 rfl
    have hdw := hR.box.lt
    by_cases hlt : k < n
    · have hone := Lib.hid (apiC_one (c := clr zeroAt) (v := .slice none 0 0) rfl)
      have hbn := below_new wr (.cells #[.int .i32 32, .slice none 0 0, .int .u8 0, .int .u32 0, .int .u32 0, .int .u16 0] 117)
      have hlt3 := World.ownsRow.lt hR.own
      have hbx := hR.box.alloc (.cells #[.int .i32 32, .slice none 0 0, .int .u8 0, .int .u32 0, .int .u32 0, .int .u16 0] 117)
      have hlw := ownsRow_fr hR.own (Fr.of_below (B := 0) (ts := []) hbn) (by simp)
      replace hbn := Lib.hid hbn
      replace hbx := Lib.hid hbx
      replace hlw := Lib.hid hlw
      go_wp2_with (first
        | (with_reducible show wpList _ _ _ (⟨some 19, .call _, _, _, _, _⟩ :: _) _ _; go_must (refine wpList_appN elemA rfl (.tmp 16) (.tmp 18) rfl (w.heap.size + 1) (.slice ao m0 c0) k (fl apiP (List.replicate k newq)) ⟨wr.heap.size, 0, none⟩ 1 1 (apiC (clr zeroAt) (.slice none 0 0)) rfl rfl hlw.out rfl (lit_at wr _) hone.out (by have := hR.below.size; simp; omega) (by omega) ?_); intro lv1 w3 hl1 ho1 _; have hb3 := hbx.out.only ho1 (fun hm => by have := (hlt3 _ (by simpa using hm)).1; omega); obtain ⟨ao1, m1, c1, rfl⟩ := own_shape hl1)
        | (with_reducible show wpList _ _ _ (⟨none, .store _ (.tmp 21) _, _, _, _, _⟩ :: _) _ _; go_must (refine wpList_store1 rfl _ (.tmp 21) (.tmp 19) rfl hb3 (.slice _ _ _) rfl rfl (by simp) (by exact info44) rfl ?_); intro w4 hb4 ho4; have hN := hR.next hl1 hbn.out ho1 hb4 ho4 hb3))
      clear hs hl1 ho1 hb4 ho4 hb3
      replace hN := Lib.hid hN
      go_roundw
      case rel => exact ⟨k + 1, _, by omega, by go_num, hN⟩
      case measure => simp [intOf]; omega
    · obtain rfl : k = n := by omega
      have hD := Lib.hid (hR.done (by omega) h5)
      have hB := Lib.hid hR.below
      clear hR
      go_wp2
      go_ret
      exact ⟨rfl, hD.out, hB.out⟩
end Go.Proofs.YtaoegfdaemmogaaGreat.Rw
