/-
  row: the reference's row in memory; another one that is built of its cells. row: what is built, as plain lists: the document's own calls and the program's. row: what Insert, Delete and Resize build, as plain lists.
-/
import Derived.Test.YtaoegfdaemmogaaGreatRWmem
import Derived.Test.YtaoegfdaemmogaaGreatRRef
namespace Go.Proofs.YtaoegfdaemmogaaGreat.Rw
open Go Go.RowKit Go.Proofs.YtaoegfdaemmogaaGreat.Com

structure RefX (B : Nat) (w : World) (d gv n cap : Nat) (ps : List (Cel × Value)) : Prop where
  ptr : Block w d 78 #[.slice (some ⟨gv, 0, none⟩) n cap]
  api : Api B w (.slice (some ⟨gv, 0, none⟩) n cap) ps
  len : ps.length = n
  pos : 0 < n
  small : n ≤ 512
  le : n ≤ cap
  cap : cap ≤ maxLen
  lo : B ≤ d
theorem RefX.slice {B : Nat} {w : World} {d gv n cap : Nat} {ps : List (Cel × Value)} (h : RefX B w d gv n cap ps) : w.cell? ⟨d, 0, none⟩ = some (.slice (some ⟨gv, 0, none⟩) n cap) := h.ptr.cell 0 rfl
theorem RefX.fr {B B' : Nat} {ts : List TypeId} {w w' : World} {d gv n cap : Nat} {ps : List (Cel × Value)} (h : RefX B w d gv n cap ps) (hf : Fr B' ts w w') (h0 : 78 ∉ ts) (h1 : 117 ∉ ts) (h2 : 21 ∉ ts) : RefX B w' d gv n cap ps :=
  ⟨Block.fr h.ptr hf (.inl h0), h.api.fr hf h1 h2, h.len, h.pos, h.small, h.le, h.cap, h.lo⟩
theorem RefX.below {B : Nat} {w w' : World} {d gv n cap : Nat} {ps : List (Cel × Value)} (h : RefX B w d gv n cap ps) (hb : Below w.heap.size w w') : RefX B w' d gv n cap ps := h.fr (Fr.of_below (B := 0) (ts := []) hb) (by simp) (by simp) (by simp)
def RefIn (B : Nat) (w : World) (d : Nat) (l : List Cel) : Prop := ∃ gv n cap ps, RefX B w d gv n cap ps ∧ cels ps = l
theorem own_block' {w : World} {B : Nat} {e : TypeId} {s n : Nat} {v : Value} {xs : List Value} (h : w.ownsRow B e s v n xs) (hn : 0 < n) : ∃ g cap tail, v = .slice (some ⟨g, 0, none⟩) n cap ∧ B ≤ g ∧ Block w g e (xs ++ tail).toArray ∧ n ≤ cap ∧ cap ≤ maxLen ∧ (xs ++ tail).length = cap * s := by
  rcases h.2 with ⟨_, h0⟩ | ⟨g, cap, cur, rfl, hg, hh, hc, hm, hs, ht⟩
  · omega
  · refine ⟨g, cap, cur.toList.drop (n * s), rfl, hg, ?_, hc, hm, ?_⟩
    · rw [← ht, List.take_append_drop]
      exact hh
    · rw [← ht, List.take_append_drop]
      simpa using hs

structure Bld (B : Nat) (w wr : World) (d gv n cap : Nat) (ps : List (Cel × Value)) (bx : Nat) (bo : Bool) (a : At) (lv : Value) (qs : List (Cel × Value)) (wv : Value) (ws : List Int) : Prop where
  ref : RefX B wr d gv n cap ps
  box : bo = true → Block wr bx 37 (attV a).toArray
  lown : wr.ownsRow w.heap.size 117 6 lv qs.length (fl apiP qs)
  lcomb : ∀ q ∈ qs, Own wr B 21 .i32 q.2 q.1.m
  wown : Own wr w.heap.size 3 .i64 wv ws
  below : Below w.heap.size w wr
  dlt : d < w.heap.size
  glt : gv < w.heap.size
section
variable {B : Nat} {w wr wa w1 : World} {d gv n cap : Nat} {ps : List (Cel × Value)} {bx : Nat} {bo : Bool} {a : At} {lv : Value} {qs : List (Cel × Value)} {wv : Value} {ws : List Int}
theorem Bld.lo (h : Bld B w wr d gv n cap ps bx bo a lv qs wv ws) : B ≤ w.heap.size := Nat.le_of_lt (Nat.lt_of_le_of_lt h.ref.lo h.dlt)
theorem Bld.frame (h : Bld B w wr d gv n cap ps bx bo a lv qs wv ws) {B' : Nat} {ts : List TypeId} (hf : Fr B' ts wr w1) (h0 : 78 ∉ ts) (h1 : 117 ∉ ts) (h2 : 21 ∉ ts) (h3 : 37 ∉ ts) (h4 : 3 ∉ ts) (hB : w.heap.size ≤ B') (hB2 : B' ≤ wr.heap.size) :
    Bld B w w1 d gv n cap ps bx bo a lv qs wv ws :=
  ⟨h.ref.fr hf h0 h1 h2, fun hb => Block.fr (h.box hb) hf (.inl h3), ownsRow_fr h.lown hf h1, fun q hq => Own.fr (h.lcomb q hq) hf h2, Own.fr h.wown hf h4, h.below.trans ((hf.below hB2).mono hB), h.dlt, h.glt⟩
theorem Bld.next (h : Bld B w wr d gv n cap ps bx bo a lv qs wv ws) (hb : Below wr.heap.size wr w1) : Bld B w w1 d gv n cap ps bx bo a lv qs wv ws :=
  h.frame (Fr.of_below (B := wr.heap.size) (ts := []) hb) (by simp) (by simp) (by simp) (by simp) (by simp) h.below.size (Nat.le_refl _)
theorem Bld.push (h : Bld B w wa d gv n cap ps bx bo a lv qs wv ws) (q : Cel × Value) (hq : Own wa B 21 .i32 q.2 q.1.m) {lv' : Value} (hl : w1.ownsRow w.heap.size 117 6 lv' (qs.length + 1) (fl apiP qs ++ apiP q)) (ho : Only lv.ownBlock.toList wa w1) :
    Bld B w w1 d gv n cap ps bx bo a lv' (qs ++ [q]) wv ws := by
  have hlt := World.ownsRow.lt h.lown
  have htyp : ∀ g, lv.ownBlock = some g → Typ wa g 117 := fun g hg => by
    rcases h.lown.2 with ⟨rfl, _⟩ | ⟨x, cp, cur, rfl, _, hh, _⟩
    · cases hg
    · obtain rfl : x = g := by simpa [Value.ownBlock] using hg
      exact ⟨cur, _, hh⟩
  have hf : Fr w.heap.size [117] wa w1 := Fr.of_only ho (fun k hk _ => by
    have hk' : lv.ownBlock = some k := by simpa using hk
    exact ⟨(hlt k hk').1, _, List.mem_singleton.2 rfl, htyp k hk'⟩)
  have hsrc : RefX B w1 d gv n cap ps := by
    refine ⟨Block.fr h.ref.ptr hf (.inl (by decide)), ⟨⟨h.ref.api.own.1, ?_⟩, fun p hp => Own.fr (h.ref.api.comb p hp) hf (by decide)⟩, h.ref.len, h.ref.pos, h.ref.small, h.ref.le, h.ref.cap, h.ref.lo⟩
    rcases h.ref.api.own.2 with ⟨e, _⟩ | ⟨g, cp, cur, e, hg, hh, r⟩
    · cases e
    · refine .inr ⟨g, cp, cur, e, hg, ?_, r⟩
      simp only [Value.slice.injEq, Option.some.injEq, Addr.mk.injEq, and_true] at e
      obtain ⟨rfl, _⟩ := e
      exact (hf.block _ (lt_of_block hh) (.inl h.glt)).trans hh
  refine ⟨hsrc, fun hb => Block.fr (h.box hb) hf (.inl (by decide)), ?_, ?_, Own.fr h.wown hf (by decide), h.below.trans (hf.below h.below.size), h.dlt, h.glt⟩
  · rw [List.length_append, fl_app, fl_one]
    exact hl
  · intro q' hq'
    rcases List.mem_append.1 hq' with hq' | hq'
    · exact Own.fr (h.lcomb q' hq') hf (by decide)
    · simp at hq'
      subst hq'
      exact Own.fr hq hf (by decide)
theorem Bld.pushw (h : Bld B w wa d gv n cap ps bx bo a lv qs wv ws) (x : Int) {wv' : Value} (hl : Own w1 w.heap.size 3 .i64 wv' (ws ++ [x])) (ho : Only wv.ownBlock.toList wa w1) :
    Bld B w w1 d gv n cap ps bx bo a lv qs wv' (ws ++ [x]) := by
  have hlt := h.wown.lt
  have htyp := fun g hg => Own.typ h.wown (g := g) hg
  have hf : Fr w.heap.size [3] wa w1 := Fr.of_only ho (fun k hk _ => by
    have hk' : wv.ownBlock = some k := by simpa using hk
    exact ⟨(hlt k hk').1, _, List.mem_singleton.2 rfl, htyp k hk'⟩)
  exact ⟨h.ref.fr hf (by decide) (by decide) (by decide), fun hb => Block.fr (h.box hb) hf (.inl (by decide)), ownsRow_fr h.lown hf (by decide), fun q hq => Own.fr (h.lcomb q hq) hf (by decide), hl, h.below.trans (hf.below h.below.size), h.dlt, h.glt⟩
theorem Bld.load (h : Bld B w wr d gv n cap ps bx bo a lv qs wv ws) {i : Nat} (hi : i < ps.length) : (∀ j v, (apiP ps[i])[j]? = some v → wr.cell? ((⟨gv, i * 6, none⟩ : Addr).add j) = some v) ∧ Own wr B 21 .i32 ps[i].2 ps[i].1.m :=
  ⟨h.ref.api.load hi, h.ref.api.comb _ (List.getElem_mem hi)⟩
theorem Bld.shape (h : Bld B w wr d gv n cap ps bx bo a lv qs wv ws) : (∃ ao m c, lv = .slice ao m c) ∧ ∃ ao m c, wv = .slice ao m c := by
  refine ⟨?_, own_slice h.wown⟩
  rcases h.lown.2 with ⟨rfl, _⟩ | ⟨x, cp, cur, rfl, _⟩
  · exact ⟨_, _, _, rfl⟩
  · exact ⟨_, _, _, rfl⟩
theorem Bld.att (h : Bld B w wr d gv n cap ps bx true a lv qs wv ws) : wr.cell? ⟨bx, 0, none⟩ = some (.int .u32 a.f) ∧ wr.cell? ⟨bx, 1, none⟩ = some (.int .u32 a.b) ∧ wr.cell? ⟨bx, 2, none⟩ = some (.int .u16 a.g) := ⟨(h.box rfl).cell 0 rfl, (h.box rfl).cell 1 rfl, (h.box rfl).cell 2 rfl⟩
/-- What has been built is taken for the row, and looked through. -/
theorem Bld.done (h : Bld B w wr d gv n cap ps bx bo a lv qs wv ws) (f : Nat → Int) (hw : ws = (List.range qs.length).map f) (h0 : 0 < qs.length) (h5 : qs.length ≤ 512) (hs : Block w1 d 78 #[lv]) (ho : Only [d] wr w1) :
    ∃ gl gw cl cw tail, lv = .slice (some ⟨gl, 0, none⟩) qs.length cl ∧ wv = .slice (some ⟨gw, 0, none⟩) qs.length cw ∧ WSt B w.heap.size w1 w1 d gl gw qs.length cl cw tail qs f 0 ∧ qs.length ≤ cl ∧ cl ≤ maxLen ∧ qs.length ≤ cw ∧ cw ≤ maxLen ∧ w.heap.size ≤ gl ∧ w.heap.size ≤ gw ∧ (fl apiP qs ++ tail).length = cl * 6 := by
  obtain ⟨gl, cl, tail, rfl, hgl, hbl, h1, h2, h3⟩ := own_block' h.lown h0
  have hwl : ws.length = qs.length := by rw [hw]; simp
  obtain ⟨gw, cw, hwv, hgw, _, _⟩ := own_form h.wown (by omega)
  obtain ⟨_, cw', e', hc1, hc2, _⟩ := h.wown.shape
  subst hwv
  simp only [Value.slice.injEq] at e'
  obtain ⟨_, _, rfl⟩ := e'
  have hdt := Block.typ h.ref.ptr
  have hd1 : gl ≠ d := by have := h.dlt; omega
  have hf : Fr 0 [78] wr w1 := Fr.of_only ho (fun k hk _ => ⟨Nat.zero_le _, _, List.mem_singleton.2 rfl, by simp at hk; subst hk; exact hdt⟩)
  refine ⟨gl, gw, cl, cw, tail, rfl, by rw [hwl], ⟨hs, ?_, ?_, ?_, Only.refl _ _⟩, h1, h2, by omega, hc2, hgl, hgw, h3⟩
  · rw [psTo_0]
    exact hbl.only ho (by simpa using hd1)
  · rw [psTo_0]
    exact fun p hp => Own.fr (h.lcomb p hp) hf (by decide)
  · rw [wsTo_0, ← hw, ← hwl]
    exact Own.fr h.wown hf (by decide)
/-- The row behind it. -/
theorem WSt.ref {B2 gw cw : Nat} {tail : List Value} {f : Nat → Int} {k : Nat} (h : WSt B B2 w wr d gv gw n cap cw tail ps f k) (hl : ps.length = n) (h0 : 0 < n) (h5 : n ≤ 512) (hc : n ≤ cap) (hcm : cap ≤ maxLen) (hgv : B ≤ gv) (hd : B ≤ d) (ht : (fl apiP ps ++ tail).length = cap * 6) : RefX B wr d gv n cap (psTo ps f k) := by
  have hlen : (psTo ps f k).length = n := by rw [psTo_length, hl]
  refine ⟨h.ptr, ⟨⟨fl_length apiP_length _, .inr ⟨gv, cap, _, by rw [hlen], hgv, h.row, by omega, hcm, ?_, ?_⟩⟩, h.comb⟩, hlen, h0, h5, hc, hcm, hd⟩
  · rw [List.size_toArray, List.length_append, fl_length apiP_length, psTo_length, ← ht, List.length_append, fl_length apiP_length]
  · have e : (psTo ps f k).length * 6 = (fl apiP (psTo ps f k)).length := (fl_length apiP_length _).symm
    rw [e]
    simp
end
theorem elemW : Elem Tryz.prog 47 3 .i64 8 := by
  have h : (Tryz.prog.info? 3).map (fun i => (i.zero, i.size, i.bytes)) = some (some (.int .i64 0), 1, 8) := by kernel_rfl
  obtain ⟨i, h0, h1, h2, h3⟩ := info_parts h
  exact ⟨Tryz.underlying47, i, h0, h1, h2, h3⟩
end Go.Proofs.YtaoegfdaemmogaaGreat.Rw
namespace Go.Proofs.YtaoegfdaemmogaaGreat.Rw
open Go Go.RowKit Go.Proofs.YtaoegfdaemmogaaGreat.Com

theorem info44 : (Tryz.prog.info? 75).map (·.size) = some 1 := by kernel_rfl
theorem lit_at (w : World) (V : List Value) : ∀ j u, V[j]? = some u → (w.alloc (.cells V.toArray 117)).cell? ((⟨w.heap.size, 0, none⟩ : Addr).add j) = some u := fun j u hj => by
  rw [Addr.add_lit, Nat.zero_add]
  exact (Block.made w 117 V.toArray).cell j (by simpa using hj)
def RefDone (B : Nat) (w : World) (d : Nat) (l : List Cel) (e : Ending) (w' : World) : Prop := (∃ v, e = .returned v) ∧ RefIn B w' d l ∧ Only [d] w w'
theorem bld_start {B : Nat} {w w1 : World} {d gv n cap : Nat} {ps : List (Cel × Value)} {a : At} (h : RefX B w d gv n cap ps) (hb : Block w1 w.heap.size 37 (attV a).toArray) (hbel : Below w.heap.size w w1 := by exact below_new _ _) : Bld B w w1 d gv n cap ps w.heap.size true a (.slice none 0 0) [] (.slice none 0 0) [] :=
  ⟨h.below hbel, fun _ => hb, World.ownsRow_nil _ _ _ _, by simp, Own.nil _ _ _ _, hbel, h.ptr.lt, (h.api.lt gv rfl).2⟩

theorem ref_done {B B2 : Nat} {w wr w2 w3 : World} {d gv n cap : Nat} {ps : List (Cel × Value)} {bx : Nat} {bo : Bool} {a : At} {m gl cl gw cw : Nat} {qs : List (Cel × Value)} {ws : List Int} {tail : List Value} {f : Nat → Int} {l : List Cel} {v : Value} {lv wv : Value}
    (hB : Bld B w wr d gv n cap ps bx bo a lv qs wv ws) (ho : Only [d] wr w2) (hW : WSt B B2 w2 w3 d gl gw m cl cw tail qs f m)
    (hqk : qs.length = m) (h0 : 0 < m) (h5 : m ≤ 512) (h1 : m ≤ cl) (h2 : cl ≤ maxLen) (hgl : w.heap.size ≤ gl) (hgw : w.heap.size ≤ gw) (h7 : (fl apiP qs ++ tail).length = cl * 6) (hX : wholeTo (cels qs) f m = l) : RefDone B w d l (.returned v) w3 := by
  have hlo := hB.lo
  have hbel := hB.below
  refine ⟨⟨v, rfl⟩, ⟨gl, m, cl, psTo qs f m, hW.ref hqk h0 h5 h1 h2 (by omega) hB.ref.lo h7, by rw [psTo_cels, hX]⟩, ?_⟩
  exact ((Only.of_below hbel [d]).trans ho).then hW.only (fun k hk => .inr (by simp at hk; omega))

def qSet (ps : List (Cel × Value)) (lo hi : Nat) (a : At) (i : Nat) : Cel × Value := if lo ≤ i ∧ i < hi then (clr a, .slice none 0 0) else ps.getD i zp
theorem cels_range (n : Nat) (qF : Nat → Cel × Value) : cels ((List.range n).map qF) = (List.range n).map (fun i => (qF i).1) := by simp [cels]
theorem W_range (n : Nat) (g : Nat → Cel) (i : Nat) : W ((List.range n).map g) i = if i < n then (g i).wide else 0 := by
  unfold W
  by_cases h : i < n
  · rw [if_pos h]; simp [h]
  · rw [if_neg h]; simp [h]
theorem W_cels (ps : List (Cel × Value)) (i : Nat) : W (cels ps) i = (ps.getD i zp).1.wide := by
  unfold W
  by_cases h : i < ps.length
  · simp [cels, h]
  · simp [cels, h, zp, zeroCel]
theorem cels_length (ps : List (Cel × Value)) : (cels ps).length = ps.length := by simp [cels]
def gSet (lo hi : Nat) (i : Nat) : Int := if 1000 < i then -1 else if lo ≤ i ∧ i < hi then -1 else i
theorem W_qSet {ps : List (Cel × Value)} {lo hi : Nat} {a : At} (i : Nat) : W (cels ((List.range ps.length).map (qSet ps lo hi a))) i = if i < ps.length then (if lo ≤ i ∧ i < hi then 0 else W (cels ps) i) else 0 := by
  rw [cels_range, W_range]
  by_cases h : i < ps.length
  · rw [if_pos h, if_pos h, W_cels]
    unfold qSet
    split <;> rfl
  · rw [if_neg h, if_neg h]
theorem cels_at (n : Nat) (qF : Nat → Cel × Value) (i : Nat) : (cels ((List.range n).map qF))[i]? = if i < n then some (qF i).1 else none := by
  rw [cels_range, List.getElem?_map]
  by_cases h : i < n
  · rw [if_pos h, List.getElem?_range h]; rfl
  · rw [if_neg h, List.getElem?_eq_none (by simpa using h)]; rfl
theorem cels_get (ps : List (Cel × Value)) (i : Nat) (h : i < ps.length) : (cels ps)[i]? = some (ps.getD i zp).1 := by
  simp [cels, h]
theorem cels_out (ps : List (Cel × Value)) (i : Nat) (h : ps.length ≤ i) : (cels ps)[i]? = none := List.getElem?_eq_none (by rw [cels_length]; exact h)
theorem cels_set {ps : List (Cel × Value)} {lo hi : Nat} {a : At} (h2 : hi ≤ ps.length) (h : lo < hi) : cels ((List.range ps.length).map (qSet ps lo hi a)) = splice (cels ps) lo (List.replicate (hi - lo) (clr a)) := by
  apply List.ext_getElem?
  intro i
  rw [cels_at]
  unfold splice
  have hl1 : ((cels ps).take lo).length = lo := by rw [List.length_take, cels_length]; omega
  by_cases c1 : i < lo
  · rw [if_pos (by omega), List.getElem?_append_left (by omega), List.getElem?_take, if_pos c1, cels_get _ _ (by omega)]
    unfold qSet
    rw [if_neg (by omega)]
  · rw [List.getElem?_append_right (by omega), hl1]
    by_cases c2 : i < hi
    · rw [if_pos (by omega), List.getElem?_append_left (by simp; omega), List.getElem?_replicate, if_pos (by omega)]
      unfold qSet
      rw [if_pos ⟨by omega, c2⟩]
    · rw [List.getElem?_append_right (by simp; omega), List.getElem?_drop, List.length_replicate, show lo + (hi - lo) + (i - lo - (hi - lo)) = i by omega]
      by_cases c3 : i < ps.length
      · rw [if_pos c3, cels_get _ _ c3]
        unfold qSet
        rw [if_neg (by omega)]
      · rw [if_neg c3, cels_out _ _ (by omega)]
theorem cels_same {ps : List (Cel × Value)} {lo hi : Nat} {a : At} (h : ¬ lo < hi) : cels ((List.range ps.length).map (qSet ps lo hi a)) = cels ps := by
  apply List.ext_getElem?
  intro i
  rw [cels_at]
  by_cases c3 : i < ps.length
  · rw [if_pos c3, cels_get _ _ c3]
    unfold qSet
    rw [if_neg (by omega)]
  · rw [if_neg c3, cels_out _ _ (by omega)]
theorem ref_erase {ps : List (Cel × Value)} (hw : Whole (cels ps)) (lo hi : Nat) (a : At) (h2 : hi ≤ ps.length) (h5 : ps.length ≤ 512) :
    Ready (cels ((List.range ps.length).map (qSet ps lo hi a))) (gSet lo hi) ∧ wholeTo (cels ((List.range ps.length).map (qSet ps lo hi a))) (gSet lo hi) ps.length = eraseL (cels ps) lo hi a := by
  have hP : Prov (cels ps) (cels ((List.range ps.length).map (qSet ps lo hi a))) (gSet lo hi) := by
    refine ⟨fun k hk => ?_, fun k => ?_, fun k => ?_⟩
    · have hk' : k < ps.length := by simpa [cels] using hk
      rw [W_qSet, if_pos hk']
      unfold gSet
      rw [if_neg (by omega)]
      by_cases c : lo ≤ k ∧ k < hi
      · rw [if_pos c, if_pos c]; exact .inl ⟨rfl, rfl⟩
      · rw [if_neg c, if_neg c]; exact .inr ⟨k, rfl, by rw [cels_length]; exact hk', rfl⟩
    · unfold gSet; split <;> (try split) <;> omega
    · unfold gSet; split <;> (try split) <;> omega
  refine ⟨hP.ready hw, ?_⟩
  have hX : (cels ((List.range ps.length).map (qSet ps lo hi a))).length = ps.length := by simp [cels]
  have := hP.whole hw (fun k h1 h3 => by
    have k1 : k + 1 < ps.length := by
      have := lt_of_W (l := cels ((List.range ps.length).map (qSet ps lo hi a))) (k := k + 1) (by omega)
      rwa [hX] at this
    rw [W_qSet, if_pos (by omega)] at h1 h3
    have c1 : ¬ (lo ≤ k ∧ k < hi) := fun c => by rw [if_pos c] at h1; omega
    have c2 : ¬ (lo ≤ k + 1 ∧ k + 1 < hi) := fun c => by rw [if_pos c] at h3; omega
    unfold gSet
    rw [if_neg (by omega), if_neg c2, if_neg (by omega), if_neg c1]
    omega)
  rw [hX] at this
  rw [this]
  unfold eraseL
  by_cases h : lo < hi
  · rw [if_pos h, cels_set h2 h]; rfl
  · rw [if_neg h, cels_same h, mendAll_whole hw]
theorem getD_zp {ps : List (Cel × Value)} {k : Nat} (h : k < ps.length) : ps.getD k zp = ps[k] := by rw [List.getD_eq_getElem?_getD, List.getElem?_eq_getElem h]; rfl
end Go.Proofs.YtaoegfdaemmogaaGreat.Rw
namespace Go.Proofs.YtaoegfdaemmogaaGreat.Rw
open Go Go.RowKit Go.Proofs.YtaoegfdaemmogaaGreat.Com

def qIns (ps : List (Cel × Value)) (col k : Nat) (a : At) (i : Nat) : Cel × Value := if i < col then ps.getD i zp else if i < col + k then (clr a, .slice none 0 0) else ps.getD (i - k) zp
def gIns (col k : Nat) (i : Nat) : Int := if 1000 < i then -1 else if i < col then i else if i < col + k then -1 else (i : Int) - k
def qDel (ps : List (Cel × Value)) (n col k : Nat) (a : At) (i : Nat) : Cel × Value := if i < col then ps.getD i zp else if i + k < n then ps.getD (i + k) zp else (clr a, .slice none 0 0)
def gDel (n col k : Nat) (i : Nat) : Int := if 1000 < i then -1 else if i < col then i else if i + k < n then (i : Int) + k else -1
def qRes (ps : List (Cel × Value)) (n : Nat) (i : Nat) : Cel × Value := if i < n then ps.getD i zp else (clr zeroAt, .slice none 0 0)
def gRes (n : Nat) (i : Nat) : Int := if 1000 < i then -1 else if i < n then i else -1

theorem cels_ins {ps : List (Cel × Value)} {col k : Nat} {a : At} (h : col + k ≤ ps.length) : cels ((List.range ps.length).map (qIns ps col k a)) = insX (cels ps) col k a := by
  apply List.ext_getElem?
  intro i
  rw [cels_at]
  unfold insX
  have hl1 : ((cels ps).take col).length = col := by rw [List.length_take, cels_length]; omega
  by_cases c1 : i < col
  · rw [if_pos (by omega), List.getElem?_append_left (by omega), List.getElem?_take, if_pos c1, cels_get _ _ (by omega)]
    unfold qIns
    rw [if_pos c1]
  · rw [List.getElem?_append_right (by omega), hl1]
    by_cases c2 : i < col + k
    · rw [if_pos (by omega), List.getElem?_append_left (by simp; omega), List.getElem?_replicate, if_pos (by omega)]
      unfold qIns
      rw [if_neg c1, if_pos c2]
    · rw [List.getElem?_append_right (by simp; omega), List.length_replicate, List.getElem?_take, cels_length, List.getElem?_drop]
      by_cases c3 : i < ps.length
      · rw [if_pos c3, if_pos (by omega), show col + (i - col - k) = i - k by omega, cels_get _ _ (by omega)]
        unfold qIns
        rw [if_neg c1, if_neg c2]
      · rw [if_neg c3, if_neg (by omega)]
theorem ref_insert {ps : List (Cel × Value)} (hw : Whole (cels ps)) (col k : Nat) (a : At) (h : col + k ≤ ps.length) (h5 : ps.length ≤ 512) :
    Ready (cels ((List.range ps.length).map (qIns ps col k a))) (gIns col k) ∧ wholeTo (cels ((List.range ps.length).map (qIns ps col k a))) (gIns col k) ps.length = insL (cels ps) col k a := by
  rw [cels_ins h]
  have hlen : (insX (cels ps) col k a).length = ps.length := by rw [insX_length a (by rw [cels_length]; exact h), cels_length]
  have hWi := W_insX (l := cels ps) (col := col) (n := k) a (by rw [cels_length]; exact h)
  rw [cels_length] at hWi
  have hP : Prov (cels ps) (insX (cels ps) col k a) (gIns col k) := by
    refine ⟨fun i hi => ?_, fun i => ?_, fun i => ?_⟩
    · rw [hlen] at hi
      rw [hWi]
      unfold gIns
      rw [if_neg (by omega)]
      by_cases c1 : i < col
      · rw [if_pos c1, if_pos c1]; exact .inr ⟨i, rfl, by rw [cels_length]; exact hi, rfl⟩
      · rw [if_neg c1, if_neg c1]
        by_cases c2 : i < col + k
        · rw [if_pos c2, if_pos c2]; exact .inl ⟨rfl, rfl⟩
        · rw [if_neg c2, if_neg c2, if_pos hi]; exact .inr ⟨i - k, by omega, by rw [cels_length]; omega, rfl⟩
    · unfold gIns; split <;> (try split) <;> (try split) <;> omega
    · unfold gIns; split <;> (try split) <;> (try split) <;> omega
  refine ⟨hP.ready hw, ?_⟩
  have := hP.whole hw (fun i h1 h3 => by
    have k1 : i + 1 < ps.length := by
      have := lt_of_W (l := insX (cels ps) col k a) (k := i + 1) (by omega)
      rwa [hlen] at this
    rw [hWi] at h1 h3
    unfold gIns
    rw [if_neg (show ¬ 1000 < i + 1 by omega), if_neg (show ¬ 1000 < i by omega)]
    by_cases c1 : i + 1 < col
    · rw [if_pos c1, if_pos (show i < col by omega)]; omega
    · rw [if_neg c1] at h3 ⊢
      by_cases c2 : i + 1 < col + k
      · rw [if_pos c2] at h3; omega
      · rw [if_neg c2] at h3 ⊢
        by_cases c3 : i < col
        · rw [if_pos c3]; omega
        · rw [if_neg c3] at h1 ⊢
          by_cases c4 : i < col + k
          · rw [if_pos c4] at h1; omega
          · rw [if_neg c4]; omega)
  rw [hlen] at this
  exact this

theorem cels_res {ps : List (Cel × Value)} {cols : Nat} : cels ((List.range cols).map (qRes ps ps.length)) = resX (cels ps) cols := by
  apply List.ext_getElem?
  intro i
  rw [cels_at]
  unfold resX
  by_cases c1 : i < cols
  · rw [if_pos c1]
    by_cases c2 : i < ps.length
    · rw [List.getElem?_append_left (by simp [cels_length]; omega), List.getElem?_take, if_pos c1, cels_get _ _ c2]
      unfold qRes
      rw [if_pos c2]
    · rw [List.getElem?_append_right (by simp [cels_length]; omega), List.getElem?_replicate, if_pos (by simp [cels_length]; omega)]
      unfold qRes
      rw [if_neg c2]
  · rw [if_neg c1, List.getElem?_eq_none (by have := resX_length (cels ps) cols; unfold resX at this; omega)]
theorem ref_resize {ps : List (Cel × Value)} (hw : Whole (cels ps)) (cols : Nat) (h5 : ps.length ≤ 512) (hc : cols ≤ 512) :
    Ready (cels ((List.range cols).map (qRes ps ps.length))) (gRes ps.length) ∧ wholeTo (cels ((List.range cols).map (qRes ps ps.length))) (gRes ps.length) cols = resL (cels ps) cols := by
  rw [cels_res]
  have hlen := resX_length (cels ps) cols
  have hWi := W_resX (cels ps) cols
  have hP : Prov (cels ps) (resX (cels ps) cols) (gRes ps.length) := by
    refine ⟨fun i hi => ?_, fun i => ?_, fun i => ?_⟩
    · rw [hlen] at hi
      rw [hWi, if_pos hi]
      unfold gRes
      rw [if_neg (by omega)]
      by_cases c1 : i < ps.length
      · rw [if_pos c1]; exact .inr ⟨i, rfl, by rw [cels_length]; exact c1, rfl⟩
      · rw [if_neg c1]; exact .inl ⟨rfl, W_out (by rw [cels_length]; omega)⟩
    · unfold gRes; split <;> (try split) <;> omega
    · unfold gRes; split <;> (try split) <;> omega
  refine ⟨hP.ready hw, ?_⟩
  have := hP.whole hw (fun i h1 h3 => by
    have k1 : i + 1 < cols := by
      have := lt_of_W (l := resX (cels ps) cols) (k := i + 1) (by omega)
      rwa [hlen] at this
    rw [hWi, if_pos (by omega)] at h1 h3
    have k2 := lt_of_W (l := cels ps) (k := i + 1) (by omega)
    rw [cels_length] at k2
    unfold gRes
    rw [if_neg (show ¬ 1000 < i + 1 by omega), if_neg (show ¬ 1000 < i by omega), if_pos k2, if_pos (show i < ps.length by omega)]
    omega)
  rw [hlen] at this
  exact this

theorem cels_del {ps : List (Cel × Value)} {col k : Nat} {a : At} (h : col + k ≤ ps.length) : cels ((List.range ps.length).map (qDel ps ps.length col k a)) = (cels ps).take col ++ ((cels ps).drop (col + k) ++ List.replicate k (clr a)) := by
  apply List.ext_getElem?
  intro i
  rw [cels_at]
  have hl1 : ((cels ps).take col).length = col := by rw [List.length_take, cels_length]; omega
  have hl2 : ((cels ps).drop (col + k)).length = ps.length - (col + k) := by rw [List.length_drop, cels_length]
  by_cases c1 : i < col
  · rw [if_pos (by omega), List.getElem?_append_left (by omega), List.getElem?_take, if_pos c1, cels_get _ _ (by omega)]
    unfold qDel
    rw [if_pos c1]
  · rw [List.getElem?_append_right (by omega), hl1]
    by_cases c2 : i + k < ps.length
    · rw [if_pos (by omega), List.getElem?_append_left (by omega), List.getElem?_drop, show col + k + (i - col) = i + k by omega, cels_get _ _ c2]
      unfold qDel
      rw [if_neg c1, if_pos c2]
    · rw [List.getElem?_append_right (by omega), hl2, List.getElem?_replicate]
      by_cases c3 : i < ps.length
      · rw [if_pos c3, if_pos (by omega)]
        unfold qDel
        rw [if_neg c1, if_neg c2]
      · rw [if_neg c3, if_neg (by omega)]
end Go.Proofs.YtaoegfdaemmogaaGreat.Rw
