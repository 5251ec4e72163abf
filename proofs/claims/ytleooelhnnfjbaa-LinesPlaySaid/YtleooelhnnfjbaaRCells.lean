/-
  row: Cells, Cell.
-/
import Derived.Test.YtleooelhnnfjbaaRTold
namespace Go.Proofs.Ytleooelhnnfjbaa.Rw
open Go Go.RowKit Go.Proofs.Ytleooelhnnfjbaa.Com

def zp : Cel × Value := (zeroCel, .slice none 0 0)
theorem info48z : (Try.prog.info? 87).map (fun i => (i.zero, i.size, decide (i.bytes ≤ 100))) = some (some (.agg (apiP zp).toArray), 6, true) := by kernel_rfl
theorem make_api (n : Nat) (hn : n ≤ 512) (w : World) : (Instr.makeSlice 51 (.int .i64 (n : Int)) (.int .i64 (n : Int))).run Try.prog w = .ok (.slice (some ⟨w.heap.size, 0, none⟩) n n) (w.alloc (.cells (fl apiP (List.replicate n zp)).toArray 87)) := by
  have h := info48z
  cases hq : Try.prog.info? 87 with
  | none => simp [hq] at h
  | some i =>
    simp only [hq, Option.map_some, Option.some.injEq, Prod.mk.injEq, decide_eq_true_eq] at h
    obtain ⟨hz, hs, hb⟩ := h
    have hm : i.bytes * n ≤ 100 * 512 := Nat.mul_le_mul hb hn
    have := run_make_rowN 51 87 i _ Try.underlying51 hq hz .i64 .i64 n n (Nat.le_refl _) (by omega) (by omega) w
    rw [this, hs]
    have e : (Value.agg (apiP zp).toArray).cells = (apiP zp).toArray := rfl
    rw [e, made_fl apiP 6 apiP_length (by omega)]
/-- The cells of the place i, as a load meets them. -/
theorem RowX.load {w : World} {d g n cap : Nat} {tail : List Value} {l : List Cel} (h : RowX w d g n cap tail l) {i : Nat} (hi : i < l.length) : ∀ j v, (cellC l[i])[j]? = some v → w.cell? ((⟨g, i * 10, none⟩ : Addr).add j) = some v := by
  intro j v hj
  have hlt := (List.getElem?_eq_some_iff.1 hj).1
  rw [cellC_length] at hlt
  rw [Addr.add_lit]
  exact h.at' hi hlt hj
structure CellsSt (w wr : World) (d g n cap : Nat) (tail : List Value) (l : List Cel) (g2 k : Nat) (ps : List (Cel × Value)) : Prop where
  row : RowX wr d g n cap tail l
  got : Block wr g2 87 (fl apiP (ps ++ List.replicate (n - k) zp)).toArray
  comb : ∀ p ∈ ps, Own wr w.heap.size 21 .i32 p.2 p.1.m
  map : ps.map (·.1) = l.take k
  below : Below w.heap.size w wr
theorem CellsSt.next {w wr w5 w6 : World} {d g n cap : Nat} {tail : List Value} {l : List Cel} {g2 k : Nat} {ps : List (Cel × Value)} (h : CellsSt w wr d g n cap tail l g2 k ps) (hk : k < n) (hkl : k < l.length) (hg2 : w.heap.size ≤ g2) (v : Value) (hb : Below wr.heap.size wr w5) (ho : Own w5 wr.heap.size 21 .i32 v l[k].m)
    (h6 : Block w6 g2 87 (splice (fl apiP (ps ++ List.replicate (n - k) zp)) (k * 6) (apiC l[k] v)).toArray) (ho6 : Only [g2] w5 w6) : CellsSt w w6 d g n cap tail l g2 (k + 1) (ps ++ [(l[k], v)]) := by
  have hlp : ps.length = k := by
    have := congrArg List.length h.map
    simp at this
    omega
  have hfs := fl_splice apiP_length (ps ++ List.replicate (n - k) zp) [(l[k], v)] [] k (by simp; omega)
  rw [splice_set _ _ _ (by simp; omega), List.append_nil, List.append_nil, fl_one] at hfs
  have hset : (ps ++ List.replicate (n - k) zp).set k (l[k], v) = (ps ++ [(l[k], v)]) ++ List.replicate (n - (k + 1)) zp := by
    rw [List.set_append_right _ _ (by omega), hlp, Nat.sub_self, show n - k = (n - (k + 1)) + 1 by omega, List.replicate_succ, List.set_cons_zero, List.append_assoc]
    rfl
  rw [hset] at hfs
  have hg2w : Typ w5 g2 87 := Block.typ (h.got.only (Only.of_below hb []) (by simp))
  have hfr : Fr 0 [87] w5 w6 := Fr.of_only ho6 (fun k hk _ => ⟨Nat.zero_le _, _, List.mem_singleton.2 rfl, by simp at hk; subst hk; exact hg2w⟩)
  have hne1 : d ≠ g2 := Block.apart h.row.ptr h.got (by decide)
  have hne2 : g ≠ g2 := Block.apart h.row.row h.got (by decide)
  refine ⟨(h.row.below hb).kept ho6 (by simpa using hne1) (by simpa using hne2), ?_, ?_, ?_, ?_⟩
  · rw [← hfs]; exact h6
  · intro p hp
    rcases List.mem_append.1 hp with hp | hp
    · exact Own.fr (Own.fr (h.comb p hp) (Fr.of_below (B := 0) (ts := []) hb) (by simp)) hfr (by decide)
    · simp at hp
      subst hp
      exact Own.fr (Own.lower ho h.below.size) hfr (by decide)
  · rw [List.map_append, h.map, List.take_add_one, List.getElem?_eq_getElem hkl]
    rfl
  · exact (below_next h.below hb).trans (ho6.below (by have := h.below.size; have := hb.size; omega) (by simpa using hg2))
/-- What Cells leaves. -/
def GotCells (w : World) (n : Nat) (l : List Cel) (e : Ending) (w' : World) : Prop := ∃ g2 ps, e = .returned (.slice (some ⟨g2, 0, none⟩) n n) ∧ Api w.heap.size w' (.slice (some ⟨g2, 0, none⟩) n n) ps ∧ ps.map (·.1) = l ∧ Below w.heap.size w w' ∧ w.heap.size ≤ g2

theorem cells_nil (w : World) : Calls Try.prog 14 #[.pointer none] w fun e w' => e = .returned (.slice none 0 0) ∧ w = w' := by
  go_enter Try.func14, Try.ntmps14
  go_wp2_with ((go_at_call 34; (with_reducible refine (len_nil _).mono ?_); rintro e w' ⟨rfl, rfl⟩))
  go_ret
  exact ⟨rfl, rfl⟩
theorem cells_zero {w : World} {d : Nat} (h : w.cell? ⟨d, 0, none⟩ = some (.slice none 0 0)) : Calls Try.prog 14 #[.pointer (some ⟨d, 0, none⟩)] w fun e w' => e = .returned (.slice none 0 0) ∧ w = w' := by
  have hl := Lib.hid (len_zero h)
  go_enter Try.func14, Try.ntmps14
  go_wp2_with ((go_at_call 34; (with_reducible refine (hl.out).mono ?_); rintro e w' ⟨rfl, rfl⟩))
  go_ret
  exact ⟨rfl, rfl⟩

set_option maxRecDepth 100000 in
set_option maxHeartbeats 4000000 in
theorem cells_any {w : World} {d g n cap : Nat} {tail : List Value} {l : List Cel} (h : RowX w d g n cap tail l) (h4 : ∀ c ∈ l, c.m.length ≤ 4) :
    Calls Try.prog 14 #[.pointer (some ⟨d, 0, none⟩)] w (GotCells w n l) := by
  have hn := h.pos
  have hn5 := h.small
  have hle := h.le
  have hcm := h.cap
  unfold maxLen at hcm
  have hn0 : ((n : Int) == 0) = false := beq_eq_false_iff_ne.2 (by omega)
  have hlen := Lib.hid (len_any h)
  have hc := h.slice
  have hmk := make_api n hn5 w
  have hb0 := Block.made w 87 (fl apiP (List.replicate n zp)).toArray
  have hS0 : CellsSt w (w.alloc (.cells (fl apiP (List.replicate n zp)).toArray 87)) d g n cap tail l w.heap.size 0 [] :=
    ⟨h.below (below_new _ _), by simpa using hb0, by simp, by simp, below_new _ _⟩
  have hs1 := hS0.row.slice
  have hll := Lib.hid h.len
  replace hS0 := Lib.hid hS0
  clear h hb0
  go_enter Try.func14, Try.ntmps14
  go_wp2_with ((go_at_call 34; (with_reducible refine (hlen.out).mono ?_); rintro e w' ⟨rfl, rfl⟩))
  obtain ⟨g2, hg2⟩ : ∃ g2, g2 = w.heap.size := ⟨_, rfl⟩
  have hge : w.heap.size ≤ g2 := by omega
  rw [← hg2] at hS0 ⊢
  clear hmk hc hg2
  generalize w.alloc (.cells (fl apiP (List.replicate n zp)).toArray 87) = w0 at hS0 hs1 ⊢
  go_loopw [20] (fun i wr => ∃ (k : Nat) (ps : List (Cel × Value)), k ≤ n ∧ i = .int .i64 k ∧ Hid (CellsSt w wr d g n cap tail l g2 k ps)) (fun i _ => n - (intOf i).toNat)
  case atStart => exact ⟨0, [], Nat.zero_le _, rfl, hS0⟩
  case round =>
    obtain ⟨k, ps, hk, rfl, hR⟩ := hrel
    have hR := hR.out
    clear hS0 hs1
    by_cases hlt : k < n
    · have hkl : k < l.length := by rw [hll.out]; exact hlt
      have hld := hR.row.load hkl
      have hto := fun w => told_any l[k] (h4 _ (List.getElem_mem hkl)) w
      have hnx := fun w5 w6 v hb ho h6 ho6 => hR.next (w5 := w5) (w6 := w6) hlt hkl hge v hb ho h6 ho6
      have hgot := fun w5 (hb : Below wr.heap.size wr w5) => hR.got.only (Only.of_below hb []) (by simp)
      have hgl : (fl apiP (ps ++ List.replicate (n - k) zp)).length = n * 6 := by
        have hlp : ps.length = k := by
          have := congrArg List.length hR.map
          simp at this
          omega
        rw [fl_length apiP_length]; simp; omega
      have hC10 := cellC_length l[k]
      have hone := cellC_one l[k]
      have hinf := infoC' l[k]
      have hmkb := Block.made wr 93 (cellC zeroCel).toArray
      have hz : (cellC zeroCel).toArray = #[.int .i32 0, .int .i32 0, .int .i32 0, .int .i32 0, .int .i32 0, .int .u8 0, .int .u8 0, .int .u32 0, .int .u32 0, .int .u16 0] := rfl
      rw [hz] at hmkb
      have hkk : k * 6 + 6 ≤ n * 6 := by omega
      generalize l[k] = c at hld hto hnx hC10 hone hinf
      generalize hC : cellC c = C at hld hto hC10 hone hinf
      generalize fl apiP (ps ++ List.replicate (n - k) zp) = X at hgot hnx hgl
      replace hld := Lib.hid hld
      replace hto := Lib.hid hto
      replace hnx := Lib.hid hnx
      replace hgot := Lib.hid hgot
      replace hgl := Lib.hid hgl
      replace hC10 := Lib.hid hC10
      replace hone := Lib.hid hone
      replace hinf := Lib.hid hinf
      replace hmkb := Lib.hid hmkb
      replace hC := Lib.hid hC
      clear hR hz h4
      go_wp2_with (first
        | (with_reducible show wpList _ _ _ (⟨some 24, .load _ (.tmp 23), _, _, _, _⟩ :: _) _ _; go_must (refine wpList_loadAt rfl 93 (.tmp 23) rfl ⟨g, k * 10, none⟩ rfl C _ hld.out Try.underlying93 rfl hinf.out ?_))
        | (with_reducible show wpList _ _ _ (⟨none, .store _ (.tmp 5) _, _, _, _, _⟩ :: _) _ _; go_must (refine wpList_storeN rfl 93 (.tmp 5) (.tmp 24) rfl (g := wr.heap.size) (i := 0) hmkb.out C rfl rfl (by rw [hC10.out]; decide) (hinf.out) (hone.out) ?_); intro w1 hr1 ho1; have hb1 : Block w1 wr.heap.size 93 C.toArray := by have := hr1.out; rw [show splice _ 0 C = C by unfold splice; rw [hC10.out]; simp] at this; exact this)
        | (with_reducible show wpList _ _ _ (⟨some 27, .load _ (.tmp 5), _, _, _, _⟩ :: _) _ _; go_must (refine wpList_loadAt rfl 93 (.tmp 5) rfl ⟨wr.heap.size, 0, none⟩ rfl C _ (fun j v hj => by rw [Addr.add_lit, Nat.zero_add]; exact hb1.cell j (by simpa using hj)) Try.underlying93 rfl hinf.out ?_)))
      have hb01 : Below wr.heap.size wr w1 := (below_new wr _).trans (ho1.below (by simp) (by simp))
      refine (hto.out w1).mono ?_
      rintro e w2 ⟨v, rfl, hown, hb2⟩
      have hb02 := below_next hb01 hb2
      have hg2' := Lib.hid (hgot.out _ hb02)
      have hone2 := Lib.hid (apiC_one (c := c) (Own.one hown))
      have hnx2 := Lib.hid (fun w6 h6 ho6 => hnx.out w2 w6 v hb02 (Own.lower hown hb01.size) h6 ho6)
      clear hown hb2 hb1 hr1 ho1 hb01 hb02 hgot hnx hto hld
      obtain ⟨V, hV⟩ : ∃ V, V = apiC c v := ⟨_, rfl⟩
      have hV6 : V.length = 6 := by rw [hV]; rfl
      rw [← hV] at hone2 hnx2 ⊢
      have hinf2 : Hid ((Try.prog.info? 87).map (·.size) = some V.length) := Lib.hid (by rw [hV6]; exact info48)
      replace hV := Lib.hid hV
      replace hV6 := Lib.hid hV6
      go_wp2_with (first
        | (with_reducible show wpList _ _ _ (⟨none, .store _ (.tmp 29) _, _, _, _, _⟩ :: _) _ _; go_must (refine wpList_storeN rfl 87 (.tmp 29) (.tmp 28) rfl (g := g2) (i := k * 6) hg2'.out V rfl rfl (by rw [hgl.out, hV6.out]; exact hkk) (hinf2.out) (hone2.out) ?_); intro w6 hr6 ho6))
      replace hnx2 := Lib.hid (hnx2.out _ hr6.out ho6)
      clear hr6 ho6 hg2' hone2
      go_roundw
      case rel => exact ⟨k + 1, ps ++ [(c, v)], by omega, by go_num, hnx2⟩
      case measure => simp [intOf]; omega
    · obtain rfl : k = n := by omega
      have hlp : ps.length = k := by
        have := congrArg List.length hR.map
        simp [hll.out] at this
        exact this
      have hres : GotCells w k l (.returned (.slice (some ⟨g2, 0, none⟩) k k)) wr := by
        refine ⟨g2, ps, rfl, ⟨⟨fl_length apiP_length ps, .inr ⟨g2, k, _, by rw [hlp], hge, hR.got, by omega, by unfold maxLen; omega, ?_, ?_⟩⟩, hR.comb⟩, ?_, hR.below, hge⟩
        · simp [fl_length apiP_length, hlp]
        · have e : (ps.length * 6) = (fl apiP ps).length := (fl_length apiP_length ps).symm
          rw [e, fl_app]
          simp
        · rw [hR.map, List.take_of_length_le (by rw [hll.out]; exact Nat.le_refl _)]
      replace hres := Lib.hid hres
      clear hR hlp
      go_wp2
      go_ret
      exact hres.out
end Go.Proofs.Ytleooelhnnfjbaa.Rw
