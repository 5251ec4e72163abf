/-
  row: the law's look at both rows: are all cells the document's, told in memory of their own?
-/
import Derived.Test.YtnnaagkdlmamjaaRTwo
import Derived.Test.YtnnaagkdlmamjaaRBlank
import Derived.Test.YtnnaagkdlmamjaaRRSame
import Derived.Test.YtnnaagkdlmamjaaRRNew
import Derived.Deep.CutRange
namespace Go.Proofs.Ytnnaagkdlmamjaa.Rw
open Go Go.RowKit Go.Proofs.Ytnnaagkdlmamjaa.Com
set_option linter.unusedVariables false

/-- A list of marks that may be written over. -/
def Cmb (B : Nat) (w : World) (v : Value) : Prop := ∃ ao M cp, v = .slice ao M cp ∧ M ≤ 4 ∧ (0 < M → ∃ g, ao = some ⟨g, 0, none⟩ ∧ B ≤ g ∧ ∃ cs : Array Value, Block w g 21 cs ∧ M ≤ cs.size ∧ ∀ i, i < M → ∃ y, cs[i]? = some (.int .i32 y))
theorem Cmb.only {B : Nat} {L : List Nat} {w w' : World} {v : Value} (h : Cmb B w v) (ho : Only L w w') (hL : ∀ g ∈ L, ¬ Typ w g 21) : Cmb B w' v := by
  obtain ⟨ao, M, cp, rfl, h4, h⟩ := h
  refine ⟨ao, M, cp, rfl, h4, fun h0 => ?_⟩
  obtain ⟨g, rfl, hg, cs, hb, hs, hv⟩ := h h0
  exact ⟨g, rfl, hg, cs, hb.only ho (fun hm => hL g hm (Block.typ hb)), hs, hv⟩
theorem array_set {cs : Array Value} {i j : Nat} {v : Value} (hi : i < cs.size) : ((cs.toList.take i ++ [v] ++ cs.toList.drop (i + 1)).toArray)[j]? = if j = i then some v else cs[j]? := by
  have hc : cs[j]? = cs.toList[j]? := by simp
  rw [List.getElem?_toArray, hc]
  have hl : (cs.toList.take i).length = i := by simp; omega
  rcases Nat.lt_trichotomy j i with h | h | h
  · rw [if_neg (by omega), List.append_assoc, List.getElem?_append_left (by omega), List.getElem?_take, if_pos h]
  · subst h
    rw [if_pos rfl, List.append_assoc, List.getElem?_append_right (by omega), hl]
    simp
  · rw [if_neg (by omega), List.getElem?_append_right (by simp; omega), List.getElem?_drop]
    congr 1
    simp
    omega
theorem array_set_size {cs : Array Value} {i : Nat} {v : Value} (hi : i < cs.size) : ((cs.toList.take i ++ [v] ++ cs.toList.drop (i + 1)).toArray).size = cs.size := by
  simp
  omega
theorem Cmb.set {B : Nat} {w w' : World} {v : Value} {g i : Nat} {cs : Array Value} {z : Int} (h : Cmb B w v) (hb : Block w g 21 cs) (hi : i < cs.size) (hb' : Block w' g 21 (cs.toList.take i ++ [Value.int .i32 z] ++ cs.toList.drop (i + 1)).toArray) (ho : Only [g] w w') : Cmb B w' v := by
  obtain ⟨ao, M, cp, rfl, h4, h⟩ := h
  refine ⟨ao, M, cp, rfl, h4, fun h0 => ?_⟩
  obtain ⟨q, rfl, hg, cs', hbq, hs, hv⟩ := h h0
  by_cases e : q = g
  · subst e
    have e2 : cs' = cs := by
      have := hb.symm.trans hbq
      simp only [Option.some.injEq, Obj.cells.injEq, and_true] at this
      exact this.symm
    subst e2
    refine ⟨q, rfl, hg, _, hb', by rw [array_set_size hi]; exact hs, fun j hj => ?_⟩
    rw [array_set hi]
    by_cases hji : j = i
    · rw [if_pos hji]; exact ⟨z, rfl⟩
    · rw [if_neg hji]; exact hv j hj
  · exact ⟨q, rfl, hg, cs', hbq.only ho (by simpa using e), hs, hv⟩
theorem own_cmb {B : Nat} {w : World} {v : Value} {m : List Int} (h : Own w B 21 .i32 v m) (h4 : m.length ≤ 4) : Cmb B w v := by
  obtain ⟨hl, h⟩ := h
  rcases h with ⟨rfl, h0⟩ | ⟨g, cap, cur, rfl, hg, hh, hc, hm, hs, ht⟩
  · exact ⟨none, 0, 0, rfl, by omega, fun h => absurd h (by omega)⟩
  · refine ⟨_, _, _, rfl, h4, fun h0 => ⟨g, rfl, hg, cur, hh, by omega, fun i hi => ?_⟩⟩
    rw [Nat.mul_one] at ht
    have e : cur[i]? = (m.map (Value.int .i32))[i]? := by
      rw [← ht, List.getElem?_take, if_pos hi]
      simp
    rw [e, List.getElem?_map, List.getElem?_eq_getElem hi]
    exact ⟨_, rfl⟩

/-- The cells that were told, and are written over. -/
structure GotSt (w0 w : World) (g2 n : Nat) (vs : List Value) : Prop where
  blk : ∃ cs : Array Value, Block w g2 48 cs ∧ n * 6 ≤ cs.size ∧ ∀ i, i < n → cs[i * 6 + 1]? = vs[i]?
  comb : ∀ v ∈ vs, Cmb w0.heap.size w v
  below : Below w0.heap.size w0 w
  lo : w0.heap.size ≤ g2
  len : vs.length = n
theorem GotSt.comb_set {w0 w w' : World} {g2 n : Nat} {vs : List Value} (h : GotSt w0 w g2 n vs) {g i : Nat} {cs : Array Value} {z : Int} (hb : Block w g 21 cs) (hg : w0.heap.size ≤ g) (hi : i < cs.size) (hb' : Block w' g 21 (cs.toList.take i ++ [Value.int .i32 z] ++ cs.toList.drop (i + 1)).toArray) (ho : Only [g] w w') : GotSt w0 w' g2 n vs := by
  obtain ⟨cs2, h2, hs, hv⟩ := h.blk
  exact ⟨⟨cs2, h2.only ho (by simpa using Block.apart h2 hb (by decide)), hs, hv⟩, fun v hv => (h.comb v hv).set hb hi hb' ho, h.below.trans (ho.below h.below.size (by simpa using hg)), h.lo, h.len⟩
theorem GotSt.r_set {w0 w w' : World} {g2 n : Nat} {vs : List Value} (h : GotSt w0 w g2 n vs) {i : Nat} {cs : Array Value} {z : Int} (hb : Block w g2 48 cs) (hs : n * 6 ≤ cs.size) (hv : ∀ i, i < n → cs[i * 6 + 1]? = vs[i]?) (hi : i < n) (hb' : Block w' g2 48 (cs.toList.take (i * 6) ++ [Value.int .i32 z] ++ cs.toList.drop (i * 6 + 1)).toArray) (ho : Only [g2] w w') : GotSt w0 w' g2 n vs :=
  have hlt : i * 6 < cs.size := by omega
  ⟨⟨_, hb', by rw [array_set_size hlt]; exact hs, fun j hj => by rw [array_set hlt, if_neg (by omega)]; exact hv j hj⟩, fun v hv => (h.comb v hv).only ho (fun g hg ht => by
    obtain rfl : g = g2 := by simpa using hg
    exact absurd (Typ.inj ht (Block.typ hb)) (by decide)), h.below.trans (ho.below h.below.size (by simpa using h.lo)), h.lo, h.len⟩
theorem GotSt.stay {w0 w w' : World} {g2 n : Nat} {vs : List Value} (h : GotSt w0 w g2 n vs) (hb : Below w.heap.size w w') : GotSt w0 w' g2 n vs := by
  obtain ⟨cs2, h2, hs, hv⟩ := h.blk
  exact ⟨⟨cs2, h2.only (Only.of_below hb []) (by simp), hs, hv⟩, fun v hv => (h.comb v hv).only (Only.of_below hb []) (by simp), below_next h.below hb, h.lo, h.len⟩
theorem Api.got {w w1 : World} {g2 n : Nat} {ps : List (Cel × Value)} (h : Api w.heap.size w1 (.slice (some ⟨g2, 0, none⟩) n n) ps) (hl : ps.length = n) (hn : 0 < n) (hb : Below w.heap.size w w1) (h4 : ∀ p ∈ ps, p.1.m.length ≤ 4) : GotSt w w1 g2 n (ps.map (·.2)) := by
  subst hl
  obtain ⟨g, cap, tail, he, hg, hbk, h1, h2, h3⟩ := own_block' h.own hn
  simp only [Value.slice.injEq, Option.some.injEq, Addr.mk.injEq, and_true, true_and] at he
  obtain ⟨rfl, rfl⟩ := he
  refine ⟨⟨_, hbk, by simp at h3 ⊢; omega, fun i hi => ?_⟩, fun v hv => ?_, hb, hg, by simp⟩
  · have e := fl_at (f := apiP) apiP_length hi (show 1 < 6 by decide)
    rw [List.getElem?_toArray, List.getElem?_append_left (by rw [fl_length apiP_length]; omega), e, List.getElem?_map, List.getElem?_eq_getElem hi]
    rfl
  · obtain ⟨p, hp, rfl⟩ := List.mem_map.1 hv
    exact own_cmb (h.comb p hp) (h4 p hp)

theorem infoI32 : (Try.prog.info? 21).map (·.size) = some 1 := by kernel_rfl
set_option maxRecDepth 100000 in
set_option maxHeartbeats 8000000 in
theorem law_same {B : Nat} {w : World} {d dr : Nat} {l : List Cel} (h : Two B w d dr l l) (col : Int) :
    Calls Try.prog 16 #[.pointer (some ⟨d, 0, none⟩), .pointer (some ⟨dr, 0, none⟩), .int .i64 col] w fun e w' => e = .returned (.bool true) ∧ Below w.heap.size w w' := by
  obtain ⟨g, n, cap, tail, hX, _, _⟩ := h.prog
  have hn := hX.pos
  have hn5 := hX.small
  have hll := hX.len
  have h4 := fun c hc => (h.good.cell c hc).four
  have hcs := Lib.hid (cells_any hX h4)
  replace h := Lib.hid h
  replace h4 := Lib.hid h4
  clear hX
  go_enter Try.func16, Try.ntmps16
  go_wp2_with ((go_at_call 17; (with_reducible refine (hcs.out).mono ?_); rintro e w1 ⟨g2, ps, rfl, hA, hmap, hb1, hg2⟩))
  have hpl : ps.length = n := by
    have := congrArg List.length hmap
    simpa [hll] using this
  have hp4 : ∀ p ∈ ps, p.1.m.length ≤ 4 := fun p hp => h4.out _ (by rw [← hmap]; exact List.mem_map_of_mem hp)
  have hGot := hA.got hpl hn hb1 hp4
  obtain ⟨gv, nr, capr, qs, hR, hqs⟩ := (h.out.below hb1).ref
  have hnr : nr = n := by rw [← hR.len, ← cels_length, hqs, hll]
  subst hnr
  have hsl := hR.slice
  have hcr := hR.cap
  have hc1 : ∀ w', Below w1.heap.size w1 w' → w'.cell? ⟨dr, 0, none⟩ = some (.slice (some ⟨gv, 0, none⟩) nr capr) := fun w' hb => (hR.below hb).slice
  have hsame : ∀ w', Below w1.heap.size w1 w' → Calls Try.prog 21 #[.slice (some ⟨g2, 0, none⟩) nr nr, .slice (some ⟨gv, 0, none⟩) nr capr] w' fun e w'' => e = .returned (.bool true) ∧ Below w1.heap.size w1 w'' := fun w' hb =>
    (same_any (hA.below hb) (hR.below hb).api hpl (by rw [hmap]; exact hqs) hn5 hp4).mono fun e w'' ho => ⟨ho.1, below_next hb ho.2⟩
  have hlen : ∀ w', Below w1.heap.size w1 w' → Calls Try.prog 27 #[.pointer (some ⟨d, 0, none⟩)] w' fun e w'' => e = .returned (.int .i64 nr) ∧ Below w1.heap.size w1 w'' := fun w' hb => by
    obtain ⟨_, n', _, _, hX, _, _⟩ := ((h.out.below hb1).below hb).prog
    obtain rfl : n' = nr := hX.len.symm.trans hll
    exact (len_any hX).mono fun e w'' ho => ⟨ho.1, ho.2 ▸ hb⟩
  have hblank : ∀ w', Below w1.heap.size w1 w' → Calls Try.prog 24 #[.pointer (some ⟨d, 0, none⟩), .int .i64 col] w' fun e w'' => e = .returned (.bool (blankF l col)) ∧ Below w1.heap.size w1 w'' := fun w' hb => by
    obtain ⟨_, n', _, _, hX, _, _⟩ := ((h.out.below hb1).below hb).prog
    exact (blank'_any hX col).mono fun e w'' ho => ⟨ho.1, below_next hb ho.2⟩
  have hfrom : ∀ w', Below w1.heap.size w1 w' → Calls Try.prog 44 #[.pointer (some ⟨dr, 0, none⟩), .int .i64 col] w' fun e w'' => e = .returned (.bool (blankF l col)) ∧ Below w1.heap.size w1 w'' := fun w' hb =>
    (rfrom_any (hR.below hb) col).mono fun e w'' ho => ⟨by rw [ho.1, hqs], below_next hb ho.2⟩
  have hb0 : Below w1.heap.size w1 w1 := Below.refl _ _
  have hbd : Below w1.heap.size w1 w1.drew := below_dr (a := w1) (b := w1) (Below.refl w1.heap.size w1) 1
  replace hc1 := Lib.hid hc1
  replace hsame := Lib.hid hsame
  replace hlen := Lib.hid hlen
  replace hblank := Lib.hid hblank
  replace hfrom := Lib.hid hfrom
  replace hGot := Lib.hid hGot
  replace hb1 := Lib.hid hb1
  clear hA hmap hR hqs hcs hp4
  generalize blankF l col = bl at hblank hfrom
  go_upto_region 2 with (fail)
  go_cut [39] from 12 (fun s39 wx => s39 = .bool false ∧ Below w1.heap.size w1 wx)
  case first =>
    go_region_held3 (fun w' => w'.cell? ⟨dr, 0, none⟩ = some (.slice (some ⟨gv, 0, none⟩) nr capr))
      (first | exact hc1.out _ hb0 | exact hc1.out _ hbd | exact hc1.out _ hb2 | exact hc1.out _ hb3 | exact hc1.out _ hb4 | exact hc1.out _ hb5)
      (first
        | (go_at_call 27; with_reducible refine (hlen.out _ hbd).mono ?_; rintro e w2 ⟨rfl, hb2⟩)
        | (go_at_call 21; with_reducible refine (hsame.out _ hb2).mono ?_; rintro e w3 ⟨rfl, hb3⟩)
        | (go_at_call 24; (first | (with_reducible refine (hblank.out _ hb3).mono ?_) | (with_reducible refine (hblank.out _ hb5).mono ?_)); rintro e w4 ⟨rfl, hb4⟩)
        | (go_at_call 44; (first | (with_reducible refine (hfrom.out _ hb3).mono ?_) | (with_reducible refine (hfrom.out _ hb4).mono ?_)); rintro e w5 ⟨rfl, hb5⟩))
    go_wp2_with fail
    go_meet
    exact ⟨rfl, hb5⟩
  case rest =>
  obtain ⟨rfl, hbz⟩ := hcut
  have hG := Lib.hid (hGot.out.stay hbz)
  clear hsame hlen hblank hfrom hc1 hb0 hbd hsl hGot
  go_wp2_with fail
  go_loopw [42] (fun i wr => ∃ k : Nat, k ≤ nr ∧ i = .int .i64 k ∧ Hid (GotSt w wr g2 nr (ps.map (·.2)))) (fun i _ => nr - (intOf i).toNat)
  case atStart => exact ⟨0, Nat.zero_le _, rfl, hG⟩
  case round =>
    obtain ⟨k, hk, rfl, hR⟩ := hrel
    clear hG
    by_cases hlt : k < nr
    · have hkI : (k : Int) < (nr : Int) := by omega
      obtain ⟨cs, hcb, hcs, hcv⟩ := hR.out.blk
      have hvm : k < (ps.map (·.2)).length := by rw [hR.out.len]; exact hlt
      obtain ⟨av, M, cp, hv, hM4, hMb⟩ := hR.out.comb _ (List.getElem_mem hvm)
      have hck : wr.cell? ⟨g2, k * 6 + 1, none⟩ = some (.slice av M cp) := hcb.cell _ (by rw [hcv k hlt, List.getElem?_eq_getElem hvm, hv])
      have hcell : ∀ w', GotSt w w' g2 nr (ps.map (·.2)) → w'.cell? ⟨g2, k * 6 + 1, none⟩ = some (.slice av M cp) ∧ (0 < M → ∃ g, av = some ⟨g, 0, none⟩ ∧ w.heap.size ≤ g ∧ ∃ cs : Array Value, Block w' g 21 cs ∧ M ≤ cs.size ∧ ∀ i, i < M → ∃ y, cs[i]? = some (.int .i32 y)) := fun w' h' => by
        obtain ⟨cs, hcb, hcs, hcv⟩ := h'.blk
        obtain ⟨av', M', cp', hv', _, hMb'⟩ := h'.comb _ (List.getElem_mem hvm)
        rw [hv] at hv'
        simp only [Value.slice.injEq] at hv'
        obtain ⟨rfl, rfl, rfl⟩ := hv'
        exact ⟨hcb.cell _ (by rw [hcv k hlt, List.getElem?_eq_getElem hvm, hv]), hMb'⟩
      replace hcell := Lib.hid hcell
      clear hcb hcs hcv hMb
      go_wp2_with fail
      go_loopw [51] (fun i wr => ∃ j : Nat, j ≤ M ∧ i = .int .i64 j ∧ Hid (GotSt w wr g2 nr (ps.map (·.2)))) (fun i _ => M - (intOf i).toNat)
      case atStart => exact ⟨0, Nat.zero_le _, rfl, hR⟩
      case round =>
        obtain ⟨j, hj, rfl, hRj⟩ := hrel
        clear hR hck
        obtain ⟨hck, hMb⟩ := hcell.out _ hRj.out
        by_cases hjl : j < M
        · have hjI : (j : Int) < (M : Int) := by omega
          obtain ⟨gm, rfl, hgm, cm, hbm, hsm, hym⟩ := hMb (by omega)
          obtain ⟨y, hy⟩ := hym j hjl
          have hcy := hbm.cell j hy
          have hjs : j < cm.size := by omega
          clear hMb hym
          go_wp2_with ((with_reducible show wpList _ _ _ (⟨none, .store _ (.tmp 63) _, _, _, _, _⟩ :: _) _ _; go_must (refine wpList_store1 rfl _ (.tmp 63) (.tmp 62) rfl hbm (.int _ _) rfl rfl (hjs) (by exact infoI32) rfl ?_); intro w6 hb6 ho6; go_frame))
          have hR6 := Lib.hid (hRj.out.comb_set hbm hgm hjs hb6 ho6)
          clear hb6 ho6 hRj
          go_roundw
          case rel => exact ⟨j + 1, by omega, by go_num, hR6⟩
          case measure => simp [intOf]; omega
        · obtain rfl : j = M := by omega
          obtain ⟨cs, hcb, hcs, hcv⟩ := hRj.out.blk
          have hks : k * 6 < cs.size := by omega
          have hRn := fun w' z hb' ho => Lib.hid (hRj.out.r_set (w' := w') (z := z) hcb hcs hcv hlt hb' ho)
          replace hRn := Lib.hid hRn
          clear hcv hRj hcell hMb
          go_wp2_with ((with_reducible show wpList _ _ _ (⟨none, .store _ (.tmp 68) _, _, _, _, _⟩ :: _) _ _; go_must (refine wpList_store1 rfl _ (.tmp 68) (.const (.int .i32 7)) rfl hcb (.int _ _) rfl rfl (hks) (by exact infoI32) rfl ?_); intro w6 hb6 ho6; go_frame))
          have hR6 := hRn.out _ _ hb6 ho6
          clear hb6 ho6 hRn
          go_roundw
          case rel => exact ⟨k + 1, by omega, by go_num, hR6⟩
          case measure => simp [intOf]; omega
    · obtain rfl : k = nr := by omega
      have hbw := hR.out.below
      have hT := h.out.below hbw
      obtain ⟨g', n', cap', tail', hX, _, _⟩ := hT.prog
      obtain rfl : n' = k := hX.len.symm.trans hll
      obtain ⟨gv', nr', capr', qs', hR', hqs'⟩ := hT.ref
      have hnr : nr' = n' := by rw [← hR'.len, ← cels_length, hqs', hll]
      subst hnr
      have hc0 : ∀ w', Below wr.heap.size wr w' → w'.cell? ⟨dr, 0, none⟩ = some (.slice (some ⟨gv', 0, none⟩) nr' capr') := fun w' hb => (hR'.below hb).slice
      have hcz := hc0 _ (Below.refl _ _)
      have hle' := hR'.le
      have hcr' := hR'.cap
      by_cases hout : col < 0 ∨ (nr' : Int) ≤ col
      · have hcell := Lib.hid (cell_no hX col hout)
        replace hbw := Lib.hid hbw
        replace hc0 := Lib.hid hc0
        clear hR hT hX hR' hqs'
        go_wp2_with fail
        refine hcell.out.mono ?_
        rintro e w7 ⟨rfl, hb7⟩
        have hz7 := Lib.hid (fresh_api w7)
        have hd7 := hc0.out _ hb7
        clear hcell
        go_upto_region 15 with (first
          | (with_reducible show wpList _ _ _ (⟨none, .store _ (.tmp 10) _, _, _, _, _⟩ :: _) _ _; go_must (refine wpList_storeN rfl 48 (.tmp 10) (.tmp 74) rfl (g := w7.heap.size) (i := 0) hz7.out (apiC zeroCel (.slice none 0 0)) rfl rfl (by decide) (info48' _ _) (apiC_one rfl) ?_); intro w8 hr8 ho8; go_frame))
        have hb8 := below_next hb7 (below_fresh ho8)
        have hs8 := stored_api hr8.out
        have a0 : w8.cell? ⟨w7.heap.size, 0, none⟩ = some (.int .i32 0) := hs8.cell 0 rfl
        have a1 : w8.cell? ⟨w7.heap.size, 1, none⟩ = some (.slice none 0 0) := hs8.cell 1 rfl
        have hd8 := hc0.out _ hb8
        have hfin := Lib.hid (below_next hbw.out hb8)
        clear hb7 hb8 hr8 ho8 hs8 hz7 hd7 hcz hbw hc0
        by_cases hneg : col < 0
        · go_wp2_with fail
          go_ret
          exact ⟨rfl, hfin.out⟩
        · have hge : (nr' : Int) ≤ col := by omega
          go_wp2_with fail
          go_ret
          exact ⟨rfl, hfin.out⟩
      · obtain ⟨i, rfl⟩ := Int.eq_ofNat_of_zero_le (show 0 ≤ col by omega)
        have hin : i < nr' := by omega
        have hil : i < l.length := by rw [hll]; exact hin
        have hip : i < qs'.length := by rw [hR'.len]; exact hin
        have hce := Lib.hid (cell_yes hX h4.out i hin hil)
        have hcel : qs'[i].1 = l[i] := by
          subst hqs'
          simp [cels]
        have hl4 := h4.out _ (List.getElem_mem hil)
        have hown := hR'.api.comb _ (List.getElem_mem hip)
        have hsix : ∀ w', Below wr.heap.size wr w' → _ := fun w' hb => (hR'.below hb).cells hip
        have how2 : ∀ w', Below wr.heap.size wr w' → Own w' B 21 .i32 qs'[i].2 qs'[i].1.m := fun w' hb => hown.only (Only.of_below hb []) (by simp)
        rw [hcel] at hown
        generalize hqq : qs'[i] = q at hcel hown hsix how2
        obtain ⟨c', v'⟩ := q
        simp only at hcel hown hsix how2
        subst hcel
        generalize l[i] = c at hce hl4 hown hsix how2
        obtain ⟨r, m, wd, ⟨af, ab, ag⟩⟩ := c
        simp only at hl4 hsix
        have hv1 := Own.one hown
        have hinI : (i : Int) < (nr' : Int) := by omega
        replace hbw := Lib.hid hbw
        replace hc0 := Lib.hid hc0
        replace hsix := Lib.hid hsix
        replace how2 := Lib.hid how2
        clear hR hT hX hR' hqs' hout hqq hown
        go_wp2_with fail
        refine hce.out.mono ?_
        rintro e w7 ⟨v, rfl, hov, hb7⟩
        have hz7 := Lib.hid (fresh_api w7)
        have hd7 := hc0.out _ hb7
        have hv2 := Own.one hov
        replace hov := Lib.hid hov
        clear hce
        go_upto_region 15 with (first
          | (with_reducible show wpList _ _ _ (⟨none, .store _ (.tmp 10) _, _, _, _, _⟩ :: _) _ _; go_must (refine wpList_storeN rfl 48 (.tmp 10) (.tmp 74) rfl (g := w7.heap.size) (i := 0) hz7.out (apiC ⟨r, m, wd, ⟨af, ab, ag⟩⟩ v) rfl rfl (by simp [apiC, attV]) (info48' _ _) (apiC_one hv2) ?_); intro w8 hr8 ho8; go_frame))
        have hb8 := below_next hb7 (below_fresh ho8)
        have hs8 := stored_api hr8.out
        obtain ⟨b8, hb8'⟩ : ∃ b8, b8 = w7.heap.size := ⟨_, rfl⟩
        rw [← hb8'] at hs8
        rw [← hb8']
        have hfin := Lib.hid (below_next hbw.out hb8)
        have hcc : ∀ w', Below w8.heap.size w8 w' → (w'.cell? ⟨dr, 0, none⟩ = some (.slice (some ⟨gv', 0, none⟩) nr' capr') ∧ w'.cell? ⟨b8, 0, none⟩ = some (.int .i32 r) ∧ w'.cell? ⟨b8, 1, none⟩ = some v ∧ w'.cell? ⟨b8, 2, none⟩ = some (.int .u8 wd) ∧ w'.cell? ⟨b8, 3, none⟩ = some (.int .u32 af) ∧ w'.cell? ⟨b8, 4, none⟩ = some (.int .u32 ab) ∧ w'.cell? ⟨b8, 5, none⟩ = some (.int .u16 ag)) ∧ w'.cell? ⟨gv', i * 6, none⟩ = some (.int .i32 r) ∧ w'.cell? ⟨gv', i * 6 + 1, none⟩ = some v' ∧ w'.cell? ⟨gv', i * 6 + 2, none⟩ = some (.int .u8 wd) ∧ w'.cell? ⟨gv', i * 6 + 3, none⟩ = some (.int .u32 af) ∧ w'.cell? ⟨gv', i * 6 + 4, none⟩ = some (.int .u32 ab) ∧ w'.cell? ⟨gv', i * 6 + 5, none⟩ = some (.int .u16 ag) := fun w' hb => by
          have hs9 := hs8.only (Only.of_below hb []) (by simp)
          exact ⟨⟨hc0.out _ (below_next hb8 hb), hs9.cell 0 rfl, hs9.cell 1 rfl, hs9.cell 2 rfl, hs9.cell 3 rfl, hs9.cell 4 rfl, hs9.cell 5 rfl⟩, hsix.out _ (below_next hb8 hb)⟩
        have hsc : ∀ w', Below w8.heap.size w8 w' → Calls Try.prog 22 #[.agg #[.int .i32 r, v, .int .u8 wd, .int .u32 af, .int .u32 ab, .int .u16 ag], .agg #[.int .i32 r, v', .int .u8 wd, .int .u32 af, .int .u32 ab, .int .u16 ag]] w' fun e w'' => e = .returned (.bool true) ∧ Below w8.heap.size w8 w'' := fun w' hb =>
          (samecell_any ⟨r, m, wd, ⟨af, ab, ag⟩⟩ v v' w' ((hov.out.only (Only.of_below (below_fresh ho8) []) (by simp)).only (Only.of_below hb []) (by simp)) (how2.out _ (below_next hb8 hb)) hl4).mono fun e w'' ho => ⟨ho.1, below_next hb ho.2⟩
        have hd8 := hc0.out _ hb8
        have hbr : Below w8.heap.size w8 w8 := Below.refl _ _
        have hbd : Below w8.heap.size w8 w8.drew := below_dr (a := w8) (b := w8) (Below.refl w8.heap.size w8) 1
        replace hcc := Lib.hid hcc
        replace hsc := Lib.hid hsc
        replace hb8' := Lib.hid hb8'
        clear hb7 hb8 hr8 ho8 hs8 hz7 hd7 hcz hbw hc0 hsix how2 hov hl4
        have hge : ¬ (nr' : Int) ≤ (i : Int) := by omega
        go_upto_region 17 with (fail)
        go_region_held3 (fun w' => (w'.cell? ⟨dr, 0, none⟩ = some (.slice (some ⟨gv', 0, none⟩) nr' capr') ∧ w'.cell? ⟨b8, 0, none⟩ = some (.int .i32 r) ∧ w'.cell? ⟨b8, 1, none⟩ = some v ∧ w'.cell? ⟨b8, 2, none⟩ = some (.int .u8 wd) ∧ w'.cell? ⟨b8, 3, none⟩ = some (.int .u32 af) ∧ w'.cell? ⟨b8, 4, none⟩ = some (.int .u32 ab) ∧ w'.cell? ⟨b8, 5, none⟩ = some (.int .u16 ag)) ∧ w'.cell? ⟨gv', i * 6, none⟩ = some (.int .i32 r) ∧ w'.cell? ⟨gv', i * 6 + 1, none⟩ = some v' ∧ w'.cell? ⟨gv', i * 6 + 2, none⟩ = some (.int .u8 wd) ∧ w'.cell? ⟨gv', i * 6 + 3, none⟩ = some (.int .u32 af) ∧ w'.cell? ⟨gv', i * 6 + 4, none⟩ = some (.int .u32 ab) ∧ w'.cell? ⟨gv', i * 6 + 5, none⟩ = some (.int .u16 ag))
          (first | exact hcc.out _ hbr | exact hcc.out _ hbd | exact hcc.out _ hb9)
          (first
            | (go_at_call 22; with_reducible refine (hsc.out _ hbd).mono ?_; rintro e w9 ⟨rfl, hb9⟩))
        go_wp2
        go_ret
        exact ⟨rfl, below_next hfin.out hb9⟩
end Go.Proofs.Ytnnaagkdlmamjaa.Rw
