/-
  lines: the ring: how many, where the i-th one stands, which it is, the newest one of an id.
-/
import Derived.Test.YtaoegfdaemmogaaLMem
namespace Go.Proofs.Ytaoegfdaemmogaa.Lns
open Go Go.RowKit Go.Proofs.Ytaoegfdaemmogaa.Com Go.Proofs.Ytaoegfdaemmogaa.Rw
section
variable {B : Nat} {w w' : World} {s nx most o : Nat} {sv : Value} {P R : List En}

theorem made_any (h : SX0 B w s nx most sv o P) : Calls Try.prog 34 #[.pointer (some ⟨s, 0, none⟩)] w fun e w' => e = .returned (.bool true) ∧ w = w' := by
  obtain ⟨h0, _⟩ := h.cells
  have hp := h.pos
  clear h
  go_enter Try.func34, Try.ntmps34
  go_wp2
  go_ret
  exact ⟨rfl, rfl⟩
theorem count_any (h : SX0 B w s nx most sv o P) : Calls Try.prog 55 #[.pointer (some ⟨s, 1, none⟩)] w fun e w' => e = .returned (.int .i64 P.length) ∧ w = w' := by
  obtain ⟨_, _, h2, _⟩ := h.cells
  obtain ⟨ao, c, rfl, _⟩ := h.len
  generalize P.length = n at h2 ⊢
  clear h
  go_enter Try.func55, Try.ntmps55
  go_wp2
  go_ret
  exact ⟨rfl, rfl⟩
theorem place_any (h : SX0 B w s nx most sv o P) (i : Nat) (hi : i ≤ 100000) (hn : 0 < P.length) : Calls Try.prog 89 #[.pointer (some ⟨s, 1, none⟩), .int .i64 i] w fun e w' => e = .returned (.int .i64 ((o + i) % P.length : Nat)) ∧ ∃ q, w' = w.drewN q := by
  obtain ⟨_, _, _, h3⟩ := h.cells
  have hc := fun q => count_any (h.drew q)
  have ho := h.olt
  have hle := Nat.le_trans h.le h.most
  have hne : ((P.length : Int) == 0) = false := beq_eq_false_iff_ne.2 (by omega)
  generalize P.length = n at hc ho hle hn hne ⊢
  obtain ⟨m, hm⟩ : ∃ m, m = (o + i) % n := ⟨_, rfl⟩
  rw [← hm]
  replace hm := Lib.hid hm
  replace hc := Lib.hid hc
  clear h
  go_enter Try.func89, Try.ntmps89
  go_wp2
  go_quiet ((go_at_call 55; with_reducible exact quiet_left (hc.out _)))
  go_wp2
  go_ret
  refine ⟨ret_int ?_, _, rfl⟩
  rw [hm.out, Int.natCast_emod, Int.natCast_add]
/-- What line leaves. -/
def LineDone (w : World) (e0 : En) (e : Ending) (w' : World) : Prop := e = .returned (.agg #[.int .i64 e0.id, .pointer (some ⟨e0.d, 0, none⟩)]) ∧ Below w.heap.size w w'
theorem line_any (h : SX0 B w s nx most sv o P) (i : Nat) (hi : i < P.length) (e0 : En) (he : (lg P o)[i]? = some e0) : Calls Try.prog 76 #[.pointer (some ⟨s, 1, none⟩), .int .i64 i] w (LineDone w e0) := by
  have hle := Nat.le_trans h.le h.most
  have ho : o < P.length := by have := h.olt; omega
  rw [lg_at P ho hi] at he
  have hk : (o + i) % P.length < P.length := Nat.mod_lt _ (by omega)
  rw [List.getElem?_eq_getElem hk] at he
  have hw := h.only (Only.alloc [] w (.cells #[.int .i64 0, .pointer none] 92)) (by simp) (by simp)
  have hp := place_any (hw.only (only_drew [] _) (by simp) (by simp)) i (by omega) (by omega)
  clear hw
  obtain ⟨g, c, rfl, hc, hm, h0, h1⟩ := h.place hk
  have hlt := World.block_lt_of_cell? _ _ h0
  obtain ⟨_, _, h2, _⟩ := h.cells
  rw [Option.some.inj he] at h0 h1
  clear h he
  generalize (o + i) % P.length = k at hp hk h0 h1 hlt
  generalize P.length = n at hi hle ho hp hk h2 hc
  have hdr := below_new w (.cells #[.int .i64 0, .pointer none] 92)
  have hki : (k : Int) < (n : Int) := by omega
  have n1 := World.new_ne w ⟨s, 2, none⟩ h2
  have n2 := World.new_ne w ⟨g, k * 2, none⟩ h0
  replace hp := Lib.hid hp
  go_enter Try.func76, Try.ntmps76
  go_wp2
  go_region_held3 (fun w' => w'.cell? ⟨s, 2, none⟩ = some (.slice (some ⟨g, 0, none⟩) n c) ∧ w'.cell? ⟨g, k * 2, none⟩ = some (.int .i64 e0.id) ∧ w'.cell? ⟨g, k * 2 + 1, none⟩ = some (.pointer (some ⟨e0.d, 0, none⟩)))
    (first | exact ⟨h2, h0, h1⟩ | go_keep)
    (first
      | (go_at_call 89; (with_reducible refine hp.out.mono ?_); rintro e w1 ⟨rfl, q, rfl⟩))
  go_wp2
  exact bodyPost_ret (v := .agg #[.int .i64 e0.id, .pointer (some ⟨e0.d, 0, none⟩)]) (results_cell_row rfl _ _ w.heap.size 92 _ (0, 0) _ rfl (block2 ((Block.made w _ _).only (Only.drewN [] _ _) (by simp)) _ _) Try.underlying92 rfl infoL) rfl ⟨rfl, ((below_dr hdr _).setCell (by simp) _).setCell (by simp) _⟩
set_option maxRecDepth 100000 in
theorem newest_any (h : SX0 B w s nx most sv o P) (id : Int) : Calls Try.prog 51 #[.pointer (some ⟨s, 1, none⟩), .int .i64 id] w fun e w' => e = .returned (.int .i64 (findF ((lg P o).map En.id) id)) ∧ Below w.heap.size w w' := by
  have hle := Nat.le_trans h.le h.most
  have hc := fun w' (hb : Below w.heap.size w w') => count_any (h.only (Only.of_below hb []) (by simp) (by simp))
  have hln := fun w' (hb : Below w.heap.size w w') => line_any (h.only (Only.of_below hb []) (by simp) (by simp))
  have hl := lg_len P o
  generalize lg P o = G at hln hl ⊢
  generalize P.length = n at hc hln hl hle
  replace hc := Lib.hid hc
  replace hln := Lib.hid hln
  replace hl := Lib.hid hl
  clear h
  go_enter Try.func51, Try.ntmps51
  go_wp2_with ((go_at_call 55; (with_reducible refine (hc.out _ (Below.refl _ _)).mono ?_); rintro e w' ⟨rfl, rfl⟩))
  go_loopw [9] (fun i wr => ∃ k : Nat, k ≤ n ∧ i = .int .i64 k ∧ Hid (Below w.heap.size w wr ∧ findF (G.map En.id) id = findTo (G.map En.id) id (n - k))) (fun i _ => n - (intOf i).toNat)
  case atStart => exact ⟨0, Nat.zero_le _, rfl, Lib.hid ⟨Below.refl _ _, by rw [findF, List.length_map, hl.out]; rfl⟩⟩
  case round =>
    obtain ⟨k, hk, rfl, hR⟩ := hrel
    obtain ⟨hB, hF⟩ := hR.out
    by_cases hlt : k < n
    · have hi : n - 1 - k < G.length := by rw [hl.out]; omega
      have hcl := hln.out wr hB (n - 1 - k) (by omega) G[n - 1 - k] (List.getElem?_eq_getElem hi)
      have hstep : findTo (G.map En.id) id (n - k) = if G[n - 1 - k].id = id then ((n - 1 - k : Nat) : Int) else findTo (G.map En.id) id (n - (k + 1)) := by
        rw [show n - k = (n - 1 - k) + 1 by omega, findTo_succ, List.getElem?_map, List.getElem?_eq_getElem hi, show n - (k + 1) = n - 1 - k by omega]
        simp
      generalize G[n - 1 - k] = e0 at hcl hstep
      rw [show ((n - 1 - k : Nat) : Int) = (n : Int) - 1 - k by omega] at hcl hstep
      have hq := Lib.hid (hc.out wr hB)
      replace hcl := Lib.hid hcl
      have hfd := fieldL e0.id
      by_cases hid : e0.id = id
      · rw [if_pos hid] at hstep
        replace hstep := Lib.hid (hF.trans hstep)
        have hid' := beq_iff_eq.2 hid
        clear hF hid
        go_wp2_with (first
          | (go_at_call 55; (with_reducible refine (hq.out).mono ?_); rintro e w' ⟨rfl, rfl⟩)
          | (go_at_call 76; (with_reducible refine (hcl.out).mono ?_); rintro e w1 ⟨rfl, hb1⟩))
        go_ret
        exact ⟨ret_int hstep.out.symm, below_next hB hb1⟩
      · rw [if_neg hid] at hstep
        replace hstep := Lib.hid (hF.trans hstep)
        have hid' : (e0.id == id) = false := beq_eq_false_iff_ne.2 hid
        clear hF hid
        go_wp2_with (first
          | (go_at_call 55; (with_reducible refine (hq.out).mono ?_); rintro e w' ⟨rfl, rfl⟩)
          | (go_at_call 76; (with_reducible refine (hcl.out).mono ?_); rintro e w1 ⟨rfl, hb1⟩))
        have hres := Lib.hid (And.intro (below_next hB hb1) hstep.out)
        clear hb1
        go_roundw
        case rel => exact ⟨k + 1, by omega, by go_num, hres⟩
        case measure => simp [intOf]; omega
    · obtain rfl : k = n := by omega
      rw [Nat.sub_self] at hF
      replace hF := Lib.hid hF
      go_wp2
      go_ret
      exact ⟨ret_int hF.out.symm, hB⟩
end
end Go.Proofs.Ytaoegfdaemmogaa.Lns
