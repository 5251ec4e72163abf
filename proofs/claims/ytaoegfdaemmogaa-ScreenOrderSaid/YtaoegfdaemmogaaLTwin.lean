/-
  lines: the ring: how many, where the i-th one stands, which it is, the newest one of an id. lines: the counter; the ring emptied, and a new line put into it. lines: a ring of the same lines.
-/
import Derived.Test.YtaoegfdaemmogaaLMem
namespace Go.Proofs.Ytaoegfdaemmogaa.Lns
open Go Go.RowKit Go.Proofs.Ytaoegfdaemmogaa.Com Go.Proofs.Ytaoegfdaemmogaa.Rw
section
variable {B : Nat} {w w' : World} {s nx most o : Nat} {sv : Value} {P R : List En}

theorem made_any (h : SX0 B w s nx most sv o P) : Calls Try.prog 34 #[.pointer (some ⟨s, 0, none⟩)] w fun e w' => e = .returned (.bool true) ∧ w = w' := by
  obtain ⟨h0, _⟩ := h.cells
  have hp := h.pos
  clear h
  go_enter Try.func34, Try.ntmps34
  go_wp2
  go_ret
  exact ⟨rfl, rfl⟩
theorem count_any (h : SX0 B w s nx most sv o P) : Calls Try.prog 55 #[.pointer (some ⟨s, 1, none⟩)] w fun e w' => e = .returned (.int .i64 P.length) ∧ w = w' := by
  obtain ⟨_, _, h2, _⟩ := h.cells
  obtain ⟨ao, c, rfl, _⟩ := h.len
  generalize P.length = n at h2 ⊢
  clear h
  go_enter Try.func55, Try.ntmps55
  go_wp2
  go_ret
  exact ⟨rfl, rfl⟩
theorem place_any (h : SX0 B w s nx most sv o P) (i : Nat) (hi : i ≤ 100000) (hn : 0 < P.length) : Calls Try.prog 89 #[.pointer (some ⟨s, 1, none⟩), .int .i64 i] w fun e w' => e = .returned (.int .i64 ((o + i) % P.length : Nat)) ∧ ∃ q, w' = w.drewN q := by
  obtain ⟨_, _, _, h3⟩ := h.cells
  have hc := fun q => count_any (h.drew q)
  have ho := h.olt
  have hle := Nat.le_trans h.le h.most
  have hne : ((P.length : Int) == 0) = false := beq_eq_false_iff_ne.2 (by omega)
  generalize P.length = n at hc ho hle hn hne ⊢
  obtain ⟨m, hm⟩ : ∃ m, m = (o + i) % n := ⟨_, rfl⟩
  rw [← hm]
  replace hm := Lib.hid hm
  replace hc := Lib.hid hc
  clear h
  go_enter Try.func89, Try.ntmps89
  go_wp2
  go_quiet ((go_at_call 55; with_reducible exact quiet_left (hc.out _)))
  go_wp2
  go_ret
  refine ⟨ret_int ?_, _, rfl⟩
  rw [hm.out, Int.natCast_emod, Int.natCast_add]
/-- What line leaves. -/
def LineDone (w : World) (e0 : En) (e : Ending) (w' : World) : Prop := e = .returned (.agg #[.int .i64 e0.id, .pointer (some ⟨e0.d, 0, none⟩)]) ∧ Below w.heap.size w w'
theorem line_any (h : SX0 B w s nx most sv o P) (i : Nat) (hi : i < P.length) (e0 : En) (he : (lg P o)[i]? = some e0) : Calls Try.prog 76 #[.pointer (some ⟨s, 1, none⟩), .int .i64 i] w (LineDone w e0) := by
  have hle := Nat.le_trans h.le h.most
  have ho : o < P.length := by have := h.olt; omega
  rw [lg_at P ho hi] at he
  have hk : (o + i) % P.length < P.length := Nat.mod_lt _ (by omega)
  rw [List.getElem?_eq_getElem hk] at he
  have hw := h.only (Only.alloc [] w (.cells #[.int .i64 0, .pointer none] 92)) (by simp) (by simp)
  have hp := place_any (hw.only (only_drew [] _) (by simp) (by simp)) i (by omega) (by omega)
  clear hw
  obtain ⟨g, c, rfl, hc, hm, h0, h1⟩ := h.place hk
  have hlt := World.block_lt_of_cell? _ _ h0
  obtain ⟨_, _, h2, _⟩ := h.cells
  rw [Option.some.inj he] at h0 h1
  clear h he
  generalize (o + i) % P.length = k at hp hk h0 h1 hlt
  generalize P.length = n at hi hle ho hp hk h2 hc
  have hdr := below_new w (.cells #[.int .i64 0, .pointer none] 92)
  have hki : (k : Int) < (n : Int) := by omega
  have n1 := World.new_ne w ⟨s, 2, none⟩ h2
  have n2 := World.new_ne w ⟨g, k * 2, none⟩ h0
  replace hp := Lib.hid hp
  go_enter Try.func76, Try.ntmps76
  go_wp2
  go_region_held3 (fun w' => w'.cell? ⟨s, 2, none⟩ = some (.slice (some ⟨g, 0, none⟩) n c) ∧ w'.cell? ⟨g, k * 2, none⟩ = some (.int .i64 e0.id) ∧ w'.cell? ⟨g, k * 2 + 1, none⟩ = some (.pointer (some ⟨e0.d, 0, none⟩)))
    (first | exact ⟨h2, h0, h1⟩ | go_keep)
    (first
      | (go_at_call 89; (with_reducible refine hp.out.mono ?_); rintro e w1 ⟨rfl, q, rfl⟩))
  go_wp2
  exact bodyPost_ret (v := .agg #[.int .i64 e0.id, .pointer (some ⟨e0.d, 0, none⟩)]) (results_cell_row rfl _ _ w.heap.size 92 _ (0, 0) _ rfl (block2 ((Block.made w _ _).only (Only.drewN [] _ _) (by simp)) _ _) Try.underlying92 rfl infoL) rfl ⟨rfl, ((below_dr hdr _).setCell (by simp) _).setCell (by simp) _⟩
set_option maxRecDepth 100000 in
theorem newest_any (h : SX0 B w s nx most sv o P) (id : Int) : Calls Try.prog 51 #[.pointer (some ⟨s, 1, none⟩), .int .i64 id] w fun e w' => e = .returned (.int .i64 (findF ((lg P o).map En.id) id)) ∧ Below w.heap.size w w' := by
  have hle := Nat.le_trans h.le h.most
  have hc := fun w' (hb : Below w.heap.size w w') => count_any (h.only (Only.of_below hb []) (by simp) (by simp))
  have hln := fun w' (hb : Below w.heap.size w w') => line_any (h.only (Only.of_below hb []) (by simp) (by simp))
  have hl := lg_len P o
  generalize lg P o = G at hln hl ⊢
  generalize P.length = n at hc hln hl hle
  replace hc := Lib.hid hc
  replace hln := Lib.hid hln
  replace hl := Lib.hid hl
  clear h
  go_enter Try.func51, Try.ntmps51
  go_wp2_with ((go_at_call 55; (with_reducible refine (hc.out _ (Below.refl _ _)).mono ?_); rintro e w' ⟨rfl, rfl⟩))
  go_loopw [9] (fun i wr => ∃ k : Nat, k ≤ n ∧ i = .int .i64 k ∧ Hid (Below w.heap.size w wr ∧ findF (G.map En.id) id = findTo (G.map En.id) id (n - k))) (fun i _ => n - (intOf i).toNat)
  case atStart => exact ⟨0, Nat.zero_le _, rfl, Lib.hid ⟨Below.refl _ _, by rw [findF, List.length_map, hl.out]; rfl⟩⟩
  case round =>
    obtain ⟨k, hk, rfl, hR⟩ := hrel
    obtain ⟨hB, hF⟩ := hR.out
    by_cases hlt : k < n
    · have hi : n - 1 - k < G.length := by rw [hl.out]; omega
      have hcl := hln.out wr hB (n - 1 - k) (by omega) G[n - 1 - k] (List.getElem?_eq_getElem hi)
      have hstep : findTo (G.map En.id) id (n - k) = if G[n - 1 - k].id = id then ((n - 1 - k : Nat) : Int) else findTo (G.map En.id) id (n - (k + 1)) := by
        rw [show n - k = (n - 1 - k) + 1 by omega, findTo_succ, List.getElem?_map, List.getElem?_eq_getElem hi, show n - (k + 1) = n - 1 - k by omega]
        simp
      generalize G[n - 1 - k] = e0 at hcl hstep
      rw [show ((n - 1 - k : Nat) : Int) = (n : Int) - 1 - k by omega] at hcl hstep
      have hq := Lib.hid (hc.out wr hB)
      replace hcl := Lib.hid hcl
      have hfd := fieldL e0.id
      by_cases hid : e0.id = id
      · rw [if_pos hid] at hstep
        replace hstep := Lib.hid (hF.trans hstep)
        have hid' := beq_iff_eq.2 hid
        clear hF hid
        go_wp2_with (first
          | (go_at_call 55; (with_reducible refine (hq.out).mono ?_); rintro e w' ⟨rfl, rfl⟩)
          | (go_at_call 76; (with_reducible refine (hcl.out).mono ?_); rintro e w1 ⟨rfl, hb1⟩))
        go_ret
        exact ⟨ret_int hstep.out.symm, below_next hB hb1⟩
      · rw [if_neg hid] at hstep
        replace hstep := Lib.hid (hF.trans hstep)
        have hid' : (e0.id == id) = false := beq_eq_false_iff_ne.2 hid
        clear hF hid
        go_wp2_with (first
          | (go_at_call 55; (with_reducible refine (hq.out).mono ?_); rintro e w' ⟨rfl, rfl⟩)
          | (go_at_call 76; (with_reducible refine (hcl.out).mono ?_); rintro e w1 ⟨rfl, hb1⟩))
        have hres := Lib.hid (And.intro (below_next hB hb1) hstep.out)
        clear hb1
        go_roundw
        case rel => exact ⟨k + 1, by omega, by go_num, hres⟩
        case measure => simp [intOf]; omega
    · obtain rfl : k = n := by omega
      rw [Nat.sub_self] at hF
      replace hF := Lib.hid hF
      go_wp2
      go_ret
      exact ⟨ret_int hF.out.symm, hB⟩
end
end Go.Proofs.Ytaoegfdaemmogaa.Lns
namespace Go.Proofs.Ytaoegfdaemmogaa.Lns
open Go Go.RowKit Go.Proofs.Ytaoegfdaemmogaa.Com Go.Proofs.Ytaoegfdaemmogaa.Rw

theorem step_appN {P : Program} {t e : TypeId} {z : Value} {size : Nat} (E : ElemN P t e z size) {w : World} {ops : Array Oper} {o : Oper} {a : Go.Act} {K : Go.Act → World → Prop} {Q : Exit → Go.Act → World → Prop} {F : Prop} (hw : Region.wanted o (yielded ops a.tmps) = true) (s x : Operand)
    (ho : o.op = .call { callee := .builtin .append, args := #[s, x], argTypes := #[t, t] })
    (B : Nat) (v : Value) (n : Nat) (xs : List Value) (ad : Addr) (m c : Nat) (news : List Value) (hs : a.eval s = v) (hxe : a.eval x = .slice (some ad) m c)
    (h : w.ownsRow B e size v n xs) (hl : news.length = m * size) (hnews : ∀ j u, news[j]? = some u → w.cell? (ad.add j) = some u) (h1 : ∀ u ∈ news, u.oneCell' = true) (hB : B ≤ w.heap.size) (hx : n + m ≤ 100000)
    (hK : ∀ v' w', w'.ownsRow B e size v' (n + m) (xs ++ news) → Only v.ownBlock.toList w w' → (v'.ownBlock = v.ownBlock ∨ v'.ownBlock = some w.heap.size) → K (a.put o.dst v') w') :
    if Region.wanted o (yielded ops a.tmps) = true then Oper.wp P o a w K Q else F := by
  rw [if_pos hw]
  exact wp_appN E s x ho B v n xs ad m c news hs hxe h hl hnews h1 hB hx hK
theorem elemL : ElemN Try.prog 58 92 (.agg #[.int .i64 0, .pointer none]) 2 := by
  have h : (Try.prog.info? 92).map (fun i => (i.zero, i.size, decide (i.bytes ≤ 100))) = some (some (.agg #[.int .i64 0, .pointer none]), 2, true) := by kernel_rfl
  refine ⟨Try.underlying58, ?_, rfl, by omega⟩
  cases hq : Try.prog.info? 92 with
  | none => simp [hq] at h
  | some i =>
    simp only [hq, Option.map_some, Option.some.injEq, Prod.mk.injEq, decide_eq_true_eq] at h
    exact ⟨i, rfl, h.1, h.2.1, h.2.2⟩
theorem info31 : (Try.prog.info? 58).map (·.size) = some 1 := by kernel_rfl
theorem splice2 {α : Type} (cur : List α) (o : Nat) (a b : α) (h : o + 2 ≤ cur.length) : splice cur o [a, b] = (cur.set o a).set (o + 1) b := by
  unfold splice
  simp only [List.length_cons, List.length_nil]
  rw [List.set_eq_take_append_cons_drop, if_pos (by rw [List.length_set]; omega), List.take_add_one, List.getElem?_set, if_pos rfl, if_pos (by omega), List.take_set_of_le (Nat.le_refl _), List.drop_set_of_lt (by omega)]
  simp
theorem fl_set2 (P : List En) (o : Nat) (e0 : En) (h : o < P.length) : fl lineC (P.set o e0) = ((fl lineC P).set (o * 2) (.int .i64 e0.id)).set (o * 2 + 1) (.pointer (some ⟨e0.d, 0, none⟩)) := by
  have e1 := fl_splice lineC_length P [e0] [] o (by simp; omega)
  rw [List.append_nil, List.append_nil, fl_one, splice_set _ _ _ h] at e1
  rw [← e1]
  exact splice2 _ _ _ _ (by rw [fl_length lineC_length]; omega)
section
variable {B : Nat} {w w' : World} {s nx most o : Nat} {sv : Value} {P R : List En}

theorem setnx (h : SX0 B w s nx most sv o P) (m : Nat) (h0 : 0 < m) (h1 : m ≤ 1000000) : SX0 B (w.setCell ⟨s, 0, none⟩ (.int .i64 m)) s m most sv o P :=
  have ho : Only [s] w (w.setCell ⟨s, 0, none⟩ (.int .i64 m)) := Only.setCell w ⟨s, 0, none⟩ _
  ⟨h.blk.set 0 _, owns_only h.own ho (fun g hg => not_in1 (owns_typ h.own g hg) (Block.typ h.blk) (by decide)), h.le, h.old, h.olt, h.most, h0, h1, h.lo⟩
theorem take_any (h : SX0 B w s nx most sv o P) (hx : nx < 1000000) : Calls Try.prog 82 #[.pointer (some ⟨s, 0, none⟩)] w fun e w' => e = .returned (.int .i64 nx) ∧ SX0 B w' s (nx + 1) most sv o P ∧ Only [s] w w' := by
  obtain ⟨h0, _, _, _⟩ := h.cells
  have hf := h.blk.free 0
  have hn := setnx h (nx + 1) (by omega) (by omega)
  rw [Int.natCast_add, Int.natCast_one] at hn
  have hres := Lib.hid (And.intro hn (Only.setCell w ⟨s, 0, none⟩ (.int .i64 ((nx : Int) + 1))))
  clear h hn
  go_enter Try.func82, Try.ntmps82
  go_wp2
  go_ret
  exact ⟨ret_int (by omega), hres.out⟩
theorem taken_any (h : SX0 B w s nx most sv o P) (id : Int) : Calls Try.prog 93 #[.pointer (some ⟨s, 0, none⟩), .int .i64 id] w fun e w' => e = .returned (.bool (decide (1 ≤ id ∧ id < nx))) ∧ w = w' := by
  obtain ⟨h0, _, _, _⟩ := h.cells
  obtain ⟨b, hb⟩ : ∃ b, b = decide (1 ≤ id ∧ id < nx) := ⟨_, rfl⟩
  rw [← hb]
  replace hb := Lib.hid hb
  clear h
  by_cases h1 : 1 ≤ id
  · go_enter Try.func93, Try.ntmps93
    go_wp2
    go_ret
    exact ⟨ret_bool (by rw [hb.out, Bool.eq_iff_iff]; simp; omega), rfl⟩
  · have h2 : decide (1 ≤ id) = false := decide_eq_false h1
    go_enter Try.func93, Try.ntmps93
    go_wp2
    go_ret
    exact ⟨ret_bool (by rw [hb.out]; symm; exact decide_eq_false (by omega)), rfl⟩
end
end Go.Proofs.Ytaoegfdaemmogaa.Lns
namespace Go.Proofs.Ytaoegfdaemmogaa.Lns
open Go Go.RowKit Go.Proofs.Ytaoegfdaemmogaa.Com Go.Proofs.Ytaoegfdaemmogaa.Rw
section
variable {B : Nat} {w w' : World} {s nx most o : Nat} {sv : Value} {P R : List En}

def LCloneDone (w : World) (n : Nat) (X : List Value) (e : Ending) (w' : World) : Prop := ∃ sv', e = .returned sv' ∧ w'.ownsRow w.heap.size 92 2 sv' n X ∧ Below w.heap.size w w'
theorem own_news {w : World} {B : Nat} {e : TypeId} {s n : Nat} {ad : Addr} {c : Nat} {xs : List Value} (h : w.ownsRow B e s (.slice (some ad) n c) n xs) : ∀ j u, xs[j]? = some u → w.cell? (ad.add j) = some u := by
  intro j u hj
  rcases h.2 with ⟨h0, _⟩ | ⟨g', cap', cur, e', _, hg, _, _, _, ht⟩
  · cases h0
  · simp only [Value.slice.injEq, Option.some.injEq] at e'
    obtain ⟨rfl, _, rfl⟩ := e'
    rw [Addr.add_lit, Nat.zero_add, cell_of_row w g' _ cur _ (0, 0) hg]
    rw [← ht, List.getElem?_take] at hj
    split at hj
    · simpa using hj
    · cases hj
theorem owns_lower {w : World} {B B' : Nat} {e : TypeId} {s n : Nat} {v : Value} {xs : List Value} (h : w.ownsRow B e s v n xs) (hB : B' ≤ B) : w.ownsRow B' e s v n xs := by
  refine ⟨h.1, ?_⟩
  rcases h.2 with h2 | ⟨g, cap, cur, rfl, hg, r⟩
  · exact .inl h2
  · exact .inr ⟨g, cap, cur, rfl, by omega, r⟩
theorem infoR : (Try.prog.info? 76).map (·.size) = some 3 := by kernel_rfl
theorem block3 {w : World} {g : Nat} {t : TypeId} {a b c : Value} (h : Block w g t #[a, b, c]) (x y z : Value) : Block (((w.setCell ⟨g, 0, none⟩ x).setCell ⟨g, 1, none⟩ y).setCell ⟨g, 2, none⟩ z) g t #[x, y, z] := ((h.set 0 x).set 1 y).set 2 z
def TwinDone (w : World) (most o n : Nat) (X : List Value) (e : Ending) (w' : World) : Prop := ∃ sv', e = .returned (.agg #[.int .i64 most, sv', .int .i64 o]) ∧ w'.ownsRow w.heap.size 92 2 sv' n X ∧ Below w.heap.size w w'
end
end Go.Proofs.Ytaoegfdaemmogaa.Lns
