/-
  lines: a line is put into the ring.
-/
import Derived.Test.YtaoegfdaemmogaaLTwin
namespace Go.Proofs.Ytaoegfdaemmogaa.Lns
open Go Go.RowKit Go.Proofs.Ytaoegfdaemmogaa.Com Go.Proofs.Ytaoegfdaemmogaa.Rw
section
variable {B : Nat} {w w' : World} {s nx most o : Nat} {sv : Value} {P R : List En}

/-- What put leaves. -/
def PutDone (B : Nat) (w : World) (s nx most : Nat) (sv : Value) (R : List En) (w' : World) : Prop :=
  ∃ sv' o' P', SX0 B w' s nx most sv' o' P' ∧ lg P' o' = R ∧ Only (s :: sv.ownBlock.toList) w w' ∧ (sv'.ownBlock = sv.ownBlock ∨ ∃ g, sv'.ownBlock = some g ∧ w.heap.size ≤ g)
theorem PutDone.pre {w1 : World} (h : PutDone B w1 s nx most sv R w') (hb : Below w.heap.size w w1) : PutDone B w s nx most sv R w' := by
  obtain ⟨sv', o', P', h1, h2, h3, h4⟩ := h
  refine ⟨sv', o', P', h1, h2, (Only.of_below hb _).trans h3, h4.imp id fun ⟨g, e, hg⟩ => ⟨g, e, Nat.le_trans hb.size hg⟩⟩

theorem put_more (h : SX0 B w s nx most sv o P) (hlt : P.length < most) (e0 : En) {w1 w2 : World} {sv' : Value} (hb : Below w.heap.size w w1) (hown : w2.ownsRow B 92 2 sv' (P.length + 1) (fl lineC P ++ lineC e0)) (ho : Only sv.ownBlock.toList w1 w2) (hat : sv'.ownBlock = sv.ownBlock ∨ sv'.ownBlock = some w1.heap.size) :
    PutDone B w s nx most sv (pushL most (lg P o) e0) (w2.setCell ⟨s, 2, none⟩ sv') := by
  obtain rfl := h.old hlt
  have h1 := h.only (Only.of_below hb []) (by simp) (by simp)
  have hs2 : s ∉ sv.ownBlock.toList := not_inO (Block.typ h1.blk) h1.own (by decide)
  have hb2 := h1.blk.only ho hs2
  have ho3 : Only [s] w2 (w2.setCell ⟨s, 2, none⟩ sv') := Only.setCell w2 ⟨s, 2, none⟩ _
  refine ⟨sv', 0, P ++ [e0], ⟨hb2.set 2 sv', ?_, ?_, fun _ => rfl, .inr rfl, h.most, h.pos, h.small, h.lo⟩, ?_, ?_, ?_⟩
  · rw [List.length_append, List.length_singleton, fl_app, fl_one]
    exact owns_only hown ho3 (fun g hg => not_in1 (owns_typ hown g hg) (Block.typ hb2) (by decide))
  · simp; omega
  · rw [lg_0, lg_0]
    unfold pushL
    rw [if_neg (by omega)]
  · exact ((Only.of_below hb _).trans (ho.mono (by simp +contextual))).trans (ho3.mono (by simp))
  · exact hat.imp id fun e => ⟨_, e, hb.size⟩

set_option maxHeartbeats 1000000 in
theorem put_room (h : SX0 B w s nx most sv o P) (hlt : P.length < most) (e0 : En) : Calls Try.prog 94 #[.pointer (some ⟨s, 1, none⟩), .agg (lineC e0).toArray] w fun e w' => (∃ v, e = .returned v) ∧ PutDone B w s nx most sv (pushL most (lg P o) e0) w' := by
  have hle := Nat.le_trans h.le h.most
  have hbx := fun q => (Block.made w 92 #[.int .i64 e0.id, .pointer (some ⟨e0.d, 0, none⟩)]).only (Only.drewN [] _ q) (by simp)
  have hbl := fun q => below_dr (below_new w (.cells #[.int .i64 e0.id, .pointer (some ⟨e0.d, 0, none⟩)] 92)) q
  have h1 := fun q => h.only (Only.of_below (hbl q) []) (by simp) (by simp)
  have hc := fun q => count_any (h1 q)
  have hcs := (h.only (Only.of_below (below_new w (.cells #[.int .i64 e0.id, .pointer (some ⟨e0.d, 0, none⟩)] 92)) []) (by simp) (by simp)).cells
  obtain ⟨_, k1, _, _⟩ := hcs
  have hli : ((P.length : Int) < (most : Int)) := by omega
  have hmore := fun w1 w2 sv' (hb : Below w.heap.size w w1) => put_more (w1 := w1) (w2 := w2) (sv' := sv') h hlt e0 hb
  have hC : (lineC e0).toArray = #[.int .i64 e0.id, .pointer (some ⟨e0.d, 0, none⟩)] := rfl
  rw [hC]
  obtain ⟨ao, c, rfl, _⟩ := h.len
  have hsv := Nat.lt_of_le_of_lt h.lo h.blk.lt
  obtain ⟨n, hn⟩ : ∃ n, P.length = n := ⟨_, rfl⟩
  rw [hn] at hle hc hli
  replace hn := Lib.hid hn
  replace hc := Lib.hid hc
  replace h1 := Lib.hid h1
  replace hmore := Lib.hid hmore
  replace hbx := Lib.hid hbx
  replace hbl := Lib.hid hbl
  clear h
  go_enter Try.func94, Try.ntmps94
  go_wp2
  go_quiet ((go_at_call 55; with_reducible exact quiet_left (hc.out _)))
  go_wp2
  have hb0 := hbx.out nq
  have hl0 := hbl.out nq
  obtain ⟨bx, hbxe⟩ : ∃ bx, bx = w.heap.size := ⟨_, rfl⟩
  rw [← hbxe] at hb0
  rw [← hbxe]
  replace hbxe := Lib.hid hbxe
  have hs0 := h1.out nq
  clear hc hbx hbl h1 k1
  generalize (w.alloc (.cells #[.int .i64 e0.id, .pointer (some ⟨e0.d, 0, none⟩)] 92)).drewN nq = w0 at hb0 hl0 hs0 ⊢
  obtain ⟨_, _, k2, _⟩ := hs0.cells
  have b0 := hb0.cell 0 rfl
  have b1 := hb0.cell 1 rfl
  have hd0 : Below w0.heap.size w0 w0.drew := below_dr (Below.refl _ _) 1
  have hd1 := hd0.alloc (Nat.le_refl _) (.cells #[.int .i64 e0.id, .pointer (some ⟨e0.d, 0, none⟩)] 92)
  have hs1 := hs0.only (Only.of_below hd1 []) (by simp) (by simp)
  have hown := hs1.own
  have hblk := hs1.blk
  have hpn : P.length = n := hn.out
  have ka := (hs0.blk.only (Only.alloc [] w0 (.cells #[.int .i64 e0.id, .pointer (some ⟨e0.d, 0, none⟩)] 92)) (by simp)).cell 2 rfl
  rw [hpn] at hown k2 ka
  have hsO : s ∉ (Value.slice ao n c).ownBlock.toList := not_inO (Block.typ hblk) hown (by decide)
  have hln : ∀ j u, (lineC e0)[j]? = some u → (w0.drew.alloc (.cells #[.int .i64 e0.id, .pointer (some ⟨e0.d, 0, none⟩)] 92)).cell? ((⟨w0.heap.size, 0, none⟩ : Addr).add j) = some u := fun j u hj => by
    rw [Addr.add_lit, Nat.zero_add]
    exact (Block.made w0.drew 92 #[.int .i64 e0.id, .pointer (some ⟨e0.d, 0, none⟩)]).cell j (by simpa [lineC] using hj)
  have hBs : B ≤ w0.heap.size := Nat.le_trans hs0.lo (Nat.le_of_lt hs0.blk.lt)
  replace hown := Lib.hid hown
  replace hblk := Lib.hid hblk
  replace hsO := Lib.hid hsO
  replace hln := Lib.hid hln
  have hfin := fun w2 sv' => hmore.out _ w2 sv' (below_next hl0 hd1)
  rw [hpn] at hfin
  replace hfin := Lib.hid hfin
  clear hs1 hs0 hmore hl0 hd0 hd1 hb0 hpn
  go_region_law (first
    | (refine step_appN elemL rfl (.tmp 16) (.tmp 18) rfl B (.slice ao n c) n (fl lineC P) ⟨w0.heap.size, 0, none⟩ 1 1 (lineC e0) rfl rfl hown.out rfl hln.out (lineC_one e0) (by simp; omega) (by omega) ?_; intro sv2 w2 hown2 ho2 hat2; have hb2 := hblk.out.only ho2 hsO.out; have k2' := hb2.cell 2 rfl; have f2 := hb2.free 2; obtain ⟨a2, c2, rfl, _⟩ := owns_shape hown2))
  all_goals
    have hres := Lib.hid (hfin.out _ _ hown2 ho2 hat2)
    clear hown2 ho2 hat2 hb2
    go_wp2
    go_end0
    exact ⟨⟨_, rfl⟩, by rw [hn.out]; exact hres.out⟩

theorem lg_nil (o : Nat) : lg ([] : List En) o = [] := by simp [lg]
set_option maxHeartbeats 1000000 in
theorem put_none (h : SX0 B w s nx 0 sv o P) (e0 : En) : Calls Try.prog 94 #[.pointer (some ⟨s, 1, none⟩), .agg (lineC e0).toArray] w fun e w' => (∃ v, e = .returned v) ∧ PutDone B w s nx 0 sv (pushL 0 (lg P o) e0) w' := by
  obtain rfl : P = [] := List.eq_nil_of_length_eq_zero (by have := h.le; omega)
  have hbl := fun q => below_dr (below_new w (.cells #[.int .i64 e0.id, .pointer (some ⟨e0.d, 0, none⟩)] 92)) q
  have h1 := fun q => h.only (Only.of_below (hbl q) []) (by simp) (by simp)
  have hc := fun q => count_any (h1 q)
  obtain ⟨_, k1, _, _⟩ := (h.only (Only.of_below (below_new w (.cells #[.int .i64 e0.id, .pointer (some ⟨e0.d, 0, none⟩)] 92)) []) (by simp) (by simp)).cells
  have hC : (lineC e0).toArray = #[.int .i64 e0.id, .pointer (some ⟨e0.d, 0, none⟩)] := rfl
  rw [hC, lg_nil]
  simp only [List.length_nil] at hc
  have hres := fun q => (⟨sv, o, [], h1 q, by rw [lg_nil]; rfl, Only.of_below (hbl q) _, .inl rfl⟩ : PutDone B w s nx 0 sv (pushL 0 [] e0) _)
  replace hc := Lib.hid hc
  replace hres := Lib.hid hres
  clear h h1 hbl hC
  go_enter Try.func94, Try.ntmps94
  go_wp2
  go_quiet ((go_at_call 55; with_reducible exact quiet_left (hc.out _)))
  go_wp2
  go_end0
  exact ⟨⟨_, rfl⟩, hres.out _⟩

theorem put_mid (h : SX0 B w s nx most sv o P) (ho : o < P.length) (e0 : En) {g c : Nat} (hsv : sv = .slice (some ⟨g, 0, none⟩) P.length c) :
    SX0 B ((w.setCell ⟨g, o * 2, none⟩ (.int .i64 e0.id)).setCell ⟨g, o * 2 + 1, none⟩ (.pointer (some ⟨e0.d, 0, none⟩))) s nx most sv o (P.set o e0) ∧ Only sv.ownBlock.toList w ((w.setCell ⟨g, o * 2, none⟩ (.int .i64 e0.id)).setCell ⟨g, o * 2 + 1, none⟩ (.pointer (some ⟨e0.d, 0, none⟩))) := by
  have hs2 : s ∉ sv.ownBlock.toList := not_inO (Block.typ h.blk) h.own (by decide)
  have hown := h.own
  rw [hsv] at hown hs2
  obtain ⟨o1, _⟩ := World.ownsRow.stored hown (o * 2) (.int .i64 e0.id)
  obtain ⟨o2, _⟩ := World.ownsRow.stored o1 (o * 2 + 1) (.pointer (some ⟨e0.d, 0, none⟩))
  rw [← fl_set2 P o e0 ho] at o2
  have ho2 : Only [g] w ((w.setCell ⟨g, o * 2, none⟩ (.int .i64 e0.id)).setCell ⟨g, o * 2 + 1, none⟩ (.pointer (some ⟨e0.d, 0, none⟩))) := (Only.setCell w ⟨g, o * 2, none⟩ _).trans (Only.setCell _ ⟨g, o * 2 + 1, none⟩ _)
  have hsg : s ∉ [g] := by simpa [Value.ownBlock] using hs2
  have hle := h.le
  refine ⟨⟨h.blk.only ho2 hsg, by rw [List.length_set, hsv]; exact o2, by rw [List.length_set]; exact hle, fun hh => h.old (by rwa [List.length_set] at hh), by rw [List.length_set]; exact h.olt, h.most, h.pos, h.small, h.lo⟩, ?_⟩
  rw [hsv]
  exact ho2.mono (by simp [Value.ownBlock])
theorem put_over (h : SX0 B w s nx most sv o P) (ho : o < P.length) (hful : most ≤ P.length) (e0 : En) {w1 : World} (h1 : SX0 B w1 s nx most sv o (P.set o e0)) (hO : Only sv.ownBlock.toList w w1) :
    PutDone B w s nx most sv (pushL most (lg P o) e0) (w1.setCell ⟨s, 3, none⟩ (.int .i64 ((o + 1) % P.length : Nat))) := by
  have ho3 : Only [s] w1 (w1.setCell ⟨s, 3, none⟩ (.int .i64 ((o + 1) % P.length : Nat))) := Only.setCell w1 ⟨s, 3, none⟩ _
  have hle := h.le
  have hpo := lg_put P ho e0
  have hlg := lg_len P o
  have hmod : (o + 1) % P.length < P.length := Nat.mod_lt _ (by omega)
  refine ⟨sv, (o + 1) % P.length, P.set o e0, ⟨h1.blk.set 3 _, owns_only h1.own ho3 (fun g' hg => not_in1 (owns_typ h1.own g' hg) (Block.typ h1.blk) (by decide)), h1.le, fun hh => by rw [List.length_set] at hh; omega, by rw [List.length_set]; exact .inl hmod, h.most, h.pos, h.small, h.lo⟩, ?_, ?_, .inl rfl⟩
  · rw [hpo]
    unfold pushL
    rw [if_pos (by omega)]
  · exact (hO.mono (by simp +contextual)).trans (ho3.mono (by simp))
set_option maxHeartbeats 1000000 in
theorem put_full (h : SX0 B w s nx most sv o P) (hpos : 0 < P.length) (hful : most ≤ P.length) (e0 : En) : Calls Try.prog 94 #[.pointer (some ⟨s, 1, none⟩), .agg (lineC e0).toArray] w fun e w' => (∃ v, e = .returned v) ∧ PutDone B w s nx most sv (pushL most (lg P o) e0) w' := by
  have hle := Nat.le_trans h.le h.most
  have hle1 := h.le
  have ho : o < P.length := by have := h.olt; omega
  have hbx := fun q => (Block.made w 92 #[.int .i64 e0.id, .pointer (some ⟨e0.d, 0, none⟩)]).only (Only.drewN [] _ q) (by simp)
  have hbl := fun q => below_dr (below_new w (.cells #[.int .i64 e0.id, .pointer (some ⟨e0.d, 0, none⟩)] 92)) q
  have h1 := fun q => h.only (Only.of_below (hbl q) []) (by simp) (by simp)
  have hc := fun q => count_any (h1 q)
  obtain ⟨_, k1, _, _⟩ := (h.only (Only.of_below (below_new w (.cells #[.int .i64 e0.id, .pointer (some ⟨e0.d, 0, none⟩)] 92)) []) (by simp) (by simp)).cells
  have hC : (lineC e0).toArray = #[.int .i64 e0.id, .pointer (some ⟨e0.d, 0, none⟩)] := rfl
  rw [hC]
  obtain ⟨n, hn⟩ : ∃ n, P.length = n := ⟨_, rfl⟩
  rw [hn] at hle hc hpos hful hle1 ho
  obtain rfl : most = n := by omega
  replace hn := Lib.hid hn
  replace hc := Lib.hid hc
  replace h1 := Lib.hid h1
  replace hbx := Lib.hid hbx
  replace hbl := Lib.hid hbl
  clear h
  go_enter Try.func94, Try.ntmps94
  go_wp2
  go_quiet ((go_at_call 55; with_reducible exact quiet_left (hc.out _)))
  have hb0 := hbx.out nq
  have hl0 := hbl.out nq
  obtain ⟨bx, hbxe⟩ : ∃ bx, bx = w.heap.size := ⟨_, rfl⟩
  rw [← hbxe] at hb0
  have hs0 := h1.out nq
  have k1' := hs0.blk.cell 1 rfl
  clear hc hbx hbl h1 k1
  rw [← hbxe]
  replace hbxe := Lib.hid hbxe
  generalize (w.alloc (.cells #[.int .i64 e0.id, .pointer (some ⟨e0.d, 0, none⟩)] 92)).drewN nq = w0 at hb0 hl0 hs0 k1' ⊢
  obtain ⟨g, c, hsv, hcc, hcm, p0, p1⟩ := hs0.place (i := o) (by have := hn.out; omega)
  obtain ⟨_, _, k2, k3⟩ := hs0.cells
  have b0 := hb0.cell 0 rfl
  have b1 := hb0.cell 1 rfl
  have fg : ∀ j, w0.frozen? ⟨g, j, none⟩ = false := fun j => World.ownsRow.frozenAt (hsv ▸ hs0.own) j
  have hmid := put_mid hs0 (by rw [hn.out]; exact ho) e0 hsv
  have hfin := fun w1 h1 hO => (put_over (w1 := w1) hs0 (by rw [hn.out]; exact ho) (by rw [hn.out]; omega) e0 h1 hO).pre hl0
  have hpl := fun w1 (h1 : SX0 B w1 s nx most sv o (P.set o e0)) => place_any h1 1 (by omega) (by rw [List.length_set, hn.out]; omega)
  simp only [List.length_set] at hpl
  rw [hn.out] at hsv hpl hfin
  have h30 := hs0.blk.cell 3 rfl
  subst hsv
  have f0 := fg (o * 2)
  have f1 := fg (o * 2 + 1)
  replace hmid := Lib.hid hmid
  replace hfin := Lib.hid hfin
  replace hpl := Lib.hid hpl
  replace hs0 := Lib.hid hs0
  clear fg hb0 hl0
  go_wp2
  go_region
  obtain ⟨hm1, hO1⟩ := hmid.out
  have hm2 := hm1.only (only_drew [] _) (by simp) (by simp)
  have hO2 := hO1.trans (only_drew _ _)
  clear hm1 hO1 hmid
  generalize ((w0.setCell ⟨g, o * 2, none⟩ (.int .i64 e0.id)).setCell ⟨g, o * 2 + 1, none⟩ (.pointer (some ⟨e0.d, 0, none⟩))).drew = w2 at hm2 hO2 ⊢
  have hp2 := hpl.out w2 hm2
  rw [show ((1 : Nat) : Int) = 1 from rfl] at hp2
  replace hp2 := Lib.hid hp2
  obtain ⟨k, hk⟩ : ∃ k, k = (o + 1) % most := ⟨_, rfl⟩
  rw [← hk] at hp2
  replace hk := Lib.hid hk
  replace hm2 := Lib.hid hm2
  replace hO2 := Lib.hid hO2
  go_wp2_with ((go_at_call 89; (with_reducible refine (hp2.out).mono ?_); rintro e w3 ⟨rfl, q, rfl⟩; have hm3 := hm2.out.drew q; have k3' := hm3.blk.cell 3 rfl; have f3 := hm3.blk.free 3))
  have hres := hfin.out _ hm3 (hO2.out.trans (Only.drewN _ _ _))
  rw [← hk.out] at hres
  replace hres := Lib.hid hres
  clear hm3
  go_wp2
  go_end0
  exact ⟨⟨_, rfl⟩, hres.out⟩
theorem put_any (h : SX0 B w s nx most sv o P) (e0 : En) : Calls Try.prog 94 #[.pointer (some ⟨s, 1, none⟩), .agg (lineC e0).toArray] w fun e w' => (∃ v, e = .returned v) ∧ PutDone B w s nx most sv (pushL most (lg P o) e0) w' := by
  by_cases h1 : P.length < most
  · exact put_room h h1 e0
  · by_cases h2 : 0 < P.length
    · exact put_full h h2 (by omega) e0
    · obtain rfl : most = 0 := by omega
      exact put_none h e0
end
end Go.Proofs.Ytaoegfdaemmogaa.Lns
