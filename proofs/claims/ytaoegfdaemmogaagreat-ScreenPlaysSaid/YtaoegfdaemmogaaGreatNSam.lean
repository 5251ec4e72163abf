/-
  screen: the law's kept: is the scrollback the document's? screen: the law's same: are all lines and the margins the document's?
-/
import Derived.Test.YtaoegfdaemmogaaGreatNAll
import Derived.Test.YtaoegfdaemmogaaGreatRRJoin
import Derived.Deep.CutRange
import Derived.Test.YtaoegfdaemmogaaGreatNRrs
import Derived.Test.YtaoegfdaemmogaaGreatNNew
import Derived.BigQuiet
import Derived.Deep.QuietTactic
namespace Go.Proofs.YtaoegfdaemmogaaGreat.Scn
open Go Go.RowKit Go.Proofs.YtaoegfdaemmogaaGreat.Com Go.Proofs.YtaoegfdaemmogaaGreat.Rw Go.Proofs.YtaoegfdaemmogaaGreat.Lns
theorem vw_at {Rp Rr : List En} (h : vw Rp = vw Rr) {i : Nat} (hp : i < Rp.length) (hr : i < Rr.length) : Rr[i].id = Rp[i].id ∧ Rr[i].l = Rp[i].l := by
  have := congrArg (fun l => l[i]?) h
  simp only [vw, List.getElem?_map, List.getElem?_eq_getElem hp, List.getElem?_eq_getElem hr, Option.map_some, Option.some.injEq] at this
  exact ⟨(congrArg Prod.fst this).symm, (congrArg Prod.snd this).symm⟩
section
variable {B B2 : Nat} {w w' : World} {s r nx most : Nat} {sv lv : Value} {Rp Rr : List En}
set_option maxRecDepth 100000 in
set_option maxHeartbeats 8000000 in
theorem kept_any (hS : SX B w s nx most sv Rp) (hR : RX B2 w r nx most lv Rr) (hk : vw Rp = vw Rr) (hle : Rp.length ≤ 10000) :
    Calls Tryz.prog 12 #[.pointer (some ⟨s, 0, none⟩), .pointer (some ⟨r, 0, none⟩)] w fun e w' => e = .returned (.bool true) ∧ Below w.heap.size w w' := by
  have hlr : Rr.length = Rp.length := by rw [← vw_len Rr, ← hk, vw_len]
  obtain ⟨ao, c, hlv, hcm, hcl⟩ := hR.row.shape
  have hW := fun w' (hb : Below w.heap.size w w') => And.intro (hS.below hb) (hR.below hb)
  have hc := fun w' (hb : Below w.heap.size w w') => (hR.below hb).cells
  obtain ⟨n, hn⟩ : ∃ n, Rp.length = n := ⟨_, rfl⟩
  rw [hn] at hlr hle
  rw [hlv, hlr] at hc
  rw [hlr] at hcl
  have hLen := fun w' (hb : Below w.heap.size w w') => slen_any (hS.below hb)
  have hNx := fun w' (hb : Below w.heap.size w w') => next_any (hS.below hb)
  rw [hn] at hLen
  have hdr : Below w.heap.size w w.drew := below_dr (Below.refl _ _) 1
  obtain ⟨c0, c1, c2⟩ := hc w (Below.refl _ _)
  obtain ⟨d0, d1, d2⟩ := hc _ hdr
  replace hLen := Lib.hid hLen
  replace hNx := Lib.hid hNx
  replace hc := Lib.hid hc
  replace hdr := Lib.hid hdr
  replace hW := Lib.hid hW
  replace hk := Lib.hid hk
  replace hn := Lib.hid hn
  replace hlr := Lib.hid hlr
  replace hlv := Lib.hid hlv
  clear hS hR
  go_enter Tryz.func12, Tryz.ntmps12
  go_wp2
  go_region_held3 (fun w' => w'.cell? ⟨r, 0, none⟩ = some (.int .i64 nx) ∧ w'.cell? ⟨r, 2, none⟩ = some (.slice ao n c))
    (first | exact ⟨c0, c2⟩ | exact ⟨d0, d2⟩)
    (first
      | (go_at_call 16; (with_reducible refine (hLen.out _ hdr.out).mono ?_); rintro e w1 ⟨rfl, rfl⟩)
      | (go_at_call 43; (with_reducible refine (hNx.out _ hdr.out).mono ?_); rintro e w1 ⟨rfl, rfl⟩))
  go_wp2
  go_loopw [30] (fun i wr => ∃ k : Nat, k ≤ n ∧ i = .int .i64 k ∧ Hid (Below w.heap.size w wr)) (fun i _ => n - (intOf i).toNat)
  case atStart => exact ⟨0, Nat.zero_le _, rfl, hdr⟩
  case round =>
    obtain ⟨j, hj0, rfl, hZ⟩ := hrel
    have r2 : wr.cell? ⟨r, 2, none⟩ = some (.slice ao n c) := (hc.out _ hZ.out).2.2
    clear c0 c1 c2 d0 d1 d2
    by_cases hlt : j < n
    · have hj : j < Rp.length := by rw [hn.out]; omega
      have hjr : j < Rr.length := by rw [hlr.out]; omega
      obtain ⟨hS0, hR0⟩ := hW.out _ hZ.out
      have hat := at_yes hS0 j hj
      obtain ⟨hid, hll⟩ := vw_at hk.out hj hjr
      have hgd := (hS0.2 _ (List.getElem_mem hj)).1
      have hro := hR0.ref _ (List.getElem_mem hjr)
      have hra := hR0.row.at' hjr
      rw [hid] at hra
      rw [hll] at hro
      unfold AtDone at hat
      generalize Rp[j] = e0 at hat hgd hro hra
      generalize Rr[j].dr = dr at hro hra
      obtain ⟨gv, m, capr, qs, hx, hcel⟩ := hro
      have hm : e0.l.length = m := by rw [← hcel, cels_length, hx.len]
      rw [hm] at hat
      obtain ⟨g4, off, c4, hlv4, _, _, q0, q1⟩ := hra
      rw [hlv.out, hlr.out] at hlv4
      simp only [Value.slice.injEq, true_and] at hlv4
      obtain ⟨rfl, rfl⟩ := hlv4
      have hm5 := hx.small
      have hp4 := fun (ps : List (Cel × Value)) (hmap : ps.map (·.1) = e0.l) (p : Cel × Value) (hp : p ∈ ps) => (hgd.cell p.1 (by rw [← hmap]; exact List.mem_map_of_mem hp)).four
      have hq := fun w' (hb : Below wr.heap.size wr w') => And.intro ((World.cell?_of_block (w := wr) (w' := w') (hb.block _ (World.block_lt_of_cell? _ _ q0))).trans q0) ((World.cell?_of_block (w := wr) (w' := w') (hb.block _ (World.block_lt_of_cell? _ _ q1))).trans q1)
      have hxs := fun w' (hb : Below wr.heap.size wr w') => (hx.below hb).slice
      have hsm := fun w' (hb : Below wr.heap.size wr w') (w0 : World) (g2 : Nat) (ps : List (Cel × Value)) (hA : Api w0.heap.size w' (.slice (some ⟨g2, 0, none⟩) m m) ps) (hmap : ps.map (·.1) = e0.l) => same_any hA (hx.below hb).api (by rw [← hm, ← hmap, List.length_map]) (by rw [hmap]; exact hcel) hm5 (hp4 ps hmap)
      replace hat := Lib.hid hat
      replace hq := Lib.hid hq
      replace hxs := Lib.hid hxs
      replace hsm := Lib.hid hsm
      replace hx := Lib.hid hx
      have hjI : (j : Int) < (n : Int) := by omega
      have hrd := Lib.hid (fun w' (hb : Below wr.heap.size wr w') => (hc.out _ (below_next hZ.out hb)).2.2)
      clear hp4 hgd hj hjr hid hll hS0 hR0 q0 q1
      go_wp2_with ((go_at_call 44; (with_reducible refine (hat.out).mono ?_); rintro e w3 ⟨g2, ps, rfl, hA, hmap, hb3, hg2⟩; have hb4 := below_next hb3 (below_new w3 (.cells #[.int .i64 e0.id, .slice (some ⟨g2, 0, none⟩) m m] 80)); have r3 := hrd.out _ hb4))
      have hb8 := Block.made w3 80 #[.int .i64 e0.id, .slice (some ⟨g2, 0, none⟩) m m]
      have hA4 := hA.below (below_new w3 (.cells #[.int .i64 e0.id, .slice (some ⟨g2, 0, none⟩) m m] 80))
      obtain ⟨b8, hb8e⟩ : ∃ b8, b8 = w3.heap.size := ⟨_, rfl⟩
      rw [← hb8e] at hb8 ⊢
      clear hA hb3 r3 hb8e
      generalize w3.alloc (.cells #[.int .i64 e0.id, .slice (some ⟨g2, 0, none⟩) m m] 80) = w4 at hb4 hb8 hA4 ⊢
      have hdr4 : Below w4.heap.size w4 w4.drew := below_dr (Below.refl _ _) 1
      have hS4 := fun w' (hb : Below w4.heap.size w4 w') => (⟨(hb8.only (Only.of_below hb []) (by simp)).cell 0 rfl, (hb8.only (Only.of_below hb []) (by simp)).cell 1 rfl, hrd.out _ (below_next hb4 hb), (hq.out _ (below_next hb4 hb)).1, (hq.out _ (below_next hb4 hb)).2, hxs.out _ (below_next hb4 hb)⟩ : w'.cell? ⟨b8, 0, none⟩ = some (.int .i64 e0.id) ∧ w'.cell? ⟨b8, 1, none⟩ = some (.slice (some ⟨g2, 0, none⟩) m m) ∧ w'.cell? ⟨r, 2, none⟩ = some (.slice (some ⟨g4, off, none⟩) n c) ∧ w'.cell? ⟨g4, off + j * 2, none⟩ = some (.int .i64 e0.id) ∧ w'.cell? ⟨g4, off + j * 2 + 1, none⟩ = some (.pointer (some ⟨dr, 0, none⟩)) ∧ w'.cell? ⟨dr, 0, none⟩ = some (.slice (some ⟨gv, 0, none⟩) m capr))
      obtain ⟨s0, s1, s2, s3, s4, s5⟩ := hS4 w4 (Below.refl _ _)
      have hsame := hsm.out _ (below_next hb4 hdr4) wr g2 ps (hA4.below hdr4) hmap
      replace hS4 := Lib.hid hS4
      replace hdr4 := Lib.hid hdr4
      replace hsame := Lib.hid hsame
      replace hb4 := Lib.hid hb4
      clear hb8 hA4 hmap hsm hq hxs hat
      go_region_held3 (fun w' => w'.cell? ⟨b8, 0, none⟩ = some (.int .i64 e0.id) ∧ w'.cell? ⟨b8, 1, none⟩ = some (.slice (some ⟨g2, 0, none⟩) m m) ∧ w'.cell? ⟨r, 2, none⟩ = some (.slice (some ⟨g4, off, none⟩) n c) ∧ w'.cell? ⟨g4, off + j * 2, none⟩ = some (.int .i64 e0.id) ∧ w'.cell? ⟨g4, off + j * 2 + 1, none⟩ = some (.pointer (some ⟨dr, 0, none⟩)) ∧ w'.cell? ⟨dr, 0, none⟩ = some (.slice (some ⟨gv, 0, none⟩) m capr))
        (first | exact ⟨s0, s1, s2, s3, s4, s5⟩ | exact hS4.out _ hdr4.out | exact hS4.out _ hb5.out)
        (first
          | (go_at_call 41; (with_reducible refine hsame.out.mono ?_); rintro e w5 ⟨rfl, hb5'⟩; have hb5 := Lib.hid (below_next hdr4.out hb5')))
      have hbz := Lib.hid (below_next hZ.out (below_next hb4.out hb5.out))
      clear hb5' s0 s1 s2 s3 s4 s5 hS4 hsame r2
      go_wp2
      go_roundw
      case rel => exact ⟨j + 1, by omega, by go_num, hbz⟩
      case measure => simp [intOf]; omega
    · obtain rfl : j = n := by omega
      go_wp2
      go_ret
      exact ⟨rfl, hZ.out⟩
theorem kept_sc {x q r2 s2 : Nat} {S : Scr} (h : SC B w x s2 S) (g : RC B2 w r2 q S) (hm : S.R.length ≤ 10000) :
    Calls Tryz.prog 12 #[.pointer (some ⟨s2, 0, none⟩), .pointer (some ⟨q, 0, none⟩)] w fun e w' => e = .returned (.bool true) ∧ Below w.heap.size w w' := by
  obtain ⟨sv, lv, L, R, h1, h2, h3⟩ := h
  obtain ⟨rv, lv', L', R', g1, g2, g3⟩ := g
  exact kept_any h1.ln.st g1.st (h3.trans g3.symm) (by rw [← vw_len, h3]; exact hm)
end
end Go.Proofs.YtaoegfdaemmogaaGreat.Scn
namespace Go.Proofs.YtaoegfdaemmogaaGreat.Scn
open Go Go.RowKit Go.Proofs.YtaoegfdaemmogaaGreat.Com Go.Proofs.YtaoegfdaemmogaaGreat.Rw Go.Proofs.YtaoegfdaemmogaaGreat.Lns
section
variable {B : Nat} {w w' : World} {x s r q : Nat} {S : Scr}
/-- A row that is there, and its cells. -/
def RowCel (w : World) (n : Nat) (l : List Cel) (e : Ending) (w' : World) : Prop := ∃ d, e = .returned (.pointer (some ⟨d, 0, none⟩)) ∧ w = w' ∧ Calls Tryz.prog 42 #[.pointer (some ⟨d, 0, none⟩)] w (GotCells w n l)
theorem row_cel (h : SC B w x s S) (hF : Fit S) {i : Nat} (hi : i < S.L.length) : Calls Tryz.prog 32 #[.pointer (some ⟨x, 0, none⟩), .int .i64 i] w (RowCel w S.cols S.L[i].2) := by
  refine (row_yes h hF.len i hi).mono ?_
  rintro e w' ⟨⟨d, rfl, sv, lv, L, R, h1, h2, h3, en, he, rfl⟩, rfl⟩
  have hm := List.mem_of_getElem? he
  obtain ⟨hgd, _, _, n, cap, tail, hx⟩ := h1.rows en hm
  have hl : S.L[i].2 = en.l := by
    have e2 : (vw L)[i]? = some (en.id, en.l) := by simp [vw, he]
    rw [h2, List.getElem?_eq_getElem hi] at e2
    rw [Option.some.inj e2]
  have hc := hF.wid _ (List.getElem_mem hi)
  have h4 := cells_any hx (fun c hc => (hgd.cell c hc).four)
  have hn := hx.len
  rw [hl] at hc ⊢
  rw [show n = S.cols by omega] at h4
  exact ⟨_, rfl, rfl, h4⟩
/-- The reference's row at a place. -/
theorem RC.rowIn (h : RC B w r q S) {i : Nat} (hi : i < S.L.length) : ∃ g c d gv m capr qs, w.cell? ⟨r, 3, none⟩ = some (.slice (some ⟨g, 0, none⟩) S.L.length c) ∧ w.cell? ⟨g, i * 2, none⟩ = some (.int .i64 S.L[i].1) ∧ w.cell? ⟨g, i * 2 + 1, none⟩ = some (.pointer (some ⟨d, 0, none⟩)) ∧ RefX B w d gv m capr qs ∧ cels qs = S.L[i].2 ∧ Rw.Good S.L[i].2 := by
  obtain ⟨rv, lv, L, R, h1, h2, h3⟩ := h
  have hl : L.length = S.L.length := by rw [← h2, vw_len]
  have hiL : i < L.length := by omega
  have hc := h1.cells.2.2.2.1
  obtain ⟨g, c, rfl, q0, q1, _⟩ := h1.elem rfl hiL
  rw [hl] at hc
  have hat : S.L[i] = (L[i].id, L[i].l) := by simp only [← h2, vw, List.getElem_map]
  obtain ⟨⟨gv, m, capr, qs, hx, hcel⟩, hgd⟩ := h1.refs L[i] (List.getElem_mem hiL)
  rw [hat]
  exact ⟨g, c, _, gv, m, capr, qs, hc, q0, q1, hx, hcel, hgd⟩
theorem RC.c2 (h : RC B w r q S) : w.cell? ⟨r, 2, none⟩ = some (.int .i64 S.cols) := by
  obtain ⟨rv, lv, L, R, h1, h2, h3⟩ := h
  exact h1.cells.2.2.1
theorem q_of {P : Program} {f : FuncId} {args : Array Value} {w : World} {n : Nat} {v : Value} (h : Calls P f args (w.drewN n) fun e w' => e = .returned v ∧ w.drewN n = w') : Calls P f args (w.drewN n) fun e w'' => e = .returned v ∧ ∃ m, w'' = w.drewN m :=
  h.mono fun _ _ ⟨he, hm⟩ => ⟨he, n, hm.symm⟩
theorem idAt_m1 (L : List Ln) : idAt L (-1) = 0 := by unfold idAt; rw [if_neg (by omega)]
theorem idAt_len (L : List Ln) : idAt L (L.length : Int) = 0 := by unfold idAt; rw [if_neg (by omega)]
set_option maxRecDepth 100000 in
set_option maxHeartbeats 8000000 in
theorem same_sc (h : SC B w x s S) (g : RC B w r q S) (hF : Fit S) (id : Int) :
    Calls Tryz.prog 11 #[.pointer (some ⟨x, 0, none⟩), .pointer (some ⟨r, 0, none⟩), .int .i64 id] w fun e w' => e = .returned (.bool true) ∧ Below w.heap.size w w' := by
  have hl5 := hF.len5
  have hmg := Lib.hid (margins_sc h hF.len)
  have hro := Lib.hid (fun w' (hb : Below w.heap.size w w') => rows_sc (h.below hb) hF.len)
  have hco := Lib.hid (fun w' (hb : Below w.heap.size w w') => cols_sc (h.below hb) hF.len)
  have hf1 := fun w' (hb : Below w.heap.size w w') => sfind_sc (h.below hb) hF id
  have hf2 := fun w' (hb : Below w.heap.size w w') => rfind_sc (g.below hb) hl5 id
  have hi1 := fun w' (hb : Below w.heap.size w w') => id_sc (h.below hb) hF.len (-1)
  have hi2 := fun w' (hb : Below w.heap.size w w') => id_sc (h.below hb) hF.len (S.L.length : Int)
  have hr1 := Lib.hid (fun w' (hb : Below w.heap.size w w') => row_no (h.below hb) hF.len (-1) (by omega))
  have hr2 := fun w' (hb : Below w.heap.size w w') => row_no (h.below hb) hF.len (S.L.length : Int) (by omega)
  have hid := fun w' (hb : Below w.heap.size w w') i (hi : i < S.L.length) => (idAt_in hi ▸ id_sc (h.below hb) hF.len (i : Int) : Calls Tryz.prog 40 #[.pointer (some ⟨x, 0, none⟩), .int .i64 i] w' fun e w1 => e = .returned (.int .i64 S.L[i].1) ∧ w' = w1)
  have hrc := fun w' (hb : Below w.heap.size w w') i (hi : i < S.L.length) => row_cel (h.below hb) hF hi
  have hrr := fun w' (hb : Below w.heap.size w w') i (hi : i < S.L.length) => (g.below hb).rowIn hi
  have hwd := fun i (hi : i < S.L.length) => hF.wid _ (List.getElem_mem hi)
  have hcells := fun w' (hb : Below w.heap.size w w') => (⟨RC.c2 (g.below hb), (g.below hb).slice, (g.below hb).cells.2⟩ : w'.cell? ⟨r, 2, none⟩ = some (.int .i64 S.cols) ∧ (∃ ao c, w'.cell? ⟨r, 3, none⟩ = some (.slice ao S.L.length c) ∧ S.L.length ≤ c ∧ c ≤ maxLen) ∧ w'.cell? ⟨r, 4, none⟩ = some (.int .i64 S.top) ∧ w'.cell? ⟨r, 5, none⟩ = some (.int .i64 S.bot))
  rw [idAt_m1] at hi1
  rw [idAt_len] at hi2
  generalize firstF (idsL S.L) id = F at hf1 hf2
  obtain ⟨n, hn⟩ : ∃ n, S.L.length = n := ⟨_, rfl⟩
  have hnn : 0 < n := by have := hF.len; omega
  rw [hn] at hl5 hro hi2 hr2 hcells
  replace hf1 := Lib.hid hf1
  replace hf2 := Lib.hid hf2
  replace hi1 := Lib.hid hi1
  replace hi2 := Lib.hid hi2
  replace hr2 := Lib.hid hr2
  replace hid := Lib.hid hid
  replace hrc := Lib.hid hrc
  replace hrr := Lib.hid hrr
  replace hwd := Lib.hid hwd
  replace hcells := Lib.hid hcells
  replace hn := Lib.hid hn
  clear h g hF
  go_enter Tryz.func11, Tryz.ntmps11
  go_wp2_with (first
    | (go_at_call 35; (with_reducible refine hmg.out.mono ?_); rintro e w1 ⟨rfl, hb1⟩))
  obtain ⟨c2, ⟨ao, c, c3, _, _⟩, c4, c5⟩ := hcells.out _ hb1
  have hbq : ∀ m, Below w.heap.size w (w1.drewN m) := fun m => below_dr hb1 m
  have z1 : ((n : Int) != (n : Int)) = false := by simp
  have z2 : ((S.cols : Int) != (S.cols : Int)) = false := by simp
  have z3 : ((S.top : Int) != (S.top : Int)) = false := by simp
  have z4 : ((S.bot : Int) != (S.bot : Int)) = false := by simp
  have z5 : (F != F) = false := by simp
  go_quiet ((first
    | (go_at_call 36; with_reducible exact q_of (hro.out _ (hbq _)))
    | (go_at_call 37; with_reducible exact q_of (hco.out _ (hbq _)))
    | (go_at_call 38; with_reducible exact q_of (hf1.out _ (hbq _)))
    | (go_at_call 39; with_reducible exact q_of (hf2.out _ (hbq _)))
    | (go_at_call 40; with_reducible exact q_of (hi1.out _ (hbq _)))
    | (go_at_call 40; with_reducible exact q_of (hi2.out _ (hbq _)))
    | (go_at_call 32; with_reducible exact q_of (hr1.out _ (hbq _)))
    | (go_at_call 32; with_reducible exact q_of (hr2.out _ (hbq _)))))
  go_wp2
  clear c2 c3 c4 c5 hmg hro hco hf1 hf2 hi1 hi2 hr1 hr2 hcells
  have hst := Lib.hid (hbq 0)
  go_loopw [92] (fun i wr => ∃ k : Nat, k ≤ n ∧ i = .int .i64 k ∧ Hid (Below w.heap.size w wr)) (fun i _ => n - (intOf i).toNat)
  case atStart => exact ⟨0, Nat.zero_le _, rfl, Lib.hid (hbq _)⟩
  case round =>
    obtain ⟨j, hj, rfl, hZ⟩ := hrel
    clear hst hbq hb1
    by_cases hlt : j < n
    · have hjL : j < S.L.length := by rw [hn.out]; exact hlt
      obtain ⟨g, c', d, gv, m, capr, qs, k3, q0, q1, hx, hcel, hgd⟩ := hrr.out _ hZ.out j hjL
      rw [hn.out] at k3
      have hlen := hwd.out j hjL
      have hidc := fun wz (hb : Below wr.heap.size wr wz) => hid.out wz (below_next hZ.out hb) j hjL
      have hrcc := fun wz (hb : Below wr.heap.size wr wz) => hrc.out wz (below_next hZ.out hb) j hjL
      have hjI : (j : Int) < (n : Int) := by omega
      generalize S.L[j] = e0 at q0 hcel hgd hlen hidc hrcc
      obtain ⟨eid, el⟩ := e0
      simp only at q0 hcel hgd hlen hidc hrcc
      have hm : m = S.cols := by rw [← hx.len, ← cels_length, hcel]; exact hlen
      subst hm
      generalize S.cols = m at hx hlen hrcc
      have hm5 := hx.small
      have hp4 := fun (ps : List (Cel × Value)) (hmap : ps.map (·.1) = el) (p : Cel × Value) (hp : p ∈ ps) => (hgd.cell p.1 (by rw [← hmap]; exact List.mem_map_of_mem hp)).four
      have hS4 := fun w' (hb : Below wr.heap.size wr w') => (⟨(World.cell?_of_block (w := wr) (w' := w') (hb.block _ (World.block_lt_of_cell? _ _ k3))).trans k3, (World.cell?_of_block (w := wr) (w' := w') (hb.block _ (World.block_lt_of_cell? _ _ q0))).trans q0, (World.cell?_of_block (w := wr) (w' := w') (hb.block _ (World.block_lt_of_cell? _ _ q1))).trans q1, (hx.below hb).slice⟩ : w'.cell? ⟨r, 3, none⟩ = some (.slice (some ⟨g, 0, none⟩) n c') ∧ w'.cell? ⟨g, j * 2, none⟩ = some (.int .i64 eid) ∧ w'.cell? ⟨g, j * 2 + 1, none⟩ = some (.pointer (some ⟨d, 0, none⟩)) ∧ w'.cell? ⟨d, 0, none⟩ = some (.slice (some ⟨gv, 0, none⟩) m capr))
      have hsm := fun w' (hb : Below wr.heap.size wr w') (w0 : World) (g2 : Nat) (ps : List (Cel × Value)) (hA : Api w0.heap.size w' (.slice (some ⟨g2, 0, none⟩) m m) ps) (hmap : ps.map (·.1) = el) => same_any hA (hx.below hb).api (by rw [← hlen, ← hmap, List.length_map]) (by rw [hmap]; exact hcel) hm5 (hp4 ps hmap)
      have hdr : Below wr.heap.size wr wr.drew := below_dr (Below.refl _ _) 1
      have z6 : (eid != eid) = false := by simp
      obtain ⟨s0, s1, s2, s3⟩ := hS4 wr (Below.refl _ _)
      replace hS4 := Lib.hid hS4
      replace hsm := Lib.hid hsm
      replace hidc := Lib.hid hidc
      replace hrcc := Lib.hid hrcc
      replace hdr := Lib.hid hdr
      clear hp4 hgd hx hcel hlen k3 q0 q1 hjL hid hrc hrr hwd
      go_wp2
      go_region_held3 (fun w' => w'.cell? ⟨r, 3, none⟩ = some (.slice (some ⟨g, 0, none⟩) n c') ∧ w'.cell? ⟨g, j * 2, none⟩ = some (.int .i64 eid) ∧ w'.cell? ⟨g, j * 2 + 1, none⟩ = some (.pointer (some ⟨d, 0, none⟩)) ∧ w'.cell? ⟨d, 0, none⟩ = some (.slice (some ⟨gv, 0, none⟩) m capr))
        (first | exact ⟨s0, s1, s2, s3⟩ | exact hS4.out _ hdr.out | exact hS4.out _ hb5.out | exact hS4.out _ hb6.out)
        (first
          | (go_at_call 40; (with_reducible refine (hidc.out _ hdr.out).mono ?_); rintro e w2 ⟨rfl, rfl⟩)
          | (go_at_call 32; (with_reducible refine (hrcc.out _ hdr.out).mono ?_); rintro e w2 ⟨d2, rfl, rfl, hce⟩; replace hce := Lib.hid hce)
          | (go_at_call 42; (with_reducible refine hce.out.mono ?_); rintro e w5 ⟨g2, ps, rfl, hA, hmap, hb5', hg2⟩; have hb5 := Lib.hid (below_next hdr.out hb5'); have hsame := Lib.hid (hsm.out _ hb5.out _ g2 ps hA hmap); clear hA hmap hg2)
          | (go_at_call 41; (with_reducible refine hsame.out.mono ?_); rintro e w6 ⟨rfl, hb6'⟩; have hb6 := Lib.hid (below_next hb5.out hb6')))
      have hbz := Lib.hid (below_next hZ.out hb6.out)
      clear hb5' hb6' s0 s1 s2 s3 hS4 hsame hsm hidc hrcc
      go_wp2
      go_roundw
      case rel => exact ⟨j + 1, by omega, by go_num, hbz⟩
      case measure => simp [intOf]; omega
    · obtain rfl : j = n := by omega
      go_wp2
      go_ret
      exact ⟨rfl, hZ.out⟩
end
end Go.Proofs.YtaoegfdaemmogaaGreat.Scn
