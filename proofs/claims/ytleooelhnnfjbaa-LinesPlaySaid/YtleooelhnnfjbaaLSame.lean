/-
  lines: the law's same: is the scrollback the document's?
-/
import Derived.Test.YtleooelhnnfjbaaLRef2
import Derived.Test.YtleooelhnnfjbaaRRSame
import Derived.Deep.CutRange
import Derived.Maps.RangeWalk
namespace Go.Proofs.Ytleooelhnnfjbaa.Lns
open Go Go.RowKit Go.Proofs.Ytleooelhnnfjbaa.Com Go.Proofs.Ytleooelhnnfjbaa.Rw

/-- What both sides tell of a line. -/
def ek (e : En) : Int × List Cel := (e.id, e.l)
theorem ek_len {Rp Rr : List En} (h : Rp.map ek = Rr.map ek) : Rr.length = Rp.length := by
  have := congrArg List.length h
  simpa using this.symm
theorem ek_at {Rp Rr : List En} (h : Rp.map ek = Rr.map ek) {i : Nat} (hp : i < Rp.length) (hr : i < Rr.length) : Rr[i].id = Rp[i].id ∧ Rr[i].l = Rp[i].l := by
  have := congrArg (fun l => l[i]?) h
  simp only [List.getElem?_map, List.getElem?_eq_getElem hp, List.getElem?_eq_getElem hr, Option.map_some, Option.some.injEq] at this
  unfold ek at this
  exact ⟨(congrArg Prod.fst this).symm, (congrArg Prod.snd this).symm⟩
theorem ek_ids {Rp Rr : List En} (h : Rp.map ek = Rr.map ek) : Rr.map En.id = Rp.map En.id := by
  have e : ∀ R : List En, R.map En.id = (R.map ek).map Prod.fst := fun R => by simp [ek]
  rw [e, e, h]
theorem infoI32 : (Try.prog.info? 21).map (·.size) = some 1 := by kernel_rfl

/-- The cells that were told, and are written over. -/
structure GSt (w0 w : World) (g2 n b8 : Nat) (id : Int) : Prop where
  blk : ∃ cs : Array Value, Block w g2 87 cs ∧ n * 6 ≤ cs.size
  box : Block w b8 66 #[.int .i64 id, .slice (some ⟨g2, 0, none⟩) n n]
  below : Below w0.heap.size w0 w
  lo : w0.heap.size ≤ g2
theorem GSt.stay {w0 w w' : World} {g2 n b8 : Nat} {id : Int} (h : GSt w0 w g2 n b8 id) (hb : Below w.heap.size w w') : GSt w0 w' g2 n b8 id := by
  obtain ⟨cs, h1, h2⟩ := h.blk
  exact ⟨⟨cs, h1.only (Only.of_below hb []) (by simp), h2⟩, h.box.only (Only.of_below hb []) (by simp), below_next h.below hb, h.lo⟩
theorem GSt.set {w0 w w' : World} {g2 n b8 : Nat} {id : Int} (h : GSt w0 w g2 n b8 id) {cs cs' : Array Value} (hb : Block w g2 87 cs) (hs : cs'.size = cs.size) (hn : n * 6 ≤ cs.size) (hb' : Block w' g2 87 cs') (ho : Only [g2] w w') : GSt w0 w' g2 n b8 id :=
  ⟨⟨cs', hb', by omega⟩, h.box.only ho (not_in1 (Block.typ h.box) (Block.typ hb) (by decide)), h.below.trans (ho.below h.below.size (by simpa using h.lo)), h.lo⟩

section
variable {B : Nat} {w w' : World} {s r nx most : Nat} {sv lv : Value} {Rp Rr : List En}
set_option maxRecDepth 100000 in
set_option maxHeartbeats 8000000 in
theorem law_same (hS : SX B w s nx most sv Rp) (hR : RX B w r nx most lv Rr) (hk : Rp.map ek = Rr.map ek) (hle : Rp.length ≤ 10000) (id : Int) :
    Calls Try.prog 21 #[.pointer (some ⟨s, 0, none⟩), .pointer (some ⟨r, 0, none⟩), .int .i64 id] w fun e w' => e = .returned (.bool true) ∧ Below w.heap.size w w' := by
  have hlr := ek_len hk
  obtain ⟨ao, c, hlv, hcm, hcl⟩ := hR.row.shape
  have hW := fun w' (hb : Below w.heap.size w w') => And.intro (hS.below hb) (hR.below hb)
  have hc := fun w' (hb : Below w.heap.size w w') => (hR.below hb).cells
  obtain ⟨n, hn⟩ : ∃ n, Rp.length = n := ⟨_, rfl⟩
  rw [hn] at hlr hle
  rw [hlv, hlr] at hc
  rw [hlr] at hcl
  have hLen := fun w' (hb : Below w.heap.size w w') => slen_any (hS.below hb)
  have hNx := fun w' (hb : Below w.heap.size w w') => next_any (hS.below hb)
  have hCp := fun w' (hb : Below w.heap.size w w') => cap_any (hS.below hb)
  have hFd := fun w' (hb : Below w.heap.size w w') => find_any (hS.below hb) id
  have hRf := fun w' (hb : Below w.heap.size w w') => rfind_any (hR.below hb) (by rw [hlr]; omega) id
  rw [ek_ids hk] at hRf
  rw [hn] at hLen
  generalize findF (Rp.map En.id) id = F at hFd hRf
  have hdr : Below w.heap.size w w.drew := below_dr (Below.refl _ _) 1
  obtain ⟨c0, c1, c2⟩ := hc w (Below.refl _ _)
  replace hLen := Lib.hid hLen
  replace hNx := Lib.hid hNx
  replace hCp := Lib.hid hCp
  replace hFd := Lib.hid hFd
  replace hRf := Lib.hid hRf
  replace hc := Lib.hid hc
  replace hdr := Lib.hid hdr
  replace hW := Lib.hid hW
  replace hk := Lib.hid hk
  replace hn := Lib.hid hn
  replace hlr := Lib.hid hlr
  replace hlv := Lib.hid hlv
  clear hS hR
  go_enter Try.func21, Try.ntmps21
  go_wp2
  go_region_held3 (fun w' => w'.cell? ⟨r, 0, none⟩ = some (.int .i64 nx) ∧ w'.cell? ⟨r, 1, none⟩ = some (.int .i64 most) ∧ w'.cell? ⟨r, 2, none⟩ = some (.slice ao n c))
    (first | exact ⟨c0, c1, c2⟩ | exact hc.out _ hdr.out | exact hc.out _ hb2.out)
    (first
      | (go_at_call 22; (with_reducible refine (hLen.out _ hdr.out).mono ?_); rintro e w1 ⟨rfl, rfl⟩)
      | (go_at_call 23; (with_reducible refine (hNx.out _ hdr.out).mono ?_); rintro e w1 ⟨rfl, rfl⟩)
      | (go_at_call 26; (with_reducible refine (hCp.out _ hdr.out).mono ?_); rintro e w1 ⟨rfl, rfl⟩)
      | (go_at_call 25; (with_reducible refine (hFd.out _ hdr.out).mono ?_); rintro e w2 ⟨rfl, hb2'⟩; have hb2 := Lib.hid (below_next hdr.out hb2'))
      | (go_at_call 47; (with_reducible refine (hRf.out _ hb2.out).mono ?_); rintro e w3 ⟨rfl, rfl⟩))
  clear hb2'
  go_wp2
  go_loopw [7] (fun i wr => ∃ k : Int, -1 ≤ k ∧ k ≤ n + 1 ∧ i = .int .i64 k ∧ Hid (Below w.heap.size w wr)) (fun i _ => (n + 1 - intOf i).toNat)
  case atStart => exact ⟨-1, by omega, by omega, rfl, hb2⟩
  case round =>
    obtain ⟨k, hk0, hk1, rfl, hZ⟩ := hrel
    have r2 : wr.cell? ⟨r, 2, none⟩ = some (.slice ao n c) := (hc.out _ hZ.out).2.2
    by_cases hin : k ≤ n
    · by_cases hneg : k < 0
      · have hat := at_no (hW.out _ hZ.out).1 k (.inl hneg)
        replace hat := Lib.hid hat
        go_wp2_with ((go_at_call 24; (with_reducible refine (hat.out).mono ?_); rintro e w3 ⟨rfl, hb3⟩))
        have hres := Lib.hid (below_next (below_next hZ.out hb3) (below_new w3 (.cells #[.int .i64 0, .slice none 0 0] 66)))
        go_roundw
        case rel => exact ⟨k + 1, by omega, by omega, by go_num, hres⟩
        case measure => simp [intOf]; omega
      · have hneg' := decide_eq_false hneg
        by_cases hge : (n : Int) ≤ k
        · have hat := at_no (hW.out _ hZ.out).1 k (.inr (by rw [hn.out]; exact hge))
          replace hat := Lib.hid hat
          go_wp2_with ((go_at_call 24; (with_reducible refine (hat.out).mono ?_); rintro e w3 ⟨rfl, hb3⟩; have hb4 := below_next (below_next hZ.out hb3) (below_new w3 (.cells #[.int .i64 0, .slice none 0 0] 66)); have r3 := (hc.out _ hb4).2.2))
          have hres := Lib.hid hb4
          go_roundw
          case rel => exact ⟨k + 1, by omega, by omega, by go_num, hres⟩
          case measure => simp [intOf]; omega
        · have hge' := decide_eq_false hge
          obtain ⟨j, rfl⟩ := Int.eq_ofNat_of_zero_le (show 0 ≤ k by omega)
          have hj : j < Rp.length := by rw [hn.out]; omega
          have hjr : j < Rr.length := by rw [hlr.out]; omega
          obtain ⟨hS0, hR0⟩ := hW.out _ hZ.out
          have hat := at_yes hS0 j hj
          obtain ⟨hid, hll⟩ := ek_at hk.out hj hjr
          have hgd := (hS0.2 _ (List.getElem_mem hj)).1
          have hro := hR0.ref _ (List.getElem_mem hjr)
          have hra := hR0.row.at' hjr
          rw [hid] at hra
          rw [hll] at hro
          unfold AtDone at hat
          generalize Rp[j] = e0 at hat hgd hro hra
          generalize Rr[j].dr = dr at hro hra
          obtain ⟨gv, m, capr, qs, hx, hcel⟩ := hro
          have hm : e0.l.length = m := by rw [← hcel, cels_length, hx.len]
          rw [hm] at hat
          obtain ⟨g4, off, c4, hlv4, _, _, q0, q1⟩ := hra
          rw [hlv.out, hlr.out] at hlv4
          simp only [Value.slice.injEq, true_and] at hlv4
          obtain ⟨rfl, rfl⟩ := hlv4
          have hm5 := hx.small
          have hp4 := fun (ps : List (Cel × Value)) (hmap : ps.map (·.1) = e0.l) (p : Cel × Value) (hp : p ∈ ps) => (hgd.cell p.1 (by rw [← hmap]; exact List.mem_map_of_mem hp)).four
          have hls := fun w' (hb : Below wr.heap.size wr w') => (hR0.below hb)
          have hq := fun w' (hb : Below wr.heap.size wr w') => And.intro ((World.cell?_of_block (w := wr) (w' := w') (hb.block _ (World.block_lt_of_cell? _ _ q0))).trans q0) ((World.cell?_of_block (w := wr) (w' := w') (hb.block _ (World.block_lt_of_cell? _ _ q1))).trans q1)
          have hxs := fun w' (hb : Below wr.heap.size wr w') => (hx.below hb).slice
          have hsm := fun w' (hb : Below wr.heap.size wr w') (w0 : World) (g2 : Nat) (ps : List (Cel × Value)) (hA : Api w0.heap.size w' (.slice (some ⟨g2, 0, none⟩) m m) ps) (hmap : ps.map (·.1) = e0.l) => same_any hA (hx.below hb).api (by rw [← hm, ← hmap, List.length_map]) (by rw [hmap]; exact hcel) hm5 (hp4 ps hmap)
          replace hat := Lib.hid hat
          replace hq := Lib.hid hq
          replace hls := Lib.hid hls
          replace hxs := Lib.hid hxs
          replace hsm := Lib.hid hsm
          replace hx := Lib.hid hx
          have hjI : (j : Int) < (n : Int) := by omega
          have hrd := Lib.hid (fun w' (hb : Below wr.heap.size wr w') => (hc.out _ (below_next hZ.out hb)).2.2)
          clear hp4 hgd hj hjr hid hll hS0 hR0 q0 q1
          go_wp2_with ((go_at_call 24; (with_reducible refine (hat.out).mono ?_); rintro e w3 ⟨g2, ps, rfl, hA, hmap, hb3, hg2⟩; have hb4 := below_next hb3 (below_new w3 (.cells #[.int .i64 e0.id, .slice (some ⟨g2, 0, none⟩) m m] 66)); have r3 := hrd.out _ hb4))
          have hmp := hx.out.pos
          have hb8 := Block.made w3 66 #[.int .i64 e0.id, .slice (some ⟨g2, 0, none⟩) m m]
          have hA4 := hA.below (below_new w3 (.cells #[.int .i64 e0.id, .slice (some ⟨g2, 0, none⟩) m m] 66))
          obtain ⟨b8, hb8e⟩ : ∃ b8, b8 = w3.heap.size := ⟨_, rfl⟩
          rw [← hb8e] at hb8 ⊢
          clear hA hb3 r3 hb8e
          generalize w3.alloc (.cells #[.int .i64 e0.id, .slice (some ⟨g2, 0, none⟩) m m] 66) = w4 at hb4 hb8 hA4 ⊢
          have hdr4 : Below w4.heap.size w4 w4.drew := below_dr (Below.refl _ _) 1
          have hS4 := fun w' (hb : Below w4.heap.size w4 w') => (⟨(hb8.only (Only.of_below hb []) (by simp)).cell 0 rfl, (hb8.only (Only.of_below hb []) (by simp)).cell 1 rfl, hrd.out _ (below_next hb4 hb), (hq.out _ (below_next hb4 hb)).1, (hq.out _ (below_next hb4 hb)).2, hxs.out _ (below_next hb4 hb)⟩ : w'.cell? ⟨b8, 0, none⟩ = some (.int .i64 e0.id) ∧ w'.cell? ⟨b8, 1, none⟩ = some (.slice (some ⟨g2, 0, none⟩) m m) ∧ w'.cell? ⟨r, 2, none⟩ = some (.slice (some ⟨g4, off, none⟩) n c) ∧ w'.cell? ⟨g4, off + j * 2, none⟩ = some (.int .i64 e0.id) ∧ w'.cell? ⟨g4, off + j * 2 + 1, none⟩ = some (.pointer (some ⟨dr, 0, none⟩)) ∧ w'.cell? ⟨dr, 0, none⟩ = some (.slice (some ⟨gv, 0, none⟩) m capr))
          obtain ⟨s0, s1, s2, s3, s4, s5⟩ := hS4 w4 (Below.refl _ _)
          have hsame := hsm.out _ (below_next hb4 hdr4) wr g2 ps (hA4.below hdr4) hmap
          have hGot : Hid (GSt wr w4 g2 m b8 e0.id) := Lib.hid (by
            obtain ⟨g', cap', tail', e', hg', hbk', _, _, hlk'⟩ := own_block' hA4.own (by rw [← List.length_map (f := fun p : Cel × Value => p.1), hmap, hm]; exact hmp)
            simp only [Value.slice.injEq, Option.some.injEq, Addr.mk.injEq, and_true] at e'
            obtain ⟨rfl, e1, rfl⟩ := e'
            exact ⟨⟨_, hbk', by simp at hlk' ⊢; omega⟩, hb8, hb4, hg2⟩)
          replace hS4 := Lib.hid hS4
          replace hdr4 := Lib.hid hdr4
          replace hsame := Lib.hid hsame
          replace hb4 := Lib.hid hb4
          clear hb8 hA4 hmap hsm hq hls hxs hat
          go_region_held3 (fun w' => w'.cell? ⟨b8, 0, none⟩ = some (.int .i64 e0.id) ∧ w'.cell? ⟨b8, 1, none⟩ = some (.slice (some ⟨g2, 0, none⟩) m m) ∧ w'.cell? ⟨r, 2, none⟩ = some (.slice (some ⟨g4, off, none⟩) n c) ∧ w'.cell? ⟨g4, off + j * 2, none⟩ = some (.int .i64 e0.id) ∧ w'.cell? ⟨g4, off + j * 2 + 1, none⟩ = some (.pointer (some ⟨dr, 0, none⟩)) ∧ w'.cell? ⟨dr, 0, none⟩ = some (.slice (some ⟨gv, 0, none⟩) m capr))
            (first | exact ⟨s0, s1, s2, s3, s4, s5⟩ | exact hS4.out _ hdr4.out | exact hS4.out _ hb5.out)
            (first
              | (go_at_call 13; (with_reducible refine hsame.out.mono ?_); rintro e w5 ⟨rfl, hb5'⟩; have hb5 := Lib.hid (below_next hdr4.out hb5')))
          have hG5 := Lib.hid (hGot.out.stay hb5.out)
          have t1 : w5.cell? ⟨b8, 1, none⟩ = some (.slice (some ⟨g2, 0, none⟩) m m) := hG5.out.box.cell 1 rfl
          clear hb5' s0 s1 s2 s3 s4 s5 hGot hS4 hsame
          go_wp2
          go_loopw [120] (fun i wz => ∃ z : Nat, z ≤ m ∧ i = .int .i64 z ∧ Hid (GSt wr wz g2 m b8 e0.id)) (fun i _ => m - (intOf i).toNat)
          case atStart => exact ⟨0, Nat.zero_le _, rfl, hG5⟩
          case round =>
            obtain ⟨z, hz, rfl, hG⟩ := hrel
            clear hG5 t1
            by_cases hzm : z < m
            · have hzI : (z : Int) < (m : Int) := by omega
              obtain ⟨cs, hcb, hcs⟩ := hG.out.blk
              have t2 : wr.cell? ⟨b8, 1, none⟩ = some (.slice (some ⟨g2, 0, none⟩) m m) := hG.out.box.cell 1 rfl
              have hki : z * 6 < cs.size := by omega
              go_wp2_with ((with_reducible show wpList _ _ _ (⟨none, .store _ (.tmp 127) _, _, _, _, _⟩ :: _) _ _; go_must (refine wpList_store1 rfl _ (.tmp 127) (.const (.int .i32 7)) rfl hcb (.int _ _) rfl rfl (hki) (by exact infoI32) rfl ?_); intro w6 hb6 ho6; go_frame))
              have hN := Lib.hid (hG.out.set hcb (by simp; omega) hcs hb6 ho6)
              clear hb6 ho6 hcb t2
              go_roundw
              case rel => exact ⟨z + 1, by omega, by go_num, hN⟩
              case measure => simp [intOf]; omega
            · obtain rfl : z = m := by omega
              have hbz := Lib.hid (below_next hZ.out hG.out.below)
              have t2 : wr.cell? ⟨b8, 1, none⟩ = some (.slice (some ⟨g2, 0, none⟩) z z) := hG.out.box.cell 1 rfl
              clear hG
              go_wp2
              go_roundw
              case rel => exact ⟨(j : Int) + 1, by omega, by omega, rfl, hbz⟩
              case measure => simp [intOf]; omega
    · go_wp2
      go_ret
      exact ⟨rfl, hZ.out⟩
end
end Go.Proofs.Ytleooelhnnfjbaa.Lns
