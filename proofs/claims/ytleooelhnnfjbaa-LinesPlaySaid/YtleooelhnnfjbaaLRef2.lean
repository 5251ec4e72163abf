/-
  lines: the reference's Find and Fresh.
-/
import Derived.Test.YtleooelhnnfjbaaLRef
namespace Go.Proofs.Ytleooelhnnfjbaa.Lns
open Go Go.RowKit Go.Proofs.Ytleooelhnnfjbaa.Com Go.Proofs.Ytleooelhnnfjbaa.Rw
section
variable {B : Nat} {w w' : World} {r nx most : Nat} {lv : Value} {R : List En} {L : List Nat}

set_option maxRecDepth 100000 in
theorem rfind_any (h : RX B w r nx most lv R) (h5 : R.length ≤ 100000) (id : Int) : Calls Try.prog 47 #[.pointer (some ⟨r, 0, none⟩), .int .i64 id] w fun e w' => e = .returned (.int .i64 (findF (R.map En.id) id)) ∧ w = w' := by
  obtain ⟨_, _, h2⟩ := h.cells
  obtain ⟨ao, c, hlv, hcm, hc⟩ := h.row.shape
  have hat := fun i (hi : i < R.length) => h.row.at' hi
  obtain ⟨n, hn⟩ : ∃ n, R.length = n := ⟨_, rfl⟩
  rw [hn] at hlv h5 hc
  rw [hlv] at h2 hat
  replace hat := Lib.hid hat
  replace hn := Lib.hid hn
  clear h hlv
  go_enter Try.func47, Try.ntmps47
  go_wp2
  go_loopw [5, 6] (fun x i wr => wr = w ∧ ∃ k : Nat, k ≤ n ∧ i = .int .i64 k ∧ x = .int .i64 (findTo (R.map En.id) id k)) (fun _ i _ => n - (intOf i).toNat)
  case atStart => exact ⟨rfl, 0, Nat.zero_le _, rfl, rfl⟩
  case round =>
    obtain ⟨rfl, k, hk, rfl, rfl⟩ := hrel
    have hrg := findTo_range (R.map En.id) id k
    by_cases hlt : k < n
    · have hki : (k : Int) < (n : Int) := by omega
      have hi : k < R.length := by rw [hn.out]; exact hlt
      obtain ⟨g, off, c', e, hc1, hc2, q0, q1⟩ := hat.out k hi
      rw [hn.out] at e
      simp only [Value.slice.injEq] at e
      obtain ⟨rfl, _, rfl⟩ := e
      have hst : findTo (R.map En.id) id (k + 1) = if R[k].id = id then (k : Int) else findTo (R.map En.id) id k := by
        rw [findTo_succ, List.getElem?_map, List.getElem?_eq_getElem hi]
        simp
      generalize R[k] = e0 at q0 hst
      clear q1
      by_cases hid : e0.id = id
      · rw [if_pos hid] at hst
        replace hst := Lib.hid hst
        rw [hid] at q0
        clear hid
        generalize findTo (R.map En.id) id k = F at hrg ⊢
        go_wp2
        go_roundw
        case rel => exact ⟨trivial, k + 1, by omega, by go_num, by rw [hst.out]⟩
        case measure => simp [intOf]; omega
      · rw [if_neg hid] at hst
        replace hst := Lib.hid hst
        have hid' : (e0.id == id) = false := beq_eq_false_iff_ne.2 hid
        clear hid
        generalize findTo (R.map En.id) id k = F at hrg hst ⊢
        go_wp2
        go_roundw
        case rel => exact ⟨trivial, k + 1, by omega, by go_num, by rw [hst.out]⟩
        case measure => simp [intOf]; omega
    · obtain rfl : k = n := by omega
      have hF : Hid (findF (R.map En.id) id = findTo (R.map En.id) id k) := Lib.hid (by rw [findF, List.length_map, hn.out])
      generalize findTo (R.map En.id) id k = F at hrg hF ⊢
      go_wp2
      go_ret
      exact ⟨ret_int hF.out.symm, rfl⟩

def RFreshNo (w : World) (e : Ending) (w' : World) : Prop := e = .returned (.tuple #[.agg #[.int .i64 0, .pointer none], .int .i64 2]) ∧ Below w.heap.size w w'
set_option maxHeartbeats 1000000 in
theorem rfresh_no (r : Option Addr) (cols : Int) (hc : cols < 1 ∨ 512 < cols) (a : At) (w : World) : Calls Try.prog 12 #[.pointer r, .int .i64 cols, .agg #[.int .u32 a.f, .int .u32 a.b, .int .u16 a.g]] w (RFreshNo w) := by
  obtain ⟨af, ab, ag⟩ := a
  have hbn : Below w.heap.size w ((w.alloc (.cells #[.int .u32 af, .int .u32 ab, .int .u16 ag] 36)).alloc (.cells #[.int .i64 0, .pointer none] 47)) := below_next (below_new _ _) (below_new _ _)
  have hm := fun w => may_any cols w
  rw [show decide (1 ≤ cols ∧ cols ≤ 512) = false from decide_eq_false (by omega)] at hm
  have hbx := Block.made (w.alloc (.cells #[.int .u32 af, .int .u32 ab, .int .u16 ag] 36)) 47 #[.int .i64 0, .pointer none]
  simp only [World.size_alloc] at hbx
  replace hm := Lib.hid hm
  clear hc
  go_enter Try.func12, Try.ntmps12
  go_wp2_with ((go_at_call 10; (with_reducible refine (hm.out _).mono ?_); rintro e w' ⟨rfl, rfl⟩))
  exact bodyPost_ret (results_cell_tmpG rfl _ _ (w.heap.size + 1) _ rfl hbx Try.underlying47 rfl infoRL) rfl ⟨rfl, hbn⟩
def RFreshDone (B : Nat) (w : World) (r nx most : Nat) (lv : Value) (R : List En) (l : List Cel) (e : Ending) (w' : World) : Prop :=
  ∃ dr, e = .returned (.tuple #[.agg #[.int .i64 nx, .pointer (some ⟨dr, 0, none⟩)], .int .i64 0]) ∧ RX B w' r (nx + 1) most lv R ∧ RefIn w.heap.size w' dr l ∧ Only [r] w w'
theorem rsetnx (h : RX B w r nx most lv R) (m : Nat) (h1 : m ≤ 1000000) : RX B (w.setCell ⟨r, 0, none⟩ (.int .i64 m)) r m most lv R :=
  have ho : Only [r] w (w.setCell ⟨r, 0, none⟩ (.int .i64 m)) := Only.setCell w ⟨r, 0, none⟩ _
  have ht : ∀ k ∈ [r], Typ w k 60 := fun k hk => by
    obtain rfl : k = r := by simpa using hk
    exact Block.typ h.blk
  ⟨h.blk.set 0 _, h.row.only ho (fun g hg hm => absurd (Typ.inj (h.hit g hg).2.2 (ht _ hm)) (by decide)), fun e he => RefIn.other (h.ref e he) ho ht (by decide) (by decide) (by decide), h.lo, h1⟩
set_option maxHeartbeats 2000000 in
theorem rfresh_yes (h : RX B w r nx most lv R) (hx : nx < 1000000) (n : Nat) (hn : 1 ≤ n) (hn5 : n ≤ 512) (a : At) : Calls Try.prog 12 #[.pointer (some ⟨r, 0, none⟩), .int .i64 n, .agg #[.int .u32 a.f, .int .u32 a.b, .int .u16 a.g]] w (RFreshDone B w r nx most lv R (freshL n a)) := by
  have hE : ∀ {B w d} (hr : RefIn B w d (List.replicate n (clr zeroAt))), Calls Try.prog 32 #[.pointer (some ⟨d, 0, none⟩), .int .i64 0, .int .i64 n, .agg #[.int .u32 a.f, .int .u32 a.b, .int .u16 a.g]] w (RefDone B w d (freshL n a)) := fun hr => by
    obtain ⟨gv, n', cap, ps, hx, he⟩ := hr
    obtain rfl : n' = n := by rw [← hx.len, ← cels_length, he, List.length_replicate]
    have := rerase_any hx (by rw [he]; exact (good_new n').whole) 0 n' a
    unfold freshL eraL
    rw [List.length_replicate, ← he]
    exact this
  generalize freshL n a = fl0 at hE ⊢
  obtain ⟨af, ab, ag⟩ := a
  have hbn : Below w.heap.size w ((w.alloc (.cells #[.int .u32 af, .int .u32 ab, .int .u16 ag] 36)).alloc (.cells #[.int .i64 0, .pointer none] 47)) := below_next (below_new _ _) (below_new _ _)
  have hm := fun w => may_any n w
  rw [show decide (1 ≤ (n : Int) ∧ (n : Int) ≤ 512) = true from decide_eq_true (by omega)] at hm
  have hba := (Block.made w 36 #[.int .u32 af, .int .u32 ab, .int .u16 ag]).alloc (.cells #[.int .i64 0, .pointer none] 47)
  have hbl := Block.made (w.alloc (.cells #[.int .u32 af, .int .u32 ab, .int .u16 ag] 36)) 47 #[.int .i64 0, .pointer none]
  simp only [World.size_alloc] at hbl
  have hN0 := rnew_any ((w.alloc (.cells #[.int .u32 af, .int .u32 ab, .int .u16 ag] 36)).alloc (.cells #[.int .i64 0, .pointer none] 47)) n hn hn5
  obtain ⟨dr, hdr⟩ : ∃ dr, dr = ((w.alloc (.cells #[.int .u32 af, .int .u32 ab, .int .u16 ag] 36)).alloc (.cells #[.int .i64 0, .pointer none] 47)).heap.size := ⟨_, rfl⟩
  have hdw : w.heap.size + 1 < dr := by rw [hdr]; simp
  have hN := hN0.mono (fun e w' (ho : _ ∧ _ ∧ _) => (⟨by rw [hdr]; exact ho.1, by rw [hdr]; exact RefIn.lower ho.2.1 hbn.size, ho.2.2⟩ : e = .returned (.pointer (some ⟨dr, 0, none⟩)) ∧ RefIn w.heap.size w' dr (List.replicate n (clr zeroAt)) ∧ Below ((w.alloc (.cells #[.int .u32 af, .int .u32 ab, .int .u16 ag] 36)).alloc (.cells #[.int .i64 0, .pointer none] 47)).heap.size ((w.alloc (.cells #[.int .u32 af, .int .u32 ab, .int .u16 ag] 36)).alloc (.cells #[.int .i64 0, .pointer none] 47)) w'))
  clear hN0
  replace hN := Lib.hid hN
  clear hdr
  have hws : Hid (∀ w', Below w.heap.size w w' → RX B w' r nx most lv R) := Lib.hid (fun w' hb => h.below hb)
  have hlt := h.blk.lt
  have hhit := fun g hg => (h.hit g hg).2.1
  replace hm := Lib.hid hm
  replace hba := Lib.hid hba
  replace hbl := Lib.hid hbl
  replace hbn := Lib.hid hbn
  clear h
  simp only at hE
  go_enter Try.func12, Try.ntmps12
  go_wp2_with (first
    | (go_at_call 10; (with_reducible refine (hm.out _).mono ?_); rintro e w' ⟨rfl, rfl⟩)
    | (go_at_call 31; (with_reducible refine (hN.out).mono ?_); rintro e w1 ⟨rfl, hr1, hbe1⟩; have hba1 := hba.out.only (Only.of_below hbe1 []) (by simp); have hbl1 := hbl.out.only (Only.of_below hbe1 []) (by simp); have a0 : w1.cell? ⟨w.heap.size, 0, none⟩ = some (.int .u32 af) := hba1.cell 0 rfl; have a1 : w1.cell? ⟨w.heap.size, 1, none⟩ = some (.int .u32 ab) := hba1.cell 1 rfl; have a2 : w1.cell? ⟨w.heap.size, 2, none⟩ = some (.int .u16 ag) := hba1.cell 2 rfl; have hbw1 := below_next hbn.out hbe1)
    | (go_at_call 32; (with_reducible refine (hE hr1).mono ?_); rintro e w2 ⟨⟨v2, rfl⟩, hr2, ho2⟩; have hbl2 := hbl1.only ho2 (not_in1 (Block.typ hbl1) (RefIn.typ hr1).1 (by decide)); have hbw2 := below_on hbw1 ho2 (by omega); have hR2 := hws.out _ hbw2; have s0 : w2.cell? ⟨r, 0, none⟩ = some (.int .i64 nx) := hR2.blk.cell 0 rfl; have sf := hR2.blk.free 0; have l0 := hbl2.cell 0 rfl; have l1 := hbl2.cell 1 rfl; have f0 := hbl2.free 0; have f1 := hbl2.free 1))
  have hR3 := rsetnx hR2 (nx + 1) (by omega)
  rw [Int.natCast_add, Int.natCast_one] at hR3
  have ho3 : Only [r] w2 (w2.setCell ⟨r, 0, none⟩ (.int .i64 ((nx : Int) + 1))) := Only.setCell w2 ⟨r, 0, none⟩ _
  have hbl3 := hbl2.only ho3 (not_in1 (Block.typ hbl2) (Block.typ hR2.blk) (by decide))
  have ht3 : ∀ k ∈ [r], Typ w2 k 60 := fun k hk => by
    obtain rfl : k = r := by simpa using hk
    exact Block.typ hR2.blk
  have hr3 := RefIn.other hr2 ho3 ht3 (by decide) (by decide) (by decide)
  generalize w2.setCell ⟨r, 0, none⟩ (.int .i64 ((nx : Int) + 1)) = w3 at hR3 ho3 hbl3 hr3 ⊢
  have ho4 : Only [w.heap.size + 1] w3 ((w3.setCell ⟨w.heap.size + 1, 0, none⟩ (.int .i64 nx)).setCell ⟨w.heap.size + 1, 1, none⟩ (.pointer (some ⟨dr, 0, none⟩))) := (Only.setCell w3 ⟨w.heap.size + 1, 0, none⟩ _).trans (Only.setCell _ ⟨w.heap.size + 1, 1, none⟩ _)
  have ht4 : ∀ k ∈ [w.heap.size + 1], Typ w3 k 47 := fun k hk => by
    obtain rfl : k = w.heap.size + 1 := by simpa using hk
    exact Block.typ hbl3
  have hR4 : RX B _ r (nx + 1) most lv R := hR3.only ho4 (not_in1 (Block.typ hR3.blk) (Block.typ hbl3) (by decide)) (fun g hg hm => by
    have := hhit g hg
    simp at hm
    omega) (fun e he => RefIn.other (hR3.ref e he) ho4 ht4 (by decide) (by decide) (by decide))
  refine bodyPost_ret (results_cell_tmpG rfl _ _ (w.heap.size + 1) _ rfl (block2 hbl3 _ _) Try.underlying47 rfl infoRL) rfl ⟨dr, rfl, hR4, RefIn.other hr3 ho4 ht4 (by decide) (by decide) (by decide), ?_⟩
  exact ((Only.of_below hbw2 [r]).trans ho3).then ho4 (fun k hk => .inr (by simp at hk; omega))
end
end Go.Proofs.Ytleooelhnnfjbaa.Lns
