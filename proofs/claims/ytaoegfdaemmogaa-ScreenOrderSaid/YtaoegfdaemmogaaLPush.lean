/-
  lines: Push.
-/
import Derived.Test.YtaoegfdaemmogaaLFresh
namespace Go.Proofs.Ytaoegfdaemmogaa.Lns
open Go Go.RowKit Go.Proofs.Ytaoegfdaemmogaa.Com Go.Proofs.Ytaoegfdaemmogaa.Rw
section
variable {B : Nat} {w w' : World} {s nx most o : Nat} {sv : Value} {P R : List En}

theorem taken_sx (h : SX B w s nx most sv R) (id : Int) : Calls Try.prog 93 #[.pointer (some ⟨s, 0, none⟩), .int .i64 id] w fun e w' => e = .returned (.bool (decide (1 ≤ id ∧ id < nx))) ∧ w = w' := by
  obtain ⟨⟨o, P, h0, hR⟩, hg⟩ := h
  exact taken_any h0 id
def PushNo (w : World) (e : Ending) (w' : World) : Prop := e = .returned (.int .i64 2) ∧ Below w.heap.size w w'
set_option maxHeartbeats 1000000 in
theorem push_nil (h : SX B w s nx most sv R) (id : Int) : Calls Try.prog 83 #[.pointer (some ⟨s, 0, none⟩), .agg #[.int .i64 id, .pointer none]] w (PushNo w) := by
  have hbn := below_new w (.cells #[.int .i64 id, .pointer none] 92)
  have hm := made_any' (h.below hbn)
  have hl := Lib.hid (fun w => len_nil w)
  replace hm := Lib.hid hm
  replace hbn := Lib.hid hbn
  clear h
  go_enter Try.func83, Try.ntmps83
  go_wp2_with ((go_at_call 34; (with_reducible refine (hm.out).mono ?_); rintro e w' ⟨rfl, rfl⟩))
  go_quiet ((go_at_call 18; with_reducible exact quiet_left (hl.out _)))
  go_wp2
  go_ret
  exact ⟨rfl, below_dr hbn.out _⟩
set_option maxHeartbeats 1000000 in
theorem push_no (h : SX B w s nx most sv R) (id : Int) (hid : id < 1 ∨ (nx : Int) ≤ id) {d g n cap : Nat} {tail : List Value} {l : List Cel} (hr : RowX w d g n cap tail l) : Calls Try.prog 83 #[.pointer (some ⟨s, 0, none⟩), .agg #[.int .i64 id, .pointer (some ⟨d, 0, none⟩)]] w (PushNo w) := by
  have hbn := below_new w (.cells #[.int .i64 id, .pointer (some ⟨d, 0, none⟩)] 92)
  have hm := made_any' (h.below hbn)
  have hl := fun q => len_any (hr.below (below_dr hbn q))
  have ht := fun q => taken_sx (h.below (below_dr hbn q)) id
  have hpos := hr.pos
  have hn0 : ((n : Int) == 0) = false := beq_eq_false_iff_ne.2 (by omega)
  rw [show decide (1 ≤ id ∧ id < (nx : Int)) = false from decide_eq_false (by omega)] at ht
  replace hm := Lib.hid hm
  replace hl := Lib.hid hl
  replace ht := Lib.hid ht
  replace hbn := Lib.hid hbn
  clear h hr hid
  go_enter Try.func83, Try.ntmps83
  go_wp2_with ((go_at_call 34; (with_reducible refine (hm.out).mono ?_); rintro e w' ⟨rfl, rfl⟩))
  go_quiet ((first | (go_at_call 18; with_reducible exact quiet_left (hl.out _)) | (go_at_call 93; with_reducible exact quiet_left (ht.out _))))
  go_wp2
  go_ret
  exact ⟨rfl, below_dr hbn.out _⟩
def PushDone (B : Nat) (w : World) (s nx most : Nat) (sv : Value) (R : List En) (id : Int) (dr : Nat) (l : List Cel) (e : Ending) (w' : World) : Prop :=
  ∃ sv' d g, e = .returned (.int .i64 0) ∧ SX B w' s nx most sv' (pushL most R ⟨id, d, g, dr, l⟩) ∧ w.heap.size ≤ d ∧ w.heap.size ≤ g ∧ Only (s :: sv.ownBlock.toList) w w' ∧ (sv'.ownBlock = sv.ownBlock ∨ ∃ g, sv'.ownBlock = some g ∧ w.heap.size ≤ g)
/-- What a put leaves of the rows. -/
theorem put_sx {w1 : World} {id : Int} {d g dr n cap : Nat} {tail : List Value} {l : List Cel} (h : SX B w s nx most sv R) (hb : Below w.heap.size w w1) (hr : RowX w1 d g n cap tail l) (hgd : Rw.Good l) (hd : w.heap.size ≤ d) (hg : w.heap.size ≤ g)
    (hp : PutDone B w1 s nx most sv (pushL most R ⟨id, d, g, dr, l⟩) w') : PushDone B w s nx most sv R id dr l (.returned (.int .i64 0)) w' := by
  obtain ⟨sv', o', P', h1, h2, h3, h4⟩ := hp
  have hw1 := h.below hb
  have hB : B ≤ w.heap.size := by
    obtain ⟨⟨o, P, h0, _⟩, _⟩ := h
    exact Nat.le_trans h0.lo (Nat.le_of_lt h0.blk.lt)
  have hnot : ∀ {k : Nat} {t : TypeId}, Typ w1 k t → 78 ≠ t → 92 ≠ t → k ∉ s :: sv.ownBlock.toList := fun {k t} ht n1 n2 hm => by
    rcases List.mem_cons.1 hm with rfl | hm
    · exact n1 (Typ.inj hw1.typ ht)
    · exact n2 (Typ.inj (hw1.ptyp k (by simpa using hm)).2.2 ht)
  refine ⟨sv', d, g, rfl, ⟨⟨o', P', h1, h2⟩, fun e he => ?_⟩, hd, hg, (Only.of_below hb _).trans h3, h4.imp (fun x => x) fun ⟨g, e, hg⟩ => ⟨g, e, Nat.le_trans hb.size hg⟩⟩
  rcases pushL_mem he with he | rfl
  · exact (hw1.2 e he).only h3 (hnot (hw1.2 e he).typ.1 (by decide) (by decide)) (hnot (hw1.2 e he).typ.2 (by decide) (by decide))
  · exact ⟨hgd, Nat.le_trans hB hd, Nat.le_trans hB hg, n, cap, tail, hr.kept h3 (hnot (Block.typ hr.ptr) (by decide) (by decide)) (hnot (Block.typ hr.row) (by decide) (by decide))⟩
set_option maxHeartbeats 2000000 in
theorem push_yes (h : SX B w s nx most sv R) (id : Int) (hid : 1 ≤ id ∧ id < nx) (dr : Nat) {d g n cap : Nat} {tail : List Value} {l : List Cel} (hr : RowX w d g n cap tail l) (hgd : Rw.Good l) : Calls Try.prog 83 #[.pointer (some ⟨s, 0, none⟩), .agg #[.int .i64 id, .pointer (some ⟨d, 0, none⟩)]] w (PushDone B w s nx most sv R id dr l) := by
  have hbn := below_new w (.cells #[.int .i64 id, .pointer (some ⟨d, 0, none⟩)] 92)
  have hbx := fun q => (Block.made w 92 #[.int .i64 id, .pointer (some ⟨d, 0, none⟩)]).only (Only.drewN [] _ q) (by simp)
  have hm := made_any' (h.below hbn)
  have hl := fun q => len_any (hr.below (below_dr hbn q))
  have ht := fun q => taken_sx (h.below (below_dr hbn q)) id
  have hpos := hr.pos
  have hn0 : ((n : Int) == 0) = false := beq_eq_false_iff_ne.2 (by omega)
  rw [show decide (1 ≤ id ∧ id < (nx : Int)) = true from decide_eq_true hid] at ht
  replace hm := Lib.hid hm
  replace hl := Lib.hid hl
  replace ht := Lib.hid ht
  replace hbn := Lib.hid hbn
  replace hbx := Lib.hid hbx
  have h' := Lib.hid h
  have hr' := Lib.hid hr
  have hlt := h.lt
  clear h hr hid
  go_enter Try.func83, Try.ntmps83
  go_wp2_with ((go_at_call 34; (with_reducible refine (hm.out).mono ?_); rintro e w' ⟨rfl, rfl⟩))
  go_quiet ((first | (go_at_call 18; with_reducible exact quiet_left (hl.out _)) | (go_at_call 93; with_reducible exact quiet_left (ht.out _))))
  go_wp2
  have hb0 := hbx.out nq
  have hl0 := below_dr hbn.out nq
  have hbl := hb0.lt
  generalize (w.alloc (.cells #[.int .i64 id, .pointer (some ⟨d, 0, none⟩)] 92)).drewN nq = w0 at hb0 hl0 hbl ⊢
  obtain ⟨bx, hbxe⟩ : ∃ bx, bx = w.heap.size := ⟨_, rfl⟩
  rw [← hbxe] at hb0 hbl
  rw [← hbxe]
  have hsx0 := h'.out.below hl0
  have hdr : Below w0.heap.size w0 w0.drew := below_dr (Below.refl _ _) 1
  have hcp := copy_any ((hr'.out.below hl0).below hdr)
  have hk := fun w' (hb : Below w0.heap.size w0 w') => hb0.only (Only.of_below hb []) (by simp)
  have hS := fun w' (hb : Below w0.heap.size w0 w') => And.intro ((hk w' hb).cell 0 rfl) ((hk w' hb).cell 1 rfl)
  have c0 := hS w0 (Below.refl _ _)
  have hput : ∀ W, Below w0.heap.size w0 W → ∀ d1 g1, Calls Try.prog 94 #[.pointer (some ⟨s, 1, none⟩), .agg #[.int .i64 id, .pointer (some ⟨d1, 0, none⟩)]] W fun e w' => ((∃ v, e = .returned v) ∧ PutDone B W s nx most sv (pushL most R ⟨id, d1, g1, dr, l⟩) w') ∧ w'.cell? ⟨bx, 0, none⟩ = some (.int .i64 id) ∧ w'.cell? ⟨bx, 1, none⟩ = some (.pointer (some ⟨d, 0, none⟩)) := by
    intro W hb d1 g1
    have hs := hsx0.below hb
    have hO : bx ∉ s :: sv.ownBlock.toList := fun hm => by
      rcases List.mem_cons.1 hm with e | hm
      · omega
      · have := (h'.out.ptyp bx (by simpa using hm)).2.1
        omega
    obtain ⟨⟨o, P, h0, hR⟩, hg⟩ := hs
    have := put_any h0 ⟨id, d1, g1, dr, l⟩
    rw [hR] at this
    refine this.mono fun e w' hh => ?_
    obtain ⟨hv, sv', o', P', q1, q2, q3, q4⟩ := hh
    have hbk := (hk W hb).only q3 hO
    exact ⟨⟨hv, sv', o', P', q1, q2, q3, q4⟩, hbk.cell 0 rfl, hbk.cell 1 rfl⟩
  replace hput := Lib.hid hput
  replace hdr := Lib.hid hdr
  replace hcp := Lib.hid hcp
  replace hS := Lib.hid hS
  replace hl0 := Lib.hid hl0
  replace hsx0 := Lib.hid hsx0
  replace hbxe := Lib.hid hbxe
  replace hgd := Lib.hid hgd
  clear hm hl ht hbn hbx hk hb0
  obtain ⟨c0, c1⟩ := c0
  go_region_held3 (fun w' => w'.cell? ⟨bx, 0, none⟩ = some (.int .i64 id) ∧ w'.cell? ⟨bx, 1, none⟩ = some (.pointer (some ⟨d, 0, none⟩)))
    (first | exact ⟨c0, c1⟩ | exact hS.out _ hb2.out | exact ⟨z0, z1⟩)
    (first
      | (go_at_call 95; (with_reducible refine hcp.out.mono ?_); rintro e w2 ⟨d1, g1, cap1, tail1, rfl, hr2, hb2', hd1, hg1⟩; have hb2 := Lib.hid (below_next hdr.out hb2'))
      | (go_at_call 94; (with_reducible refine (hput.out _ hb2.out d1 g1).mono ?_); rintro e w3 ⟨⟨⟨v3, rfl⟩, hp3⟩, z0, z1⟩))
  have hres := Lib.hid (put_sx h'.out (below_next hl0.out hb2.out) hr2 hgd.out (by have := hl0.out.size; simp at hd1; omega) (by have := hl0.out.size; simp at hg1; omega) hp3)
  clear hp3 hr2 z0 z1
  go_wp2
  go_ret
  exact hres.out
end
end Go.Proofs.Ytaoegfdaemmogaa.Lns
