/-
  screen: what becomes of a line that goes.
-/
import Derived.Test.YtaoegfdaemmogaaNMid
namespace Go.Proofs.Ytaoegfdaemmogaa.Scn
open Go Go.RowKit Go.Proofs.Ytaoegfdaemmogaa.Com Go.Proofs.Ytaoegfdaemmogaa.Rw Go.Proofs.Ytaoegfdaemmogaa.Lns
section
variable {B : Nat} {w w' : World} {x s nx most cols top bot n : Nat} {kp : Bool} {sv lv : Value} {xs : List Value} {L R : List En}
theorem forget_any (v : Value) (id : Int) (d : Nat) (w : World) : Calls Try.prog 40 #[v, .agg #[.int .i64 id, .pointer (some ⟨d, 0, none⟩)]] w fun e w' => (∃ v, e = .returned v) ∧ Below w.heap.size w w' := by
  have hb := below_new w (.cells #[.int .i64 id, .pointer (some ⟨d, 0, none⟩)] 92)
  go_enter Try.func40, Try.ntmps40
  go_wp2
  go_end0
  exact ⟨⟨_, rfl⟩, hb⟩
def KeepDone (B : Nat) (w : World) (x s nx most : Nat) (kp : Bool) (cols : Nat) (lv : Value) (top bot n : Nat) (xs : List Value) (L R : List En) (id : Int) (l : List Cel) (e : Ending) (w' : World) : Prop :=
  (∃ v, e = .returned v) ∧ ∃ sv' R', MidX B w' x s nx most kp cols sv' lv top bot n xs L R' ∧ vw R' = pushL most (vw R) (id, l) ∧ Fr B PT w w'
set_option maxHeartbeats 2000000 in
theorem keep_any (h : MidX B w x s nx most kp cols sv lv top bot n xs L R) (e0 : En) (he : RowG B w e0) (hid : 1 ≤ e0.id ∧ e0.id < nx) : Calls Try.prog 63 #[.pointer (some ⟨x, 0, none⟩), .agg #[.int .i64 e0.id, .pointer (some ⟨e0.d, 0, none⟩)]] w (KeepDone B w x s nx most kp cols lv top bot n xs L R e0.id e0.l) := by
  have hbn := below_new w (.cells #[.int .i64 e0.id, .pointer (some ⟨e0.d, 0, none⟩)] 92)
  have hbx := Block.made w 92 #[.int .i64 e0.id, .pointer (some ⟨e0.d, 0, none⟩)]
  have hws := fun w1 (hb : Below w.heap.size w w1) => h.below hb
  have hwe := fun w1 (hb : Below w.heap.size w w1) => he.below hb
  have hxlt := h.ln.blk.lt
  have hBw : B ≤ w.heap.size := Nat.le_trans h.ln.lo (Nat.le_of_lt h.ln.blk.lt)
  have hslt := h.ln.st.lt
  have hplt := fun g hg => (h.ln.st.ptyp g hg).2.1
  obtain ⟨bx, hbxe⟩ : ∃ bx, bx = w.heap.size := ⟨_, rfl⟩
  obtain ⟨id, d, g0, dr, l⟩ := e0
  simp only at hid hbn hbx ⊢
  replace hws := Lib.hid hws
  replace hwe := Lib.hid hwe
  replace hid := Lib.hid hid
  clear h he
  go_enter Try.func63, Try.ntmps63
  go_wp2
  generalize w.alloc (.cells #[.int .i64 id, .pointer (some ⟨d, 0, none⟩)] 92) = w0 at hbx hbn ⊢
  rw [← hbxe] at hbx ⊢
  have hbxl : bx ∉ s :: sv.ownBlock.toList := fun hm => by
    rcases List.mem_cons.1 hm with e | hm
    · omega
    · have := hplt bx (by simpa using hm); omega
  replace hbxe := Lib.hid hbxe
  have hd0 : Below w0.heap.size w0 w0.drew := below_dr (Below.refl _ _) 1
  have hS := fun w' (hb : Below w0.heap.size w0 w') => And.intro (hws.out _ (below_next hbn hb)).ln.cells.1 (And.intro ((hbx.only (Only.of_below hb []) (by simp)).cell 0 rfl) ((hbx.only (Only.of_below hb []) (by simp)).cell 1 rfl))
  obtain ⟨a0, a1, a2⟩ := hS w0 (Below.refl _ _)
  have c1 := hS _ hd0
  have hpu : Calls Try.prog 83 #[.pointer (some ⟨s, 0, none⟩), .agg #[.int .i64 id, .pointer (some ⟨d, 0, none⟩)]] w0.drew fun e w' => (∃ v, e = .returned v) ∧ (w'.cell? ⟨x, 0, none⟩ = some (.pointer (some ⟨s, 0, none⟩)) ∧ w'.cell? ⟨bx, 0, none⟩ = some (.int .i64 id) ∧ w'.cell? ⟨bx, 1, none⟩ = some (.pointer (some ⟨d, 0, none⟩))) ∧ ∃ sv' R', MidX B w' x s nx most kp cols sv' lv top bot n xs L R' ∧ vw R' = pushL most (vw R) (id, l) ∧ Fr B PT w w' := by
    have hb1 := below_next hbn hd0
    have hm1 := hws.out _ hb1
    obtain ⟨q1, q2, q3, q4, q5, q6, q7⟩ := hwe.out _ hb1
    refine (push_yes hm1.ln.st id hid.out dr q7 q1).mono fun e w' hp => ?_
    have hO := hp
    obtain ⟨_, _, _, he, _, _, _, hO, _⟩ := hO
    obtain ⟨sv', R', m1, m2, m3⟩ := hm1.push hp
    have hb2 := ((hbx.only (Only.of_below hd0 []) (by simp)).only hO hbxl)
    exact ⟨⟨_, he⟩, ⟨m1.ln.cells.1, hb2.cell 0 rfl, hb2.cell 1 rfl⟩, sv', R', m1, m2, (Fr.of_below hb1).trans m3⟩
  replace hpu := Lib.hid hpu
  replace hS := Lib.hid hS
  clear hbx hbn hbxl hplt
  go_region_held3 (fun w' => w'.cell? ⟨x, 0, none⟩ = some (.pointer (some ⟨s, 0, none⟩)) ∧ w'.cell? ⟨bx, 0, none⟩ = some (.int .i64 id) ∧ w'.cell? ⟨bx, 1, none⟩ = some (.pointer (some ⟨d, 0, none⟩)))
    (first | exact ⟨a0, a1, a2⟩ | exact c1 | exact hz)
    (first
      | (go_at_call 83; (with_reducible refine hpu.out.mono ?_); rintro e w2 ⟨⟨v2, rfl⟩, hz, hres⟩))
  replace hres := Lib.hid hres
  go_end0
  exact ⟨⟨_, rfl⟩, hres.out⟩
end
end Go.Proofs.Ytaoegfdaemmogaa.Scn
