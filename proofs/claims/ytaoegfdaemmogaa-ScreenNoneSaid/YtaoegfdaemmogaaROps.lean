/-
  row: Erase, span.
-/
import Derived.Test.YtaoegfdaemmogaaRPut
namespace Go.Proofs.Ytaoegfdaemmogaa.Rw
open Go Go.RowKit Go.Proofs.Ytaoegfdaemmogaa.Com
theorem Like.drewN {w w1 : World} {d g n cap : Nat} {tail : List Value} {l : List Cel} (h : Like w d g n cap tail l w1) (q : Nat) : Like w d g n cap tail l (w1.drewN q) := h.next (below_dr (Below.refl _ _) q)
section
variable {w : World} {d g n cap : Nat} {tail : List Value} {l : List Cel}

set_option maxHeartbeats 2000000 in
theorem erase_any (h : RowX w d g n cap tail l) (hwh : Whole l) (lo hi : Int) (a : At) :
    Calls Try.prog 81 #[.pointer (some ⟨d, 0, none⟩), .int .i64 lo, .int .i64 hi, .agg #[.int .u32 a.f, .int .u32 a.b, .int .u16 a.g]] w (OpDone w d g n cap tail (eraseL l (heldF lo n) (heldF hi n) a) (.int .i64 0)) := by
  have hh1 := held_any lo n
  have hh2 := held_any hi n
  have hp : heldF lo n ≤ n := Nat.min_le_right _ _
  have hq : heldF hi n ≤ n := Nat.min_le_right _ _
  generalize heldF lo n = p at hh1 hp ⊢
  generalize heldF hi n = q at hh2 hq ⊢
  obtain ⟨af, ab, ag⟩ := a
  have hn := h.pos
  have hn5 := h.small
  have hn0 : ((n : Int) == 0) = false := beq_eq_false_iff_ne.2 (by omega)
  have hL := like_box h af ab ag
  have hlen := Lib.hid (len_any hL.row)
  have hc := hL.row.slice
  replace hh1 := Lib.hid hh1
  replace hh2 := Lib.hid hh2
  simp only
  by_cases hlt : p < q
  · have hcl := clr_any (q - p) (by omega) ⟨af, ab, ag⟩
    rw [show ((q - p : Nat) : Int) = (q : Int) - (p : Int) by omega] at hcl
    simp only at hcl
    have hE : eraseL l p q ⟨af, ab, ag⟩ = setL l p (List.replicate (q - p) (clr ⟨af, ab, ag⟩)) := if_pos hlt
    rw [hE]
    have hpq : p + (q - p) ≤ n := by omega
    generalize hk : q - p = k at hcl hpq ⊢
    replace hcl := Lib.hid hcl
    have hst := fun w1 (h1 : Like w d g n cap tail l w1) g2 hb => setclr_any h1.row hwh p k ⟨af, ab, ag⟩ hpq g2 hb
    replace hst := Lib.hid hst
    replace hL := Lib.hid hL
    clear h hE hk
    go_enter Try.func81, Try.ntmps81
    go_wp2_with (first | (go_at_call 18; (with_reducible refine (hlen.out).mono ?_); rintro e w' ⟨rfl, rfl⟩))
    go_quiet ((first | (go_at_call 92; with_reducible exact quiet_left (hh1.out _)) | (go_at_call 92; with_reducible exact quiet_left (hh2.out _))))
    go_wp2_with ((go_at_call 85; (with_reducible refine (hcl.out _).mono ?_); rintro e w2 ⟨g2, rfl, hb2, hbel2, hg2⟩))
    have hL2 := (hL.out.drewN nq).next hbel2
    with_reducible refine (hst.out _ hL2 g2 hb2).mono ?_
    rintro e w3 ⟨⟨v3, rfl⟩, hR3, ho3⟩
    have hres := Lib.hid (hL2.turned hR3 ho3)
    clear hL2 hR3 ho3 hb2 hbel2 hg2
    go_wp2
    go_ret
    exact ⟨rfl, hres.out⟩
  · have hE : eraseL l p q ⟨af, ab, ag⟩ = l := if_neg hlt
    rw [hE]
    replace hL := Lib.hid hL
    clear h hE
    go_enter Try.func81, Try.ntmps81
    go_wp2_with (first | (go_at_call 18; (with_reducible refine (hlen.out).mono ?_); rintro e w' ⟨rfl, rfl⟩))
    go_quiet ((first | (go_at_call 92; with_reducible exact quiet_left (hh1.out _)) | (go_at_call 92; with_reducible exact quiet_left (hh2.out _))))
    go_wp2
    go_ret
    exact ⟨rfl, (hL.out.drewN _).stays⟩

end
end Go.Proofs.Ytaoegfdaemmogaa.Rw
