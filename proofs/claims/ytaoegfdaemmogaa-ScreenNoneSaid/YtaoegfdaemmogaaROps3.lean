/-
  row: New, Resize.
-/
import Derived.Test.YtaoegfdaemmogaaROps2
namespace Go.Proofs.Ytaoegfdaemmogaa.Rw
open Go Go.RowKit Go.Proofs.Ytaoegfdaemmogaa.Com

theorem res_splice (l : List Cel) (cols : Nat) : splice (List.replicate cols (clr zeroAt)) 0 (l.take cols) = resX l cols := by
  unfold splice resX
  simp only [List.take_zero, List.nil_append, List.drop_replicate, List.length_take]
  congr 2
  omega
def NewDone (w : World) (n : Nat) (e : Ending) (w' : World) : Prop := ∃ d g, e = .returned (.tuple #[.pointer (some ⟨d, 0, none⟩), .int .i64 0]) ∧ RowX w' d g n n [] (List.replicate n (clr zeroAt)) ∧ Below w.heap.size w w' ∧ w.heap.size ≤ d ∧ w.heap.size ≤ g

theorem new_no (cols : Int) (h : cols < 1 ∨ 512 < cols) (w : World) : Calls Try.prog 80 #[.int .i64 cols] w fun e w' => e = .returned (.tuple #[.pointer none, .int .i64 2]) ∧ w = w' := by
  have hmc := Lib.hid (mayCount_no cols h)
  clear h
  go_enter Try.func80, Try.ntmps80
  go_wp2_with ((go_at_call 84; (with_reducible refine (hmc.out _).mono ?_); rintro e w' ⟨rfl, rfl⟩))
  go_ret2
  exact ⟨rfl, rfl⟩
set_option maxHeartbeats 1000000 in
theorem new_yes (n : Nat) (h1 : 1 ≤ n) (h2 : n ≤ 512) (w : World) : Calls Try.prog 80 #[.int .i64 n] w (NewDone w n) := by
  have hmc := Lib.hid (mayCount_yes n (by omega) (by omega))
  have hcl := clr_any n h2 zeroAt
  simp only [zeroAt] at hcl
  replace hcl := Lib.hid hcl
  go_enter Try.func80, Try.ntmps80
  go_wp2_with (first
    | (go_at_call 84; (with_reducible refine (hmc.out _).mono ?_); rintro e w' ⟨rfl, rfl⟩)
    | (go_at_call 85; (with_reducible refine (hcl.out _).mono ?_); rintro e w1 ⟨g1, rfl, hb1, hbel1, hg1⟩))
  go_ret2
  have hlt := hb1.lt
  refine ⟨w1.heap.size, g1, rfl, ⟨Block.made w1 _ _, by rw [List.append_nil]; exact hb1.alloc _, by simp, Nat.le_refl _, by unfold maxLen; omega, h1, h2⟩, hbel1.alloc hbel1.size _, hbel1.size, hg1⟩

def ResDone (w : World) (d n : Nat) (l : List Cel) (e : Ending) (w' : World) : Prop := ∃ g, e = .returned (.int .i64 0) ∧ RowX w' d g n n [] l ∧ Only [d] w w' ∧ w.heap.size ≤ g
section
variable {w : World} {d g n cap : Nat} {tail : List Value} {l : List Cel}
theorem resize_no (h : RowX w d g n cap tail l) (cols : Int) (hc : cols < 1 ∨ 512 < cols) : Calls Try.prog 64 #[.pointer (some ⟨d, 0, none⟩), .int .i64 cols] w fun e w' => e = .returned (.int .i64 2) ∧ w = w' := by
  have hmc := Lib.hid (mayCount_no cols hc)
  have hn := h.pos
  have hn0 : ((n : Int) == 0) = false := beq_eq_false_iff_ne.2 (by omega)
  have hlen := Lib.hid (len_any h)
  clear h hc
  go_enter Try.func64, Try.ntmps64
  go_wp2_with (first | (go_at_call 18; (with_reducible refine (hlen.out).mono ?_); rintro e w' ⟨rfl, rfl⟩) | (go_at_call 84; (with_reducible refine (hmc.out _).mono ?_); rintro e w' ⟨rfl, rfl⟩))
  go_ret
  exact ⟨rfl, rfl⟩
theorem info54 : (Try.prog.info? 93).map (·.size) = some 1 := by kernel_rfl

set_option maxRecDepth 100000 in
set_option maxHeartbeats 2000000 in
theorem resize_yes (h : RowX w d g n cap tail l) (hwh : Whole l) (cols : Nat) (h1 : 1 ≤ cols) (h2 : cols ≤ 512) : Calls Try.prog 64 #[.pointer (some ⟨d, 0, none⟩), .int .i64 cols] w (ResDone w d cols (resL l cols)) := by
  have hmc := Lib.hid (mayCount_yes cols (by omega) (by omega))
  have hn := h.pos
  have hn5 := h.small
  have hdw := h.ptr.lt
  have hgw := h.row.lt
  have hn0 : ((n : Int) == 0) = false := beq_eq_false_iff_ne.2 (by omega)
  have hlen := Lib.hid (len_any h)
  have hcl := clr_any cols h2 zeroAt
  simp only [zeroAt] at hcl
  replace hcl := Lib.hid hcl
  have hfin := Lib.hid (mendTo_all (alone_resX (cols := cols) hwh))
  replace h := Lib.hid h
  replace hwh := Lib.hid hwh
  go_enter Try.func64, Try.ntmps64
  go_wp2_with (first
    | (go_at_call 18; (with_reducible refine (hlen.out).mono ?_); rintro e w' ⟨rfl, rfl⟩)
    | (go_at_call 84; (with_reducible refine (hmc.out _).mono ?_); rintro e w' ⟨rfl, rfl⟩))
  with_reducible refine (hcl.out _).mono ?_
  rintro e w1 ⟨g1, rfl, hb1, hbel1, hg1⟩
  have hR1 := h.out.below hbel1
  have hs1 := hR1.slice
  have hX := part_length l 0 (min cols n) (by rw [h.out.len]; omega)
  have hpart := hR1.part 0 (min cols n) (by omega)
  have hone := fl_one' cellC_one ((l.drop 0).take (min cols n))
  have hfs := fl_splice cellC_length (List.replicate cols (clr zeroAt)) ((l.drop 0).take (min cols n)) [] 0 (by simp; omega)
  have htk : (l.drop 0).take (min cols n) = l.take cols := by
    rw [List.drop_zero, List.take_eq_take_iff, h.out.len]
    omega
  rw [htk] at hX hpart hone hfs
  rw [res_splice, List.append_nil, List.append_nil] at hfs
  have hcl2 := fl_length cellC_length (List.replicate cols (clr zeroAt))
  rw [List.length_replicate] at hcl2
  have hbC : Block w1 g1 113 (fl cellC (List.replicate cols (clr zeroAt))).toArray := hb1
  obtain ⟨X, hXX⟩ : ∃ X, X = fl cellC (l.take cols) := ⟨_, rfl⟩
  obtain ⟨cur, hcc⟩ : ∃ cur, cur = fl cellC (List.replicate cols (clr zeroAt)) := ⟨_, rfl⟩
  rw [← hXX] at hX hpart hone hfs
  rw [← hcc] at hcl2 hbC hfs
  have hdg : d ≠ g1 := by omega
  replace hX := Lib.hid hX
  replace hpart := Lib.hid hpart
  replace hone := Lib.hid hone
  replace hfs := Lib.hid hfs
  replace hcl2 := Lib.hid hcl2
  replace hbC := Lib.hid hbC
  have hp1 := Lib.hid hR1.ptr
  replace hbel1 := Lib.hid hbel1
  clear hXX hcc htk hR1 hb1
  go_wp2_with (first
    | (with_reducible show wpList _ _ _ (⟨some 22, .call _, _, _, _, _⟩ :: _) _ _; go_must (refine wpList_copyN rfl (.tmp 17) (.tmp 21) _ _ rfl 113 10 Try.underlying93 infoC _ _ _ _ _ _ rfl rfl g1 0 cur _ hbC.out X ((by rw [hX.out, Nat.min_comm])) (fun _ _ => ⟨rfl, _, rfl, by simpa using hpart.out⟩) (by rw [hX.out, hcl2.out]; omega) hone.out ?_); intro w2 hb2 ho2; have hp2 := hp1.out.only ho2 (by simpa using hdg))
    | (with_reducible show wpList _ _ _ (⟨none, .store _ (.tmp 26) _, _, _, _, _⟩ :: _) _ _; go_must (refine wpList_store1 rfl _ (.tmp 26) (.tmp 24) rfl hp2 (.slice _ _ _) rfl rfl (by simp) (by exact info54) rfl ?_); intro w3 hp3 ho3))
  simp only [List.take_zero, List.nil_append, List.singleton_append] at hp3
  have hb3 : Block w3 g1 113 (splice cur 0 X).toArray := hb2.out.only ho3 (by simpa using fun e => hdg e.symm)
  have hR3 : RowX w3 d g1 cols cols [] (resX l cols) := ⟨by simpa using hp3, by rw [List.append_nil, ← hfs.out]; simpa using hb3, resX_length l cols, Nat.le_refl _, by unfold maxLen; omega, h1, h2⟩
  have hm := mend_any hR3 cols cols (Nat.le_refl _) (Nat.le_refl _) (by omega)
  rw [show min (cols + 1) cols = cols by omega, hfin.out] at hm
  with_reducible refine hm.mono ?_
  rintro e w4 ⟨⟨v4, rfl⟩, hR4, ho4⟩
  have ho : Only [d] w w4 := by
    have o1 : Only [d] w w1 := Only.of_below hbel1.out _
    have o2 : Only [d] w w2 := o1.then ho2 (fun k hk => by simp at hk; subst hk; exact .inr hg1)
    have o3 : Only [d] w w3 := o2.trans ho3
    exact o3.then ho4 (fun k hk => by simp at hk; subst hk; exact .inr hg1)
  have hres := Lib.hid (And.intro hR4 (And.intro ho hg1))
  clear hR4 ho hm hR3 hb3 hp3 ho3 ho4 ho2 hp2 hs1 hb2
  go_wp2
  go_ret
  exact ⟨g1, rfl, hres.out⟩
end
end Go.Proofs.Ytaoegfdaemmogaa.Rw
