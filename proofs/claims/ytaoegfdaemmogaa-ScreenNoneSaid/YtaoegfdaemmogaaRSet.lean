/-
  row: cells are laid over others; cleared cells.
-/
import Derived.Test.YtaoegfdaemmogaaRMend2
namespace Go.Proofs.Ytaoegfdaemmogaa.Rw
open Go Go.RowKit Go.Proofs.Ytaoegfdaemmogaa.Com

set_option maxRecDepth 100000 in
set_option maxHeartbeats 2000000 in
theorem set_raw {w : World} {d g n cap : Nat} {tail : List Value} {l : List Cel} (h : RowX w d g n cap tail l) (col : Nat) (cs : List Cel) (hcs : col + cs.length ≤ n) (sp : Option Addr) (c2 : Nat)
    (hsrc : 0 < cs.length → ∃ ad, sp = some ad ∧ ∀ j v, (fl cellC cs)[j]? = some v → w.cell? (ad.add j) = some v) :
    Calls Try.prog 73 #[.pointer (some ⟨d, 0, none⟩), .int .i64 col, .slice sp cs.length c2] w (Mended w d g n cap tail (mendTo (splice l col cs) (col - 1) (min (col + cs.length + 1) n))) := by
  have hle := h.le
  have hcm := h.cap
  have hn5 := h.small
  unfold maxLen at hcm
  have hc := h.slice
  have h1 := h.row
  obtain ⟨m, hm⟩ : ∃ m, m = cs.length := ⟨_, rfl⟩
  rw [← hm] at hcs hsrc ⊢
  replace hm := Lib.hid hm
  replace h := Lib.hid h
  replace hsrc := Lib.hid hsrc
  have hcolc : col ≤ cap := by omega
  have hX : (fl cellC cs).length = m * 10 := by rw [fl_length cellC_length, hm.out]
  have hcur : (fl cellC l ++ tail).length = n * 10 + tail.length := by rw [List.length_append, fl_length cellC_length, h.out.len]
  have hsp := fl_splice cellC_length l cs tail col (by rw [h.out.len, ← hm.out]; exact hcs)
  have hone := fl_one' cellC_one cs
  have hlen : (splice l col cs).length = l.length := length_splice l col cs (by rw [h.out.len, ← hm.out]; exact hcs)
  have hcs0 : ¬ 0 < cs.length → m = 0 := fun h0 => by have := hm.out; omega
  have hrow : ∀ w1, Block w1 g 113 (splice (fl cellC l ++ tail) (col * 10) (fl cellC cs)).toArray → Only [g] w w1 → RowX w1 d g n cap tail (splice l col cs) := fun w1 hb ho => h.out.turned ho (by rw [← hsp]; exact hb) hlen
  clear hsp hlen
  generalize splice l col cs = l2 at hrow ⊢
  have hsrc' : 0 < m → ∃ ad, sp = some ad ∧ ∀ j v, (fl cellC cs)[j]? = some v → w.cell? (ad.add j) = some v := fun h0 => hsrc.out h0
  obtain ⟨X, hXX⟩ : ∃ X, X = fl cellC cs := ⟨_, rfl⟩
  obtain ⟨cur, hcc⟩ : ∃ cur, cur = fl cellC l ++ tail := ⟨_, rfl⟩
  rw [← hXX] at hX hone hrow hsrc'
  rw [← hcc] at hcur hrow h1
  clear hXX hcc hcs0 hsrc
  replace hX := Lib.hid hX
  replace hcur := Lib.hid hcur
  replace hone := Lib.hid hone
  replace hrow := Lib.hid hrow
  replace hsrc' := Lib.hid hsrc'
  replace h1 := Lib.hid h1
  go_enter Try.func73, Try.ntmps73
  go_wp2_with (with_reducible show wpList _ _ _ (⟨some 13, .call _, _, _, _, _⟩ :: _) _ _; go_must (refine wpList_copyN rfl (.tmp 11) (.tmp 12) _ _ rfl 113 10 Try.underlying93 infoC _ _ _ _ _ _ rfl rfl g (col * 10) cur _ h1.out X ((by rw [hX.out, Nat.min_eq_left (by omega)])) (fun hp _ => ⟨if_neg (by omega), hsrc'.out (by omega)⟩) (by rw [hX.out, hcur.out]; omega) hone.out ?_); intro w1 hb1 ho1)
  all_goals
    have hR1 := hrow.out _ hb1.out ho1
    have hm1 := Lib.hid (mend_any hR1 col (col + m) (by omega) (by omega) (by omega))
    clear hb1 hR1
    go_wp2_with ((go_at_call 86; refine (hm1.out).mono ?_; rintro e w2 ⟨⟨v, rfl⟩, hR2, ho2⟩))
    go_end0
    exact ⟨⟨_, rfl⟩, hR2, ho1.trans ho2⟩
theorem set_any {w : World} {d g n cap : Nat} {tail : List Value} {l : List Cel} (h : RowX w d g n cap tail l) (hwh : Whole l) (col : Nat) (cs : List Cel) (hcs : col + cs.length ≤ n) (sp : Option Addr) (c2 : Nat)
    (hsrc : 0 < cs.length → ∃ ad, sp = some ad ∧ ∀ j v, (fl cellC cs)[j]? = some v → w.cell? (ad.add j) = some v) :
    Calls Try.prog 73 #[.pointer (some ⟨d, 0, none⟩), .int .i64 col, .slice sp cs.length c2] w (Mended w d g n cap tail (setL l col cs)) := by
  have := set_raw h col cs hcs sp c2 hsrc
  have e := setL_eq (cs := cs) (col := col) (by rw [h.len]; exact hcs) hwh
  rw [h.len] at e
  rw [e] at this
  exact this
end Go.Proofs.Ytaoegfdaemmogaa.Rw
