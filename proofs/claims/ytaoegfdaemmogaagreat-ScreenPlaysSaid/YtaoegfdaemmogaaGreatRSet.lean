/-
  row: halves that are left alone: what tells them, what makes them blank; cells that are laid over. row: halves that are left alone are made blank; cells are laid over. row: cells are laid over others; cleared cells.
-/
import Derived.Test.YtaoegfdaemmogaaGreatRLeaf
namespace Go.Proofs.YtaoegfdaemmogaaGreat.Rw
open Go Go.RowKit Go.Proofs.YtaoegfdaemmogaaGreat.Com

set_option maxHeartbeats 1000000 in
theorem alone_any {w : World} {d g n cap : Nat} {tail : List Value} {l : List Cel} (h : RowX w d g n cap tail l) (i : Nat) (hi : i < n) :
    Calls Tryz.prog 98 #[.pointer (some ⟨d, 0, none⟩), .int .i64 i] w fun e w' => e = .returned (.bool (decide (Alone l i))) ∧ w = w' := by
  have hle := h.le
  have hcm := h.cap
  unfold maxLen at hcm
  have hc := h.slice
  have hil : i < l.length := by rw [h.len]; exact hi
  have hw := h.wide hil
  have hW := W_at hil
  generalize l[i].wide = x at hw hW
  have hW1 : i + 1 < n → ∃ y, W l (i + 1) = y ∧ w.cell? ⟨g, (i + 1) * 10 + 6, none⟩ = some (.int .u8 y) := fun h1 => by
    have h2 : i + 1 < l.length := by rw [h.len]; exact h1
    exact ⟨_, W_at h2, h.wide h2⟩
  have hW2 : n ≤ i + 1 → W l (i + 1) = 0 := fun h1 => W_out (by rw [h.len]; exact h1)
  have hW0 : 0 < i → ∃ y, W l (i - 1) = y ∧ w.cell? ⟨g, (i - 1) * 10 + 6, none⟩ = some (.int .u8 y) := fun h1 => by
    have h2 : i - 1 < l.length := by omega
    exact ⟨_, W_at h2, h.wide h2⟩
  have hyes := Lib.hid (fun j h0 h1 => has_yes h j h0 h1)
  have hno := Lib.hid (fun j h0 => has_no h j h0)
  obtain ⟨b, hb⟩ : ∃ b, b = decide (Alone l i) := ⟨_, rfl⟩
  rw [← hb]
  replace hb := Lib.hid hb
  clear h hil
  by_cases h1 : x = 1
  · subst h1
    by_cases h2 : i + 1 < n
    · obtain ⟨y, hy, hcy⟩ := hW1 h2
      have hbb : b = (y != 2) := by rw [hb.out, Bool.eq_iff_iff, decide_eq_true_iff]; unfold Alone; rw [hW, hy]; simp
      replace hbb := Lib.hid hbb
      clear hW1 hW2 hW0 hb hW hy
      go_enter Tryz.func98, Tryz.ntmps98
      go_wp2_with ((go_at_call 68; refine (hyes.out _ (by omega) (by omega)).mono ?_; rintro e w' ⟨rfl, rfl⟩))
      go_ret
      exact ⟨ret_bool hbb.out.symm, rfl⟩
    · have hy := hW2 (by omega)
      have hbb : b = true := hb.out.trans (decide_eq_true (by unfold Alone; rw [hW, hy]; simp))
      replace hbb := Lib.hid hbb
      clear hW1 hW2 hW0 hb hW hy
      go_enter Tryz.func98, Tryz.ntmps98
      go_wp2_with ((go_at_call 68; refine (hno.out _ (Or.inr (by omega))).mono ?_; rintro e w' ⟨rfl, rfl⟩))
      go_ret
      exact ⟨ret_bool hbb.out.symm, rfl⟩
  have h1' : (x == 1) = false := by simpa using h1
  by_cases h2 : x = 2
  · subst h2
    by_cases h3 : 0 < i
    · obtain ⟨y, hy, hcy⟩ := hW0 h3
      have hbb : b = (y != 1) := by rw [hb.out, Bool.eq_iff_iff, decide_eq_true_iff]; unfold Alone; rw [hW, hy]; simp; omega
      replace hbb := Lib.hid hbb
      obtain ⟨j, rfl⟩ : ∃ j, i = j + 1 := ⟨i - 1, by omega⟩
      simp only [Nat.add_sub_cancel] at hcy
      clear hW1 hW2 hW0 hb hW hy
      go_enter Tryz.func98, Tryz.ntmps98
      go_wp2_with ((go_at_call 68; refine (hyes.out _ (by omega) (by omega)).mono ?_; rintro e w' ⟨rfl, rfl⟩))
      go_ret
      exact ⟨ret_bool hbb.out.symm, rfl⟩
    · obtain rfl : i = 0 := by omega
      have hbb : b = true := hb.out.trans (decide_eq_true (by unfold Alone; rw [hW]; simp))
      replace hbb := Lib.hid hbb
      clear hW1 hW2 hW0 hb hW
      go_enter Tryz.func98, Tryz.ntmps98
      go_wp2_with ((go_at_call 68; refine (hno.out _ (Or.inl (by omega))).mono ?_; rintro e w' ⟨rfl, rfl⟩))
      go_ret
      exact ⟨ret_bool hbb.out.symm, rfl⟩
  · have h2' : (x == 2) = false := by simpa using h2
    have hbb : b = false := hb.out.trans (decide_eq_false (by unfold Alone; rw [hW]; simp [h1, h2]))
    replace hbb := Lib.hid hbb
    clear hW1 hW2 hW0 hb hW
    go_enter Tryz.func98, Tryz.ntmps98
    go_wp2
    go_ret
    exact ⟨ret_bool hbb.out.symm, rfl⟩
end Go.Proofs.YtaoegfdaemmogaaGreat.Rw
namespace Go.Proofs.YtaoegfdaemmogaaGreat.Rw
open Go Go.RowKit Go.Proofs.YtaoegfdaemmogaaGreat.Com

theorem infoC : (Tryz.prog.info? 114).map (·.size) = some 10 := by kernel_rfl
theorem infoC' (c : Cel) : (Tryz.prog.info? 114).map (·.size) = some (cellC c).length := by rw [cellC_length]; exact infoC
/-- One cell is stored. -/
theorem RowX.put {w w' : World} {d g n cap : Nat} {tail : List Value} {l : List Cel} (h : RowX w d g n cap tail l) {i : Nat} (hi : i < l.length) (c : Cel) (hb : Block w' g 114 (splice (fl cellC l ++ tail) (i * 10) (cellC c)).toArray) (ho : Only [g] w w') :
    RowX w' d g n cap tail (l.set i c) := by
  refine h.turned ho ?_ (by simp)
  have e := fl_splice cellC_length l [c] tail i (by simp; omega)
  rw [fl_one, splice_set l i c hi] at e
  rw [← e]
  exact hb
theorem RowX.fits {w : World} {d g n cap : Nat} {tail : List Value} {l : List Cel} (h : RowX w d g n cap tail l) {i : Nat} (hi : i < n) (c : Cel) : i * 10 + (cellC c).length ≤ (fl cellC l ++ tail).length := by
  rw [List.length_append, fl_length cellC_length, cellC_length, h.len]
  have : (i + 1) * 10 ≤ n * 10 := Nat.mul_le_mul_right _ hi
  omega
/-- The store of a cell, as the walk meets it. -/
theorem RowX.storing {w : World} {d g n cap : Nat} {tail : List Value} {l : List Cel} (h : RowX w d g n cap tail l) {i : Nat} (hi : i < l.length) (c : Cel) :
    ∃ w', (storeCells ⟨g, i * 10, none⟩ (cellC c)).run Tryz.prog w = .ok () w' ∧ RowX w' d g n cap tail (l.set i c) ∧ Only [g] w w' := by
  have hrun := run_storeCells_at Tryz.prog g (i * 10) 114 (cellC c) 0 _ w h.row (by simpa using h.fits (by rw [← h.len]; exact hi) c) (cellC_one c)
  refine ⟨_, hrun, ?_, only_setRow w g _⟩
  exact h.put hi c (by simpa [splice, Block, cellC_length] using setRow_heap w g _ _ _ _ h.row) (only_setRow w g _)
def Mended (w : World) (d g n cap : Nat) (tail : List Value) (l : List Cel) (e : Ending) (w' : World) : Prop := (∃ v, e = .returned v) ∧ RowX w' d g n cap tail l ∧ Only [g] w w'

set_option maxRecDepth 100000 in
set_option maxHeartbeats 2000000 in
theorem mend_any {w : World} {d g n cap : Nat} {tail : List Value} {l : List Cel} (h : RowX w d g n cap tail l) (lo hi : Nat) (h1 : lo ≤ n) (h2 : hi ≤ n) (h3 : lo ≤ hi + 2) :
    Calls Tryz.prog 87 #[.pointer (some ⟨d, 0, none⟩), .int .i64 lo, .int .i64 hi] w (Mended w d g n cap tail (mendTo l (lo - 1) (min (hi + 1) n))) := by
  have hle := h.le
  have hn := h.pos
  have hn5 := h.small
  have hcm := h.cap
  unfold maxLen at hcm
  have hc := h.slice
  obtain ⟨a, ha⟩ : ∃ a, a = lo - 1 := ⟨_, rfl⟩
  obtain ⟨b, hb⟩ : ∃ b, b = min (hi + 1) n := ⟨_, rfl⟩
  rw [← ha, ← hb]
  have ha' : max ((lo : Int) - 1) 0 = (a : Int) := by omega
  have hb' : min ((hi : Int) + 1) (n : Int) = (b : Int) := by omega
  have hab : a ≤ b := by omega
  have hbn : b ≤ n := by omega
  have hw0 := Lib.hid h
  clear h hb ha
  go_enter Tryz.func87, Tryz.ntmps87
  have hmx : (if (lo : Int) - 1 < 0 then 0 else (lo : Int) - 1) = (a : Int) := by split <;> omega
  have hmn : (if (n : Int) < (hi : Int) + 1 then (n : Int) else (hi : Int) + 1) = (b : Int) := by split <;> omega
  go_wp2
  go_quiet (fail)
  clear hmx hmn ha' hb'
  go_wp2
  have hd0 : ∀ q, RowX (w.drewN q) d g n cap tail l := fun q => hw0.out.kept (Only.drewN [] w q) (by simp) (by simp)
  replace hd0 := Lib.hid hd0
  go_loopw [22] (fun i wr => ∃ k : Nat, k ≤ b - a ∧ i = .int .i64 k ∧ Hid (RowX wr d g n cap tail (mendTo l a (a + k)) ∧ Only [g] w wr)) (fun i _ => (b - a) - (intOf i).toNat)
  case atStart => exact ⟨0, Nat.zero_le _, rfl, Lib.hid ⟨by simpa [mend_none] using hd0.out _, Only.drewN _ _ _⟩⟩
  case round =>
    obtain ⟨k, hk, rfl, hR⟩ := hrel
    obtain ⟨hR, hO⟩ := hR.out
    by_cases hlt : k < b - a
    · obtain ⟨p, hp⟩ : ∃ p, p = a + k := ⟨_, rfl⟩
      have hp' : (a : Int) + (k : Int) = (p : Int) := by omega
      rw [← hp] at hR
      have hpn : p < n := by omega
      have hpl : p < l.length := by rw [hw0.out.len]; exact hpn
      have hall := alone_any hR p hpn
      have hA := alone_mendTo l a p p
      have hsn := mend_snoc l a p (by omega)
      have hcur : (mendTo l a p)[p]? = some l[p] := by rw [mendTo_at, List.getElem?_eq_getElem hpl]; simp
      have hpm : p < (mendTo l a p).length := by rw [mendTo_length]; exact hpl
      have hnx : a + (k + 1) = p + 1 := by omega
      by_cases hAl : Alone l p
      · rw [decide_eq_true (hA.2 ⟨hAl, by omega⟩)] at hall
        rw [dif_pos ⟨hpl, hAl⟩] at hsn
        have hgc : (mendTo l a p)[p] = l[p] := by rw [List.getElem?_eq_getElem hpm] at hcur; exact Option.some.inj hcur
        have hS := fun (w' : World) (h : RowX w' d g n cap tail (mendTo l a p)) => And.intro h.slice (And.intro (h.fg hpm) (And.intro (h.bg hpm) (h.gg hpm)))
        rw [hgc] at hS
        have hS' := fun (w' : World) (h : RowX w' d g n cap tail ((mendTo l a p).set p (blank1 l[p]))) => And.intro h.slice (And.intro (h.fg (i := p) (by simpa using hpm)) (And.intro (h.bg (i := p) (by simpa using hpm)) (h.gg (i := p) (by simpa using hpm))))
        simp only [List.getElem_set_self] at hS'
        have hst := fun (w1 : World) (hR1 : RowX w1 d g n cap tail (mendTo l a p)) => hR1.storing hpm (blank1 l[p])
        rw [← hsn] at hst hS'
        have hbl := fun w => blank_any l[p].a w
        have hCe : cellC (blank1 l[p]) = cellC ⟨32, [], 0, l[p].a⟩ := rfl
        rw [hCe] at hst
        have hae : (blank1 l[p]).a = l[p].a := rfl
        rw [hae] at hS'
        have hC10 := cellC_length ⟨32, [], 0, l[p].a⟩
        generalize cellC ⟨32, [], 0, l[p].a⟩ = C at hst hbl hC10
        generalize l[p].a = A at hS hS' hbl
        obtain ⟨af, ab, ag⟩ := A
        simp only at hS hS' hbl
        generalize mendTo l a p = lc at hR hall hst hpm hgc hcur hA hsn hS
        obtain ⟨lc', hlc⟩ : ∃ lc', lc' = mendTo l a (p + 1) := ⟨_, rfl⟩
        rw [← hlc] at hst hsn hS'
        replace hlc := Lib.hid hlc
        replace hall := Lib.hid hall
        replace hst := Lib.hid hst
        replace hbl := Lib.hid hbl
        replace hS := Lib.hid hS
        replace hS' := Lib.hid hS'
        replace hnx := Lib.hid hnx
        replace hp := Lib.hid hp
        clear hgc hcur hA hsn hCe
        go_wp2_with ((go_at_call 98; refine (hall.out).mono ?_; rintro e w' ⟨rfl, rfl⟩))
        clear hall hd0
        go_region_held3 (fun w' => w'.cell? ⟨d, 0, none⟩ = some (.slice (some ⟨g, 0, none⟩) n cap) ∧ w'.cell? ⟨g, p * 10 + 7, none⟩ = some (.int .u32 af) ∧ w'.cell? ⟨g, p * 10 + 8, none⟩ = some (.int .u32 ab) ∧ w'.cell? ⟨g, p * 10 + 9, none⟩ = some (.int .u16 ag))
          (first | exact hS.out _ hR | exact hS.out _ hR.drawn | exact hS.out _ hR6 | exact hS'.out _ hR7 | go_keep)
          (first
            | (go_at_call 99; with_reducible refine (hbl.out _).mono ?_; rintro e1 w6 ⟨rfl, hb6'⟩; have hR6 : RowX w6 d g n cap tail lc := hR.drawn.below hb6'; obtain ⟨w7, hst7, hR7, ho7⟩ := hst.out w6 hR6))
        have hO6 : Only [g] w w6 := hO.trans ((Only.drewN [g] wr 1).trans (Only.of_below hb6' [g]))
        replace hR7 := Lib.hid hR7
        replace hO6 := Lib.hid (hO6.trans ho7)
        clear hO hst7
        go_wp2
        go_roundw
        case rel => exact ⟨k + 1, by omega, by go_num, Lib.hid ⟨by rw [hnx.out, ← hlc.out]; exact hR7.out, hO6.out⟩⟩
        case measure => simp [intOf]; omega
      · rw [decide_eq_false (fun h => hAl (hA.1 h).1)] at hall
        rw [dif_neg (fun h => hAl h.2)] at hsn
        rw [← hsn] at hR
        replace hall := Lib.hid hall
        replace hR := Lib.hid hR
        replace hO := Lib.hid hO
        replace hnx := Lib.hid hnx
        replace hp := Lib.hid hp
        clear hcur hA hsn hd0
        go_wp2_with ((go_at_call 98; refine (hall.out).mono ?_; rintro e w' ⟨rfl, rfl⟩))
        go_roundw
        case rel => exact ⟨k + 1, by omega, by go_num, Lib.hid ⟨by rw [hnx.out]; exact hR.out, hO.out⟩⟩
        case measure => simp [intOf]; omega
    · have hkb : a + k = b := by omega
      rw [hkb] at hR
      replace hR := Lib.hid hR
      replace hO := Lib.hid hO
      clear hkb hd0
      go_wp2
      go_end0
      exact ⟨⟨_, rfl⟩, hR.out, hO.out⟩
end Go.Proofs.YtaoegfdaemmogaaGreat.Rw
namespace Go.Proofs.YtaoegfdaemmogaaGreat.Rw
open Go Go.RowKit Go.Proofs.YtaoegfdaemmogaaGreat.Com

set_option maxRecDepth 100000 in
set_option maxHeartbeats 2000000 in
theorem set_raw {w : World} {d g n cap : Nat} {tail : List Value} {l : List Cel} (h : RowX w d g n cap tail l) (col : Nat) (cs : List Cel) (hcs : col + cs.length ≤ n) (sp : Option Addr) (c2 : Nat)
    (hsrc : 0 < cs.length → ∃ ad, sp = some ad ∧ ∀ j v, (fl cellC cs)[j]? = some v → w.cell? (ad.add j) = some v) :
    Calls Tryz.prog 69 #[.pointer (some ⟨d, 0, none⟩), .int .i64 col, .slice sp cs.length c2] w (Mended w d g n cap tail (mendTo (splice l col cs) (col - 1) (min (col + cs.length + 1) n))) := by
  have hle := h.le
  have hcm := h.cap
  have hn5 := h.small
  unfold maxLen at hcm
  have hc := h.slice
  have h1 := h.row
  obtain ⟨m, hm⟩ : ∃ m, m = cs.length := ⟨_, rfl⟩
  rw [← hm] at hcs hsrc ⊢
  replace hm := Lib.hid hm
  replace h := Lib.hid h
  replace hsrc := Lib.hid hsrc
  have hcolc : col ≤ cap := by omega
  have hX : (fl cellC cs).length = m * 10 := by rw [fl_length cellC_length, hm.out]
  have hcur : (fl cellC l ++ tail).length = n * 10 + tail.length := by rw [List.length_append, fl_length cellC_length, h.out.len]
  have hsp := fl_splice cellC_length l cs tail col (by rw [h.out.len, ← hm.out]; exact hcs)
  have hone := fl_one' cellC_one cs
  have hlen : (splice l col cs).length = l.length := length_splice l col cs (by rw [h.out.len, ← hm.out]; exact hcs)
  have hcs0 : ¬ 0 < cs.length → m = 0 := fun h0 => by have := hm.out; omega
  have hrow : ∀ w1, Block w1 g 114 (splice (fl cellC l ++ tail) (col * 10) (fl cellC cs)).toArray → Only [g] w w1 → RowX w1 d g n cap tail (splice l col cs) := fun w1 hb ho => h.out.turned ho (by rw [← hsp]; exact hb) hlen
  clear hsp hlen
  generalize splice l col cs = l2 at hrow ⊢
  have hsrc' : 0 < m → ∃ ad, sp = some ad ∧ ∀ j v, (fl cellC cs)[j]? = some v → w.cell? (ad.add j) = some v := fun h0 => hsrc.out h0
  obtain ⟨X, hXX⟩ : ∃ X, X = fl cellC cs := ⟨_, rfl⟩
  obtain ⟨cur, hcc⟩ : ∃ cur, cur = fl cellC l ++ tail := ⟨_, rfl⟩
  rw [← hXX] at hX hone hrow hsrc'
  rw [← hcc] at hcur hrow h1
  clear hXX hcc hcs0 hsrc
  replace hX := Lib.hid hX
  replace hcur := Lib.hid hcur
  replace hone := Lib.hid hone
  replace hrow := Lib.hid hrow
  replace hsrc' := Lib.hid hsrc'
  replace h1 := Lib.hid h1
  go_enter Tryz.func69, Tryz.ntmps69
  go_wp2_with (with_reducible show wpList _ _ _ (⟨some 13, .call _, _, _, _, _⟩ :: _) _ _; go_must (refine wpList_copyN rfl (.tmp 11) (.tmp 12) _ _ rfl 114 10 Tryz.underlying120 infoC _ _ _ _ _ _ rfl rfl g (col * 10) cur _ h1.out X ((by rw [hX.out, Nat.min_eq_left (by omega)])) (fun hp _ => ⟨if_neg (by omega), hsrc'.out (by omega)⟩) (by rw [hX.out, hcur.out]; omega) hone.out ?_); intro w1 hb1 ho1)
  all_goals
    have hR1 := hrow.out _ hb1.out ho1
    have hm1 := Lib.hid (mend_any hR1 col (col + m) (by omega) (by omega) (by omega))
    clear hb1 hR1
    go_wp2_with ((go_at_call 87; refine (hm1.out).mono ?_; rintro e w2 ⟨⟨v, rfl⟩, hR2, ho2⟩))
    go_end0
    exact ⟨⟨_, rfl⟩, hR2, ho1.trans ho2⟩
theorem set_any {w : World} {d g n cap : Nat} {tail : List Value} {l : List Cel} (h : RowX w d g n cap tail l) (hwh : Whole l) (col : Nat) (cs : List Cel) (hcs : col + cs.length ≤ n) (sp : Option Addr) (c2 : Nat)
    (hsrc : 0 < cs.length → ∃ ad, sp = some ad ∧ ∀ j v, (fl cellC cs)[j]? = some v → w.cell? (ad.add j) = some v) :
    Calls Tryz.prog 69 #[.pointer (some ⟨d, 0, none⟩), .int .i64 col, .slice sp cs.length c2] w (Mended w d g n cap tail (setL l col cs)) := by
  have := set_raw h col cs hcs sp c2 hsrc
  have e := setL_eq (cs := cs) (col := col) (by rw [h.len]; exact hcs) hwh
  rw [h.len] at e
  rw [e] at this
  exact this
end Go.Proofs.YtaoegfdaemmogaaGreat.Rw
