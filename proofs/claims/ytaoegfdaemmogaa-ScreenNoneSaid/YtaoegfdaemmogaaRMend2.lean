/-
  row: halves that are left alone are made blank; cells are laid over.
-/
import Derived.Test.YtaoegfdaemmogaaRMend
namespace Go.Proofs.Ytaoegfdaemmogaa.Rw
open Go Go.RowKit Go.Proofs.Ytaoegfdaemmogaa.Com

theorem infoC : (Try.prog.info? 113).map (·.size) = some 10 := by kernel_rfl
theorem infoC' (c : Cel) : (Try.prog.info? 113).map (·.size) = some (cellC c).length := by rw [cellC_length]; exact infoC
/-- One cell is stored. -/
theorem RowX.put {w w' : World} {d g n cap : Nat} {tail : List Value} {l : List Cel} (h : RowX w d g n cap tail l) {i : Nat} (hi : i < l.length) (c : Cel) (hb : Block w' g 113 (splice (fl cellC l ++ tail) (i * 10) (cellC c)).toArray) (ho : Only [g] w w') :
    RowX w' d g n cap tail (l.set i c) := by
  refine h.turned ho ?_ (by simp)
  have e := fl_splice cellC_length l [c] tail i (by simp; omega)
  rw [fl_one, splice_set l i c hi] at e
  rw [← e]
  exact hb
theorem RowX.fits {w : World} {d g n cap : Nat} {tail : List Value} {l : List Cel} (h : RowX w d g n cap tail l) {i : Nat} (hi : i < n) (c : Cel) : i * 10 + (cellC c).length ≤ (fl cellC l ++ tail).length := by
  rw [List.length_append, fl_length cellC_length, cellC_length, h.len]
  have : (i + 1) * 10 ≤ n * 10 := Nat.mul_le_mul_right _ hi
  omega
/-- The store of a cell, as the walk meets it. -/
theorem RowX.storing {w : World} {d g n cap : Nat} {tail : List Value} {l : List Cel} (h : RowX w d g n cap tail l) {i : Nat} (hi : i < l.length) (c : Cel) :
    ∃ w', (storeCells ⟨g, i * 10, none⟩ (cellC c)).run Try.prog w = .ok () w' ∧ RowX w' d g n cap tail (l.set i c) ∧ Only [g] w w' := by
  have hrun := run_storeCells_at Try.prog g (i * 10) 113 (cellC c) 0 _ w h.row (by simpa using h.fits (by rw [← h.len]; exact hi) c) (cellC_one c)
  refine ⟨_, hrun, ?_, only_setRow w g _⟩
  exact h.put hi c (by simpa [splice, Block, cellC_length] using setRow_heap w g _ _ _ _ h.row) (only_setRow w g _)
def Mended (w : World) (d g n cap : Nat) (tail : List Value) (l : List Cel) (e : Ending) (w' : World) : Prop := (∃ v, e = .returned v) ∧ RowX w' d g n cap tail l ∧ Only [g] w w'

set_option maxRecDepth 100000 in
set_option maxHeartbeats 2000000 in
theorem mend_any {w : World} {d g n cap : Nat} {tail : List Value} {l : List Cel} (h : RowX w d g n cap tail l) (lo hi : Nat) (h1 : lo ≤ n) (h2 : hi ≤ n) (h3 : lo ≤ hi + 2) :
    Calls Try.prog 86 #[.pointer (some ⟨d, 0, none⟩), .int .i64 lo, .int .i64 hi] w (Mended w d g n cap tail (mendTo l (lo - 1) (min (hi + 1) n))) := by
  have hle := h.le
  have hn := h.pos
  have hn5 := h.small
  have hcm := h.cap
  unfold maxLen at hcm
  have hc := h.slice
  obtain ⟨a, ha⟩ : ∃ a, a = lo - 1 := ⟨_, rfl⟩
  obtain ⟨b, hb⟩ : ∃ b, b = min (hi + 1) n := ⟨_, rfl⟩
  rw [← ha, ← hb]
  have ha' : max ((lo : Int) - 1) 0 = (a : Int) := by omega
  have hb' : min ((hi : Int) + 1) (n : Int) = (b : Int) := by omega
  have hab : a ≤ b := by omega
  have hbn : b ≤ n := by omega
  have hw0 := Lib.hid h
  clear h hb ha
  go_enter Try.func86, Try.ntmps86
  have hmx : (if (lo : Int) - 1 < 0 then 0 else (lo : Int) - 1) = (a : Int) := by split <;> omega
  have hmn : (if (n : Int) < (hi : Int) + 1 then (n : Int) else (hi : Int) + 1) = (b : Int) := by split <;> omega
  go_wp2
  go_quiet (fail)
  clear hmx hmn ha' hb'
  go_wp2
  have hd0 : ∀ q, RowX (w.drewN q) d g n cap tail l := fun q => hw0.out.kept (Only.drewN [] w q) (by simp) (by simp)
  replace hd0 := Lib.hid hd0
  go_loopw [22] (fun i wr => ∃ k : Nat, k ≤ b - a ∧ i = .int .i64 k ∧ Hid (RowX wr d g n cap tail (mendTo l a (a + k)) ∧ Only [g] w wr)) (fun i _ => (b - a) - (intOf i).toNat)
  case atStart => exact ⟨0, Nat.zero_le _, rfl, Lib.hid ⟨by simpa [mend_none] using hd0.out _, Only.drewN _ _ _⟩⟩
  case round =>
    obtain ⟨k, hk, rfl, hR⟩ := hrel
    obtain ⟨hR, hO⟩ := hR.out
    by_cases hlt : k < b - a
    · obtain ⟨p, hp⟩ : ∃ p, p = a + k := ⟨_, rfl⟩
      have hp' : (a : Int) + (k : Int) = (p : Int) := by omega
      rw [← hp] at hR
      have hpn : p < n := by omega
      have hpl : p < l.length := by rw [hw0.out.len]; exact hpn
      have hall := alone_any hR p hpn
      have hA := alone_mendTo l a p p
      have hsn := mend_snoc l a p (by omega)
      have hcur : (mendTo l a p)[p]? = some l[p] := by rw [mendTo_at, List.getElem?_eq_getElem hpl]; simp
      have hpm : p < (mendTo l a p).length := by rw [mendTo_length]; exact hpl
      have hnx : a + (k + 1) = p + 1 := by omega
      by_cases hAl : Alone l p
      · rw [decide_eq_true (hA.2 ⟨hAl, by omega⟩)] at hall
        rw [dif_pos ⟨hpl, hAl⟩] at hsn
        have hgc : (mendTo l a p)[p] = l[p] := by rw [List.getElem?_eq_getElem hpm] at hcur; exact Option.some.inj hcur
        have hS := fun (w' : World) (h : RowX w' d g n cap tail (mendTo l a p)) => And.intro h.slice (And.intro (h.fg hpm) (And.intro (h.bg hpm) (h.gg hpm)))
        rw [hgc] at hS
        have hS' := fun (w' : World) (h : RowX w' d g n cap tail ((mendTo l a p).set p (blank1 l[p]))) => And.intro h.slice (And.intro (h.fg (i := p) (by simpa using hpm)) (And.intro (h.bg (i := p) (by simpa using hpm)) (h.gg (i := p) (by simpa using hpm))))
        simp only [List.getElem_set_self] at hS'
        have hst := fun (w1 : World) (hR1 : RowX w1 d g n cap tail (mendTo l a p)) => hR1.storing hpm (blank1 l[p])
        rw [← hsn] at hst hS'
        have hbl := fun w => blank_any l[p].a w
        have hCe : cellC (blank1 l[p]) = cellC ⟨32, [], 0, l[p].a⟩ := rfl
        rw [hCe] at hst
        have hae : (blank1 l[p]).a = l[p].a := rfl
        rw [hae] at hS'
        have hC10 := cellC_length ⟨32, [], 0, l[p].a⟩
        generalize cellC ⟨32, [], 0, l[p].a⟩ = C at hst hbl hC10
        generalize l[p].a = A at hS hS' hbl
        obtain ⟨af, ab, ag⟩ := A
        simp only at hS hS' hbl
        generalize mendTo l a p = lc at hR hall hst hpm hgc hcur hA hsn hS
        obtain ⟨lc', hlc⟩ : ∃ lc', lc' = mendTo l a (p + 1) := ⟨_, rfl⟩
        rw [← hlc] at hst hsn hS'
        replace hlc := Lib.hid hlc
        replace hall := Lib.hid hall
        replace hst := Lib.hid hst
        replace hbl := Lib.hid hbl
        replace hS := Lib.hid hS
        replace hS' := Lib.hid hS'
        replace hnx := Lib.hid hnx
        replace hp := Lib.hid hp
        clear hgc hcur hA hsn hCe
        go_wp2_with ((go_at_call 97; refine (hall.out).mono ?_; rintro e w' ⟨rfl, rfl⟩))
        clear hall hd0
        go_region_held3 (fun w' => w'.cell? ⟨d, 0, none⟩ = some (.slice (some ⟨g, 0, none⟩) n cap) ∧ w'.cell? ⟨g, p * 10 + 7, none⟩ = some (.int .u32 af) ∧ w'.cell? ⟨g, p * 10 + 8, none⟩ = some (.int .u32 ab) ∧ w'.cell? ⟨g, p * 10 + 9, none⟩ = some (.int .u16 ag))
          (first | exact hS.out _ hR | exact hS.out _ hR.drawn | exact hS.out _ hR6 | exact hS'.out _ hR7 | go_keep)
          (first
            | (go_at_call 96; with_reducible refine (hbl.out _).mono ?_; rintro e1 w6 ⟨rfl, hb6'⟩; have hR6 : RowX w6 d g n cap tail lc := hR.drawn.below hb6'; obtain ⟨w7, hst7, hR7, ho7⟩ := hst.out w6 hR6))
        have hO6 : Only [g] w w6 := hO.trans ((Only.drewN [g] wr 1).trans (Only.of_below hb6' [g]))
        replace hR7 := Lib.hid hR7
        replace hO6 := Lib.hid (hO6.trans ho7)
        clear hO hst7
        go_wp2
        go_roundw
        case rel => exact ⟨k + 1, by omega, by go_num, Lib.hid ⟨by rw [hnx.out, ← hlc.out]; exact hR7.out, hO6.out⟩⟩
        case measure => simp [intOf]; omega
      · rw [decide_eq_false (fun h => hAl (hA.1 h).1)] at hall
        rw [dif_neg (fun h => hAl h.2)] at hsn
        rw [← hsn] at hR
        replace hall := Lib.hid hall
        replace hR := Lib.hid hR
        replace hO := Lib.hid hO
        replace hnx := Lib.hid hnx
        replace hp := Lib.hid hp
        clear hcur hA hsn hd0
        go_wp2_with ((go_at_call 97; refine (hall.out).mono ?_; rintro e w' ⟨rfl, rfl⟩))
        go_roundw
        case rel => exact ⟨k + 1, by omega, by go_num, Lib.hid ⟨by rw [hnx.out]; exact hR.out, hO.out⟩⟩
        case measure => simp [intOf]; omega
    · have hkb : a + k = b := by omega
      rw [hkb] at hR
      replace hR := Lib.hid hR
      replace hO := Lib.hid hO
      clear hkb hd0
      go_wp2
      go_end0
      exact ⟨⟨_, rfl⟩, hR.out, hO.out⟩
end Go.Proofs.Ytaoegfdaemmogaa.Rw
