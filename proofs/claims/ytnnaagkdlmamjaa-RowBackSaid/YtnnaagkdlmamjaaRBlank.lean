/-
  row: Blank.
-/
import Derived.Test.YtnnaagkdlmamjaaRTold
namespace Go.Proofs.Ytnnaagkdlmamjaa.Rw
open Go Go.RowKit Go.Proofs.Ytnnaagkdlmamjaa.Com

def filled (c : Cel) : Bool := (c.r != 32) || ((decide (0 < c.m.length)) || (c.wide != 0))
theorem filled_any (c : Cel) (w : World) : Calls Try.prog 49 #[.agg (cellC c).toArray] w fun e w' => e = .returned (.bool (filled c)) ∧ Below w.heap.size w w' := by
  obtain ⟨r, m, wd, ⟨af, ab, ag⟩⟩ := c
  obtain ⟨p0, p1, p2, p3, hp⟩ : ∃ p0 p1 p2 p3, pad4 m = [p0, p1, p2, p3] := by
    have h4 := pad4_length m
    generalize pad4 m = q at h4
    match q, h4 with
    | [a, b, c, d], _ => exact ⟨a, b, c, d, rfl⟩
  have hC : (cellC ⟨r, m, wd, ⟨af, ab, ag⟩⟩).toArray = #[.int .i32 r, .int .i32 p0, .int .i32 p1, .int .i32 p2, .int .i32 p3, .int .u8 m.length, .int .u8 wd, .int .u32 af, .int .u32 ab, .int .u16 ag] := by simp [cellC, hp, attV]
  rw [hC]
  obtain ⟨b, hb⟩ : ∃ b, b = filled ⟨r, m, wd, ⟨af, ab, ag⟩⟩ := ⟨_, rfl⟩
  rw [← hb]
  unfold filled at hb
  simp only at hb
  generalize m.length = k at hb ⊢
  replace hb := Lib.hid hb
  clear hp hC
  go_enter Try.func49, Try.ntmps49
  go_wp2
  all_goals
    go_ret
    exact ⟨ret_bool (by rw [hb.out, Bool.eq_iff_iff]; simp <;> omega), below_new _ _⟩

/-- Cells that a slice shows. -/
def CelsAt (w : World) (sp : Option Addr) (L : List Cel) : Prop := ∀ i (hi : i < L.length), ∃ g o, sp = some ⟨g, o, none⟩ ∧ g < w.heap.size ∧ ∀ j v, (cellC L[i])[j]? = some v → w.cell? ⟨g, o + i * 10 + j, none⟩ = some v
def IdxDone (w : World) (L : List Cel) (e : Ending) (w' : World) : Prop := ∃ n : Int, e = .returned (.int .i64 n) ∧ (0 ≤ n ↔ L.any filled = true) ∧ -1 ≤ n ∧ Below w.heap.size w w'
set_option maxRecDepth 100000 in
set_option maxHeartbeats 2000000 in
theorem index_any (L : List Cel) (sp : Option Addr) (c : Nat) (hc : c ≤ maxLen) (hl : L.length ≤ c) (w : World) (h : CelsAt w sp L) :
    Calls Try.prog 56 #[.slice sp L.length c, .func (.func 49) #[] #[]] w (IdxDone w L) := by
  unfold maxLen at hc
  obtain ⟨m, hm⟩ : ∃ m, m = L.length := ⟨_, rfl⟩
  rw [← hm] at hl ⊢
  replace hm := Lib.hid hm
  replace h := Lib.hid h
  go_enter Try.func56, Try.ntmps56
  go_wp2
  go_loopw [8] (fun i wr => ∃ k : Nat, k ≤ m ∧ i = .int .i64 k ∧ Hid (Below w.heap.size w wr ∧ (L.take k).any filled = false)) (fun i _ => m - (intOf i).toNat)
  case atStart => exact ⟨0, Nat.zero_le _, rfl, Lib.hid ⟨Below.refl _ _, by simp⟩⟩
  case round =>
    obtain ⟨k, hk, rfl, hR⟩ := hrel
    have hm' := hm.out
    obtain ⟨hb, hn⟩ := hR.out
    by_cases hlt : k < m
    · have hkl : k < L.length := by omega
      obtain ⟨g, o, rfl, hg, hcell⟩ := h.out k hkl
      have hld : ∀ j v, (cellC L[k])[j]? = some v → wr.cell? ((⟨g, o + k * 10, none⟩ : Addr).add j) = some v := fun j v hj => by
        rw [Addr.add_lit, hb.cell hg]
        exact hcell j v hj
      have hfi := fun w => filled_any L[k] w
      have hC10 := infoC' L[k]
      have htk : (L.take (k + 1)).any filled = filled L[k] := by
        rw [List.take_add_one, List.getElem?_eq_getElem hkl, List.any_append, hn]
        simp
      have hany : filled L[k] = true → L.any filled = true := fun hf => List.any_eq_true.2 ⟨_, List.getElem_mem hkl, hf⟩
      generalize L[k] = c at hld hfi hC10 htk hany
      generalize cellC c = C at hld hfi hC10
      replace hld := Lib.hid hld
      replace hC10 := Lib.hid hC10
      replace hb := Lib.hid hb
      clear hn hm' hcell
      by_cases hf : filled c = true
      · rw [hf] at hfi
        replace hany := Lib.hid (hany hf)
        replace hfi := Lib.hid hfi
        clear hf htk
        go_wp2_with (first
          | (with_reducible show wpList _ _ _ (⟨some 15, .load _ (.tmp 14), _, _, _, _⟩ :: _) _ _; go_must (refine wpList_loadAt rfl 74 (.tmp 14) rfl ⟨g, o + k * 10, none⟩ rfl C _ hld.out Try.underlying74 rfl hC10.out ?_))
          | (go_at_call 49; (with_reducible refine (hfi.out _).mono ?_); rintro e w1 ⟨rfl, hb1⟩))
        go_ret
        exact ⟨(k : Int), rfl, ⟨fun _ => hany.out, fun _ => by omega⟩, by omega, below_next hb.out hb1⟩
      · have hf : filled c = false := by simpa using hf
        rw [hf] at hfi htk
        replace htk := Lib.hid htk
        replace hfi := Lib.hid hfi
        clear hf hany
        go_wp2_with (first
          | (with_reducible show wpList _ _ _ (⟨some 15, .load _ (.tmp 14), _, _, _, _⟩ :: _) _ _; go_must (refine wpList_loadAt rfl 74 (.tmp 14) rfl ⟨g, o + k * 10, none⟩ rfl C _ hld.out Try.underlying74 rfl hC10.out ?_))
          | (go_at_call 49; (with_reducible refine (hfi.out _).mono ?_); rintro e w1 ⟨rfl, hb1⟩))
        have hb2 := Lib.hid (below_next hb.out hb1)
        clear hb1
        go_roundw
        case rel => exact ⟨k + 1, by omega, by go_num, Lib.hid ⟨hb2.out, htk.out⟩⟩
        case measure => simp [intOf]; omega
    · obtain rfl : k = m := by omega
      have hno : L.any filled = false := by rw [← List.take_of_length_le (l := L) (i := k) (by omega)]; exact hn
      replace hno := Lib.hid hno
      replace hb := Lib.hid hb
      clear hn hm' hR
      go_wp2
      go_ret
      exact ⟨-1, rfl, ⟨fun h => by omega, fun h => by rw [hno.out] at h; cases h⟩, by omega, hb.out⟩

theorem contains_any (L : List Cel) (sp : Option Addr) (c : Nat) (hc : c ≤ maxLen) (hl : L.length ≤ c) (w : World) (h : CelsAt w sp L) :
    Calls Try.prog 48 #[.slice sp L.length c, .func (.func 49) #[] #[]] w fun e w' => e = .returned (.bool (L.any filled)) ∧ Below w.heap.size w w' := by
  have hi := Lib.hid (index_any L sp c hc hl w h)
  generalize L.length = m at hi ⊢
  clear h hl hc
  go_enter Try.func48, Try.ntmps48
  go_wp2_with ((go_at_call 56; (with_reducible refine (hi.out).mono ?_); rintro e w1 ⟨n, rfl, hn, hn1, hb1⟩; replace hn := Lib.hid hn))
  go_ret
  exact ⟨ret_bool (by rw [Bool.eq_iff_iff]; simpa using hn.out), hb1⟩

theorem blank_nil (from' : Int) (w : World) : Calls Try.prog 24 #[.pointer none, .int .i64 from'] w fun e w' => e = .returned (.bool true) ∧ w = w' := by
  go_enter Try.func24, Try.ntmps24
  go_wp2_with ((go_at_call 27; (with_reducible refine (len_nil _).mono ?_); rintro e w' ⟨rfl, rfl⟩))
  go_ret
  exact ⟨rfl, rfl⟩
theorem blank_zero {w : World} {d : Nat} (h : w.cell? ⟨d, 0, none⟩ = some (.slice none 0 0)) (from' : Int) : Calls Try.prog 24 #[.pointer (some ⟨d, 0, none⟩), .int .i64 from'] w fun e w' => e = .returned (.bool true) ∧ w = w' := by
  have hl := Lib.hid (len_zero h)
  go_enter Try.func24, Try.ntmps24
  go_wp2_with ((go_at_call 27; (with_reducible refine (hl.out).mono ?_); rintro e w' ⟨rfl, rfl⟩))
  go_ret
  exact ⟨rfl, rfl⟩
def blankF (l : List Cel) (k : Int) : Bool := !((l.drop k.toNat).any filled)
theorem drop_held (l : List Cel) (k : Int) : l.drop (heldF k l.length) = l.drop k.toNat := by
  unfold heldF
  rcases Nat.le_total k.toNat l.length with h | h
  · rw [Nat.min_eq_left h]
  · rw [Nat.min_eq_right h, List.drop_length, List.drop_eq_nil_of_le h]
set_option maxRecDepth 100000 in
set_option maxHeartbeats 2000000 in
theorem blank'_any {w : World} {d g n cap : Nat} {tail : List Value} {l : List Cel} (h : RowX w d g n cap tail l) (from' : Int) :
    Calls Try.prog 24 #[.pointer (some ⟨d, 0, none⟩), .int .i64 from'] w fun e w' => e = .returned (.bool (blankF l from')) ∧ Below w.heap.size w w' := by
  have hn := h.pos
  have hn5 := h.small
  have hle := h.le
  have hcm := h.cap
  have hcm' := h.cap
  unfold maxLen at hcm'
  have hn0 : ((n : Int) == 0) = false := beq_eq_false_iff_ne.2 (by omega)
  have hlen := Lib.hid (len_any h)
  have hc := h.slice
  have hcd := h.drawn.slice
  have hp : heldF from' n ≤ n := Nat.min_le_right _ _
  have hh := held_any from' n
  have hdr := drop_held l from'
  rw [h.len] at hdr
  have hE : blankF l from' = !((l.drop (heldF from' n)).any filled) := by unfold blankF; rw [hdr]
  rw [hE]
  clear hE hdr
  generalize heldF from' n = p at hh hp ⊢
  obtain ⟨ad1, had1⟩ : ∃ ad1, (if cap = p then (some ⟨g, 0, none⟩ : Option Addr) else some ⟨g, p * 10, none⟩) = ad1 := ⟨_, rfl⟩
  have hcel : ∀ w', Below w.heap.size w w' → CelsAt w' ad1 (l.drop p) := by
    intro w' hb i hi
    have hi2 : p + i < l.length := by simp at hi; omega
    have hne : cap ≠ p := by have := h.len; omega
    refine ⟨g, p * 10, by rw [← had1, if_neg hne], (h.below hb).row.lt, fun j v hj => ?_⟩
    rw [List.getElem_drop] at hj
    have hj10 := (List.getElem?_eq_some_iff.1 hj).1
    rw [cellC_length] at hj10
    have := (h.below hb).at' hi2 hj10 hj
    rw [show p * 10 + i * 10 + j = (p + i) * 10 + j by omega]
    exact this
  have hL : (l.drop p).length = n - p := by rw [List.length_drop, h.len]
  have hcon := fun w' (hb : Below w.heap.size w w') => contains_any (l.drop p) ad1 (cap - p) (by omega) (by rw [hL]; omega) w' (hcel w' hb)
  rw [hL] at hcon
  generalize (l.drop p).any filled = b at hcon ⊢
  have hsl := fun w' (hb : Below w.heap.size w w') => (h.below hb).slice
  replace hcon := Lib.hid hcon
  replace hsl := Lib.hid hsl
  replace hh := Lib.hid hh
  have hw0 : (0 : Int) ≤ (p : Int) := by omega
  have hw1 : (p : Int) ≤ (n : Int) := by omega
  have hw2 : p ≤ cap := by omega
  have hbd : Below w.heap.size w w.drew := below_dr (Below.refl _ _) 1
  clear h hcel hL
  go_enter Try.func24, Try.ntmps24
  go_wp2_with ((go_at_call 27; (with_reducible refine (hlen.out).mono ?_); rintro e w' ⟨rfl, rfl⟩))
  go_region_held3 (fun w' => w'.cell? ⟨d, 0, none⟩ = some (.slice (some ⟨g, 0, none⟩) n cap))
    (first | exact hc | exact hcd | exact hsl.out _ hb1 | go_keep)
    (first
      | (go_at_call 39; (with_reducible refine (hh.out _).mono ?_); rintro e w' ⟨rfl, rfl⟩)
      | (go_at_call 48; (with_reducible refine (hcon.out _ hbd).mono ?_); rintro e w1 ⟨rfl, hb1'⟩; have hb1 : Below w.heap.size w w1 := below_next hbd hb1'))
  go_wp2
  go_ret
  exact ⟨rfl, hb1⟩
end Go.Proofs.Ytnnaagkdlmamjaa.Rw
