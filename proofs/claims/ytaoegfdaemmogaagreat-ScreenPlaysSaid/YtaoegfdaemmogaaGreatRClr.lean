/-
  row: so many cleared cells.
-/
import Derived.Test.YtaoegfdaemmogaaGreatRSet
import Derived.Laws.MakeOwn
import Derived.Laws.Entries
namespace Go.Proofs.YtaoegfdaemmogaaGreat.Rw
open Go Go.RowKit Go.Proofs.YtaoegfdaemmogaaGreat.Com

theorem run_make_rowN {P : Program} (t e : TypeId) (i : TypeInfo) (z : Value) (ht : P.underlying t = some (.slice e)) (hi : P.info? e = some i) (hz : i.zero = some z)
    (kl kc : IntKind) (n c : Nat) (hnc : n ≤ c) (hbytes : i.bytes * c ≤ 281474976710656) (h63 : c ≤ 9223372036854775807) (w : World) :
    (Instr.makeSlice t (.int kl (n : Int)) (.int kc (c : Int))).run P w = .ok (.slice (some ⟨w.heap.size, 0, none⟩) n c) (w.alloc (.cells (madeCells z.cells (c * i.size)) e)) := by
  have hb : (i.bytes : Int) * (c : Int) ≤ 281474976710656 := by
    have h : ((i.bytes * c : Nat) : Int) ≤ 281474976710656 := by omega
    rwa [Int.natCast_mul] at h
  have hr := run_make (P := P) w t e i z ht hi hz kl kc n c (by omega) (by omega) hb (by omega)
  simp only [Int.toNat_natCast] at hr
  exact hr
theorem made_fl {α : Type} (f : α → List Value) (s : Nat) (hs : ∀ a, (f a).length = s) (h0 : 0 < s) (a : α) (n : Nat) : (madeCells (f a).toArray (n * s)) = (fl f (List.replicate n a)).toArray := by
  apply Array.ext'
  apply List.ext_getElem?
  intro j
  have hsz : (madeCells (f a).toArray (n * s)).toList.length = n * s := by rw [Array.length_toList, size_madeCells]
  by_cases hj : j < n * s
  · have hi : j / s < (List.replicate n a).length := by rw [List.length_replicate]; exact Nat.div_lt_of_lt_mul (by rw [Nat.mul_comm]; exact hj)
    have hm : j % s < s := Nat.mod_lt _ h0
    have e := fl_at hs hi hm
    have ej : j / s * s + j % s = j := by rw [Nat.mul_comm]; exact Nat.div_add_mod j s
    rw [ej] at e
    simp only [List.getElem_replicate] at e
    rw [e]
    simp only [madeCells, Array.toList_map, Array.toList_range, List.getElem?_map, List.getElem?_range hj, Option.map_some, List.size_toArray, hs]
    rw [List.getElem?_eq_getElem (by rw [hs]; exact hm)]
    simp [getElem!_pos, hs, hm]
  · rw [List.getElem?_eq_none (by omega)]
    rw [List.getElem?_eq_none (by simp only [fl_length hs, List.length_replicate]; omega)]
def zeroCel : Cel := ⟨0, [], 0, ⟨0, 0, 0⟩⟩
theorem infoC3 : (Tryz.prog.info? 114).map (fun i => (i.zero, i.size, decide (i.bytes ≤ 100))) = some (some (.agg (cellC zeroCel).toArray), 10, true) := by kernel_rfl
theorem make_cells (n : Nat) (hn : n ≤ 512) (w : World) : (Instr.makeSlice 120 (.int .i64 (n : Int)) (.int .i64 (n : Int))).run Tryz.prog w = .ok (.slice (some ⟨w.heap.size, 0, none⟩) n n) (w.alloc (.cells (fl cellC (List.replicate n zeroCel)).toArray 114)) := by
  have h := infoC3
  cases hq : Tryz.prog.info? 114 with
  | none => simp [hq] at h
  | some i =>
    simp only [hq, Option.map_some, Option.some.injEq, Prod.mk.injEq, decide_eq_true_eq] at h
    obtain ⟨hz, hs, hb⟩ := h
    have hm : i.bytes * n ≤ 100 * 512 := Nat.mul_le_mul hb hn
    have := run_make_rowN 120 114 i _ Tryz.underlying120 hq hz .i64 .i64 n n (Nat.le_refl _) (by omega) (by omega) w
    rw [this, hs]
    have e : (Value.agg (cellC zeroCel).toArray).cells = (cellC zeroCel).toArray := rfl
    rw [e, made_fl cellC 10 cellC_length (by omega)]
theorem rep_set {α : Type} (a z : α) (n k : Nat) (h : k < n) : (List.replicate k a ++ List.replicate (n - k) z).set k a = List.replicate (k + 1) a ++ List.replicate (n - (k + 1)) z := by
  rw [List.set_append_right _ _ (by simp), List.length_replicate, Nat.sub_self, show n - k = (n - (k + 1)) + 1 by omega, List.replicate_succ (n := n - (k + 1)), List.set_cons_zero, List.replicate_succ' (n := k), List.append_assoc]
  rfl
/-- What cleared leaves. -/
def Made (w : World) (l : List Cel) (e : Ending) (w' : World) : Prop := ∃ g, e = .returned (.slice (some ⟨g, 0, none⟩) l.length l.length) ∧ Block w' g 114 (fl cellC l).toArray ∧ Below w.heap.size w w' ∧ w.heap.size ≤ g
structure Clrd (w wr : World) (bx g : Nat) (a : At) (l : List Cel) : Prop where
  box : Block wr bx 37 (attV a).toArray
  row : Block wr g 114 (fl cellC l).toArray
  below : Below w.heap.size w wr

set_option maxRecDepth 100000 in
set_option maxHeartbeats 2000000 in
theorem cleared_any (n : Nat) (hn : n ≤ 512) (a : At) (w : World) :
    Calls Tryz.prog 94 #[.int .i64 n, .agg #[.int .u32 a.f, .int .u32 a.b, .int .u16 a.g]] w (Made w (List.replicate n (clr a))) := by
  have hmk := make_cells n hn
  have hb0 := Block.made w 37 (attV a).toArray
  have hc0 : Clrd w ((w.alloc (.cells (attV a).toArray 37)).alloc (.cells (fl cellC (List.replicate n zeroCel)).toArray 114)) w.heap.size (w.heap.size + 1) a (List.replicate n zeroCel) := by
    refine ⟨hb0.alloc _, ?_, ((Below.refl _ _).alloc (Nat.le_refl _) _).alloc (by simp) _⟩
    have := Block.made (w.alloc (.cells (attV a).toArray 37)) 114 (fl cellC (List.replicate n zeroCel)).toArray
    simpa using this
  unfold attV at hc0
  clear hb0
  obtain ⟨af, ab, ag⟩ := a
  simp only at hc0
  replace hmk := Lib.hid hmk
  replace hc0 := Lib.hid hc0
  go_enter Tryz.func94, Tryz.ntmps94
  have hm2 := hmk.out
  go_wp2
  clear hm2
  obtain ⟨g, hg⟩ : ∃ g, g = w.heap.size + 1 := ⟨_, rfl⟩
  obtain ⟨bx, hbx⟩ : ∃ bx, bx = w.heap.size := ⟨_, rfl⟩
  have hge : w.heap.size ≤ g := by omega
  have hne : bx ≠ g := by omega
  have hc1 := hc0.out
  rw [← hg] at hc1 ⊢
  rw [← hbx] at hge ⊢
  have hc2 : Clrd w ((w.alloc (.cells #[.int .u32 af, .int .u32 ab, .int .u16 ag] 37)).alloc (.cells (fl cellC (List.replicate n zeroCel)).toArray 114)) bx g ⟨af, ab, ag⟩ (List.replicate n zeroCel) := by rw [hbx]; exact hc1
  clear hc1 hc0 hmk
  rw [hbx] at hge
  replace hg := Lib.hid hg
  replace hbx := Lib.hid hbx
  replace hc2 := Lib.hid hc2
  generalize (w.alloc (.cells #[.int .u32 af, .int .u32 ab, .int .u16 ag] 37)).alloc (.cells (fl cellC (List.replicate n zeroCel)).toArray 114) = w0 at hc2 ⊢
  go_loopw [11] (fun i wr => ∃ k : Nat, k ≤ n ∧ i = .int .i64 k ∧ Hid (Clrd w wr bx g ⟨af, ab, ag⟩ (List.replicate k (clr ⟨af, ab, ag⟩) ++ List.replicate (n - k) zeroCel))) (fun i _ => n - (intOf i).toNat)
  case atStart => exact ⟨0, Nat.zero_le _, rfl, Lib.hid (by simpa using hc2.out)⟩
  case round =>
    obtain ⟨k, hk, rfl, hR⟩ := hrel
    have hR := hR.out
    by_cases hlt : k < n
    · have hbg : wr.cell? ⟨bx, 1, none⟩ = some (.int .u32 ab) := hR.box.cell 1 rfl
      have hbl := Lib.hid (fun w => blank_any ⟨0, ab, 0⟩ w)
      have hC : cellC ⟨32, [], 0, ⟨0, ab, 0⟩⟩ = cellC (clr ⟨af, ab, ag⟩) := rfl
      have hset := rep_set (clr ⟨af, ab, ag⟩) zeroCel n k hlt
      have hfs := fl_splice cellC_length (List.replicate k (clr ⟨af, ab, ag⟩) ++ List.replicate (n - k) zeroCel) [clr ⟨af, ab, ag⟩] [] k (by simp; omega)
      rw [splice_set _ _ _ (by simp; omega), hset, fl_one, List.append_nil, List.append_nil, ← hC] at hfs
      have hlen : (fl cellC (List.replicate k (clr ⟨af, ab, ag⟩) ++ List.replicate (n - k) zeroCel)).length = n * 10 := by rw [fl_length cellC_length]; simp; omega
      have hkk : k * 10 + 10 ≤ n * 10 := by omega
      have hnew : ∀ w5 w6, Below wr.heap.size wr w5 → Block w6 g 114 (splice (fl cellC (List.replicate k (clr ⟨af, ab, ag⟩) ++ List.replicate (n - k) zeroCel)) (k * 10) (cellC ⟨32, [], 0, ⟨0, ab, 0⟩⟩)).toArray → Only [g] w5 w6 → Clrd w w6 bx g ⟨af, ab, ag⟩ (List.replicate (k + 1) (clr ⟨af, ab, ag⟩) ++ List.replicate (n - (k + 1)) zeroCel) := by
        intro w5 w6 hb5 hb6 ho6
        rw [hfs] at hb6
        exact ⟨(hR.box.only (Only.of_below hb5 []) (by simp)).only ho6 (by simpa using hne), hb6, (below_next hR.below hb5).trans (ho6.below (by have := hR.below.size; have := hb5.size; omega) (by simpa using hge))⟩
      have hrow : ∀ w5, Below wr.heap.size wr w5 → Block w5 g 114 (fl cellC (List.replicate k (clr ⟨af, ab, ag⟩) ++ List.replicate (n - k) zeroCel)).toArray := fun w5 hb5 => hR.row.only (Only.of_below hb5 []) (by simp)
      have hinf := infoC' ⟨32, [], 0, ⟨0, ab, 0⟩⟩
      have hone := cellC_one ⟨32, [], 0, ⟨0, ab, 0⟩⟩
      have hCl := cellC_length ⟨32, [], 0, ⟨0, ab, 0⟩⟩
      simp only at hbl
      generalize cellC ⟨32, [], 0, ⟨0, ab, 0⟩⟩ = C at hbl hnew hinf hone hCl hC hfs
      generalize fl cellC (List.replicate k (clr ⟨af, ab, ag⟩) ++ List.replicate (n - k) zeroCel) = X at hnew hrow hlen hfs
      clear hfs hC hset hR
      replace hnew := Lib.hid hnew
      replace hrow := Lib.hid hrow
      replace hinf := Lib.hid hinf
      replace hone := Lib.hid hone
      replace hCl := Lib.hid hCl
      replace hlen := Lib.hid hlen
      go_wp2_with (first
        | ((go_at_call 99; refine (hbl.out _).mono ?_; rintro e w5 ⟨rfl, hb5⟩))
        | (with_reducible show wpList _ _ _ (⟨none, .store _ (.tmp 20) _, _, _, _, _⟩ :: _) _ _; go_must (refine wpList_storeN rfl 114 (.tmp 20) (.tmp 19) rfl (g := g) (i := k * 10) (hrow.out _ hb5) C rfl rfl (by rw [hlen.out, hCl.out]; exact hkk) (hinf.out) (hone.out) ?_); intro w6 hr6 ho6))
      replace hr6 := Lib.hid (hnew.out _ _ hb5 hr6.out ho6)
      clear ho6 hb5
      go_roundw
      case rel => exact ⟨k + 1, by omega, by go_num, hr6⟩
      case measure => simp [intOf]; omega
    · obtain rfl : k = n := by omega
      have hr : Hid (Block wr g 114 (fl cellC (List.replicate k (clr ⟨af, ab, ag⟩))).toArray) := Lib.hid (by simpa using hR.row)
      have hb := Lib.hid hR.below
      clear hR
      go_wp2
      go_ret
      exact ⟨g, by simp, hr.out, hb.out, hge⟩
theorem clr_any (n : Nat) (hn : n ≤ 512) (a : At) (w : World) :
    Calls Tryz.prog 94 #[.int .i64 n, .agg #[.int .u32 a.f, .int .u32 a.b, .int .u16 a.g]] w fun e w' => ∃ g, e = .returned (.slice (some ⟨g, 0, none⟩) n n) ∧ Block w' g 114 (fl cellC (List.replicate n (clr a))).toArray ∧ Below w.heap.size w w' ∧ w.heap.size ≤ g :=
  (cleared_any n hn a w).mono fun _ _ ⟨g, he, h⟩ => ⟨g, by rw [he, List.length_replicate], h⟩
theorem cells_src {w : World} {g : Nat} {l : List Cel} (h : Block w g 114 (fl cellC l).toArray) : ∃ ad, (some (⟨g, 0, none⟩ : Addr)) = some ad ∧ ∀ j v, (fl cellC l)[j]? = some v → w.cell? (ad.add j) = some v :=
  ⟨_, rfl, fun j v hj => by rw [Addr.add_lit, Nat.zero_add]; exact h.cell j (by simpa using hj)⟩
theorem setclr_raw {w : World} {d g n cap : Nat} {tail : List Value} {l : List Cel} (h : RowX w d g n cap tail l) (col k : Nat) (a : At) (hk : col + k ≤ n) (g2 : Nat) (hb : Block w g2 114 (fl cellC (List.replicate k (clr a))).toArray) :
    Calls Tryz.prog 69 #[.pointer (some ⟨d, 0, none⟩), .int .i64 col, .slice (some ⟨g2, 0, none⟩) k k] w (Mended w d g n cap tail (mendTo (splice l col (List.replicate k (clr a))) (col - 1) (min (col + k + 1) n))) := by
  have := set_raw h col (List.replicate k (clr a)) (by simpa using hk) (some ⟨g2, 0, none⟩) k (fun _ => cells_src hb)
  rw [List.length_replicate] at this
  exact this
theorem setclr_any {w : World} {d g n cap : Nat} {tail : List Value} {l : List Cel} (h : RowX w d g n cap tail l) (hwh : Whole l) (col k : Nat) (a : At) (hk : col + k ≤ n) (g2 : Nat) (hb : Block w g2 114 (fl cellC (List.replicate k (clr a))).toArray) :
    Calls Tryz.prog 69 #[.pointer (some ⟨d, 0, none⟩), .int .i64 col, .slice (some ⟨g2, 0, none⟩) k k] w (Mended w d g n cap tail (setL l col (List.replicate k (clr a)))) := by
  have := set_any h hwh col (List.replicate k (clr a)) (by simpa using hk) (some ⟨g2, 0, none⟩) k (fun _ => cells_src hb)
  rw [List.length_replicate] at this
  exact this
/-- A quiet call's contract, the caller's world on the left. -/
theorem quiet_left {P : Program} {f : FuncId} {args : Array Value} {w : World} {n : Nat} {v : Value}
    (h : Calls P f args (w.drewN n) fun e w' => e = .returned v ∧ w.drewN n = w') : Calls P f args (w.drewN n) fun e w'' => e = .returned v ∧ ∃ m, w'' = w.drewN m :=
  h.mono fun _ _ ⟨he, hm⟩ => ⟨he, n, hm.symm⟩
end Go.Proofs.YtaoegfdaemmogaaGreat.Rw
