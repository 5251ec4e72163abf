/-
  keys: strconv.AppendInt at a number from 0 on, onto a row of whatever make.
-/
import Derived.Test.YtkmedfffmalbgaaDoorKShelf
import Derived.Test.YtkmedfffmalbgaaDoorKRow
import Derived.Test.YtkmedfffmalbgaaDoorKMath
import Derived.Shelf.Strconv.AppendUint10
namespace Go.Proofs.YtkmedfffmalbgaaDoor.Kys
open Go Go.RowKit Go.Sort Go.Proofs.YtkmedfffmalbgaaDoor.Com

theorem elemB : Elem Tryd.prog 26 5 .u8 1 := ⟨Tryd.underlying26, info_parts (by kernel_rfl)⟩
theorem dg_len {u : Nat} (h : u < 18446744073709551616) : (dgF (u : Int)).length = Lib.nDigits u ∧ Lib.nDigits u ≤ 20 := by
  refine ⟨by simp [dgF, Lib.decDigits_length], ?_⟩
  by_cases h1 : 1 ≤ u
  · have := Lib.numDigits_eq u h1 h
    split at this <;> omega
  · rw [show u = 0 by omega, Lib.nDigits_small (by omega)]
    omega
theorem dg_bytes (u : Nat) : Lib.strCells ⟨(Lib.decDigits u).toArray⟩ = (dgF (u : Int)).map (Value.int .u8) := by
  simp [Lib.strCells, dgF]

theorem small_any (u : Nat) (h : u < 100) (w : World) : Calls Tryd.prog 42 #[.int .i64 u] w fun e w' => e = .returned (.string ⟨(Lib.decDigits u).toArray⟩) ∧ w' = w :=
  Any.internal_strconv_small { lays with } u h w
theorem count_any (u : Nat) (h1 : 1 ≤ u) (h2 : u < 18446744073709551616) (w : World) (htab : Lib.TabIs Tryd.prog w "internal/strconv.uint64pow10" .u64 Lib.pow10Tab) :
    Calls Tryd.prog 43 #[.int .u64 u] w fun e w' => e = .returned (.int .i64 (Lib.nDigits u)) ∧ w' = w :=
  Any.internal_strconv_numDigits { lays with } u h1 h2 w htab

/-- What formatBase10 leaves: new memory alone, and the digits in it. -/
def FmtIs (u : Nat) (w : World) (e : Ending) (w' : World) : Prop := e = .returned (.tuple #[]) ∧ Below w.heap.size w w' ∧ Nums w' (w.heap.size + 1) .u8 (some ⟨w.heap.size, 0, none⟩) (dgF (u : Int))
theorem fmt_any (u : Nat) (hu64 : u < 18446744073709551616) (w : World) :
    Calls Tryd.prog 44 #[.slice (some ⟨w.heap.size, 0, none⟩) (Lib.nDigits u) 24, .int .u64 u] (w.alloc (.cells Lib.zeros24 60)) (FmtIs u w) := by
  have hn := (dg_len hu64).2
  have hH0 := Lib.holds_zero0 w 60 (Lib.nDigits u) (by omega)
  have hfmt := Any.internal_strconv_formatBase10 (P := Tryd.prog) (ρ := ren) { lays with } w.heap.size 0 24 u (Array.replicate (Lib.nDigits u) 0) (w.alloc (.cells Lib.zeros24 60)) hH0 (by rw [Array.size_replicate]; exact Lib.lt_pow_nDigits u) hu64 (by rw [Array.size_replicate]; omega)
  rw [Array.size_replicate] at hfmt
  refine hfmt.mono ?_
  rintro e w' ⟨rfl, k, v', dk, rfl, hF⟩
  obtain ⟨os, eo⟩ := Lib.fin_at w (.cells Lib.zeros24 60) dk k 0
  refine ⟨rfl, ?_, fun i x hx => ⟨_, rfl, by simp, ?_⟩⟩
  · rw [eo]
    exact Lib.below_grow w.heap.size w (Nat.le_refl _) k os
  · have hi : i < (Lib.decDigits u).length := by
      have := (List.getElem?_eq_some_iff.1 hx).1
      simpa [dgF] using this
    have hxe : x = ((Lib.decDigits u)[i].toNat : Int) := by
      have h2 : (dgF (u : Int))[i]? = some ((Lib.decDigits u)[i].toNat : Int) := by simp [dgF, hi]
      rw [h2] at hx
      exact (Option.some.inj hx).symm
    rw [hxe, Lib.row_is_numeral hF i hi, Lib.add_plain, World.cell?_drewN]
    exact cell?_putRow (fun (b : UInt8) => Value.int .u8 (b.toNat : Int)) _ w.heap.size 0 _ dk hH0 (by rw [hF.size, Array.size_replicate]) i (by rw [hF.size]; rw [Lib.decDigits_length] at hi; exact hi)

/-- What is known behind the number's digits. -/
def Put (B : Nat) (l : List Int) (w : World) (e : Ending) (w' : World) : Prop := ∃ v', e = .returned v' ∧ Row w' B 5 v' l ∧ Below B w w'
set_option maxHeartbeats 1000000 in
theorem uint_small (B u : Nat) (hu : u < 100) (sv : Value) (l : List Int) (w : World) (h : Row w B 5 sv l) (hB : B ≤ w.heap.size) (hn : l.length + 20 ≤ 140737488355328) :
    Calls Tryd.prog 41 #[sv, .int .u64 u, .int .i64 10] w (Put B (l ++ dgF (u : Int)) w) := by
  have hlen := dg_len (u := u) (by omega)
  go_enter Tryd.func41, Tryd.ntmps41
  go_wp2_with (first
    | (go_at_call 42; (with_reducible refine (small_any u hu _).mono ?_); rintro e w' ⟨rfl, rfl⟩)
    | (at_builtin; refine wpList_appS elemB Tryd.underlying9 rfl _ _ rfl B sv l (dgF (u : Int)) _ (dg_bytes u) rfl rfl h hB (by omega) ?_; intro v' w1 h1 ho1))
  go_ret
  exact ⟨v', rfl, h1, row_below (Below.refl _ _) h hB ho1⟩
set_option maxHeartbeats 1000000 in
theorem uint_big (B u : Nat) (hu : 100 ≤ u) (hu64 : u < 18446744073709551616) (sv : Value) (l : List Int) (w : World) (h : Row w B 5 sv l) (hB : B ≤ w.heap.size) (hn : l.length + 20 ≤ 140737488355328)
    (htab : Lib.TabIs Tryd.prog w "internal/strconv.uint64pow10" .u64 Lib.pow10Tab) :
    Calls Tryd.prog 41 #[sv, .int .u64 u, .int .i64 10] w (Put B (l ++ dgF (u : Int)) w) := by
  have hlen := dg_len (u := u) (by omega)
  have hd20 := hlen.2
  have hal : Tryd.prog.arrayLen 60 = 24 := by kernel_rfl
  have hsl : ∀ W, (Instr.sliceAt 60 (.pointer (some ⟨w.heap.size, 0, none⟩)) none (some (.int .i64 (Lib.nDigits u : Int))) none).run Tryd.prog W = .ok (.slice (some ⟨w.heap.size, 0, none⟩) (Lib.nDigits u) 24) W := fun W => by
    rw [run_sliceAt_array_h W 60 ⟨w.heap.size, 0, none⟩ (by simp [Program.arrayLen, Program.elem, Tryd.underlying60]) .i64 (Lib.nDigits u : Int) (by omega) (by rw [hal]; omega)]
    go_simp
  have hcount := fun w' => count_any u (by omega) hu64 w'
  have iu : (100 : Int) ≤ (u : Int) := by omega
  have hfmt := Lib.hid (fmt_any u hu64 w)
  have ht := Lib.hid (Lib.tabIs_alloc htab (.cells Lib.zeros24 60))
  have hlen' := Lib.hid hlen
  clear hal hlen htab
  go_enter Tryd.func41, Tryd.ntmps41
  go_wp2_with (first
    | (go_at_call 43; refine (hcount _ ht.out).mono ?_; rintro e w' ⟨rfl, rfl⟩)
    | (go_at_call 44; refine hfmt.out.mono ?_; rintro e w1 ⟨rfl, hb1, hn1⟩; have h1 := h.below hb1; have hb2 := Lib.hid hb1; have hs1 := hb1.size; clear hb1)
    | (at_builtin; refine wpList_appR elemB rfl _ _ rfl B sv l (dgF (u : Int)) _ _ 24 rfl (by rw [hlen'.out.1]; rfl) h1 hn1 (by omega) (by have := hlen'.out.1; omega) ?_; intro v' w2 h2 ho2))
  go_ret
  exact ⟨v', rfl, h2, row_below (hb2.out.mono hB) h1 (by omega) ho2⟩
theorem uint_any (B u : Nat) (hu64 : u < 18446744073709551616) (sv : Value) (l : List Int) (w : World) (h : Row w B 5 sv l) (hB : B ≤ w.heap.size) (hn : l.length + 20 ≤ 140737488355328)
    (htab : Lib.TabIs Tryd.prog w "internal/strconv.uint64pow10" .u64 Lib.pow10Tab) :
    Calls Tryd.prog 41 #[sv, .int .u64 u, .int .i64 10] w (Put B (l ++ dgF (u : Int)) w) := by
  by_cases hu : u < 100
  · exact uint_small B u hu sv l w h hB hn
  · exact uint_big B u (by omega) hu64 sv l w h hB hn htab
theorem inner_any (B u : Nat) (hu : u ≤ 9223372036854775807) (sv : Value) (l : List Int) (w : World) (h : Row w B 5 sv l) (hB : B ≤ w.heap.size) (hn : l.length + 20 ≤ 140737488355328)
    (htab : Lib.TabIs Tryd.prog w "internal/strconv.uint64pow10" .u64 Lib.pow10Tab) :
    Calls Tryd.prog 40 #[sv, .int .i64 u, .int .i64 10] w (Put B (l ++ dgF (u : Int)) w) := by
  have hc := Lib.hid (uint_any B u (by omega) sv l w h hB hn htab)
  clear htab
  go_enter Tryd.func40, Tryd.ntmps40
  go_wp2_with ((go_at_call 41; (with_reducible refine (hc.out).mono ?_); rintro e w1 ⟨v1, rfl, h1, hb1⟩))
  go_ret
  exact ⟨v1, rfl, h1, hb1⟩
theorem appendInt_any (B u : Nat) (hu : u ≤ 9223372036854775807) (sv : Value) (l : List Int) (w : World) (h : Row w B 5 sv l) (hB : B ≤ w.heap.size) (hn : l.length + 20 ≤ 140737488355328)
    (htab : Lib.TabIs Tryd.prog w "internal/strconv.uint64pow10" .u64 Lib.pow10Tab) :
    Calls Tryd.prog 36 #[sv, .int .i64 u, .int .i64 10] w (Put B (l ++ dgF (u : Int)) w) := by
  have hc := Lib.hid (inner_any B u hu sv l w h hB hn htab)
  clear htab
  go_enter Tryd.func36, Tryd.ntmps36
  go_wp2_with ((go_at_call 40; (with_reducible refine (hc.out).mono ?_); rintro e w1 ⟨v1, rfl, h1, hb1⟩))
  go_ret
  exact ⟨v1, rfl, h1, hb1⟩

end Go.Proofs.YtkmedfffmalbgaaDoor.Kys
