/-
  params: the list's block, and the calls that only read it.
-/
import Derived.Test.YtgpoboolonkmcaaChecked
import Derived.Test.YtgpoboolonkmcaaPMath
import Derived.Test.YtgpoboolonkmcaaCom
import Derived.WalkLawsBesides
import Derived.LoopTactic
import Derived.IntWalk
import Derived.Outline
import Derived.Deep.QuietTactic
import Derived.BigQuiet
import Derived.WalkSmall
import Derived.Deep.DeepMust
namespace Go.Proofs.Ytgpoboolonkmcaa.Par
open Go Go.RowKit Go.Proofs.Ytgpoboolonkmcaa.Com

/-- The cells of a list: its 32 places, how many count, whether a Next was too many. -/
def cellsL (L : Lst) : List Value := (L.n ++ List.replicate (32 - L.n.length) 0).map (Value.int .i64) ++ [.int .i64 L.n.length, .bool L.over]
def ListIn (w : World) (d : Nat) (L : Lst) : Prop := Block w d 37 (cellsL L).toArray
theorem ListIn.blk {w : World} {d : Nat} {L : Lst} (h : ListIn w d L) : Block w d 37 (cellsL L).toArray := h
theorem ListIn.free {w : World} {d : Nat} {L : Lst} (h : ListIn w d L) (i : Nat) : w.frozen? ⟨d, i, none⟩ = false := Block.free h i
theorem cells_pad {L : Lst} (h : L.n.length ≤ 32) : ((L.n ++ List.replicate (32 - L.n.length) 0).map (Value.int .i64)).length = 32 := by simp; omega
theorem cells_at {L : Lst} {i : Nat} (h : i < L.n.length) : (cellsL L)[i]? = some (.int .i64 L.n[i]) := by
  unfold cellsL
  rw [List.getElem?_append_left (by simp; omega), List.getElem?_map, List.getElem?_append_left h, List.getElem?_eq_getElem h]
  rfl
theorem cells_count {L : Lst} (h : L.n.length ≤ 32) : (cellsL L)[32]? = some (.int .i64 L.n.length) := by
  unfold cellsL
  rw [List.getElem?_append_right (by rw [cells_pad h]; omega), cells_pad h]
  rfl
theorem cells_over {L : Lst} (h : L.n.length ≤ 32) : (cellsL L)[33]? = some (.bool L.over) := by
  unfold cellsL
  rw [List.getElem?_append_right (by rw [cells_pad h]; omega), cells_pad h]
  rfl
theorem cells_size {L : Lst} (h : L.n.length ≤ 32) : (cellsL L).length = 34 := by
  unfold cellsL
  rw [List.length_append, cells_pad h]
  rfl
theorem ListIn.at {w : World} {d : Nat} {L : Lst} (h : ListIn w d L) {i : Nat} (hi : i < L.n.length) : w.cell? ⟨d, i, none⟩ = some (.int .i64 L.n[i]) := Block.cell h i (by simpa using cells_at hi)
theorem ListIn.count {w : World} {d : Nat} {L : Lst} (h : ListIn w d L) (hk : L.n.length ≤ 32) : w.cell? ⟨d, 32, none⟩ = some (.int .i64 L.n.length) := Block.cell h 32 (by simpa using cells_count hk)
theorem ListIn.over {w : World} {d : Nat} {L : Lst} (h : ListIn w d L) (hk : L.n.length ≤ 32) : w.cell? ⟨d, 33, none⟩ = some (.bool L.over) := Block.cell h 33 (by simpa using cells_over hk)
theorem ListIn.nums {w : World} {d : Nat} {L : Lst} (h : ListIn w d L) : Nums w w.heap.size .i64 (some ⟨d, 0, none⟩) L.n := fun i x hx => by
  obtain ⟨hi, rfl⟩ := List.getElem?_eq_some_iff.1 hx
  refine ⟨_, rfl, Block.lt h, ?_⟩
  rw [Addr.add_lit, Nat.zero_add]
  exact h.at hi
theorem ListIn.only {L : List Nat} {w w' : World} {d : Nat} {S : Lst} (h : ListIn w d S) (ho : Only L w w') (hn : d ∉ L) : ListIn w' d S := Block.only h ho hn

/-- The three-index part of the places where the numbers stand. -/
theorem part_any (k : Nat) (hk : k ≤ 32) (d : Nat) (w : World) :
    (Instr.sliceAt 35 (.pointer (some ⟨d, 0, none⟩)) none (some (.int .i64 k)) (some (.int .i64 k))).run Try.prog w = .ok (.slice (some ⟨d, 0, none⟩) k k) w := by
  have ht : Try.prog.underlying 35 = some (.array (Try.prog.arrayLen 35) (Try.prog.elem 35)) := by kernel_rfl
  have hl : Try.prog.arrayLen 35 = 32 := by kernel_rfl
  have hi : (Try.prog.info? (Try.prog.elem 35)).map (·.size) = some 1 := by kernel_rfl
  rw [run_sliceAt_array_hm w _ ⟨d, 0, none⟩ ht .i64 .i64 k k (by omega) (by omega) (by rw [hl]; omega)]
  cases hq : Try.prog.info? (Try.prog.elem 35) with
  | none => simp [hq] at hi
  | some j =>
    have hs : j.size = 1 := by simpa [hq] using hi
    simp [sizeOf, typeInfo, hq, hs, slicedAt, Addr.add]
theorem numbers_any (L : Lst) (hL : L.n.length ≤ 32) (d : Nat) (w : World) (hd : ListIn w d L) :
    Calls Try.prog 22 #[.pointer (some ⟨d, 0, none⟩)] w fun e w' => ∃ n, e = .returned (.slice (some ⟨d, 0, none⟩) L.n.length L.n.length) ∧ w' = w.drewN n := by
  have hc := hd.count hL
  generalize hk : L.n.length = k at hc hL
  clear hk hd
  have hp := part_any k hL d
  go_enter Try.func22, Try.ntmps22
  go_wp2
  go_quiet (fail)
  go_wp2
  go_ret
  exact ⟨_, rfl, rfl⟩

theorem numbers_nil (w : World) : Calls Try.prog 22 #[.pointer none] w fun e w' => e = .returned (.slice none 0 0) ∧ w' = w := by
  go_enter Try.func22, Try.ntmps22
  go_wp2
  go_ret
  exact ⟨rfl, rfl⟩

theorem len_any (L : Lst) (hL : L.n.length ≤ 32) (d : Nat) (w : World) (hd : ListIn w d L) :
    Calls Try.prog 17 #[.pointer (some ⟨d, 0, none⟩)] w fun e w' => e = .returned (.int .i64 L.n.length) ∧ ∃ n, w' = w.drewN n := by
  have h := Lib.hid (numbers_any L hL d w hd)
  generalize L.n.length = k at h hL
  go_enter Try.func17, Try.ntmps17
  go_wp2_with ((go_at_call 22; refine (h.out).mono ?_; rintro e w1 ⟨n, rfl, rfl⟩))
  go_ret
  exact ⟨rfl, _, rfl⟩
theorem len_nil (w : World) : Calls Try.prog 17 #[.pointer none] w fun e w' => e = .returned (.int .i64 0) ∧ w' = w := by
  go_enter Try.func17, Try.ntmps17
  go_wp2_with ((go_at_call 22; refine (numbers_nil _).mono ?_; rintro e w' ⟨rfl, rfl⟩))
  go_ret
  exact ⟨rfl, rfl⟩

set_option maxHeartbeats 400000 in
theorem at_any (L : Lst) (hL : L.n.length ≤ 32) (d : Nat) (i none : Int) (w : World) (hd : ListIn w d L) :
    Calls Try.prog 18 #[.pointer (some ⟨d, 0, .none⟩), .int .i64 i, .int .i64 none] w fun e w' => e = .returned (.int .i64 (atF L.n i none)) ∧ ∃ n, w' = w.drewN n := by
  have h := Lib.hid (numbers_any L hL d w hd)
  by_cases h0 : i < 0
  · rw [at_none (Or.inl h0)]
    generalize L.n.length = k at h hL
    go_enter Try.func18, Try.ntmps18
    go_wp2_with ((go_at_call 22; refine (h.out).mono ?_; rintro e w1 ⟨n, rfl, rfl⟩))
    go_ret
    exact ⟨rfl, _, rfl⟩
  by_cases h1 : (L.n.length : Int) ≤ i
  · rw [at_none (Or.inr h1)]
    generalize L.n.length = k at h hL h1
    go_enter Try.func18, Try.ntmps18
    go_wp2_with ((go_at_call 22; refine (h.out).mono ?_; rintro e w1 ⟨n, rfl, rfl⟩))
    go_ret
    exact ⟨rfl, _, rfl⟩
  obtain ⟨j, rfl⟩ : ∃ j : Nat, i = j := ⟨i.toNat, by omega⟩
  have hj : j < L.n.length := by omega
  have hc := hd.at hj
  have ha := at_in (n := L.n) (i := (j : Int)) (none := none) (by omega) (by omega)
  simp only [Int.toNat_natCast] at ha
  generalize L.n[j] = x at hc ha
  generalize L.n.length = k at h hL h1 hj
  clear hd h0
  by_cases hx : x = 0
  · subst hx
    replace ha := Lib.hid ha
    go_enter Try.func18, Try.ntmps18
    go_wp2_with ((go_at_call 22; refine (h.out).mono ?_; rintro e w1 ⟨n, rfl, rfl⟩))
    go_ret
    exact ⟨ret_int (by rw [ha.out]; simp), _, rfl⟩
  · have hx' : (x == 0) = false := by simpa using hx
    rw [if_neg hx] at ha
    replace ha := Lib.hid ha
    go_enter Try.func18, Try.ntmps18
    go_wp2_with ((go_at_call 22; refine (h.out).mono ?_; rintro e w1 ⟨n, rfl, rfl⟩))
    go_ret
    exact ⟨ret_int ha.out.symm, _, rfl⟩
theorem at_nil (i none : Int) (w : World) : Calls Try.prog 18 #[.pointer .none, .int .i64 i, .int .i64 none] w fun e w' => e = .returned (.int .i64 none) ∧ w' = w := by
  by_cases h0 : i < 0
  · go_enter Try.func18, Try.ntmps18
    go_wp2_with ((go_at_call 22; refine (numbers_nil _).mono ?_; rintro e w' ⟨rfl, rfl⟩))
    go_ret
    exact ⟨rfl, rfl⟩
  · go_enter Try.func18, Try.ntmps18
    go_wp2_with ((go_at_call 22; refine (numbers_nil _).mono ?_; rintro e w' ⟨rfl, rfl⟩))
    go_ret
    exact ⟨rfl, rfl⟩

end Go.Proofs.Ytgpoboolonkmcaa.Par
