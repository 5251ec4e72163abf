/-
  params: the calls that write a list, make one, or show its numbers.
-/
import Derived.Test.YtgpoboolonkmcaaPLeaf
namespace Go.Proofs.Ytgpoboolonkmcaa.Par
open Go Go.RowKit Go.Proofs.Ytgpoboolonkmcaa.Com

theorem sizeL : (Try.prog.info? 37).map (·.size) = some 34 := by kernel_rfl
theorem sizeE : (Try.prog.info? 37).map (·.size) = some (cellsL empty).toArray.size := sizeL
theorem elemI : Elem Try.prog 22 3 .i64 8 := by
  have h : (Try.prog.info? 3).map (fun i => (i.zero, i.size, i.bytes)) = some (some (.int .i64 0), 1, 8) := by kernel_rfl
  obtain ⟨i, h0, h1, h2, h3⟩ := info_parts h
  exact ⟨Try.underlying22, i, h0, h1, h2, h3⟩

theorem ListIn.set {w : World} {d : Nat} {L L' : Lst} (h : ListIn w d L) {i : Nat} {u : Value} (hs : (cellsL L).set i u = cellsL L') : ListIn (w.setCell ⟨d, i, none⟩ u) d L' := by
  have := Block.set h i u
  rw [List.setIfInBounds_toArray, hs] at this
  exact this
theorem cells_put {L : Lst} {i : Nat} (hi : i < L.n.length) (x : Int) : (cellsL L).set i (.int .i64 x) = cellsL ⟨L.n.set i x, L.over⟩ := by
  unfold cellsL
  rw [List.set_append_left _ _ (by simp; omega), ← List.map_set, List.set_append_left _ _ hi]
  simp
theorem cells_begin {L : Lst} (h : L.n.length = 0) : (cellsL L).set 32 (.int .i64 1) = cellsL ⟨begF L.n, L.over⟩ := by
  obtain ⟨n, o⟩ := L
  have : n = [] := List.eq_nil_of_length_eq_zero h
  subst this
  rfl
theorem cells_next {L : Lst} (h : L.n.length < 32) : (cellsL L).set 32 (.int .i64 ((L.n.length : Int) + 1)) = cellsL ⟨L.n ++ [0], L.over⟩ := by
  have hp := cells_pad (L := L) (by omega)
  have e : L.n ++ [0] ++ List.replicate (32 - (L.n ++ [0]).length) 0 = L.n ++ List.replicate (32 - L.n.length) 0 := by
    rw [List.append_assoc, List.length_append, List.length_singleton]
    congr 1
    rw [show 32 - L.n.length = (32 - (L.n.length + 1)) + 1 by omega, List.replicate_succ]
    rfl
  unfold cellsL
  rw [List.set_append_right _ _ (by rw [hp]; omega), hp]
  simp only [e]
  congr 1
  simp
theorem cells_over2 {L : Lst} (h : L.n.length ≤ 32) : (cellsL L).set 33 (.bool true) = cellsL ⟨L.n, true⟩ := by
  have hp := cells_pad h
  unfold cellsL
  rw [List.set_append_right _ _ (by rw [hp]; omega), hp]
  rfl

/-- What a method leaves that tells the list something. -/
def Turned (w : World) (d : Nat) (L : Lst) (e : Ending) (w' : World) : Prop := (∃ v, e = .returned v) ∧ ListIn w' d L ∧ Only [d] w w'
/-- What a method leaves whose list is not there. -/
def Stays (w : World) (e : Ending) (w' : World) : Prop := (∃ v, e = .returned v) ∧ w' = w
theorem beg_none {L : Lst} (h : L.n.length = 0) : begF L.n = [0] := if_pos h
theorem same_lst {L : Lst} (h : 0 < L.n.length) : (⟨begF L.n, L.over⟩ : Lst) = L := by rw [beg_of_pos h]

theorem begin_any (L : Lst) (hL : L.n.length ≤ 32) (d : Nat) (w : World) (hd : ListIn w d L) :
    Calls Try.prog 21 #[.pointer (some ⟨d, 0, none⟩)] w (Turned w d ⟨begF L.n, L.over⟩) := by
  have hc := hd.count hL
  have hfr := hd.free 32
  by_cases h0 : L.n.length = 0
  · have hset := hd.set (cells_begin h0)
    rw [h0] at hc
    clear hd h0
    go_enter Try.func21, Try.ntmps21
    go_wp2
    go_end0
    exact ⟨⟨_, rfl⟩, hset, Only.setCell w ⟨d, 32, .none⟩ _⟩
  · have h0' : 0 < L.n.length := by omega
    rw [same_lst h0']
    have hd' := Lib.hid hd
    generalize L.n.length = k at hc h0 h0'
    clear hd
    go_enter Try.func21, Try.ntmps21
    go_wp2
    go_end0
    exact ⟨⟨_, rfl⟩, hd'.out, Only.refl _ _⟩

theorem digit_skip {L : Lst} {x : Int} (h : x < 0 ∨ 9 < x ∨ L.over = true) : digitF L x = L := if_pos h
theorem digit_put {L : Lst} {x : Int} (h0 : 0 ≤ x) (h1 : x ≤ 9) (ho : L.over = false) : digitF L x = ⟨putF (begF L.n) x, false⟩ := if_neg (by simp [ho]; omega)

set_option maxHeartbeats 1000000 in
theorem digit_any (L : Lst) (hL : L.Ok) (x : Int) (d : Nat) (w : World) (hd : ListIn w d L) :
    Calls Try.prog 13 #[.pointer (some ⟨d, 0, none⟩), .int .i64 x] w (Turned w d (digitF L x)) := by
  have ho := hd.over hL.len
  by_cases hov : L.over = true
  · rw [digit_skip (Or.inr (Or.inr hov))]
    rw [hov] at ho
    have hd' := Lib.hid hd
    clear hd
    go_enter Try.func13, Try.ntmps13
    go_wp2
    go_end0
    exact ⟨⟨_, rfl⟩, hd'.out, Only.refl _ _⟩
  replace hov : L.over = false := by simpa using hov
  rw [hov] at ho
  by_cases h0 : x < 0
  · rw [digit_skip (Or.inl h0)]
    have hd' := Lib.hid hd
    clear hd
    go_enter Try.func13, Try.ntmps13
    go_wp2
    go_end0
    exact ⟨⟨_, rfl⟩, hd'.out, Only.refl _ _⟩
  by_cases h1 : 9 < x
  · rw [digit_skip (Or.inr (Or.inl h1))]
    have hd' := Lib.hid hd
    clear hd
    go_enter Try.func13, Try.ntmps13
    go_wp2
    go_end0
    exact ⟨⟨_, rfl⟩, hd'.out, Only.refl _ _⟩
  have hb := Lib.hid (begin_any L hL.len d w hd)
  rw [digit_put (by omega) (by omega) hov]
  have hok := hL.beg L.over
  have hp := beg_pos L.n
  have h0' : 0 ≤ x := by omega
  have h1' : x ≤ 9 := by omega
  obtain ⟨j, hj⟩ : ∃ j, (begF L.n).length = j + 1 := ⟨(begF L.n).length - 1, by omega⟩
  have hj32 : j < 32 := by have := hok.len; simp only at this; omega
  have hl0 := hok.lo _ (last_mem hp)
  have hl1 := hok.hi _ (last_mem hp)
  simp only at hl0 hl1
  have hlast : lastF (begF L.n) = (begF L.n)[j]'(by omega) := by
    unfold lastF
    rw [← getD_at (l := begF L.n) (k := j) (by omega), hj, Nat.add_sub_cancel]
  have hput : Hid (putF (begF L.n) x = (begF L.n).set j (capF (lastF (begF L.n) * 10 + x))) := by
    show _ = _
    unfold putF
    rw [hj, Nat.add_sub_cancel]
  clear h0 h1 hd
  go_enter Try.func13, Try.ntmps13
  go_wp2_with fail
  refine hb.out.mono ?_
  rintro e w1 ⟨⟨v1, rfl⟩, hd1, ho1⟩
  have hc1 := hd1.count hok.len
  have hx1 := hd1.at (i := j) (by simp only; omega)
  have hf1 := hd1.free j
  have hset := fun y => hd1.set (cells_put (L := ⟨begF L.n, L.over⟩) (i := j) (by simp only; omega) y)
  simp only at hc1 hx1
  rw [← hlast] at hx1
  rw [hj] at hc1
  rw [hov] at hset
  have hc1' : w1.cell? ⟨d, 32, none⟩ = some (.int .i64 ((j : Int) + 1)) := by rw [hc1]; rfl
  replace hset := Lib.hid hset
  generalize lastF (begF L.n) = y at hx1 hl0 hl1 hput
  clear hc1 hb hd1 hok hp hj hlast ho
  go_wp2
  go_quiet (fail)
  go_wp2
  all_goals go_end0
  · have hcap : capF (y * 10 + x) = 65535 := if_pos (by assumption)
    refine ⟨⟨_, rfl⟩, ?_, ho1.trans ((Only.drewN [d] w1 nq).trans (Only.setCell (w1.drewN nq) ⟨d, j, none⟩ _))⟩
    rw [hput.out, hcap]
    exact hset.out _
  · have hcap : capF (y * 10 + x) = y * 10 + x := if_neg (by omega)
    refine ⟨⟨_, rfl⟩, ?_, ho1.trans ((Only.drewN [d] w1 nq).trans (Only.setCell (w1.drewN nq) ⟨d, j, none⟩ _))⟩
    rw [hput.out, hcap]
    exact hset.out _
theorem digit_nil (x : Int) (w : World) : Calls Try.prog 13 #[.pointer none, .int .i64 x] w (Stays w) := by
  go_enter Try.func13, Try.ntmps13
  go_wp2
  go_end0
  exact ⟨⟨_, rfl⟩, rfl⟩

theorem next_full {L : Lst} (h : (begF L.n).length = 32) : nextF L = ⟨begF L.n, true⟩ := if_pos h
theorem next_more {L : Lst} (h : ¬ (begF L.n).length = 32) : nextF L = ⟨begF L.n ++ [0], L.over⟩ := if_neg h
set_option maxHeartbeats 1000000 in
theorem next_any (L : Lst) (hL : L.n.length ≤ 32) (d : Nat) (w : World) (hd : ListIn w d L) :
    Calls Try.prog 9 #[.pointer (some ⟨d, 0, none⟩)] w (Turned w d (nextF L)) := by
  have hb := Lib.hid (begin_any L hL d w hd)
  have hlen := beg_len hL
  clear hd
  by_cases h32 : (begF L.n).length = 32
  · rw [next_full h32]
    go_enter Try.func9, Try.ntmps9
    go_wp2_with fail
    refine hb.out.mono ?_
    rintro e w1 ⟨⟨v1, rfl⟩, hd1, ho1⟩
    have hc1 := hd1.count hlen
    have hf1 := hd1.free 33
    have ho := hd1.over hlen
    have hset := Lib.hid (hd1.set (cells_over2 hlen))
    simp only at hc1
    rw [h32] at hc1
    clear hb hd1 hlen h32
    go_wp2
    go_end0
    exact ⟨⟨_, rfl⟩, hset.out, ho1.trans (Only.setCell w1 ⟨d, 33, none⟩ _)⟩
  · rw [next_more h32]
    go_enter Try.func9, Try.ntmps9
    go_wp2_with fail
    refine hb.out.mono ?_
    rintro e w1 ⟨⟨v1, rfl⟩, hd1, ho1⟩
    have hc1 := hd1.count hlen
    have hf1 := hd1.free 32
    have hset := Lib.hid (hd1.set (cells_next (by simp only; omega)))
    simp only at hc1 hset
    generalize (begF L.n).length = k at hc1 hset hlen h32
    have h32' : ((k : Int) == 32) = false := by simp; omega
    clear hb hd1 h32
    go_wp2
    go_end0
    exact ⟨⟨_, rfl⟩, hset.out, ho1.trans (Only.setCell w1 ⟨d, 32, none⟩ _)⟩
theorem next_nil (w : World) : Calls Try.prog 9 #[.pointer none] w (Stays w) := by
  go_enter Try.func9, Try.ntmps9
  go_wp2
  go_end0
  exact ⟨⟨_, rfl⟩, rfl⟩

theorem cells_one (L : Lst) : (cellsL L).toArray.all (·.oneCell') = true := by
  unfold cellsL
  simp [Value.oneCell']
set_option maxHeartbeats 1000000 in
theorem clear_any (L : Lst) (hL : L.n.length ≤ 32) (d : Nat) (w : World) (hd : ListIn w d L) :
    Calls Try.prog 11 #[.pointer (some ⟨d, 0, none⟩)] w (Turned w d empty) := by
  have hs : (cellsL L).toArray.size = (cellsL empty).toArray.size := by rw [List.size_toArray, List.size_toArray, cells_size hL, cells_size (L := empty) (by simp [empty])]
  go_enter Try.func11, Try.ntmps11
  go_wp2_with (with_reducible show wpList _ _ _ (⟨none, .store _ (.tmp 6) _, _, _, _, _⟩ :: _) _ _; go_must (refine wpList_storeAll rfl _ (.tmp 6) (.tmp 5) rfl hd.blk (cellsL empty).toArray rfl rfl sizeE hs (cells_one empty) ?_); intro w1 hd1 ho1)
  go_end0
  exact ⟨⟨_, rfl⟩, hd1, ho1⟩
theorem clear_nil (w : World) : Calls Try.prog 11 #[.pointer none] w (Stays w) := by
  go_enter Try.func11, Try.ntmps11
  go_wp2
  go_end0
  exact ⟨⟨_, rfl⟩, rfl⟩

theorem new_any (w : World) : Calls Try.prog 8 #[] w fun e w' => e = .returned (.pointer (some ⟨w.heap.size, 0, none⟩)) ∧ ListIn w' w.heap.size empty ∧ Only [] w w' := by
  go_enter Try.func8, Try.ntmps8
  go_wp2
  go_ret
  exact ⟨rfl, Block.made _ _ _, Only.alloc _ _ _⟩

set_option maxHeartbeats 1000000 in
theorem copy_any (L : Lst) (hL : L.n.length ≤ 32) (d : Nat) (w : World) (hd : ListIn w d L) :
    Calls Try.prog 12 #[.pointer (some ⟨d, 0, none⟩)] w fun e w' => e = .returned (.pointer (some ⟨w.heap.size, 0, none⟩)) ∧ ListIn w' w.heap.size L ∧ Only [] w w' := by
  have hs := cells_size hL
  have hinfo : (Try.prog.info? 37).map (·.size) = some (cellsL L).toArray.size := by simpa [hs] using sizeL
  have hd1 : w.heap[d]? = some (.cells (cellsL L).toArray 37 (0, 0)) := hd
  go_enter Try.func12, Try.ntmps12
  go_wp2_with (first
    | (with_reducible show wpList _ _ _ (⟨some 8, .load _ (.tmp 7), _, _, _, _⟩ :: _) _ _; go_must (refine wpList_load_row rfl _ (.tmp 7) rfl d rfl _ (cellsL L).toArray (0, 0) _ hd1 Try.underlying37 rfl hinfo ?_))
    | (with_reducible show wpList _ _ _ (⟨none, .store _ (.tmp 3) _, _, _, _, _⟩ :: _) _ _; go_must (refine wpList_storeAll rfl _ (.tmp 3) (.tmp 8) rfl (Block.made w _ _) (cellsL L).toArray rfl rfl hinfo (by simpa using hs.symm) (cells_one L) ?_); intro w1 hd1 ho1))
  go_ret
  exact ⟨rfl, hd1, (Only.alloc [] w _).then ho1 (by simp)⟩
theorem copy_nil (w : World) : Calls Try.prog 12 #[.pointer none] w fun e w' => e = .returned (.pointer none) ∧ w' = w := by
  go_enter Try.func12, Try.ntmps12
  go_wp2
  go_ret
  exact ⟨rfl, rfl⟩

/-- What Values tells: a row of the call's own. -/
def Shown (w : World) (l : List Int) (e : Ending) (w' : World) : Prop := ∃ v, e = .returned v ∧ Own w' w.heap.size 3 .i64 v l ∧ Below w.heap.size w w'
set_option maxHeartbeats 1000000 in
theorem values_any (L : Lst) (hL : L.n.length ≤ 32) (d : Nat) (w : World) (hd : ListIn w d L) :
    Calls Try.prog 15 #[.pointer (some ⟨d, 0, none⟩)] w (Shown w L.n) := by
  have h := Lib.hid (numbers_any L hL d w hd)
  have hn := hd.nums
  go_enter Try.func15, Try.ntmps15
  go_wp2_with (first
    | (go_at_call 22; refine (h.out).mono ?_; rintro e w1 ⟨n, rfl, rfl⟩)
    | (with_reducible show wpList _ _ _ (⟨some 5, .call _, _, _, _, _⟩ :: _) _ _; go_must (refine wpList_app elemI rfl (.const (.slice none 0 0)) (.tmp 4) rfl w.heap.size (.slice none 0 0) [] L.n (some ⟨d, 0, none⟩) w.heap.size L.n.length rfl rfl (Own.nil (w.drewN n) _ _ _) (hn.kept fun _ _ => rfl) (Nat.le_refl _) (by simp; omega) (by simp [maxLen]; omega) ?_); intro v2 w2 hown ho hat))
  go_ret
  exact ⟨v2, rfl, hown, (Only.then (Only.drewN [] w n) ho (by simp [Value.ownBlock])).nil⟩
theorem values_nil (w : World) : Calls Try.prog 15 #[.pointer none] w fun e w' => e = .returned (.slice none 0 0) ∧ w' = w := by
  go_enter Try.func15, Try.ntmps15
  go_wp2_with ((go_at_call 22; refine (numbers_nil _).mono ?_; rintro e w' ⟨rfl, rfl⟩))
  go_ret
  exact ⟨rfl, rfl⟩

end Go.Proofs.Ytgpoboolonkmcaa.Par
