/-
  parser: the calls that turn the numbers and the collected ones within the parser's block.
-/
import Derived.Test.YtgkpcjhnphfkgaaQLeaf
namespace Go.Proofs.Ytgkpcjhnphfkgaa.Prs
open Go Go.RowKit Go.Proofs.Ytgkpcjhnphfkgaa.Com Go.Proofs.Ytgkpcjhnphfkgaa.Par

/-- What a method leaves that turns the parser's block alone. -/
def PTurned (w : World) (d : Nat) (S : PS) (v : Value) (e : Ending) (w' : World) : Prop := (∃ x, e = .returned x) ∧ PBlk w' d S v ∧ Only [d] w w'
theorem num_same (S : PS) : S.num S.sq.num = S := rfl
theorem beg_none {L : Lst} (h : L.n.length = 0) : begF L.n = [0] := if_pos h
theorem same_lst {L : Lst} (h : 0 < L.n.length) : (⟨begF L.n, L.over⟩ : Lst) = L := by rw [beg_of_pos h]

theorem begin_any (S : PS) (v : Value) (hL : S.sq.num.n.length ≤ 32) (d : Nat) (w : World) (hd : PBlk w d S v) :
    Calls Try.prog 40 #[.pointer (some ⟨d, 2, none⟩)] w (PTurned w d (S.num ⟨begF S.sq.num.n, S.sq.num.over⟩) v) := by
  have hc := hd.count hL
  have hfr := hd.free 34
  by_cases h0 : S.sq.num.n.length = 0
  · have hset := Lib.hid (hd.set (set_num (v := v) hL (i := 32) (by omega) (cells_begin h0)))
    rw [h0] at hc
    clear hd h0
    go_enter Try.func40, Try.ntmps40
    go_wp2
    go_end0
    exact ⟨⟨_, rfl⟩, hset.out, Only.setCell w ⟨d, 34, .none⟩ _⟩
  · have h0' : 0 < S.sq.num.n.length := by omega
    rw [same_lst h0', num_same]
    have hd' := Lib.hid hd
    generalize S.sq.num.n.length = k at hc h0 h0'
    clear hd
    go_enter Try.func40, Try.ntmps40
    go_wp2
    go_end0
    exact ⟨⟨_, rfl⟩, hd'.out, Only.refl _ _⟩

theorem digit_skip {L : Lst} {x : Int} (h : x < 0 ∨ 9 < x ∨ L.over = true) : digitF L x = L := if_pos h
theorem digit_put {L : Lst} {x : Int} (h0 : 0 ≤ x) (h1 : x ≤ 9) (h2 : L.over = false) : digitF L x = ⟨putF (begF L.n) x, false⟩ := if_neg (by rw [h2]; simp; omega)
set_option maxHeartbeats 1000000 in
theorem digit_any (S : PS) (v : Value) (hL : S.sq.num.Ok) (x : Int) (h0 : 0 ≤ x) (h1 : x ≤ 9) (d : Nat) (w : World) (hd : PBlk w d S v) :
    Calls Try.prog 37 #[.pointer (some ⟨d, 2, none⟩), .int .i64 x] w (PTurned w d (S.num (digitF S.sq.num x)) v) := by
  have ho := hd.over hL.len
  by_cases hov : S.sq.num.over = true
  · rw [digit_skip (Or.inr (Or.inr hov)), num_same]
    rw [hov] at ho
    have hd' := Lib.hid hd
    clear hd
    go_enter Try.func37, Try.ntmps37
    go_wp2
    go_end0
    exact ⟨⟨_, rfl⟩, hd'.out, Only.refl _ _⟩
  replace hov : S.sq.num.over = false := by simpa using hov
  rw [hov] at ho
  have hb := Lib.hid (begin_any S v hL.len d w hd)
  rw [digit_put h0 h1 hov]
  have hok := hL.beg S.sq.num.over
  have hp := beg_pos S.sq.num.n
  obtain ⟨j, hj⟩ : ∃ j, (begF S.sq.num.n).length = j + 1 := ⟨(begF S.sq.num.n).length - 1, by omega⟩
  have hj32 : j < 32 := by have := hok.len; simp only at this; omega
  have hl0 := hok.lo _ (last_mem hp)
  have hl1 := hok.hi _ (last_mem hp)
  simp only at hl0 hl1
  have hlast : lastF (begF S.sq.num.n) = (begF S.sq.num.n)[j]'(by omega) := by
    unfold lastF
    rw [← Par.getD_at (l := begF S.sq.num.n) (k := j) (by omega), hj, Nat.add_sub_cancel]
  have hput : Hid (putF (begF S.sq.num.n) x = (begF S.sq.num.n).set j (capF (lastF (begF S.sq.num.n) * 10 + x))) := by
    show _ = _
    unfold putF
    rw [hj, Nat.add_sub_cancel]
  clear hd
  go_enter Try.func37, Try.ntmps37
  go_wp2_with fail
  refine hb.out.mono ?_
  rintro e w1 ⟨⟨v1, rfl⟩, hd1, ho1⟩
  have hc1 := hd1.count hok.len
  have hx1 := hd1.at (i := j) (by simp only [PS.num]; omega)
  have hf1 := hd1.free (2 + j)
  have hset := fun y => hd1.set (set_num (v := v) hok.len (i := j) (by omega) (cells_put (L := ⟨begF S.sq.num.n, S.sq.num.over⟩) (i := j) (by simp only; omega) y))
  simp only [PS.num] at hc1 hx1 hset
  rw [← hlast] at hx1
  rw [hj] at hc1
  rw [hov] at hset
  have hc1' : w1.cell? ⟨d, 34, none⟩ = some (.int .i64 ((j : Int) + 1)) := by rw [hc1]; rfl
  replace hset := Lib.hid hset
  generalize lastF (begF S.sq.num.n) = y at hx1 hl0 hl1 hput
  clear hc1 hb hd1 hok hp hj hlast ho
  go_wp2
  go_quiet (fail)
  go_wp2
  all_goals go_end0
  · have hcap : capF (y * 10 + x) = 65535 := if_pos (by assumption)
    refine ⟨⟨_, rfl⟩, ?_, ho1.trans ((Only.drewN [d] w1 nq).trans (Only.setCell (w1.drewN nq) ⟨d, 2 + j, none⟩ _))⟩
    rw [hput.out, hcap]
    exact hset.out _
  · have hcap : capF (y * 10 + x) = y * 10 + x := if_neg (by omega)
    refine ⟨⟨_, rfl⟩, ?_, ho1.trans ((Only.drewN [d] w1 nq).trans (Only.setCell (w1.drewN nq) ⟨d, 2 + j, none⟩ _))⟩
    rw [hput.out, hcap]
    exact hset.out _

theorem next_full {L : Lst} (h : (begF L.n).length = 32) : nextF L = ⟨begF L.n, true⟩ := if_pos h
theorem next_more {L : Lst} (h : ¬ (begF L.n).length = 32) : nextF L = ⟨begF L.n ++ [0], L.over⟩ := if_neg h
set_option maxHeartbeats 1000000 in
theorem next_any (S : PS) (v : Value) (hL : S.sq.num.n.length ≤ 32) (d : Nat) (w : World) (hd : PBlk w d S v) :
    Calls Try.prog 38 #[.pointer (some ⟨d, 2, none⟩)] w (PTurned w d (S.num (nextF S.sq.num)) v) := by
  have hb := Lib.hid (begin_any S v hL d w hd)
  have hlen := beg_len hL
  clear hd
  by_cases h32 : (begF S.sq.num.n).length = 32
  · rw [next_full h32]
    go_enter Try.func38, Try.ntmps38
    go_wp2_with fail
    refine hb.out.mono ?_
    rintro e w1 ⟨⟨v1, rfl⟩, hd1, ho1⟩
    have hc1 := hd1.count hlen
    have hf1 := hd1.free 35
    have ho := hd1.over hlen
    have hset := Lib.hid (hd1.set (set_num (v := v) hlen (i := 33) (by omega) (cells_over2 (L := ⟨begF S.sq.num.n, S.sq.num.over⟩) hlen)))
    simp only [PS.num] at hc1 ho
    rw [h32] at hc1
    clear hb hd1 hlen h32
    go_wp2
    go_end0
    exact ⟨⟨_, rfl⟩, hset.out, ho1.trans (Only.setCell w1 ⟨d, 35, none⟩ _)⟩
  · rw [next_more h32]
    go_enter Try.func38, Try.ntmps38
    go_wp2_with fail
    refine hb.out.mono ?_
    rintro e w1 ⟨⟨v1, rfl⟩, hd1, ho1⟩
    have hc1 := hd1.count hlen
    have hf1 := hd1.free 34
    have hset := hd1.set (set_num (v := v) hlen (i := 32) (by omega) (cells_next (L := ⟨begF S.sq.num.n, S.sq.num.over⟩) (by simp only; omega)))
    simp only [PS.num] at hc1 hset
    replace hset := Lib.hid hset
    generalize (begF S.sq.num.n).length = k at hc1 hset hlen h32
    have h32' : ((k : Int) == 32) = false := by simp; omega
    clear hb hd1 h32
    go_wp2
    go_end0
    exact ⟨⟨_, rfl⟩, hset.out, ho1.trans (Only.setCell w1 ⟨d, 34, none⟩ _)⟩

theorem elemI : Elem Try.prog 31 3 .i64 8 := by
  have h : (Try.prog.info? 3).map (fun i => (i.zero, i.size, i.bytes)) = some (some (.int .i64 0), 1, 8) := by kernel_rfl
  obtain ⟨i, h0, h1, h2, h3⟩ := info_parts h
  exact ⟨Try.underlying31, i, h0, h1, h2, h3⟩
theorem elemR : Elem Try.prog 22 21 .i32 4 := by
  have h : (Try.prog.info? 21).map (fun i => (i.zero, i.size, i.bytes)) = some (some (.int .i32 0), 1, 4) := by kernel_rfl
  obtain ⟨i, h0, h1, h2, h3⟩ := info_parts h
  exact ⟨Try.underlying22, i, h0, h1, h2, h3⟩

/-- The three-index part of the places where the numbers stand. -/
theorem part_any (k : Nat) (hk : k ≤ 32) (d : Nat) (w : World) :
    (Instr.sliceAt 36 (.pointer (some ⟨d, 2, none⟩)) none (some (.int .i64 k)) (some (.int .i64 k))).run Try.prog w = .ok (.slice (some ⟨d, 2, none⟩) k k) w := by
  have ht : Try.prog.underlying 36 = some (.array (Try.prog.arrayLen 36) (Try.prog.elem 36)) := by kernel_rfl
  have hl : Try.prog.arrayLen 36 = 32 := by kernel_rfl
  have hi : (Try.prog.info? (Try.prog.elem 36)).map (·.size) = some 1 := by kernel_rfl
  rw [run_sliceAt_array_hm w _ ⟨d, 2, none⟩ ht .i64 .i64 k k (by omega) (by omega) (by rw [hl]; omega)]
  cases hq : Try.prog.info? (Try.prog.elem 36) with
  | none => simp [hq] at hi
  | some j =>
    have hs : j.size = 1 := by simpa [hq] using hi
    simp [sizeOf, typeInfo, hq, hs, slicedAt, Addr.add]
theorem numbers_any (S : PS) (v : Value) (hL : S.sq.num.n.length ≤ 32) (d : Nat) (w : World) (hd : PBlk w d S v) :
    Calls Try.prog 42 #[.pointer (some ⟨d, 2, none⟩)] w fun e w' => ∃ n, e = .returned (.slice (some ⟨d, 2, none⟩) S.sq.num.n.length S.sq.num.n.length) ∧ w' = w.drewN n := by
  have hc := hd.count hL
  generalize hk : S.sq.num.n.length = k at hc hL
  clear hk hd
  have hp := part_any k hL d
  go_enter Try.func42, Try.ntmps42
  go_wp2
  go_quiet (fail)
  go_wp2
  go_ret
  exact ⟨_, rfl, rfl⟩
theorem num_nums {w : World} {d : Nat} {S : PS} {v : Value} (h : PBlk w d S v) : Nums w w.heap.size .i64 (some ⟨d, 2, none⟩) S.sq.num.n := fun i x hx => by
  obtain ⟨hi, rfl⟩ := List.getElem?_eq_some_iff.1 hx
  refine ⟨_, rfl, h.lt, ?_⟩
  rw [Addr.add_lit]
  exact h.at hi
/-- What Values tells: a row of the call's own. -/
def Shown (w : World) (l : List Int) (e : Ending) (w' : World) : Prop := ∃ x, e = .returned x ∧ Own w' w.heap.size 3 .i64 x l ∧ Below w.heap.size w w'
set_option maxHeartbeats 1000000 in
theorem values_any (S : PS) (v : Value) (hL : S.sq.num.n.length ≤ 32) (d : Nat) (w : World) (hd : PBlk w d S v) :
    Calls Try.prog 41 #[.pointer (some ⟨d, 2, none⟩)] w (Shown w S.sq.num.n) := by
  have h := Lib.hid (numbers_any S v hL d w hd)
  have hn := num_nums hd
  go_enter Try.func41, Try.ntmps41
  go_wp2_with (first
    | (go_at_call 42; refine (h.out).mono ?_; rintro e w1 ⟨n, rfl, rfl⟩)
    | (with_reducible show wpList _ _ _ (⟨some 5, .call _, _, _, _, _⟩ :: _) _ _; go_must (refine wpList_app elemI rfl (.const (.slice none 0 0)) (.tmp 4) rfl w.heap.size (.slice none 0 0) [] S.sq.num.n (some ⟨d, 2, none⟩) w.heap.size S.sq.num.n.length rfl rfl (Own.nil (w.drewN n) _ _ _) (hn.kept fun _ _ => rfl) (Nat.le_refl _) (by simp; omega) (by simp [maxLen]; omega) ?_); intro v2 w2 hown ho hat))
  go_ret
  exact ⟨v2, rfl, hown, (Only.then (Only.drewN [] w n) ho (by simp [Value.ownBlock])).nil⟩

/-! Collecting. -/
theorem only_drew (L : List Nat) (w : World) : Only L w w.drew := ⟨rfl, rfl, rfl, Nat.le_refl _, fun _ _ _ => rfl⟩
set_option maxHeartbeats 1000000 in
theorem collect_any (S : PS) (v : Value) (hL : S.sq.num.n.length ≤ 32) (hc : S.sq.cnt ≤ 2) (r : Int) (d : Nat) (w : World) (hd : PBlk w d S v) :
    Calls Try.prog 34 #[.pointer (some ⟨d, 1, none⟩), .int .i32 r] w (PTurned w d (S.take r) v) := by
  have h38 := hd.cnt hL
  have h36 := hd.pa hL
  have h37 := hd.pb hL
  have h39 := hd.many hL
  have f36 := hd.free 36
  have f37 := hd.free 37
  have f38 := hd.free 38
  have f39 := hd.free 39
  rcases (by omega : S.sq.cnt = 0 ∨ S.sq.cnt = 1 ∨ S.sq.cnt = 2) with h0 | h0 | h0
  · have e : S.take r = ⟨S.st, ⟨S.sq.pr, S.sq.num, r, S.sq.b, 1, S.sq.many⟩, S.text⟩ := by unfold PS.take Sq.put; rw [if_neg (by omega), if_neg (by omega)]
    rw [h0] at h38
    have hset : ∀ w1, PBlk w1 d S v → PBlk ((w1.setCell ⟨d, 36, none⟩ (.int .i32 r)).setCell ⟨d, 38, none⟩ (.int .i64 1)) d ⟨S.st, ⟨S.sq.pr, S.sq.num, r, S.sq.b, 1, S.sq.many⟩, S.text⟩ v :=
      fun w1 h => (h.set (set_a hL v r)).set (set_cnt (S := ⟨S.st, ⟨S.sq.pr, S.sq.num, r, S.sq.b, S.sq.cnt, S.sq.many⟩, S.text⟩) hL v 1)
    replace hset := Lib.hid hset
    have hd' := Lib.hid hd
    rw [e]
    clear hd e hc hL
    go_enter Try.func34, Try.ntmps34
    go_wp2
    go_region
    all_goals go_wp2
    all_goals go_end0
    all_goals exact ⟨⟨_, rfl⟩, hset.out _ hd'.out, ((Only.setCell w ⟨d, 36, none⟩ _).trans (Only.setCell _ ⟨d, 38, none⟩ _)).trans (only_drew _ _)⟩
  · have e : S.take r = ⟨S.st, ⟨S.sq.pr, S.sq.num, S.sq.a, r, 2, S.sq.many⟩, S.text⟩ := by unfold PS.take Sq.put; rw [if_neg (by omega), if_pos h0]
    rw [h0] at h38
    have hset : ∀ w1, PBlk w1 d S v → PBlk ((w1.setCell ⟨d, 37, none⟩ (.int .i32 r)).setCell ⟨d, 38, none⟩ (.int .i64 2)) d ⟨S.st, ⟨S.sq.pr, S.sq.num, S.sq.a, r, 2, S.sq.many⟩, S.text⟩ v :=
      fun w1 h => (h.set (set_b hL v r)).set (set_cnt (S := ⟨S.st, ⟨S.sq.pr, S.sq.num, S.sq.a, r, S.sq.cnt, S.sq.many⟩, S.text⟩) hL v 2)
    replace hset := Lib.hid hset
    have hd' := Lib.hid hd
    rw [e]
    clear hd e hc hL
    go_enter Try.func34, Try.ntmps34
    go_wp2
    go_region
    all_goals go_wp2
    all_goals go_end0
    all_goals exact ⟨⟨_, rfl⟩, hset.out _ hd'.out, ((Only.setCell w ⟨d, 37, none⟩ _).trans (Only.setCell _ ⟨d, 38, none⟩ _)).trans (only_drew _ _)⟩
  · have e : S.take r = ⟨S.st, ⟨S.sq.pr, S.sq.num, S.sq.a, S.sq.b, S.sq.cnt, true⟩, S.text⟩ := by unfold PS.take Sq.put; rw [if_pos h0]
    rw [h0] at h38
    have hset := Lib.hid (hd.set (set_many hL v))
    rw [e]
    clear hd e hc hL
    go_enter Try.func34, Try.ntmps34
    go_wp2
    go_end0
    exact ⟨⟨_, rfl⟩, hset.out, Only.setCell w ⟨d, 39, none⟩ _⟩

end Go.Proofs.Ytgkpcjhnphfkgaa.Prs
