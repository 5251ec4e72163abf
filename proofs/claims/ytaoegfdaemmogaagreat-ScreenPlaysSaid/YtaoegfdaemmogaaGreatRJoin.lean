/-
  row: Erase, span. row: Insert, Delete. row: New, Resize. row: Join.
-/
import Derived.Test.YtaoegfdaemmogaaGreatRPut
namespace Go.Proofs.YtaoegfdaemmogaaGreat.Rw
open Go Go.RowKit Go.Proofs.YtaoegfdaemmogaaGreat.Com
theorem Like.drewN {w w1 : World} {d g n cap : Nat} {tail : List Value} {l : List Cel} (h : Like w d g n cap tail l w1) (q : Nat) : Like w d g n cap tail l (w1.drewN q) := h.next (below_dr (Below.refl _ _) q)
section
variable {w : World} {d g n cap : Nat} {tail : List Value} {l : List Cel}

set_option maxHeartbeats 2000000 in
theorem erase_any (h : RowX w d g n cap tail l) (hwh : Whole l) (lo hi : Int) (a : At) :
    Calls Tryz.prog 91 #[.pointer (some ⟨d, 0, none⟩), .int .i64 lo, .int .i64 hi, .agg #[.int .u32 a.f, .int .u32 a.b, .int .u16 a.g]] w (OpDone w d g n cap tail (eraseL l (heldF lo n) (heldF hi n) a) (.int .i64 0)) := by
  have hh1 := held_any lo n
  have hh2 := held_any hi n
  have hp : heldF lo n ≤ n := Nat.min_le_right _ _
  have hq : heldF hi n ≤ n := Nat.min_le_right _ _
  generalize heldF lo n = p at hh1 hp ⊢
  generalize heldF hi n = q at hh2 hq ⊢
  obtain ⟨af, ab, ag⟩ := a
  have hn := h.pos
  have hn5 := h.small
  have hn0 : ((n : Int) == 0) = false := beq_eq_false_iff_ne.2 (by omega)
  have hL := like_box h af ab ag
  have hlen := Lib.hid (len_any hL.row)
  have hc := hL.row.slice
  replace hh1 := Lib.hid hh1
  replace hh2 := Lib.hid hh2
  simp only
  by_cases hlt : p < q
  · have hcl := clr_any (q - p) (by omega) ⟨af, ab, ag⟩
    rw [show ((q - p : Nat) : Int) = (q : Int) - (p : Int) by omega] at hcl
    simp only at hcl
    have hE : eraseL l p q ⟨af, ab, ag⟩ = setL l p (List.replicate (q - p) (clr ⟨af, ab, ag⟩)) := if_pos hlt
    rw [hE]
    have hpq : p + (q - p) ≤ n := by omega
    generalize hk : q - p = k at hcl hpq ⊢
    replace hcl := Lib.hid hcl
    have hst := fun w1 (h1 : Like w d g n cap tail l w1) g2 hb => setclr_any h1.row hwh p k ⟨af, ab, ag⟩ hpq g2 hb
    replace hst := Lib.hid hst
    replace hL := Lib.hid hL
    clear h hE hk
    go_enter Tryz.func91, Tryz.ntmps91
    go_wp2_with (first | (go_at_call 66; (with_reducible refine (hlen.out).mono ?_); rintro e w' ⟨rfl, rfl⟩))
    go_quiet ((first | (go_at_call 103; with_reducible exact quiet_left (hh1.out _)) | (go_at_call 103; with_reducible exact quiet_left (hh2.out _))))
    go_wp2_with ((go_at_call 94; (with_reducible refine (hcl.out _).mono ?_); rintro e w2 ⟨g2, rfl, hb2, hbel2, hg2⟩))
    have hL2 := (hL.out.drewN nq).next hbel2
    with_reducible refine (hst.out _ hL2 g2 hb2).mono ?_
    rintro e w3 ⟨⟨v3, rfl⟩, hR3, ho3⟩
    have hres := Lib.hid (hL2.turned hR3 ho3)
    clear hL2 hR3 ho3 hb2 hbel2 hg2
    go_wp2
    go_ret
    exact ⟨rfl, hres.out⟩
  · have hE : eraseL l p q ⟨af, ab, ag⟩ = l := if_neg hlt
    rw [hE]
    replace hL := Lib.hid hL
    clear h hE
    go_enter Tryz.func91, Tryz.ntmps91
    go_wp2_with (first | (go_at_call 66; (with_reducible refine (hlen.out).mono ?_); rintro e w' ⟨rfl, rfl⟩))
    go_quiet ((first | (go_at_call 103; with_reducible exact quiet_left (hh1.out _)) | (go_at_call 103; with_reducible exact quiet_left (hh2.out _))))
    go_wp2
    go_ret
    exact ⟨rfl, (hL.out.drewN _).stays⟩

end
end Go.Proofs.YtaoegfdaemmogaaGreat.Rw
namespace Go.Proofs.YtaoegfdaemmogaaGreat.Rw
open Go Go.RowKit Go.Proofs.YtaoegfdaemmogaaGreat.Com

theorem ins_splice {l : List Cel} {col k : Nat} (a : At) (h : col + k ≤ l.length) : splice (splice l (col + k) ((l.drop col).take (l.length - col - k))) col (List.replicate k (clr a)) = insX l col k a := by
  have hM : ((l.drop col).take (l.length - col - k)).length = l.length - col - k := by simp
  unfold insX
  generalize (l.drop col).take (l.length - col - k) = M at hM
  have e1 : splice l (col + k) M = l.take (col + k) ++ M := by
    unfold splice
    rw [hM, List.drop_eq_nil_of_le (by omega), List.append_nil]
  rw [e1]
  unfold splice
  rw [List.take_append_of_le_length (by simp; omega), List.take_take, Nat.min_eq_left (by omega), List.length_replicate]
  congr 2
  rw [List.drop_append, List.drop_eq_nil_of_le (by simp; omega)]
  simp only [List.nil_append, List.length_take, Nat.min_eq_left h, Nat.sub_self, List.drop_zero]
theorem del_splice {l : List Cel} {col k : Nat} (a : At) (h : col + k ≤ l.length) : splice (splice l col (l.drop (col + k))) (l.length - k) (List.replicate k (clr a)) = l.take col ++ (l.drop (col + k) ++ List.replicate k (clr a)) := by
  have hM : (l.drop (col + k)).length = l.length - k - col := by simp; omega
  generalize l.drop (col + k) = M at hM
  unfold splice
  have e0 : (l.take col ++ (M ++ l.drop (col + M.length))).length = l.length := by simp; omega
  have e1 : (l.take col ++ (M ++ l.drop (col + M.length))).take (l.length - k) = l.take col ++ M := by
    rw [← List.append_assoc, List.take_append_of_le_length (by simp; omega), List.take_of_length_le (by simp; omega)]
  rw [e1, List.length_replicate, List.drop_eq_nil_of_le (by rw [e0]; omega), List.append_nil, List.append_assoc]
/-- Some of a row's cells, one behind the other. -/
theorem RowX.part {w : World} {d g n cap : Nat} {tail : List Value} {l : List Cel} (h : RowX w d g n cap tail l) (c m : Nat) (hc : c + m ≤ n) : ∀ j v, (fl cellC ((l.drop c).take m))[j]? = some v → w.cell? ((⟨g, c * 10, none⟩ : Addr).add j) = some v := by
  intro j v hj
  rw [Addr.add_lit]
  refine h.row.cell _ ?_
  have hl := h.len
  rw [← fl_take cellC_length _ _ (by simp; omega), ← fl_drop cellC_length _ _ (by omega), List.getElem?_take] at hj
  split at hj
  · rw [List.getElem?_drop] at hj
    have hlt := (List.getElem?_eq_some_iff.1 hj).1
    simp only [List.getElem?_toArray]
    rw [List.getElem?_append_left hlt]
    exact hj
  · cases hj
theorem part_length (l : List Cel) (c m : Nat) (h : c + m ≤ l.length) : (fl cellC ((l.drop c).take m)).length = m * 10 := by rw [fl_length cellC_length]; simp; omega
theorem RowX.curLen {w : World} {d g n cap : Nat} {tail : List Value} {l : List Cel} (h : RowX w d g n cap tail l) : (fl cellC l ++ tail).length = n * 10 + tail.length := by rw [List.length_append, fl_length cellC_length, h.len]
/-- Behind a copy into the row's own block. -/
theorem RowX.copied {w w' : World} {d g n cap : Nat} {tail : List Value} {l : List Cel} (h : RowX w d g n cap tail l) (at' : Nat) (M : List Cel) (hM : at' + M.length ≤ n) (hb : Block w' g 114 (splice (Rw.fl cellC l ++ tail) (at' * 10) (Rw.fl cellC M)).toArray) (ho : Only [g] w w') :
    RowX w' d g n cap tail (splice l at' M) := by
  have hl := h.len
  refine h.turned ho ?_ (length_splice _ _ _ (by omega))
  rw [← fl_splice cellC_length l M tail at' (by omega)]
  exact hb
theorem Block.box {w : World} {bx : Nat} {f b g : Int} (h : Block w bx 37 #[.int .u32 f, .int .u32 b, .int .u16 g]) : w.cell? ⟨bx, 0, none⟩ = some (.int .u32 f) ∧ w.cell? ⟨bx, 1, none⟩ = some (.int .u32 b) ∧ w.cell? ⟨bx, 2, none⟩ = some (.int .u16 g) := ⟨h.cell 0 rfl, h.cell 1 rfl, h.cell 2 rfl⟩

section
variable {w : World} {d g n cap : Nat} {tail : List Value} {l : List Cel}

end
end Go.Proofs.YtaoegfdaemmogaaGreat.Rw
namespace Go.Proofs.YtaoegfdaemmogaaGreat.Rw
open Go Go.RowKit Go.Proofs.YtaoegfdaemmogaaGreat.Com

theorem res_splice (l : List Cel) (cols : Nat) : splice (List.replicate cols (clr zeroAt)) 0 (l.take cols) = resX l cols := by
  unfold splice resX
  simp only [List.take_zero, List.nil_append, List.drop_replicate, List.length_take]
  congr 2
  omega
def NewDone (w : World) (n : Nat) (e : Ending) (w' : World) : Prop := ∃ d g, e = .returned (.tuple #[.pointer (some ⟨d, 0, none⟩), .int .i64 0]) ∧ RowX w' d g n n [] (List.replicate n (clr zeroAt)) ∧ Below w.heap.size w w' ∧ w.heap.size ≤ d ∧ w.heap.size ≤ g

theorem new_no (cols : Int) (h : cols < 1 ∨ 512 < cols) (w : World) : Calls Tryz.prog 90 #[.int .i64 cols] w fun e w' => e = .returned (.tuple #[.pointer none, .int .i64 2]) ∧ w = w' := by
  have hmc := Lib.hid (mayCount_no cols h)
  clear h
  go_enter Tryz.func90, Tryz.ntmps90
  go_wp2_with ((go_at_call 93; (with_reducible refine (hmc.out _).mono ?_); rintro e w' ⟨rfl, rfl⟩))
  go_ret2
  exact ⟨rfl, rfl⟩
set_option maxHeartbeats 1000000 in
theorem new_yes (n : Nat) (h1 : 1 ≤ n) (h2 : n ≤ 512) (w : World) : Calls Tryz.prog 90 #[.int .i64 n] w (NewDone w n) := by
  have hmc := Lib.hid (mayCount_yes n (by omega) (by omega))
  have hcl := clr_any n h2 zeroAt
  simp only [zeroAt] at hcl
  replace hcl := Lib.hid hcl
  go_enter Tryz.func90, Tryz.ntmps90
  go_wp2_with (first
    | (go_at_call 93; (with_reducible refine (hmc.out _).mono ?_); rintro e w' ⟨rfl, rfl⟩)
    | (go_at_call 94; (with_reducible refine (hcl.out _).mono ?_); rintro e w1 ⟨g1, rfl, hb1, hbel1, hg1⟩))
  go_ret2
  have hlt := hb1.lt
  refine ⟨w1.heap.size, g1, rfl, ⟨Block.made w1 _ _, by rw [List.append_nil]; exact hb1.alloc _, by simp, Nat.le_refl _, by unfold maxLen; omega, h1, h2⟩, hbel1.alloc hbel1.size _, hbel1.size, hg1⟩

def ResDone (w : World) (d n : Nat) (l : List Cel) (e : Ending) (w' : World) : Prop := ∃ g, e = .returned (.int .i64 0) ∧ RowX w' d g n n [] l ∧ Only [d] w w' ∧ w.heap.size ≤ g
section
variable {w : World} {d g n cap : Nat} {tail : List Value} {l : List Cel}
theorem resize_no (h : RowX w d g n cap tail l) (cols : Int) (hc : cols < 1 ∨ 512 < cols) : Calls Tryz.prog 82 #[.pointer (some ⟨d, 0, none⟩), .int .i64 cols] w fun e w' => e = .returned (.int .i64 2) ∧ w = w' := by
  have hmc := Lib.hid (mayCount_no cols hc)
  have hn := h.pos
  have hn0 : ((n : Int) == 0) = false := beq_eq_false_iff_ne.2 (by omega)
  have hlen := Lib.hid (len_any h)
  clear h hc
  go_enter Tryz.func82, Tryz.ntmps82
  go_wp2_with (first | (go_at_call 66; (with_reducible refine (hlen.out).mono ?_); rintro e w' ⟨rfl, rfl⟩) | (go_at_call 93; (with_reducible refine (hmc.out _).mono ?_); rintro e w' ⟨rfl, rfl⟩))
  go_ret
  exact ⟨rfl, rfl⟩
theorem info54 : (Tryz.prog.info? 120).map (·.size) = some 1 := by kernel_rfl

set_option maxRecDepth 100000 in
set_option maxHeartbeats 2000000 in
theorem resize_yes (h : RowX w d g n cap tail l) (hwh : Whole l) (cols : Nat) (h1 : 1 ≤ cols) (h2 : cols ≤ 512) : Calls Tryz.prog 82 #[.pointer (some ⟨d, 0, none⟩), .int .i64 cols] w (ResDone w d cols (resL l cols)) := by
  have hmc := Lib.hid (mayCount_yes cols (by omega) (by omega))
  have hn := h.pos
  have hn5 := h.small
  have hdw := h.ptr.lt
  have hgw := h.row.lt
  have hn0 : ((n : Int) == 0) = false := beq_eq_false_iff_ne.2 (by omega)
  have hlen := Lib.hid (len_any h)
  have hcl := clr_any cols h2 zeroAt
  simp only [zeroAt] at hcl
  replace hcl := Lib.hid hcl
  have hfin := Lib.hid (mendTo_all (alone_resX (cols := cols) hwh))
  replace h := Lib.hid h
  replace hwh := Lib.hid hwh
  go_enter Tryz.func82, Tryz.ntmps82
  go_wp2_with (first
    | (go_at_call 66; (with_reducible refine (hlen.out).mono ?_); rintro e w' ⟨rfl, rfl⟩)
    | (go_at_call 93; (with_reducible refine (hmc.out _).mono ?_); rintro e w' ⟨rfl, rfl⟩))
  with_reducible refine (hcl.out _).mono ?_
  rintro e w1 ⟨g1, rfl, hb1, hbel1, hg1⟩
  have hR1 := h.out.below hbel1
  have hs1 := hR1.slice
  have hX := part_length l 0 (min cols n) (by rw [h.out.len]; omega)
  have hpart := hR1.part 0 (min cols n) (by omega)
  have hone := fl_one' cellC_one ((l.drop 0).take (min cols n))
  have hfs := fl_splice cellC_length (List.replicate cols (clr zeroAt)) ((l.drop 0).take (min cols n)) [] 0 (by simp; omega)
  have htk : (l.drop 0).take (min cols n) = l.take cols := by
    rw [List.drop_zero, List.take_eq_take_iff, h.out.len]
    omega
  rw [htk] at hX hpart hone hfs
  rw [res_splice, List.append_nil, List.append_nil] at hfs
  have hcl2 := fl_length cellC_length (List.replicate cols (clr zeroAt))
  rw [List.length_replicate] at hcl2
  have hbC : Block w1 g1 114 (fl cellC (List.replicate cols (clr zeroAt))).toArray := hb1
  obtain ⟨X, hXX⟩ : ∃ X, X = fl cellC (l.take cols) := ⟨_, rfl⟩
  obtain ⟨cur, hcc⟩ : ∃ cur, cur = fl cellC (List.replicate cols (clr zeroAt)) := ⟨_, rfl⟩
  rw [← hXX] at hX hpart hone hfs
  rw [← hcc] at hcl2 hbC hfs
  have hdg : d ≠ g1 := by omega
  replace hX := Lib.hid hX
  replace hpart := Lib.hid hpart
  replace hone := Lib.hid hone
  replace hfs := Lib.hid hfs
  replace hcl2 := Lib.hid hcl2
  replace hbC := Lib.hid hbC
  have hp1 := Lib.hid hR1.ptr
  replace hbel1 := Lib.hid hbel1
  clear hXX hcc htk hR1 hb1
  go_wp2_with (first
    | (with_reducible show wpList _ _ _ (⟨some 22, .call _, _, _, _, _⟩ :: _) _ _; go_must (refine wpList_copyN rfl (.tmp 17) (.tmp 21) _ _ rfl 114 10 Tryz.underlying120 infoC _ _ _ _ _ _ rfl rfl g1 0 cur _ hbC.out X ((by rw [hX.out, Nat.min_comm])) (fun _ _ => ⟨rfl, _, rfl, by simpa using hpart.out⟩) (by rw [hX.out, hcl2.out]; omega) hone.out ?_); intro w2 hb2 ho2; have hp2 := hp1.out.only ho2 (by simpa using hdg))
    | (with_reducible show wpList _ _ _ (⟨none, .store _ (.tmp 26) _, _, _, _, _⟩ :: _) _ _; go_must (refine wpList_store1 rfl _ (.tmp 26) (.tmp 24) rfl hp2 (.slice _ _ _) rfl rfl (by simp) (by exact info54) rfl ?_); intro w3 hp3 ho3))
  simp only [List.take_zero, List.nil_append, List.singleton_append] at hp3
  have hb3 : Block w3 g1 114 (splice cur 0 X).toArray := hb2.out.only ho3 (by simpa using fun e => hdg e.symm)
  have hR3 : RowX w3 d g1 cols cols [] (resX l cols) := ⟨by simpa using hp3, by rw [List.append_nil, ← hfs.out]; simpa using hb3, resX_length l cols, Nat.le_refl _, by unfold maxLen; omega, h1, h2⟩
  have hm := mend_any hR3 cols cols (Nat.le_refl _) (Nat.le_refl _) (by omega)
  rw [show min (cols + 1) cols = cols by omega, hfin.out] at hm
  with_reducible refine hm.mono ?_
  rintro e w4 ⟨⟨v4, rfl⟩, hR4, ho4⟩
  have ho : Only [d] w w4 := by
    have o1 : Only [d] w w1 := Only.of_below hbel1.out _
    have o2 : Only [d] w w2 := o1.then ho2 (fun k hk => by simp at hk; subst hk; exact .inr hg1)
    have o3 : Only [d] w w3 := o2.trans ho3
    exact o3.then ho4 (fun k hk => by simp at hk; subst hk; exact .inr hg1)
  have hres := Lib.hid (And.intro hR4 (And.intro ho hg1))
  clear hR4 ho hm hR3 hb3 hp3 ho3 ho4 ho2 hp2 hs1 hb2
  go_wp2
  go_ret
  exact ⟨g1, rfl, hres.out⟩
end
end Go.Proofs.YtaoegfdaemmogaaGreat.Rw
namespace Go.Proofs.YtaoegfdaemmogaaGreat.Rw
open Go Go.RowKit Go.Proofs.YtaoegfdaemmogaaGreat.Com

def addMark (c : Cel) (x : Int) : Cel := ⟨c.r, c.m ++ [x], c.wide, c.a⟩
theorem pad4_add {m : List Int} (h : m.length < 4) (x : Int) : pad4 (m ++ [x]) = (pad4 m).set m.length x := by
  unfold pad4
  match m, h with
  | [], _ => rfl
  | [_], _ => rfl
  | [_, _], _ => rfl
  | [_, _, _], _ => rfl
theorem cellC_add {c : Cel} (h : c.m.length < 4) (x : Int) : cellC (addMark c x) = ((cellC c).set (1 + c.m.length) (.int .i32 x)).set 5 (.int .u8 ((c.m.length : Int) + 1)) := by
  obtain ⟨r, m, wd, a⟩ := c
  simp only at h
  unfold cellC addMark
  simp only [pad4_add h]
  match m, h with
  | [], _ => rfl
  | [_], _ => rfl
  | [_, _], _ => rfl
  | [_, _, _], _ => rfl
theorem splice_put {α : Type} (cur vs : List α) (off i : Nat) (v : α) (h : off + vs.length ≤ cur.length) (hi : i < vs.length) : splice cur off (vs.set i v) = (splice cur off vs).set (off + i) v := by
  unfold splice
  rw [List.set_append_right _ _ (by simp; omega), List.length_take, Nat.min_eq_left (by omega), Nat.add_sub_cancel_left, List.set_append_left _ _ hi, List.length_set]
theorem RowX.marked {w : World} {d g n cap : Nat} {tail : List Value} {l : List Cel} (h : RowX w d g n cap tail l) {i : Nat} (hi : i < l.length) (hm : l[i].m.length < 4) (x : Int) :
    fl cellC (l.set i (addMark l[i] x)) ++ tail = ((Rw.fl cellC l ++ tail).set (i * 10 + (1 + l[i].m.length)) (.int .i32 x)).set (i * 10 + 5) (.int .u8 ((l[i].m.length : Int) + 1)) := by
  have hfit := h.fits (i := i) (by rw [← h.len]; exact hi) l[i]
  have e1 := fl_splice cellC_length l [addMark l[i] x] tail i (by simp; omega)
  have e0 := fl_splice cellC_length l [l[i]] tail i (by simp; omega)
  rw [fl_one, splice_set _ _ _ hi] at e1 e0
  rw [List.set_getElem_self] at e0
  rw [← e1, cellC_add hm, splice_put _ _ _ _ _ (by simpa using hfit) (by simp [cellC_length]), splice_put _ _ _ _ _ hfit (by rw [cellC_length]; omega), e0]
theorem cellC_mark (c : Cel) {k : Nat} (hk : k < 4) : ∃ v, (cellC c)[1 + k]? = some (.int .i32 v) := by
  unfold cellC
  rw [show 1 + k = k + 1 by omega, List.getElem?_cons_succ, List.getElem?_append_left (by simp [pad4_length]; omega), List.getElem?_map, List.getElem?_eq_getElem (by rw [pad4_length]; exact hk)]
  exact ⟨_, rfl⟩

section
variable {w : World} {d g n cap : Nat} {tail : List Value} {l : List Cel}
/-- The place whose marks are meant: of a right half the left half. -/
def joinAt (l : List Cel) (i : Nat) : Nat := if W l i = 2 then i - 1 else i
theorem joinAt_lt {l : List Cel} {i : Nat} (h : i < l.length) : joinAt l i < l.length := by unfold joinAt; split <;> omega
def joinL (l : List Cel) (i : Nat) (x : Int) : List Cel := match l[joinAt l i]? with
  | some c => if c.m.length < 4 then l.set (joinAt l i) (addMark c x) else l
  | none => l
def joinV (l : List Cel) (i : Nat) : Int := match l[joinAt l i]? with
  | some c => if c.m.length < 4 then 0 else 8
  | none => 8

end
end Go.Proofs.YtaoegfdaemmogaaGreat.Rw
