/-
  keys: KeysApart.
-/
import Derived.Test.YtkmedfffmalbgaaDoorKApaM
import Derived.Test.YtkmedfffmalbgaaDoorKLaw1
import Derived.Laws.StructEq
import Derived.DeepKeys
namespace Go.Proofs.YtkmedfffmalbgaaDoor.Kys
open Go Go.RowKit Go.Proofs.YtkmedfffmalbgaaDoor.Com Go.Proofs.YtkmedfffmalbgaaDoor.Mds

theorem rowK : 34 < Tryd.prog.types.size := of_decide_eq_true (by kernel_rfl)
theorem keyK : Tryd.prog.keyType 34 = true := by kernel_rfl
theorem wideK : (match Tryd.prog.underlying 34 with | some (.array _ _) | some (.struct _) => true | _ => false) = true := by kernel_rfl
theorem cK : Tryd.prog.cellsOf 34 = 4 := by kernel_rfl
theorem cU : Tryd.prog.cellsOf 5 = 1 := by kernel_rfl
theorem cR : Tryd.prog.cellsOf 21 = 1 := by kernel_rfl
theorem cI : Tryd.prog.cellsOf 3 = 1 := by kernel_rfl
def litsK (k : Ky) : List Lit := [.int .u8 k.kd, .int .i32 k.r, .int .i64 k.n, .int .u8 k.md]
theorem wf_u8 {n : Int} (h : 0 ≤ n ∧ n ≤ 255) : (Lit.int .u8 n).wf = true := by
  simp [Lit.wf, IntKind.min, IntKind.max, IntKind.signed, IntKind.bits]
  omega
theorem wf_i32 {n : Int} (h : -2147483648 ≤ n ∧ n ≤ 2147483647) : (Lit.int .i32 n).wf = true := by
  simp [Lit.wf, IntKind.min, IntKind.max, IntKind.signed, IntKind.bits]
  omega
theorem wf_i64 {n : Int} (h : -9223372036854775808 ≤ n ∧ n ≤ 9223372036854775807) : (Lit.int .i64 n).wf = true := by
  simp [Lit.wf, IntKind.min, IntKind.max, IntKind.signed, IntKind.bits]
  omega
theorem lits_k (k : Ky) (hk : k.Ok) (D : Nat) : Tryd.prog.keyLits (D + 1 + 1) 34 (kA k).toList = some (litsK k) := by
  simp [cK, wf_u8 hk.kd, wf_i32 hk.r, wf_i64 hk.n, wf_u8 hk.md, Program.keyLits, kA, litsK, Tryd.underlying34, Tryd.underlying5, Tryd.underlying21, Tryd.underlying3, cU, cR, cI]
theorem formed_k (k : Ky) : Value.formed Tryd.prog 34 (.agg (kA k)) = true := by
  simp [Value.formed, kA, Tryd.underlying34, cK]
theorem key_k (k : Ky) (hk : k.Ok) : keyOf Tryd.prog 34 (.agg (kA k)) = some (.string (keyBytes (litsK k))) := by
  obtain ⟨D, hD⟩ : ∃ D, Tryd.prog.types.size + 1 = D + 1 + 1 := ⟨Tryd.prog.types.size - 1, by have := rowK; omega⟩
  have hf := formed_k k
  have hl := lits_k k hk D
  rw [← hD] at hl
  unfold keyOf
  rw [Tryd.underlying34]
  dsimp only
  rw [keyK, hf, if_pos (by rfl)]
  have e : (Value.agg (kA k)).cells.toList = (kA k).toList := rfl
  rw [e, hl]
  rfl
theorem equal_k (a b : Ky) (hoa : a.Ok) (hob : b.Ok) (w : World) : (Op.equalIn 10000 34 (.agg (kA a)) (.agg (kA b))).run Tryd.prog w = .ok (decide (a = b)) w := by
  obtain ⟨r, h1, h2⟩ := run_equal_deep (P := Tryd.prog) w (m := 2) (by omega) (k := 34) (by kernel_rfl) wideK (key_k a hoa) (key_k b hob)
  have hr : r = decide (a = b) := by
    by_cases h : a = b
    · rw [decide_eq_true h, h2, h]
    · rw [decide_eq_false h]
      rcases hr : r with _ | _
      · rfl
      · exfalso
        have h3 := h2.1 hr
        have h4 : litsK a = litsK b := by
          obtain ⟨D, hD⟩ : ∃ D, Tryd.prog.types.size + 1 = D + 1 + 1 := ⟨Tryd.prog.types.size - 1, by have := rowK; omega⟩
          exact keyLits_inj (lits_k a hoa D) (lits_k b hob D) (by simpa using h3)
        apply h
        obtain ⟨x0, x1, x2, x3⟩ := a
        obtain ⟨y0, y1, y2, y3⟩ := b
        simpa [litsK] using h4
  rw [hr] at h1
  exact h1

theorem str_ne {a b : ByteArray} (h : ¬ a = b) : (a.toList == b.toList) = false := by
  refine beq_eq_false_iff_ne.2 fun e => h ?_
  rw [ByteArray.toList_eq, ByteArray.toList_eq] at e
  exact ByteArray.ext (Array.toList_inj.1 e)
/-- The three boxes. -/
structure ABox (W : World) (m : Md) (a b : Ky) (w : World) : Prop where
  mode : MB w W.heap.size m
  fst : KB w (W.heap.size + 1) a
  snd : KB w (W.heap.size + 1 + 1) b
  below : Below W.heap.size W w
theorem ABox.made (w : World) (m : Md) (a b : Ky) : ABox w m a b (((w.alloc (.cells (mA m) 23)).alloc (.cells (kA a) 34)).alloc (.cells (kA b) 34)) := by
  refine ⟨((MB.made w m).alloc _).alloc _, ?_, ?_, below_next (two_below w m a) (below_new _ _)⟩
  · exact (two_k w m a).alloc _
  · have := KB.made ((w.alloc (.cells (mA m) 23)).alloc (.cells (kA a) 34)) b
    simpa using this
theorem ABox.next {W w w' : World} {m : Md} {a b : Ky} (h : ABox W m a b w) (hb : Below w.heap.size w w') : ABox W m a b w' := ⟨h.mode.below hb, h.fst.below hb, h.snd.below hb, below_next h.below hb⟩
theorem ABox.drew {W w : World} {m : Md} {a b : Ky} (h : ABox W m a b w) : ABox W m a b w.drew := ⟨mb_drew h.mode, KB.drew h.fst, KB.drew h.snd, below_drew h.below⟩
set_option maxHeartbeats 4000000 in
theorem apart_other (m : Md) (a b : Ky) (h : a.md ≠ 0 ∨ a.md = 0 ∧ b.md ≠ 0 ∨ a.md = 0 ∧ b.md = 0 ∧ a.kd = 1 ∨ a.md = 0 ∧ b.md = 0 ∧ a.kd ≠ 1 ∧ b.kd = 1) (W : World) (hT : Tab W) : Calls Tryd.prog 5 #[.agg (mA m), .agg (kA a), .agg (kA b)] W (Yes W) := by
  have h0 := Lib.hid (ABox.made W m a b)
  have ca0 := h0.out.fst.c0
  have ca3 := h0.out.fst.c3
  have cb0 := h0.out.snd.c0
  have cb3 := h0.out.snd.c3
  have hk := Lib.hid (known_any _ (hT.below h0.out.below))
  clear hT
  generalize hx0 : a.kd = x0 at *
  generalize hx3 : a.md = x3 at *
  generalize hy0 : b.kd = y0 at *
  generalize hy3 : b.md = y3 at *
  clear hx0 hx3 hy0 hy3
  rcases h with h | ⟨h, h1⟩ | ⟨h, h1, h2⟩ | ⟨h, h1, h2, h3⟩
  all_goals
    try subst h
    try subst h1
    try subst h2
    try subst h3
    go_enter Tryd.func5, Tryd.ntmps5
    go_wp2_with ((go_at_call 8; (with_reducible refine (hk.out).mono ?_); rintro e w1 ⟨rfl, hb1⟩))
    go_ret
    exact ⟨rfl, below_next h0.out.below hb1⟩
set_option maxHeartbeats 4000000 in
theorem apart_no1 (m : Md) (a b : Ky) (ha3 : a.md = 0) (hb3 : b.md = 0) (ha1 : a.kd ≠ 1) (hb1 : b.kd ≠ 1) (hoa : a.Ok) (hma : ¬ a.may) (hB : ∀ w', Tab w' → Calls Tryd.prog 17 #[.agg (mA m), .agg (kA b)] w' fun e w'' => ∃ v x, e = .returned (.tuple #[v, .int .i64 x]) ∧ Below w'.heap.size w' w'') (W : World) (hT : Tab W) : Calls Tryd.prog 5 #[.agg (mA m), .agg (kA a), .agg (kA b)] W (Yes W) := by
  have h0 := Lib.hid (ABox.made W m a b)
  have ca0 := h0.out.fst.c0
  have ca3 := h0.out.fst.c3
  have cb0 := h0.out.snd.c0
  have cb3 := h0.out.snd.c3
  rw [ha3] at ca3
  rw [hb3] at cb3
  have hA := Lib.hid (fun w' => encode_no m a hoa hma w')
  replace hB := Lib.hid hB
  replace hT := Lib.hid hT
  clear ha3 hb3 hoa hma
  generalize hx0 : a.kd = x0 at *
  generalize hy0 : b.kd = y0 at *
  clear hx0 hy0
  have ha1' : (x0 == 1) = false := by simpa using ha1
  have hb1' : (y0 == 1) = false := by simpa using hb1
  go_enter Tryd.func5, Tryd.ntmps5
  go_wp2_with (first
    | (with_reducible show wpList _ _ _ (⟨some 31, .load _ (.tmp 3), _, _, _, _⟩ :: _) _ _; go_must (refine wpList_load_m rfl (.tmp 3) rfl rfl h0.out.mode ?_))
    | (with_reducible show wpList _ _ _ (⟨some 32, .load _ (.tmp 4), _, _, _, _⟩ :: _) _ _; go_must (refine wpList_load_k rfl (.tmp 4) rfl rfl h0.out.fst ?_))
    | (go_at_call 17; (with_reducible refine (hA.out _).mono ?_); rintro e w1 ⟨rfl, hc1⟩; have h1 := Lib.hid (h0.out.next hc1); clear hc1 h0 hA)
    | (with_reducible show wpList _ _ _ (⟨some 37, .load _ (.tmp 3), _, _, _, _⟩ :: _) _ _; go_must (refine wpList_load_m rfl (.tmp 3) rfl rfl h1.out.mode ?_))
    | (with_reducible show wpList _ _ _ (⟨some 38, .load _ (.tmp 5), _, _, _, _⟩ :: _) _ _; go_must (refine wpList_load_k rfl (.tmp 5) rfl rfl h1.out.snd ?_))
    | (go_at_call 17; (with_reducible refine (hB.out _ (hT.out.below h1.out.below)).mono ?_); rintro e w2 ⟨v2, x2, rfl, hc2⟩; have h2 := Lib.hid (h1.out.next hc2); clear hc2 h1))
  go_ret
  exact ⟨rfl, h2.out.below⟩
set_option maxHeartbeats 4000000 in
theorem apart_no2 (m : Md) (a b : Ky) (ha3 : a.md = 0) (hb3 : b.md = 0) (ha1 : a.kd ≠ 1) (hb1 : b.kd ≠ 1) (hoa : a.Ok) (hob : b.Ok) (hma : a.may) (hmb : ¬ b.may) (W : World) (hT : Tab W) : Calls Tryd.prog 5 #[.agg (mA m), .agg (kA a), .agg (kA b)] W (Yes W) := by
  have h0 := Lib.hid (ABox.made W m a b)
  have ca0 := h0.out.fst.c0
  have ca3 := h0.out.fst.c3
  have cb0 := h0.out.snd.c0
  have cb3 := h0.out.snd.c3
  rw [ha3] at ca3
  rw [hb3] at cb3
  have hlen := (lit_len m.a2 m.a1 a (all_k hma ha3 ha1)).1
  have hA := fun w' hT' => encode_yes m a hoa hma w' hT'
  rw [enc_lit m.a2 m.a1 hma ha3] at hA
  obtain ⟨X, hX⟩ : ∃ X, X = litK m.a2 m.a1 a := ⟨_, rfl⟩
  rw [← hX] at hA hlen
  replace hA := Lib.hid hA
  have hB := Lib.hid (fun w' => encode_no m b hob hmb w')
  have hl' : ((X.length : Int) == 0) = false := by
    have hx0 : ¬ (X.length : Int) = 0 := by omega
    simpa using hx0
  replace hT := Lib.hid hT
  clear ha3 hb3 hoa hma hob hmb hlen hX
  generalize hx0 : a.kd = x0 at *
  generalize hy0 : b.kd = y0 at *
  clear hx0 hy0
  have ha1' : (x0 == 1) = false := by simpa using ha1
  have hb1' : (y0 == 1) = false := by simpa using hb1
  go_enter Tryd.func5, Tryd.ntmps5
  go_wp2_with (first
    | (with_reducible show wpList _ _ _ (⟨some 31, .load _ (.tmp 3), _, _, _, _⟩ :: _) _ _; go_must (refine wpList_load_m rfl (.tmp 3) rfl rfl h0.out.mode ?_))
    | (with_reducible show wpList _ _ _ (⟨some 32, .load _ (.tmp 4), _, _, _, _⟩ :: _) _ _; go_must (refine wpList_load_k rfl (.tmp 4) rfl rfl h0.out.fst ?_))
    | (go_at_call 17; (with_reducible refine (hA.out _ (hT.out.below h0.out.below)).mono ?_); rintro e w1 ⟨v1, rfl, hr1, hc1⟩; obtain ⟨a1, c1, rfl, _, _, _⟩ := hr1.shape; have h1 := Lib.hid (h0.out.next hc1); clear hc1 h0 hA hr1)
    | (with_reducible show wpList _ _ _ (⟨some 37, .load _ (.tmp 3), _, _, _, _⟩ :: _) _ _; go_must (refine wpList_load_m rfl (.tmp 3) rfl rfl h1.out.mode ?_))
    | (with_reducible show wpList _ _ _ (⟨some 38, .load _ (.tmp 5), _, _, _, _⟩ :: _) _ _; go_must (refine wpList_load_k rfl (.tmp 5) rfl rfl h1.out.snd ?_))
    | (go_at_call 17; (with_reducible refine (hB.out _).mono ?_); rintro e w2 ⟨rfl, hc2⟩; have h2 := Lib.hid (h1.out.next hc2); clear hc2 h1)
    | (go_at_call 8; (with_reducible refine (known_any _ (hT.out.below h2.out.below)).mono ?_); rintro e w3 ⟨rfl, hc3⟩))
  go_ret
  exact ⟨rfl, below_next h2.out.below hc3⟩
set_option maxHeartbeats 8000000 in
theorem apart_same (m : Md) (a : Ky) (ha3 : a.md = 0) (ha1 : a.kd ≠ 1) (hoa : a.Ok) (hma : a.may) (W : World) (hT : Tab W) : Calls Tryd.prog 5 #[.agg (mA m), .agg (kA a), .agg (kA a)] W (Yes W) := by
  have h0 := Lib.hid (ABox.made W m a a)
  have ca0 := h0.out.fst.c0
  have ca3 := h0.out.fst.c3
  have cb0 := h0.out.snd.c0
  have cb3 := h0.out.snd.c3
  rw [ha3] at ca3
  rw [ha3] at cb3
  have hlen := lit_len m.a2 m.a1 a (all_k hma ha3 ha1)
  have hA := fun w' hT' => encode_yes m a hoa hma w' hT'
  rw [enc_lit m.a2 m.a1 hma ha3] at hA
  have heq := fun w' => equal_k a a hoa hoa w'
  rw [decide_eq_true rfl] at heq
  obtain ⟨X, hX⟩ : ∃ X, X = litK m.a2 m.a1 a := ⟨_, rfl⟩
  rw [← hX] at hA hlen
  replace hA := Lib.hid hA
  have hl1 : (1 : Int) ≤ (X.length : Int) := by omega
  have hl8 : (X.length : Int) ≤ 8 := by omega
  replace hT := Lib.hid hT
  clear ha3 hoa hma hlen hX
  skip
  obtain ⟨x0, x1, x2, x3⟩ := a
  replace heq : ∀ w', (Op.equalIn 10000 34 (.agg #[.int .u8 x0, .int .i32 x1, .int .i64 x2, .int .u8 x3]) (.agg #[.int .u8 x0, .int .i32 x1, .int .i64 x2, .int .u8 x3])).run Tryd.prog w' = .ok true w' := heq
  dsimp only at ca0 ca3 cb0 cb3 ha1
  have ha1' : (x0 == 1) = false := by simpa using ha1
  go_enter Tryd.func5, Tryd.ntmps5
  go_wp2_with (first
    | (with_reducible show wpList _ _ _ (⟨some 31, .load _ (.tmp 3), _, _, _, _⟩ :: _) _ _; go_must (refine wpList_load_m rfl (.tmp 3) rfl rfl h0.out.mode ?_))
    | (with_reducible show wpList _ _ _ (⟨some 32, .load _ (.tmp 4), _, _, _, _⟩ :: _) _ _; go_must (refine wpList_load_k rfl (.tmp 4) rfl rfl h0.out.fst ?_))
    | (go_at_call 17; (with_reducible refine (hA.out _ (hT.out.below h0.out.below)).mono ?_); rintro e w1 ⟨v1, rfl, hr1, hc1⟩; obtain ⟨a1, c1, rfl, _, _, hn1⟩ := hr1.shape; replace hn1 := Lib.hid hn1; have h1 := Lib.hid (h0.out.next hc1); clear hc1 h0 hr1)
    | (with_reducible show wpList _ _ _ (⟨some 37, .load _ (.tmp 3), _, _, _, _⟩ :: _) _ _; go_must (refine wpList_load_m rfl (.tmp 3) rfl rfl h1.out.mode ?_))
    | (with_reducible show wpList _ _ _ (⟨some 38, .load _ (.tmp 5), _, _, _, _⟩ :: _) _ _; go_must (refine wpList_load_k rfl (.tmp 5) rfl rfl h1.out.snd ?_))
    | (go_at_call 17; (with_reducible refine (hA.out _ (hT.out.below h1.out.below)).mono ?_); rintro e w2 ⟨v2, rfl, hr2, hc2⟩; obtain ⟨a2, c2, rfl, _, _, hn2⟩ := hr2.shape; replace hn2 := Lib.hid (nums_drew hn2); have hn3 := Lib.hid (nums_drew (nums_next hn1.out hc2)); have h2 := Lib.hid (h1.out.next hc2).drew; clear hc2 h1 hr2 hn1))
  refine wp_region_held_drew (S := fun w' => ((convert 26 9 (.slice a1 X.length c1)).run Tryd.prog w' = .ok (.string (strOfNums X)) w') ∧ ((convert 26 9 (.slice a2 X.length c2)).run Tryd.prog w' = .ok (.string (strOfNums X)) w') ∧ w'.cell? ⟨W.heap.size + 1, 0, none⟩ = some (.int .u8 x0) ∧ w'.cell? ⟨W.heap.size + 1, 1, none⟩ = some (.int .i32 x1) ∧ w'.cell? ⟨W.heap.size + 1, 2, none⟩ = some (.int .i64 x2) ∧ w'.cell? ⟨W.heap.size + 1, 3, none⟩ = some (.int .u8 x3) ∧ w'.cell? ⟨W.heap.size + 1 + 1, 0, none⟩ = some (.int .u8 x0) ∧ w'.cell? ⟨W.heap.size + 1 + 1, 1, none⟩ = some (.int .i32 x1) ∧ w'.cell? ⟨W.heap.size + 1 + 1, 2, none⟩ = some (.int .i64 x2) ∧ w'.cell? ⟨W.heap.size + 1 + 1, 3, none⟩ = some (.int .u8 x3)) (by kernel_rfl) (by exact ⟨text_of hn3.out c1, text_of hn2.out c2, h2.out.fst.c0, h2.out.fst.c1, h2.out.fst.c2, h2.out.fst.c3, h2.out.snd.c0, h2.out.snd.c1, h2.out.snd.c2, h2.out.snd.c3⟩) (fun hH => ?_)
  refine wpAnyH_take (i := 0) (oi := ⟨some 58, _, _, _, _, _⟩) (v := ?_) rfl (by kernel_rfl) (by kernel_rfl) (by kernel_rfl) (fun _ _ _ h => h) (Or.inl ⟨by rfl, ?_⟩) hH ?_
  rotate_left 1
  · (intro w hSw; (try dsimp only at hSw); go_simp) <;> with_reducible rfl
  try simp only [Act.put, List.setIfInBounds_toArray, List.set_cons_zero, List.set_cons_succ]
  refine wpAnyH_take (i := 1) (oi := ⟨some 59, _, _, _, _, _⟩) (v := ?_) rfl (by kernel_rfl) (by kernel_rfl) (by kernel_rfl) (fun _ _ _ h => h) (Or.inl ⟨by rfl, ?_⟩) hH ?_
  rotate_left 1
  · (intro w hSw; (try dsimp only at hSw); go_simp) <;> with_reducible rfl
  try simp only [Act.put, List.setIfInBounds_toArray, List.set_cons_zero, List.set_cons_succ]
  refine wpAnyH_take (i := 2) (oi := ⟨some 60, _, _, _, _, _⟩) (v := ?_) rfl (by kernel_rfl) (by kernel_rfl) (by kernel_rfl) (fun _ _ _ h => h) (Or.inl ⟨by rfl, ?_⟩) hH ?_
  rotate_left 1
  · (intro w hSw; (try dsimp only at hSw); go_simp) <;> with_reducible rfl
  try simp only [Act.put, List.setIfInBounds_toArray, List.set_cons_zero, List.set_cons_succ]
  refine wpAnyH_take (i := 3) (oi := ⟨some 61, _, _, _, _, _⟩) (v := ?_) rfl (by kernel_rfl) (by kernel_rfl) (by kernel_rfl) (fun _ _ _ h => h) (Or.inl ⟨by rfl, ?_⟩) hH ?_
  rotate_left 1
  · (intro w hSw; (try dsimp only at hSw); go_simp) <;> with_reducible rfl
  try simp only [Act.put, List.setIfInBounds_toArray, List.set_cons_zero, List.set_cons_succ]
  refine wpAnyH_take (i := 4) (oi := ⟨some 62, _, _, _, _, _⟩) (v := ?_) rfl (by kernel_rfl) (by kernel_rfl) (by kernel_rfl) (fun _ _ _ h => h) (Or.inl ⟨by rfl, ?_⟩) hH ?_
  rotate_left 1
  · (intro w hSw; (try dsimp only at hSw); go_simp) <;> with_reducible rfl
  try simp only [Act.put, List.setIfInBounds_toArray, List.set_cons_zero, List.set_cons_succ]
  refine wpAnyH_take (i := 5) (oi := ⟨some 63, _, _, _, _, _⟩) (v := ?_) rfl (by kernel_rfl) (by kernel_rfl) (by kernel_rfl) (fun _ _ _ h => h) (Or.inl ⟨by rfl, ?_⟩) hH ?_
  rotate_left 1
  · (intro w hSw; (try dsimp only at hSw); go_simp) <;> with_reducible rfl
  try simp only [Act.put, List.setIfInBounds_toArray, List.set_cons_zero, List.set_cons_succ]
  refine wpAnyH_take (i := 6) (oi := ⟨some 64, _, _, _, _, _⟩) (v := ?_) rfl (by kernel_rfl) (by kernel_rfl) (by kernel_rfl) (fun _ _ _ h => h) (Or.inl ⟨by rfl, ?_⟩) hH ?_
  rotate_left 1
  · (intro w hSw; (try dsimp only at hSw); go_simp) <;> with_reducible rfl
  try simp only [Act.put, List.setIfInBounds_toArray, List.set_cons_zero, List.set_cons_succ]
  refine wpAnyH_take (i := 7) (oi := ⟨some 65, _, _, _, _, _⟩) (v := ?_) rfl (by kernel_rfl) (by kernel_rfl) (by kernel_rfl) (fun _ _ _ h => h) (Or.inl ⟨by rfl, ?_⟩) hH ?_
  rotate_left 1
  · (intro w hSw; (try dsimp only at hSw); go_simp) <;> with_reducible rfl
  try simp only [Act.put, List.setIfInBounds_toArray, List.set_cons_zero, List.set_cons_succ]
  refine wpAnyH_take (i := 8) (oi := ⟨some 66, _, _, _, _, _⟩) (v := ?_) rfl (by kernel_rfl) (by kernel_rfl) (by kernel_rfl) (fun _ _ _ h => h) (Or.inl ⟨by rfl, ?_⟩) hH ?_
  rotate_left 1
  · (intro w hSw; (try dsimp only at hSw); go_simp) <;> with_reducible rfl
  try simp only [Act.put, List.setIfInBounds_toArray, List.set_cons_zero, List.set_cons_succ]
  refine wpAnyH_take (i := 9) (oi := ⟨some 67, _, _, _, _, _⟩) (v := ?_) rfl (by kernel_rfl) (by kernel_rfl) (by kernel_rfl) (fun _ _ _ h => h) (Or.inl ⟨by rfl, ?_⟩) hH ?_
  rotate_left 1
  · (intro w hSw; (try dsimp only at hSw); go_simp) <;> with_reducible rfl
  try simp only [Act.put, List.setIfInBounds_toArray, List.set_cons_zero, List.set_cons_succ]
  refine wpAnyH_take (i := 10) (oi := ⟨some 68, _, _, _, _, _⟩) (v := ?_) rfl (by kernel_rfl) (by kernel_rfl) (by kernel_rfl) (fun _ _ _ h => h) (Or.inl ⟨by rfl, ?_⟩) hH ?_
  rotate_left 1
  · (intro w hSw; (try dsimp only at hSw); go_simp) <;> with_reducible rfl
  try simp only [Act.put, List.setIfInBounds_toArray, List.set_cons_zero, List.set_cons_succ]
  refine wpAnyH_take (i := 11) (oi := ⟨some 69, _, _, _, _, _⟩) (v := ?_) rfl (by kernel_rfl) (by kernel_rfl) (by kernel_rfl) (fun _ _ _ h => h) (Or.inl ⟨by rfl, ?_⟩) hH ?_
  rotate_left 1
  · (intro w hSw; (try dsimp only at hSw); go_simp) <;> with_reducible rfl
  try simp only [Act.put, List.setIfInBounds_toArray, List.set_cons_zero, List.set_cons_succ]
  refine wpAnyH_take (i := 12) (oi := ⟨some 70, _, _, _, _, _⟩) (v := ?_) rfl (by kernel_rfl) (by kernel_rfl) (by kernel_rfl) (fun _ _ _ h => h) (Or.inl ⟨by rfl, ?_⟩) hH ?_
  rotate_left 1
  · (intro w hSw; (try dsimp only at hSw); go_simp) <;> with_reducible rfl
  try simp only [Act.put, List.setIfInBounds_toArray, List.set_cons_zero, List.set_cons_succ]
  refine wpAnyH_take (i := 13) (oi := ⟨some 71, _, _, _, _, _⟩) (v := ?_) rfl (by kernel_rfl) (by kernel_rfl) (by kernel_rfl) (fun _ _ _ h => h) (Or.inl ⟨by rfl, ?_⟩) hH ?_
  rotate_left 1
  · (intro w hSw; (try dsimp only at hSw); go_simp) <;> with_reducible rfl
  try simp only [Act.put, List.setIfInBounds_toArray, List.set_cons_zero, List.set_cons_succ]
  refine wpAnyH_take (i := 14) (oi := ⟨some 72, _, _, _, _, _⟩) (v := ?_) rfl (by kernel_rfl) (by kernel_rfl) (by kernel_rfl) (fun _ _ _ h => h) (Or.inl ⟨by rfl, ?_⟩) hH ?_
  rotate_left 1
  · (intro w hSw; (try dsimp only at hSw); go_simp) <;> with_reducible rfl
  try simp only [Act.put, List.setIfInBounds_toArray, List.set_cons_zero, List.set_cons_succ]
  refine wpAnyH_take (i := 15) (oi := ⟨some 73, _, _, _, _, _⟩) (v := ?_) rfl (by kernel_rfl) (by kernel_rfl) (by kernel_rfl) (fun _ _ _ h => h) (Or.inl ⟨by rfl, ?_⟩) hH ?_
  rotate_left 1
  · (intro w hSw; (try dsimp only at hSw); go_simp) <;> with_reducible rfl
  try simp only [Act.put, List.setIfInBounds_toArray, List.set_cons_zero, List.set_cons_succ]
  refine wpAnyH_take (i := 16) (oi := ⟨some 74, _, _, _, _, _⟩) (v := ?_) rfl (by kernel_rfl) (by kernel_rfl) (by kernel_rfl) (fun _ _ _ h => h) (Or.inl ⟨by rfl, ?_⟩) hH ?_
  rotate_left 1
  · (intro w hSw; (try dsimp only at hSw); go_simp) <;> with_reducible rfl
  try simp only [Act.put, List.setIfInBounds_toArray, List.set_cons_zero, List.set_cons_succ]
  refine wpAnyH_take (i := 17) (oi := ⟨some 75, _, _, _, _, _⟩) (v := ?_) rfl (by kernel_rfl) (by kernel_rfl) (by kernel_rfl) (fun _ _ _ h => h) (Or.inl ⟨by rfl, ?_⟩) hH ?_
  rotate_left 1
  · (intro w hSw; (try dsimp only at hSw); go_simp) <;> with_reducible rfl
  try simp only [Act.put, List.setIfInBounds_toArray, List.set_cons_zero, List.set_cons_succ]
  refine wpAnyH_take (i := 18) (oi := ⟨some 76, _, _, _, _, _⟩) (v := ?_) rfl (by kernel_rfl) (by kernel_rfl) (by kernel_rfl) (fun _ _ _ h => h) (Or.inl ⟨by rfl, ?_⟩) hH ?_
  rotate_left 1
  · (intro w hSw; (try dsimp only at hSw); go_simp) <;> with_reducible rfl
  try simp only [Act.put, List.setIfInBounds_toArray, List.set_cons_zero, List.set_cons_succ]
  refine wpAnyH_take (i := 19) (oi := ⟨some 77, _, _, _, _, _⟩) (v := ?_) rfl (by kernel_rfl) (by kernel_rfl) (by kernel_rfl) (fun _ _ _ h => h) (Or.inl ⟨by rfl, ?_⟩) hH ?_
  rotate_left 1
  · (intro w hSw; (try dsimp only at hSw); go_simp) <;> with_reducible rfl
  try simp only [Act.put, List.setIfInBounds_toArray, List.set_cons_zero, List.set_cons_succ]
  refine wpAnyH_ready (rs := [20]) (by kernel_rfl) (by simp) ?_
  refine AllReadyH.cons (o := ⟨some 78, _, _, _, _, _⟩) rfl (fun K hK => ?_) AllReadyH.nil
  go_simp
  go_at_call 8; refine (known_any _ (hT.out.below h2.out.below)).mono ?_; rintro e w3 ⟨rfl, hc3⟩
  refine hK.out _ _ (by exact ⟨text_of (nums_next hn3.out hc3) c1, text_of (nums_next hn2.out hc3) c2, (h2.out.next hc3).fst.c0, (h2.out.next hc3).fst.c1, (h2.out.next hc3).fst.c2, (h2.out.next hc3).fst.c3, (h2.out.next hc3).snd.c0, (h2.out.next hc3).snd.c1, (h2.out.next hc3).snd.c2, (h2.out.next hc3).snd.c3⟩) (fun hH => ?_)
  clear hK K
  try simp only [Act.put, List.setIfInBounds_toArray, List.set_cons_zero, List.set_cons_succ]
  refine wpAnyH_take (i := 21) (oi := ⟨some 79, _, _, _, _, _⟩) (v := ?_) rfl (by kernel_rfl) (by kernel_rfl) (by kernel_rfl) (fun _ _ _ h => h) (Or.inl ⟨by rfl, ?_⟩) hH ?_
  rotate_left 1
  · (intro w hSw; (try dsimp only at hSw); go_simp) <;> with_reducible rfl
  try simp only [Act.put, List.setIfInBounds_toArray, List.set_cons_zero, List.set_cons_succ]
  refine wpAnyH_take (i := 22) (oi := ⟨some 6, _, _, _, _, _⟩) (v := ?_) rfl (by kernel_rfl) (by kernel_rfl) (by kernel_rfl) (fun _ _ _ h => h) (Or.inl ⟨by rfl, ?_⟩) hH ?_
  rotate_left 1
  · (intro w hSw; (try dsimp only at hSw); go_simp) <;> with_reducible rfl
  try simp only [Act.put, List.setIfInBounds_toArray, List.set_cons_zero, List.set_cons_succ]
  refine wpAnyH_done (by kernel_rfl) ?_ _
  go_wp2
  go_ret
  exact ⟨rfl, (h2.out.next hc3).below⟩
set_option maxHeartbeats 8000000 in
theorem apart_two (m : Md) (a b : Ky) (hab : a ≠ b) (ha3 : a.md = 0) (hb3 : b.md = 0) (ha1 : a.kd ≠ 1) (hb1 : b.kd ≠ 1) (hoa : a.Ok) (hob : b.Ok) (hma : a.may) (hmb : b.may) (W : World) (hT : Tab W) : Calls Tryd.prog 5 #[.agg (mA m), .agg (kA a), .agg (kA b)] W (Yes W) := by
  have h0 := Lib.hid (ABox.made W m a b)
  have ca0 := h0.out.fst.c0
  have ca3 := h0.out.fst.c3
  have cb0 := h0.out.snd.c0
  have cb3 := h0.out.snd.c3
  rw [ha3] at ca3
  rw [hb3] at cb3
  have hlen := lit_len m.a2 m.a1 a (all_k hma ha3 ha1)
  have hA := fun w' hT' => encode_yes m a hoa hma w' hT'
  rw [enc_lit m.a2 m.a1 hma ha3] at hA
  have hB := fun w' hT' => encode_yes m b hob hmb w' hT'
  rw [enc_lit m.a2 m.a1 hmb hb3] at hB
  have hne : ¬ strOfNums (litK m.a2 m.a1 a) = strOfNums (litK m.a2 m.a1 b) := fun h => hab (lit_inj (all_k hma ha3 ha1) (all_k hmb hb3 hb1) (str_inj (lit_byte m.a2 m.a1 a (all_k hma ha3 ha1)) (lit_byte m.a2 m.a1 b (all_k hmb hb3 hb1)) h))
  have heq := fun w' => equal_k a b hoa hob w'
  rw [decide_eq_false hab] at heq
  obtain ⟨Y, hY⟩ : ∃ Y, Y = litK m.a2 m.a1 b := ⟨_, rfl⟩
  rw [← hY] at hB hne
  replace hB := Lib.hid hB
  obtain ⟨X, hX⟩ : ∃ X, X = litK m.a2 m.a1 a := ⟨_, rfl⟩
  rw [← hX] at hA hlen hne
  replace hA := Lib.hid hA
  have hl1 : (1 : Int) ≤ (X.length : Int) := by omega
  have hl8 : (X.length : Int) ≤ 8 := by omega
  replace hT := Lib.hid hT
  clear ha3 hoa hma hlen hX hY hb3 hob hmb hab
  have hq2 : ((strOfNums X).toList == (strOfNums Y).toList) = false := str_ne hne
  clear hne
  obtain ⟨x0, x1, x2, x3⟩ := a
  obtain ⟨y0, y1, y2, y3⟩ := b
  replace heq : ∀ w', (Op.equalIn 10000 34 (.agg #[.int .u8 x0, .int .i32 x1, .int .i64 x2, .int .u8 x3]) (.agg #[.int .u8 y0, .int .i32 y1, .int .i64 y2, .int .u8 y3])).run Tryd.prog w' = .ok false w' := heq
  dsimp only at ca0 ca3 cb0 cb3 ha1 hb1
  have ha1' : (x0 == 1) = false := by simpa using ha1
  have hb1' : (y0 == 1) = false := by simpa using hb1
  go_enter Tryd.func5, Tryd.ntmps5
  go_wp2_with (first
    | (with_reducible show wpList _ _ _ (⟨some 31, .load _ (.tmp 3), _, _, _, _⟩ :: _) _ _; go_must (refine wpList_load_m rfl (.tmp 3) rfl rfl h0.out.mode ?_))
    | (with_reducible show wpList _ _ _ (⟨some 32, .load _ (.tmp 4), _, _, _, _⟩ :: _) _ _; go_must (refine wpList_load_k rfl (.tmp 4) rfl rfl h0.out.fst ?_))
    | (go_at_call 17; (with_reducible refine (hA.out _ (hT.out.below h0.out.below)).mono ?_); rintro e w1 ⟨v1, rfl, hr1, hc1⟩; obtain ⟨a1, c1, rfl, _, _, hn1⟩ := hr1.shape; replace hn1 := Lib.hid hn1; have h1 := Lib.hid (h0.out.next hc1); clear hc1 h0 hr1)
    | (with_reducible show wpList _ _ _ (⟨some 37, .load _ (.tmp 3), _, _, _, _⟩ :: _) _ _; go_must (refine wpList_load_m rfl (.tmp 3) rfl rfl h1.out.mode ?_))
    | (with_reducible show wpList _ _ _ (⟨some 38, .load _ (.tmp 5), _, _, _, _⟩ :: _) _ _; go_must (refine wpList_load_k rfl (.tmp 5) rfl rfl h1.out.snd ?_))
    | (go_at_call 17; (with_reducible refine (hB.out _ (hT.out.below h1.out.below)).mono ?_); rintro e w2 ⟨v2, rfl, hr2, hc2⟩; obtain ⟨a2, c2, rfl, _, _, hn2⟩ := hr2.shape; replace hn2 := Lib.hid (nums_drew hn2); have hn3 := Lib.hid (nums_drew (nums_next hn1.out hc2)); have h2 := Lib.hid (h1.out.next hc2).drew; clear hc2 h1 hr2 hn1))
  refine wp_region_held_drew (S := fun w' => ((convert 26 9 (.slice a1 X.length c1)).run Tryd.prog w' = .ok (.string (strOfNums X)) w') ∧ ((convert 26 9 (.slice a2 Y.length c2)).run Tryd.prog w' = .ok (.string (strOfNums Y)) w') ∧ w'.cell? ⟨W.heap.size + 1, 0, none⟩ = some (.int .u8 x0) ∧ w'.cell? ⟨W.heap.size + 1, 1, none⟩ = some (.int .i32 x1) ∧ w'.cell? ⟨W.heap.size + 1, 2, none⟩ = some (.int .i64 x2) ∧ w'.cell? ⟨W.heap.size + 1, 3, none⟩ = some (.int .u8 x3) ∧ w'.cell? ⟨W.heap.size + 1 + 1, 0, none⟩ = some (.int .u8 y0) ∧ w'.cell? ⟨W.heap.size + 1 + 1, 1, none⟩ = some (.int .i32 y1) ∧ w'.cell? ⟨W.heap.size + 1 + 1, 2, none⟩ = some (.int .i64 y2) ∧ w'.cell? ⟨W.heap.size + 1 + 1, 3, none⟩ = some (.int .u8 y3)) (by kernel_rfl) (by exact ⟨text_of hn3.out c1, text_of hn2.out c2, h2.out.fst.c0, h2.out.fst.c1, h2.out.fst.c2, h2.out.fst.c3, h2.out.snd.c0, h2.out.snd.c1, h2.out.snd.c2, h2.out.snd.c3⟩) (fun hH => ?_)
  refine wpAnyH_take (i := 0) (oi := ⟨some 58, _, _, _, _, _⟩) (v := ?_) rfl (by kernel_rfl) (by kernel_rfl) (by kernel_rfl) (fun _ _ _ h => h) (Or.inl ⟨by rfl, ?_⟩) hH ?_
  rotate_left 1
  · (intro w hSw; (try dsimp only at hSw); go_simp) <;> with_reducible rfl
  try simp only [Act.put, List.setIfInBounds_toArray, List.set_cons_zero, List.set_cons_succ]
  refine wpAnyH_take (i := 1) (oi := ⟨some 59, _, _, _, _, _⟩) (v := ?_) rfl (by kernel_rfl) (by kernel_rfl) (by kernel_rfl) (fun _ _ _ h => h) (Or.inl ⟨by rfl, ?_⟩) hH ?_
  rotate_left 1
  · (intro w hSw; (try dsimp only at hSw); go_simp) <;> with_reducible rfl
  try simp only [Act.put, List.setIfInBounds_toArray, List.set_cons_zero, List.set_cons_succ]
  refine wpAnyH_take (i := 2) (oi := ⟨some 60, _, _, _, _, _⟩) (v := ?_) rfl (by kernel_rfl) (by kernel_rfl) (by kernel_rfl) (fun _ _ _ h => h) (Or.inl ⟨by rfl, ?_⟩) hH ?_
  rotate_left 1
  · (intro w hSw; (try dsimp only at hSw); go_simp) <;> with_reducible rfl
  try simp only [Act.put, List.setIfInBounds_toArray, List.set_cons_zero, List.set_cons_succ]
  refine wpAnyH_take (i := 3) (oi := ⟨some 61, _, _, _, _, _⟩) (v := ?_) rfl (by kernel_rfl) (by kernel_rfl) (by kernel_rfl) (fun _ _ _ h => h) (Or.inl ⟨by rfl, ?_⟩) hH ?_
  rotate_left 1
  · (intro w hSw; (try dsimp only at hSw); go_simp) <;> with_reducible rfl
  try simp only [Act.put, List.setIfInBounds_toArray, List.set_cons_zero, List.set_cons_succ]
  refine wpAnyH_take (i := 4) (oi := ⟨some 62, _, _, _, _, _⟩) (v := ?_) rfl (by kernel_rfl) (by kernel_rfl) (by kernel_rfl) (fun _ _ _ h => h) (Or.inl ⟨by rfl, ?_⟩) hH ?_
  rotate_left 1
  · (intro w hSw; (try dsimp only at hSw); go_simp) <;> with_reducible rfl
  try simp only [Act.put, List.setIfInBounds_toArray, List.set_cons_zero, List.set_cons_succ]
  refine wpAnyH_take (i := 5) (oi := ⟨some 63, _, _, _, _, _⟩) (v := ?_) rfl (by kernel_rfl) (by kernel_rfl) (by kernel_rfl) (fun _ _ _ h => h) (Or.inl ⟨by rfl, ?_⟩) hH ?_
  rotate_left 1
  · (intro w hSw; (try dsimp only at hSw); go_simp) <;> with_reducible rfl
  try simp only [Act.put, List.setIfInBounds_toArray, List.set_cons_zero, List.set_cons_succ]
  refine wpAnyH_take (i := 6) (oi := ⟨some 64, _, _, _, _, _⟩) (v := ?_) rfl (by kernel_rfl) (by kernel_rfl) (by kernel_rfl) (fun _ _ _ h => h) (Or.inl ⟨by rfl, ?_⟩) hH ?_
  rotate_left 1
  · (intro w hSw; (try dsimp only at hSw); go_simp) <;> with_reducible rfl
  try simp only [Act.put, List.setIfInBounds_toArray, List.set_cons_zero, List.set_cons_succ]
  refine wpAnyH_take (i := 7) (oi := ⟨some 65, _, _, _, _, _⟩) (v := ?_) rfl (by kernel_rfl) (by kernel_rfl) (by kernel_rfl) (fun _ _ _ h => h) (Or.inl ⟨by rfl, ?_⟩) hH ?_
  rotate_left 1
  · (intro w hSw; (try dsimp only at hSw); go_simp) <;> with_reducible rfl
  try simp only [Act.put, List.setIfInBounds_toArray, List.set_cons_zero, List.set_cons_succ]
  refine wpAnyH_take (i := 8) (oi := ⟨some 66, _, _, _, _, _⟩) (v := ?_) rfl (by kernel_rfl) (by kernel_rfl) (by kernel_rfl) (fun _ _ _ h => h) (Or.inl ⟨by rfl, ?_⟩) hH ?_
  rotate_left 1
  · (intro w hSw; (try dsimp only at hSw); go_simp) <;> with_reducible rfl
  try simp only [Act.put, List.setIfInBounds_toArray, List.set_cons_zero, List.set_cons_succ]
  refine wpAnyH_take (i := 9) (oi := ⟨some 67, _, _, _, _, _⟩) (v := ?_) rfl (by kernel_rfl) (by kernel_rfl) (by kernel_rfl) (fun _ _ _ h => h) (Or.inl ⟨by rfl, ?_⟩) hH ?_
  rotate_left 1
  · (intro w hSw; (try dsimp only at hSw); go_simp) <;> with_reducible rfl
  try simp only [Act.put, List.setIfInBounds_toArray, List.set_cons_zero, List.set_cons_succ]
  refine wpAnyH_take (i := 10) (oi := ⟨some 68, _, _, _, _, _⟩) (v := ?_) rfl (by kernel_rfl) (by kernel_rfl) (by kernel_rfl) (fun _ _ _ h => h) (Or.inl ⟨by rfl, ?_⟩) hH ?_
  rotate_left 1
  · (intro w hSw; (try dsimp only at hSw); go_simp) <;> with_reducible rfl
  try simp only [Act.put, List.setIfInBounds_toArray, List.set_cons_zero, List.set_cons_succ]
  refine wpAnyH_take (i := 11) (oi := ⟨some 69, _, _, _, _, _⟩) (v := ?_) rfl (by kernel_rfl) (by kernel_rfl) (by kernel_rfl) (fun _ _ _ h => h) (Or.inl ⟨by rfl, ?_⟩) hH ?_
  rotate_left 1
  · (intro w hSw; (try dsimp only at hSw); go_simp) <;> with_reducible rfl
  try simp only [Act.put, List.setIfInBounds_toArray, List.set_cons_zero, List.set_cons_succ]
  refine wpAnyH_take (i := 12) (oi := ⟨some 70, _, _, _, _, _⟩) (v := ?_) rfl (by kernel_rfl) (by kernel_rfl) (by kernel_rfl) (fun _ _ _ h => h) (Or.inl ⟨by rfl, ?_⟩) hH ?_
  rotate_left 1
  · (intro w hSw; (try dsimp only at hSw); go_simp) <;> with_reducible rfl
  try simp only [Act.put, List.setIfInBounds_toArray, List.set_cons_zero, List.set_cons_succ]
  refine wpAnyH_take (i := 13) (oi := ⟨some 71, _, _, _, _, _⟩) (v := ?_) rfl (by kernel_rfl) (by kernel_rfl) (by kernel_rfl) (fun _ _ _ h => h) (Or.inl ⟨by rfl, ?_⟩) hH ?_
  rotate_left 1
  · (intro w hSw; (try dsimp only at hSw); go_simp) <;> with_reducible rfl
  try simp only [Act.put, List.setIfInBounds_toArray, List.set_cons_zero, List.set_cons_succ]
  refine wpAnyH_take (i := 14) (oi := ⟨some 72, _, _, _, _, _⟩) (v := ?_) rfl (by kernel_rfl) (by kernel_rfl) (by kernel_rfl) (fun _ _ _ h => h) (Or.inl ⟨by rfl, ?_⟩) hH ?_
  rotate_left 1
  · (intro w hSw; (try dsimp only at hSw); go_simp) <;> with_reducible rfl
  try simp only [Act.put, List.setIfInBounds_toArray, List.set_cons_zero, List.set_cons_succ]
  refine wpAnyH_take (i := 15) (oi := ⟨some 73, _, _, _, _, _⟩) (v := ?_) rfl (by kernel_rfl) (by kernel_rfl) (by kernel_rfl) (fun _ _ _ h => h) (Or.inl ⟨by rfl, ?_⟩) hH ?_
  rotate_left 1
  · (intro w hSw; (try dsimp only at hSw); go_simp) <;> with_reducible rfl
  try simp only [Act.put, List.setIfInBounds_toArray, List.set_cons_zero, List.set_cons_succ]
  refine wpAnyH_take (i := 16) (oi := ⟨some 74, _, _, _, _, _⟩) (v := ?_) rfl (by kernel_rfl) (by kernel_rfl) (by kernel_rfl) (fun _ _ _ h => h) (Or.inl ⟨by rfl, ?_⟩) hH ?_
  rotate_left 1
  · (intro w hSw; (try dsimp only at hSw); go_simp) <;> with_reducible rfl
  try simp only [Act.put, List.setIfInBounds_toArray, List.set_cons_zero, List.set_cons_succ]
  refine wpAnyH_take (i := 17) (oi := ⟨some 75, _, _, _, _, _⟩) (v := ?_) rfl (by kernel_rfl) (by kernel_rfl) (by kernel_rfl) (fun _ _ _ h => h) (Or.inl ⟨by rfl, ?_⟩) hH ?_
  rotate_left 1
  · (intro w hSw; (try dsimp only at hSw); go_simp) <;> with_reducible rfl
  try simp only [Act.put, List.setIfInBounds_toArray, List.set_cons_zero, List.set_cons_succ]
  refine wpAnyH_take (i := 18) (oi := ⟨some 76, _, _, _, _, _⟩) (v := ?_) rfl (by kernel_rfl) (by kernel_rfl) (by kernel_rfl) (fun _ _ _ h => h) (Or.inl ⟨by rfl, ?_⟩) hH ?_
  rotate_left 1
  · (intro w hSw; (try dsimp only at hSw); go_simp) <;> with_reducible rfl
  try simp only [Act.put, List.setIfInBounds_toArray, List.set_cons_zero, List.set_cons_succ]
  refine wpAnyH_take (i := 19) (oi := ⟨some 77, _, _, _, _, _⟩) (v := ?_) rfl (by kernel_rfl) (by kernel_rfl) (by kernel_rfl) (fun _ _ _ h => h) (Or.inl ⟨by rfl, ?_⟩) hH ?_
  rotate_left 1
  · (intro w hSw; (try dsimp only at hSw); go_simp) <;> with_reducible rfl
  try simp only [Act.put, List.setIfInBounds_toArray, List.set_cons_zero, List.set_cons_succ]
  refine wpAnyH_ready (rs := [20]) (by kernel_rfl) (by simp) ?_
  refine AllReadyH.cons (o := ⟨some 78, _, _, _, _, _⟩) rfl (fun K hK => ?_) AllReadyH.nil
  go_simp
  go_at_call 8; refine (known_any _ (hT.out.below h2.out.below)).mono ?_; rintro e w3 ⟨rfl, hc3⟩
  refine hK.out _ _ (by exact ⟨text_of (nums_next hn3.out hc3) c1, text_of (nums_next hn2.out hc3) c2, (h2.out.next hc3).fst.c0, (h2.out.next hc3).fst.c1, (h2.out.next hc3).fst.c2, (h2.out.next hc3).fst.c3, (h2.out.next hc3).snd.c0, (h2.out.next hc3).snd.c1, (h2.out.next hc3).snd.c2, (h2.out.next hc3).snd.c3⟩) (fun hH => ?_)
  clear hK K
  try simp only [Act.put, List.setIfInBounds_toArray, List.set_cons_zero, List.set_cons_succ]
  refine wpAnyH_take (i := 21) (oi := ⟨some 79, _, _, _, _, _⟩) (v := ?_) rfl (by kernel_rfl) (by kernel_rfl) (by kernel_rfl) (fun _ _ _ h => h) (Or.inl ⟨by rfl, ?_⟩) hH ?_
  rotate_left 1
  · (intro w hSw; (try dsimp only at hSw); go_simp) <;> with_reducible rfl
  try simp only [Act.put, List.setIfInBounds_toArray, List.set_cons_zero, List.set_cons_succ]
  refine wpAnyH_take (i := 22) (oi := ⟨some 6, _, _, _, _, _⟩) (v := ?_) rfl (by kernel_rfl) (by kernel_rfl) (by kernel_rfl) (fun _ _ _ h => h) (Or.inl ⟨by rfl, ?_⟩) hH ?_
  rotate_left 1
  · (intro w hSw; (try dsimp only at hSw); go_simp) <;> with_reducible rfl
  try simp only [Act.put, List.setIfInBounds_toArray, List.set_cons_zero, List.set_cons_succ]
  refine wpAnyH_done (by kernel_rfl) ?_ _
  go_wp2
  go_ret
  exact ⟨rfl, (h2.out.next hc3).below⟩
theorem apart_law (m : Md) (a b : Ky) (hoa : a.Ok) (hob : b.Ok) (W : World) (hT : Tab W) : Calls Tryd.prog 5 #[.agg (mA m), .agg (kA a), .agg (kA b)] W (Yes W) := by
  by_cases ha3 : a.md = 0
  · by_cases hb3 : b.md = 0
    · by_cases ha1 : a.kd = 1
      · exact apart_other m a b (.inr (.inr (.inl ⟨ha3, hb3, ha1⟩))) W hT
      · by_cases hb1 : b.kd = 1
        · exact apart_other m a b (.inr (.inr (.inr ⟨ha3, hb3, ha1, hb1⟩))) W hT
        · by_cases hma : a.may
          · by_cases hmb : b.may
            · by_cases hab : a = b
              · subst hab
                exact apart_same m a ha3 ha1 hoa hma W hT
              · exact apart_two m a b hab ha3 hb3 ha1 hb1 hoa hob hma hmb W hT
            · exact apart_no2 m a b ha3 hb3 ha1 hb1 hoa hob hma hmb W hT
          · refine apart_no1 m a b ha3 hb3 ha1 hb1 hoa hma (fun w' hT' => ?_) W hT
            by_cases hmb : b.may
            · exact (encode_yes m b hob hmb w' hT').mono fun _ _ ⟨v, h, _, h2⟩ => ⟨v, 0, h, h2⟩
            · exact (encode_no m b hob hmb w').mono fun _ _ ⟨h, h2⟩ => ⟨_, 2, h, h2⟩
    · exact apart_other m a b (.inr (.inl ⟨ha3, hb3⟩)) W hT
  · exact apart_other m a b (.inl ha3) W hT

end Go.Proofs.YtkmedfffmalbgaaDoor.Kys
