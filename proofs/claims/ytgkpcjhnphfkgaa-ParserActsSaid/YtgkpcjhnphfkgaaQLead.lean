/-
  parser: acts are put behind one another; a state is left for another one.
-/
import Derived.Test.YtgkpcjhnphfkgaaQActs
namespace Go.Proofs.Ytgkpcjhnphfkgaa.Prs
open Go Go.RowKit Go.Proofs.Ytgkpcjhnphfkgaa.Com Go.Proofs.Ytgkpcjhnphfkgaa.Par

theorem sizeT : (Try.prog.info? 22).map (·.size) = some 1 := by kernel_rfl
theorem infoA : ∃ i, Try.prog.info? 33 = some i ∧ i.zero = some (.agg #[.int .u8 0, .int .i32 0, .int .i32 0, .slice none 0 0, .slice none 0 0, .int .i32 0, .slice none 0 0]) ∧ i.size = 7 ∧ i.bytes = 96 := by
  have h : (Try.prog.info? 33).map (fun i => (i.zero, i.size, i.bytes)) = some (some (.agg #[.int .u8 0, .int .i32 0, .int .i32 0, .slice none 0 0, .slice none 0 0, .int .i32 0, .slice none 0 0]), 7, 96) := by kernel_rfl
  exact info_parts h

theorem flat_one {w : World} {ok : Nat → Prop} {l : List Act} {css : List (List Value)} (h : All2 (ActIs w ok) l css) : ∀ u ∈ css.flatten, u.oneCell' = true := by
  induction h with
  | nil => intro u hu; cases hu
  | cons h _ ih =>
    intro u hu
    rw [List.flatten_cons] at hu
    rcases List.mem_append.1 hu with hu | hu
    · exact h.one u hu
    · exact ih u hu
theorem run_acts (w : World) (ty : TypeId) {B B2 : Nat} {ok ok2 : Nat → Prop} {x y : Value} {As Bs : List Act} (h : ActsIn w B ok x As) (g : ActsIn w B2 ok2 y Bs) (hx : ∀ b, x.ownBlock = some b → ¬ ok2 b)
    (hB : B ≤ w.heap.size) (hn : As.length + Bs.length ≤ 1048576) :
    ∃ z w', (Builtin.append_ #[26, 26] ty #[x, y]).run Try.prog w = .ok z w' ∧ ActsIn w' B (fun b => ok b ∨ ok2 b) z (As ++ Bs) ∧ Only x.ownBlock.toList w w' ∧ (z.ownBlock = x.ownBlock ∨ z.ownBlock = some w.heap.size) := by
  obtain ⟨i, hi, hz, hs, hb⟩ := infoA
  obtain ⟨css, h1, h2⟩ := h.ex
  obtain ⟨dss, g1, g2⟩ := g.ex
  rcases hg3 : g2.2 with ⟨rfl, hl⟩ | ⟨gb, cap, cur, rfl, _, hh, _⟩
  · have hb0 : Bs = [] := List.eq_nil_of_length_eq_zero hl
    subst hb0
    refine ⟨x, w, ?_, by rw [List.append_nil]; exact h.mono (fun _ _ h => .inl h), Only.refl _ _, .inl rfl⟩
    rcases h2.2 with ⟨rfl, _⟩ | ⟨gx, cap, cur, rfl, _, _, hnc, _⟩
    · simp [Builtin.append_, run_underlying Try.underlying26, sizeOf, typeInfo, hi, Builtin.lenOf, Builtin.firstCells]
    · simp [Builtin.append_, run_underlying Try.underlying26, sizeOf, typeInfo, hi, Builtin.lenOf, Builtin.firstCells, hnc, storeCells]
  · have hone := flat_one g1
    obtain ⟨z, w', hr, k2, k3, _, k5⟩ := run_append_own_at (P := Try.prog) (w := w) B 26 ty 33 i _ 7 96 Try.underlying26 hi hz hs hb rfl (by omega) x As.length css.flatten h2
      ⟨gb, 0, none⟩ Bs.length cap dss.flatten (by rw [flat_len g1 (fun _ _ h => h.len)]) (World.ownsRow.cells g2 rfl) hone (by simp [maxLen]; omega) (by omega) hB
    have ho := Only.grown k3
    have hzz : ∀ b, b < w.heap.size → z.ownBlock = some b → x.ownBlock = some b := fun b hb hz => by
      rcases k5 with e | e
      · rw [← e]; exact hz
      · rw [e] at hz; simp at hz; omega
    refine ⟨z, w', hr, ⟨css ++ dss, All2.app (h1.mono fun _ _ h => ?_) (g1.mono fun _ _ h => ?_), ?_⟩, ho, k5⟩
    · have h' : ActIs w (fun b => (ok b ∧ x.ownBlock ≠ some b) ∧ b < w.heap.size) _ _ := h.mono (fun b hb hk => ⟨hk, hb⟩)
      exact (h'.only ho (fun b hb hk => hk.1.2 (by simpa using hb))).mono (fun b _ hk => ⟨.inl hk.1.1, fun e => hk.1.2 (hzz b hk.2 e)⟩)
    · have h' : ActIs w (fun b => (ok2 b ∧ x.ownBlock ≠ some b) ∧ b < w.heap.size) _ _ := h.mono (fun b hb hk => ⟨⟨hk.1, fun e => hx b e hk.1⟩, hb⟩)
      exact (h'.only ho (fun b hb hk => hk.1.2 (by simpa using hb))).mono (fun b _ hk => ⟨.inr hk.1.1, fun e => hk.1.2 (hzz b hk.2 e)⟩)
    · rw [List.flatten_append, List.length_append]
      exact k2
theorem wp_acts {w : World} {o : Oper} {a : Go.Act} {K : Go.Act → World → Prop} {Q : Exit → Go.Act → World → Prop} (s t : Operand)
    (ho : o.op = .call { callee := .builtin .append, args := #[s, t], argTypes := #[26, 26] })
    {B B2 : Nat} {ok ok2 : Nat → Prop} {x y : Value} {As Bs : List Act} (hs : a.eval s = x) (ht : a.eval t = y) (h : ActsIn w B ok x As) (g : ActsIn w B2 ok2 y Bs) (hx : ∀ b, x.ownBlock = some b → ¬ ok2 b)
    (hB : B ≤ w.heap.size) (hn : As.length + Bs.length ≤ 1048576)
    (hK : ∀ z w', ActsIn w' B (fun b => ok b ∨ ok2 b) z (As ++ Bs) → Only x.ownBlock.toList w w' → (z.ownBlock = x.ownBlock ∨ z.ownBlock = some w.heap.size) → K (a.put o.dst z) w') : o.wp Try.prog a w K Q := by
  obtain ⟨z, w', hr, h2, h3, h4⟩ := run_acts w o.type h g hx hB hn
  unfold Oper.wp execOp
  simp only [ho, resolve, invoke, builtin, Sem.run_bind, Sem.run_pure, Result.andThen_ok, List.map_toArray, List.map_cons, List.map_nil, hs, ht, hr]
  exact hK z w' h2 h3 h4
theorem wpList_acts {w : World} {ops : Array Oper} {rest : List Oper} {o : Oper} {a : Go.Act} {Q : Exit → Go.Act → World → Prop} (hgd : Region.wanted o (yielded ops a.tmps) = true) (s t : Operand)
    (ho : o.op = .call { callee := .builtin .append, args := #[s, t], argTypes := #[26, 26] })
    {B B2 : Nat} {ok ok2 : Nat → Prop} {x y : Value} {As Bs : List Act} (hs : a.eval s = x) (ht : a.eval t = y) (h : ActsIn w B ok x As) (g : ActsIn w B2 ok2 y Bs) (hx : ∀ b, x.ownBlock = some b → ¬ ok2 b)
    (hB : B ≤ w.heap.size) (hn : As.length + Bs.length ≤ 1048576)
    (hK : ∀ z w', ActsIn w' B (fun b => ok b ∨ ok2 b) z (As ++ Bs) → Only x.ownBlock.toList w w' → (z.ownBlock = x.ownBlock ∨ z.ownBlock = some w.heap.size) → wpList Try.prog ops Q rest (a.put o.dst z) w') : wpList Try.prog ops Q (o :: rest) a w :=
  wpList_wanted hgd fun _ hK' => wp_acts s t ho hs ht h g hx hB hn fun z w' h1 h2 h3 => hK' _ _ (hK z w' h1 h2 h3)
theorem step_acts {w : World} {ops : Array Oper} {o : Oper} {a : Go.Act} {K : Go.Act → World → Prop} {Q : Exit → Go.Act → World → Prop} {F : Prop} (hgd : Region.wanted o (yielded ops a.tmps) = true) (s t : Operand)
    (ho : o.op = .call { callee := .builtin .append, args := #[s, t], argTypes := #[26, 26] })
    {B B2 : Nat} {ok ok2 : Nat → Prop} {x y : Value} {As Bs : List Act} (hs : a.eval s = x) (ht : a.eval t = y) (h : ActsIn w B ok x As) (g : ActsIn w B2 ok2 y Bs) (hx : ∀ b, x.ownBlock = some b → ¬ ok2 b)
    (hB : B ≤ w.heap.size) (hn : As.length + Bs.length ≤ 1048576)
    (hK : ∀ z w', ActsIn w' B (fun b => ok b ∨ ok2 b) z (As ++ Bs) → Only x.ownBlock.toList w w' → (z.ownBlock = x.ownBlock ∨ z.ownBlock = some w.heap.size) → K (a.put o.dst z) w') :
    if Region.wanted o (yielded ops a.tmps) = true then Oper.wp Try.prog o a w K Q else F := by
  rw [if_pos hgd]
  exact wp_acts s t ho hs ht h g hx hB hn hK

/-! A whole sequence is stored into the parser's block. -/
theorem wpList_storeAt {P : Program} {ops : Array Oper} {rest : List Oper} {o : Oper} {a : Go.Act} {w : World} {Q : Exit → Go.Act → World → Prop} (hgd : o.guard = none) (ty : TypeId) (x y : Operand) (ho : o.op = .store ty x y)
    {g i : Nat} {t : TypeId} {cs : Array Value} (hb : Block w g t cs) (vs : Array Value) (hx : a.eval x = .pointer (some ⟨g, i, none⟩)) (hy : a.eval y = .agg vs) (hi : i + vs.size ≤ cs.size) (hinfo : (P.info? ty).map (·.size) = some vs.size) (h1 : vs.all (·.oneCell') = true)
    (h : ∀ w', Block w' g t (cs.toList.take i ++ (vs.toList ++ cs.toList.drop (i + vs.size))).toArray → Only [g] w w' → wpList P ops Q rest (a.put o.dst undef) w') : wpList P ops Q (o :: rest) a w :=
  wpList_plain hgd fun _ hK => by
    have := run_storeCells_at (P := P) g i t vs.toList 0 cs w hb (by simpa using hi) (fun x hx => (Array.all_eq_true_iff_forall_mem.1 h1) x (by simpa using hx))
    cases hq : P.info? ty with
    | none => simp [hq] at hinfo
    | some j =>
      have hs : j.size = vs.size := by simpa [hq] using hinfo
      have hc : (Value.agg vs).cells = vs := rfl
      simp only [Nat.add_zero, Array.length_toList] at this
      unfold Oper.wp execOp
      simp [ho, hx, hy, Instr.storeAt, Instr.sureAddr, Sem.run_bind, Sem.run_pure, storeVar, sizeOf, typeInfo, hq, hc, hs, this]
      exact hK _ _ (h _ (setRow_heap w g cs _ t _ hb) (only_setRow w g _))
def seqL (q : Sq) : List Value := .int .i32 q.pr :: (cellsL q.num ++ [.int .i32 q.a, .int .i32 q.b, .int .i64 q.cnt, .bool q.many])
theorem par_seq (S : PS) (v : Value) : parL S v = [.int .u8 S.st] ++ seqL S.sq ++ [v] := by
  unfold parL seqL tailL
  simp
theorem seq_size {q : Sq} (h : q.num.n.length ≤ 32) : (seqL q).length = 39 := by
  unfold seqL
  simp [cells_size h]
theorem put_seq {S : PS} {v : Value} (hL : S.sq.num.n.length ≤ 32) : (parL S v).take 1 ++ (seqL emptySq ++ (parL S v).drop 40) = parL ⟨S.st, emptySq, S.text⟩ v := by
  have h := seq_size hL
  have e : (parL S v).drop 40 = [v] := by
    rw [par_seq, List.append_assoc]
    exact List.drop_left' h
  rw [e, par_seq]
  rfl
theorem put_seq_at {S : PS} {v : Value} {w : World} {d : Nat} (hL : S.sq.num.n.length ≤ 32) (h : Block w d 43 ((parL S v).toArray.toList.take 1 ++ ((seqL emptySq).toArray.toList ++ (parL S v).toArray.toList.drop (1 + (seqL emptySq).toArray.size))).toArray) : PBlk w d ⟨S.st, emptySq, S.text⟩ v := by
  unfold PBlk
  rw [← put_seq hL]
  exact h
theorem seq_fits {l : List Value} (h : l.length = 41) : 1 + (seqL emptySq).toArray.size ≤ l.toArray.size := by
  have e : (seqL emptySq).length = 39 := rfl
  rw [List.size_toArray, List.size_toArray, h, e]
  omega
theorem seq_one : (seqL emptySq).toArray.all (·.oneCell') = true := by kernel_rfl
theorem sizeQ : (Try.prog.info? 41).map (·.size) = some (seqL emptySq).toArray.size := by kernel_rfl

/-! A state is left for another one. -/
theorem lead_stay {S : PS} (h : S.st ≠ 12) (s : Int) : leadA S = [] ∧ leadS S s = ⟨s, if s = 1 ∨ s = 3 ∨ s = 7 then emptySq else S.sq, S.text⟩ := by
  unfold leadA leadS
  rw [if_neg h, if_neg h]
  exact ⟨rfl, rfl⟩
theorem own_none (w : World) (B : Nat) (e : TypeId) (k : IntKind) : Own w B e k (.slice none 0 0) [] := Own.nil w B e k

set_option maxHeartbeats 2000000 in
theorem lead_plain (S : PS) (v : Value) (hs : S.st ≠ 12) (s : Int) (hq : ¬ (s = 1 ∨ s = 3 ∨ s = 7)) (B d : Nat) (w : World) (hd : ParIn w B d v S) :
    Calls Try.prog 15 #[.pointer (some ⟨d, 0, none⟩), .int .u8 s] w (Fed w B d v (leadF S s)) := by
  have h0 := hd.blk.c0
  have f0 := hd.blk.free 0
  have hs' : (S.st == 12) = false := by simpa using hs
  have q1 : (s == 1) = false := by simp; omega
  have q3 : (s == 3) = false := by simp; omega
  have q7 : (s == 7) = false := by simp; omega
  have hset := Lib.hid (hd.blk.set (set_st S v s))
  have hd' := Lib.hid hd
  have hE : Hid (leadF S s = ([], ⟨s, S.sq, S.text⟩)) := by show _ = _; unfold leadF; rw [(lead_stay hs s).1, (lead_stay hs s).2, if_neg hq]
  clear hd hq hs
  go_enter Try.func15, Try.ntmps15
  go_wp2
  go_ret
  rw [hE.out]
  have o := Only.setCell w ⟨d, 0, none⟩ (.int .u8 s)
  exact ⟨_, v, rfl, ⟨hset.out, hd'.out.own.only o (fun g hg hm => hd'.out.apart (by simp at hm; rw [hg, hm])), hd'.out.low⟩, .inl rfl, ActsIn.nil _ _ _, o.mono (by simp)⟩

set_option maxHeartbeats 2000000 in
theorem lead_anew (S : PS) (v : Value) (hL : S.sq.num.n.length ≤ 32) (hs : S.st ≠ 12) (s : Int) (hq : s = 1 ∨ s = 3 ∨ s = 7) (B d : Nat) (w : World) (hd : ParIn w B d v S) :
    Calls Try.prog 15 #[.pointer (some ⟨d, 0, none⟩), .int .u8 s] w (Fed w B d v (leadF S s)) := by
  have h0 := hd.blk.c0
  have hs' : (S.st == 12) = false := by simpa using hs
  have hd' := Lib.hid hd
  have hb := hd.blk.blk
  have hE : Hid (leadF S s = ([], ⟨s, emptySq, S.text⟩)) := by show _ = _; unfold leadF; rw [(lead_stay hs s).1, (lead_stay hs s).2, if_pos hq]
  have hput := Lib.hid (fun w h => put_seq_at (w := w) (d := d) (v := v) hL h)
  have hsz := par_size (v := v) hL
  clear hd hs
  rcases hq with rfl | rfl | rfl
  all_goals
    go_enter Try.func15, Try.ntmps15
    go_wp2_with (with_reducible show wpList _ _ _ (⟨none, .store _ (.tmp 30) _, _, _, _, _⟩ :: _) _ _; go_must (refine wpList_storeAt rfl _ (.tmp 30) (.tmp 28) rfl hb (seqL emptySq).toArray rfl rfl (seq_fits hsz) sizeQ seq_one ?_); intro w1 hb1 ho1; replace hb1 := hput.out w1 hb1; have h10 := hb1.c0; have f10 := hb1.free 0)
    go_ret
    rw [hE.out]
    have o := fun u => ho1.trans (Only.setCell w1 ⟨d, 0, none⟩ u)
    exact ⟨_, v, rfl, ⟨hb1.set (set_st _ v _), hd'.out.own.only (o _) (fun g hg hm => hd'.out.apart (by simp at hm; rw [hg, hm])), hd'.out.low⟩, .inl rfl, ActsIn.nil _ _ _, (o _).mono (by simp)⟩

/-- The act that leaving a text tells. -/
theorem osc_is {w : World} {B : Nat} {e : TypeId} {v : Value} {l : List Int} (h : Own w B e .i32 v l) : ActIs w (fun g => v.ownBlock = some g) (oscA l) [.int .u8 5, .int .i32 0, .int .i32 0, .slice none 0 0, .slice none 0 0, .int .i32 0, v] := by
  obtain ⟨ao, c, rfl, _, _, hn⟩ := numsP_own h
  exact ⟨none, 0, none, 0, ao, c, rfl, NumsP.nil _ _ _ _, NumsP.nil _ _ _ _, hn⟩

theorem only_none {w w' : World} (h : Only (Value.slice none 0 0).ownBlock.toList w w') : Only [] w w' := by simpa [Value.ownBlock] using h
theorem no_block {p : Nat → Prop} : ∀ b, (Value.slice none 0 0).ownBlock = some b → p b := fun _ h => by cases h
theorem shape1 {w : World} {B : Nat} {ok : Nat → Prop} {x : Value} {A : Act} (h : ActsIn w B ok x [A]) : ∃ ao cap, x = .slice ao 1 cap := by
  obtain ⟨ao, cap, e, _⟩ := h.shape
  exact ⟨ao, cap, e⟩
theorem osc_fed {w w1 w2 : World} {B d : Nat} {v x : Value} {S S' : PS} (hd : ParIn w B d v S) (o1 : Only [] w w1) (hz : ActsIn w1 w.heap.size (fun b => False ∨ v.ownBlock = some b) x [oscA S.text]) (o2 : Only [d] w1 w2)
    (hb : PBlk w2 d S' (.slice none 0 0)) (ht : S'.text = []) : Fed w B d v ([oscA S.text], S') (.returned x) w2 := by
  have hb1 := hd.blk.only o1 (by simp)
  have hap := hd.apart
  have hax := hz.apart_blk hb1.blk (by decide)
  refine ⟨x, .slice none 0 0, rfl, ⟨hb, by rw [ht]; exact Own.nil _ _ _ _, hd.low⟩, .inr (.inl rfl), ?_, (o1.mono (by simp)).trans (o2.mono (by simp))⟩
  refine (hz.only o2 (fun g hg hk => ?_) (fun g hg hm => ?_)).mono (fun g _ hk => ?_)
  · simp at hg
    subst hg
    exact hk.elim id hap
  · simp at hm
    subst hm
    exact hax hg
  · exact ⟨.inr (hk.elim False.elim id), by simp [Value.ownBlock], fun e => by subst e; exact hk.elim id hap⟩

set_option maxHeartbeats 4000000 in
theorem lead_osc (S : PS) (v : Value) (hL : S.sq.num.n.length ≤ 32) (hs : S.st = 12) (s : Int) (B d : Nat) (w : World) (hd : ParIn w B d v S) :
    Calls Try.prog 15 #[.pointer (some ⟨d, 0, none⟩), .int .u8 s] w (Fed w B d v (leadF S s)) := by
  have h0 := hd.blk.c0
  have h40 := hd.blk.txt hL
  rw [hs] at h0
  have hosc := osc_is hd.own
  have hd' := Lib.hid hd
  have hput := Lib.hid (fun w h => put_seq_at (w := w) (d := d) (v := .slice none 0 0) hL h)
  have hset := Lib.hid (set_txt hL v (.slice none 0 0))
  have hsz := par_size (v := .slice none 0 0) hL
  obtain ⟨ao, c, rfl, _, _, _⟩ := hd.own.shape
  have hosc' := Lib.hid hosc
  clear hd hosc
  by_cases hq : s = 1 ∨ s = 3 ∨ s = 7
  · have hE : Hid (leadF S s = ([oscA S.text], ⟨s, emptySq, []⟩)) := by show _ = _; unfold leadF leadA leadS; rw [if_pos hs, if_pos hs, if_pos hq]
    rcases hq with rfl | rfl | rfl
    all_goals
      go_enter Try.func15, Try.ntmps15
      go_wp2_with (first
        | (with_reducible show wpList _ _ _ (⟨some 18, .call _, _, _, _, _⟩ :: _) _ _; go_must (refine wpList_acts (x := .slice none 0 0) (ok2 := fun g => (Value.slice ao S.text.length c).ownBlock = some g) rfl (.tmp 11) (.tmp 17) rfl rfl rfl (ActsIn.nil _ w.heap.size (fun _ => False)) (made_acts w w.heap.size (Nat.le_refl _) _ _ _ hosc'.out) no_block (by simp) (by simp) ?_); go_must (intro z w1 hz ho1 hat; obtain ⟨az, cz, rfl⟩ := shape1 hz; have o1 : Only [] w w1 := (Only.alloc [] w _).trans (only_none ho1); have hb1 := hd'.out.blk.only o1 (by simp); have k40 := hb1.txt hL; have f40 := hb1.free 40; have k0 := hb1.c0; rw [hs] at k0; have f0 := hb1.free 0; have hs2 := hb1.set hset.out; have hb2 := hs2.blk))
        | (with_reducible show wpList _ _ _ (⟨none, .store _ (.tmp 30) _, _, _, _, _⟩ :: _) _ _; go_must (refine wpList_storeAt rfl _ (.tmp 30) (.tmp 28) rfl hb2 (seqL emptySq).toArray rfl rfl (seq_fits hsz) sizeQ seq_one ?_); intro w3 hb3 ho3; replace hb3 := hput.out w3 hb3; have m0 := hb3.c0; have g0 := hb3.free 0))
      go_ret
      rw [hE.out]
      exact osc_fed hd'.out o1 hz ((Only.setCell w1 ⟨d, 40, none⟩ _).trans (ho3.trans (Only.setCell w3 ⟨d, 0, none⟩ _))) (hb3.set (set_st _ _ _)) rfl
  · have hE : Hid (leadF S s = ([oscA S.text], ⟨s, S.sq, []⟩)) := by show _ = _; unfold leadF leadA leadS; rw [if_pos hs, if_pos hs, if_neg hq]
    have q1 : (s == 1) = false := by simp; omega
    have q3 : (s == 3) = false := by simp; omega
    have q7 : (s == 7) = false := by simp; omega
    clear hq hput hsz
    go_enter Try.func15, Try.ntmps15
    go_wp2_with (first
      | (with_reducible show wpList _ _ _ (⟨some 18, .call _, _, _, _, _⟩ :: _) _ _; go_must (refine wpList_acts (x := .slice none 0 0) (ok2 := fun g => (Value.slice ao S.text.length c).ownBlock = some g) rfl (.tmp 11) (.tmp 17) rfl rfl rfl (ActsIn.nil _ w.heap.size (fun _ => False)) (made_acts w w.heap.size (Nat.le_refl _) _ _ _ hosc'.out) no_block (by simp) (by simp) ?_); go_must (intro z w1 hz ho1 hat; obtain ⟨az, cz, rfl⟩ := shape1 hz; have o1 : Only [] w w1 := (Only.alloc [] w _).trans (only_none ho1); have hb1 := hd'.out.blk.only o1 (by simp); have k40 := hb1.txt hL; have f40 := hb1.free 40; have k0 := hb1.c0; rw [hs] at k0; have f0 := hb1.free 0; have hs2 := Lib.hid (hb1.set hset.out); clear hb1)))
    go_ret
    rw [hE.out]
    exact osc_fed hd'.out o1 hz ((Only.setCell w1 ⟨d, 40, none⟩ _).trans (Only.setCell _ ⟨d, 0, none⟩ _)) (PBlk.set (S' := ⟨s, S.sq, []⟩) (S := ⟨S.st, S.sq, []⟩) hs2.out (set_st ⟨S.st, S.sq, []⟩ _ _)) rfl
theorem lead_any (S : PS) (v : Value) (hL : S.sq.num.n.length ≤ 32) (s : Int) (B d : Nat) (w : World) (hd : ParIn w B d v S) :
    Calls Try.prog 15 #[.pointer (some ⟨d, 0, none⟩), .int .u8 s] w (Fed w B d v (leadF S s)) := by
  by_cases hs : S.st = 12
  · exact lead_osc S v hL hs s B d w hd
  · by_cases hq : s = 1 ∨ s = 3 ∨ s = 7
    · exact lead_anew S v hL hs s hq B d w hd
    · exact lead_plain S v hs s hq B d w hd

end Go.Proofs.Ytgkpcjhnphfkgaa.Prs
