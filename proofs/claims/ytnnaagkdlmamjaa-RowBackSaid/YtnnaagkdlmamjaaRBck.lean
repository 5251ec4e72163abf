/-
  row: the law that cells that are inserted, and deleted there again, leave the row as it was.
-/
import Derived.Test.YtnnaagkdlmamjaaRWho
import Derived.Test.YtnnaagkdlmamjaaRBlank
import Derived.Deep.CutRange
namespace Go.Proofs.Ytnnaagkdlmamjaa.Rw
open Go Go.RowKit Go.Proofs.Ytnnaagkdlmamjaa.Com
set_option linter.unusedVariables false

/-! Rows without wide runes. -/
def Narrow (l : List Cel) : Prop := ∀ c ∈ l, c.wide = 0
theorem keeps_narrow : Keeps (fun c => c.wide = 0) := ⟨fun _ _ => rfl, fun _ => rfl, fun _ _ h _ _ => h⟩
theorem narrow_do {l : List Cel} (h : Narrow l) (o : Opr) (hw : o.wide = false) : Narrow (doL o l) := by
  unfold doL
  rw [hw]
  repeat' split
  · exact all_put keeps_narrow h (fun _ => by simp [cellsPut])
  · exact all_joi keeps_narrow (whole_zero h) h
  · exact all_era keeps_narrow h
  · exact all_in keeps_narrow h
  · exact all_de keeps_narrow h
  · exact all_re keeps_narrow h
  · exact h
theorem len_do {l : List Cel} (o : Opr) (hk : o.kind ≠ 6) : (doL o l).length = l.length := by
  unfold doL
  rw [if_neg hk]
  repeat' split
  · exact putL_len _ _ _ _ _
  · exact joiL_len _ _ _
  · exact eraL_len _ _ _ _
  · exact inL_len _ _ _ _
  · exact deL_len _ _ _ _
  · rfl
theorem back {l : List Cel} (h : Narrow l) (col k : Int) (a : At) : deL (inL l col k a) col k a = l.take (l.length - heldF k (l.length - heldF col l.length)) ++ List.replicate (heldF k (l.length - heldF col l.length)) (clr a) := by
  have hln := inL_len l col k a
  have hin := held_in col k l.length
  have hN1 : Narrow (inL l col k a) := all_in keeps_narrow h
  unfold deL
  rw [hln]
  unfold inL at hN1 hln ⊢
  unfold insL at hN1 hln ⊢
  generalize heldF k (l.length - heldF col l.length) = q at *
  generalize heldF col l.length = p at *
  have hXn : Narrow (insX l p q a) := by
    intro c hc
    unfold insX at hc
    rcases List.mem_append.1 hc with hc | hc
    · exact h c (List.mem_of_mem_take hc)
    · rcases List.mem_append.1 hc with hc | hc
      · rw [(List.mem_replicate.1 hc).2]; rfl
      · exact h c (List.mem_of_mem_drop (List.mem_of_mem_take hc))
  have hXl := insX_length (l := l) a hin
  rw [mendAll_whole (whole_zero hXn)]
  have hsn : Narrow (splice (insX l p q a) p (List.replicate q (clr a))) := all_splice hXn (fun c hc => by rw [(List.mem_replicate.1 hc).2]; rfl)
  unfold delL delX setL
  rw [mendAll_whole (whole_zero hsn)]
  have hA : (l.take p).length = p := by simp; omega
  have hC : (List.replicate q (clr a)).length = q := by simp
  have t1 : (insX l p q a).take p = l.take p := by
    unfold insX
    rw [List.take_append_of_le_length (by omega), List.take_of_length_le (by omega)]
  have t2 : (insX l p q a).drop (p + q) = (l.drop p).take (l.length - p - q) := by
    unfold insX
    rw [List.drop_append, hA, List.drop_eq_nil_of_le (by omega), List.nil_append, List.drop_append, hC, List.drop_eq_nil_of_le (by omega), List.nil_append, show p + q - p - q = 0 by omega, List.drop_zero]
  have e1 : splice (insX l p q a) p (List.replicate q (clr a)) = insX l p q a := by
    unfold splice
    rw [hC, t1, t2]
    rfl
  rw [e1, t1, t2, show l.length - q = p + (l.length - p - q) by omega, List.take_add, List.append_assoc]
theorem narrow_take {l : List Cel} (h : Narrow l) (k : Nat) : Narrow (l.take k) := fun c hc => h c (List.mem_of_mem_take hc)

theorem api_first {B : Nat} {w : World} {g n cap : Nat} {ps : List (Cel × Value)} (h : Api B w (.slice (some ⟨g, 0, none⟩) n cap) ps) (hn : 0 < n) (hl : ps.length = n) (m : Nat) (hm : m ≤ n) : Api B w (.slice (some ⟨g, 0, none⟩) m cap) (ps.take m) := by
  subst hl
  have hlt : (ps.take m).length = m := by simp; omega
  refine ⟨?_, fun p hp => h.comb p (List.mem_of_mem_take hp)⟩
  obtain ⟨h1, h2⟩ := h.own
  rw [hlt]
  refine ⟨by rw [fl_length apiP_length, hlt], ?_⟩
  rcases h2 with ⟨h2, _⟩ | ⟨g', cap', cur, he, hg, hh, hc, hmx, hs, ht⟩
  · simp at h2
  · simp only [Value.slice.injEq, Option.some.injEq, Addr.mk.injEq, and_true, true_and] at he
    obtain ⟨rfl, rfl⟩ := he
    refine .inr ⟨g, cap, cur, rfl, hg, hh, by omega, hmx, hs, ?_⟩
    rw [← fl_take apiP_length ps m hm, ← ht, List.take_take, Nat.min_eq_left (by omega)]
theorem first_any (g n m cap : Nat) (hm : m ≤ cap) (w : World) : (Instr.sliceAt 44 (.slice (some ⟨g, 0, none⟩) n cap) none (some (.int .i64 m)) none).run Try.prog w = .ok (.slice (some ⟨g, 0, none⟩) m cap) w := by
  have ht : Try.prog.underlying 44 = some (.slice (Try.prog.elem 44)) := by kernel_rfl
  have hi : (Try.prog.info? (Try.prog.elem 44)).map (·.size) = some 6 := by kernel_rfl
  rw [run_sliceAt_slice _ _ _ _ _ _ ht, run_slice_h _ _ _ _ _ ht .i64 m (by omega) (by omega)]
  cases hq : Try.prog.info? (Try.prog.elem 44) with
  | none => simp [hq] at hi
  | some i =>
    simp [sizeOf, typeInfo, hq, sliced, Addr.add]
theorem own_nil (w : World) (B : Nat) : Own w B 21 .i32 (.slice none 0 0) [] := ⟨rfl, .inl ⟨rfl, rfl⟩⟩

theorem infoBool : (Try.prog.info? 4).map (·.size) = some 1 := by kernel_rfl
/-- What the law's first loop keeps. -/
structure BackSt (W w : World) (ba : Nat) (a : At) (n d dr : Nat) (l l2 : List Cel) : Prop where
  law : LawSt W w d dr l l2
  box : Block w ba 34 (attV a).toArray
  narrow : Narrow l
  len : l.length = n
theorem BackSt.stay {W w w' : World} {ba : Nat} {a : At} {n d dr : Nat} {l l2 : List Cel} (h : BackSt W w ba a n d dr l l2) (hb : Below w.heap.size w w') : BackSt W w' ba a n d dr l l2 := ⟨h.law.stay hb, h.box.only (Only.of_below hb []) (by simp), h.narrow, h.len⟩
theorem BackSt.step {W w w' : World} {ba : Nat} {a : At} {n d dr : Nat} {l l2 l' l2' : List Cel} (h : BackSt W w ba a n d dr l l2) (h2 : Two W.heap.size w' d dr l' l2') (hf : Fr W.heap.size ts4 w w') (hn : Narrow l') (hl : l'.length = l.length) : BackSt W w' ba a n d dr l' l2' := ⟨h.law.step h2 hf, Block.fr h.box hf (.inl (by decide)), hn, hl.trans h.len⟩
theorem BackSt.att {W w : World} {ba : Nat} {f b g : Int} {n d dr : Nat} {l l2 : List Cel} (h : BackSt W w ba ⟨f, b, g⟩ n d dr l l2) : w.cell? ⟨ba, 0, none⟩ = some (.int .u32 f) ∧ w.cell? ⟨ba, 1, none⟩ = some (.int .u32 b) ∧ w.cell? ⟨ba, 2, none⟩ = some (.int .u16 g) := ⟨h.box.cell 0 rfl, h.box.cell 1 rfl, h.box.cell 2 rfl⟩

theorem BackSt.kept {W w w' : World} {ba : Nat} {a : At} {n d dr : Nat} {l l2 : List Cel} (h : BackSt W w ba a n d dr l l2) {b : Nat} {cs : Array Value} (hb : Block w b 36 cs) (hlo : W.heap.size ≤ b) (ho : Only [b] w w') : BackSt W w' ba a n d dr l l2 := by
  have hf : Fr W.heap.size [36] w w' := Fr.of_only ho (fun k hk _ => by
    obtain rfl : k = b := by simpa using hk
    exact ⟨hlo, _, List.mem_singleton.2 rfl, Block.typ hb⟩)
  exact ⟨⟨h.law.two.fr hf (by decide) (by decide) (by decide) (by decide) (by decide), h.law.below.trans (hf.below h.law.below.size)⟩, Block.fr h.box hf (.inl (by decide)), h.narrow, h.len⟩
theorem op_load {w : World} {b : Nat} {o : Opr} (h : Block w b 36 (opV o).toArray) : ∀ j v, (opV o)[j]? = some v → w.cell? ((⟨b, 0, none⟩ : Addr).add j) = some v := fun j v hj => by
  have := h.cell j (v := v) (by simpa using hj)
  cases j with
  | zero => simpa [Addr.add] using this
  | succ j => simpa [Addr.add] using this

/-- Behind the calls. -/
structure EndSt (W w : World) (ba : Nat) (a : At) (d g n cap : Nat) (tail : List Value) (l : List Cel) (g2 : Nat) (ps : List (Cel × Value)) : Prop where
  row : RowX w d g n cap tail l
  good : Good l
  box : Block w ba 34 (attV a).toArray
  api : Api W.heap.size w (.slice (some ⟨g2, 0, none⟩) n n) ps
  below : Below W.heap.size W w
  glo : W.heap.size ≤ g
section
variable {W w w' : World} {ba : Nat} {a : At} {d g n cap : Nat} {tail : List Value} {l l' : List Cel} {g2 : Nat} {ps : List (Cel × Value)}
theorem EndSt.stay (h : EndSt W w ba a d g n cap tail l g2 ps) (hb : Below w.heap.size w w') : EndSt W w' ba a d g n cap tail l g2 ps := ⟨h.row.below hb, h.good, h.box.only (Only.of_below hb []) (by simp), h.api.below hb, below_next h.below hb, h.glo⟩
theorem EndSt.op (h : EndSt W w ba a d g n cap tail l g2 ps) {v : Value} {e : Ending} (hg : Good l') (ho : OpDone w d g n cap tail l' v e w') : e = .returned v ∧ Hid (EndSt W w' ba a d g n cap tail l' g2 ps) :=
  ⟨ho.1, Lib.hid ⟨ho.2.1, hg, h.box.only ho.2.2 (by simpa using (Block.apart h.row.row h.box (by decide)).symm), h.api.fr (Fr.of_only (B := 0) (ts := ts2) ho.2.2 (fun k hk _ => by
    obtain rfl : k = g := by simpa using hk
    exact ⟨Nat.zero_le _, _, by decide, Block.typ h.row.row⟩)) (by decide) (by decide), h.below.trans (ho.2.2.below h.below.size (by simpa using h.glo)), h.glo⟩⟩
theorem EndSt.insert (h : EndSt W w ba a d g n cap tail l g2 ps) (col k : Int) (a' : At) :
    Calls Try.prog 19 #[.pointer (some ⟨d, 0, none⟩), .int .i64 col, .int .i64 k, .agg #[.int .u32 a'.f, .int .u32 a'.b, .int .u16 a'.g]] w fun e w' => e = .returned (.int .i64 0) ∧ Hid (EndSt W w' ba a d g n cap tail (inL l col k a') g2 ps) := by
  have hgd := h.good.ins col k a'
  have hq := insert_any h.row h.good.whole col k a'
  unfold inL at hgd ⊢
  rw [h.row.len] at hgd ⊢
  exact hq.mono fun e w' ho => h.op hgd ho
theorem EndSt.delete (h : EndSt W w ba a d g n cap tail l g2 ps) (col k : Int) (a' : At) :
    Calls Try.prog 20 #[.pointer (some ⟨d, 0, none⟩), .int .i64 col, .int .i64 k, .agg #[.int .u32 a'.f, .int .u32 a'.b, .int .u16 a'.g]] w fun e w' => e = .returned (.int .i64 0) ∧ Hid (EndSt W w' ba a d g n cap tail (deL l col k a') g2 ps) := by
  have hgd := h.good.del col k a'
  have hq := delete_any h.row h.good.whole col k a'
  unfold deL at hgd ⊢
  rw [h.row.len] at hgd ⊢
  exact hq.mono fun e w' ho => h.op hgd ho
end
theorem EndSt.att {W w : World} {ba : Nat} {f b' g' : Int} {d g n cap : Nat} {tail : List Value} {l : List Cel} {g2 : Nat} {ps : List (Cel × Value)} (h : EndSt W w ba ⟨f, b', g'⟩ d g n cap tail l g2 ps) : w.cell? ⟨ba, 0, none⟩ = some (.int .u32 f) ∧ w.cell? ⟨ba, 1, none⟩ = some (.int .u32 b') ∧ w.cell? ⟨ba, 2, none⟩ = some (.int .u16 g') := ⟨h.box.cell 0 rfl, h.box.cell 1 rfl, h.box.cell 2 rfl⟩

set_option maxRecDepth 100000 in
set_option maxHeartbeats 8000000 in
theorem lawBack6 (cols : Int) (_ : (Lit.int .i64 cols).wf = true) (os : List Opr) (hos : ∀ o ∈ os, o.Ok) (ao : Option Addr) (c : Nat) (hc : os.length ≤ c) (hm : c ≤ maxLen) (col : Int) (hcw : (Lit.int .i64 col).wf = true) (x : Int) (hxw : (Lit.int .i64 x).wf = true) (a : At) (_ : a.Ok) (W : World) (hn : OpsAt W ao os) :
    Calls Try.prog 5 #[.int .i64 cols, .slice ao os.length c, .int .i64 col, .int .i64 x, .agg (attV a).toArray] W fun e w' => e = .returned (.bool true) ∧ Below W.heap.size W w' := by
  unfold maxLen at hm
  obtain ⟨N, hN⟩ : ∃ N, N = os.length := ⟨_, rfl⟩
  rw [← hN] at hc ⊢
  have hkn := Lib.hid (fun w => known_any w)
  obtain ⟨af, ab, ag⟩ := a
  have hbx := Block.made W 34 (attV ⟨af, ab, ag⟩).toArray
  have hV : (attV ⟨af, ab, ag⟩).toArray = #[.int .u32 af, .int .u32 ab, .int .u16 ag] := rfl
  have hbn := below_new W (.cells #[.int .u32 af, .int .u32 ab, .int .u16 ag] 34)
  rw [hV] at hbx ⊢
  clear hV
  by_cases hcol : cols < 1 ∨ 512 < cols
  · have hnew := Lib.hid (fun w => new_no cols hcol w)
    clear hos hn hN hcol hbx
    go_enter Try.func5, Try.ntmps5
    go_wp2_with (first
      | (go_at_call 7; (with_reducible refine (hnew.out _).mono ?_); rintro e w' ⟨rfl, rfl⟩)
      | (go_at_call 9; (with_reducible refine (hkn.out _).mono ?_); rintro e w1 ⟨rfl, hb1⟩))
    go_ret
    exact ⟨rfl, below_next hbn hb1⟩
  obtain ⟨n, rfl⟩ := Int.eq_ofNat_of_zero_le (show 0 ≤ cols by omega)
  have hn1 : 1 ≤ n := by omega
  have hn5 : n ≤ 512 := by omega
  have hnew := Lib.hid (fun w => new_yes n hn1 hn5 w)
  clear hcol
  by_cases hbig : 60 < N ∨ 100 < n
  · clear hos hn hN hbx
    by_cases hl : 60 < N
    · have e1 : (60 : Int) < (N : Int) := by omega
      go_enter Try.func5, Try.ntmps5
      go_wp2_with (first
        | (go_at_call 7; (with_reducible refine (hnew.out _).mono ?_); rintro e w1 ⟨d, g, rfl, hr1, hb1, hd1, hg1⟩)
        | (go_at_call 9; (with_reducible refine (hkn.out _).mono ?_); rintro e w2 ⟨rfl, hb2⟩))
      go_ret
      exact ⟨rfl, below_next (below_next hbn hb1) hb2⟩
    · have e1 : ¬ (60 : Int) < (N : Int) := by omega
      have e2 : (100 : Int) < (n : Int) := by omega
      go_enter Try.func5, Try.ntmps5
      go_wp2_with (first
        | (go_at_call 7; (with_reducible refine (hnew.out _).mono ?_); rintro e w1 ⟨d, g, rfl, hr1, hb1, hd1, hg1⟩)
        | (go_at_call 9; (with_reducible refine (hkn.out _).mono ?_); rintro e w2 ⟨rfl, hb2⟩))
      go_ret
      exact ⟨rfl, below_next (below_next hbn hb1) hb2⟩
  have e1 : ¬ (60 : Int) < (N : Int) := by omega
  have e2 : ¬ (100 : Int) < (n : Int) := by omega
  have hrn := Lib.hid (fun w => rnew_any w 1 (by decide) (by decide))
  replace hos := Lib.hid hos
  replace hn := Lib.hid hn
  replace hN := Lib.hid hN
  replace hbx := Lib.hid hbx
  replace hbn := Lib.hid hbn
  clear hbig
  go_enter Try.func5, Try.ntmps5
  go_wp2_with ((go_at_call 7; (with_reducible refine (hnew.out _).mono ?_); rintro e w1 ⟨d, g, rfl, hr1, hb1, hd1, hg1⟩))
  refine (hrn.out w1).mono ?_
  rintro e w2 ⟨rfl, hr2, hb2⟩
  have hS : BackSt W w2 W.heap.size ⟨af, ab, ag⟩ n d w1.heap.size _ _ := ⟨law_start hr1 (below_next hbn.out hb1) (by simp at hd1; omega) (by simp at hg1; omega) hr2 hb2, (hbx.out.only (Only.of_below hb1 []) (by simp)).only (Only.of_below hb2 []) (by simp), fun c hc => by rw [(List.mem_replicate.1 hc).2]; rfl, by simp⟩
  replace hS := Lib.hid hS
  obtain ⟨dr, hdr⟩ : ∃ dr, dr = w1.heap.size := ⟨_, rfl⟩
  obtain ⟨ba, hba⟩ : ∃ ba, ba = W.heap.size := ⟨_, rfl⟩
  rw [← hdr] at hS
  rw [← hdr]
  have hS' : ∃ l l2, Hid (BackSt W w2 ba ⟨af, ab, ag⟩ n d dr l l2) := ⟨_, _, by rw [hba]; exact hS⟩
  rw [← hba]
  replace hba := Lib.hid hba
  obtain ⟨l0, l20, hS0⟩ := hS'
  clear hr1 hb1 hd1 hg1 hr2 hb2 hnew hrn hdr hbx hbn hS
  go_wp2_with fail
  go_loopw [45] (fun i wr => ∃ (k : Nat) (l l2 : List Cel), k ≤ N ∧ i = .int .i64 k ∧ Hid (BackSt W wr ba ⟨af, ab, ag⟩ n d dr l l2)) (fun i _ => N - (intOf i).toNat)
  case atStart => exact ⟨0, _, _, Nat.zero_le _, rfl, hS0⟩
  case round =>
    obtain ⟨k, l, l2, hk, rfl, hR⟩ := hrel
    clear hS0
    by_cases hlt : k < N
    · have hko : k < os.length := by rw [← hN.out]; exact hlt
      have hok := hos.out _ (List.getElem_mem hko)
      obtain ⟨ad, rfl, had, hld⟩ := (hn.out.below hR.out.law.below) k _ (List.getElem?_eq_getElem hko)
      generalize os[k] = o at hok hld
      have hz := Lib.hid (op_zero wr)
      have hwl := hR.out.law.below.size
      have hki : (k : Int) < (N : Int) := by omega
      obtain ⟨ok, oc, on, or', ow, ⟨of', ob, og⟩⟩ := o
      replace hld := Lib.hid hld
      replace hok := Lib.hid hok
      clear had
      go_upto_region 8 with (first
        | (with_reducible show wpList _ _ _ (⟨some 48, .load _ (.tmp 47), _, _, _, _⟩ :: _) _ _; go_must (refine wpList_loadAt rfl 36 (.tmp 47) rfl (ad.add (k * 8)) rfl _ _ hld.out Try.underlying36 rfl (op_info _) ?_))
        | (with_reducible show wpList _ _ _ (⟨none, .store _ (.tmp 15) _, _, _, _, _⟩ :: _) _ _; go_must (refine wpList_storeN rfl 36 (.tmp 15) (.tmp 48) rfl (g := wr.heap.size) (i := 0) hz.out (opV ⟨ok, oc, on, or', ow, ⟨of', ob, og⟩⟩) rfl rfl (by simp [opV_length]) (op_info _) (op_one _) ?_); intro w3 hr3 ho3; go_frame))
      have hR3 := Lib.hid (hR.out.stay (below_fresh ho3))
      obtain ⟨b9, hb9⟩ : ∃ b9, b9 = wr.heap.size := ⟨_, rfl⟩
      have hb15 : Block w3 wr.heap.size 36 (opV ⟨ok, oc, on, or', ow, ⟨of', ob, og⟩⟩).toArray := hr3.out
      rw [← hb9] at hb15
      rw [← hb9]
      have c0 : w3.cell? ⟨b9, 0, none⟩ = some (.int .i64 ok) := hb15.cell 0 rfl
      replace hb9 := Lib.hid hb9
      clear hr3 ho3 hR hz hld
      by_cases h6 : ok = 6
      · subst h6
        go_wp2_with fail
        clear c0 hb15
        go_roundw
        case rel => exact ⟨k + 1, _, _, by omega, by go_num, hR3⟩
        case measure => simp [intOf]; omega
      have h6' : (ok == 6) = false := by simpa using h6
      have hb15' : Block w3 b9 36 #[.int .i64 ok, .int .i64 oc, .int .i64 on, .int .i32 or', .bool ow, .int .u32 of', .int .u32 ob, .int .u16 og] := hb15
      go_upto_region 10 with ((with_reducible show wpList _ _ _ (⟨none, .store _ (.tmp 52) _, _, _, _, _⟩ :: _) _ _; go_must (refine wpList_store1 rfl _ (.tmp 52) (.const (.bool false)) rfl hb15' (.bool _) rfl rfl (by simp) (by exact infoBool) rfl ?_); intro w4 hb4 ho4; go_frame))
      have hb4' : Block w4 b9 36 (opV ⟨ok, oc, on, or', false, ⟨of', ob, og⟩⟩).toArray := hb4
      have hR4 := Lib.hid (hR3.out.kept hb15' (by rw [hb9.out]; exact hwl) ho4)
      clear hb15' hb15 hb4 ho4 hR3 c0
      go_wp2_with ((with_reducible show wpList _ _ _ (⟨some 55, .load _ (.tmp 15), _, _, _, _⟩ :: _) _ _; go_must (refine wpList_loadAt rfl 36 (.tmp 15) rfl ⟨b9, 0, none⟩ rfl (opV ⟨ok, oc, on, or', false, ⟨of', ob, og⟩⟩) _ (op_load hb4') Try.underlying36 rfl (op_info _) ?_)))
      refine (law_do hR4.out.law.two ⟨ok, oc, on, or', false, ⟨of', ob, og⟩⟩ hok.out).mono ?_
      rintro e w5 ⟨bq, rfl, _, hT, hF⟩
      have hR5 := Lib.hid (hR4.out.step hT hF (narrow_do hR4.out.narrow ⟨ok, oc, on, or', false, ⟨of', ob, og⟩⟩ rfl) (len_do ⟨ok, oc, on, or', false, ⟨of', ob, og⟩⟩ h6))
      clear hT hF hR4 hb4' hb9 hok
      go_wp2_with fail
      go_roundw
      case rel => exact ⟨k + 1, _, _, by omega, by go_num, hR5⟩
      case measure => simp [intOf]; omega
    · clear hos hn
      have hlt' : ¬ (k : Int) < (N : Int) := by omega
      have hR := hR.out
      have hlen := hR.len
      have hnar := hR.narrow
      obtain ⟨g, n', cap, tail, hX, hg, hd⟩ := hR.law.two.prog
      obtain rfl : n' = n := hX.len.symm.trans hlen
      have hgd := hR.law.two.good
      have hcs := cells_any hX (fun c hc => (hgd.cell c hc).four)
      have hbox := hR.box
      have hbel := hR.law.below
      have hwl := hbel.size
      go_wp2_with fail
      refine hcs.mono ?_
      rintro e w1 ⟨g2, ps, rfl, hA, hmap, hb1, hg2⟩
      have hE1 : EndSt W w1 ba ⟨af, ab, ag⟩ d g n' cap tail l g2 ps := ⟨hX.below hb1, hgd, hbox.only (Only.of_below hb1 []) (by simp), hA.lower hwl, below_next hbel hb1, hg⟩
      have hback := back hnar col x ⟨af, ab, ag⟩
      have hn3 : Narrow (inL l col x ⟨af, ab, ag⟩) := all_in keeps_narrow hnar
      rw [hlen] at hback
      replace hE1 := Lib.hid hE1
      replace hmap := Lib.hid hmap
      clear hR hX hcs hbox hbel hA hb1 hg2 hgd hg hd
      obtain ⟨a0, a1, a2⟩ := hE1.out.att
      go_wp2_with fail
      refine (hE1.out.insert col x ⟨af, ab, ag⟩).mono ?_
      rintro e w3 ⟨rfl, hE3⟩
      clear hE1 a0 a1 a2
      obtain ⟨a0, a1, a2⟩ := hE3.out.att
      go_wp2_with fail
      refine (hE3.out.delete col x ⟨af, ab, ag⟩).mono ?_
      rintro e w4 ⟨rfl, hE4⟩
      rw [hback] at hE4
      clear hE3 a0 a1 a2 hn3 hback
      obtain ⟨q, hq⟩ : ∃ q, q = heldF x (n' - heldF col n') := ⟨_, rfl⟩
      obtain ⟨p, hp⟩ : ∃ p, p = heldF col n' := ⟨_, rfl⟩
      have hpn : p ≤ n' := by rw [hp]; exact held_le _ _
      have hqn : q ≤ n' - p := by rw [hq, ← hp]; exact held_le _ _
      rw [← hq] at hE4
      obtain ⟨a0, a1, a2⟩ := hE4.out.att
      have hcs := cells_any hE4.out.row (fun c hc => (hE4.out.good.cell c hc).four)
      go_wp2_with fail
      refine hcs.mono ?_
      rintro e w5 ⟨g3, ps3, rfl, hA3, hmap3, hb5, hg3⟩
      clear a0 a1 a2
      have hE5 := Lib.hid (hE4.out.stay hb5)
      replace hA3 := Lib.hid hA3
      replace hmap3 := Lib.hid hmap3
      have hE4lo := Nat.le_trans hE4.out.below.size (Nat.le_refl _)
      clear hcs hE4 hb5 hg3
      go_upto_region 16 with (fail)
      have hpI : (if (n' : Int) < if col < 0 then 0 else col then (n' : Int) else if col < 0 then 0 else col) = (p : Int) := by
        rw [hp]; unfold heldF; repeat' split
        all_goals omega
      have hqI : (if ((n' : Int) - (p : Int)) < if x < 0 then 0 else x then (n' : Int) - (p : Int) else if x < 0 then 0 else x) = (q : Int) := by
        rw [hq, ← hp]; unfold heldF; repeat' split
        all_goals omega
      have hpm : p = min col.toNat n' := hp
      have hqm : q = min x.toNat (n' - p) := by rw [hq, ← hp]; rfl
      replace hp := Lib.hid hp
      replace hq := Lib.hid hq
      go_cut [18] from 76 (fun s18 wx => s18 = .int .i64 p ∧ w5 = wx)
      case first =>
        clear hpI hqI
        by_cases q1 : col < 0
        · have hv : Hid ((0 : Int) = (p : Int)) := Lib.hid (by omega)
          clear hpm hqm
          have q2 : ¬ ((n' : Int)) < 0 := by omega
          go_wp2_with fail
          go_meet
          exact ⟨congrArg (Value.int .i64) hv.out, rfl⟩
        · by_cases q2 : (n' : Int) < col
          · have hv : Hid ((n' : Int) = (p : Int)) := Lib.hid (by omega)
            clear hpm hqm
            go_wp2_with fail
            go_meet
            exact ⟨congrArg (Value.int .i64) hv.out, rfl⟩
          · have hv : Hid (col = (p : Int)) := Lib.hid (by omega)
            clear hpm hqm
            go_wp2_with fail
            go_meet
            exact ⟨congrArg (Value.int .i64) hv.out, rfl⟩
      case rest =>
      obtain ⟨rfl, rfl⟩ := hcut
      clear hpI
      go_upto_region 17 with (fail)
      go_cut [19] from 76 (fun s19 wx => s19 = .int .i64 q ∧ w5 = wx)
      case first =>
        clear hqI
        by_cases q1 : x < 0
        · have hv : Hid ((0 : Int) = (q : Int)) := Lib.hid (by omega)
          clear hpm hqm
          have q2 : ¬ ((n' : Int) - (p : Int)) < 0 := by omega
          go_wp2_with fail
          go_meet
          exact ⟨congrArg (Value.int .i64) hv.out, rfl⟩
        · by_cases q2 : (n' : Int) - (p : Int) < x
          · have hv : Hid ((n' : Int) - (p : Int) = (q : Int)) := Lib.hid (by omega)
            clear hpm hqm
            go_wp2_with fail
            go_meet
            exact ⟨congrArg (Value.int .i64) hv.out, rfl⟩
          · have hv : Hid (x = (q : Int)) := Lib.hid (by omega)
            clear hpm hqm
            go_wp2_with fail
            go_meet
            exact ⟨congrArg (Value.int .i64) hv.out, rfl⟩
      case rest =>
      obtain ⟨rfl, rfl⟩ := hcut
      clear hqI
      obtain ⟨m, hm'⟩ : ∃ m, m = n' - q := ⟨_, rfl⟩
      have hsub : (n' : Int) - (q : Int) = (m : Int) := by omega
      have hmn : m ≤ n' := by omega
      have hmI : (m : Int) ≤ (n' : Int) := by omega
      have h0m : (0 : Int) ≤ (m : Int) := by omega
      have hn0 : 0 < n' := hE5.out.row.pos
      have hne : n' ≠ 0 := by omega
      clear hpm hqm
      have hn5' : n' ≤ 512 := hE5.out.row.small
      have hpl : ps.length = n' := by have := congrArg List.length hmap.out; simpa [hlen] using this
      rw [← hm'] at hE5 hmap3
      have hlt : (l.take m).length = m := by simp; omega
      have hL : (l.take m ++ List.replicate q (clr ⟨af, ab, ag⟩)).length = n' := by rw [List.length_append, hlt, List.length_replicate]; omega
      have hpl3 : ps3.length = n' := by have := congrArg List.length hmap3.out; rw [List.length_map, hL] at this; exact this
      have hps4 : ∀ p ∈ ps3, p.1.m.length ≤ 4 := fun p hp => (hE5.out.good.cell _ (by rw [← hmap3.out]; exact List.mem_map_of_mem hp)).four
      have hfst : (ps.take m).map (·.1) = (ps3.take m).map (·.1) := by
        rw [List.map_take, List.map_take, hmap.out, hmap3.out, List.take_append_of_le_length (by omega), List.take_take, Nat.min_self]
      have hsame : ∀ w', Below w5.heap.size w5 w' → Calls Try.prog 21 #[.slice (some ⟨g3, 0, none⟩) m n', .slice (some ⟨g2, 0, none⟩) m n'] w' fun e w'' => e = .returned (.bool true) ∧ Below w5.heap.size w5 w'' := fun w' hb =>
        (same_any (api_first (hA3.out.below hb) hn0 hpl3 m hmn) (api_first (hE5.out.stay hb).api hn0 hpl m hmn) (by simp; omega) hfst (by omega) (fun p hp => hps4 p (List.mem_of_mem_take hp))).mono fun e w'' ho => ⟨ho.1, below_next hb ho.2⟩
      have hwr2 : IntKind.i64.wrap (m : Int) = (m : Int) := IntWalk.i64_in _ (by omega)
      have hwr : IntKind.i64.wrap ((n' : Int) - (q : Int)) = (m : Int) := by rw [hsub, hwr2]
      have hsl3 := first_any g3 n' m n' hmn
      have hsl2 := first_any g2 n' m n' hmn
      have hbd : Below w5.heap.size w5 w5.drew := below_dr (a := w5) (b := w5) (Below.refl w5.heap.size w5) 1
      replace hsame := Lib.hid hsame
      replace hps4 := Lib.hid hps4
      replace hlt := Lib.hid hlt
      replace hL := Lib.hid hL
      replace hm' := Lib.hid hm'
      replace hfst := Lib.hid hfst
      go_wp2_with fail
      go_region_held3 (fun _ => True) (exact trivial) (first
        | (go_at_call 21; with_reducible refine (hsame.out _ hbd).mono ?_; rintro e w6 ⟨rfl, hb6⟩))
      have hE6 := Lib.hid (And.intro (hE5.out.stay hb6) ((hA3.out.below hb6).lower (B' := W.heap.size) hE4lo))
      clear hb6 hbd hsame hE5 hA3 hfst
      go_wp2_with fail
      go_loopw [20] (fun i wr => ∃ j : Nat, m ≤ j ∧ j ≤ n' ∧ i = .int .i64 j ∧ Hid (EndSt W wr ba ⟨af, ab, ag⟩ d g n' cap tail (l.take m ++ List.replicate q (clr ⟨af, ab, ag⟩)) g2 ps ∧ Api W.heap.size wr (.slice (some ⟨g3, 0, none⟩) n' n') ps3)) (fun i _ => n' - (intOf i).toNat)
      case atStart => exact ⟨m, Nat.le_refl _, hmn, rfl, hE6⟩
      case round =>
        obtain ⟨j, hmj, hjn, rfl, hR⟩ := hrel
        obtain ⟨hE, hA⟩ := hR.out
        clear hE6 hR
        by_cases hlj : j < n'
        · have hjp : j < ps3.length := by omega
          have hcel : ps3[j].1 = clr ⟨af, ab, ag⟩ := by
            have e : (ps3.map (·.1))[j]? = some (clr ⟨af, ab, ag⟩) := by
              rw [hmap3.out, List.getElem?_append_right (by rw [hlt.out]; exact hmj), hlt.out, List.getElem?_replicate, if_pos (by omega)]
            rw [List.getElem?_map, List.getElem?_eq_getElem hjp] at e
            simpa using e
          have hown := hA.comb _ (List.getElem_mem hjp)
          have hsix := fun w' (hb : Below wr.heap.size wr w') => api6 (hA.below hb) hjp
          have hatt := fun w' (hb : Below wr.heap.size wr w') => (hE.stay hb).att
          generalize ps3[j] = pj at hcel hown hsix
          obtain ⟨cj, v⟩ := pj
          simp only at hcel
          subst hcel
          simp only [clr] at hsix hown
          have hcc : ∀ w', Below wr.heap.size wr w' → (w'.cell? ⟨ba, 0, none⟩ = some (.int .u32 af) ∧ w'.cell? ⟨ba, 1, none⟩ = some (.int .u32 ab) ∧ w'.cell? ⟨ba, 2, none⟩ = some (.int .u16 ag)) ∧ w'.cell? ⟨g3, j * 6, none⟩ = some (.int .i32 32) ∧ w'.cell? ⟨g3, j * 6 + 1, none⟩ = some v ∧ w'.cell? ⟨g3, j * 6 + 2, none⟩ = some (.int .u8 0) ∧ w'.cell? ⟨g3, j * 6 + 3, none⟩ = some (.int .u32 0) ∧ w'.cell? ⟨g3, j * 6 + 4, none⟩ = some (.int .u32 ab) ∧ w'.cell? ⟨g3, j * 6 + 5, none⟩ = some (.int .u16 0) := fun w' hb => ⟨hatt w' hb, hsix w' hb⟩
          have hcl : ∀ w', Below wr.heap.size wr w' → Calls Try.prog 23 #[.agg #[.int .u32 af, .int .u32 ab, .int .u16 ag]] w' fun e w'' => e = .returned (.agg #[.int .i32 32, .slice none 0 0, .int .u8 0, .int .u32 0, .int .u32 ab, .int .u16 0]) ∧ Below wr.heap.size wr w'' := fun w' hb => (clear_any ⟨af, ab, ag⟩ w').mono fun e w'' ho => ⟨ho.1, below_next hb ho.2⟩
          have hsc : ∀ w', Below wr.heap.size wr w' → Calls Try.prog 22 #[.agg #[.int .i32 32, v, .int .u8 0, .int .u32 0, .int .u32 ab, .int .u16 0], .agg #[.int .i32 32, .slice none 0 0, .int .u8 0, .int .u32 0, .int .u32 ab, .int .u16 0]] w' fun e w'' => e = .returned (.bool true) ∧ Below wr.heap.size wr w'' := fun w' hb =>
            (samecell_any ⟨32, [], 0, ⟨0, ab, 0⟩⟩ v (.slice none 0 0) w' (hown.only (Only.of_below hb []) (by simp)) (own_nil w' 0) (Nat.zero_le _)).mono fun e w'' ho => ⟨ho.1, below_next hb ho.2⟩
          have hnx : ∀ w', Below wr.heap.size wr w' → Hid (EndSt W w' ba ⟨af, ab, ag⟩ d g n' cap tail (l.take m ++ List.replicate q (clr ⟨af, ab, ag⟩)) g2 ps ∧ Api W.heap.size w' (.slice (some ⟨g3, 0, none⟩) n' n') ps3) := fun w' hb => Lib.hid ⟨hE.stay hb, hA.below hb⟩
          have hbr : Below wr.heap.size wr wr := Below.refl _ _
          have hbd : Below wr.heap.size wr wr.drew := below_dr (a := wr) (b := wr) (Below.refl wr.heap.size wr) 1
          have hjI : (j : Int) < (n' : Int) := by omega
          replace hcc := Lib.hid hcc
          replace hcl := Lib.hid hcl
          replace hsc := Lib.hid hsc
          replace hnx := Lib.hid hnx
          clear hE hA hown hsix hatt
          go_wp2_with fail
          go_region_held3 (fun w' => (w'.cell? ⟨ba, 0, none⟩ = some (.int .u32 af) ∧ w'.cell? ⟨ba, 1, none⟩ = some (.int .u32 ab) ∧ w'.cell? ⟨ba, 2, none⟩ = some (.int .u16 ag)) ∧ w'.cell? ⟨g3, j * 6, none⟩ = some (.int .i32 32) ∧ w'.cell? ⟨g3, j * 6 + 1, none⟩ = some v ∧ w'.cell? ⟨g3, j * 6 + 2, none⟩ = some (.int .u8 0) ∧ w'.cell? ⟨g3, j * 6 + 3, none⟩ = some (.int .u32 0) ∧ w'.cell? ⟨g3, j * 6 + 4, none⟩ = some (.int .u32 ab) ∧ w'.cell? ⟨g3, j * 6 + 5, none⟩ = some (.int .u16 0))
            (first | exact hcc.out _ hbr | exact hcc.out _ hbd | exact hcc.out _ hb7 | exact hcc.out _ hb8)
            (first
              | (go_at_call 23; with_reducible refine (hcl.out _ hbd).mono ?_; rintro e w7 ⟨rfl, hb7⟩)
              | (go_at_call 22; with_reducible refine (hsc.out _ hb7).mono ?_; rintro e w8 ⟨rfl, hb8⟩))
          have hn8 := hnx.out _ hb8
          clear hb7 hb8 hnx hsc hcl hcc hbr hbd
          go_wp2_with fail
          go_roundw
          case rel => exact ⟨j + 1, by omega, by omega, by go_num, hn8⟩
          case measure => simp [intOf]; omega
        · obtain rfl : j = n' := by omega
          have hb1 := blank'_any hE.row (j : Int)
          have hb2 := fun w' (hb : Below wr.heap.size wr w') => blank'_any (hE.row.below hb) (m : Int)
          have f1 : blankF (l.take m ++ List.replicate q (clr ⟨af, ab, ag⟩)) (j : Int) = true := blankF_true (fun i hi hle => by rw [hL.out] at hi; omega)
          have f2 : blankF (l.take m ++ List.replicate q (clr ⟨af, ab, ag⟩)) (m : Int) = true := blankF_true (fun i hi hle => by
            have e : (l.take m ++ List.replicate q (clr ⟨af, ab, ag⟩))[i]? = some (clr ⟨af, ab, ag⟩) := by
              rw [hL.out] at hi
              rw [List.getElem?_append_right (by rw [hlt.out]; omega), hlt.out, List.getElem?_replicate, if_pos (by omega)]
            rw [List.getElem?_eq_getElem hi] at e
            rw [Option.some.inj e]
            rfl)
          rw [f1] at hb1
          simp only [f2] at hb2
          have hbel := hE.below
          replace hb1 := Lib.hid hb1
          replace hb2 := Lib.hid hb2
          replace hbel := Lib.hid hbel
          clear hE hA f1 f2
          go_wp2_with fail
          refine hb1.out.mono ?_
          rintro e w7 ⟨rfl, hb7⟩
          go_wp2_with fail
          refine (hb2.out _ hb7).mono ?_
          rintro e w8 ⟨rfl, hb8⟩
          go_wp2_with ((go_at_call 9; (with_reducible refine (hkn.out _).mono ?_); rintro e w9 ⟨rfl, hb9⟩))
          go_ret
          exact ⟨rfl, below_next (below_next (below_next hbel.out hb7) hb8) hb9⟩
end Go.Proofs.Ytnnaagkdlmamjaa.Rw
