/-
  row: the law that plays any calls on the program's row and on the reference's.
-/
import Derived.Test.YtnnaagkdlmamjaaRWho
import Derived.Test.YtnnaagkdlmamjaaRSm
namespace Go.Proofs.Ytnnaagkdlmamjaa.Rw
open Go Go.RowKit Go.Proofs.Ytnnaagkdlmamjaa.Com
set_option linter.unusedVariables false

/-- The copy goes on, the old one is spoilt. -/
structure CpSt (W : World) (b : Nat) (o : Opr) (w : World) (d g n cap : Nat) (tail : List Value) (lo : List Cel) (d2 g2 n2 cap2 : Nat) (tail2 : List Value) (dr : Nat) (l l2 : List Cel) : Prop where
  old : RowX w d g n cap tail lo
  goodo : Good lo
  new : RowX w d2 g2 n2 cap2 tail2 l
  ref : RefIn W.heap.size w dr l2
  ne : g ≠ d2 ∧ g ≠ g2
  lo : W.heap.size ≤ g ∧ W.heap.size ≤ d2 ∧ W.heap.size ≤ g2
  good : Good l
  good2 : Good l2
  box : Block w b 36 (opV o).toArray
  below : Below W.heap.size W w
section
variable {W w w' : World} {b : Nat} {o : Opr} {d g n cap : Nat} {tail : List Value} {lo lo' : List Cel} {d2 g2 n2 cap2 : Nat} {tail2 : List Value} {dr : Nat} {l l2 : List Cel}
theorem CpSt.step (h : CpSt W b o w d g n cap tail lo d2 g2 n2 cap2 tail2 dr l l2) (hr : RowX w' d g n cap tail lo') (hg : Good lo') (ho : Only [g] w w') : Hid (CpSt W b o w' d g n cap tail lo' d2 g2 n2 cap2 tail2 dr l l2) :=
  Lib.hid ⟨hr, hg, h.new.kept ho (by simpa using h.ne.1.symm) (by simpa using h.ne.2.symm), h.ref.fr (Fr.of_only (B := 0) (ts := ts2) ho (fun k hk _ => by
    obtain rfl : k = g := by simpa using hk
    exact ⟨Nat.zero_le _, _, by decide, Block.typ h.old.row⟩)) (by decide) (by decide) (by decide), h.ne, h.lo, h.good, h.good2, h.box.only ho (by simpa using (Block.apart h.old.row h.box (by decide)).symm), h.below.trans (ho.below h.below.size (by simpa using h.lo.1))⟩
theorem CpSt.done (h : CpSt W b o w d g n cap tail lo d2 g2 n2 cap2 tail2 dr l l2) (w0 : World) (hf : w0 = w) : LawSt W w d2 dr l l2 := ⟨⟨⟨g2, n2, cap2, tail2, h.new, h.lo.2.2, h.lo.2.1⟩, h.ref, h.good, h.good2, h.below.size⟩, h.below⟩
theorem CpSt.erase (h : Hid (CpSt W b o w d g n cap tail lo d2 g2 n2 cap2 tail2 dr l l2)) (a : At) :
    Calls Try.prog 13 #[.pointer (some ⟨d, 0, none⟩), .int .i64 0, .int .i64 9, .agg #[.int .u32 a.f, .int .u32 a.b, .int .u16 a.g]] w fun e w' => (∃ v, e = .returned v) ∧ ∃ lo', Hid (CpSt W b o w' d g n cap tail lo' d2 g2 n2 cap2 tail2 dr l l2) := by
  have hgd := h.out.goodo.era 0 9 a
  have hq := erase_any h.out.old h.out.goodo.whole 0 9 a
  unfold eraL at hgd
  rw [h.out.old.len] at hgd
  exact hq.mono fun e w' ho => ⟨⟨_, ho.1⟩, _, h.out.step ho.2.1 hgd ho.2.2⟩
theorem CpSt.put (h : Hid (CpSt W b o w d g n cap tail lo d2 g2 n2 cap2 tail2 dr l l2)) (a : At) :
    Calls Try.prog 14 #[.pointer (some ⟨d, 0, none⟩), .int .i64 0, .int .i32 122, .bool false, .agg #[.int .u32 a.f, .int .u32 a.b, .int .u16 a.g]] w fun e w' => (∃ v, e = .returned v) ∧ ∃ lo', Hid (CpSt W b o w' d g n cap tail lo' d2 g2 n2 cap2 tail2 dr l l2) := by
  have hp := h.out.old.pos
  have hl := h.out.old.len
  have hgd := h.out.goodo.put 0 122 false a
  rw [show putL lo 0 122 false a = setL lo 0 (cellsPut 122 false a) from if_pos ⟨rfl, by omega, by rw [show ((cellsPut 122 false a).length : Int) = 1 from rfl]; omega⟩] at hgd
  exact (put_yes h.out.old h.out.goodo.whole 0 122 false a rfl (by rw [show (cellsPut 122 false a).length = 1 from rfl]; omega)).mono fun e w' ho => ⟨⟨_, ho.1⟩, _, h.out.step ho.2.1 hgd ho.2.2⟩
theorem CpSt.join (h : Hid (CpSt W b o w d g n cap tail lo d2 g2 n2 cap2 tail2 dr l l2)) :
    Calls Try.prog 15 #[.pointer (some ⟨d, 0, none⟩), .int .i64 0, .int .i32 769] w fun e w' => (∃ v, e = .returned v) ∧ ∃ lo', Hid (CpSt W b o w' d g n cap tail lo' d2 g2 n2 cap2 tail2 dr l l2) := by
  have hp := h.out.old.pos
  have hl := h.out.old.len
  have hgd := h.out.goodo.joi 0 769
  rw [show joiL lo 0 769 = joinL lo 0 769 from if_pos ⟨rfl, by omega, by omega⟩] at hgd
  exact (join_yes h.out.old h.out.goodo.whole (fun c hc => (h.out.goodo.cell c hc).four) 0 769 rfl hp).mono fun e w' ho => ⟨⟨_, ho.1⟩, _, h.out.step ho.2.1 hgd ho.2.2⟩
theorem CpSt.cellsH (h : Hid (CpSt W b o w d g n cap tail lo d2 g2 n2 cap2 tail2 dr l l2)) : w.cell? ⟨b, 1, none⟩ = some (.int .i64 o.col) ∧ w.cell? ⟨b, 5, none⟩ = some (.int .u32 o.a.f) ∧ w.cell? ⟨b, 6, none⟩ = some (.int .u32 o.a.b) ∧ w.cell? ⟨b, 7, none⟩ = some (.int .u16 o.a.g) := ⟨h.out.box.cell 1 rfl, h.out.box.cell 5 rfl, h.out.box.cell 6 rfl, h.out.box.cell 7 rfl⟩
theorem law_copy {w0 : World} (h : DoSt W.heap.size w0 w d dr b o l l2) (hb : Below W.heap.size W w) :
    Calls Try.prog 12 #[.pointer (some ⟨d, 0, none⟩)] w fun e w' => ∃ g n cap tail lo d2 g2 n2 cap2 tail2, e = .returned (.pointer (some ⟨d2, 0, none⟩)) ∧ Hid (CpSt W b o w' d g n cap tail lo d2 g2 n2 cap2 tail2 dr l l2) := by
  obtain ⟨g, n, cap, tail, hr, hg, hd⟩ := h.two.prog
  refine (copy_any hr).mono fun e w' ho => ?_
  obtain ⟨d2, g2, cap2, tail2, rfl, hr2, hb2, hd2, hg2⟩ := ho
  have hlt := hr.row.lt
  have hB := h.two.hB
  exact ⟨g, n, cap, tail, l, d2, g2, n, cap2, tail2, rfl, Lib.hid ⟨hr.below hb2, h.two.good, hr2, (h.two.below hb2).ref, ⟨by omega, by omega⟩, ⟨hg, by omega, by omega⟩, h.two.good, h.two.good2, h.box.only (Only.of_below hb2 []) (by simp), below_next hb hb2⟩⟩
end

set_option maxRecDepth 100000 in
set_option maxHeartbeats 8000000 in
theorem lawPlays6 (cols : Int) (_ : (Lit.int .i64 cols).wf = true) (os : List Opr) (hos : ∀ o ∈ os, o.Ok) (ao : Option Addr) (c : Nat) (hc : os.length ≤ c) (hm : c ≤ maxLen) (W : World) (hn : OpsAt W ao os) :
    Calls Try.prog 3 #[.int .i64 cols, .slice ao os.length c] W fun e w' => e = .returned (.bool true) ∧ Below W.heap.size W w' := by
  unfold maxLen at hm
  obtain ⟨N, hN⟩ : ∃ N, N = os.length := ⟨_, rfl⟩
  rw [← hN] at hc ⊢
  have hkn := Lib.hid (fun w => known_any w)
  by_cases hcol : cols < 1 ∨ 512 < cols
  · have hnew := Lib.hid (new_no cols hcol W)
    have hmay := may_any cols
    rw [decide_eq_false (by omega)] at hmay
    replace hmay := Lib.hid hmay
    clear hos hn hN hcol
    go_enter Try.func3, Try.ntmps3
    go_wp2_with (first
      | (go_at_call 7; (with_reducible refine (hnew.out).mono ?_); rintro e w' ⟨rfl, rfl⟩)
      | (go_at_call 8; (with_reducible refine (hmay.out _).mono ?_); rintro e w' ⟨rfl, rfl⟩)
      | (go_at_call 9; (with_reducible refine (hkn.out _).mono ?_); rintro e w1 ⟨rfl, hb1⟩))
    go_ret
    exact ⟨rfl, hb1⟩
  obtain ⟨n, rfl⟩ := Int.eq_ofNat_of_zero_le (show 0 ≤ cols by omega)
  have hn1 : 1 ≤ n := by omega
  have hn5 : n ≤ 512 := by omega
  have hnew := Lib.hid (new_yes n hn1 hn5 W)
  have hmay := may_any (n : Int)
  rw [decide_eq_true (by omega)] at hmay
  replace hmay := Lib.hid hmay
  clear hcol
  by_cases hbig : 60 < N ∨ 100 < n
  · clear hos hn hN
    by_cases hl : 60 < N
    · have e1 : (60 : Int) < (N : Int) := by omega
      go_enter Try.func3, Try.ntmps3
      go_wp2_with (first
        | (go_at_call 7; (with_reducible refine (hnew.out).mono ?_); rintro e w1 ⟨d, g, rfl, hr1, hb1, hd1, hg1⟩)
        | (go_at_call 8; (with_reducible refine (hmay.out _).mono ?_); rintro e w' ⟨rfl, rfl⟩)
        | (go_at_call 9; (with_reducible refine (hkn.out _).mono ?_); rintro e w2 ⟨rfl, hb2⟩))
      go_ret
      exact ⟨rfl, below_next hb1 hb2⟩
    · have e1 : ¬ (60 : Int) < (N : Int) := by omega
      have e2 : (100 : Int) < (n : Int) := by omega
      go_enter Try.func3, Try.ntmps3
      go_wp2_with (first
        | (go_at_call 7; (with_reducible refine (hnew.out).mono ?_); rintro e w1 ⟨d, g, rfl, hr1, hb1, hd1, hg1⟩)
        | (go_at_call 8; (with_reducible refine (hmay.out _).mono ?_); rintro e w' ⟨rfl, rfl⟩)
        | (go_at_call 9; (with_reducible refine (hkn.out _).mono ?_); rintro e w2 ⟨rfl, hb2⟩))
      go_ret
      exact ⟨rfl, below_next hb1 hb2⟩
  have e1 : ¬ (60 : Int) < (N : Int) := by omega
  have e2 : ¬ (100 : Int) < (n : Int) := by omega
  have hrn := Lib.hid (fun w => rnew_any w n hn1 hn5)
  replace hos := Lib.hid hos
  replace hn := Lib.hid hn
  replace hN := Lib.hid hN
  clear hbig
  go_enter Try.func3, Try.ntmps3
  go_wp2_with (first
    | (go_at_call 7; (with_reducible refine (hnew.out).mono ?_); rintro e w1 ⟨d, g, rfl, hr1, hb1, hd1, hg1⟩)
    | (go_at_call 8; (with_reducible refine (hmay.out _).mono ?_); rintro e w' ⟨rfl, rfl⟩))
  refine (hrn.out w1).mono ?_
  rintro e w2 ⟨rfl, hr2, hb2⟩
  have hS := Lib.hid (law_start hr1 hb1 hd1 hg1 hr2 hb2)
  obtain ⟨dr, hdr⟩ : ∃ dr, dr = w1.heap.size := ⟨_, rfl⟩
  rw [← hdr] at hS
  rw [← hdr]
  clear hr1 hb1 hd1 hg1 hr2 hb2 hnew hrn hdr hmay
  go_wp2_with fail
  go_loopw [5, 46] (fun s5 i wr => ∃ (k d : Nat) (l : List Cel), k ≤ N ∧ i = .int .i64 k ∧ s5 = .pointer (some ⟨d, 0, none⟩) ∧ Hid (LawSt W wr d dr l l)) (fun _ i _ => N - (intOf i).toNat)
  case atStart => exact ⟨0, _, _, Nat.zero_le _, rfl, rfl, hS⟩
  case round =>
    obtain ⟨k, d, l, hk, rfl, rfl, hR⟩ := hrel
    clear hS
    by_cases hlt : k < N
    · have hko : k < os.length := by rw [← hN.out]; exact hlt
      have hok := hos.out _ (List.getElem_mem hko)
      obtain ⟨ad, rfl, had, hld⟩ := (hn.out.below hR.out.below) k _ (List.getElem?_eq_getElem hko)
      generalize os[k] = o at hok hld
      have hz := Lib.hid (op_zero wr)
      have hki : (k : Int) < (N : Int) := by omega
      obtain ⟨ok, oc, on, or', ow, ⟨of', ob, og⟩⟩ := o
      replace hld := Lib.hid hld
      replace hok := Lib.hid hok
      clear had
      go_upto_region 12 with (first
        | (with_reducible show wpList _ _ _ (⟨some 49, .load _ (.tmp 48), _, _, _, _⟩ :: _) _ _; go_must (refine wpList_loadAt rfl 36 (.tmp 48) rfl (ad.add (k * 8)) rfl _ _ hld.out Try.underlying36 rfl (op_info _) ?_))
        | (with_reducible show wpList _ _ _ (⟨none, .store _ (.tmp 9) _, _, _, _, _⟩ :: _) _ _; go_must (refine wpList_storeN rfl 36 (.tmp 9) (.tmp 49) rfl (g := wr.heap.size) (i := 0) hz.out (opV ⟨ok, oc, on, or', ow, ⟨of', ob, og⟩⟩) rfl rfl (by simp [opV_length]) (op_info _) (op_one _) ?_); intro w3 hr3 ho3; obtain ⟨hD, hR3⟩ := hR.out.op hr3 (below_fresh ho3); go_frame))
      obtain ⟨b9, hb9⟩ : ∃ b9, b9 = wr.heap.size := ⟨_, rfl⟩
      rw [← hb9] at hD
      rw [← hb9]
      obtain ⟨c0, c1, c2, c3, c4, c5, c6, c7⟩ := hD.cells
      replace hD := Lib.hid hD
      replace hR3 := Lib.hid hR3
      replace hb9 := Lib.hid hb9
      clear hr3 ho3 hR hz hld
      have hmy := may_any on
      by_cases hskip : ok = 6 ∧ 100 < on ∧ on ≤ 512
      · obtain ⟨rfl, hon, hon2⟩ := hskip
        rw [decide_eq_true (by omega)] at hmy
        replace hmy := Lib.hid hmy
        go_wp2_with ((go_at_call 8; (with_reducible refine (hmy.out _).mono ?_); rintro e w' ⟨rfl, rfl⟩))
        clear c0 c1 c2 c3 c4 c5 c6 c7 hD
        go_roundw
        case rel => exact ⟨k + 1, _, _, by omega, by go_num, rfl, hR3⟩
        case measure => simp [intOf]; omega
      have hk6 : (ok == 6) = false ∨ (ok = 6 ∧ ¬ 100 < on) ∨ (ok = 6 ∧ 100 < on ∧ ¬ (1 ≤ on ∧ on ≤ 512)) := by
        by_cases h6 : ok = 6
        · by_cases h100 : 100 < on
          · exact .inr (.inr ⟨h6, h100, fun h => hskip ⟨h6, h100, h.2⟩⟩)
          · exact .inr (.inl ⟨h6, h100⟩)
        · left; simpa using h6
      replace hk6 := Lib.hid hk6
      clear hskip
      go_cut [46, 62] from 46 to 92 (fun s46 s62 wx => s46 = .int .i64 k ∧ s62 = .bool false ∧ w3 = wx)
      case first =>
        rcases hk6.out with h6 | ⟨rfl, h6⟩ | ⟨rfl, h6, hno⟩
        · go_wp2_with fail
          go_meet
          exact ⟨rfl, rfl, rfl⟩
        · go_wp2_with fail
          go_meet
          exact ⟨rfl, rfl, rfl⟩
        · rw [decide_eq_false hno] at hmy
          replace hmy := Lib.hid hmy
          go_wp2_with ((go_at_call 8; (with_reducible refine (hmy.out _).mono ?_); rintro e w' ⟨rfl, rfl⟩))
          go_meet
          exact ⟨rfl, rfl, rfl⟩
      case rest =>
      obtain ⟨rfl, rfl, rfl⟩ := hcut
      clear hk6 hmy
      go_wp2_with (first
        | (with_reducible show wpList _ _ _ (⟨some 65, .load _ (.tmp 9), _, _, _, _⟩ :: _) _ _; go_must (refine wpList_loadAt rfl 36 (.tmp 9) rfl ⟨b9, 0, none⟩ rfl (opV ⟨ok, oc, on, or', ow, ⟨of', ob, og⟩⟩) _ hD.out.load Try.underlying36 rfl (op_info _) ?_)))
      refine (law_do hR3.out.two ⟨ok, oc, on, or', ow, ⟨of', ob, og⟩⟩ hok.out).mono ?_
      rintro e w5 ⟨bq, rfl, hbq, hT, hF⟩
      obtain rfl := hbq rfl
      have hR5 := hR3.out.step hT hF
      have hD5 := hD.out.step hT hF
      clear c0 c1 c2 c3 c4 c5 c6 c7 hD hT hF hok hR3 hb9 hbq
      generalize doL ⟨ok, oc, on, or', ow, ⟨of', ob, og⟩⟩ l = l' at hR5 hD5
      replace hR5 := Lib.hid hR5
      obtain ⟨c0, c1, c2, c3, c4, c5, c6, c7⟩ := DoSt.cellsH hD5
      by_cases h7 : ok = 7
      · subst h7
        go_wp2_with fail
        refine (law_copy hD5.out hR5.out.below).mono ?_
        rintro e w6 ⟨g, n', cap, tail, lo, d2, g2, n2, cap2, tail2, rfl, hC⟩
        clear c0 c1 c2 c3 c4 c5 c6 c7 hD5 hR5
        obtain ⟨c1, c5, c6, c7⟩ := CpSt.cellsH hC
        simp only at c1 c5 c6 c7
        go_wp2_with fail
        refine (CpSt.erase hC ⟨of', ob, og⟩).mono ?_
        rintro e w7 ⟨⟨v7, rfl⟩, lo7, hC7⟩
        clear c1 c5 c6 c7 hC
        obtain ⟨c1, c5, c6, c7⟩ := CpSt.cellsH hC7
        simp only at c1 c5 c6 c7
        go_wp2_with fail
        refine (CpSt.put hC7 ⟨of', ob, og⟩).mono ?_
        rintro e w8 ⟨⟨v8, rfl⟩, lo8, hC8⟩
        clear c1 c5 c6 c7 hC7
        obtain ⟨c1, c5, c6, c7⟩ := CpSt.cellsH hC8
        simp only at c1 c5 c6 c7
        go_wp2_with fail
        refine (CpSt.join hC8).mono ?_
        rintro e w9 ⟨⟨v9, rfl⟩, lo9, hC9⟩
        clear c1 c5 c6 c7 hC8
        obtain ⟨c1, c5, c6, c7⟩ := CpSt.cellsH hC9
        simp only at c1 c5 c6 c7
        have hR9 := Lib.hid (hC9.out.done _ rfl)
        have hsm := Lib.hid (law_same hR9.out.two oc)
        go_wp2_with ((go_at_call 16; (with_reducible refine (hsm.out).mono ?_); rintro e w10 ⟨rfl, hb10⟩))
        have hR10 := Lib.hid (hR9.out.stay hb10)
        clear c1 c5 c6 c7 hC9 hR9 hb10 hsm
        go_roundw
        case rel => exact ⟨k + 1, _, _, by omega, by go_num, rfl, hR10⟩
        case measure => simp [intOf]; omega
      · have h7' : (ok == 7) = false := by simpa using h7
        have hsm := Lib.hid (law_same hR5.out.two oc)
        go_wp2_with ((go_at_call 16; (with_reducible refine (hsm.out).mono ?_); rintro e w6 ⟨rfl, hb6⟩))
        have hR6 := Lib.hid (hR5.out.stay hb6)
        clear c0 c1 c2 c3 c4 c5 c6 c7 hD5 hR5 hb6 hsm
        go_roundw
        case rel => exact ⟨k + 1, _, _, by omega, by go_num, rfl, hR6⟩
        case measure => simp [intOf]; omega
    · replace hR := Lib.hid hR.out.below
      go_wp2_with ((go_at_call 9; (with_reducible refine (hkn.out _).mono ?_); rintro e w2 ⟨rfl, hb2⟩))
      go_ret
      exact ⟨rfl, below_next hR.out hb2⟩
end Go.Proofs.Ytnnaagkdlmamjaa.Rw
