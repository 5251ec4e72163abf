/-
  row: the law that halves stand side by side.
-/
import Derived.Test.YtnnaagkdlmamjaaRDo
import Derived.Test.YtnnaagkdlmamjaaRKnow
import Derived.Test.YtnnaagkdlmamjaaRRNew
import Derived.Test.YtnnaagkdlmamjaaRRSame
namespace Go.Proofs.Ytnnaagkdlmamjaa.Rw
open Go Go.RowKit Go.Proofs.Ytnnaagkdlmamjaa.Com
set_option linter.unusedVariables false

/-- What the law's loop keeps. -/
structure LawSt (W w : World) (d dr : Nat) (l l2 : List Cel) : Prop where
  two : Two W.heap.size w d dr l l2
  below : Below W.heap.size W w
theorem LawSt.step {W w w' : World} {d dr : Nat} {l l2 l' l2' : List Cel} (h : LawSt W w d dr l l2) (h2 : Two W.heap.size w' d dr l' l2') (hf : Fr W.heap.size ts4 w w') : LawSt W w' d dr l' l2' := ⟨h2, h.below.trans (hf.below h.below.size)⟩
theorem LawSt.stay {W w w' : World} {d dr : Nat} {l l2 : List Cel} (h : LawSt W w d dr l l2) (hb : Below w.heap.size w w') : LawSt W w' d dr l l2 := ⟨h.two.below hb, below_next h.below hb⟩
theorem law_start {W w1 w2 : World} {n k : Nat} {d g : Nat} (hr : RowX w1 d g n n [] (List.replicate n (clr zeroAt))) (hb : Below W.heap.size W w1) (hd : W.heap.size ≤ d) (hg : W.heap.size ≤ g) (hr2 : RefIn w1.heap.size w2 w1.heap.size (List.replicate k (clr zeroAt))) (hb2 : Below w1.heap.size w1 w2) :
    LawSt W w2 d w1.heap.size (List.replicate n (clr zeroAt)) (List.replicate k (clr zeroAt)) :=
  ⟨⟨⟨g, n, n, [], hr.below hb2, hg, hd⟩, hr2.lower hb.size, good_new n, good_new k, Nat.le_trans hb.size hb2.size⟩, below_next hb hb2⟩
theorem op_zero (w : World) : Block (w.alloc (.cells #[.int .i64 0, .int .i64 0, .int .i64 0, .int .i32 0, .bool false, .int .u32 0, .int .u32 0, .int .u16 0] 36)) w.heap.size 36 (opV ⟨0, 0, 0, 0, false, ⟨0, 0, 0⟩⟩).toArray := Block.made w _ _
theorem op_info (o : Opr) : (Try.prog.info? 36).map (·.size) = some (opV o).length := by
  rw [opV_length]; kernel_rfl
theorem op_one (o : Opr) : ∀ v ∈ opV o, v.oneCell' = true := by
  intro v hv
  simp only [opV, attV, List.mem_cons, List.not_mem_nil, or_false] at hv
  rcases hv with rfl | rfl | rfl | rfl | rfl | rfl | rfl | rfl <;> rfl
theorem splice_op (o o' : Opr) : splice (opV o) 0 (opV o') = opV o' := rfl
theorem LawSt.op {W w w' : World} {d dr b : Nat} {l l2 : List Cel} {o o0 : Opr} (h : LawSt W w d dr l l2) (hb : Hid (Block w' b 36 (splice (opV o0) 0 (opV o)).toArray)) (ho : Below w.heap.size w w') : DoSt W.heap.size w' w' d dr b o l l2 ∧ LawSt W w' d dr l l2 :=
  ⟨⟨h.two.below ho, hb.out, Fr.refl _ _ _⟩, h.stay ho⟩
theorem DoSt.load {B : Nat} {w0 w : World} {d dr b : Nat} {o : Opr} {l l2 : List Cel} (h : DoSt B w0 w d dr b o l l2) : ∀ j v, (opV o)[j]? = some v → w.cell? ((⟨b, 0, none⟩ : Addr).add j) = some v := fun j v hj => by
  have := h.box.cell j (v := v) (by simpa using hj)
  cases j with
  | zero => simpa [Addr.add] using this
  | succ j => simpa [Addr.add] using this
/-- What is loaded out of the told cells. -/
theorem cel_facts {l : List Cel} (h : Good l) {k : Nat} (hk : k < l.length) : (l[k].wide = 0 ∧ runeB l[k].r = true) ∨ (l[k].wide = 1 ∧ runeB l[k].r = true ∧ ∃ hk' : k + 1 < l.length, l[k + 1].wide = 2 ∧ l[k + 1].a = l[k].a) ∨ (l[k].wide = 2 ∧ l[k].r = 0 ∧ l[k].m = [] ∧ 0 < k ∧ ∃ hk' : k - 1 < l.length, l[k - 1].wide = 1) := by
  have hc := h.cell _ (List.getElem_mem hk)
  have hw := h.whole
  rw [whole_iff] at hw
  rcases hc.wide with h0 | h1 | h2
  · exact .inl ⟨h0, hc.rune (by omega)⟩
  · have e := (hw.2 k).1 (by rw [W_at hk]; exact h1)
    have hk' : k + 1 < l.length := by
      apply Decidable.byContradiction
      intro hn
      rw [W_out (by omega)] at e
      omega
    rw [W_at hk'] at e
    exact .inr (.inl ⟨h1, hc.rune (by omega), hk', e, h.pairs k _ _ (List.getElem?_eq_getElem hk) (List.getElem?_eq_getElem hk') h1 e⟩)
  · obtain ⟨hr, hm⟩ := hc.none h2
    rcases k with _ | k
    · exact absurd (by rw [W_at hk]; exact h2) hw.1
    · have e := (hw.2 k).2 (by rw [W_at hk]; exact h2)
      rw [W_at (by omega)] at e
      exact .inr (.inr ⟨h2, hr, hm, by omega, by omega, e⟩)
theorem Api.six {B : Nat} {w : World} {g n cap : Nat} {ps : List (Cel × Value)} (h : Api B w (.slice (some ⟨g, 0, none⟩) n cap) ps) {i : Nat} (hi : i < ps.length) : (∀ j v, (apiP ps[i])[j]? = some v → w.cell? ((⟨g, i * 6, none⟩ : Addr).add j) = some v) ∧ ps[i].2.oneCell' = true := ⟨h.load hi, Own.one (h.comb _ (List.getElem_mem hi))⟩

set_option maxRecDepth 100000 in
set_option maxHeartbeats 8000000 in
theorem lawWhole6 (cols : Int) (_ : (Lit.int .i64 cols).wf = true) (os : List Opr) (hos : ∀ o ∈ os, o.Ok) (ao : Option Addr) (c : Nat) (hc : os.length ≤ c) (hm : c ≤ maxLen) (W : World) (hn : OpsAt W ao os) :
    Calls Try.prog 4 #[.int .i64 cols, .slice ao os.length c] W fun e w' => e = .returned (.bool true) ∧ Below W.heap.size W w' := by
  unfold maxLen at hm
  obtain ⟨N, hN⟩ : ∃ N, N = os.length := ⟨_, rfl⟩
  rw [← hN] at hc ⊢
  by_cases hcol : cols < 1 ∨ 512 < cols
  · have hnew := Lib.hid (new_no cols hcol W)
    have hkn := Lib.hid (known_any W)
    clear hos hn hN hcol
    go_enter Try.func4, Try.ntmps4
    go_wp2_with (first
      | (go_at_call 7; (with_reducible refine (hnew.out).mono ?_); rintro e w' ⟨rfl, rfl⟩)
      | (go_at_call 9; (with_reducible refine (hkn.out).mono ?_); rintro e w1 ⟨rfl, hb1⟩))
    go_ret
    exact ⟨rfl, hb1⟩
  obtain ⟨n, rfl⟩ := Int.eq_ofNat_of_zero_le (show 0 ≤ cols by omega)
  have hn1 : 1 ≤ n := by omega
  have hn5 : n ≤ 512 := by omega
  have hnew := Lib.hid (new_yes n hn1 hn5 W)
  have hkn := Lib.hid (fun w => known_any w)
  clear hcol
  by_cases hbig : 100 < N ∨ 100 < n
  · clear hos hn hN
    rcases hbig with hbig | hbig
    · have e1 : (100 : Int) < (N : Int) := by omega
      go_enter Try.func4, Try.ntmps4
      go_wp2_with (first
        | (go_at_call 7; (with_reducible refine (hnew.out).mono ?_); rintro e w1 ⟨d, g, rfl, hr1, hb1, hd1, hg1⟩)
        | (go_at_call 9; (with_reducible refine (hkn.out _).mono ?_); rintro e w2 ⟨rfl, hb2⟩))
      go_ret
      exact ⟨rfl, below_next hb1 hb2⟩
    · by_cases hl : 100 < N
      · have e1 : (100 : Int) < (N : Int) := by omega
        go_enter Try.func4, Try.ntmps4
        go_wp2_with (first
          | (go_at_call 7; (with_reducible refine (hnew.out).mono ?_); rintro e w1 ⟨d, g, rfl, hr1, hb1, hd1, hg1⟩)
          | (go_at_call 9; (with_reducible refine (hkn.out _).mono ?_); rintro e w2 ⟨rfl, hb2⟩))
        go_ret
        exact ⟨rfl, below_next hb1 hb2⟩
      · have e1 : ¬ (100 : Int) < (N : Int) := by omega
        have e2 : (100 : Int) < (n : Int) := by omega
        go_enter Try.func4, Try.ntmps4
        go_wp2_with (first
          | (go_at_call 7; (with_reducible refine (hnew.out).mono ?_); rintro e w1 ⟨d, g, rfl, hr1, hb1, hd1, hg1⟩)
          | (go_at_call 9; (with_reducible refine (hkn.out _).mono ?_); rintro e w2 ⟨rfl, hb2⟩))
        go_ret
        exact ⟨rfl, below_next hb1 hb2⟩
  have e1 : ¬ (100 : Int) < (N : Int) := by omega
  have e2 : ¬ (100 : Int) < (n : Int) := by omega
  have hrn := Lib.hid (fun w => rnew_any w 1 (by decide) (by decide))
  replace hos := Lib.hid hos
  replace hn := Lib.hid hn
  replace hN := Lib.hid hN
  clear hbig
  go_enter Try.func4, Try.ntmps4
  go_wp2_with ((go_at_call 7; (with_reducible refine (hnew.out).mono ?_); rintro e w1 ⟨d, g, rfl, hr1, hb1, hd1, hg1⟩))
  refine (hrn.out w1).mono ?_
  rintro e w2 ⟨rfl, hr2, hb2⟩
  have hS := Lib.hid (law_start hr1 hb1 hd1 hg1 hr2 hb2)
  obtain ⟨dr, hdr⟩ : ∃ dr, dr = w1.heap.size := ⟨_, rfl⟩
  rw [← hdr] at hS
  rw [← hdr]
  clear hr1 hb1 hd1 hg1 hr2 hb2 hnew hrn hdr
  go_wp2_with fail
  go_loopw [37] (fun i wr => ∃ (k : Nat) (l l2 : List Cel), k ≤ N ∧ i = .int .i64 k ∧ Hid (LawSt W wr d dr l l2)) (fun i _ => N - (intOf i).toNat)
  case atStart => exact ⟨0, _, _, Nat.zero_le _, rfl, hS⟩
  case round =>
    obtain ⟨k, l, l2, hk, rfl, hR⟩ := hrel
    clear hS
    by_cases hlt : k < N
    · have hko : k < os.length := by rw [← hN.out]; exact hlt
      have hok := hos.out _ (List.getElem_mem hko)
      obtain ⟨ad, rfl, had, hld⟩ := (hn.out.below hR.out.below) k _ (List.getElem?_eq_getElem hko)
      generalize os[k] = o at hok hld
      have hz := Lib.hid (op_zero wr)
      have hki : (k : Int) < (N : Int) := by omega
      obtain ⟨ok, oc, on, or', ow, ⟨of', ob, og⟩⟩ := o
      replace hld := Lib.hid hld
      replace hok := Lib.hid hok
      clear had
      go_upto_region 8 with (first
        | (with_reducible show wpList _ _ _ (⟨some 40, .load _ (.tmp 39), _, _, _, _⟩ :: _) _ _; go_must (refine wpList_loadAt rfl 36 (.tmp 39) rfl (ad.add (k * 8)) rfl _ _ hld.out Try.underlying36 rfl (op_info _) ?_))
        | (with_reducible show wpList _ _ _ (⟨none, .store _ (.tmp 9) _, _, _, _, _⟩ :: _) _ _; go_must (refine wpList_storeN rfl 36 (.tmp 9) (.tmp 40) rfl (g := wr.heap.size) (i := 0) hz.out (opV ⟨ok, oc, on, or', ow, ⟨of', ob, og⟩⟩) rfl rfl (by simp [opV_length]) (op_info _) (op_one _) ?_); intro w3 hr3 ho3; obtain ⟨hD, hR3⟩ := hR.out.op hr3 (below_fresh ho3); go_frame))
      obtain ⟨b9, hb9⟩ : ∃ b9, b9 = wr.heap.size := ⟨_, rfl⟩
      rw [← hb9] at hD
      rw [← hb9]
      obtain ⟨c0, c1, c2, c3, c4, c5, c6, c7⟩ := hD.cells
      replace hD := Lib.hid hD
      replace hR3 := Lib.hid hR3
      replace hb9 := Lib.hid hb9
      clear hr3 ho3 hR hz hld
      by_cases hskip : ok = 6 ∧ 100 < on
      · obtain ⟨rfl, hon⟩ := hskip
        go_wp2_with fail
        clear c0 c1 c2 c3 c4 c5 c6 c7 hD
        go_roundw
        case rel => exact ⟨k + 1, _, _, by omega, by go_num, hR3⟩
        case measure => simp [intOf]; omega
      have hk6 : (ok == 6) = false ∨ (ok = 6 ∧ ¬ 100 < on) := by
        by_cases h6 : ok = 6
        · right; exact ⟨h6, fun h => hskip ⟨h6, h⟩⟩
        · left; simpa using h6
      replace hk6 := Lib.hid hk6
      clear hskip
      go_cut [37, 48] from 37 to 135 (fun s37 s48 wx => s37 = .int .i64 k ∧ s48 = .bool false ∧ w3 = wx)
      case first =>
        rcases hk6.out with h6 | ⟨rfl, h6⟩
        · go_wp2_with fail
          go_meet
          exact ⟨rfl, rfl, rfl⟩
        · go_wp2_with fail
          go_meet
          exact ⟨rfl, rfl, rfl⟩
      case rest =>
      obtain ⟨rfl, rfl, rfl⟩ := hcut
      clear hk6
      go_wp2_with (first
        | (with_reducible show wpList _ _ _ (⟨some 51, .load _ (.tmp 9), _, _, _, _⟩ :: _) _ _; go_must (refine wpList_loadAt rfl 36 (.tmp 9) rfl ⟨b9, 0, none⟩ rfl (opV ⟨ok, oc, on, or', ow, ⟨of', ob, og⟩⟩) _ hD.out.load Try.underlying36 rfl (op_info _) ?_)))
      refine (law_do hR3.out.two ⟨ok, oc, on, or', ow, ⟨of', ob, og⟩⟩ hok.out).mono ?_
      rintro e w5 ⟨bq, rfl, _, hT, hF⟩
      have hR5 := hR3.out.step hT hF
      clear c0 c1 c2 c3 c4 c5 c6 c7 hD hT hF hok hR3 hb9
      generalize doL ⟨ok, oc, on, or', ow, ⟨of', ob, og⟩⟩ l = l' at hR5
      generalize doL ⟨ok, oc, on, or', ow, ⟨of', ob, og⟩⟩ l2 = l2' at hR5
      obtain ⟨g', n', cap', tail', hX, _, _⟩ := hR5.two.prog
      have hg := hR5.two.good
      have hl' := hX.len
      have hn5' := hX.small
      have hcs := cells_any hX (fun c hc => (hg.cell c hc).four)
      replace hR5 := Lib.hid hR5
      replace hg := Lib.hid hg
      clear hX
      go_wp2_with fail
      refine hcs.mono ?_
      rintro e w6 ⟨g2, ps, rfl, hA, hmap, hb6, hg2⟩
      have hR6 := Lib.hid (hR5.out.stay hb6)
      have hpl : ps.length = n' := by
        have := congrArg List.length hmap
        simpa [hl'] using this
      replace hA := Lib.hid hA
      replace hmap := Lib.hid hmap
      replace hl' := Lib.hid hl'
      replace hpl := Lib.hid hpl
      clear hcs hR5 hb6 hg2
      go_wp2_with fail
      go_loopw [57] (fun i wi => ∃ (j : Nat) (B2 : Nat), j ≤ n' ∧ i = .int .i64 j ∧ Hid (Api B2 wi (.slice (some ⟨g2, 0, none⟩) n' n') ps ∧ LawSt W wi d dr l' l2')) (fun i _ => n' - (intOf i).toNat)
      case atStart => exact ⟨0, _, Nat.zero_le _, rfl, Lib.hid ⟨hA.out, hR6.out⟩⟩
      case round =>
        obtain ⟨j, B2, hj, rfl, hRj⟩ := hrel
        obtain ⟨hAj, hLj⟩ := hRj.out
        clear hA hR6 hRj
        by_cases hjl : j < n'
        · have hjp : j < ps.length := by rw [hpl.out]; exact hjl
          have hjl' : j < l'.length := by rw [hl'.out]; exact hjl
          have hpj : ps[j].1 = l'[j] := by
            have := hmap.out
            subst this
            simp
          have hcf := cel_facts hg.out hjl'
          have hc4 := (hg.out.cell _ (List.getElem_mem hjl')).four
          have hown := hAj.comb _ (List.getElem_mem hjp)
          have hlo := hAj.load hjp
          have hnb : ∀ i (hi : i < l'.length), wr.cell? ⟨g2, i * 6 + 2, none⟩ = some (.int .u8 l'[i].wide) ∧ wr.cell? ⟨g2, i * 6 + 3, none⟩ = some (.int .u32 l'[i].a.f) ∧ wr.cell? ⟨g2, i * 6 + 4, none⟩ = some (.int .u32 l'[i].a.b) ∧ wr.cell? ⟨g2, i * 6 + 5, none⟩ = some (.int .u16 l'[i].a.g) := fun i hi => by
            have hip : i < ps.length := by rw [hpl.out, ← hl'.out]; exact hi
            have hpi : ps[i].1 = l'[i] := by
              have := hmap.out
              subst this
              simp
            obtain ⟨_, _, a3, a4, a5, a6⟩ := api6 hAj hip
            rw [hpi] at a3 a4 a5 a6
            exact ⟨a3, a4, a5, a6⟩
          generalize hq : ps[j] = q at hpj hown hlo
          obtain ⟨⟨r, m, wd, ⟨af, ab, ag⟩⟩, v⟩ := q
          try simp only at hpj hown
          rw [← hpj] at hcf hc4
          try simp only at hcf hc4
          have hone := apiC_one (c := ⟨r, m, wd, ⟨af, ab, ag⟩⟩) (Own.one hown)
          obtain ⟨av, cv, rfl, hcv, _, _⟩ := hown.shape
          obtain ⟨M, hM⟩ : ∃ M, M = m.length := ⟨_, rfl⟩
          try simp only at hcv hone hlo
          rw [← hM] at hc4 hcv hone hlo
          have hP : ∀ v, apiP (⟨r, m, wd, ⟨af, ab, ag⟩⟩, v) = [.int .i32 r, v, .int .u8 wd, .int .u32 af, .int .u32 ab, .int .u16 ag] := fun _ => rfl
          have hC : ∀ v, apiC ⟨r, m, wd, ⟨af, ab, ag⟩⟩ v = [.int .i32 r, v, .int .u8 wd, .int .u32 af, .int .u32 ab, .int .u16 ag] := fun _ => rfl
          rw [hP] at hlo
          rw [hC] at hone
          have hzc := Lib.hid (Block.made wr 48 #[.int .i32 0, .slice none 0 0, .int .u8 0, .int .u32 0, .int .u32 0, .int .u16 0])
          have hinf : (Try.prog.info? 48).map (·.size) = some [Value.int .i32 r, .slice av M cv, .int .u8 wd, .int .u32 af, .int .u32 ab, .int .u16 ag].length := info48
          have hnx : ∀ w', Below wr.heap.size wr w' → Hid (Api B2 w' (.slice (some ⟨g2, 0, none⟩) n' n') ps ∧ LawSt W w' d dr l' l2') := fun w' hb => Lib.hid ⟨hAj.below hb, hLj.stay hb⟩
          have hru := Lib.hid (rune_any r)
          have hjI : (j : Int) < (n' : Int) := by omega
          have hM4 : ¬ (4 : Int) < (M : Int) := by omega
          replace hlo := Lib.hid hlo
          replace hone := Lib.hid hone
          replace hinf := Lib.hid hinf
          replace hnx := Lib.hid hnx
          have hmm := Lib.hid hM
          clear hpj hown hq hP hC hAj hLj hM
          rcases hcf with ⟨rfl, hrn⟩ | ⟨rfl, hrn, hk', hw1, ha1⟩ | ⟨rfl, rfl, rfl, h0j, hk', hw1⟩
          · clear hnb
            go_upto_region 14 with (first
            | (with_reducible show wpList _ _ _ (⟨some 61, .load _ (.tmp 60), _, _, _, _⟩ :: _) _ _; go_must (refine wpList_loadAt rfl 48 (.tmp 60) rfl ⟨g2, j * 6, none⟩ rfl _ _ hlo.out Try.underlying48 rfl hinf.out ?_))
            | (with_reducible show wpList _ _ _ (⟨none, .store _ (.tmp 12) _, _, _, _, _⟩ :: _) _ _; go_must (refine wpList_storeN rfl 48 (.tmp 12) (.tmp 61) rfl (g := wr.heap.size) (i := 0) hzc.out [.int .i32 r, .slice av M cv, .int .u8 0, .int .u32 af, .int .u32 ab, .int .u16 ag] rfl rfl (by simp) (hinf.out) (hone.out) ?_); intro w7 hr7 ho7; go_frame))
            have hn7 := hnx.out w7 (below_fresh ho7)
            obtain ⟨b12, hb12⟩ : ∃ b12, b12 = wr.heap.size := ⟨_, rfl⟩
            rw [← hb12] at hr7
            rw [← hb12]
            obtain ⟨d0, d1, d2, d3, d4, d5⟩ : w7.cell? ⟨b12, 0, none⟩ = some (.int .i32 r) ∧ w7.cell? ⟨b12, 1, none⟩ = some (.slice av M cv) ∧ w7.cell? ⟨b12, 2, none⟩ = some (.int .u8 0) ∧ w7.cell? ⟨b12, 3, none⟩ = some (.int .u32 af) ∧ w7.cell? ⟨b12, 4, none⟩ = some (.int .u32 ab) ∧ w7.cell? ⟨b12, 5, none⟩ = some (.int .u16 ag) := ⟨hr7.out.cell 0 rfl, hr7.out.cell 1 rfl, hr7.out.cell 2 rfl, hr7.out.cell 3 rfl, hr7.out.cell 4 rfl, hr7.out.cell 5 rfl⟩
            have hb7 := Lib.hid (below_fresh ho7)
            clear hr7 ho7 hnx hzc hlo hone hinf
            replace hb12 := Lib.hid hb12
            go_wp2_with ((go_at_call 18; (with_reducible refine (hru.out _).mono ?_); rintro e w' ⟨rfl, rfl⟩))

            go_roundw
            case rel => exact ⟨j + 1, _, by omega, by go_num, hn7⟩
            case measure => simp [intOf]; omega
          · obtain ⟨n1, n2, n3, n4⟩ := hnb _ hk'
            rw [hw1] at n1
            rw [ha1] at n2 n3 n4
            clear hnb
            have hjn : j + 1 < n' := by rw [← hl'.out]; exact hk'
            have hj1 : (j : Int) + 1 < (n' : Int) := by omega
            have hj2 : (((j : Int) + 1) == (n' : Int)) = false := beq_eq_false_iff_ne.2 (by omega)
            have hj0 : (0 : Int) ≤ (j : Int) + 1 := by omega
            go_upto_region 14 with (first
            | (with_reducible show wpList _ _ _ (⟨some 61, .load _ (.tmp 60), _, _, _, _⟩ :: _) _ _; go_must (refine wpList_loadAt rfl 48 (.tmp 60) rfl ⟨g2, j * 6, none⟩ rfl _ _ hlo.out Try.underlying48 rfl hinf.out ?_))
            | (with_reducible show wpList _ _ _ (⟨none, .store _ (.tmp 12) _, _, _, _, _⟩ :: _) _ _; go_must (refine wpList_storeN rfl 48 (.tmp 12) (.tmp 61) rfl (g := wr.heap.size) (i := 0) hzc.out [.int .i32 r, .slice av M cv, .int .u8 1, .int .u32 af, .int .u32 ab, .int .u16 ag] rfl rfl (by simp) (hinf.out) (hone.out) ?_); intro w7 hr7 ho7; go_frame))
            have hn7 := fun m => hnx.out (w7.drewN m) (below_dr (below_fresh ho7) m)
            obtain ⟨b12, hb12⟩ : ∃ b12, b12 = wr.heap.size := ⟨_, rfl⟩
            rw [← hb12] at hr7
            rw [← hb12]
            obtain ⟨d0, d1, d2, d3, d4, d5⟩ : w7.cell? ⟨b12, 0, none⟩ = some (.int .i32 r) ∧ w7.cell? ⟨b12, 1, none⟩ = some (.slice av M cv) ∧ w7.cell? ⟨b12, 2, none⟩ = some (.int .u8 1) ∧ w7.cell? ⟨b12, 3, none⟩ = some (.int .u32 af) ∧ w7.cell? ⟨b12, 4, none⟩ = some (.int .u32 ab) ∧ w7.cell? ⟨b12, 5, none⟩ = some (.int .u16 ag) := ⟨hr7.out.cell 0 rfl, hr7.out.cell 1 rfl, hr7.out.cell 2 rfl, hr7.out.cell 3 rfl, hr7.out.cell 4 rfl, hr7.out.cell 5 rfl⟩
            have hb7 := below_fresh ho7
            replace n1 := (hb7.cell (p := ⟨g2, (j + 1) * 6 + 2, none⟩) (World.block_lt_of_cell? _ _ n1)).trans n1
            replace n2 := (hb7.cell (p := ⟨g2, (j + 1) * 6 + 3, none⟩) (World.block_lt_of_cell? _ _ n2)).trans n2
            replace n3 := (hb7.cell (p := ⟨g2, (j + 1) * 6 + 4, none⟩) (World.block_lt_of_cell? _ _ n3)).trans n3
            replace n4 := (hb7.cell (p := ⟨g2, (j + 1) * 6 + 5, none⟩) (World.block_lt_of_cell? _ _ n4)).trans n4
            clear hr7 ho7 hnx hzc hlo hone hinf hw1 ha1 hb7 hk'
            replace hb12 := Lib.hid hb12
            go_wp2_with fail
            go_quiet ((go_at_call 18; with_reducible exact quiet_left (hru.out _)))
            replace hn7 := Lib.hid (hn7 nq)
            go_wp2_with fail
            go_roundw
            case rel => exact ⟨j + 1, _, by omega, by go_num, hn7.out⟩
            case measure => simp [intOf]; omega
          · have n1 := (hnb _ hk').1
            rw [hw1] at n1
            clear hnb
            obtain ⟨j', rfl⟩ : ∃ j', j = j' + 1 := ⟨j - 1, by omega⟩
            rw [Nat.add_sub_cancel] at n1
            obtain rfl : M = 0 := hmm.out
            have hj1 : ((j' : Int) + 1 == 0) = false := beq_eq_false_iff_ne.2 (by omega)
            go_upto_region 14 with (first
            | (with_reducible show wpList _ _ _ (⟨some 61, .load _ (.tmp 60), _, _, _, _⟩ :: _) _ _; go_must (refine wpList_loadAt rfl 48 (.tmp 60) rfl ⟨g2, (j' + 1) * 6, none⟩ rfl _ _ hlo.out Try.underlying48 rfl hinf.out ?_))
            | (with_reducible show wpList _ _ _ (⟨none, .store _ (.tmp 12) _, _, _, _, _⟩ :: _) _ _; go_must (refine wpList_storeN rfl 48 (.tmp 12) (.tmp 61) rfl (g := wr.heap.size) (i := 0) hzc.out [.int .i32 0, .slice av 0 cv, .int .u8 2, .int .u32 af, .int .u32 ab, .int .u16 ag] rfl rfl (by simp) (hinf.out) (hone.out) ?_); intro w7 hr7 ho7; go_frame))
            have hn7 := hnx.out w7 (below_fresh ho7)
            obtain ⟨b12, hb12⟩ : ∃ b12, b12 = wr.heap.size := ⟨_, rfl⟩
            rw [← hb12] at hr7
            rw [← hb12]
            obtain ⟨d0, d1, d2, d3, d4, d5⟩ : w7.cell? ⟨b12, 0, none⟩ = some (.int .i32 0) ∧ w7.cell? ⟨b12, 1, none⟩ = some (.slice av 0 cv) ∧ w7.cell? ⟨b12, 2, none⟩ = some (.int .u8 2) ∧ w7.cell? ⟨b12, 3, none⟩ = some (.int .u32 af) ∧ w7.cell? ⟨b12, 4, none⟩ = some (.int .u32 ab) ∧ w7.cell? ⟨b12, 5, none⟩ = some (.int .u16 ag) := ⟨hr7.out.cell 0 rfl, hr7.out.cell 1 rfl, hr7.out.cell 2 rfl, hr7.out.cell 3 rfl, hr7.out.cell 4 rfl, hr7.out.cell 5 rfl⟩
            have hb7 := below_fresh ho7
            replace n1 := (hb7.cell (p := ⟨g2, j' * 6 + 2, none⟩) (World.block_lt_of_cell? _ _ n1)).trans n1
            clear hr7 ho7 hnx hzc hlo hone hinf hw1 hb7 hk'
            replace hb12 := Lib.hid hb12
            go_wp2_with fail
            go_roundw
            case rel => exact ⟨j' + 1 + 1, _, by omega, by go_num, hn7⟩
            case measure => simp [intOf]; omega
        · obtain rfl : j = n' := by omega
          have hn7 := Lib.hid hLj
          clear hAj hLj
          go_wp2_with fail
          go_roundw
          case rel => exact ⟨k + 1, _, _, by omega, by go_num, hn7⟩
          case measure => simp [intOf]; omega
    · replace hR := Lib.hid hR.out.below
      go_wp2_with ((go_at_call 9; (with_reducible refine (hkn.out _).mono ?_); rintro e w2 ⟨rfl, hb2⟩))
      go_ret
      exact ⟨rfl, below_next hR.out hb2⟩
end Go.Proofs.Ytnnaagkdlmamjaa.Rw
