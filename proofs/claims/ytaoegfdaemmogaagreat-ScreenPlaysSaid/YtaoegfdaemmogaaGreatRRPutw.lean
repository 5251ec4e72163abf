/-
  row: the reference's Put of a wide rune.
-/
import Derived.Test.YtaoegfdaemmogaaGreatRWhole
import Derived.Test.YtaoegfdaemmogaaGreatRRNew
namespace Go.Proofs.YtaoegfdaemmogaaGreat.Rw
open Go Go.RowKit Go.Proofs.YtaoegfdaemmogaaGreat.Com

set_option maxRecDepth 100000 in
set_option maxHeartbeats 8000000 in
theorem rputw_any {B : Nat} {w : World} {d gv n cap : Nat} {ps : List (Cel × Value)} (h : RefX B w d gv n cap ps) (hwh : Whole (cels ps)) (col : Nat) (x : Int) (a : At) (hx : runeB x = true) (hcol : col + 2 ≤ n) :
    Calls Tryz.prog 34 #[.pointer (some ⟨d, 0, none⟩), .int .i64 col, .int .i32 x, .bool true, .agg #[.int .u32 a.f, .int .u32 a.b, .int .u16 a.g]] w fun e w' => e = .returned (.int .i64 0) ∧ RefDone B w d (setL (cels ps) col (cellsPut x true a)) e w' := by
  obtain ⟨af, ab, ag⟩ := a
  have hn := h.pos
  have hn5 := h.small
  have hlen := h.len
  have hX := ref_erase (ps := ps) hwh col (col + 2) zeroAt (by omega) (by omega)
  rw [hlen] at hX
  have hE : eraseL (cels ps) col (col + 2) zeroAt = mendAll (splice (cels ps) col (List.replicate (cellsPut x true ⟨af, ab, ag⟩).length (clr zeroAt))) := by
    unfold eraseL setL
    rw [if_pos (by omega), Nat.add_sub_cancel_left]
    rfl
  rw [hE] at hX
  have hps := Lib.hid (put_same hwh col x true ⟨af, ab, ag⟩ (by rw [cels_length, hlen]; exact hcol))
  clear hE
  obtain ⟨F, hF⟩ : ∃ F, F = gSet col (col + 2) := ⟨_, rfl⟩
  obtain ⟨qF, hqF⟩ : ∃ qF, qF = qSet ps col (col + 2) zeroAt := ⟨_, rfl⟩
  rw [← hF, ← hqF] at hX
  replace hX := Lib.hid hX
  have hbx := Block.made w 37 (attV ⟨af, ab, ag⟩).toArray
  have hB0 : Bld B w (w.alloc (.cells #[.int .u32 af, .int .u32 ab, .int .u16 ag] 37)) d gv n cap ps w.heap.size true ⟨af, ab, ag⟩ (.slice none 0 0) [] (.slice none 0 0) [] := bld_start h hbx
  have hru := rune_any x
  rw [hx] at hru
  replace hru := Lib.hid hru
  have hs0 := hB0.ref.slice
  replace hB0 := Lib.hid hB0
  have hdw := h.ptr.lt
  clear hbx h
  replace hwh := Lib.hid hwh
  have ht1 : decide (n ≤ col) = false := decide_eq_false (by omega)
  have ht2 : decide ((n : Int) < (col : Int) + 2) = false := decide_eq_false (by omega)
  simp only
  go_enter Tryz.func34, Tryz.ntmps34
  go_wp2_with ((go_at_call 70; (with_reducible refine (hru.out _).mono ?_); rintro e w' ⟨rfl, rfl⟩))
  clear ht1 ht2
  obtain ⟨bx, hbx⟩ : ∃ bx, bx = w.heap.size := ⟨_, rfl⟩
  rw [← hbx] at hB0
  rw [← hbx]
  replace hbx := Lib.hid hbx
  clear hs0
  generalize (w.alloc (.cells #[.int .u32 af, .int .u32 ab, .int .u16 ag] 37)) = w0 at hB0 ⊢
  go_loopw [12, 13, 14] (fun sl sw si wr => ∃ (k : Nat) (lv wv : Value) (qs : List (Cel × Value)) (ws : List Int), k ≤ n ∧ sl = lv ∧ sw = wv ∧ si = .int .i64 k ∧ Hid (Bld B w wr d gv n cap ps bx true ⟨af, ab, ag⟩ lv qs wv ws ∧ qs = (List.range k).map qF ∧ ws = (List.range k).map F)) (fun _ _ si _ => n - (intOf si).toNat)
  case atStart => exact ⟨0, _, _, [], [], Nat.zero_le _, rfl, rfl, rfl, Lib.hid ⟨hB0.out, rfl, rfl⟩⟩
  case round =>
    obtain ⟨k, lv, wv, qs, ws, hk, rfl, rfl, rfl, hR⟩ := hrel
    obtain ⟨hB, hqs, hws⟩ := hR.out
    obtain ⟨⟨ao, m0, c0, rfl⟩, ⟨aw, mw, cw, rfl⟩⟩ := hB.shape
    have hs := hB.ref.slice
    have hql : qs.length ≤ 512 := by rw [hqs]; simp; omega
    have hwl : ws.length ≤ 512 := by rw [hws]; simp; omega
    have hqn : (List.range (k + 1)).map qF = qs ++ [qF k] := by rw [hqs, List.range_succ, List.map_append]; rfl
    have hfn : (List.range (k + 1)).map F = ws ++ [F k] := by rw [hws, List.range_succ, List.map_append]; rfl
    replace hqs := Lib.hid hqs
    replace hws := Lib.hid hws
    clear hR
    by_cases hlt : k < n
    · by_cases h1 : k < col
      · skip
        have h1' : decide (col ≤ k) = false := decide_eq_false (by omega)
        have hq1 : qF k = ps[k]'(by omega) := by rw [hqF]; unfold qSet; rw [if_neg (by omega)]; exact getD_zp _
        have hf1 : F k = (k : Int) := by rw [hF]; unfold gSet; rw [if_neg (by omega), if_neg (by omega)]
        rw [hq1] at hqn
        rw [hf1] at hfn
        replace hqn := Lib.hid hqn
        replace hfn := Lib.hid hfn
        have hjp : k < ps.length := by omega
        obtain ⟨hld, hcm⟩ := hB.load hjp
        have hv1 := Own.one hcm
        generalize ps[k] = q0 at hld hcm hv1 hq1 hqn
        obtain ⟨⟨cr, cm, cx, ⟨cf, cb, cg⟩⟩, cv⟩ := q0
        clear hq1 hf1
        have hP : apiP (⟨cr, cm, cx, ⟨cf, cb, cg⟩⟩, cv) = [.int .i32 cr, cv, .int .u8 cx, .int .u32 cf, .int .u32 cb, .int .u16 cg] := rfl
        have hone : ∀ u ∈ [Value.int .i32 cr, cv, .int .u8 cx, .int .u32 cf, .int .u32 cb, .int .u16 cg], u.oneCell' = true := apiC_one (c := ⟨cr, cm, cx, ⟨cf, cb, cg⟩⟩) (v := cv) hv1
        rw [hP] at hld
        replace hld := Lib.hid hld
        replace hcm := Lib.hid hcm
        replace hone := Lib.hid hone
        clear hP hv1
        have hinf : Hid ((Tryz.prog.info? 117).map (·.size) = some [Value.int .i32 cr, cv, .int .u8 cx, .int .u32 cf, .int .u32 cb, .int .u16 cg].length) := Lib.hid info48
        go_wp2_with (first
          | (with_reducible show wpList _ _ _ (⟨some 76, .load _ (.tmp 75), _, _, _, _⟩ :: _) _ _; go_must (refine wpList_loadAt rfl 117 (.tmp 75) rfl ⟨gv, k * 6, none⟩ rfl _ _ hld.out Tryz.underlying117 rfl hinf.out ?_))
          | (with_reducible show wpList _ _ _ (⟨some 78, .call _, _, _, _, _⟩ :: _) _ _; go_must (refine wpList_appN elemA rfl (.tmp 69) (.tmp 77) rfl w.heap.size (.slice ao m0 c0) qs.length (fl apiP qs) ⟨wr.heap.size, 0, none⟩ 1 1 [Value.int .i32 cr, cv, .int .u8 cx, .int .u32 cf, .int .u32 cb, .int .u16 cg] rfl rfl (hB.next (below_new _ _)).lown rfl (lit_at wr _) hone.out (by have := hB.below.size; simp; omega) (by omega) ?_); intro lv1 w3 hl1 ho1 _; have hB3 := (hB.next (below_new _ _)).push (⟨cr, cm, cx, ⟨cf, cb, cg⟩⟩, cv) (hcm.out.alloc _) hl1 ho1; obtain ⟨⟨ao1, m1, c1, rfl⟩, _⟩ := hB3.shape; have hs3 := hB3.ref.slice)
          | (with_reducible show wpList _ _ _ (⟨some 82, .call _, _, _, _, _⟩ :: _) _ _; go_must (refine wpList_app elemW rfl (.tmp 79) (.tmp 81) rfl w.heap.size (.slice aw mw cw) ws [(k : Int)] (some ⟨w3.heap.size, 0, none⟩) (w3.heap.size + 1) 1 rfl rfl (hB3.wown.alloc _) (Nums.one _ _ _ _) (by have := hB3.below.size; simp; omega) (by simp; omega) (by simp [maxLen]; omega) ?_); intro wv1 w4 hw1 ho4 _; have hB4 := (hB3.next (below_new _ _)).pushw ((k : Int)) hw1 ho4))
        clear hB hl1 ho1 hw1 ho4 hB3 hs3
        replace hB4 := Lib.hid hB4
        go_roundw
        case rel => exact ⟨k + 1, _, wv1, _, _, by omega, rfl, rfl, by go_num, Lib.hid ⟨hB4.out, by rw [hqn.out], by rw [hfn.out]⟩⟩
        case measure => simp [intOf]; omega
      · have h1' : col ≤ k := by omega
        by_cases h2 : k < col + 2
        · skip
          have h2' : (k : Int) < (col : Int) + 2 := by omega
          have hq1 : qF k = (clr zeroAt, .slice none 0 0) := by rw [hqF]; unfold qSet; rw [if_pos ⟨by omega, by omega⟩]
          have hf1 : F k = -1 := by rw [hF]; unfold gSet; rw [if_neg (by omega), if_pos ⟨by omega, by omega⟩]
          rw [hq1] at hqn
          rw [hf1] at hfn
          replace hqn := Lib.hid hqn
          replace hfn := Lib.hid hfn
          clear hq1 hf1
          have hone := Lib.hid (apiC_one (c := clr zeroAt) (v := .slice none 0 0) rfl)
          go_wp2_with (first
            | (with_reducible show wpList _ _ _ (⟨some 65, .call _, _, _, _, _⟩ :: _) _ _; go_must (refine wpList_appN elemA rfl (.tmp 62) (.tmp 64) rfl w.heap.size (.slice ao m0 c0) qs.length (fl apiP qs) ⟨wr.heap.size, 0, none⟩ 1 1 (apiC (clr zeroAt) (.slice none 0 0)) rfl rfl (hB.next (below_new _ _)).lown rfl (lit_at wr _) hone.out (by have := hB.below.size; simp; omega) (by omega) ?_); intro lv1 w3 hl1 ho1 _; have hB3 := (hB.next (below_new _ _)).push (clr zeroAt, .slice none 0 0) (Own.nil _ _ _ _) hl1 ho1; obtain ⟨⟨ao1, m1, c1, rfl⟩, _⟩ := hB3.shape; have hs3 := hB3.ref.slice)
            | (with_reducible show wpList _ _ _ (⟨some 68, .call _, _, _, _, _⟩ :: _) _ _; go_must (refine wpList_app elemW rfl (.tmp 66) (.tmp 67) rfl w.heap.size (.slice aw mw cw) ws [-1] (some ⟨w3.heap.size, 0, none⟩) (w3.heap.size + 1) 1 rfl rfl (hB3.wown.alloc _) (Nums.one _ _ _ _) (by have := hB3.below.size; simp; omega) (by simp; omega) (by simp [maxLen]; omega) ?_); intro wv1 w4 hw1 ho4 _; have hB4 := (hB3.next (below_new _ _)).pushw (-1) hw1 ho4))
          clear hB hl1 ho1 hw1 ho4 hB3 hs3
          replace hB4 := Lib.hid hB4
          go_roundw
          case rel => exact ⟨k + 1, _, wv1, _, _, by omega, rfl, rfl, by go_num, Lib.hid ⟨hB4.out, by rw [hqn.out], by rw [hfn.out]⟩⟩
          case measure => simp [intOf]; omega
        · skip
          have h2' : decide ((k : Int) < (col : Int) + 2) = false := decide_eq_false (by omega)
          have hq1 : qF k = ps[k]'(by omega) := by rw [hqF]; unfold qSet; rw [if_neg (by omega)]; exact getD_zp _
          have hf1 : F k = (k : Int) := by rw [hF]; unfold gSet; rw [if_neg (by omega), if_neg (by omega)]
          rw [hq1] at hqn
          rw [hf1] at hfn
          replace hqn := Lib.hid hqn
          replace hfn := Lib.hid hfn
          have hjp : k < ps.length := by omega
          obtain ⟨hld, hcm⟩ := hB.load hjp
          have hv1 := Own.one hcm
          generalize ps[k] = q0 at hld hcm hv1 hq1 hqn
          obtain ⟨⟨cr, cm, cx, ⟨cf, cb, cg⟩⟩, cv⟩ := q0
          clear hq1 hf1
          have hP : apiP (⟨cr, cm, cx, ⟨cf, cb, cg⟩⟩, cv) = [.int .i32 cr, cv, .int .u8 cx, .int .u32 cf, .int .u32 cb, .int .u16 cg] := rfl
          have hone : ∀ u ∈ [Value.int .i32 cr, cv, .int .u8 cx, .int .u32 cf, .int .u32 cb, .int .u16 cg], u.oneCell' = true := apiC_one (c := ⟨cr, cm, cx, ⟨cf, cb, cg⟩⟩) (v := cv) hv1
          rw [hP] at hld
          replace hld := Lib.hid hld
          replace hcm := Lib.hid hcm
          replace hone := Lib.hid hone
          clear hP hv1
          have hinf : Hid ((Tryz.prog.info? 117).map (·.size) = some [Value.int .i32 cr, cv, .int .u8 cx, .int .u32 cf, .int .u32 cb, .int .u16 cg].length) := Lib.hid info48
          go_wp2_with (first
            | (with_reducible show wpList _ _ _ (⟨some 76, .load _ (.tmp 75), _, _, _, _⟩ :: _) _ _; go_must (refine wpList_loadAt rfl 117 (.tmp 75) rfl ⟨gv, k * 6, none⟩ rfl _ _ hld.out Tryz.underlying117 rfl hinf.out ?_))
            | (with_reducible show wpList _ _ _ (⟨some 78, .call _, _, _, _, _⟩ :: _) _ _; go_must (refine wpList_appN elemA rfl (.tmp 69) (.tmp 77) rfl w.heap.size (.slice ao m0 c0) qs.length (fl apiP qs) ⟨wr.heap.size, 0, none⟩ 1 1 [Value.int .i32 cr, cv, .int .u8 cx, .int .u32 cf, .int .u32 cb, .int .u16 cg] rfl rfl (hB.next (below_new _ _)).lown rfl (lit_at wr _) hone.out (by have := hB.below.size; simp; omega) (by omega) ?_); intro lv1 w3 hl1 ho1 _; have hB3 := (hB.next (below_new _ _)).push (⟨cr, cm, cx, ⟨cf, cb, cg⟩⟩, cv) (hcm.out.alloc _) hl1 ho1; obtain ⟨⟨ao1, m1, c1, rfl⟩, _⟩ := hB3.shape; have hs3 := hB3.ref.slice)
            | (with_reducible show wpList _ _ _ (⟨some 82, .call _, _, _, _, _⟩ :: _) _ _; go_must (refine wpList_app elemW rfl (.tmp 79) (.tmp 81) rfl w.heap.size (.slice aw mw cw) ws [(k : Int)] (some ⟨w3.heap.size, 0, none⟩) (w3.heap.size + 1) 1 rfl rfl (hB3.wown.alloc _) (Nums.one _ _ _ _) (by have := hB3.below.size; simp; omega) (by simp; omega) (by simp [maxLen]; omega) ?_); intro wv1 w4 hw1 ho4 _; have hB4 := (hB3.next (below_new _ _)).pushw ((k : Int)) hw1 ho4))
          clear hB hl1 ho1 hw1 ho4 hB3 hs3
          replace hB4 := Lib.hid hB4
          go_roundw
          case rel => exact ⟨k + 1, _, wv1, _, _, by omega, rfl, rfl, by go_num, Lib.hid ⟨hB4.out, by rw [hqn.out], by rw [hfn.out]⟩⟩
          case measure => simp [intOf]; omega
    · obtain rfl : k = n := by omega
      replace hB := Lib.hid hB
      clear hqn hfn
      go_wp2_with (first
        | (with_reducible show wpList _ _ _ (⟨none, .store _ (.tmp 86) _, _, _, _, _⟩ :: _) _ _; go_must (refine wpList_store1 rfl _ (.tmp 86) (.tmp 84) rfl hB.out.ref.ptr (.slice _ _ _) rfl rfl (by simp) (by exact info44) rfl ?_); intro w2 hp2 ho2))
      obtain ⟨gl, gw, cl, cw', tail, e1, e2, hW, h1, h2, h3, h4, h5, h6, h7⟩ := hB.out.done F (by rw [hws.out, hqs.out]; simp) (by rw [hqs.out]; simp; omega) hql (by simpa using hp2) ho2
      have hqk : qs.length = k := by rw [hqs.out]; simp
      simp only [Value.slice.injEq] at e1 e2
      obtain ⟨rfl, rfl, rfl⟩ := e1
      obtain ⟨rfl, rfl, rfl⟩ := e2
      have hX := hX.out
      rw [← hqs.out] at hX
      have hfin := whole_any hW hX.1 rfl hql h1 h3
      with_reducible refine hfin.mono ?_
      rintro e w3 ⟨⟨v3, rfl⟩, hW3⟩
      have h7' := h7
      rw [hqk] at hW3 h1
      have hbox3 : Block w3 bx 37 #[.int .u32 af, .int .u32 ab, .int .u16 ag] := by
        have hb2 := (hB.out.box rfl).only ho2 (by have := hbx.out; simp; omega)
        exact hb2.only hW3.only (by
          have t1 := Block.typ hW.row
          have t2 := Own.typ hW.was (g := gw) rfl
          have t0 := Block.typ hb2
          intro hm
          simp at hm
          rcases hm with hm | hm
          · rw [hm] at t0; exact absurd (Typ.inj t0 t1) (by decide)
          · rw [hm] at t0; exact absurd (Typ.inj t0 t2) (by decide))
      have hdn := ref_done (v := .int .i64 0) hB.out ho2 hW3 hqk hn hn5 h1 h2 h5 h6 h7' hX.2
      have hR3 := hW3.ref hqk hn hn5 h1 h2 (Nat.le_trans hB.out.lo h5) hB.out.ref.lo h7'
      have hc3 : cels (psTo qs F k) = _ := (psTo_cels qs F k).trans hX.2
      have hpl : (psTo qs F k).length = k := by rw [psTo_length, hqk]
      generalize psTo qs F k = ps3 at hR3 hc3 hpl
      have hcl3 : col < ps3.length := by omega
      have hs3 := hR3.slice
      obtain ⟨b0, b1, b2⟩ := Block.box hbox3
      obtain ⟨t0, t1, t2, t3, t4, t5⟩ := hR3.cells hcl3
      have hfz := hR3.free
      have hP4 := fun q => (hR3.drawn q).put6 hcl3 ⟨x, [], 0, ⟨af, ab, ag⟩⟩ (.slice none 0 0) (Own.nil _ _ _ _)
      have hn4 := fun q => (Only.drewN [gl] w3 q).trans (put6_only (w3.drewN q) gl (col * 6) (.int .i32 x) (.slice none 0 0) (.int .u8 0) (.int .u32 af) (.int .u32 ab) (.int .u16 ag))
      replace hP4 := Lib.hid hP4
      replace hn4 := Lib.hid hn4
      replace hR3 := Lib.hid hR3
      replace hdn := Lib.hid hdn
      replace hc3 := Lib.hid hc3
      replace hpl := Lib.hid hpl
      replace hcl3 := Lib.hid hcl3
      clear hfin hW3 hX h7' h7 hW ho2 hp2
      generalize (ps3[col]'hcl3.out) = q3 at t0 t1 t2 t3 t4 t5
      obtain ⟨⟨r3, m3, x3, ⟨f3, g3, a3⟩⟩, v3'⟩ := q3
      simp only at t0 t1 t2 t3 t4 t5
      have hw3 : (col : Int) < (k : Int) := by omega
      go_wp2
      go_region
      have hP5 : RefX B (put6 w3 gl (col * 6) (.int .i32 x) (.slice none 0 0) (.int .u8 0) (.int .u32 af) (.int .u32 ab) (.int .u16 ag)).drew d gl k _ (ps3.set col (⟨x, [], 0, ⟨af, ab, ag⟩⟩, .slice none 0 0)) := (hR3.out.put6 hcl3.out ⟨x, [], 0, ⟨af, ab, ag⟩⟩ (.slice none 0 0) (Own.nil _ _ _ _)).drawn 1
      have hn5' : Only [gl] w3 (put6 w3 gl (col * 6) (.int .i32 x) (.slice none 0 0) (.int .u8 0) (.int .u32 af) (.int .u32 ab) (.int .u16 ag)).drew := (put6_only _ _ _ _ _ _ _ _ _).trans (Only.drewN _ _ 1)
      have hbox5 := Lib.hid (hbox3.only hn5' (by
        intro hm
        simp at hm
        obtain ⟨tl, hb, _⟩ := hR3.out.block
        rw [hm] at hbox3
        exact absurd (Typ.inj (Block.typ hbox3) (Block.typ hb)) (by decide)))
      clear t0 t1 t2 t3 t4 t5 b0 b1 b2 hs3 hfz hP4 hn4
      obtain ⟨w4, hw4⟩ : ∃ w4, w4 = (put6 w3 gl (col * 6) (.int .i32 x) (.slice none 0 0) (.int .u8 0) (.int .u32 af) (.int .u32 ab) (.int .u16 ag)).drew := ⟨_, rfl⟩
      rw [← hw4] at hP5 hn5' hbox5
      have hw4' : ((((((w3.setCell ⟨gl, col * 6, none⟩ (.int .i32 x)).setCell ⟨gl, col * 6 + 1, none⟩ (.slice none 0 0)).setCell ⟨gl, col * 6 + 2, none⟩ (.int .u8 0)).setCell ⟨gl, col * 6 + 3, none⟩ (.int .u32 af)).setCell ⟨gl, col * 6 + 4, none⟩ (.int .u32 ab)).setCell ⟨gl, col * 6 + 5, none⟩ (.int .u16 ag)).drew = w4 := by rw [hw4]; rfl
      rw [hw4']
      clear hw4 hw4'
      have hs4 := hP5.slice
      have hl4 : (ps3.set col (⟨x, [], 0, ⟨af, ab, ag⟩⟩, .slice none 0 0)).length = k := by simpa using hpl.out
      have hg4 : ∀ hh, (ps3.set col (⟨x, [], 0, ⟨af, ab, ag⟩⟩, .slice none 0 0))[col]'hh = (⟨x, [], 0, ⟨af, ab, ag⟩⟩, .slice none 0 0) := fun hh => by simp
      have hcc4 : cels (ps3.set col (⟨x, [], 0, ⟨af, ab, ag⟩⟩, .slice none 0 0)) = (cels ps3).set col ⟨x, [], 0, ⟨af, ab, ag⟩⟩ := cels_set1 _ _ _ _
      generalize ps3.set col (⟨x, [], 0, ⟨af, ab, ag⟩⟩, .slice none 0 0) = ps4 at hP5 hl4 hg4 hcc4
      obtain ⟨t0, t1, t2, t3, t4, t5⟩ := hP5.cells (i := col) (by omega)
      rw [hg4] at t2
      simp only at t2
      clear t0 t1 t3 t4 t5
      have hf4 := hP5.free
      have hP6 := hP5.setWide (i := col) (by omega) 1
      rw [hg4] at hP6
      have ho6 : Only [gl] w4 (w4.setCell ⟨gl, col * 6 + 2, none⟩ (.int .u8 1)) := Only.setCell w4 ⟨gl, col * 6 + 2, none⟩ _
      replace hP5 := Lib.hid hP5
      replace hP6 := Lib.hid hP6
      replace ho6 := Lib.hid ho6
      replace hcc4 := Lib.hid hcc4
      replace hg4 := Lib.hid hg4
      replace hn5' := Lib.hid hn5'
      have hl4' := Lib.hid hl4
      clear hl4
      go_wp2
      obtain ⟨w5, hw5⟩ : ∃ w5, w5 = w4.setCell ⟨gl, col * 6 + 2, none⟩ (.int .u8 1) := ⟨_, rfl⟩
      rw [← hw5] at hP6 ho6
      rw [← hw5]
      clear hw5 hs4 t2 hf4
      have hbox6 := hbox5.out.only ho6.out (by
        intro hm
        simp at hm
        obtain ⟨tl, hb, _⟩ := hP5.out.block
        have hb5 := hbox5.out
        rw [hm] at hb5
        exact absurd (Typ.inj (Block.typ hb5) (Block.typ hb)) (by decide))
      obtain ⟨b0, b1, b2⟩ := Block.box hbox6
      have hs6 := hP6.out.slice
      have hl6 : (ps4.set col (⟨x, [], 1, ⟨af, ab, ag⟩⟩, .slice none 0 0)).length = k := by have := hl4'.out; simpa using this
      have hcc6 : cels (ps4.set col (⟨x, [], 1, ⟨af, ab, ag⟩⟩, .slice none 0 0)) = (cels ps4).set col ⟨x, [], 1, ⟨af, ab, ag⟩⟩ := cels_set1 _ _ _ _
      have hP6' := hP6.out
      try simp only at hP6'
      generalize ps4.set col (⟨x, [], 1, ⟨af, ab, ag⟩⟩, .slice none 0 0) = ps6 at hP6' hl6 hcc6
      obtain ⟨t0, t1, t2, t3, t4, t5⟩ := hP6'.cells (i := col + 1) (by omega)
      have hf6 := hP6'.free
      have hc6 : col + 1 < ps6.length := by omega
      generalize (ps6[col + 1]'hc6) = q6 at t0 t1 t2 t3 t4 t5
      obtain ⟨⟨r3, m3, x3, ⟨f3, g3, a3⟩⟩, v3'⟩ := q6
      simp only at t0 t1 t2 t3 t4 t5
      have hw7 : (col : Int) + 1 < (k : Int) := by omega
      have hw8 : IntKind.i64.wrap ((col : Int) + 1) = (col : Int) + 1 := IntWalk.i64_in _ (by omega)
      have hw9 : ((col : Int) + 1).toNat = col + 1 := by omega
      replace hP6' := Lib.hid hP6'
      replace hl6 := Lib.hid hl6
      replace hcc6 := Lib.hid hcc6
      clear hP6 hbox6
      go_region
      clear hw7 hw8 hw9
      have hP8 : RefX B (put6 w5 gl ((col + 1) * 6) (.int .i32 0) (.slice none 0 0) (.int .u8 2) (.int .u32 af) (.int .u32 ab) (.int .u16 ag)).drew d gl k _ (ps6.set (col + 1) (⟨0, [], 2, ⟨af, ab, ag⟩⟩, .slice none 0 0)) := (hP6'.out.put6 hc6 ⟨0, [], 2, ⟨af, ab, ag⟩⟩ (.slice none 0 0) (Own.nil _ _ _ _)).drawn 1
      have ho8 : Only [gl] w5 (put6 w5 gl ((col + 1) * 6) (.int .i32 0) (.slice none 0 0) (.int .u8 2) (.int .u32 af) (.int .u32 ab) (.int .u16 ag)).drew := (put6_only _ _ _ _ _ _ _ _ _).trans (Only.drewN _ _ 1)
      have hcc : cels (ps6.set (col + 1) (⟨0, [], 2, ⟨af, ab, ag⟩⟩, .slice none 0 0)) = setL (cels ps) col (cellsPut x true ⟨af, ab, ag⟩) := by
        rw [cels_set1, hcc6.out, hcc4.out, List.set_set, hc3.out, ← hps.out]
        have hlen3 := congrArg List.length hc3.out
        rw [cels_length, hpl.out] at hlen3
        show _ = splice _ col [_, _]
        rw [splice_cons _ _ _ _ (by rw [← hlen3]; omega), splice_set _ _ _ (by rw [List.length_set, ← hlen3]; omega)]
      have hres := Lib.hid (ref_turn (v := .int .i64 0) hdn.out hR3.out ((hn5'.out.trans ho6.out).trans ho8) hP8 hcc h5)
      clear hP8 ho8 hcc t0 t1 t2 t3 t4 t5 b0 b1 b2 hs6 hf6
      go_wp2
      go_ret
      exact ⟨rfl, hres.out⟩
end Go.Proofs.YtaoegfdaemmogaaGreat.Rw
