/-
  row: the reference's Erase.
-/
import Derived.Test.YtaoegfdaemmogaaGreatRWhole
import Derived.Test.YtaoegfdaemmogaaGreatRBld2
namespace Go.Proofs.YtaoegfdaemmogaaGreat.Rw
open Go Go.RowKit Go.Proofs.YtaoegfdaemmogaaGreat.Com

set_option maxRecDepth 100000 in
set_option maxHeartbeats 8000000 in
theorem rerase_any {B : Nat} {w : World} {d gv n cap : Nat} {ps : List (Cel × Value)} (h : RefX B w d gv n cap ps) (hwh : Whole (cels ps)) (lo hi : Int) (a : At) :
    Calls Tryz.prog 84 #[.pointer (some ⟨d, 0, none⟩), .int .i64 lo, .int .i64 hi, .agg #[.int .u32 a.f, .int .u32 a.b, .int .u16 a.g]] w (RefDone B w d (eraseL (cels ps) (heldF lo n) (heldF hi n) a)) := by
  have hh1 := rheld_any lo n
  have hh2 := rheld_any hi n
  have hp : heldF lo n ≤ n := Nat.min_le_right _ _
  have hq : heldF hi n ≤ n := Nat.min_le_right _ _
  generalize heldF lo n = p at hh1 hp ⊢
  generalize heldF hi n = q at hh2 hq ⊢
  obtain ⟨af, ab, ag⟩ := a
  have hn := h.pos
  have hn5 := h.small
  have hlen := h.len
  have hX := ref_erase (ps := ps) hwh p q ⟨af, ab, ag⟩ (by omega) (by omega)
  rw [hlen] at hX
  obtain ⟨F, hF⟩ : ∃ F, F = gSet p q := ⟨_, rfl⟩
  obtain ⟨qF, hqF⟩ : ∃ qF, qF = qSet ps p q ⟨af, ab, ag⟩ := ⟨_, rfl⟩
  rw [← hF, ← hqF] at hX
  replace hX := Lib.hid hX
  have hbx := Block.made w 37 (attV ⟨af, ab, ag⟩).toArray
  have hB0 : Bld B w (w.alloc (.cells #[.int .u32 af, .int .u32 ab, .int .u16 ag] 37)) d gv n cap ps w.heap.size true ⟨af, ab, ag⟩ (.slice none 0 0) [] (.slice none 0 0) [] := bld_start h hbx
  have hcl : Hid (∀ w, Calls Tryz.prog 96 #[.agg #[.int .u32 af, .int .u32 ab, .int .u16 ag]] w fun e w' => e = .returned (.agg #[.int .i32 32, .slice none 0 0, .int .u8 0, .int .u32 0, .int .u32 ab, .int .u16 0]) ∧ Below w.heap.size w w') := Lib.hid (fun w => clear_any ⟨af, ab, ag⟩ w)
  have hs0 := hB0.ref.slice
  replace hh1 := Lib.hid hh1
  replace hh2 := Lib.hid hh2
  have hB00 := hB0
  replace hB0 := Lib.hid (fun m => hB00.next (below_dr (Below.refl _ _) m))
  clear hbx h hB00
  replace hwh := Lib.hid hwh
  simp only
  go_enter Tryz.func84, Tryz.ntmps84
  go_wp2
  go_quiet ((first | (go_at_call 95; with_reducible exact quiet_left (hh1.out _)) | (go_at_call 95; with_reducible exact quiet_left (hh2.out _))))
  go_wp2
  replace hB0 := Lib.hid (hB0.out nq)
  obtain ⟨bx, hbx⟩ : ∃ bx, bx = w.heap.size := ⟨_, rfl⟩
  rw [← hbx] at hB0
  rw [← hbx]
  replace hbx := Lib.hid hbx
  clear hs0 hh1 hh2
  generalize (w.alloc (.cells #[.int .u32 af, .int .u32 ab, .int .u16 ag] 37)).drewN nq = w0 at hB0 ⊢
  go_loopw [8, 9, 10] (fun sl sw si wr => ∃ (k : Nat) (lv wv : Value) (qs : List (Cel × Value)) (ws : List Int), k ≤ n ∧ sl = lv ∧ sw = wv ∧ si = .int .i64 k ∧ Hid (Bld B w wr d gv n cap ps bx true ⟨af, ab, ag⟩ lv qs wv ws ∧ qs = (List.range k).map qF ∧ ws = (List.range k).map F)) (fun _ _ si _ => n - (intOf si).toNat)
  case atStart => exact ⟨0, _, _, [], [], Nat.zero_le _, rfl, rfl, rfl, Lib.hid ⟨hB0.out, rfl, rfl⟩⟩
  case round =>
    obtain ⟨k, lv, wv, qs, ws, hk, rfl, rfl, rfl, hR⟩ := hrel
    obtain ⟨hB, hqs, hws⟩ := hR.out
    obtain ⟨⟨ao, m0, c0, rfl⟩, ⟨aw, mw, cw, rfl⟩⟩ := hB.shape
    have hs := hB.ref.slice
    have hql : qs.length ≤ 512 := by rw [hqs]; simp; omega
    have hwl : ws.length ≤ 512 := by rw [hws]; simp; omega
    have hqn : (List.range (k + 1)).map qF = qs ++ [qF k] := by rw [hqs, List.range_succ, List.map_append]; rfl
    have hfn : (List.range (k + 1)).map F = ws ++ [F k] := by rw [hws, List.range_succ, List.map_append]; rfl
    replace hqs := Lib.hid hqs
    replace hws := Lib.hid hws
    clear hR
    by_cases hlt : k < n
    · obtain ⟨c0', c1', c2'⟩ := hB.att
      by_cases h1 : k < p
      · skip
        have hq1 : qF k = ps[k]'(by omega) := by rw [hqF]; unfold qSet; rw [if_neg (by omega)]; exact getD_zp _
        have hf1 : F k = (k : Int) := by rw [hF]; unfold gSet; rw [if_neg (by omega), if_neg (by omega)]
        rw [hq1] at hqn
        rw [hf1] at hfn
        replace hqn := Lib.hid hqn
        replace hfn := Lib.hid hfn
        have hjp : k < ps.length := by omega
        obtain ⟨hld, hcm⟩ := hB.load hjp
        have hv1 := Own.one hcm
        generalize ps[k] = q0 at hld hcm hv1 hq1 hqn
        obtain ⟨⟨cr, cm, cx, ⟨cf, cb, cg⟩⟩, cv⟩ := q0
        clear hq1 hf1
        have hP : apiP (⟨cr, cm, cx, ⟨cf, cb, cg⟩⟩, cv) = [.int .i32 cr, cv, .int .u8 cx, .int .u32 cf, .int .u32 cb, .int .u16 cg] := rfl
        have hone : ∀ u ∈ [Value.int .i32 cr, cv, .int .u8 cx, .int .u32 cf, .int .u32 cb, .int .u16 cg], u.oneCell' = true := apiC_one (c := ⟨cr, cm, cx, ⟨cf, cb, cg⟩⟩) (v := cv) hv1
        rw [hP] at hld
        replace hld := Lib.hid hld
        replace hcm := Lib.hid hcm
        replace hone := Lib.hid hone
        clear hP hv1
        have hinf : Hid ((Tryz.prog.info? 117).map (·.size) = some [Value.int .i32 cr, cv, .int .u8 cx, .int .u32 cf, .int .u32 cb, .int .u16 cg].length) := Lib.hid info48
        go_wp2_with (first
          | (with_reducible show wpList _ _ _ (⟨some 57, .load _ (.tmp 56), _, _, _, _⟩ :: _) _ _; go_must (refine wpList_loadAt rfl 117 (.tmp 56) rfl ⟨gv, k * 6, none⟩ rfl _ _ hld.out Tryz.underlying117 rfl hinf.out ?_))
          | (with_reducible show wpList _ _ _ (⟨some 59, .call _, _, _, _, _⟩ :: _) _ _; go_must (refine wpList_appN elemA rfl (.tmp 50) (.tmp 58) rfl w.heap.size (.slice ao m0 c0) qs.length (fl apiP qs) ⟨wr.heap.size, 0, none⟩ 1 1 [Value.int .i32 cr, cv, .int .u8 cx, .int .u32 cf, .int .u32 cb, .int .u16 cg] rfl rfl (hB.next (below_new _ _)).lown rfl (lit_at wr _) hone.out (by have := hB.below.size; simp; omega) (by omega) ?_); intro lv1 w3 hl1 ho1 _; have hB3 := (hB.next (below_new _ _)).push (⟨cr, cm, cx, ⟨cf, cb, cg⟩⟩, cv) (hcm.out.alloc _) hl1 ho1; obtain ⟨⟨ao1, m1, c1, rfl⟩, _⟩ := hB3.shape; have hs3 := hB3.ref.slice)
          | (with_reducible show wpList _ _ _ (⟨some 63, .call _, _, _, _, _⟩ :: _) _ _; go_must (refine wpList_app elemW rfl (.tmp 60) (.tmp 62) rfl w.heap.size (.slice aw mw cw) ws [(k : Int)] (some ⟨w3.heap.size, 0, none⟩) (w3.heap.size + 1) 1 rfl rfl (hB3.wown.alloc _) (Nums.one _ _ _ _) (by have := hB3.below.size; simp; omega) (by simp; omega) (by simp [maxLen]; omega) ?_); intro wv1 w4 hw1 ho4 _; have hB4 := (hB3.next (below_new _ _)).pushw ((k : Int)) hw1 ho4))
        clear hB hl1 ho1 hw1 ho4 hB3 hs3
        replace hB4 := Lib.hid hB4
        go_roundw
        case rel => exact ⟨k + 1, _, wv1, _, _, by omega, rfl, rfl, by go_num, Lib.hid ⟨hB4.out, by rw [hqn.out], by rw [hfn.out]⟩⟩
        case measure => simp [intOf]; omega
      · by_cases h2 : k < q
        · skip
          have h1' : p ≤ k := by omega
          have hq1 : qF k = (clr ⟨af, ab, ag⟩, .slice none 0 0) := by rw [hqF]; unfold qSet; rw [if_pos ⟨by omega, by omega⟩]
          have hf1 : F k = -1 := by rw [hF]; unfold gSet; rw [if_neg (by omega), if_pos ⟨by omega, by omega⟩]
          rw [hq1] at hqn
          rw [hf1] at hfn
          replace hqn := Lib.hid hqn
          replace hfn := Lib.hid hfn
          clear hq1 hf1
          have hone := Lib.hid (apiC_one (c := clr ⟨af, ab, ag⟩) (v := .slice none 0 0) rfl)
          go_wp2_with fail
          with_reducible refine (hcl.out wr).mono ?_
          rintro e w1 ⟨rfl, hb1⟩
          have hB1 := hB.next hb1
          have hs1 := hB1.ref.slice
          go_wp2_with (first
            | (with_reducible show wpList _ _ _ (⟨some 46, .call _, _, _, _, _⟩ :: _) _ _; go_must (refine wpList_appN elemA rfl (.tmp 42) (.tmp 45) rfl w.heap.size (.slice ao m0 c0) qs.length (fl apiP qs) ⟨w1.heap.size, 0, none⟩ 1 1 (apiC (clr ⟨af, ab, ag⟩) (.slice none 0 0)) rfl rfl (hB1.next (below_new _ _)).lown rfl (lit_at w1 _) hone.out (by have := hB1.below.size; simp; omega) (by omega) ?_); intro lv1 w3 hl1 ho1 _; have hB3 := (hB1.next (below_new _ _)).push (clr ⟨af, ab, ag⟩, .slice none 0 0) (Own.nil _ _ _ _) hl1 ho1; obtain ⟨⟨ao1, m1, c1, rfl⟩, _⟩ := hB3.shape; have hs3 := hB3.ref.slice)
            | (with_reducible show wpList _ _ _ (⟨some 49, .call _, _, _, _, _⟩ :: _) _ _; go_must (refine wpList_app elemW rfl (.tmp 47) (.tmp 48) rfl w.heap.size (.slice aw mw cw) ws [-1] (some ⟨w3.heap.size, 0, none⟩) (w3.heap.size + 1) 1 rfl rfl (hB3.wown.alloc _) (Nums.one _ _ _ _) (by have := hB3.below.size; simp; omega) (by simp; omega) (by simp [maxLen]; omega) ?_); intro wv1 w4 hw1 ho4 _; have hB4 := (hB3.next (below_new _ _)).pushw (-1) hw1 ho4))
          clear hB hl1 ho1 hw1 ho4 hB3 hs3
          replace hB4 := Lib.hid hB4
          go_roundw
          case rel => exact ⟨k + 1, _, wv1, _, _, by omega, rfl, rfl, by go_num, Lib.hid ⟨hB4.out, by rw [hqn.out], by rw [hfn.out]⟩⟩
          case measure => simp [intOf]; omega
        · skip
          have h1' : p ≤ k := by omega
          have hq1 : qF k = ps[k]'(by omega) := by rw [hqF]; unfold qSet; rw [if_neg (by omega)]; exact getD_zp _
          have hf1 : F k = (k : Int) := by rw [hF]; unfold gSet; rw [if_neg (by omega), if_neg (by omega)]
          rw [hq1] at hqn
          rw [hf1] at hfn
          replace hqn := Lib.hid hqn
          replace hfn := Lib.hid hfn
          have hjp : k < ps.length := by omega
          obtain ⟨hld, hcm⟩ := hB.load hjp
          have hv1 := Own.one hcm
          generalize ps[k] = q0 at hld hcm hv1 hq1 hqn
          obtain ⟨⟨cr, cm, cx, ⟨cf, cb, cg⟩⟩, cv⟩ := q0
          clear hq1 hf1
          have hP : apiP (⟨cr, cm, cx, ⟨cf, cb, cg⟩⟩, cv) = [.int .i32 cr, cv, .int .u8 cx, .int .u32 cf, .int .u32 cb, .int .u16 cg] := rfl
          have hone : ∀ u ∈ [Value.int .i32 cr, cv, .int .u8 cx, .int .u32 cf, .int .u32 cb, .int .u16 cg], u.oneCell' = true := apiC_one (c := ⟨cr, cm, cx, ⟨cf, cb, cg⟩⟩) (v := cv) hv1
          rw [hP] at hld
          replace hld := Lib.hid hld
          replace hcm := Lib.hid hcm
          replace hone := Lib.hid hone
          clear hP hv1
          have hinf : Hid ((Tryz.prog.info? 117).map (·.size) = some [Value.int .i32 cr, cv, .int .u8 cx, .int .u32 cf, .int .u32 cb, .int .u16 cg].length) := Lib.hid info48
          go_wp2_with (first
            | (with_reducible show wpList _ _ _ (⟨some 57, .load _ (.tmp 56), _, _, _, _⟩ :: _) _ _; go_must (refine wpList_loadAt rfl 117 (.tmp 56) rfl ⟨gv, k * 6, none⟩ rfl _ _ hld.out Tryz.underlying117 rfl hinf.out ?_))
            | (with_reducible show wpList _ _ _ (⟨some 59, .call _, _, _, _, _⟩ :: _) _ _; go_must (refine wpList_appN elemA rfl (.tmp 50) (.tmp 58) rfl w.heap.size (.slice ao m0 c0) qs.length (fl apiP qs) ⟨wr.heap.size, 0, none⟩ 1 1 [Value.int .i32 cr, cv, .int .u8 cx, .int .u32 cf, .int .u32 cb, .int .u16 cg] rfl rfl (hB.next (below_new _ _)).lown rfl (lit_at wr _) hone.out (by have := hB.below.size; simp; omega) (by omega) ?_); intro lv1 w3 hl1 ho1 _; have hB3 := (hB.next (below_new _ _)).push (⟨cr, cm, cx, ⟨cf, cb, cg⟩⟩, cv) (hcm.out.alloc _) hl1 ho1; obtain ⟨⟨ao1, m1, c1, rfl⟩, _⟩ := hB3.shape; have hs3 := hB3.ref.slice)
            | (with_reducible show wpList _ _ _ (⟨some 63, .call _, _, _, _, _⟩ :: _) _ _; go_must (refine wpList_app elemW rfl (.tmp 60) (.tmp 62) rfl w.heap.size (.slice aw mw cw) ws [(k : Int)] (some ⟨w3.heap.size, 0, none⟩) (w3.heap.size + 1) 1 rfl rfl (hB3.wown.alloc _) (Nums.one _ _ _ _) (by have := hB3.below.size; simp; omega) (by simp; omega) (by simp [maxLen]; omega) ?_); intro wv1 w4 hw1 ho4 _; have hB4 := (hB3.next (below_new _ _)).pushw ((k : Int)) hw1 ho4))
          clear hB hl1 ho1 hw1 ho4 hB3 hs3
          replace hB4 := Lib.hid hB4
          go_roundw
          case rel => exact ⟨k + 1, _, wv1, _, _, by omega, rfl, rfl, by go_num, Lib.hid ⟨hB4.out, by rw [hqn.out], by rw [hfn.out]⟩⟩
          case measure => simp [intOf]; omega
    · obtain rfl : k = n := by omega
      replace hB := Lib.hid hB
      clear hqn hfn
      go_wp2_with (first
        | (with_reducible show wpList _ _ _ (⟨none, .store _ (.tmp 67) _, _, _, _, _⟩ :: _) _ _; go_must (refine wpList_store1 rfl _ (.tmp 67) (.tmp 65) rfl hB.out.ref.ptr (.slice _ _ _) rfl rfl (by simp) (by exact info44) rfl ?_); intro w2 hp2 ho2))
      obtain ⟨gl, gw, cl, cw', tail, e1, e2, hW, h1, h2, h3, h4, h5, h6, h7⟩ := hB.out.done F (by rw [hws.out, hqs.out]; simp) (by rw [hqs.out]; simp; omega) hql (by simpa using hp2) ho2
      have hqk : qs.length = k := by rw [hqs.out]; simp
      simp only [Value.slice.injEq] at e1 e2
      obtain ⟨rfl, rfl, rfl⟩ := e1
      obtain ⟨rfl, rfl, rfl⟩ := e2
      have hX := hX.out
      rw [← hqs.out] at hX
      have hfin := whole_any hW hX.1 rfl hql h1 h3
      with_reducible refine hfin.mono ?_
      rintro e w3 ⟨⟨v3, rfl⟩, hW3⟩
      have h7' := h7
      rw [hqk] at hW3 h1
      have hres : Hid (∀ v, RefDone B w d (eraseL (cels ps) p q ⟨af, ab, ag⟩) (.returned v) w3) := Lib.hid (fun v => ref_done hB.out ho2 hW3 hqk hn hn5 h1 h2 h5 h6 h7' hX.2)
      clear hfin hW3 hX h7' h7 hW ho2 hp2
      go_wp2
      go_end0
      exact hres.out _
end Go.Proofs.YtaoegfdaemmogaaGreat.Rw
