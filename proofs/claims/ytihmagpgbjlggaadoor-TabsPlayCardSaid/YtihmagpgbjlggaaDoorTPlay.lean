/-
  tabs: the law TabsPlay.
-/
import Derived.Test.YtihmagpgbjlggaaDoorTPl
import Derived.Maps.RangeWalk
import Derived.Deep.RegionHeld3
import Derived.Deep.CutBlock
namespace Go.Proofs.YtihmagpgbjlggaaDoor.Tbs
open Go Go.RowKit Go.Proofs.YtihmagpgbjlggaaDoor.Com
set_option linter.unusedVariables false

theorem op_one (o : Opr) : (opV o).toArray.all (·.oneCell') = true := by simp [opV, Value.oneCell']
set_option maxRecDepth 100000 in
set_option maxHeartbeats 8000000 in
theorem lawPlay (cols : Int) (_ : (Lit.int .i64 cols).wf = true) (os : List Opr) (hos : ∀ o ∈ os, o.Ok) (ao : Option Addr) (c : Nat) (_ : os.length ≤ c) (_ : c ≤ maxLen) (w : World) (T : Tab w) (hn : OpsAt w ao os) :
    Calls Tryd.prog 3 #[.int .i64 cols, .slice ao os.length c] w (Yes w) := by
  obtain ⟨N, hN⟩ : ∃ N, N = os.length := ⟨_, rfl⟩
  rw [← hN]
  have hmay := may_ref cols
  by_cases hcl : ¬ (1 ≤ cols ∧ cols ≤ 512)
  · have hnew := Lib.hid (new_bad cols hcl w)
    have hkn := Lib.hid (known_any w T)
    rw [may_false hcl] at hmay
    replace hmay := Lib.hid hmay
    clear hcl hn hos hN
    go_enter Tryd.func3, Tryd.ntmps3
    go_wp2_with (first
      | (go_at_call 6; (with_reducible refine (hnew.out).mono ?_); rintro e w1 ⟨rfl, rfl⟩)
      | (go_at_call 7; (with_reducible refine (hmay.out _).mono ?_); rintro e w' ⟨rfl, rfl⟩)
      | (go_at_call 8; (with_reducible refine (hkn.out).mono ?_); rintro e w1 ⟨rfl, hb1⟩))
    go_ret
    exact ⟨rfl, hb1⟩
  obtain ⟨n0, rfl⟩ : ∃ n : Nat, cols = n := ⟨cols.toNat, by omega⟩
  have hn1 : 1 ≤ n0 := by omega
  have hn2 : n0 ≤ 512 := by omega
  rw [may_true (by omega)] at hmay
  replace hmay := Lib.hid hmay
  clear hcl
  have hnew := Lib.hid (new_st w T n0 hn1 hn2)
  by_cases hl : 60 < N
  · have hkn := Lib.hid (fun w' d f (h : TSt w w' d n0 f) => known_any w' h.tab)
    clear hn hos hN
    go_enter Tryd.func3, Tryd.ntmps3
    go_wp2_with (first
      | (go_at_call 6; (with_reducible refine (hnew.out).mono ?_); rintro e w1 ⟨d, rfl, hs⟩; replace hs := Lib.hid hs)
      | (go_at_call 7; (with_reducible refine (hmay.out _).mono ?_); rintro e w' ⟨rfl, rfl⟩)
      | (go_at_call 8; (with_reducible refine (hkn.out _ _ _ hs.out).mono ?_); rintro e w2 ⟨rfl, hb2⟩))
    go_ret
    exact ⟨rfl, below_next hs.out.below hb2⟩
  have hrn := Lib.hid (fun w => rnew_any w n0 hn1 hn2)
  replace hos := Lib.hid hos
  replace hn := Lib.hid hn
  replace hN := Lib.hid hN
  go_enter Tryd.func3, Tryd.ntmps3
  go_wp2_with (first
    | (go_at_call 6; (with_reducible refine (hnew.out).mono ?_); rintro e w1 ⟨d, rfl, hs⟩; replace hs := Lib.hid hs)
    | (go_at_call 7; (with_reducible refine (hmay.out _).mono ?_); rintro e w' ⟨rfl, rfl⟩)
    | (go_at_call 9; (with_reducible refine (hrn.out _).mono ?_); rintro e w2 ⟨r, v, rfl, hr2, hb2, hlow2⟩))
  have hS : Hid (LSt w w2 d n0 (freshF 0 n0) r) := Lib.hid ⟨hs.out.next hb2, ⟨v, by
    have h := hr2.congr (g := freshF 0 n0) (fresh_res n0)
    exact ⟨h.box, h.row.lower hs.out.below.size⟩⟩, Nat.le_trans hs.out.below.size hlow2, none_fresh n0⟩
  replace T := Lib.hid T
  clear hr2 hb2 hlow2 hs hnew hrn hmay hn1 hn2
  go_loopw [5, 42] (fun s5 i wr => ∃ (k d n : Nat) (f : Nat → Bool), k ≤ N ∧ i = .int .i64 k ∧ s5 = .pointer (some ⟨d, 0, none⟩) ∧ Hid (LSt w wr d n f r)) (fun _ i _ => N - (intOf i).toNat)
  case atStart => exact ⟨0, _, _, _, by omega, rfl, rfl, hS⟩
  case round =>
    obtain ⟨k, d, n, f, hk, rfl, rfl, hR⟩ := hrel
    clear hS
    by_cases hlt : k < N
    · have hko : k < os.length := by rw [← hN.out]; exact hlt
      have hok := hos.out _ (List.getElem_mem hko)
      obtain ⟨ad, hao, had, hld⟩ := (hn.out.below hR.out.t.below) k _ (List.getElem?_eq_getElem hko)
      subst hao
      generalize os[k] = o at hok hld
      have hki : (k : Int) < (N : Int) := by omega
      obtain ⟨ok, oc, on⟩ := o
      replace hld := Lib.hid hld
      have hon := bounds_i64 hok.2.2
      clear had hok
      have hz := Lib.hid (Block.made wr 32 #[.int .i64 0, .int .i64 0, .int .i64 0])
      go_upto_region 12 with (first
        | (with_reducible show wpList _ _ _ (⟨some 45, .load _ (.tmp 44), _, _, _, _⟩ :: _) _ _; go_must (refine wpList_loadAt rfl 32 (.tmp 44) rfl (ad.add (k * 3)) rfl _ _ hld.out Tryd.underlying32 rfl (op_info _) ?_))
        | (with_reducible show wpList _ _ _ (⟨none, .store _ (.tmp 9) _, _, _, _, _⟩ :: _) _ _; go_must (refine wpList_storeAll rfl _ (.tmp 9) (.tmp 45) rfl hz.out (opV ⟨ok, oc, on⟩).toArray rfl rfl (op_info _) rfl (op_one _) ?_); intro w3 hx3 ho3; go_frame))
      have hD : Hid (PSt w w3 d n f r n f wr.heap.size ⟨ok, oc, on⟩) := Lib.hid (hR.out.op (below_on (below_new wr _) ho3 (Nat.le_refl _)) hx3)
      obtain ⟨b9, hb9⟩ : ∃ b9, b9 = wr.heap.size := ⟨_, rfl⟩
      rw [← hb9] at hD
      rw [← hb9]
      replace hb9 := Lib.hid hb9
      have hnon := Lib.hid hR.out.non
      have hn512 : n ≤ 512 := hD.out.t.hi
      have hn1 : 1 ≤ n := hD.out.t.lo
      have hDd := Lib.hid hD.out.drawn
      obtain ⟨c0, c1, c2⟩ := PSt.cells hD
      simp only at c0 c1 c2 hon
      replace hon := Lib.hid hon
      clear hx3 ho3 hR hz hld
      go_upto_block 2 with (fail)
      go_cut [5, 10, 42] from 42 to 145 (fun s5 s10 s42 wx => ∃ (d' n' : Nat) (f' : Nat → Bool), s42 = .int .i64 k ∧ s5 = .pointer (some ⟨d', 0, .none⟩) ∧ Hid (PSt w wx d' n' f' r n' f' b9 ⟨ok, oc, on⟩ ∧ None n' f'))
      case first =>
        by_cases h1 : ok = 1
        · subst h1
          go_wp2_with fail
          go_region_held3 (fun w' => w'.cell? ⟨b9, 0, .none⟩ = some (.int .i64 1) ∧ w'.cell? ⟨b9, 1, .none⟩ = some (.int .i64 oc) ∧ w'.cell? ⟨b9, 2, .none⟩ = some (.int .i64 on))
            (first | exact PSt.cells hD | exact PSt.cells hDd | exact PSt.cells hP | exact PSt.cells hQ)
            (first
              | (go_at_call 10; (with_reducible refine (p_set hDd T.out on).mono ?_); rintro e w4 ⟨rfl, hP⟩)
              | (go_at_call 11; (with_reducible refine (r_put hP T.out on true).mono ?_); rintro e w5 ⟨rfl, hQ⟩))
          clear c0 c1 c2 hD hDd hP
          go_wp2
          go_meet
          exact ⟨d, n, _, rfl, rfl, Lib.hid ⟨hQ.out, none_put hnon.out on true⟩⟩
        have h1' : (ok == 1) = false := by simpa using h1
        by_cases h2 : ok = 2
        · subst h2
          go_wp2_with fail
          go_region_held3 (fun w' => w'.cell? ⟨b9, 0, .none⟩ = some (.int .i64 2) ∧ w'.cell? ⟨b9, 1, .none⟩ = some (.int .i64 oc) ∧ w'.cell? ⟨b9, 2, .none⟩ = some (.int .i64 on))
            (first | exact PSt.cells hD | exact PSt.cells hDd | exact PSt.cells hP | exact PSt.cells hQ)
            (first
              | (go_at_call 12; (with_reducible refine (p_clr hDd T.out on).mono ?_); rintro e w4 ⟨rfl, hP⟩)
              | (go_at_call 11; (with_reducible refine (r_put hP T.out on false).mono ?_); rintro e w5 ⟨rfl, hQ⟩))
          clear c0 c1 c2 hD hDd hP
          go_wp2
          go_meet
          exact ⟨d, n, _, rfl, rfl, Lib.hid ⟨hQ.out, none_put hnon.out on false⟩⟩
        have h2' : (ok == 2) = false := by simpa using h2
        by_cases h3 : ok = 3
        · subst h3
          go_wp2_with (first
            | (go_at_call 13; (with_reducible refine (p_clearAll hD T.out).mono ?_); rintro e w4 ⟨rfl, hP⟩)
            | (go_at_call 14; (with_reducible refine (r_clear hP T.out).mono ?_); rintro e w5 ⟨⟨x5, rfl⟩, hQ⟩))
          go_meet
          exact ⟨d, n, _, rfl, rfl, Lib.hid ⟨hQ.out, fun _ _ => rfl⟩⟩
        have h3' : (ok == 3) = false := by simpa using h3
        by_cases h4 : ok = 4
        · subst h4
          go_wp2_with fail
          go_region_held3 (fun w' => w'.cell? ⟨b9, 0, .none⟩ = some (.int .i64 4) ∧ w'.cell? ⟨b9, 1, .none⟩ = some (.int .i64 oc) ∧ w'.cell? ⟨b9, 2, .none⟩ = some (.int .i64 on))
            (first | exact PSt.cells hD | exact PSt.cells hDd | exact PSt.cells hP | exact PSt.cells hQ)
            (first
              | (go_at_call 15; (with_reducible refine (p_resize hDd T.out on).mono ?_); rintro e w4 ⟨rfl, hP⟩)
              | (go_at_call 16; (with_reducible refine (r_resize hP T.out on).mono ?_); rintro e w5 ⟨rfl, hQ⟩))
          clear c0 c1 c2 hD hDd hP
          go_wp2
          go_meet
          exact ⟨d, _, _, rfl, rfl, Lib.hid ⟨hQ.out.settle (res_same hnon.out on), none_res hnon.out on⟩⟩
        have h4' : (ok == 4) = false := by simpa using h4
        by_cases h5 : ok = 5
        · subst h5
          go_wp2_with (first
            | (go_at_call 17; (with_reducible refine (c_copy hD).mono ?_); rintro e w4 ⟨d4, rfl, hC⟩)
            | (go_at_call 13; (with_reducible refine (c_clearAll hC T.out).mono ?_); rintro e w5 ⟨⟨x5, rfl⟩, no5, fo5, hC5⟩)
            | (go_at_call 15; (with_reducible refine (c_resize hC5 T.out).mono ?_); rintro e w6 ⟨⟨x6, rfl⟩, no6, fo6, hC6⟩))
          go_meet
          exact ⟨d4, n, f, rfl, rfl, Lib.hid ⟨hC6.out.new, hnon.out⟩⟩
        have h5' : (ok == 5) = false := by simpa using h5
        go_wp2_with fail
        go_meet
        exact ⟨d, n, f, rfl, rfl, Lib.hid ⟨hD.out, hnon.out⟩⟩
      case rest =>
      obtain ⟨d', n', f', rfl, rfl, hE⟩ := hcut
      clear c0 c1 c2 hD hDd hnon hn512 hn1
      obtain ⟨v', hv'⟩ := hE.out.1.ref
      obtain ⟨gr, capr, rfl, _⟩ := hv'.slice hE.out.1.lo
      have hQ := Lib.hid (RdSt.mk hE.out.1 hv')
      have hQd := hQ.out.drawn
      have hNo := Lib.hid hE.out.2
      have hLl : Hid ((stsI f' n').length ≤ 512) := Lib.hid (by rw [stsI_len]; have := sts_bound f' n'; have := hE.out.1.hi; omega)
      obtain ⟨c1, c2, c3⟩ := RdSt.cells hQ
      simp only at c1 c2
      clear hv' hE
      go_wp2_with fail
      go_region_held3 (fun w' => w'.cell? ⟨b9, 1, .none⟩ = some (.int .i64 oc) ∧ w'.cell? ⟨b9, 2, .none⟩ = some (.int .i64 on) ∧ w'.cell? ⟨r, 0, .none⟩ = some (.slice (some ⟨gr, 0, .none⟩) n' capr))
        (first | exact RdSt.cells hQ | exact RdSt.cells hQd | exact RdSt.cells (by assumption))
        (first
          | (go_at_call 18; (with_reducible refine (q_cols hQd).mono ?_); rintro e w4 ⟨rfl, hQ4, hb4⟩)
          | (go_at_call 20; (with_reducible refine (q_stops hQ4 hNo.out).mono ?_); rintro e w5 ⟨a5, c5, rfl, hn5, hQ5, hb5⟩)
          | (go_at_call 21; (with_reducible refine (qr_stops hQ5).mono ?_); rintro e w6 ⟨a6, c6, rfl, hn6, hQ6, hb6⟩; have hn56 := Lib.hid ((hn5.below hb6 (Nat.le_refl _)).more hb6.size); replace hn6 := Lib.hid hn6)
          | (go_at_call 19; (with_reducible refine (q_same hQ6 hLl.out hn56.out hn6.out).mono ?_); rintro e w7 ⟨rfl, hQ7, hb7⟩)
          | (go_at_call 22; (with_reducible refine (q_next hQ7 oc on).mono ?_); rintro e w8 ⟨rfl, hQ8, hb8⟩)
          | (go_at_call 23; (with_reducible refine (qr_next hQ8 oc on hon.out.2).mono ?_); rintro e w9 ⟨rfl, hQ9, hb9'⟩)
          | (go_at_call 24; (with_reducible refine (q_prev hQ9 oc on).mono ?_); rintro e w10 ⟨rfl, hQ10, hb10⟩)
          | (go_at_call 25; (with_reducible refine (qr_prev hQ10 oc on hon.out.2).mono ?_); rintro e w11 ⟨rfl, hQ11, hb11⟩))
      have hL := Lib.hid (hQ11.out.pst.law hNo.out)
      clear c1 c2 c3 hQ hQd hQ4 hQ5 hQ6 hQ7 hQ8 hQ9 hQ10 hQ11 hb4 hb5 hb6 hb7 hb8 hb9' hb10 hb11 hn5 hn6 hn56 hLl hNo
      go_wp2
      go_roundw
      case rel => exact ⟨k + 1, d', n', f', by omega, by go_num, rfl, hL⟩
      case measure => simp [intOf]; omega
    · obtain rfl : k = N := by omega
      have hkn := Lib.hid (known_any _ hR.out.t.tab)
      go_wp2_with ((go_at_call 8; (with_reducible refine (hkn.out).mono ?_); rintro e w3 ⟨rfl, hb3⟩))
      go_ret
      exact ⟨rfl, below_next hR.out.t.below hb3⟩

end Go.Proofs.YtihmagpgbjlggaaDoor.Tbs
