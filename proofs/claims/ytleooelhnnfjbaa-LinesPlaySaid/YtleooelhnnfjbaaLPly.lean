/-
  lines: the law LinesPlay.
-/
import Derived.Test.YtleooelhnnfjbaaLQst
import Derived.Test.YtleooelhnnfjbaaLKnow
import Derived.Deep.CutRange
import Derived.Deep.RegionHeld3
import Derived.Maps.RangeWalk
namespace Go.Proofs.Ytleooelhnnfjbaa.Lns
open Go Go.RowKit Go.Proofs.Ytleooelhnnfjbaa.Com Go.Proofs.Ytleooelhnnfjbaa.Rw
set_option linter.unusedVariables false

theorem op_one (o : Opr) : ∀ v ∈ opV o, v.oneCell' = true := by simp [opV, attV, Value.oneCell']
theorem op_info (o : Opr) : (Try.prog.info? 38).map (·.size) = some (opV o).length := by
  rw [opV_length]
  kernel_rfl
def Yes (w : World) (e : Ending) (w' : World) : Prop := e = .returned (.bool true) ∧ Below w.heap.size w w'

set_option maxRecDepth 100000 in
set_option maxHeartbeats 4000000 in
theorem play_no (most : Int) (h : most < 0 ∨ 10000 < most) (ao : Option Addr) (n c : Nat) (w : World) : Calls Try.prog 3 #[.int .i64 most, .slice ao n c] w (Yes w) := by
  have hnew := Lib.hid (Lns.new_no most h w)
  have hmay := rmay8 most
  rw [decide_eq_false (by omega)] at hmay
  replace hmay := Lib.hid hmay
  have hkn := Lib.hid (fun w => Lns.known_any w)
  clear h
  go_enter Try.func3, Try.ntmps3
  go_wp2_with (first
    | (go_at_call 6; (with_reducible refine (hnew.out).mono ?_); rintro e w1 ⟨rfl, rfl⟩)
    | (go_at_call 7; (with_reducible refine (hmay.out _).mono ?_); rintro e w' ⟨rfl, rfl⟩)
    | (go_at_call 8; (with_reducible refine (hkn.out _).mono ?_); rintro e w1 ⟨rfl, hb1⟩))
  go_ret
  exact ⟨rfl, hb1⟩
set_option maxRecDepth 100000 in
set_option maxHeartbeats 4000000 in
theorem play_out (most : Nat) (hm : most ≤ 10000) (ao : Option Addr) (n c : Nat) (h : 60 < n ∨ 30 < most) (w : World) : Calls Try.prog 3 #[.int .i64 most, .slice ao n c] w (Yes w) := by
  have hnew := Lib.hid (Lns.new_yes most hm w)
  have hmay := rmay8 most
  rw [decide_eq_true (by omega)] at hmay
  replace hmay := Lib.hid hmay
  have hkn := Lib.hid (fun w => Lns.known_any w)
  by_cases h1 : 60 < (n : Int)
  · clear h
    go_enter Try.func3, Try.ntmps3
    go_wp2_with (first
      | (go_at_call 6; (with_reducible refine (hnew.out).mono ?_); rintro e w1 ⟨rfl, hS, hb⟩)
      | (go_at_call 7; (with_reducible refine (hmay.out _).mono ?_); rintro e w' ⟨rfl, rfl⟩)
      | (go_at_call 8; (with_reducible refine (hkn.out _).mono ?_); rintro e w2 ⟨rfl, hb2⟩))
    go_ret
    exact ⟨rfl, below_next hb hb2⟩
  have h1' := decide_eq_false h1
  have h2 : 30 < (most : Int) := by omega
  clear h
  go_enter Try.func3, Try.ntmps3
  go_wp2_with (first
    | (go_at_call 6; (with_reducible refine (hnew.out).mono ?_); rintro e w1 ⟨rfl, hS, hb⟩)
    | (go_at_call 7; (with_reducible refine (hmay.out _).mono ?_); rintro e w' ⟨rfl, rfl⟩)
    | (go_at_call 8; (with_reducible refine (hkn.out _).mono ?_); rintro e w2 ⟨rfl, hb2⟩))
  go_ret
  exact ⟨rfl, below_next hb hb2⟩
/-- At the first round. -/
theorem play_start {w w1 w2 : World} {most : Nat} (hS : SX w.heap.size w1 w.heap.size 1 most (.slice none 0 0) []) (hb : Below w.heap.size w w1) (hR : RX w1.heap.size w2 w1.heap.size 1 most (.slice none 0 0) []) (hb2 : Below w1.heap.size w1 w2) :
    LQ w w2 w.heap.size w1.heap.size most 0 0 (.slice none 0 0) (.slice none 0 0) := by
  have hB := hb.size
  refine ⟨1, _, _, [], [], [], [], ⟨hS.below hb2, ⟨hR.blk, .inl ⟨rfl, rfl⟩, by simp, hB, hR.small⟩, ?_, ?_, by simp, by simp, .nil, .nil, by simp, by simp, no_block, ?_, below_next hb hb2⟩, by omega, rfl, rfl, by simp, rfl, by omega⟩
  · exact World.ownsRow_nil _ _ _ _
  · exact World.ownsRow_nil _ _ _ _
  · rintro g ⟨_, _, _, e⟩; cases e
set_option maxRecDepth 100000 in
set_option maxHeartbeats 8000000 in
theorem play_in (most : Nat) (hm : most ≤ 30) (os : List Opr) (hos : ∀ o ∈ os, o.Ok) (ao : Option Addr) (c : Nat) (h60 : os.length ≤ 60) (w : World) (hn : OpsAt w ao os) :
    Calls Try.prog 3 #[.int .i64 most, .slice ao os.length c] w (Yes w) := by
  obtain ⟨N, hN⟩ : ∃ N, N = os.length := ⟨_, rfl⟩
  rw [← hN] at h60 ⊢
  have hnew := Lib.hid (Lns.new_yes most (by omega) w)
  have hmay := rmay8 most
  rw [decide_eq_true (by omega)] at hmay
  replace hmay := Lib.hid hmay
  have hkn := Lib.hid (fun w => Lns.known_any w)
  have hrn := Lib.hid (fun w => rnew8 most w)
  have h1 : decide (60 < (N : Int)) = false := decide_eq_false (by omega)
  have h2 : decide (30 < (most : Int)) = false := decide_eq_false (by omega)
  replace hos := Lib.hid hos
  replace hn := Lib.hid hn
  replace hN := Lib.hid hN
  go_enter Try.func3, Try.ntmps3
  go_wp2_with (first
    | (go_at_call 6; (with_reducible refine (hnew.out).mono ?_); rintro e w1 ⟨rfl, hS, hb⟩)
    | (go_at_call 7; (with_reducible refine (hmay.out _).mono ?_); rintro e w' ⟨rfl, rfl⟩)
    | (go_at_call 9; (with_reducible refine (hrn.out _).mono ?_); rintro e w2 ⟨rfl, hR, hb2⟩))
  have h0 := Lib.hid (play_start hS hb hR hb2)
  obtain ⟨s, hs⟩ : ∃ s, s = w.heap.size := ⟨_, rfl⟩
  obtain ⟨r, hr⟩ : ∃ r, r = w1.heap.size := ⟨_, rfl⟩
  rw [← hs, ← hr] at h0
  rw [← hr]
  rw [← hs]
  clear hS hb hR hb2 hnew hrn hmay h1 h2 hs hr
  go_loopw [5, 8, 9, 54] (fun s5 s8 s9 i wr => ∃ (k n s : Nat) (tv wv : Value), k ≤ N ∧ i = .int .i64 k ∧ s5 = .pointer (some ⟨s, 0, none⟩) ∧ s8 = tv ∧ s9 = wv ∧ Hid (LQ w wr s r most k n tv wv)) (fun _ _ _ i _ => N - (intOf i).toNat)
  case atStart => exact ⟨0, 0, _, _, _, by omega, rfl, rfl, rfl, rfl, h0⟩
  case round =>
    obtain ⟨k, n, s, tv, wv, hk, rfl, rfl, rfl, rfl, hR⟩ := hrel
    clear h0
    by_cases hlt : k < N
    · obtain ⟨nx, sv, lv, Rp, Rr, Tp, Tr, hP, hnx, hkr, hkt, hlR, hlT, hnk⟩ := hR.out
      obtain ⟨a8, c8, a9, c9, rfl, rfl⟩ := hR.out.shape
      have hko : k < os.length := by rw [← hN.out]; exact hlt
      have hok := hos.out _ (List.getElem_mem hko)
      obtain ⟨ad, rfl, had, hld⟩ := (hn.out.below hP.below) k _ (List.getElem?_eq_getElem hko)
      generalize os[k] = o at hok hld
      have hz := Lib.hid (Block.made wr 38 #[.int .i64 0, .int .i64 0, .int .i32 0, .int .u32 0, .int .u32 0, .int .u16 0])
      have hki : (k : Int) < (N : Int) := by omega
      obtain ⟨ok, on, or', ⟨of', ob, og⟩⟩ := o
      replace hld := Lib.hid hld
      replace hok := Lib.hid hok
      replace hP := Lib.hid hP
      replace hkr := Lib.hid hkr
      replace hkt := Lib.hid hkt
      replace hlT := Lib.hid hlT
      clear had hR
      go_upto_region 14 with (first
        | (with_reducible show wpList _ _ _ (⟨some 57, .load _ (.tmp 56), _, _, _, _⟩ :: _) _ _; go_must (refine Rw.wpList_loadAt rfl 38 (.tmp 56) rfl (ad.add (k * 6)) rfl _ _ hld.out Try.underlying38 rfl (op_info _) ?_))
        | (with_reducible show wpList _ _ _ (⟨none, .store _ (.tmp 11) _, _, _, _, _⟩ :: _) _ _; go_must (refine wpList_storeAll rfl _ (.tmp 11) (.tmp 57) rfl hz.out (opV ⟨ok, on, or', ⟨of', ob, og⟩⟩).toArray rfl rfl (by simpa using op_info ⟨ok, on, or', ⟨of', ob, og⟩⟩) rfl (by simp [opV, attV, Value.oneCell']) ?_); intro w3 hx3 ho3; go_frame))
      have hB : Hid (BSt w w3 s r most nx nx sv lv (.slice a8 n c8) (.slice a9 n c9) Rp Rr Tp Tr wr.heap.size ⟨ok, on, or', ⟨of', ob, og⟩⟩) := Lib.hid ⟨hP.out.stay (below_on (below_new wr _) ho3 (Nat.le_refl _)), hx3⟩
      obtain ⟨b11, hb11⟩ : ∃ b11, b11 = wr.heap.size := ⟨_, rfl⟩
      rw [← hb11] at hB
      rw [← hb11]
      replace hb11 := Lib.hid hb11
      obtain ⟨c0, c1, c2, c3, c4, c5⟩ := BSt.cells hB
      simp only at c0 c1 c2 c3 c4 c5
      clear hx3 ho3 hP hz hld
      have hmy := Rw.may_any on
      by_cases hskip : ok = 1 ∧ 40 < on ∧ on ≤ 512
      · obtain ⟨rfl, hon, hon2⟩ := hskip
        rw [decide_eq_true (by omega)] at hmy
        replace hmy := Lib.hid hmy
        go_wp2_with ((go_at_call 10; (with_reducible refine (hmy.out _).mono ?_); rintro e w' ⟨rfl, rfl⟩))
        have hE : Hid (LQ w w3 s r most (k + 1) n (.slice a8 n c8) (.slice a9 n c9)) := Lib.hid ⟨nx, sv, lv, Rp, Rr, Tp, Tr, hB.out.p, by omega, hkr.out, hkt.out, hlR, hlT.out, by omega⟩
        clear c0 c1 c2 c3 c4 c5 hB
        go_roundw
        case rel => exact ⟨k + 1, n, _, _, _, by omega, by go_num, rfl, rfl, rfl, hE⟩
        case measure => simp [intOf]; omega
      have hk1 : (on ≤ 40) ∨ (40 < on ∧ (ok == 1) = false) ∨ (ok = 1 ∧ 40 < on ∧ ¬ (1 ≤ on ∧ on ≤ 512)) := by
        by_cases h40 : 40 < on
        · by_cases h6 : ok = 1
          · exact .inr (.inr ⟨h6, h40, fun h => hskip ⟨h6, h40, h.2⟩⟩)
          · exact .inr (.inl ⟨h40, by simpa using h6⟩)
        · exact .inl (by omega)
      have hfit : Hid (ok = 1 → on ≤ 40 ∨ 512 < on) := Lib.hid (fun h => by
        by_cases h1 : 40 < on
        · right
          by_cases h2 : on ≤ 512
          · exact absurd ⟨h, h1, h2⟩ hskip
          · omega
        · left; omega)
      replace hk1 := Lib.hid hk1
      clear hskip
      go_cut [54, 70] from 55 to 228 (fun s54 s70 wx => s54 = .int .i64 k ∧ s70 = .bool false ∧ w3 = wx)
      case first =>
        rcases hk1.out with h6 | ⟨h5, h6⟩ | ⟨rfl, h6, hno⟩
        · have h6' : decide (40 < on) = false := decide_eq_false (by omega)
          go_wp2_with fail
          go_meet
          exact ⟨rfl, rfl, rfl⟩
        · go_wp2_with fail
          go_meet
          exact ⟨rfl, rfl, rfl⟩
        · rw [decide_eq_false hno] at hmy
          replace hmy := Lib.hid hmy
          go_wp2_with ((go_at_call 10; (with_reducible refine (hmy.out _).mono ?_); rintro e w' ⟨rfl, rfl⟩))
          go_meet
          exact ⟨rfl, rfl, rfl⟩
      case rest =>
      obtain ⟨rfl, rfl, rfl⟩ := hcut
      clear hk1 hmy
      go_upto_if 73 with (fail)
      go_cut [12, 54] from 55 to 228 (fun s12 s54 wx => (∃ q : Int, s12 = .int .i64 q ∧ Hid ((n = 0 ∧ q = -1) ∨ ∃ j : Nat, j < n ∧ q = j)) ∧ s54 = .int .i64 k ∧ w3 = wx)
      case first =>
        by_cases hn0 : n = 0
        · subst hn0
          go_wp2_with fail
          go_meet
          exact ⟨⟨_, rfl, Lib.hid (.inl (by simp))⟩, rfl, rfl⟩
        · have hn1 : 0 < (n : Int) := by omega
          go_wp2_with fail
          obtain ⟨j, hj, hje⟩ := idx_of on (n := n) (by omega) (by omega)
          go_meet
          exact ⟨⟨_, rfl, Lib.hid (.inr ⟨j, hj, hje⟩)⟩, rfl, rfl⟩
      case rest =>
      obtain ⟨⟨q, rfl, hq⟩, rfl, rfl⟩ := hcut
      have hdone : Hid (∀ w4 s' nx' sv' lv' tv' wv' Rp' Rr' Tp' Tr' n', BSt w w4 s' r most nx' nx' sv' lv' tv' wv' Rp' Rr' Tp' Tr' b11 ⟨ok, on, or', ⟨of', ob, og⟩⟩ → nx' ≤ k + 2 → Rp'.map ek = Rr'.map ek → Tp'.map ek = Tr'.map ek → Rp'.length ≤ 10000 → Tp'.length = n' → n' ≤ k + 1 → LQ w w4 s' r most (k + 1) n' tv' wv') := Lib.hid (fun w4 s' nx' sv' lv' tv' wv' Rp' Rr' Tp' Tr' n' h h1 h2 h3 h4 h5 h6 => ⟨nx', sv', lv', Rp', Rr', Tp', Tr', h.p, h1, h2, h3, h4, h5, h6⟩)
      by_cases h1 : ok = 1
      · subst h1
        have hf := hfit.out rfl
        by_cases hin : ¬ (1 ≤ on ∧ on ≤ 512)
        · as_aux_lemma =>
            have hbad : on < 1 ∨ 512 < on := by omega
            go_upto_region 21 with (first
              | (go_at_call 11; (with_reducible refine (b_fresh_no hB on hbad ⟨of', ob, og⟩).mono ?_); rintro e w4 ⟨rfl, hB4⟩))
            obtain ⟨bx, hbx⟩ : ∃ bx, bx = w4.heap.size := ⟨_, rfl⟩
            obtain ⟨w5, hw5⟩ : ∃ w5, w5 = w4.alloc (.cells #[.int .i64 0, .pointer none] 42) := ⟨_, rfl⟩
            rw [← hbx, ← hw5]
            have hx5 : Block w5 bx 42 #[.int .i64 0, .pointer none] := by rw [hw5, hbx]; exact Block.made w4 _ _
            have hB5 : Hid (BSt w w5 s r most nx nx sv lv (.slice a8 n c8) (.slice a9 n c9) Rp Rr Tp Tr b11 ⟨1, on, or', ⟨of', ob, og⟩⟩) := Lib.hid (by rw [hw5]; exact hB4.out.stay (below_new w4 _))
            clear hB4 hB c0 c1 c2 c3 c4 c5 hw5
            replace hbx := Lib.hid hbx
            have e5 := BSt.cells hB5
            simp only at e5
            obtain ⟨_, e1, _, e3, e4, e5⟩ := e5
            go_upto_region 22 with (first
              | (go_at_call 12; (with_reducible refine (br_fresh_no hB5 on hbad ⟨of', ob, og⟩).mono ?_); rintro e w6 ⟨rfl, hB6, hb6⟩))
            have hb7 := below_next hb6 (below_new w6 (.cells #[.int .i64 0, .pointer none] 47))
            have hx7 := hx5.only (Only.of_below hb7 []) (by simp)
            have hy7 := Block.made w6 47 #[.int .i64 0, .pointer none]
            have hB7 := Lib.hid (hB6.out.stay (below_new w6 (.cells #[.int .i64 0, .pointer none] 47)))
            obtain ⟨by_, hby⟩ : ∃ by_, by_ = w6.heap.size := ⟨_, rfl⟩
            rw [← hby] at hy7 ⊢
            replace hby := Lib.hid hby
            clear e1 e3 e4 e5 hb7 hb6 hB5 hB6
            generalize w6.alloc (.cells #[.int .i64 0, .pointer none] 47) = w7 at hx7 hy7 hB7 ⊢
            have x0 := hx7.cell 0 rfl
            have x1 := hx7.cell 1 rfl
            have y0 := hy7.cell 0 rfl
            clear hx5 hx7 hy7
            go_upto_region 51 with (fail)
            clear x0 x1 y0

            have hE := Lib.hid (hdone.out _ _ _ _ _ _ _ _ _ _ _ (n) hB7.out (by omega) hkr.out hkt.out hlR hlT.out (by omega))
            obtain ⟨_, z1, _⟩ := BSt.cells hB7
            simp only at z1
            have hsm := Lib.hid (LQ.same hE.out on)
            clear hdone hB7
            go_wp2_with ((go_at_call 21; (with_reducible refine (hsm.out).mono ?_); rintro e w9 ⟨rfl, hE9⟩))
            clear hsm hE z1
            go_roundw
            case rel => exact ⟨k + 1, n, _, _, _, by omega, by go_num, rfl, rfl, rfl, hE9⟩
            case measure => simp [intOf]; omega
        · as_aux_lemma =>
            obtain ⟨m, rfl⟩ := Int.eq_ofNat_of_zero_le (show 0 ≤ on by omega)
            have hm1 : 1 ≤ m := by omega
            have hm5 : m ≤ 512 := by omega
            have hnx6 : nx < 1000000 := by omega
            go_upto_region 21 with (first
              | (go_at_call 11; (with_reducible refine (b_fresh hB hnx6 m hm1 hm5 ⟨of', ob, og⟩).mono ?_); rintro e w4 ⟨d4, g4, rfl, hF4⟩))
            obtain ⟨bx, hbx⟩ : ∃ bx, bx = w4.heap.size := ⟨_, rfl⟩
            obtain ⟨w5, hw5⟩ : ∃ w5, w5 = w4.alloc (.cells #[.int .i64 nx, .pointer (some ⟨d4, 0, none⟩)] 42) := ⟨_, rfl⟩
            rw [← hbx, ← hw5]
            have hnX : ∀ g, (Value.slice a8 n c8).ownBlock = some g → g ≠ bx := fun g hg => by
              have := (World.ownsRow.lt hF4.out.1.p.tl g hg).2
              omega
            have hF5 : Hid ((BSt w w5 s r most (nx + 1) nx sv lv (.slice a8 n c8) (.slice a9 n c9) Rp Rr Tp Tr b11 ⟨1, m, or', ⟨of', ob, og⟩⟩ ∧ FP w w5 Rp Tp ⟨nx, d4, g4, 0, freshL m ⟨of', ob, og⟩⟩) ∧ Block w5 bx 42 #[.int .i64 nx, .pointer (some ⟨d4, 0, none⟩)]) := Lib.hid (by
              rw [hw5, hbx]
              exact ⟨⟨hF4.out.1.stay (below_new w4 _), hF4.out.2.stay (below_new w4 _)⟩, Block.made w4 _ _⟩)
            clear hF4 hB c0 c1 c2 c3 c4 c5 hw5
            replace hbx := Lib.hid hbx
            have e5 := BSt.cells (Lib.hid hF5.out.1.1)
            simp only at e5
            obtain ⟨_, e1, _, e3, e4, e5⟩ := e5
            go_upto_region 22 with (first
              | (go_at_call 12; (with_reducible refine (br_fresh hF5 hnx6 m hm1 hm5 ⟨of', ob, og⟩).mono ?_); rintro e w6 ⟨dr6, rfl, hF6⟩))
            obtain ⟨by_, hby⟩ : ∃ by_, by_ = w6.heap.size := ⟨_, rfl⟩
            obtain ⟨w7, hw7⟩ : ∃ w7, w7 = w6.alloc (.cells #[.int .i64 nx, .pointer (some ⟨dr6, 0, none⟩)] 47) := ⟨_, rfl⟩
            rw [← hby, ← hw7]
            obtain ⟨gv, mm, capr, qs, hY⟩ := y_start hF6 rfl hnX hw7 hby
            clear e1 e3 e4 e5 hF5 hF6 hw7 hnX
            replace hby := Lib.hid hby
            have hC := YSt.cells hY
            simp only at hC
            obtain ⟨x0, x1, y0, y1, y2⟩ := hC
            go_upto_region 25 with (fail)
            clear x0 y0
            have hYd := YSt.drawn hY
            have hyc := y_cells hYd
            dsimp only at hyc
            replace hyc := Lib.hid hyc
            go_region_held3 (fun w' => w'.cell? ⟨bx, 1, none⟩ = some (.pointer (some ⟨d4, 0, none⟩)) ∧ w'.cell? ⟨by_, 1, none⟩ = some (.pointer (some ⟨dr6, 0, none⟩)) ∧ w'.cell? ⟨dr6, 0, none⟩ = some (.slice (some ⟨gv, 0, none⟩) mm capr))
              (first | exact ⟨x1, y1, y2⟩ | exact ⟨(YSt.cells hYd).2.1, (YSt.cells hYd).2.2.2⟩ | exact ⟨(YSt.cells (Lib.hid hY8.out.1)).2.1, (YSt.cells (Lib.hid hY8.out.1)).2.2.2⟩ | exact ⟨(YSt.cells hY9).2.1, (YSt.cells hY9).2.2.2⟩)
              (first
                | (go_at_call 14; (with_reducible refine hyc.out.mono ?_); rintro e w8 ⟨g2, ps, rfl, hY8, hb8⟩)
                | (go_at_call 13; (with_reducible refine (y_same hY8).mono ?_); rintro e w9 ⟨rfl, hY9, hb9⟩))
            clear x1 y1 y2 hY hYd hY8 hb8 hb9 hyc
            go_upto_region 27 with (fail)
            have hC := YSt.cells hY9
            simp only at hC
            obtain ⟨x0, x1, y0, y1, _⟩ := hC
            have hrl : Tr.length = n := by rw [ek_len hkt.out]; exact hlT.out
            have hn100 : n + 1 ≤ 100000 := by omega
            have hbA : Below w9.heap.size w9 (w9.alloc (.cells #[.int .i64 nx, .pointer (some ⟨d4, 0, none⟩)] 42)).drew := below_dr (below_new w9 _) 1
            have hbB : Below w9.heap.size w9 ((w9.alloc (.cells #[.int .i64 nx, .pointer (some ⟨d4, 0, none⟩)] 42)).alloc (.cells #[.int .i64 nx, .pointer (some ⟨dr6, 0, none⟩)] 47)).drew := below_dr (below_next (below_new w9 _) (below_new _ _)) 1
            have hbC : Below w9.heap.size w9 ((w9.alloc (.cells #[.int .i64 nx, .pointer (some ⟨dr6, 0, none⟩)] 47)).alloc (.cells #[.int .i64 nx, .pointer (some ⟨d4, 0, none⟩)] 42)).drew := below_dr (below_next (below_new w9 _) (below_new _ _)) 1
            have hbD : Below w9.heap.size w9 (w9.alloc (.cells #[.int .i64 nx, .pointer (some ⟨dr6, 0, none⟩)] 47)).drew := below_dr (below_new w9 _) 1
            have hA := Lib.hid (y_app1 hY9 hlT.out hbA ((Block.made w9 42 #[.int .i64 nx, .pointer (some ⟨d4, 0, none⟩)]).only (only_drew [] _) (by simp)))
            have lB : Block ((w9.alloc (.cells #[.int .i64 nx, .pointer (some ⟨d4, 0, none⟩)] 42)).alloc (.cells #[.int .i64 nx, .pointer (some ⟨dr6, 0, none⟩)] 47)).drew w9.heap.size 42 #[.int .i64 nx, .pointer (some ⟨d4, 0, none⟩)] := ((Block.made w9 42 #[.int .i64 nx, .pointer (some ⟨d4, 0, none⟩)]).alloc (.cells #[.int .i64 nx, .pointer (some ⟨dr6, 0, none⟩)] 47)).only (only_drew [] _) (by simp)
            have rB : Block ((w9.alloc (.cells #[.int .i64 nx, .pointer (some ⟨d4, 0, none⟩)] 42)).alloc (.cells #[.int .i64 nx, .pointer (some ⟨dr6, 0, none⟩)] 47)).drew (w9.heap.size + 1) 47 #[.int .i64 nx, .pointer (some ⟨dr6, 0, none⟩)] := by
              have := (Block.made (w9.alloc (.cells #[.int .i64 nx, .pointer (some ⟨d4, 0, none⟩)] 42)) 47 #[.int .i64 nx, .pointer (some ⟨dr6, 0, none⟩)]).only (only_drew [] _) (by simp)
              rwa [World.size_alloc] at this
            have lC : Block ((w9.alloc (.cells #[.int .i64 nx, .pointer (some ⟨dr6, 0, none⟩)] 47)).alloc (.cells #[.int .i64 nx, .pointer (some ⟨d4, 0, none⟩)] 42)).drew (w9.heap.size + 1) 42 #[.int .i64 nx, .pointer (some ⟨d4, 0, none⟩)] := by
              have := (Block.made (w9.alloc (.cells #[.int .i64 nx, .pointer (some ⟨dr6, 0, none⟩)] 47)) 42 #[.int .i64 nx, .pointer (some ⟨d4, 0, none⟩)]).only (only_drew [] _) (by simp)
              rwa [World.size_alloc] at this
            have rC : Block ((w9.alloc (.cells #[.int .i64 nx, .pointer (some ⟨dr6, 0, none⟩)] 47)).alloc (.cells #[.int .i64 nx, .pointer (some ⟨d4, 0, none⟩)] 42)).drew w9.heap.size 47 #[.int .i64 nx, .pointer (some ⟨dr6, 0, none⟩)] := ((Block.made w9 47 #[.int .i64 nx, .pointer (some ⟨dr6, 0, none⟩)]).alloc (.cells #[.int .i64 nx, .pointer (some ⟨d4, 0, none⟩)] 42)).only (only_drew [] _) (by simp)
            have hB1 := Lib.hid (y_app1 hY9 hlT.out hbB lB)
            have hC1 := Lib.hid (y_app1 hY9 hlT.out hbC lC)
            have hYA := YSt.cells (Lib.hid (hY9.out.stay hbA))
            have hYA0 := YSt.cells (Lib.hid (hY9.out.stay (below_new w9 (.cells #[.int .i64 nx, .pointer (some ⟨d4, 0, none⟩)] 42))))
            have hYB := YSt.cells (Lib.hid (hY9.out.stay hbB))
            have hYC := YSt.cells (Lib.hid (hY9.out.stay hbC))
            have hYD := YSt.cells (Lib.hid (hY9.out.stay hbD))
            have hYD0 := YSt.cells (Lib.hid (hY9.out.stay (below_new w9 (.cells #[.int .i64 nx, .pointer (some ⟨dr6, 0, none⟩)] 47))))
            go_region_held3 (fun w' => w'.cell? ⟨bx, 0, none⟩ = some (.int .i64 nx) ∧ w'.cell? ⟨bx, 1, none⟩ = some (.pointer (some ⟨d4, 0, none⟩)) ∧ w'.cell? ⟨by_, 0, none⟩ = some (.int .i64 nx) ∧ w'.cell? ⟨by_, 1, none⟩ = some (.pointer (some ⟨dr6, 0, none⟩)))
              (first | exact ⟨x0, x1, y0, y1⟩ | exact ⟨hYA.1, hYA.2.1, hYA.2.2.1, hYA.2.2.2.1⟩ | exact ⟨hYA0.1, hYA0.2.1, hYA0.2.2.1, hYA0.2.2.2.1⟩ | exact ⟨hYB.1, hYB.2.1, hYB.2.2.1, hYB.2.2.2.1⟩ | exact ⟨hYC.1, hYC.2.1, hYC.2.2.1, hYC.2.2.2.1⟩ | exact ⟨hYD.1, hYD.2.1, hYD.2.2.1, hYD.2.2.2.1⟩ | exact ⟨hYD0.1, hYD0.2.1, hYD0.2.2.1, hYD0.2.2.2.1⟩ | exact Y1St.cells hY10 | exact Y1St.cells (Lib.hid (hY10.out.stay (below_new w10 _))) | exact Y1St.cells (Lib.hid (hY10.out.stay (below_dr (below_new w10 _) 1))) | exact Y2St.cells hY11)
              (first
                | (refine step_appN elemL rfl (.tmp 134) (.tmp 136) rfl w.heap.size (.slice a8 n c8) n (fl lineC Tp) ⟨w9.heap.size, 0, none⟩ 1 1 (lineC ⟨nx, d4, g4, 0, freshL m ⟨of', ob, og⟩⟩) rfl rfl hA.out.1 rfl hA.out.2.1 (lineC_one _) hA.out.2.2.1 hn100 ?_; intro v1 w10 hown1 ho1 hat1; obtain ⟨⟨a10, c10, rfl⟩, hY10, hk10⟩ := hA.out.2.2.2 _ _ hown1 ho1 hat1)
                | (refine step_appN elemL rfl (.tmp 134) (.tmp 136) rfl w.heap.size (.slice a8 n c8) n (fl lineC Tp) ⟨w9.heap.size, 0, none⟩ 1 1 (lineC ⟨nx, d4, g4, 0, freshL m ⟨of', ob, og⟩⟩) rfl rfl hB1.out.1 rfl hB1.out.2.1 (lineC_one _) hB1.out.2.2.1 hn100 ?_; intro v1 w10 hown1 ho1 hat1; obtain ⟨⟨a10, c10, rfl⟩, hY10, hk10⟩ := hB1.out.2.2.2 _ _ hown1 ho1 hat1; have hR10 := hk10 _ _ rB)
                | (refine step_appN elemL rfl (.tmp 134) (.tmp 136) rfl w.heap.size (.slice a8 n c8) n (fl lineC Tp) ⟨w9.heap.size + 1, 0, none⟩ 1 1 (lineC ⟨nx, d4, g4, 0, freshL m ⟨of', ob, og⟩⟩) rfl rfl hC1.out.1 rfl hC1.out.2.1 (lineC_one _) hC1.out.2.2.1 hn100 ?_; intro v1 w10 hown1 ho1 hat1; obtain ⟨⟨a10, c10, rfl⟩, hY10, hk10⟩ := hC1.out.2.2.2 _ _ hown1 ho1 hat1; have hR10 := hk10 _ _ rC)
                | (have hQ := Lib.hid (y_app2 hY10 hrl (Below.refl _ _) hR10); refine step_appN elemRL rfl (.tmp 138) (.tmp 140) rfl w.heap.size (.slice a9 n c9) n (fl rlineC Tr) ⟨w9.heap.size + 1, 0, none⟩ 1 1 (rlineC ⟨nx, 0, 0, dr6, freshL m ⟨of', ob, og⟩⟩) rfl rfl hQ.out.1 rfl hQ.out.2.1 (rlineC_one _) hQ.out.2.2.1 hn100 ?_; intro v2 w11 hown2 ho2 hat2; obtain ⟨⟨a11, c11, rfl⟩, hY11⟩ := hQ.out.2.2.2 _ _ hown2 ho2 hat2)
                | (have hQ := Lib.hid (y_app2 hY10 hrl (Below.refl _ _) hR10); refine step_appN elemRL rfl (.tmp 138) (.tmp 140) rfl w.heap.size (.slice a9 n c9) n (fl rlineC Tr) ⟨w9.heap.size, 0, none⟩ 1 1 (rlineC ⟨nx, 0, 0, dr6, freshL m ⟨of', ob, og⟩⟩) rfl rfl hQ.out.1 rfl hQ.out.2.1 (rlineC_one _) hQ.out.2.2.1 hn100 ?_; intro v2 w11 hown2 ho2 hat2; obtain ⟨⟨a11, c11, rfl⟩, hY11⟩ := hQ.out.2.2.2 _ _ hown2 ho2 hat2)
                | (have hQ := Lib.hid (y_app2 hY10 hrl (below_new w10 (.cells #[.int .i64 nx, .pointer (some ⟨dr6, 0, none⟩)] 47)) (Block.made w10 47 #[.int .i64 nx, .pointer (some ⟨dr6, 0, none⟩)])); refine step_appN elemRL rfl (.tmp 138) (.tmp 140) rfl w.heap.size (.slice a9 n c9) n (fl rlineC Tr) ⟨w10.heap.size, 0, none⟩ 1 1 (rlineC ⟨nx, 0, 0, dr6, freshL m ⟨of', ob, og⟩⟩) rfl rfl hQ.out.1 rfl hQ.out.2.1 (rlineC_one _) hQ.out.2.2.1 hn100 ?_; intro v2 w11 hown2 ho2 hat2; obtain ⟨⟨a11, c11, rfl⟩, hY11⟩ := hQ.out.2.2.2 _ _ hown2 ho2 hat2))
            all_goals
              clear hA hB1 hC1 hYA hYA0 hYB hYC hYD hYD0 hbA hbB hbC hbD lB rB lC rC x0 x1 y0 y1 hY9
              have hB12 := Lib.hid hY11.out.t
              clear hY11 hY10
              have hE := Lib.hid (hdone.out _ _ _ _ _ _ _ _ _ _ _ (n + 1) hB12.out (by omega) hkr.out (ek_add hkt.out rfl) hlR (by rw [List.length_append, List.length_singleton, hlT.out]) (by omega))
              obtain ⟨_, z1, _⟩ := BSt.cells hB12
              simp only at z1
              have hsm := Lib.hid (LQ.same hE.out m)
              clear hdone hB12
              go_wp2_with ((go_at_call 21; (with_reducible refine (hsm.out).mono ?_); rintro e w9 ⟨rfl, hE9⟩))
              clear hsm hE z1
              go_roundw
              case rel => exact ⟨k + 1, n + 1, _, _, _, by omega, by go_num, rfl, rfl, rfl, hE9⟩
              case measure => simp [intOf]; omega
      have h1' : (ok == 1) = false := by simpa using h1
      by_cases h2 : ok = 2
      · as_aux_lemma =>
          subst h2
          by_cases hn0 : n = 0
          · as_aux_lemma =>
              subst hn0
              obtain rfl : q = -1 := by
                rcases hq.out with ⟨_, h⟩ | ⟨j, hj, _⟩
                · exact h
                · omega
              go_wp2_with ((go_at_call 15; (with_reducible refine (b_push_nil hB on).mono ?_); rintro e w4 ⟨rfl, hB4⟩))
              have hE := Lib.hid (hdone.out _ _ _ _ _ _ _ _ _ _ _ _ hB4.out (by omega) hkr.out hkt.out hlR hlT.out (by omega))
              clear c0 c1 c2 c3 c4 c5 hB hB4 hdone
              go_roundw
              case rel => exact ⟨k + 1, 0, _, _, _, by omega, by go_num, rfl, rfl, rfl, hE⟩
              case measure => simp [intOf]; omega
          obtain ⟨j, hj, rfl⟩ : ∃ j : Nat, j < n ∧ q = j := by
            rcases hq.out with ⟨h, _⟩ | h
            · exact absurd h hn0
            · exact h
          have hlr : Hid (Tr.length = n) := Lib.hid (by rw [ek_len hkt.out]; exact hlT.out)
          obtain ⟨g8, g9, rfl, rfl⟩ := BSt.shape1 hB (by omega) hlT.out hlr.out
          have hjp : j < Tp.length := by have := hlT.out; omega
          have hjr : j < Tr.length := by have := hlr.out; omega
          have t1 := BSt.toldP hB hlT.out hjp
          obtain ⟨t2, t3⟩ := BSt.toldR hB hlr.out hjr
          have hll := Lib.hid (ek_at hkt.out hjp hjr).2
          have hgd : Hid (Rw.Good Tr[j].l) := Lib.hid (by rw [hll.out]; exact (hB.out.p.trow _ (List.getElem_mem hjp)).1)
          have hjI : (j : Int) < (n : Int) := by omega
          have hlRr : Hid (Rr.length ≤ 10000) := Lib.hid (by rw [ek_len hkr.out]; exact hlR)
          go_upto_region 36 with (fail)
          clear t2 c0 c1 c2 c3 c4 c5
          by_cases hid : Tr[j].id < 1 ∨ (nx : Int) ≤ Tr[j].id
          · as_aux_lemma =>
              have hBd := BSt.drawn hB
              go_region_held3 (fun w' => w'.cell? ⟨g8, j * 2 + 1, none⟩ = some (.pointer (some ⟨Tp[j].d, 0, none⟩)) ∧ w'.cell? ⟨g9, j * 2 + 1, none⟩ = some (.pointer (some ⟨Tr[j].dr, 0, none⟩)))
                (first | exact ⟨t1, t3⟩ | exact ⟨BSt.toldP hBd hlT.out hjp, (BSt.toldR hBd hlr.out hjr).2⟩ | exact ⟨BSt.toldP hB4 hlT.out hjp, (BSt.toldR hB4 hlr.out hjr).2⟩ | exact ⟨BSt.toldP hB5 hlT.out hjp, (BSt.toldR hB5 hlr.out hjr).2⟩)
                (first
                  | (go_at_call 15; (with_reducible refine (b_push_no hBd (List.getElem_mem hjp) _ hid).mono ?_); rintro e w4 ⟨rfl, hB4⟩)
                  | (go_at_call 16; (with_reducible refine (br_push_no hB4 (List.getElem_mem hjr) _ hid).mono ?_); rintro e w5 ⟨rfl, hB5⟩))
              clear t1 t3 hB hBd hB4
              have e5 := BSt.cells hB5
              simp only at e5
              obtain ⟨_, _, e2, e3, e4, e5⟩ := e5
              have t1 := BSt.toldP hB5 hlT.out hjp
              have hBe := BSt.drawn hB5
              go_upto_region 38 with (fail)
              go_region_held3 (fun w' => w'.cell? ⟨g8, j * 2 + 1, none⟩ = some (.pointer (some ⟨Tp[j].d, 0, none⟩)) ∧ w'.cell? ⟨b11, 2, none⟩ = some (.int .i32 or') ∧ w'.cell? ⟨b11, 3, none⟩ = some (.int .u32 of') ∧ w'.cell? ⟨b11, 4, none⟩ = some (.int .u32 ob) ∧ w'.cell? ⟨b11, 5, none⟩ = some (.int .u16 og))
                (first | exact ⟨t1, e2, e3, e4, e5⟩ | exact ⟨BSt.toldP hBe hlT.out hjp, (BSt.cells hBe).2.2⟩ | exact ⟨set_toldP hjp hB6 hlT.out, (BSt.cells hB6).2.2⟩)
                (first
                  | (go_at_call 17; (with_reducible refine (b_put hBe hjp or' ⟨of', ob, og⟩).mono ?_); rintro e w6 ⟨⟨x6, rfl⟩, hB6⟩))
              clear t1 e2 e3 e4 e5 hBe hB5
              have e5 := BSt.cells hB6
              simp only at e5
              obtain ⟨_, _, e2, e3, e4, e5⟩ := e5
              obtain ⟨_, t3⟩ := BSt.toldR hB6 hlr.out hjr
              have hBf := BSt.drawn hB6
              go_upto_region 39 with (fail)
              go_region_held3 (fun w' => w'.cell? ⟨g9, j * 2 + 1, none⟩ = some (.pointer (some ⟨Tr[j].dr, 0, none⟩)) ∧ w'.cell? ⟨b11, 2, none⟩ = some (.int .i32 or') ∧ w'.cell? ⟨b11, 3, none⟩ = some (.int .u32 of') ∧ w'.cell? ⟨b11, 4, none⟩ = some (.int .u32 ob) ∧ w'.cell? ⟨b11, 5, none⟩ = some (.int .u16 og))
                (first | exact ⟨t3, e2, e3, e4, e5⟩ | exact ⟨(BSt.toldR hBf hlr.out hjr).2, (BSt.cells hBf).2.2⟩ | exact ⟨set_toldR hjr hB7 hlr.out, (BSt.cells hB7).2.2⟩)
                (first
                  | (go_at_call 18; (with_reducible refine (br_put hBf hjr hgd.out or' ⟨of', ob, og⟩).mono ?_); rintro e w7 ⟨⟨x7, rfl⟩, hB7⟩))
              clear t3 e2 e3 e4 e5 hBf hB6

              have hE := Lib.hid (hdone.out _ _ _ _ _ _ _ _ _ _ _ (n) hB7.out (by omega) hkr.out (ek_put hkt.out hjp hjr or' ⟨of', ob, og⟩) hlR (by rw [List.length_set]; exact hlT.out) (by omega))
              obtain ⟨_, z1, _⟩ := BSt.cells hB7
              simp only at z1
              have hsm := Lib.hid (LQ.same hE.out on)
              clear hdone hB7
              go_wp2_with ((go_at_call 21; (with_reducible refine (hsm.out).mono ?_); rintro e w9 ⟨rfl, hE9⟩))
              clear hsm hE z1
              go_roundw
              case rel => exact ⟨k + 1, n, _, _, _, by omega, by go_num, rfl, rfl, rfl, hE9⟩
              case measure => simp [intOf]; omega
          · as_aux_lemma =>
              have hid' : 1 ≤ Tr[j].id ∧ Tr[j].id < (nx : Int) := by omega
              have hBd := BSt.drawn hB
              go_region_held3 (fun w' => w'.cell? ⟨g8, j * 2 + 1, none⟩ = some (.pointer (some ⟨Tp[j].d, 0, none⟩)) ∧ w'.cell? ⟨g9, j * 2 + 1, none⟩ = some (.pointer (some ⟨Tr[j].dr, 0, none⟩)))
                (first | exact ⟨t1, t3⟩ | exact ⟨BSt.toldP hBd hlT.out hjp, (BSt.toldR hBd hlr.out hjr).2⟩ | exact ⟨BSt.toldP hB4 hlT.out hjp, (BSt.toldR hB4 hlr.out hjr).2⟩ | exact ⟨BSt.toldP hB5 hlT.out hjp, (BSt.toldR hB5 hlr.out hjr).2⟩)
                (first
                  | (go_at_call 15; (with_reducible refine (b_push_yes hBd (List.getElem_mem hjp) _ hid').mono ?_); rintro e w4 ⟨sv4, d4, g4, rfl, hB4⟩)
                  | (go_at_call 16; (with_reducible refine (br_push_yes hB4 hlRr.out (List.getElem_mem hjr) hgd.out _ hid').mono ?_); rintro e w5 ⟨lv5, dr5, rfl, hB5⟩))
              clear t1 t3 hB hBd hB4
              have e5 := BSt.cells hB5
              simp only at e5
              obtain ⟨_, _, e2, e3, e4, e5⟩ := e5
              have t1 := BSt.toldP hB5 hlT.out hjp
              have hBe := BSt.drawn hB5
              go_upto_region 38 with (fail)
              go_region_held3 (fun w' => w'.cell? ⟨g8, j * 2 + 1, none⟩ = some (.pointer (some ⟨Tp[j].d, 0, none⟩)) ∧ w'.cell? ⟨b11, 2, none⟩ = some (.int .i32 or') ∧ w'.cell? ⟨b11, 3, none⟩ = some (.int .u32 of') ∧ w'.cell? ⟨b11, 4, none⟩ = some (.int .u32 ob) ∧ w'.cell? ⟨b11, 5, none⟩ = some (.int .u16 og))
                (first | exact ⟨t1, e2, e3, e4, e5⟩ | exact ⟨BSt.toldP hBe hlT.out hjp, (BSt.cells hBe).2.2⟩ | exact ⟨set_toldP hjp hB6 hlT.out, (BSt.cells hB6).2.2⟩)
                (first
                  | (go_at_call 17; (with_reducible refine (b_put hBe hjp or' ⟨of', ob, og⟩).mono ?_); rintro e w6 ⟨⟨x6, rfl⟩, hB6⟩))
              clear t1 e2 e3 e4 e5 hBe hB5
              have e5 := BSt.cells hB6
              simp only at e5
              obtain ⟨_, _, e2, e3, e4, e5⟩ := e5
              obtain ⟨_, t3⟩ := BSt.toldR hB6 hlr.out hjr
              have hBf := BSt.drawn hB6
              go_upto_region 39 with (fail)
              go_region_held3 (fun w' => w'.cell? ⟨g9, j * 2 + 1, none⟩ = some (.pointer (some ⟨Tr[j].dr, 0, none⟩)) ∧ w'.cell? ⟨b11, 2, none⟩ = some (.int .i32 or') ∧ w'.cell? ⟨b11, 3, none⟩ = some (.int .u32 of') ∧ w'.cell? ⟨b11, 4, none⟩ = some (.int .u32 ob) ∧ w'.cell? ⟨b11, 5, none⟩ = some (.int .u16 og))
                (first | exact ⟨t3, e2, e3, e4, e5⟩ | exact ⟨(BSt.toldR hBf hlr.out hjr).2, (BSt.cells hBf).2.2⟩ | exact ⟨set_toldR hjr hB7 hlr.out, (BSt.cells hB7).2.2⟩)
                (first
                  | (go_at_call 18; (with_reducible refine (br_put hBf hjr hgd.out or' ⟨of', ob, og⟩).mono ?_); rintro e w7 ⟨⟨x7, rfl⟩, hB7⟩))
              clear t3 e2 e3 e4 e5 hBf hB6

              have hE := Lib.hid (hdone.out _ _ _ _ _ _ _ _ _ _ _ (n) hB7.out (by omega) (by rw [hll.out]; exact ek_push hkr.out _ _ _ _ _) (ek_put hkt.out hjp hjr or' ⟨of', ob, og⟩) (push_len hlR hm) (by rw [List.length_set]; exact hlT.out) (by omega))
              obtain ⟨_, z1, _⟩ := BSt.cells hB7
              simp only at z1
              have hsm := Lib.hid (LQ.same hE.out on)
              clear hdone hB7
              go_wp2_with ((go_at_call 21; (with_reducible refine (hsm.out).mono ?_); rintro e w9 ⟨rfl, hE9⟩))
              clear hsm hE z1
              go_roundw
              case rel => exact ⟨k + 1, n, _, _, _, by omega, by go_num, rfl, rfl, rfl, hE9⟩
              case measure => simp [intOf]; omega
      have h2' : (ok == 2) = false := by simpa using h2
      by_cases h4 : ok = 4
      · as_aux_lemma =>
          subst h4
          by_cases hn0 : n = 0
          · as_aux_lemma =>
              subst hn0
              obtain rfl : q = -1 := by
                rcases hq.out with ⟨_, h⟩ | ⟨j, hj, _⟩
                · exact h
                · omega
              go_wp2_with ((go_at_call 15; (with_reducible refine (b_push_nil hB on).mono ?_); rintro e w4 ⟨rfl, hB4⟩))
              have hE := Lib.hid (hdone.out _ _ _ _ _ _ _ _ _ _ _ _ hB4.out (by omega) hkr.out hkt.out hlR hlT.out (by omega))
              clear c0 c1 c2 c3 c4 c5 hB hB4 hdone
              go_roundw
              case rel => exact ⟨k + 1, 0, _, _, _, by omega, by go_num, rfl, rfl, rfl, hE⟩
              case measure => simp [intOf]; omega
          obtain ⟨j, hj, rfl⟩ : ∃ j : Nat, j < n ∧ q = j := by
            rcases hq.out with ⟨h, _⟩ | h
            · exact absurd h hn0
            · exact h
          have hlr : Hid (Tr.length = n) := Lib.hid (by rw [ek_len hkt.out]; exact hlT.out)
          obtain ⟨g8, g9, rfl, rfl⟩ := BSt.shape1 hB (by omega) hlT.out hlr.out
          have hjp : j < Tp.length := by have := hlT.out; omega
          have hjr : j < Tr.length := by have := hlr.out; omega
          have t1 := BSt.toldP hB hlT.out hjp
          obtain ⟨t2, t3⟩ := BSt.toldR hB hlr.out hjr
          have hll := Lib.hid (ek_at hkt.out hjp hjr).2
          have hgd : Hid (Rw.Good Tr[j].l) := Lib.hid (by rw [hll.out]; exact (hB.out.p.trow _ (List.getElem_mem hjp)).1)
          have hjI : (j : Int) < (n : Int) := by omega
          have hlRr : Hid (Rr.length ≤ 10000) := Lib.hid (by rw [ek_len hkr.out]; exact hlR)
          go_upto_region 36 with (fail)
          clear t2 c0 c1 c2 c3 c4 c5
          by_cases hid : on < 1 ∨ (nx : Int) ≤ on
          · as_aux_lemma =>
              have hBd := BSt.drawn hB
              go_region_held3 (fun w' => w'.cell? ⟨g8, j * 2 + 1, none⟩ = some (.pointer (some ⟨Tp[j].d, 0, none⟩)) ∧ w'.cell? ⟨g9, j * 2 + 1, none⟩ = some (.pointer (some ⟨Tr[j].dr, 0, none⟩)))
                (first | exact ⟨t1, t3⟩ | exact ⟨BSt.toldP hBd hlT.out hjp, (BSt.toldR hBd hlr.out hjr).2⟩ | exact ⟨BSt.toldP hB4 hlT.out hjp, (BSt.toldR hB4 hlr.out hjr).2⟩ | exact ⟨BSt.toldP hB5 hlT.out hjp, (BSt.toldR hB5 hlr.out hjr).2⟩)
                (first
                  | (go_at_call 15; (with_reducible refine (b_push_no hBd (List.getElem_mem hjp) _ hid).mono ?_); rintro e w4 ⟨rfl, hB4⟩)
                  | (go_at_call 16; (with_reducible refine (br_push_no hB4 (List.getElem_mem hjr) _ hid).mono ?_); rintro e w5 ⟨rfl, hB5⟩))
              clear t1 t3 hB hBd hB4
              have e5 := BSt.cells hB5
              simp only at e5
              obtain ⟨_, _, e2, e3, e4, e5⟩ := e5
              have t1 := BSt.toldP hB5 hlT.out hjp
              have hBe := BSt.drawn hB5
              go_upto_region 38 with (fail)
              go_region_held3 (fun w' => w'.cell? ⟨g8, j * 2 + 1, none⟩ = some (.pointer (some ⟨Tp[j].d, 0, none⟩)) ∧ w'.cell? ⟨b11, 2, none⟩ = some (.int .i32 or') ∧ w'.cell? ⟨b11, 3, none⟩ = some (.int .u32 of') ∧ w'.cell? ⟨b11, 4, none⟩ = some (.int .u32 ob) ∧ w'.cell? ⟨b11, 5, none⟩ = some (.int .u16 og))
                (first | exact ⟨t1, e2, e3, e4, e5⟩ | exact ⟨BSt.toldP hBe hlT.out hjp, (BSt.cells hBe).2.2⟩ | exact ⟨set_toldP hjp hB6 hlT.out, (BSt.cells hB6).2.2⟩)
                (first
                  | (go_at_call 17; (with_reducible refine (b_put hBe hjp or' ⟨of', ob, og⟩).mono ?_); rintro e w6 ⟨⟨x6, rfl⟩, hB6⟩))
              clear t1 e2 e3 e4 e5 hBe hB5
              have e5 := BSt.cells hB6
              simp only at e5
              obtain ⟨_, _, e2, e3, e4, e5⟩ := e5
              obtain ⟨_, t3⟩ := BSt.toldR hB6 hlr.out hjr
              have hBf := BSt.drawn hB6
              go_upto_region 39 with (fail)
              go_region_held3 (fun w' => w'.cell? ⟨g9, j * 2 + 1, none⟩ = some (.pointer (some ⟨Tr[j].dr, 0, none⟩)) ∧ w'.cell? ⟨b11, 2, none⟩ = some (.int .i32 or') ∧ w'.cell? ⟨b11, 3, none⟩ = some (.int .u32 of') ∧ w'.cell? ⟨b11, 4, none⟩ = some (.int .u32 ob) ∧ w'.cell? ⟨b11, 5, none⟩ = some (.int .u16 og))
                (first | exact ⟨t3, e2, e3, e4, e5⟩ | exact ⟨(BSt.toldR hBf hlr.out hjr).2, (BSt.cells hBf).2.2⟩ | exact ⟨set_toldR hjr hB7 hlr.out, (BSt.cells hB7).2.2⟩)
                (first
                  | (go_at_call 18; (with_reducible refine (br_put hBf hjr hgd.out or' ⟨of', ob, og⟩).mono ?_); rintro e w7 ⟨⟨x7, rfl⟩, hB7⟩))
              clear t3 e2 e3 e4 e5 hBf hB6

              have hE := Lib.hid (hdone.out _ _ _ _ _ _ _ _ _ _ _ (n) hB7.out (by omega) hkr.out (ek_put hkt.out hjp hjr or' ⟨of', ob, og⟩) hlR (by rw [List.length_set]; exact hlT.out) (by omega))
              obtain ⟨_, z1, _⟩ := BSt.cells hB7
              simp only at z1
              have hsm := Lib.hid (LQ.same hE.out on)
              clear hdone hB7
              go_wp2_with ((go_at_call 21; (with_reducible refine (hsm.out).mono ?_); rintro e w9 ⟨rfl, hE9⟩))
              clear hsm hE z1
              go_roundw
              case rel => exact ⟨k + 1, n, _, _, _, by omega, by go_num, rfl, rfl, rfl, hE9⟩
              case measure => simp [intOf]; omega
          · as_aux_lemma =>
              have hid' : 1 ≤ on ∧ on < (nx : Int) := by omega
              have hBd := BSt.drawn hB
              go_region_held3 (fun w' => w'.cell? ⟨g8, j * 2 + 1, none⟩ = some (.pointer (some ⟨Tp[j].d, 0, none⟩)) ∧ w'.cell? ⟨g9, j * 2 + 1, none⟩ = some (.pointer (some ⟨Tr[j].dr, 0, none⟩)))
                (first | exact ⟨t1, t3⟩ | exact ⟨BSt.toldP hBd hlT.out hjp, (BSt.toldR hBd hlr.out hjr).2⟩ | exact ⟨BSt.toldP hB4 hlT.out hjp, (BSt.toldR hB4 hlr.out hjr).2⟩ | exact ⟨BSt.toldP hB5 hlT.out hjp, (BSt.toldR hB5 hlr.out hjr).2⟩)
                (first
                  | (go_at_call 15; (with_reducible refine (b_push_yes hBd (List.getElem_mem hjp) _ hid').mono ?_); rintro e w4 ⟨sv4, d4, g4, rfl, hB4⟩)
                  | (go_at_call 16; (with_reducible refine (br_push_yes hB4 hlRr.out (List.getElem_mem hjr) hgd.out _ hid').mono ?_); rintro e w5 ⟨lv5, dr5, rfl, hB5⟩))
              clear t1 t3 hB hBd hB4
              have e5 := BSt.cells hB5
              simp only at e5
              obtain ⟨_, _, e2, e3, e4, e5⟩ := e5
              have t1 := BSt.toldP hB5 hlT.out hjp
              have hBe := BSt.drawn hB5
              go_upto_region 38 with (fail)
              go_region_held3 (fun w' => w'.cell? ⟨g8, j * 2 + 1, none⟩ = some (.pointer (some ⟨Tp[j].d, 0, none⟩)) ∧ w'.cell? ⟨b11, 2, none⟩ = some (.int .i32 or') ∧ w'.cell? ⟨b11, 3, none⟩ = some (.int .u32 of') ∧ w'.cell? ⟨b11, 4, none⟩ = some (.int .u32 ob) ∧ w'.cell? ⟨b11, 5, none⟩ = some (.int .u16 og))
                (first | exact ⟨t1, e2, e3, e4, e5⟩ | exact ⟨BSt.toldP hBe hlT.out hjp, (BSt.cells hBe).2.2⟩ | exact ⟨set_toldP hjp hB6 hlT.out, (BSt.cells hB6).2.2⟩)
                (first
                  | (go_at_call 17; (with_reducible refine (b_put hBe hjp or' ⟨of', ob, og⟩).mono ?_); rintro e w6 ⟨⟨x6, rfl⟩, hB6⟩))
              clear t1 e2 e3 e4 e5 hBe hB5
              have e5 := BSt.cells hB6
              simp only at e5
              obtain ⟨_, _, e2, e3, e4, e5⟩ := e5
              obtain ⟨_, t3⟩ := BSt.toldR hB6 hlr.out hjr
              have hBf := BSt.drawn hB6
              go_upto_region 39 with (fail)
              go_region_held3 (fun w' => w'.cell? ⟨g9, j * 2 + 1, none⟩ = some (.pointer (some ⟨Tr[j].dr, 0, none⟩)) ∧ w'.cell? ⟨b11, 2, none⟩ = some (.int .i32 or') ∧ w'.cell? ⟨b11, 3, none⟩ = some (.int .u32 of') ∧ w'.cell? ⟨b11, 4, none⟩ = some (.int .u32 ob) ∧ w'.cell? ⟨b11, 5, none⟩ = some (.int .u16 og))
                (first | exact ⟨t3, e2, e3, e4, e5⟩ | exact ⟨(BSt.toldR hBf hlr.out hjr).2, (BSt.cells hBf).2.2⟩ | exact ⟨set_toldR hjr hB7 hlr.out, (BSt.cells hB7).2.2⟩)
                (first
                  | (go_at_call 18; (with_reducible refine (br_put hBf hjr hgd.out or' ⟨of', ob, og⟩).mono ?_); rintro e w7 ⟨⟨x7, rfl⟩, hB7⟩))
              clear t3 e2 e3 e4 e5 hBf hB6

              have hE := Lib.hid (hdone.out _ _ _ _ _ _ _ _ _ _ _ (n) hB7.out (by omega) (by rw [hll.out]; exact ek_push hkr.out _ _ _ _ _) (ek_put hkt.out hjp hjr or' ⟨of', ob, og⟩) (push_len hlR hm) (by rw [List.length_set]; exact hlT.out) (by omega))
              obtain ⟨_, z1, _⟩ := BSt.cells hB7
              simp only at z1
              have hsm := Lib.hid (LQ.same hE.out on)
              clear hdone hB7
              go_wp2_with ((go_at_call 21; (with_reducible refine (hsm.out).mono ?_); rintro e w9 ⟨rfl, hE9⟩))
              clear hsm hE z1
              go_roundw
              case rel => exact ⟨k + 1, n, _, _, _, by omega, by go_num, rfl, rfl, rfl, hE9⟩
              case measure => simp [intOf]; omega
      have h4' : (ok == 4) = false := by simpa using h4
      by_cases h3 : ok = 3
      · as_aux_lemma =>
          subst h3
          go_upto_region 51 with (first
            | (go_at_call 19; (with_reducible refine (b_clear hB).mono ?_); rintro e w4 ⟨rfl, hB4⟩; have hB5 := br_clear hB4; have kf := hB4.out.p.rx.blk.free 2; obtain ⟨_, _, k2⟩ := hB4.out.p.rx.cells))
          clear c0 c1 c2 c3 c4 c5 hB kf k2

          have hE := Lib.hid (hdone.out _ _ _ _ _ _ _ _ _ _ _ (n) hB5.out (by omega) rfl hkt.out (by simp) hlT.out (by omega))
          obtain ⟨_, z1, _⟩ := BSt.cells hB5
          simp only at z1
          have hsm := Lib.hid (LQ.same hE.out on)
          clear hdone hB4 hB5
          go_wp2_with ((go_at_call 21; (with_reducible refine (hsm.out).mono ?_); rintro e w9 ⟨rfl, hE9⟩))
          clear hsm hE z1
          go_roundw
          case rel => exact ⟨k + 1, n, _, _, _, by omega, by go_num, rfl, rfl, rfl, hE9⟩
          case measure => simp [intOf]; omega
      have h3' : (ok == 3) = false := by simpa using h3
      by_cases h5 : ok = 5
      · as_aux_lemma =>
          subst h5
          have hnx' : nx < 1000000 := by omega
          go_upto_region 51 with (first
            | (go_at_call 20; (with_reducible refine (bc_copy hB).mono ?_); rintro e w4 ⟨s4, sv4, rfl, hC4⟩; obtain ⟨d3, d4, d5⟩ := BCt.cells hC4; simp only at d3 d4 d5)
            | (go_at_call 11; (with_reducible refine (bc_fresh hC4 hnx' ⟨of', ob, og⟩).mono ?_); rintro e w5 ⟨⟨x5, rfl⟩, hC5⟩)
            | (go_at_call 19; (with_reducible refine (bc_clear hC5).mono ?_); rintro e w6 ⟨⟨x6, rfl⟩, hB6⟩))
          clear c0 c1 c2 c3 c4 c5 hB hC4 hC5 d3 d4 d5

          have hE := Lib.hid (hdone.out _ _ _ _ _ _ _ _ _ _ _ (n) hB6.out (by omega) hkr.out hkt.out hlR hlT.out (by omega))
          obtain ⟨_, z1, _⟩ := BSt.cells hB6
          simp only at z1
          have hsm := Lib.hid (LQ.same hE.out on)
          clear hdone hB6
          go_wp2_with ((go_at_call 21; (with_reducible refine (hsm.out).mono ?_); rintro e w9 ⟨rfl, hE9⟩))
          clear hsm hE z1
          go_roundw
          case rel => exact ⟨k + 1, n, _, _, _, by omega, by go_num, rfl, rfl, rfl, hE9⟩
          case measure => simp [intOf]; omega
      have h5' : (ok == 5) = false := by simpa using h5
      as_aux_lemma =>
        clear c0 c2 c3 c4 c5

        have hE := Lib.hid (hdone.out _ _ _ _ _ _ _ _ _ _ _ (n) hB.out (by omega) hkr.out hkt.out hlR hlT.out (by omega))
        obtain ⟨_, z1, _⟩ := BSt.cells hB
        simp only at z1
        have hsm := Lib.hid (LQ.same hE.out on)
        clear hdone hB c1
        go_wp2_with ((go_at_call 21; (with_reducible refine (hsm.out).mono ?_); rintro e w9 ⟨rfl, hE9⟩))
        clear hsm hE z1
        go_roundw
        case rel => exact ⟨k + 1, n, _, _, _, by omega, by go_num, rfl, rfl, rfl, hE9⟩
        case measure => simp [intOf]; omega
    · obtain rfl : k = N := by omega
      have hb : Hid (Below w.heap.size w wr) := Lib.hid (by obtain ⟨_, _, _, _, _, _, _, h, _⟩ := hR.out; exact h.below)
      obtain ⟨a8, c8, a9, c9, rfl, rfl⟩ := hR.out.shape
      clear hR
      go_wp2_with ((go_at_call 8; (with_reducible refine (hkn.out _).mono ?_); rintro e w2 ⟨rfl, hb2⟩))
      go_ret
      exact ⟨rfl, below_next hb.out hb2⟩
theorem lawPlay (most : Int) (_ : (Lit.int .i64 most).wf = true) (os : List Opr) (hos : ∀ o ∈ os, o.Ok) (ao : Option Addr) (c : Nat) (_ : os.length ≤ c) (_ : c ≤ maxLen) (W : World) (hn : OpsAt W ao os) :
    Calls Try.prog 3 #[.int .i64 most, .slice ao os.length c] W fun e w' => e = .returned (.bool true) ∧ Below W.heap.size W w' := by
  by_cases h : most < 0 ∨ 10000 < most
  · exact play_no most h ao _ c W
  obtain ⟨m, rfl⟩ := Int.eq_ofNat_of_zero_le (show 0 ≤ most by omega)
  by_cases h2 : 60 < os.length ∨ 30 < m
  · exact play_out m (by omega) ao _ c h2 W
  · exact play_in m (by omega) os hos ao c (by omega) W hn
end Go.Proofs.Ytleooelhnnfjbaa.Lns
