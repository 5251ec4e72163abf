/-
  screen: ScreenOrder's walk where one is made. screen: ScreenOrder.
-/
import Derived.Test.YtaoegfdaemmogaaNOrd2
import Derived.Deep.CutRange
namespace Go.Proofs.Ytaoegfdaemmogaa.Scn
open Go Go.RowKit Go.Proofs.Ytaoegfdaemmogaa.Com Go.Proofs.Ytaoegfdaemmogaa.Rw Go.Proofs.Ytaoegfdaemmogaa.Lns
/-- What is known from call to call. -/
structure Ost (B : Nat) (w : World) (x s r q : Nat) (S Z : Scr) (rows cols k : Nat) : Prop where
  sc : SC B w x s S
  rc : RC B w r q Z
  fS : Fit S
  fZ : Fit Z
  iS : Inv S
  iZ : Inv Z
  rows : S.L.length = rows
  cols : S.cols = cols
  nS : S.nx ≤ 600 + 600 * k
  nZ : Z.nx ≤ 600 + 600 * k
  mZ : Z.most ≤ 10000
theorem rnew_lit {B : Nat} {w : World} {q : Nat} (h : RX B w q 1 0 (.slice none 0 0) []) : Calls Try.prog 9 #[.int .i64 1, .int .i64 1, .pointer (some ⟨q, 0, none⟩), .bool false] w fun e w' => e = .returned (.pointer (some ⟨w.heap.size, 0, none⟩)) ∧ RC B w' w.heap.size q (newS 1 0 1 1 false []) ∧ Fr B RT w w' :=
  rnew_yes h (by simp) 1 (by decide) (by decide) (by decide) (by decide) (by decide)
theorem ost_start {B : Nat} {w : World} {x s r q most rows cols : Nat} {kp : Bool} (h : SC B w x s (newS 1 most rows cols kp [])) (g : RC B w r q (newS 1 0 1 1 false [])) (hr1 : 1 ≤ rows) (hr5 : rows ≤ 512) (hc1 : 1 ≤ cols) (hc5 : cols ≤ 512) :
    Ost B w x s r q (newS 1 most rows cols kp []) (newS 1 0 1 1 false []) rows cols 0 := by
  refine ⟨h, g, newS_fit hr1 hr5 hc1 hc5 (by decide), newS_fit (by decide) (by decide) (by decide) (by decide) (by decide), new_inv (by decide), new_inv (by decide), by rw [newS_L, freshS_len], rfl, ?_, ?_, ?_⟩
  · show 1 + rows ≤ _; omega
  · show 1 + 1 ≤ _; omega
  · show 0 ≤ _; omega
set_option maxRecDepth 100000 in
set_option maxHeartbeats 8000000 in
theorem order_yes (rows cols most : Nat) (kp : Bool) (os : List Opr) (ao : Option Addr) (c : Nat) (W : World) (hn : OpsAt W ao os) (hr1 : 1 ≤ rows) (hr5 : rows ≤ 512) (hc1 : 1 ≤ cols) (hc5 : cols ≤ 512) (hm : most ≤ 10000) :
    Calls Try.prog 3 #[.int .i64 rows, .int .i64 cols, .int .i64 most, .bool kp, .slice ao os.length c] W fun e W' => e = .returned (.bool true) ∧ Below W.heap.size W W' := by
  have ht := Lib.hid (tame_any (c := c) hn rows cols most)
  have hk := Lib.hid (fun w => known_any w)
  have hmd := Lib.hid (fun w => made_yes rows cols most kp hr1 hr5 hc1 hc5 hm w)
  have h8 : Hid (∀ w, Calls Try.prog 10 #[.int .i64 0] w fun e w' => e = .returned (.pointer (some ⟨w.heap.size, 0, none⟩)) ∧ RX w.heap.size w' w.heap.size 1 0 (.slice none 0 0) [] ∧ Below w.heap.size w w') := Lib.hid (fun w => rnew8 0 w)
  have hst := Lib.hid (fun w x s r q (h : SC W.heap.size w x s (newS 1 most rows cols kp [])) (g : RC W.heap.size w r q (newS 1 0 1 1 false [])) => ost_start h g hr1 hr5 hc1 hc5)
  obtain ⟨N, hN⟩ : ∃ N, N = os.length := ⟨_, rfl⟩
  rw [← hN] at ht ⊢
  replace hN := Lib.hid hN
  replace hn := Lib.hid hn
  clear hr1 hr5 hc1 hc5 hm
  go_enter Try.func3, Try.ntmps3
  go_wp2_with (first
    | (go_at_call 6; (with_reducible refine ht.out.mono ?_); rintro r' w' ⟨⟨b, rfl, hT⟩, hwe⟩; obtain rfl : W = w' := hwe.symm; replace hT := Lib.hid hT)
    | (go_at_call 8; (with_reducible refine (hmd.out _).mono ?_); rintro r' w2 ⟨x, s, rfl, hsc, hb2⟩)
    | (go_at_call 10; (with_reducible refine (h8.out _).mono ?_); rintro r' w4 ⟨rfl, hrx, hb4⟩; have hr9 : RX W.heap.size w4 w2.heap.size 1 0 (.slice none 0 0) [] := ⟨hrx.blk, .inl ⟨rfl, rfl⟩, by simp, hb2.size, hrx.small⟩; have hnw := Lib.hid (rnew_lit hr9); have hsc4 := hsc.below hb4)
    | (go_at_call 9; (with_reducible refine hnw.out.mono ?_); rintro r' w5 ⟨rfl, hrc, hf5⟩; have hsc5 := hsc4.fr hf5 noRT)
    | (go_at_call 7; (with_reducible refine (hk.out _).mono ?_); rintro r' w3 ⟨rfl, hb3⟩))
  · go_ret
    exact ⟨rfl, hb3⟩
  have hT2 := Lib.hid (hT.out (by simpa using ‹(!b) = false›))
  have h60 : N ≤ 60 := by have := hT2.out.1.2.2.2.2; rw [hN.out]; exact this
  replace hT2 := Lib.hid hT2.out.2
  have hO0 := hst.out _ _ _ _ _ hsc5 hrc
  have hb5 := (below_next hb2 hb4).trans (hf5.below (Nat.le_trans hb2.size hb4.size))
  obtain ⟨r, hr⟩ : ∃ r, r = w4.heap.size := ⟨_, rfl⟩
  obtain ⟨q, hq⟩ : ∃ q, q = w2.heap.size := ⟨_, rfl⟩
  rw [← hr, ← hq] at hO0
  rw [← hr]
  replace hO0 := Lib.hid (And.intro hO0 hb5)
  clear hsc5 hrc hf5 hnw hr9 hrx hb4 hsc4 hsc hb2 hr hq hst h8 hmd ht hT hb5
  go_loopw [0, 1, 49] (fun s0 s1 i wr => ∃ (j rows cols : Nat) (S Z : Scr), j ≤ N ∧ s0 = .int .i64 rows ∧ s1 = .int .i64 cols ∧ i = .int .i64 j ∧ Hid (Ost W.heap.size wr x s r q S Z rows cols j ∧ Below W.heap.size W wr)) (fun _ _ i _ => N - (intOf i).toNat)
  case atStart => exact ⟨0, rows, cols, _, _, Nat.zero_le _, rfl, rfl, rfl, hO0⟩
  case round =>
    clear hO0
    obtain ⟨j, rows, cols, S, Z, hj, rfl, rfl, rfl, hR⟩ := hrel
    by_cases hlt : j < N
    · obtain ⟨⟨hsc, hrc, hF, hG, hI, hJ, hrow, hcol, hnS, hnZ, hmZ⟩, hbW⟩ := hR.out
      have hko : j < os.length := by rw [← hN.out]; exact hlt
      obtain ⟨ad, rfl, had, hld⟩ := (hn.out.below hbW) j _ (List.getElem?_eq_getElem hko)
      have h6 := hT2.out _ (List.getElem_mem hko)
      generalize os[j] = o at hld h6
      have hz := Lib.hid (Block.made wr 38 #[.int .i64 0, .int .i64 0, .int .i64 0, .int .i64 0, .int .i32 0, .bool false, .int .u32 0, .int .u32 0, .int .u16 0])
      have hjI : (j : Int) < (N : Int) := by omega
      replace hld := Lib.hid hld
      replace h6 := Lib.hid h6
      replace hrow := Lib.hid hrow
      replace hcol := Lib.hid hcol
      clear had hR
      go_upto_region 10 with (first
        | (with_reducible show wpList _ _ _ (⟨some 52, .load _ (.tmp 51), _, _, _, _⟩ :: _) _ _; go_must (refine Rw.wpList_loadAt rfl 38 (.tmp 51) rfl (ad.add (j * 9)) rfl _ _ hld.out Try.underlying38 rfl (op_info _) ?_))
        | (with_reducible show wpList _ _ _ (⟨none, .store _ (.tmp 16) _, _, _, _, _⟩ :: _) _ _; go_must (refine wpList_storeAll rfl _ (.tmp 16) (.tmp 52) rfl hz.out (opV o).toArray rfl rfl (by simpa using op_info o) rfl (by simp [opV, attV, Value.oneCell']) ?_); intro w3 hx3 ho3; go_frame))
      have hb3 : Below wr.heap.size wr w3 := below_on (below_new wr _) ho3 (Nat.le_refl _)
      have hs3 := hsc.below hb3
      have hr3 := hrc.below hb3
      have hbW3 := below_next hbW hb3
      obtain ⟨bx, hbxe⟩ : ∃ bx, bx = wr.heap.size := ⟨_, rfl⟩
      rw [← hbxe] at hx3
      rw [← hbxe]
      clear hbxe hb3 hsc hrc hbW ho3 hz hld
      have hB3 := hbW3.size
      go_upto_if 59 with (first
        | (go_at_call 11; (with_reducible refine (ids_sc hs3 hF).mono ?_); rintro r' w4 ⟨v4, rfl, hO4, hb4⟩; obtain ⟨a4, c4, rfl, _⟩ := own_nums' hO4; have hs4 := hs3.below hb4; have hx4 := hx3.only (Only.of_below hb4 []) (by simp); have c0 : w4.cell? ⟨bx, 0, none⟩ = some (.int .i64 o.kind) := hx4.cell 0 rfl)
        | (go_at_call 12; (with_reducible refine (nx_sc hs4).mono ?_); rintro r' w5 ⟨rfl, rfl⟩))
      have hr4 := hr3.below hb4
      have hbW4 := below_next hbW3 hb4
      have hB4 := hbW4.size
      clear hs3 hr3 hbW3 hx3 hb4
      obtain ⟨n0, hn0⟩ : ∃ n0, n0 = S.nx := ⟨_, rfl⟩
      rw [← hn0]
      replace hn0 := Lib.hid hn0
      have hl4 : Hid (∀ i v, (opV o)[i]? = some v → w4.cell? ((⟨bx, 0, none⟩ : Addr).add i) = some v) := Lib.hid (fun i v hi => by rw [Addr.add_lit, Nat.zero_add]; exact hx4.cell i (by simpa using hi))
      obtain ⟨M, hM⟩ : ∃ M, M = (idsL S.L).length := ⟨_, rfl⟩
      rw [← hM]
      replace hM := Lib.hid hM
      have hlen := hF.len
      go_cut [0, 1, 19, 20, 49] from 49 to 154 (fun s0 s1 s19 s20 s49 wx => (∃ rows' cols' : Nat, s0 = .int .i64 rows' ∧ s1 = .int .i64 cols' ∧ Hid (∃ S' Z' : Scr, SC W.heap.size wx x s S' ∧ RC W.heap.size wx r q Z' ∧ Aft S S' Z Z' rows' cols' ∧ Fr W.heap.size BT w4 wx)) ∧ s49 = .int .i64 j)
      case first =>
        have c1 : w4.cell? ⟨bx, 1, none⟩ = some (.int .i64 o.at') := hx4.cell 1 rfl
        have c2 : w4.cell? ⟨bx, 2, none⟩ = some (.int .i64 o.n) := hx4.cell 2 rfl
        have c3 : w4.cell? ⟨bx, 3, none⟩ = some (.int .i64 o.cols) := hx4.cell 3 rfl
        by_cases h6k : o.kind = 6
        · have hk6 : (o.kind == 6) = true := beq_iff_eq.2 h6k
          by_cases hok : (1 ≤ o.n ∧ o.n ≤ 512) ∧ (1 ≤ o.cols ∧ o.cols ≤ 512) ∧ 0 ≤ o.at' ∧ o.at' < S.L.length
          · obtain ⟨⟨p1, p2⟩, ⟨p3, p4⟩, p5, p6⟩ := hok
            obtain ⟨nn, hnn⟩ := Int.eq_ofNat_of_zero_le (show 0 ≤ o.n by omega)
            obtain ⟨cc, hcc⟩ := Int.eq_ofNat_of_zero_le (show 0 ≤ o.cols by omega)
            obtain ⟨yy, hyy⟩ := Int.eq_ofNat_of_zero_le p5
            have hres := Lib.hid (res_yes hs4 hF nn cc yy (by omega) (by omega) (by omega) (by omega) (by omega) (by omega))
            have haft := Lib.hid (Aft.res hF hG hI hJ (rows := nn) (cols := cc) (y := yy) (by omega) (by omega) (by omega) (by omega) (by omega))
            rw [hyy] at c1
            rw [hnn] at c2
            rw [hcc] at c3
            clear hnn hcc hyy p1 p2 p3 p4 p5 p6 h6k
            go_wp2_with (first
              | (go_at_call 13; (with_reducible refine hres.out.mono ?_); rintro r' w6 ⟨rfl, hs6, hf6⟩; have hx6 := Block.fr hx4 hf6 (.inl (by unfold PT; decide)); have d0 : w6.cell? ⟨bx, 0, none⟩ = some (.int .i64 o.kind) := hx6.cell 0 rfl; have d2 : w6.cell? ⟨bx, 2, none⟩ = w4.cell? ⟨bx, 2, none⟩ := (hx6.cell 2 rfl).trans (hx4.cell 2 rfl).symm; have d3 : w6.cell? ⟨bx, 3, none⟩ = w4.cell? ⟨bx, 3, none⟩ := (hx6.cell 3 rfl).trans (hx4.cell 3 rfl).symm; rw [c2] at d2; rw [c3] at d3))
            try go_quiet (fail)
            go_wp2
            have hd6 : ∀ nq, Below w6.heap.size w6 (w6.drewN nq) := fun nq => below_dr (Below.refl _ _) nq
            have hr6 := hr4.fr hf6 noPT
            go_meet
            exact ⟨⟨nn, cc, rfl, rfl, Lib.hid ⟨_, _, hs6.below (hd6 _), hr6.below (hd6 _), haft.out, (frP hf6).trans (Fr.of_below (hd6 _))⟩⟩, rfl⟩
          · have hres := Lib.hid (res_no hs4 hF o.n o.cols o.at' hok)
            have haft := Lib.hid (Aft.stay hF hG hI hJ)
            rw [hrow.out, hcol.out] at haft
            clear hok h6k
            go_wp2_with (first
              | (go_at_call 13; (with_reducible refine hres.out.mono ?_); rintro r' w6 ⟨rfl, rfl⟩))
            go_meet
            exact ⟨⟨rows, cols, rfl, rfl, Lib.hid ⟨_, _, hs4, hr4, haft.out, Fr.refl _ _ _⟩⟩, rfl⟩
        have hk6 : (o.kind == 6) = false := beq_eq_false_iff_ne.2 h6k
        by_cases h7k : o.kind = 7
        · have hk7 : (o.kind != 7) = false := by simp [h7k]
          have haft := Lib.hid (Aft.stay hF hG hI hJ)
          rw [hrow.out, hcol.out] at haft
          clear h7k h6k
          go_wp2_with fail
          go_meet
          exact ⟨⟨rows, cols, rfl, rfl, Lib.hid ⟨_, _, hs4, hr4, haft.out, Fr.refl _ _ _⟩⟩, rfl⟩
        · have hk7 : (o.kind != 7) = true := by simp [h7k]
          have hdo := Lib.hid (do_any hs4 hr4 hF hG (by omega) (by omega) hJ.most hmZ o h6k h7k)
          have haft := Lib.hid (Aft.do' hF hG hI hJ o)
          rw [hrow.out, hcol.out] at haft
          clear h7k h6k
          go_wp2_with (first
            | (with_reducible show wpList _ _ _ (⟨some 82, .load _ (.tmp 16), _, _, _, _⟩ :: _) _ _; go_must (refine Rw.wpList_loadAt rfl 38 (.tmp 16) rfl (⟨bx, 0, none⟩ : Addr) rfl _ _ hl4.out Try.underlying38 rfl (op_info _) ?_))
            | (go_at_call 14; (with_reducible refine hdo.out.mono ?_); rintro r' w6 ⟨y, rfl, hs6, hr6, hf6⟩))
          go_meet
          exact ⟨⟨rows, cols, rfl, rfl, Lib.hid ⟨_, _, hs6, hr6, haft.out, hf6⟩⟩, rfl⟩
      case rest =>
      obtain ⟨⟨rows', cols', rfl, rfl, hcc⟩, rfl⟩ := hcut
      obtain ⟨S', Z', hs5, hr5, hA, hf5⟩ := hcc.out
      have hO5 := owno_fr hO4 hf5 (by unfold BT PT RT; decide)
      have hbW5 := hbW4.trans (hf5.below hB4)
      have hord := ord_of hI hA.flt
      obtain ⟨a5, c5, e5, hN5⟩ := own_nums' hO5
      rw [← hM.out] at e5
      simp only [Value.slice.injEq] at e5
      obtain ⟨rfl, _, rfl⟩ := e5
      have e7 : (idsL S'.L).length = rows' := by rw [idsl_len, hA.rows]
      have hcs := fun w (h : SC W.heap.size w x s S') => cols_sc h hA.fS.len
      rw [hA.cols] at hcs
      have hlk := fun w7 (h : SC W.heap.size w7 x s S') => look_of h hA.fS hA.iS
      rw [hA.cols] at hlk
      have hids := ids_sc hs5 hA.fS
      have hfin : Hid (∀ w9, Below wc.heap.size wc w9 → ∃ S' Z', Ost W.heap.size w9 x s r q S' Z' rows' cols' (j + 1) ∧ Below W.heap.size W w9) := Lib.hid (fun w9 hb => by
        have g1 := hA.nS
        have g2 := hA.nZ
        have g3 := hA.mZ
        exact ⟨S', Z', ⟨hs5.below hb, hr5.below hb, hA.fS, hA.fZ, hA.iS, hA.iZ, hA.rows, hA.cols, by omega, by omega, by omega⟩, below_next hbW5 hb⟩)
      have hr512 : rows' ≤ 512 := by rw [← hA.rows]; exact hA.fS.len5
      have hM512 : M ≤ 512 := by rw [hM.out, idsl_len]; exact hF.len5
      rw [← hn0.out] at hord
      obtain ⟨was, hwas⟩ : ∃ was, was = idsL S.L := ⟨_, rfl⟩
      rw [← hwas] at hord hN5
      have hMw : Hid (M = was.length) := Lib.hid (by rw [hwas]; exact hM.out)
      clear hwas
      generalize idsL S'.L = nw at hord e7 hlk hids
      generalize S'.nx = nxt at hlk
      have hb1 : ((rows' : Int) != (rows' : Int)) = false := by simp
      have hb2' : ((cols' : Int) != (cols' : Int)) = false := by simp
      replace hord := Lib.hid hord
      replace hlk := Lib.hid hlk
      replace hcs := Lib.hid hcs
      replace hids := Lib.hid hids
      replace hs5 := Lib.hid hs5
      replace e7 := Lib.hid e7
      replace hN5 := Lib.hid hN5
      clear hcc hO4 hO5 hs4 hr4 hr5 hx4 hl4 hbW4 hf5 hA hF hG hI hJ hM hn0 hrow hcol h6 hnS hnZ hmZ hB3 hB4 hbW5 hlen
      go_wp2_with (first
        | (go_at_call 11; (with_reducible refine hids.out.mono ?_); rintro r' w7 ⟨v7, rfl, hO7, hb7⟩; obtain ⟨a7, c7, rfl, hN7⟩ := own_nums' hO7; rw [e7.out]; have hs7 := hs5.out.below hb7; have hcs7 := Lib.hid (hcs.out _ hs7))
        | (go_at_call 15; (with_reducible refine hcs7.out.mono ?_); rintro r' w8 ⟨rfl, rfl⟩))
      have hLk := Lib.hid (hlk.out _ hs7)
      have hN57 := Lib.hid ((hN5.out.below hb7 (Nat.le_refl _)).more hb7.size)
      replace hN7 := Lib.hid hN7
      replace hb7 := Lib.hid hb7
      clear hO7 hs7 hcs7 hids hlk hcs hs5 hN5
      go_loopw [22, 98] (fun a i wr => ∃ (at' : Int) (i' : Nat), i' ≤ rows' ∧ a = .int .i64 at' ∧ i = .int .i64 i' ∧ Hid (NoLess was nw i' at' ∧ Below w7.heap.size w7 wr)) (fun _ i _ => rows' - (intOf i).toNat)
      case atStart => exact ⟨-1, 0, Nat.zero_le _, rfl, rfl, Lib.hid ⟨NoLess.start _ _, Below.refl _ _⟩⟩
      case round =>
        obtain ⟨at', i', hi', rfl, rfl, hQ⟩ := hrel
        by_cases hil : i' < rows'
        · obtain ⟨hNL, hb8⟩ := hQ.out
          have hi7 : i' < nw.length := by rw [e7.out]; exact hil
          obtain ⟨ad7, rfl, _, q7⟩ := (hN7.out.below hb8 (Nat.le_refl _)).at hi7
          have hfi := Lib.hid (hLk.out.find wr hb8 i' hi7)
          have hro := Lib.hid (hLk.out.row wr hb8 i' hi7)
          have hne := Lib.hid (hLk.out.next wr hb8)
          have hst := hLk.out.none wr hb8 i' hi7
          have hlt7 := hLk.out.lt i' hi7
          have hhit := fun k at2 hk => hord.out.hit i' k at2 hi7 hk
          have hold := hord.out.old i' hi7
          have hiI : (i' : Int) < (rows' : Int) := by omega
          have hii : ((i' : Int) != (i' : Int)) = false := by simp
          generalize nw[i'] = y at q7 hfi hst hlt7 hhit hold
          have hge : decide ((nxt : Int) ≤ y) = false := decide_eq_false (by omega)
          replace hhit := Lib.hid hhit
          replace hold := Lib.hid hold
          replace hst := Lib.hid hst
          replace hNL := Lib.hid hNL
          clear hQ
          go_wp2_with (first
            | (go_at_call 16; (with_reducible refine hfi.out.mono ?_); rintro r' w9 ⟨rfl, rfl⟩)
            | (go_at_call 17; (with_reducible refine hro.out.mono ?_); rintro r' w9 ⟨d, rfl, rfl, hln⟩; replace hln := Lib.hid hln)
            | (go_at_call 18; (with_reducible refine hln.out.mono ?_); rintro r' w9 ⟨rfl, rfl⟩)
            | (go_at_call 12; (with_reducible refine hne.out.mono ?_); rintro r' w9 ⟨rfl, rfl⟩)
            | (go_at_call 19; (with_reducible refine hst.out.mono ?_); rintro r' w9 ⟨rfl, hb9⟩))
          have hb10 := below_next hb8 hb9
          have hN9 := Lib.hid (hN57.out.below hb10 (Nat.le_refl _))
          replace hb10 := Lib.hid hb10
          clear hb9 hb8 q7 hfi hro hne hst hln hge hii hlt7
          go_loopw [22, 130] (fun a k wq => ∃ (at2 : Int) (k' : Nat), k' ≤ M ∧ a = .int .i64 at2 ∧ k = .int .i64 k' ∧ Hid (NoLess was nw i' at2 ∧ wq = w9)) (fun _ k _ => M - (intOf k).toNat)
          case atStart => exact ⟨at', 0, Nat.zero_le _, rfl, rfl, Lib.hid ⟨hNL.out, rfl⟩⟩
          case round =>
            obtain ⟨at2, k', hk', rfl, rfl, hV⟩ := hrel
            obtain ⟨hNL2, hW⟩ := hV.out
            subst hW
            clear hV
            by_cases hkl : k' < M
            · have hk4 : k' < was.length := by rw [← hMw.out]; exact hkl
              obtain ⟨ad4, rfl, _, q4⟩ := hN9.out.at hk4
              have hkI : (k' : Int) < (M : Int) := by omega
              by_cases he : was[k'] = y
              · obtain ⟨hle, hNL3⟩ := hhit.out k' at2 hk4 hNL2 he
                have h1 : (y == y) = true := by simp
                have h2 : decide ((k' : Int) < at2) = false := decide_eq_false (by omega)
                rw [he] at q4
                replace hNL3 := Lib.hid hNL3
                clear he hNL2 hle
                go_wp2
                go_roundw
                case rel => exact ⟨k', k' + 1, by omega, rfl, by go_num, Lib.hid ⟨hNL3.out, trivial⟩⟩
                case measure => simp [intOf]; omega
              · have h1 : (was[k'] == y) = false := beq_eq_false_iff_ne.2 he
                generalize was[k'] = u at q4 h1
                replace hNL2 := Lib.hid hNL2
                clear he
                go_wp2
                go_roundw
                case rel => exact ⟨at2, k' + 1, by omega, rfl, by go_num, Lib.hid ⟨hNL2.out, trivial⟩⟩
                case measure => simp [intOf]; omega
            · obtain rfl : k' = M := by omega
              have hNL3 := Lib.hid hNL2.next
              clear hNL2
              by_cases ho : y < (n0 : Int)
              · have hpl := place_any (c1 := c4) wr hN9.out (by rw [← hMw.out]; omega) y
                have h0 := hold.out ho
                rw [← hMw.out] at hpl
                generalize firstF was y = z at hpl h0
                have h1 : decide (z < 0) = false := decide_eq_false (by omega)
                have h2 := decide_eq_true ho
                replace hpl := Lib.hid hpl
                go_wp2_with (first
                  | (go_at_call 20; (with_reducible refine hpl.out.mono ?_); rintro r' w9 ⟨rfl, rfl⟩))
                go_roundw
                case rel => exact ⟨at2, i' + 1, by omega, rfl, by go_num, Lib.hid ⟨hNL3.out, hb10.out⟩⟩
                case measure => simp [intOf]; omega
              · have h2 : decide (y < (n0 : Int)) = false := decide_eq_false ho
                go_wp2_with fail
                go_roundw
                case rel => exact ⟨at2, i' + 1, by omega, rfl, by go_num, Lib.hid ⟨hNL3.out, hb10.out⟩⟩
                case measure => simp [intOf]; omega
        · obtain rfl : i' = rows' := by omega
          obtain ⟨S2, Z2, hO9, hbW9⟩ := hfin.out _ (below_next hb7.out hQ.out.2)
          have hres := Lib.hid (And.intro hO9 hbW9)
          clear hQ hO9 hbW9
          go_wp2_with fail
          go_roundw
          case rel => exact ⟨j + 1, i', cols', S2, Z2, by omega, rfl, rfl, by go_num, hres⟩
          case measure => simp [intOf]; omega
    · obtain rfl : j = N := by omega
      have hb := Lib.hid hR.out.2
      clear hR
      go_wp2_with (first
        | (go_at_call 7; (with_reducible refine (hk.out _).mono ?_); rintro r' w3 ⟨rfl, hb3⟩))
      go_ret
      exact ⟨rfl, below_next hb.out hb3⟩
end Go.Proofs.Ytaoegfdaemmogaa.Scn
namespace Go.Proofs.Ytaoegfdaemmogaa.Scn
open Go Go.RowKit Go.Proofs.Ytaoegfdaemmogaa.Com Go.Proofs.Ytaoegfdaemmogaa.Rw Go.Proofs.Ytaoegfdaemmogaa.Lns
theorem order_law (rows : Int) (_ : (Lit.int .i64 rows).wf = true) (cols : Int) (_ : (Lit.int .i64 cols).wf = true) (most : Int) (_ : (Lit.int .i64 most).wf = true) (kp : Bool) (os : List Opr) (_ : ∀ o ∈ os, o.Ok) (ao : Option Addr) (c : Nat) (_ : os.length ≤ c) (_ : c ≤ maxLen) (W : World) (hn : OpsAt W ao os) :
    Calls Try.prog 3 #[.int .i64 rows, .int .i64 cols, .int .i64 most, .bool kp, .slice ao os.length c] W fun e W' => e = .returned (.bool true) ∧ Below W.heap.size W W' := by
  by_cases hok : (1 ≤ rows ∧ rows ≤ 512) ∧ (1 ≤ cols ∧ cols ≤ 512) ∧ 0 ≤ most ∧ most ≤ 10000
  · obtain ⟨r, rfl⟩ := Int.eq_ofNat_of_zero_le (show 0 ≤ rows by omega)
    obtain ⟨cc, rfl⟩ := Int.eq_ofNat_of_zero_le (show 0 ≤ cols by omega)
    obtain ⟨m, rfl⟩ := Int.eq_ofNat_of_zero_le (show 0 ≤ most by omega)
    exact order_yes r cc m kp os ao c W hn (by omega) (by omega) (by omega) (by omega) (by omega)
  · exact order_no rows cols most kp os ao c W hn hok
end Go.Proofs.Ytaoegfdaemmogaa.Scn
