/-
  screen: the law's do, of every kind, where both sides show the same. screen: ScreenPlays.
-/
import Derived.Test.YtaoegfdaemmogaaGreatNDo7
import Derived.Test.YtaoegfdaemmogaaGreatNArg
import Derived.Test.YtaoegfdaemmogaaGreatNKn0
import Derived.Deep.CutRange
namespace Go.Proofs.YtaoegfdaemmogaaGreat.Scn
open Go Go.RowKit Go.Proofs.YtaoegfdaemmogaaGreat.Com Go.Proofs.YtaoegfdaemmogaaGreat.Rw Go.Proofs.YtaoegfdaemmogaaGreat.Lns
theorem op_info (o : Opr) : (Tryz.prog.info? 39).map (·.size) = some (opV o).length := by
  rw [opV_length]
  kernel_rfl
theorem chg_same {S : Scr} {f k i : Nat} {a : At} {push : Bool} (hk : k ≤ 512) : (chg S f k i k a push).nx ≤ S.nx + 600 ∧ (chg S f k i k a push).most = S.most := by
  refine ⟨?_, rfl⟩
  show S.nx + k ≤ _; omega
theorem up_same {S : Scr} (hF : Fit S) (frm : Nat) (n : Int) (a : At) (push : Bool) : (upS S frm n a push).nx ≤ S.nx + 600 ∧ (upS S frm n a push).most = S.most := by
  have := held_leN n (S.bot + 1 - frm)
  have := hF.bot
  have := hF.len5
  exact chg_same (by omega)
theorem down_same {S : Scr} (hF : Fit S) (frm : Nat) (n : Int) (a : At) : (downS S frm n a).nx ≤ S.nx + 600 ∧ (downS S frm n a).most = S.most := by
  have := held_leN n (S.bot + 1 - frm)
  have := hF.bot
  have := hF.len5
  exact chg_same (by omega)
theorem doS_same {S : Scr} (hF : Fit S) (o : Opr) : (doS S o).nx ≤ S.nx + 600 ∧ (doS S o).most = S.most := by
  have hr : S.nx ≤ S.nx + 600 ∧ S.most = S.most := ⟨by omega, rfl⟩
  unfold doS
  repeat' split
  · exact up_same hF _ _ _ _
  · exact down_same hF _ _ _
  · unfold insK
    split
    · exact down_same hF _ _ _
    · exact hr
  · unfold delK
    split
    · exact up_same hF _ _ _ _
    · exact hr
  · unfold mgK
    split
    · exact hr
    · exact hr
  · exact hr
/-- What is known from call to call. -/
structure Pst (B : Nat) (w : World) (x s r q : Nat) (S : Scr) (k : Nat) : Prop where
  sc : SC B w x s S
  rc : RC B w r q S
  fit : Fit S
  inv : Inv S
  nx : S.nx ≤ 600 + 600 * k
  most : S.most ≤ 10000
section
variable {B : Nat} {w w' : World} {x s r q : Nat} {S : Scr} {k : Nat}
theorem Pst.below (h : Pst B w x s r q S k) (hb : Below w.heap.size w w') : Pst B w' x s r q S k := ⟨h.sc.below hb, h.rc.below hb, h.fit, h.inv, h.nx, h.most⟩
/-- do: what is told is the same; what is there behind it is the same. -/
def DoSame (B : Nat) (w : World) (x s r q : Nat) (k : Nat) (e : Ending) (w' : World) : Prop := e = .returned (.bool true) ∧ ∃ S', Pst B w' x s r q S' (k + 1) ∧ Fr B BT w w'
set_option maxRecDepth 100000 in
theorem do_same (h : Pst B w x s r q S k) (hk : k ≤ 60) (o : Opr) (ho : o.Ok) :
    Calls Tryz.prog 10 #[.pointer (some ⟨x, 0, none⟩), .pointer (some ⟨r, 0, none⟩), .agg (opV o).toArray] w (DoSame B w x s r q k) := by
  obtain ⟨hs, hr, hF, hI, hn, hm⟩ := h
  have hRm := hI.most
  have hgen : ∀ {y e w'}, DoDone B w x s r q (doS S o) (doS S o) y e w' → y = true → DoSame B w x s r q k e w' := fun hd hy => by
    subst hy
    obtain ⟨e1, e2, e3, e4⟩ := hd
    obtain ⟨n1, n2⟩ := doS_same hF o
    exact ⟨e1, _, ⟨e2, e3, doS_fit hF o, doS_inv hI o, by omega, by omega⟩, e4⟩
  by_cases h1 : o.kind = 1
  · exact (do_1 hs hr hF hF (by omega) (by omega) hRm hm o h1).mono fun _ _ hd => hgen hd rfl
  by_cases h2 : o.kind = 2
  · exact (do_2 hs hr hF hF (by omega) (by omega) o h2).mono fun _ _ hd => hgen hd rfl
  by_cases h3 : o.kind = 3
  · exact (do_3 hs hr hF hF (by omega) (by omega) o h3).mono fun _ _ hd => hgen hd (by simp)
  by_cases h4 : o.kind = 4
  · exact (do_4 hs hr hF hF (by omega) (by omega) o h4).mono fun _ _ hd => hgen hd (by simp)
  by_cases h5 : o.kind = 5
  · exact (do_5 hs hr hF hF o h5).mono fun _ _ hd => hgen hd (by simp)
  by_cases h6 : o.kind = 6
  · obtain ⟨kind, at', n, cols, ru, wide, a⟩ := o
    simp only at h6
    subst h6
    by_cases hok : (1 ≤ n ∧ n ≤ 512) ∧ (1 ≤ cols ∧ cols ≤ 512) ∧ 0 ≤ at' ∧ at' < S.L.length
    · obtain ⟨⟨p1, p2⟩, ⟨p3, p4⟩, p5, p6⟩ := hok
      obtain ⟨nn, rfl⟩ := Int.eq_ofNat_of_zero_le (show 0 ≤ n by omega)
      obtain ⟨cc, rfl⟩ := Int.eq_ofNat_of_zero_le (show 0 ≤ cols by omega)
      obtain ⟨yy, rfl⟩ := Int.eq_ofNat_of_zero_le p5
      refine (do_6y hs hr hF hI (by omega) hm nn cc yy (by omega) (by omega) (by omega) (by omega) (by omega) ru wide a).mono ?_
      rintro e w' ⟨e1, e2, e3, e4⟩
      refine ⟨e1, _, ⟨e2, e3, (hF.res (by omega) (by omega) (by omega) (by omega) (by omega)).1, res_inv hI _ _ _, ?_, hm⟩, e4⟩
      show S.nx + 0 + (nn - min nn _) ≤ _
      omega
    · refine (do_6n hs hr hF n cols at' hok ru wide a).mono ?_
      rintro e w' ⟨e1, e2, e3, e4⟩
      exact ⟨e1, _, ⟨e2, e3, hF, hI, by omega, hm⟩, e4⟩
  by_cases h7 : o.kind = 7
  · have hc : -9223372036854775808 ≤ o.cols ∧ o.cols ≤ 9223372036854775807 := by have := ho.2.2.2.1; simp [Lit.wf] at this; exact this
    obtain ⟨kind, at', n, cols, ru, wide, a⟩ := o
    simp only at h7 hc
    subst h7
    by_cases hok : 0 ≤ at' ∧ at' < S.L.length
    · obtain ⟨yy, rfl⟩ := Int.eq_ofNat_of_zero_le hok.1
      have hy : yy < S.L.length := by omega
      refine (do_7y hs hr hF n cols yy hy ru hc wide a).mono ?_
      rintro e w' ⟨e1, e2, e3, e4⟩
      exact ⟨e1, _, ⟨e2, e3, putAt_fit hF _ (by rw [putL_len]; exact hF.wid _ (List.getElem_mem hy)), putAt_inv hI _ _, by show S.nx ≤ _; omega, hm⟩, e4⟩
    · refine (do_7n hs hr hF n cols at' hok ru wide a).mono ?_
      rintro e w' ⟨e1, e2, e3, e4⟩
      exact ⟨e1, _, ⟨e2, e3, hF, hI, by omega, hm⟩, e4⟩
  exact (do_else hs hr o ⟨h1, h2, h3, h4, h5, h6, h7⟩).mono fun _ _ hd => hgen hd rfl
theorem Pst.same (h : Pst B w x s r q S k) (id : Int) : Calls Tryz.prog 11 #[.pointer (some ⟨x, 0, none⟩), .pointer (some ⟨r, 0, none⟩), .int .i64 id] w fun e w' => e = .returned (.bool true) ∧ Below w.heap.size w w' := same_sc h.sc h.rc h.fit id
theorem Pst.kept (h : Pst B w x s r q S k) : Calls Tryz.prog 12 #[.pointer (some ⟨s, 0, none⟩), .pointer (some ⟨q, 0, none⟩)] w fun e w' => e = .returned (.bool true) ∧ Below w.heap.size w w' := kept_sc h.sc h.rc (Nat.le_trans h.inv.most h.most)
theorem pst_start {most rows cols : Nat} {kp : Bool} (h : SC B w x s (newS 1 most rows cols kp [])) (g : RC B w r q (newS 1 most rows cols kp [])) (hr1 : 1 ≤ rows) (hr5 : rows ≤ 512) (hc1 : 1 ≤ cols) (hc5 : cols ≤ 512) (hm : most ≤ 10000) : Pst B w x s r q (newS 1 most rows cols kp []) 0 := by
  refine ⟨h, g, newS_fit hr1 hr5 hc1 hc5 (by decide), new_inv (by decide), ?_, hm⟩
  show 1 + rows ≤ _; omega
end
end Go.Proofs.YtaoegfdaemmogaaGreat.Scn
namespace Go.Proofs.YtaoegfdaemmogaaGreat.Scn
open Go Go.RowKit Go.Proofs.YtaoegfdaemmogaaGreat.Com Go.Proofs.YtaoegfdaemmogaaGreat.Rw Go.Proofs.YtaoegfdaemmogaaGreat.Lns
set_option maxRecDepth 100000 in
set_option maxHeartbeats 4000000 in
theorem plays_mad (rows cols most : Int) (kp : Bool) (os : List Opr) (ao : Option Addr) (c : Nat) (W : World) (hn : OpsAt W ao os) (hno : ¬ (0 ≤ most ∧ most ≤ 10000)) :
    Calls Tryz.prog 3 #[.int .i64 rows, .int .i64 cols, .int .i64 most, .bool kp, .slice ao os.length c] W fun e W' => e = .returned (.bool true) ∧ Below W.heap.size W W' := by
  have ht : Hid (Calls Tryz.prog 4 #[.int .i64 rows, .int .i64 cols, .int .i64 most, .slice ao os.length c] W fun e w' => e = .returned (.bool false) ∧ w' = W) := Lib.hid ((tame_any (c := c) hn rows cols most).mono fun e w' h => by
    obtain ⟨⟨b, hb, hT⟩, hw⟩ := h
    refine ⟨?_, hw⟩
    cases b
    · exact hb
    · have := (hT rfl).1
      exfalso
      omega)
  have hk := Lib.hid (fun w => known_any w)
  generalize os.length = N at ht ⊢
  clear hn hno
  go_enter Tryz.func3, Tryz.ntmps3
  go_wp2_with (first
    | (go_at_call 4; (with_reducible refine ht.out.mono ?_); rintro r' w' ⟨rfl, hwe⟩; obtain rfl : W = w' := hwe.symm)
    | (go_at_call 5; (with_reducible refine (hk.out _).mono ?_); rintro r' w3 ⟨rfl, hb3⟩))
  go_ret
  exact ⟨rfl, hb3⟩
set_option maxRecDepth 100000 in
set_option maxHeartbeats 4000000 in
theorem plays_no (rows cols most : Int) (kp : Bool) (os : List Opr) (ao : Option Addr) (c : Nat) (W : World) (hn : OpsAt W ao os) (hno : ¬ ((1 ≤ rows ∧ rows ≤ 512) ∧ (1 ≤ cols ∧ cols ≤ 512))) :
    Calls Tryz.prog 3 #[.int .i64 rows, .int .i64 cols, .int .i64 most, .bool kp, .slice ao os.length c] W fun e W' => e = .returned (.bool true) ∧ Below W.heap.size W W' := by
  have ht := Lib.hid (tame_any (c := c) hn rows cols most)
  have hk := Lib.hid (fun w => known_any w)
  have hm := Lib.hid (fun w => made_no rows cols most kp (fun h => hno ⟨h.1, h.2.1⟩) w)
  have h1 := fun w => may_any rows w
  have h2 := fun w => may_any cols w
  generalize os.length = N at ht ⊢
  clear hn
  by_cases hr : 1 ≤ rows ∧ rows ≤ 512
  · simp only [decide_eq_true hr] at h1
    simp only [decide_eq_false (fun hc => hno ⟨hr, hc⟩)] at h2
    replace h1 := Lib.hid h1
    replace h2 := Lib.hid h2
    clear hno hr
    go_enter Tryz.func3, Tryz.ntmps3
    go_wp2_with (first
      | (go_at_call 4; (with_reducible refine ht.out.mono ?_); rintro r' w' ⟨⟨b, rfl, hT⟩, hwe⟩; obtain rfl : W = w' := hwe.symm; clear hT)
      | (go_at_call 6; (with_reducible refine (hm.out _).mono ?_); rintro r' w2 ⟨q, rfl, hb2⟩)
      | (go_at_call 7; (with_reducible refine (h1.out _).mono ?_); rintro r' w3 ⟨rfl, rfl⟩)
      | (go_at_call 7; (with_reducible refine (h2.out _).mono ?_); rintro r' w3 ⟨rfl, rfl⟩)
      | (go_at_call 5; (with_reducible refine (hk.out _).mono ?_); rintro r' w3 ⟨rfl, hb3⟩))
    all_goals
      go_ret
      first
        | exact ⟨rfl, hb3⟩
        | exact ⟨rfl, below_next hb2 hb3⟩
  · simp only [decide_eq_false hr] at h1
    replace h1 := Lib.hid h1
    clear hno hr h2
    go_enter Tryz.func3, Tryz.ntmps3
    go_wp2_with (first
      | (go_at_call 4; (with_reducible refine ht.out.mono ?_); rintro r' w' ⟨⟨b, rfl, hT⟩, hwe⟩; obtain rfl : W = w' := hwe.symm; clear hT)
      | (go_at_call 6; (with_reducible refine (hm.out _).mono ?_); rintro r' w2 ⟨q, rfl, hb2⟩)
      | (go_at_call 7; (with_reducible refine (h1.out _).mono ?_); rintro r' w3 ⟨rfl, rfl⟩)
      | (go_at_call 5; (with_reducible refine (hk.out _).mono ?_); rintro r' w3 ⟨rfl, hb3⟩))
    all_goals
      go_ret
      first
        | exact ⟨rfl, hb3⟩
        | exact ⟨rfl, below_next hb2 hb3⟩
set_option maxRecDepth 100000 in
set_option maxHeartbeats 8000000 in
theorem plays_yes (rows cols most : Nat) (kp : Bool) (os : List Opr) (hos : ∀ o ∈ os, o.Ok) (ao : Option Addr) (c : Nat) (W : World) (hn : OpsAt W ao os) (hr1 : 1 ≤ rows) (hr5 : rows ≤ 512) (hc1 : 1 ≤ cols) (hc5 : cols ≤ 512) (hm : most ≤ 10000) :
    Calls Tryz.prog 3 #[.int .i64 rows, .int .i64 cols, .int .i64 most, .bool kp, .slice ao os.length c] W fun e W' => e = .returned (.bool true) ∧ Below W.heap.size W W' := by
  have ht := Lib.hid (tame_any (c := c) hn rows cols most)
  have hk := Lib.hid (fun w => known_any w)
  have hmd := Lib.hid (fun w => made_yes rows cols most kp hr1 hr5 hc1 hc5 hm w)
  have h1 := fun w => may_any (rows : Int) w
  rw [decide_eq_true (by omega)] at h1
  have h2 := fun w => may_any (cols : Int) w
  rw [decide_eq_true (by omega)] at h2
  have h8 := Lib.hid (fun w => rnew8 most w)
  have hnw := Lib.hid (fun w q (h : RX W.heap.size w q 1 most (.slice none 0 0) []) => rnew_yes (kp := kp) (cols := cols) h (by simp) rows hr1 hr5 hc1 hc5 (by decide))
  have hst := Lib.hid (fun w x s r q (h : SC W.heap.size w x s (newS 1 most rows cols kp [])) (g : RC W.heap.size w r q (newS 1 most rows cols kp [])) => pst_start h g hr1 hr5 hc1 hc5 hm)
  obtain ⟨N, hN⟩ : ∃ N, N = os.length := ⟨_, rfl⟩
  rw [← hN] at ht ⊢
  replace hN := Lib.hid hN
  replace hn := Lib.hid hn
  replace h1 := Lib.hid h1
  replace h2 := Lib.hid h2
  replace hos := Lib.hid hos
  clear hr1 hr5 hc1 hc5 hm
  go_enter Tryz.func3, Tryz.ntmps3
  go_wp2_with (first
    | (go_at_call 4; (with_reducible refine ht.out.mono ?_); rintro r' w' ⟨⟨b, rfl, hT⟩, hwe⟩; obtain rfl : W = w' := hwe.symm; replace hT := Lib.hid hT)
    | (go_at_call 6; (with_reducible refine (hmd.out _).mono ?_); rintro r' w2 ⟨x, s, rfl, hsc, hb2⟩)
    | (go_at_call 7; (with_reducible refine (h1.out _).mono ?_); rintro r' w3 ⟨rfl, rfl⟩)
    | (go_at_call 7; (with_reducible refine (h2.out _).mono ?_); rintro r' w3 ⟨rfl, rfl⟩)
    | (go_at_call 8; (with_reducible refine (h8.out _).mono ?_); rintro r' w4 ⟨rfl, hrx, hb4⟩; have hr9 : RX W.heap.size w4 w2.heap.size 1 most (.slice none 0 0) [] := ⟨hrx.blk, .inl ⟨rfl, rfl⟩, by simp, hb2.size, hrx.small⟩; have hnw9 := Lib.hid (hnw.out _ _ hr9); have hsc4 := hsc.below hb4)
    | (go_at_call 9; (with_reducible refine hnw9.out.mono ?_); rintro r' w5 ⟨rfl, hrc, hf5⟩; have hsc5 := hsc4.fr hf5 noRT)
    | (go_at_call 5; (with_reducible refine (hk.out _).mono ?_); rintro r' w3 ⟨rfl, hb3⟩))
  · go_ret
    exact ⟨rfl, hb3⟩
  have hT2 := Lib.hid (hT.out (by simpa using ‹(!b) = false›))
  have h60 : N ≤ 60 := by have := hT2.out.1.2.2.2.2; rw [hN.out]; exact this
  have hP0 := hst.out _ _ _ _ _ hsc5 hrc
  have hb5 := (below_next hb2 hb4).trans (hf5.below (Nat.le_trans hb2.size hb4.size))
  obtain ⟨r, hr⟩ : ∃ r, r = w4.heap.size := ⟨_, rfl⟩
  obtain ⟨q, hq⟩ : ∃ q, q = w2.heap.size := ⟨_, rfl⟩
  rw [← hr, ← hq] at hP0
  rw [← hq]
  rw [← hr]
  have hI0 : Hid (∃ S, Pst W.heap.size w5 x s r q S 0 ∧ Below W.heap.size W w5) := Lib.hid ⟨_, hP0, hb5⟩
  clear hsc5 hrc hf5 hnw9 hnw hr9 hrx hb4 hsc4 hsc hb2 hr hq hst h8 hmd ht hT hb5 hT2 hP0 h1 h2
  go_loopw [62] (fun i wr => ∃ j : Nat, j ≤ N ∧ i = .int .i64 j ∧ Hid (∃ S, Pst W.heap.size wr x s r q S j ∧ Below W.heap.size W wr)) (fun i _ => N - (intOf i).toNat)
  case atStart => exact ⟨0, Nat.zero_le _, rfl, hI0⟩
  case round =>
    clear hI0
    obtain ⟨j, hj, rfl, hR⟩ := hrel
    obtain ⟨S, hP, hbW⟩ := hR.out
    clear hR
    by_cases hlt : j < N
    · have hko : j < os.length := by rw [← hN.out]; exact hlt
      obtain ⟨ad, rfl, had, hld⟩ := (hn.out.below hbW) j _ (List.getElem?_eq_getElem hko)
      have hok := Lib.hid (hos.out _ (List.getElem_mem hko))
      generalize os[j] = o at hld hok
      have hz := Lib.hid (Block.made wr 39 #[.int .i64 0, .int .i64 0, .int .i64 0, .int .i64 0, .int .i32 0, .bool false, .int .u32 0, .int .u32 0, .int .u16 0])
      have hjI : (j : Int) < (N : Int) := by omega
      replace hld := Lib.hid hld
      clear had
      go_upto_region 13 with (first
        | (with_reducible show wpList _ _ _ (⟨some 65, .load _ (.tmp 64), _, _, _, _⟩ :: _) _ _; go_must (refine Rw.wpList_loadAt rfl 39 (.tmp 64) rfl (ad.add (j * 9)) rfl _ _ hld.out Tryz.underlying39 rfl (op_info _) ?_))
        | (with_reducible show wpList _ _ _ (⟨none, .store _ (.tmp 17) _, _, _, _, _⟩ :: _) _ _; go_must (refine wpList_storeAll rfl _ (.tmp 17) (.tmp 65) rfl hz.out (opV o).toArray rfl rfl (by simpa using op_info o) rfl (by simp [opV, attV, Value.oneCell']) ?_); intro w3 hx3 ho3; go_frame))
      have hb3 : Below wr.heap.size wr w3 := below_on (below_new wr _) ho3 (Nat.le_refl _)
      have hP3 := hP.below hb3
      have hbW3 := below_next hbW hb3
      have hB3 := hbW3.size
      obtain ⟨bx, hbxe⟩ : ∃ bx, bx = wr.heap.size := ⟨_, rfl⟩
      rw [← hbxe] at hx3
      rw [← hbxe]
      have hl3 : Hid (∀ i v, (opV o)[i]? = some v → w3.cell? ((⟨bx, 0, none⟩ : Addr).add i) = some v) := Lib.hid (fun i v hi => by rw [Addr.add_lit, Nat.zero_add]; exact hx3.cell i (by simpa using hi))
      have hdo := Lib.hid (do_same hP3 (by omega) o hok.out)
      have hk3 := Lib.hid (fun w' (hf : Fr W.heap.size BT w3 w') => (Block.fr hx3 hf (.inl (by unfold BT PT RT; decide))).cell 1 (v := .int .i64 o.at') rfl)
      replace hbW3 := Lib.hid hbW3
      clear hbxe hb3 hP hbW ho3 hz hld hP3 hx3
      go_wp2_with (first
        | (with_reducible show wpList _ _ _ (⟨some 68, .load _ (.tmp 17), _, _, _, _⟩ :: _) _ _; go_must (refine Rw.wpList_loadAt rfl 39 (.tmp 17) rfl (⟨bx, 0, none⟩ : Addr) rfl _ _ hl3.out Tryz.underlying39 rfl (op_info _) ?_))
        | (go_at_call 10; (with_reducible refine hdo.out.mono ?_); rintro r' w6 ⟨rfl, S', hP6, hf6⟩; have k1 := hk3.out _ hf6; have hsm := Lib.hid (hP6.same o.at'))
        | (go_at_call 11; (with_reducible refine hsm.out.mono ?_); rintro r' w7 ⟨rfl, hb7⟩; have hP7 := hP6.below hb7; have hkp := Lib.hid hP7.kept)
        | (go_at_call 12; (with_reducible refine hkp.out.mono ?_); rintro r' w8 ⟨rfl, hb8⟩))
      have hres : Hid (∃ S, Pst W.heap.size w8 x s r q S (j + 1) ∧ Below W.heap.size W w8) := Lib.hid ⟨S', hP7.below hb8, below_next (below_next (hbW3.out.trans (hf6.below hB3)) hb7) hb8⟩
      clear hb8 hP7 hb7 hP6 hf6 hkp hsm hdo hk3
      go_roundw
      case rel => exact ⟨j + 1, by omega, by go_num, hres⟩
      case measure => simp [intOf]; omega
    · obtain rfl : j = N := by omega
      have hsm := Lib.hid (hP.same 0)
      replace hP := Lib.hid hP
      replace hbW := Lib.hid hbW
      go_wp2_with (first
        | (go_at_call 11; (with_reducible refine hsm.out.mono ?_); rintro r' w7 ⟨rfl, hb7⟩; have hP7 := hP.out.below hb7; have hkp := Lib.hid hP7.kept)
        | (go_at_call 12; (with_reducible refine hkp.out.mono ?_); rintro r' w8 ⟨rfl, hb8⟩)
        | (go_at_call 5; (with_reducible refine (hk.out _).mono ?_); rintro r' w3 ⟨rfl, hb3⟩))
      go_ret
      exact ⟨rfl, below_next (below_next (below_next hbW.out hb7) hb8) hb3⟩
theorem plays_law (rows : Int) (_ : (Lit.int .i64 rows).wf = true) (cols : Int) (_ : (Lit.int .i64 cols).wf = true) (most : Int) (_ : (Lit.int .i64 most).wf = true) (kp : Bool) (os : List Opr) (hos : ∀ o ∈ os, o.Ok) (ao : Option Addr) (c : Nat) (_ : os.length ≤ c) (_ : c ≤ maxLen) (W : World) (hn : OpsAt W ao os) :
    Calls Tryz.prog 3 #[.int .i64 rows, .int .i64 cols, .int .i64 most, .bool kp, .slice ao os.length c] W fun e W' => e = .returned (.bool true) ∧ Below W.heap.size W W' := by
  by_cases hmo : 0 ≤ most ∧ most ≤ 10000
  · by_cases hok : (1 ≤ rows ∧ rows ≤ 512) ∧ (1 ≤ cols ∧ cols ≤ 512)
    · obtain ⟨r, rfl⟩ := Int.eq_ofNat_of_zero_le (show 0 ≤ rows by omega)
      obtain ⟨cc, rfl⟩ := Int.eq_ofNat_of_zero_le (show 0 ≤ cols by omega)
      obtain ⟨m, rfl⟩ := Int.eq_ofNat_of_zero_le (show 0 ≤ most by omega)
      exact plays_yes r cc m kp os hos ao c W hn (by omega) (by omega) (by omega) (by omega) (by omega)
    · exact plays_no rows cols most kp os ao c W hn hok
  · exact plays_mad rows cols most kp os ao c W hn hmo
end Go.Proofs.YtaoegfdaemmogaaGreat.Scn
