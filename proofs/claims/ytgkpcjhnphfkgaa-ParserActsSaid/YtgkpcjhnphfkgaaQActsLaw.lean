/-
  The law ParserActs.
-/
import Derived.Test.YtgkpcjhnphfkgaaQTwo
import Derived.Deep.CutRange
namespace Go.Proofs.Ytgkpcjhnphfkgaa.Prs
open Go Go.RowKit Go.Proofs.Ytgkpcjhnphfkgaa.Com Go.Proofs.Ytgkpcjhnphfkgaa.Par

/-- A parser of the call's own. -/
structure One (w : World) (d : Nat) (u : Value) (S : PS) (wr : World) : Prop where
  p : ParIn wr w.heap.size d u S
  below : Below w.heap.size w wr
section
variable {w wr w1 : World} {d : Nat} {u v x : Value} {S : PS} {X : Stp}
theorem One.new (h : One w d u S wr) (hb : Below wr.heap.size wr w1) : One w d u S w1 := ⟨h.p.new hb, below_next h.below hb⟩
theorem One.fed (h : One w d u S wr) (hf : FedU wr w.heap.size d u X.2 X.1 x v w1) : One w d v X.2 w1 := by
  refine ⟨hf.par, h.below.trans (hf.only.below h.below.size (fun g hg => ?_))⟩
  rcases List.mem_cons.1 hg with rfl | hg
  · exact h.p.low
  · exact (h.p.own.lt g (by simpa using hg)).1
end
/-- x is held against only: what is left behind. -/
theorem check_same (A : Act) (hA : A.Small) (cs ds : List Value) (w : World) (h1 : ActIs w (· < w.heap.size) A cs) (h2 : ActIs w (· < w.heap.size) A ds) (o : Obj) (W : World) (hW : Only [] ((w.alloc (.cells cs.toArray 33)).alloc o) W) :
    Calls Try.prog 11 #[.agg cs.toArray, .agg ds.toArray] W fun e w' => e = .returned (.bool true) ∧ Block w' w.heap.size 33 cs.toArray ∧ Below w.heap.size w w' := by
  have hb := below_next (below_new w (.cells cs.toArray 33)) (below_next (below_new (w.alloc (.cells cs.toArray 33)) o) hW.nil)
  have ho := Only.of_below hb []
  refine (sameAct_yes A hA cs ds _ ((h1.only ho (by simp)).mono (fun g hg _ => hg)) ((h2.only ho (by simp)).mono (fun g hg _ => hg))).mono ?_
  rintro e w' ⟨rfl, hb'⟩
  exact ⟨rfl, (((Block.made w _ _).alloc o).only hW (by simp)).only (Only.of_below hb' []) (by simp), below_next hb hb'⟩
theorem one_new (w : World) : One w w.heap.size (.slice none 0 0) start (w.alloc (.cells (parL start (.slice none 0 0)).toArray 43)) :=
  ⟨⟨Block.made w _ _, Own.nil _ _ _ _, Nat.le_refl _⟩, below_new w _⟩

set_option maxRecDepth 100000 in
set_option maxHeartbeats 8000000 in
theorem lawActs (l : List Int) (_hf : Fits .i32 l) (ao : Option Addr) (c : Nat) (_hc : l.length ≤ c) (hm : c ≤ maxLen) (w : World)
    (hn : Nums w w.heap.size .i32 ao l) :
    Calls Try.prog 4 #[.slice ao l.length c] w fun e w' => e = .returned (.bool true) ∧ Below w.heap.size w w' := by
  have h63 : l.length ≤ 9223372036854775807 := by simp only [maxLen] at hm; omega
  clear hm
  by_cases h0 : 400 < l.length
  · go_enter Try.func4, Try.ntmps4
    go_wp2_with ((go_at_call 6; refine (known_any _).mono ?_; rintro e w1 ⟨rfl, hb1⟩))
    go_ret
    exact ⟨rfl, hb1⟩
  have h0' : l.length ≤ 400 := by omega
  clear h0
  go_enter Try.func4, Try.ntmps4
  go_wp2_with fail
  refine (new_any w).mono ?_
  rintro e w1 ⟨rfl, hw1⟩
  have hone := one_new w
  rw [← hw1] at hone
  clear hw1
  generalize hd0 : w.heap.size = d at hone
  go_wp2_with fail
  go_loopw [18] (fun i wr => ∃ (k : Nat) (u : Value) (S : PS), i = .int .i64 k ∧ k ≤ l.length ∧ S.Ok ∧ One w d u S wr) (fun i _ => l.length - (intOf i).toNat)
  case atStart => exact ⟨0, _, start, rfl, by omega, start_ok, hone⟩
  case round =>
    obtain ⟨k, u, S, rfl, hk, hS, hat⟩ := hrel
    clear hone
    by_cases hlt : k < l.length
    · obtain ⟨ad, rfl, _, hcell⟩ := (hn.below hat.below (Nat.le_refl _)).at hlt
      generalize l[k] = r at hcell
      have hgood := feed_good hS r
      have hall := feed_all hS r
      have hat' := Lib.hid hat
      have hB := hat.below.size
      have hst := Lib.hid (state_any S u d _ hat.p.blk)
      obtain ⟨hs0, hs1⟩ := hS.st
      have hground : S.st = 0 → 160 ≤ r → r ≤ 1114111 → (feedF S r).1 = [printA r] := fun h0 h1 h2 => ground_print h0 h1 h2
      replace hground := Lib.hid hground
      clear hn hat
      generalize hS0 : S.st = s at hst hs0 hs1 hground
      replace hS0 := Lib.hid hS0
      go_wp2_with fail
      refine hst.out.mono ?_
      rintro e w2 ⟨rfl, hw2⟩
      rw [hw2]
      clear hw2 hst
      go_wp2_with fail
      refine (feed_any S hS u r w.heap.size d _ hat'.out.p hB).mono ?_
      rintro e w3 ⟨x, u', rfl, hf⟩
      obtain ⟨ax, nx, cx, rfl⟩ := hf.shape
      have hat3 := Lib.hid (hat'.out.fed hf)
      obtain ⟨hnx, hrd⟩ := hf.acts.rd
      clear hf hat'
      have hok2 := hgood.ok
      have hfew := hgood.few
      clear hgood
      generalize (feedF S r).2 = S2 at hat3 hok2
      generalize (feedF S r).1 = As at hnx hrd hall hfew hground
      obtain ⟨ht0, ht1⟩ := hok2.st
      have hst2 := Lib.hid (state_any S2 u' d w3 hat3.out.p.blk)
      generalize S2.st = s2 at hst2 ht0 ht1
      have hnx2 : nx ≤ 2 := by omega
      replace hnx := Lib.hid hnx
      go_wp2_with fail
      refine hst2.out.mono ?_
      rintro e w4 ⟨rfl, hw4⟩
      rw [hw4]
      clear hw4 hst2
      go_upto_region 11 with (fail)
      go_cut [6, 18, 64] from 18 to 144 (fun s6 s18 s64 wx => (∃ b, s6 = .bool b) ∧ s18 = .int .i64 k ∧ s64 = .bool false ∧ w3 = wx)
      case first =>
        by_cases hs : s = 0
        · subst hs
          by_cases hlo : r < 160
          · have hlo' : ¬ 160 ≤ r := by omega
            go_wp2_with fail
            go_meet
            exact ⟨⟨_, rfl⟩, rfl, rfl, rfl⟩
          have hlo' : 160 ≤ r := by omega
          by_cases hhi : 1114111 < r
          · have hhi' : ¬ r ≤ 1114111 := by omega
            go_wp2_with fail
            go_meet
            exact ⟨⟨_, rfl⟩, rfl, rfl, rfl⟩
          have hhi' : r ≤ 1114111 := by omega
          have hA := hground.out rfl hlo' hhi'
          subst hA
          have hn1 : nx = 1 := hnx.out
          subst hn1
          obtain ⟨g0, cs0, rfl, hg0, a0, hc0⟩ := hrd.at_ 0 _ rfl
          obtain ⟨ap0, cp0, ai0, ci0, at0, ct0, rfl, -, -, -⟩ := a0.ex
          have f0 : w3.cell? ⟨g0, 0, none⟩ = some (.int .u8 1) := hc0 0 _ rfl
          have f1 : w3.cell? ⟨g0, 1, none⟩ = some (.int .i32 r) := hc0 1 _ rfl
          clear a0 hc0
          go_wp2_with fail
          go_meet
          exact ⟨⟨_, rfl⟩, rfl, rfl, rfl⟩
        · have hs' : (s == 0) = false := by simpa using hs
          go_wp2_with fail
          go_meet
          exact ⟨⟨_, rfl⟩, rfl, rfl, rfl⟩
      case rest =>
        obtain ⟨⟨b6, rfl⟩, rfl, rfl, rfl⟩ := hcut
        go_wp2_with fail
        go_loopw [67] (fun i wi => ∃ j : Nat, i = .int .i64 j ∧ j ≤ nx ∧ Below w3.heap.size w3 wi) (fun i _ => nx - (intOf i).toNat)
        case atStart => exact ⟨0, rfl, by omega, Below.refl _ _⟩
        case round =>
          obtain ⟨j, rfl, hj, hbi⟩ := hrel
          by_cases hjlt : j < nx
          · have hj' : j < As.length := by rw [← hnx.out]; exact hjlt
            obtain ⟨g, cs, rfl, hg, a1, hc⟩ := (hrd.below hbi).at_ j As[j] (List.getElem?_eq_getElem hj')
            have htold := hall _ (List.getElem_mem hj')
            generalize As[j] = A at a1 htold
            clear hrd hall hground hcell
            obtain ⟨ap, cp, ai, ci, at_, ct, rfl, p1, i1, t1⟩ := a1.ex
            have x0 := hc 0 _ rfl
            have x1 := hc 1 _ rfl
            have x2 := hc 2 _ rfl
            have x3 := hc 3 _ rfl
            have x4 := hc 4 _ rfl
            have x5 := hc 5 _ rfl
            have x6 := hc 6 _ rfl
            rw [Nat.add_zero] at x0
            clear hc
            cases htold with
            | print x h =>
              have hsame := Lib.hid (check_same (printA x) (told_small (.print x h)) [.int .u8 1, .int .i32 x, .int .i32 0, .slice ap 0 cp, .slice ai 0 ci, .int .i32 0, .slice at_ 0 ct] [.int .u8 1, .int .i32 x, .int .i32 0, .slice none 0 0, .slice none 0 0, .int .i32 0, .slice none 0 0] wr a1 (act_bare _ _ 1 x 0 0))
              clear a1 p1 i1 t1
              simp only [printA, List.length_nil] at x0 x1 x2 x3 x4 x5 x6
              obtain ⟨h32, h2⟩ := h
              have q32 : ¬ x < 32 := by omega
              rcases h2 with h2 | h2
              · have q127 : ¬ 127 ≤ x := by omega
                go_wp2_with fail
                refine (hsame.out _ _ (Only.refl [] _)).mono ?_
                rintro e w5 ⟨rfl, hb5, hbw5⟩
                have z0 := hb5.cell 0 rfl
                have z1 := hb5.cell 1 rfl
                have z3 := hb5.cell 3 rfl
                have z4 := hb5.cell 4 rfl
                have z6 := hb5.cell 6 rfl
                have hbi2 := Lib.hid (below_next hbi hbw5)
                clear hb5 hbw5 hsame x0 x1 x2 x3 x4 x5 x6
                go_wp2_with fail
                go_roundw
                case rel => exact ⟨j + 1, by go_num, by omega, hbi2.out⟩
                case measure => simp [intOf]; omega
              · have q127 : 127 ≤ x := by omega
                have q160 : ¬ x < 160 := by omega
                go_wp2_with fail
                refine (hsame.out _ _ (Only.refl [] _)).mono ?_
                rintro e w5 ⟨rfl, hb5, hbw5⟩
                have z0 := hb5.cell 0 rfl
                have z1 := hb5.cell 1 rfl
                have z3 := hb5.cell 3 rfl
                have z4 := hb5.cell 4 rfl
                have z6 := hb5.cell 6 rfl
                have hbi2 := Lib.hid (below_next hbi hbw5)
                clear hb5 hbw5 hsame x0 x1 x2 x3 x4 x5 x6
                go_wp2_with fail
                go_roundw
                case rel => exact ⟨j + 1, by go_num, by omega, hbi2.out⟩
                case measure => simp [intOf]; omega
            | exec x =>
              have hsame := Lib.hid (check_same (execA x) (told_small (.exec x)) [.int .u8 2, .int .i32 x, .int .i32 0, .slice ap 0 cp, .slice ai 0 ci, .int .i32 0, .slice at_ 0 ct] [.int .u8 2, .int .i32 x, .int .i32 0, .slice none 0 0, .slice none 0 0, .int .i32 0, .slice none 0 0] wr a1 (act_bare _ _ 2 x 0 0))
              clear a1 p1 i1 t1
              simp only [execA, List.length_nil] at x0 x1 x2 x3 x4 x5 x6
              go_wp2_with fail
              refine (hsame.out _ _ (Only.refl [] _)).mono ?_
              rintro e w5 ⟨rfl, hb5, hbw5⟩
              have z0 := hb5.cell 0 rfl
              have z1 := hb5.cell 1 rfl
              have z3 := hb5.cell 3 rfl
              have z4 := hb5.cell 4 rfl
              have z6 := hb5.cell 6 rfl
              have hbi2 := Lib.hid (below_next hbi hbw5)
              clear hb5 hbw5 hsame x0 x1 x2 x3 x4 x5 x6
              go_wp2_with fail
              go_roundw
              case rel => exact ⟨j + 1, by go_num, by omega, hbi2.out⟩
              case measure => simp [intOf]; omega
            | esc i f h =>
              have hsame := Lib.hid (check_same (⟨3, 0, 0, [], i, f, []⟩) (told_small (.esc i f h)) [.int .u8 3, .int .i32 0, .int .i32 0, .slice ap 0 cp, .slice ai i.length ci, .int .i32 f, .slice at_ 0 ct] [.int .u8 3, .int .i32 0, .int .i32 0, .slice none 0 0, .slice ai i.length ci, .int .i32 f, .slice none 0 0] wr a1 ⟨none, 0, ai, ci, none, 0, rfl, NumsP.nil _ _ _ _, i1, NumsP.nil _ _ _ _⟩)
              clear a1 p1 i1 t1
              simp only [List.length_nil] at x0 x1 x2 x3 x4 x5 x6
              generalize i.length = m0 at hsame x3 x4 x6 h
              go_wp2_with fail
              go_region
              go_wp2_with fail
              refine (hsame.out _ _ (only_drew [] _)).mono ?_
              rintro e w5 ⟨rfl, hb5, hbw5⟩
              have z0 := hb5.cell 0 rfl
              have z1 := hb5.cell 1 rfl
              have z3 := hb5.cell 3 rfl
              have z4 := hb5.cell 4 rfl
              have z6 := hb5.cell 6 rfl
              have hbi2 := Lib.hid (below_next hbi hbw5)
              clear hb5 hbw5 hsame x0 x1 x2 x3 x4 x5 x6
              go_wp2_with fail
              go_roundw
              case rel => exact ⟨j + 1, by go_num, by omega, hbi2.out⟩
              case measure => simp [intOf]; omega
            | csi q p f n i hq hl2 h =>
              have hsame := Lib.hid (check_same (⟨q, 0, p, n, i, f, []⟩) (told_small (.csi q p f n i hq hl2 h)) [.int .u8 q, .int .i32 0, .int .i32 p, .slice ap n.length cp, .slice ai i.length ci, .int .i32 f, .slice at_ 0 ct] [.int .u8 q, .int .i32 0, .int .i32 p, .slice ap n.length cp, .slice ai i.length ci, .int .i32 f, .slice none 0 0] wr a1 ⟨ap, cp, ai, ci, none, 0, rfl, p1, i1, NumsP.nil _ _ _ _⟩)
              clear a1 p1 i1 t1
              simp only [List.length_nil] at x0 x1 x2 x3 x4 x5 x6
              generalize i.length = m0 at hsame x3 x4 x6 h hl2
              generalize n.length = m1 at hsame x3 x4 x6 h hl2
              rcases hq with rfl | rfl
              all_goals
                go_wp2_with fail
                refine (hsame.out _ _ (Only.refl [] _)).mono ?_
                rintro e w5 ⟨rfl, hb5, hbw5⟩
                have z0 := hb5.cell 0 rfl
                have z1 := hb5.cell 1 rfl
                have z3 := hb5.cell 3 rfl
                have z4 := hb5.cell 4 rfl
                have z6 := hb5.cell 6 rfl
                have hbi2 := Lib.hid (below_next hbi hbw5)
                clear hb5 hbw5 hsame x0 x1 x2 x3 x4 x5 x6
                go_wp2_with fail
                go_roundw
                case rel => exact ⟨j + 1, by go_num, by omega, hbi2.out⟩
                case measure => simp [intOf]; omega
            | osc t h =>
              have hsame := Lib.hid (check_same (oscA t) (told_small (.osc t h)) [.int .u8 5, .int .i32 0, .int .i32 0, .slice ap 0 cp, .slice ai 0 ci, .int .i32 0, .slice at_ t.length ct] [.int .u8 5, .int .i32 0, .int .i32 0, .slice none 0 0, .slice none 0 0, .int .i32 0, .slice at_ t.length ct] wr a1 ⟨none, 0, none, 0, at_, ct, rfl, NumsP.nil _ _ _ _, NumsP.nil _ _ _ _, t1⟩)
              clear a1 p1 i1 t1
              simp only [oscA, List.length_nil] at x0 x1 x2 x3 x4 x5 x6
              generalize t.length = m0 at hsame x3 x4 x6 h
              go_wp2_with fail
              refine (hsame.out _ _ (Only.refl [] _)).mono ?_
              rintro e w5 ⟨rfl, hb5, hbw5⟩
              have z0 := hb5.cell 0 rfl
              have z1 := hb5.cell 1 rfl
              have z3 := hb5.cell 3 rfl
              have z4 := hb5.cell 4 rfl
              have z6 := hb5.cell 6 rfl
              have hbi2 := Lib.hid (below_next hbi hbw5)
              clear hb5 hbw5 hsame x0 x1 x2 x3 x4 x5 x6
              go_wp2_with fail
              go_roundw
              case rel => exact ⟨j + 1, by go_num, by omega, hbi2.out⟩
              case measure => simp [intOf]; omega
          · clear hrd hall hground hcell
            go_wp2_with fail
            go_roundw
            case rel => exact ⟨k + 1, _, _, by go_num, by omega, hok2, hat3.out.new hbi⟩
            case measure => simp [intOf]; omega
    · have hbel := hat.below
      clear hn hat
      go_wp2_with ((go_at_call 6; refine (known_any _).mono ?_; rintro e w7 ⟨rfl, hb7⟩))
      go_ret
      exact ⟨rfl, below_next hbel hb7⟩

end Go.Proofs.Ytgkpcjhnphfkgaa.Prs
