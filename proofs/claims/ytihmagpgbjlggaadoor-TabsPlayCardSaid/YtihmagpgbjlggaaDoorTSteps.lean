/-
  tabs: the law TabsSteps.
-/
import Derived.Test.YtihmagpgbjlggaaDoorTSt
import Derived.Test.YtihmagpgbjlggaaDoorTMath3
import Derived.Test.YtihmagpgbjlggaaDoorIn
namespace Go.Proofs.YtihmagpgbjlggaaDoor.Tbs
open Go Go.RowKit Go.Proofs.YtihmagpgbjlggaaDoor.Com

/-- All stops are told in a row of the call's own; what is known stays. -/
def ToldL (w0 w : World) (d n : Nat) (f : Nat → Bool) (l : List Int) (e : Ending) (w' : World) : Prop := ∃ v, e = .returned v ∧ Own w' w.heap.size 3 .i64 v l ∧ TSt w0 w' d n f
theorem stops_st {w0 w : World} {d n : Nat} {f : Nat → Bool} (h : TSt w0 w d n f) : Calls Tryd.prog 20 #[.pointer (some ⟨d, 0, none⟩)] w (ToldL w0 w d n f (stsI f 512)) :=
  (stops_any h.tabs h.lo h.tab).mono fun _ _ ⟨v, he, ho, hb⟩ => ⟨v, he, ho, h.next hb⟩
theorem next_one {w0 w : World} {d n : Nat} {f : Nat → Bool} (h : TSt w0 w d n f) {x : Nat} (hx : x < n) (k : Int) : Calls Tryd.prog 22 #[.pointer (some ⟨d, 0, none⟩), .int .i64 x, .int .i64 k] w (Told w0 d n f (nextAt n f x k)) := by
  have := next_st h x k
  unfold nextF at this
  rwa [held_id hx] at this
theorem prev_one {w0 w : World} {d n : Nat} {f : Nat → Bool} (h : TSt w0 w d n f) {x : Nat} (hx : x < n) (k : Int) : Calls Tryd.prog 24 #[.pointer (some ⟨d, 0, none⟩), .int .i64 x, .int .i64 k] w (Told w0 d n f (prevAt f x k)) := by
  have := prev_st h x k
  unfold prevF at this
  rwa [held_id hx] at this

set_option maxRecDepth 100000 in
set_option maxHeartbeats 4000000 in
theorem lawSteps (cols : Int) (_ : (Lit.int .i64 cols).wf = true) (l : List Int) (_ : Fits .i64 l) (ao : Option Addr) (c : Nat) (_ : l.length ≤ c) (_ : c ≤ maxLen) (col : Int) (_ : (Lit.int .i64 col).wf = true) (n : Int) (_ : (Lit.int .i64 n).wf = true) (w : World) (T : Tab w) (hnl : Nums w w.heap.size .i64 ao l) :
    Calls Tryd.prog 4 #[.int .i64 cols, .slice ao l.length c, .int .i64 col, .int .i64 n] w (Yes w) := by
  by_cases hcl : ¬ (1 ≤ cols ∧ cols ≤ 512)
  · have hN := Lib.hid (new_bad cols hcl w)
    have hkn := Lib.hid (known_any w T)
    clear hcl hnl
    go_enter Tryd.func4, Tryd.ntmps4
    go_wp2_with (first
      | (go_at_call 6; (with_reducible refine (hN.out).mono ?_); rintro e w1 ⟨rfl, rfl⟩)
      | (go_at_call 8; (with_reducible refine (hkn.out).mono ?_); rintro e w1 ⟨rfl, hb1⟩))
    go_ret
    exact ⟨rfl, hb1⟩
  obtain ⟨N, rfl⟩ : ∃ N : Nat, cols = N := ⟨cols.toNat, by omega⟩
  have hN1 : 1 ≤ N := by omega
  have hN2 : N ≤ 512 := by omega
  clear hcl
  have hN := Lib.hid (new_st w T N hN1 hN2)
  have hkn := Lib.hid (fun w' d f (h : TSt w w' d N f) => known_any w' h.tab)
  by_cases hl : 60 < l.length
  · clear hnl
    go_enter Tryd.func4, Tryd.ntmps4
    go_wp2_with (first
      | (go_at_call 6; (with_reducible refine (hN.out).mono ?_); rintro e w1 ⟨d, rfl, hs⟩; replace hs := Lib.hid hs)
      | (go_at_call 8; (with_reducible refine (hkn.out _ _ _ hs.out).mono ?_); rintro e w2 ⟨rfl, hb2⟩))
    go_ret
    exact ⟨rfl, below_next hs.out.below hb2⟩
  by_cases hn0 : n < 0
  · clear hnl
    go_enter Tryd.func4, Tryd.ntmps4
    go_wp2_with (first
      | (go_at_call 6; (with_reducible refine (hN.out).mono ?_); rintro e w1 ⟨d, rfl, hs⟩; replace hs := Lib.hid hs)
      | (go_at_call 8; (with_reducible refine (hkn.out _ _ _ hs.out).mono ?_); rintro e w2 ⟨rfl, hb2⟩))
    go_ret
    exact ⟨rfl, below_next hs.out.below hb2⟩
  by_cases hn6 : 600 < n
  · clear hnl
    go_enter Tryd.func4, Tryd.ntmps4
    go_wp2_with (first
      | (go_at_call 6; (with_reducible refine (hN.out).mono ?_); rintro e w1 ⟨d, rfl, hs⟩; replace hs := Lib.hid hs)
      | (go_at_call 8; (with_reducible refine (hkn.out _ _ _ hs.out).mono ?_); rintro e w2 ⟨rfl, hb2⟩))
    go_ret
    exact ⟨rfl, below_next hs.out.below hb2⟩
  obtain ⟨M, rfl⟩ : ∃ M : Nat, n = M := ⟨n.toNat, by omega⟩
  have hM : M ≤ 600 := by omega
  have hcA := Lib.hid (fun w' d f (h : TSt w w' d N f) => clearAll_st h T)
  have hld : Hid (∀ wr, Below w.heap.size w wr → Nums wr w.heap.size .i64 ao l) := Lib.hid fun wr hb => hnl.below hb (Nat.le_refl _)
  clear hnl hn0 hn6
  go_enter Tryd.func4, Tryd.ntmps4
  go_wp2_with (first
    | (go_at_call 6; (with_reducible refine (hN.out).mono ?_); rintro e w1 ⟨d, rfl, hs⟩; replace hs := Lib.hid hs)
    | (go_at_call 13; (with_reducible refine (hcA.out _ _ _ hs.out).mono ?_); rintro e w2 ⟨rfl, hs2⟩; replace hs2 := Lib.hid hs2))
  clear hs hN hcA
  replace T := Lib.hid T
  go_loopw [55] (fun i wr => ∃ (k : Nat) (f : Nat → Bool), k ≤ l.length ∧ i = .int .i64 k ∧ Hid (TSt w wr d N f)) (fun i _ => l.length - (intOf i).toNat)
  case atStart => exact ⟨0, _, by omega, rfl, hs2⟩
  case round =>
    obtain ⟨k, f, hk, rfl, hs⟩ := hrel
    clear hs2
    by_cases hlt : k < l.length
    · obtain ⟨ad, hao, hblt, hcell⟩ := (hld.out _ hs.out.below).at hlt
      subst hao
      have hset := Lib.hid (set_st hs.out T.out l[k])
      generalize l[k] = x at hcell hset
      go_wp2_with (go_at_call 10; (with_reducible refine (hset.out).mono ?_); rintro e w3 ⟨rfl, hs3⟩; replace hs3 := Lib.hid hs3)
      clear hs
      go_roundw
      case rel => exact ⟨k + 1, _, by omega, by go_num, hs3⟩
      case measure => simp [intOf]; omega
    · obtain rfl : k = l.length := by omega
      clear hld
      have hh := held_lt hN1 col
      have hN0 := fun w' (h : TSt w w' d N f) => next_st h col 0
      have hP0 := fun w' (h : TSt w w' d N f) => prev_st h col 0
      have hNM := fun w' (h : TSt w w' d N f) => next_st h col M
      have hPM := fun w' (h : TSt w w' d N f) => prev_st h col M
      unfold nextF at hN0 hNM
      unfold prevF at hP0 hPM
      generalize heldF N col = h at hh hN0 hP0 hNM hPM
      rw [next_zero] at hN0
      rw [prev_zero] at hP0
      replace hN0 := Lib.hid hN0
      replace hP0 := Lib.hid hP0
      replace hNM := Lib.hid hNM
      replace hPM := Lib.hid hPM
      go_wp2_with (first
        | (go_at_call 22; (with_reducible refine (hN0.out _ (Hid.out (by assumption))).mono ?_); rintro e w4 ⟨rfl, hs4⟩; replace hs4 := Lib.hid hs4)
        | (go_at_call 24; (with_reducible refine (hP0.out _ (Hid.out (by assumption))).mono ?_); rintro e w5 ⟨rfl, hs5⟩; replace hs5 := Lib.hid hs5))
      clear hs hs4 hN0 hP0
      go_loopw [13, 14, 70] (fun a b i wr => ∃ (k x y : Nat), k ≤ M ∧ i = .int .i64 k ∧ a = .int .i64 x ∧ b = .int .i64 y ∧ x < N ∧ y < N ∧ Hid (x = nextAt N f h k) ∧ Hid (y = prevAt f h k) ∧ Hid (TSt w wr d N f)) (fun _ _ i _ => M - (intOf i).toNat)
      case atStart => exact ⟨0, h, h, by omega, rfl, rfl, rfl, hh, hh, Lib.hid (next_zero N f h).symm, Lib.hid (prev_zero f h).symm, hs5⟩
      case round =>
        obtain ⟨k, x, y, hk, rfl, rfl, rfl, hxN, hyN, hx, hy, hs⟩ := hrel
        clear hs5
        by_cases hlt : k < M
        · have hN1' := fun w' (h : TSt w w' d N f) => next_one h hxN 1
          have hP1' := fun w' (h : TSt w w' d N f) => prev_one h hyN 1
          have ha1 := next_ge f hxN
          have ha2 := next_lt hN1 f hxN 1
          have hb1 := prev_le f y 1
          simp only [show ((1 : Nat) : Int) = 1 from rfl] at ha2 hb1
          have hax := next_step hN1 f hh k
          rw [← hx.out] at hax
          have hby := prev_step f h k
          rw [← hy.out] at hby
          have hpa := Lib.hid (fun s (hs : s ∈ sts f 512) (h1 : x < s) => next_pass hN1 hxN hs h1)
          have hpb := Lib.hid (fun s (hs : s ∈ sts f 512) (h1 : s < y) => prev_pass hs h1)
          generalize nextAt N f x 1 = a at hN1' ha1 ha2 hax hpa
          generalize prevAt f y 1 = b at hP1' hb1 hby hpb
          replace hN1' := Lib.hid hN1'
          replace hP1' := Lib.hid hP1'
          replace hax := Lib.hid hax
          replace hby := Lib.hid hby
          have hSt := Lib.hid (fun w' (h : TSt w w' d N f) => stops_st h)
          clear hx hy
          go_wp2_with (first
            | (go_at_call 22; (with_reducible refine (hN1'.out _ (Hid.out (by assumption))).mono ?_); rintro e w6 ⟨rfl, hs6⟩; replace hs6 := Lib.hid hs6)
            | (go_at_call 24; (with_reducible refine (hP1'.out _ (Hid.out (by assumption))).mono ?_); rintro e w7 ⟨rfl, hs7⟩; replace hs7 := Lib.hid hs7)
            | (go_at_call 20; (with_reducible refine (hSt.out _ (Hid.out (by assumption))).mono ?_); rintro e w8 ⟨v8, rfl, hown8, hs8⟩; replace hs8 := Lib.hid hs8; obtain ⟨a8, c8, rfl, hle8, hcm8, hn8⟩ := hown8.shape))
          have hlen8 : (stsI f 512).length ≤ 512 := by rw [stsI_len]; exact sts_bound f 512
          have hat8 : Hid (∀ j (hj : j < (stsI f 512).length), ∃ ad s, a8 = some ad ∧ s ∈ sts f 512 ∧ w8.cell? (ad.add j) = some (.int .i64 ((s : Nat) : Int))) := Lib.hid fun j hj => by
            obtain ⟨ad, h1, _, h2⟩ := hn8.at hj
            have hj' : j < (sts f 512).length := by rwa [stsI_len] at hj
            refine ⟨ad, (sts f 512)[j], h1, List.getElem_mem hj', ?_⟩
            rw [h2]
            simp [stsI]
          clear hown8 hle8 hcm8 hn8 hs hs6 hs7 hSt hN1' hP1'
          generalize (stsI f 512).length = L at hlen8 hat8 ⊢
          go_loop [81] (fun i => ∃ j : Nat, j ≤ L ∧ i = .int .i64 j) (fun i => L - (intOf i).toNat)
          case atStart => exact ⟨0, by omega, rfl⟩
          case round =>
            obtain ⟨j, hj, rfl⟩ := hrel
            by_cases hjl : j < L
            · obtain ⟨ad, s, hao8, hmem, hcell⟩ := hat8.out j hjl
              subst hao8
              have hp1 := hpa.out s hmem
              have hp2 := hpb.out s hmem
              clear hat8 hmem
              by_cases h1 : x < s
              · have h1' := hp1 h1
                by_cases h2 : s < y
                · have h2' := hp2 h2
                  clear hp1 hp2
                  go_wp2
                  go_round
                  case rel => exact ⟨j + 1, by omega, by go_num⟩
                  case measure => simp [intOf]; omega
                · clear hp1 hp2
                  go_wp2
                  go_round
                  case rel => exact ⟨j + 1, by omega, by go_num⟩
                  case measure => simp [intOf]; omega
              · by_cases h2 : s < y
                · have h2' := hp2 h2
                  clear hp1 hp2
                  go_wp2
                  go_round
                  case rel => exact ⟨j + 1, by omega, by go_num⟩
                  case measure => simp [intOf]; omega
                · clear hp1 hp2
                  go_wp2
                  go_round
                  case rel => exact ⟨j + 1, by omega, by go_num⟩
                  case measure => simp [intOf]; omega
            · obtain rfl : j = L := by omega
              have ha3 : ¬ a < x := by omega
              have hb3 : ¬ y < b := by omega
              clear hat8
              go_wp2
              go_roundw
              case rel => exact ⟨k + 1, a, b, by omega, by go_num, rfl, rfl, ha2, by omega, hax, hby, hs8⟩
              case measure => simp [intOf]; omega
        · obtain rfl : k = M := by omega
          have hxe := hx.out
          have hye := hy.out
          rw [← hxe] at hNM
          rw [← hye] at hPM
          clear hxe hye hx hy
          go_wp2_with (first
            | (go_at_call 22; (with_reducible refine (hNM.out _ (Hid.out (by assumption))).mono ?_); rintro e w6 ⟨rfl, hs6⟩; replace hs6 := Lib.hid hs6)
            | (go_at_call 24; (with_reducible refine (hPM.out _ (Hid.out (by assumption))).mono ?_); rintro e w7 ⟨rfl, hs7⟩; replace hs7 := Lib.hid hs7)
            | (go_at_call 8; (with_reducible refine (hkn.out _ _ _ hs7.out).mono ?_); rintro e w8 ⟨rfl, hb8⟩))
          go_ret
          exact ⟨rfl, below_next hs7.out.below hb8⟩

end Go.Proofs.YtihmagpgbjlggaaDoor.Tbs
