/-
  The law ParserCan.
-/
import Derived.Test.YtgkpcjhnphfkgaaQTwo
namespace Go.Proofs.Ytgkpcjhnphfkgaa.Prs
open Go Go.RowKit Go.Proofs.Ytgkpcjhnphfkgaa.Com Go.Proofs.Ytgkpcjhnphfkgaa.Par

set_option maxRecDepth 100000 in
set_option maxHeartbeats 4000000 in
theorem lawCan (l : List Int) (_hf : Fits .i32 l) (ao : Option Addr) (c : Nat) (_hc : l.length ≤ c) (hm : c ≤ maxLen) (m : List Int) (_hg : Fits .i32 m) (bo : Option Addr) (c' : Nat) (_hc' : m.length ≤ c') (hm' : c' ≤ maxLen) (w : World)
    (hn : Nums w w.heap.size .i32 ao l) (hn' : Nums w w.heap.size .i32 bo m) :
    Calls Try.prog 3 #[.slice ao l.length c, .slice bo m.length c'] w fun e w' => e = .returned (.bool true) ∧ Below w.heap.size w w' := by
  have h63 : l.length ≤ 9223372036854775807 := by simp only [maxLen] at hm; omega
  have k63 : m.length ≤ 9223372036854775807 := by simp only [maxLen] at hm'; omega
  clear hm hm'
  by_cases h0 : 300 < l.length
  · go_enter Try.func3, Try.ntmps3
    go_wp2_with ((go_at_call 6; refine (known_any _).mono ?_; rintro e w1 ⟨rfl, hb1⟩))
    go_ret
    exact ⟨rfl, hb1⟩
  by_cases h1 : 300 < m.length
  · go_enter Try.func3, Try.ntmps3
    go_wp2_with ((go_at_call 6; refine (known_any _).mono ?_; rintro e w1 ⟨rfl, hb1⟩))
    go_ret
    exact ⟨rfl, hb1⟩
  have h0' : l.length ≤ 300 := by omega
  have h1' : m.length ≤ 300 := by omega
  clear h0 h1
  have htwo := two_new w
  obtain ⟨d1, hd1⟩ : ∃ d1, d1 = w.heap.size + 1 := ⟨_, rfl⟩
  have hnew := new_any (w.alloc (.cells (parL start (.slice none 0 0)).toArray 43))
  simp only [World.size_alloc] at hnew
  rw [← hd1] at hnew htwo
  replace hd1 := Lib.hid hd1
  replace htwo := Lib.hid htwo
  replace hnew := Lib.hid hnew
  go_enter Try.func3, Try.ntmps3
  go_wp2_with fail
  refine (new_any w).mono ?_
  rintro e w0 ⟨rfl, hw0⟩
  rw [hw0]
  clear hw0
  go_wp2_with fail
  refine hnew.out.mono ?_
  rintro e w1 ⟨rfl, hw1⟩
  have htwo1 := htwo.out
  rw [← hw1] at htwo1
  clear hw1 htwo hnew
  generalize hd0 : w.heap.size = d0 at htwo1
  go_wp2_with fail
  go_loopw [24] (fun i wr => ∃ (k : Nat) (u v : Value) (S : PS), i = .int .i64 k ∧ k ≤ l.length ∧ S.Ok ∧ Two w d0 d1 u v S start wr) (fun i _ => l.length - (intOf i).toNat)
  case atStart => exact ⟨0, _, _, start, rfl, by omega, start_ok, htwo1⟩
  case round =>
    obtain ⟨k, u, v, S, rfl, hk, hS, hat⟩ := hrel
    clear htwo1
    by_cases hlt : k < l.length
    · obtain ⟨ad, rfl, _, hcell⟩ := (hn.below hat.below (Nat.le_refl _)).at hlt
      generalize l[k] = r at hcell
      have hgood := feed_good hS r
      have hat' := Lib.hid hat
      have hB := hat.below.size
      clear hn hn' hat
      go_wp2_with fail
      refine (feed_any S hS u r w.heap.size d0 _ hat'.out.p hB).mono ?_
      rintro e w3 ⟨x, u', rfl, hf⟩
      have hat3 := Lib.hid (hat'.out.fed0 hf)
      clear hf hat'
      go_wp2_with fail
      go_roundw
      case rel => exact ⟨k + 1, _, _, _, by go_num, by omega, hgood.ok, hat3.out⟩
      case measure => simp [intOf]; omega
    · have hat' := Lib.hid hat
      have hB := hat.below.size
      have hgood := feed_good hS 24
      obtain ⟨hsim, hst⟩ := can_sim hS
      have hsim' := Lib.hid hsim
      have hst' := Lib.hid hst
      clear hn hat hsim hst
      go_wp2_with fail
      refine (feed_any S hS u 24 w.heap.size d0 _ hat'.out.p hB).mono ?_
      rintro e w3 ⟨x, u', rfl, hf⟩
      have hat3 := Lib.hid (hat'.out.fed0 hf)
      clear hf hat'
      have hstate := Lib.hid (state_any _ _ d0 w3 hat3.out.p.blk)
      rw [hst'.out] at hstate
      clear hst'
      go_wp2_with fail
      refine hstate.out.mono ?_
      rintro e w4 ⟨rfl, hw4⟩
      rw [hw4]
      clear hw4
      have hok3 := hgood.ok
      generalize (feedF S 24).2 = S1 at hat3 hsim' hok3 hstate
      have hat4 := hat3.out
      clear hat3 hgood hstate
      go_wp2_with fail
      go_loopw [39] (fun i wr => ∃ (k : Nat) (u v : Value) (S T : PS), i = .int .i64 k ∧ k ≤ m.length ∧ S.Ok ∧ T.Ok ∧ Sim S T ∧ Two w d0 d1 u v S T wr) (fun i _ => m.length - (intOf i).toNat)
      case atStart => exact ⟨0, _, _, S1, start, rfl, by omega, hok3, start_ok, hsim'.out, hat4⟩
      case round =>
        clear hat4 hsim' hok3 hS hk hlt
        obtain ⟨k, u, v, S, T, rfl, hk, hS, hT, hsim, hat⟩ := hrel
        by_cases hlt : k < m.length
        · obtain ⟨ad, rfl, _, hcell⟩ := (hn'.below hat.below (Nat.le_refl _)).at hlt
          generalize m[k] = r at hcell
          have hall := feed_all hT r
          have hgS := feed_good hS r
          have hgT := feed_good hT r
          obtain ⟨hacts, hsim2⟩ := sim_feed hsim r
          have hsim2' := Lib.hid hsim2
          have hst2 := Lib.hid hsim2.st
          have hacts' := Lib.hid hacts
          have hat' := Lib.hid hat
          have hB := hat.below.size
          clear hn' hat hsim2 hacts hsim
          go_wp2_with fail
          refine (feed_any S hS u r w.heap.size d0 _ hat'.out.p hB).mono ?_
          rintro e w3 ⟨x, u', rfl, hf⟩
          obtain ⟨ax, nx, cx, rfl⟩ := hf.shape
          have hat3 := Lib.hid (hat'.out.fed0 hf)
          rw [hacts'.out] at hf
          have hf' := Lib.hid hf
          clear hf
          go_wp2_with fail
          refine (feed_any T hT v r w.heap.size d1 w3 hat3.out.q hat3.out.below.size).mono ?_
          rintro e w4 ⟨y, v', rfl, hg⟩
          obtain ⟨ay, ny, cy, rfl⟩ := hg.shape
          have hat4 := Lib.hid (hat3.out.fed1 hg)
          have hsame := Lib.hid (same_both hall hgT.few hat'.out hf'.out hg)
          clear hg hf' hat' hat3
          go_wp2_with fail
          refine hsame.out.mono ?_
          rintro e w5 ⟨rfl, hb5⟩
          have hat5 := Lib.hid (hat4.out.new hb5)
          clear hat4 hb5 hsame
          have st0 := Lib.hid (state_any _ _ d0 w5 hat5.out.p.blk)
          have st1 := Lib.hid (state_any _ _ d1 w5 hat5.out.q.blk)
          rw [← hst2.out] at st1
          have hokS := hgS.ok
          have hokT := hgT.ok
          clear hgS hgT hst2 hall hacts' hS hT
          generalize (feedF S r).2 = S2 at hat5 hsim2' hokS st0 st1
          generalize (feedF T r).2 = T2 at hat5 hsim2' hokT
          generalize S2.st = s2 at st0 st1
          go_wp2_with fail
          refine st0.out.mono ?_
          rintro e w6 ⟨rfl, hw6⟩
          rw [hw6]
          clear hw6
          go_wp2_with fail
          refine st1.out.mono ?_
          rintro e w6 ⟨rfl, hw6⟩
          rw [hw6]
          clear hw6
          go_wp2_with fail
          go_roundw
          case rel => exact ⟨k + 1, _, _, _, _, by go_num, by omega, hokS, hokT, hsim2'.out, hat5.out⟩
          case measure => simp [intOf]; omega
        · have hbel := hat.below
          clear hn' hat hsim
          go_wp2_with ((go_at_call 6; refine (known_any _).mono ?_; rintro e w7 ⟨rfl, hb7⟩))
          go_ret
          exact ⟨rfl, below_next hbel hb7⟩

end Go.Proofs.Ytgkpcjhnphfkgaa.Prs
