/-
  The law ParserNone.
-/
import Derived.Test.YtgkpcjhnphfkgaaQTwo
namespace Go.Proofs.Ytgkpcjhnphfkgaa.Prs
open Go Go.RowKit Go.Proofs.Ytgkpcjhnphfkgaa.Com Go.Proofs.Ytgkpcjhnphfkgaa.Par

set_option maxRecDepth 100000 in
set_option maxHeartbeats 4000000 in
theorem lawNone (l : List Int) (_hf : Fits .i32 l) (ao : Option Addr) (c : Nat) (_hc : l.length ≤ c) (hm : c ≤ maxLen) (w : World)
    (hn : Nums w w.heap.size .i32 ao l) :
    Calls Try.prog 5 #[.slice ao l.length c] w fun e w' => e = .returned (.bool true) ∧ Below w.heap.size w w' := by
  have h63 : l.length ≤ 9223372036854775807 := by simp only [maxLen] at hm; omega
  clear hm
  by_cases h0 : 300 < l.length
  · go_enter Try.func5, Try.ntmps5
    go_wp2_with ((go_at_call 6; refine (known_any _).mono ?_; rintro e w1 ⟨rfl, hb1⟩))
    go_ret
    exact ⟨rfl, hb1⟩
  have h0' : l.length ≤ 300 := by omega
  clear h0
  have htwo := two_new w
  obtain ⟨d1, hd1⟩ : ∃ d1, d1 = w.heap.size + 1 := ⟨_, rfl⟩
  have hnew := new_any (w.alloc (.cells (parL start (.slice none 0 0)).toArray 43))
  simp only [World.size_alloc] at hnew
  rw [← hd1] at hnew htwo
  replace hd1 := Lib.hid hd1
  replace htwo := Lib.hid htwo
  go_enter Try.func5, Try.ntmps5
  go_wp2_with fail
  refine hnew.mono ?_
  rintro e w1 ⟨rfl, hw1⟩
  have htwo1 := htwo.out
  rw [← hw1] at htwo1
  clear hw1 htwo hnew
  generalize hd0 : w.heap.size = d0 at htwo1
  go_wp2_with fail
  go_loopw [15] (fun i wr => ∃ (k : Nat) (u v : Value) (S : PS), i = .int .i64 k ∧ k ≤ l.length ∧ S.Ok ∧ Two w d0 d1 u v S S wr) (fun i _ => l.length - (intOf i).toNat)
  case atStart => exact ⟨0, _, _, start, rfl, by omega, start_ok, htwo1⟩
  case round =>
    obtain ⟨k, u, v, S, rfl, hk, hS, hat⟩ := hrel
    clear htwo1
    by_cases hlt : k < l.length
    · obtain ⟨ad, rfl, _, hcell⟩ := (hn.below hat.below (Nat.le_refl _)).at hlt
      generalize l[k] = r at hcell
      have hall := feed_all hS r
      have hgood := feed_good hS r
      have hat' := Lib.hid hat
      have hB := hat.below.size
      clear hn hat
      go_wp2_with fail
      refine (feed_nil r _).mono ?_
      rintro e w2 ⟨rfl, hw2⟩
      rw [hw2]
      clear hw2
      go_wp2_with fail
      refine (feed_any S hS u r w.heap.size d0 _ hat'.out.p hB).mono ?_
      rintro e w3 ⟨x, u', rfl, hf⟩
      obtain ⟨ax, nx, cx, rfl⟩ := hf.shape
      have hat3 := Lib.hid (hat'.out.fed0 hf)
      have hf' := Lib.hid hf
      clear hf
      go_wp2_with fail
      refine (feed_any S hS v r w.heap.size d1 w3 hat3.out.q hat3.out.below.size).mono ?_
      rintro e w4 ⟨y, v', rfl, hg⟩
      obtain ⟨ay, ny, cy, rfl⟩ := hg.shape
      have hat4 := Lib.hid (hat3.out.fed1 hg)
      have hsame := Lib.hid (same_both hall hgood.few hat'.out hf'.out hg)
      clear hg hf' hat' hat3
      go_wp2_with fail
      refine hsame.out.mono ?_
      rintro e w5 ⟨rfl, hb5⟩
      have hat5 := Lib.hid (hat4.out.new hb5)
      clear hat4 hb5 hsame
      go_wp2_with fail
      go_roundw
      case rel => exact ⟨k + 1, _, _, _, by go_num, by omega, hgood.ok, hat5.out⟩
      case measure => simp [intOf]; omega
    · have hbel := hat.below
      clear hn hat
      go_wp2_with fail
      refine (state_nil _).mono ?_
      rintro e w2 ⟨rfl, hw2⟩
      rw [hw2]
      clear hw2
      go_wp2_with fail
      refine (copy_nil _).mono ?_
      rintro e w2 ⟨rfl, hw2⟩
      rw [hw2]
      clear hw2
      go_wp2_with ((go_at_call 6; refine (known_any _).mono ?_; rintro e w7 ⟨rfl, hb7⟩))
      go_ret
      exact ⟨rfl, below_next hbel hb7⟩

end Go.Proofs.Ytgkpcjhnphfkgaa.Prs
