/-
  The law ParamsNone.
-/
import Derived.Test.YtgpoboolonkmcaaPHeld
namespace Go.Proofs.Ytgpoboolonkmcaa.Par
open Go Go.RowKit Go.Proofs.Ytgpoboolonkmcaa.Com

set_option maxRecDepth 100000 in
set_option maxHeartbeats 4000000 in
theorem lawNone (l : List Int) (_hf : Fits .i64 l) (ao : Option Addr) (c : Nat) (_hc : l.length ≤ c) (hm : c ≤ maxLen) (t : Int) (_wt : (Lit.int .i64 t).wf = true) (w : World)
    (hn : Nums w w.heap.size .i64 ao l) :
    Calls Try.prog 4 #[.slice ao l.length c, .int .i64 t] w fun e w' => e = .returned (.bool true) ∧ Below w.heap.size w w' := by
  have h63 : l.length ≤ 9223372036854775807 := by simp only [maxLen] at hm; omega
  clear hm
  go_enter Try.func4, Try.ntmps4
  go_wp2_with fail
  refine (digit_nil 1 w).mono ?_
  rintro e w' ⟨⟨v1, rfl⟩, hw⟩
  rw [hw]
  clear hw
  go_wp2_with fail
  refine (next_nil w).mono ?_
  rintro e w' ⟨⟨v2, rfl⟩, hw⟩
  rw [hw]
  clear hw
  go_wp2_with fail
  refine (clear_nil w).mono ?_
  rintro e w' ⟨⟨v3, rfl⟩, hw⟩
  rw [hw]
  clear hw
  go_wp2_with fail
  refine (len_nil w).mono ?_
  rintro e w' ⟨rfl, hw⟩
  rw [hw]
  clear hw
  go_wp2_with fail
  refine (at_nil 0 t w).mono ?_
  rintro e w' ⟨rfl, hw⟩
  rw [hw]
  clear hw
  go_wp2_with fail
  refine (values_nil w).mono ?_
  rintro e w' ⟨rfl, hw⟩
  rw [hw]
  clear hw
  go_wp2_with fail
  refine (copy_nil w).mono ?_
  rintro e w' ⟨rfl, hw⟩
  rw [hw]
  clear hw
  by_cases h0 : 300 < l.length
  · go_wp2_with ((go_at_call 7; refine (known_any _).mono ?_; rintro e w1 ⟨rfl, hb1⟩))
    go_ret
    exact ⟨rfl, hb1⟩
  have h0' : l.length ≤ 300 := by omega
  clear h0
  go_wp2_with fail
  have hnew := new_any (w.alloc (.cells (cellsL empty).toArray 37))
  obtain ⟨d1, hd1⟩ : ∃ d1, d1 = (w.alloc (.cells (cellsL empty).toArray 37)).heap.size := ⟨_, rfl⟩
  rw [← hd1] at hnew
  simp only [World.size_alloc] at hd1
  refine hnew.mono ?_
  rintro e w1 ⟨rfl, hdn, ho1⟩
  have htwo : Two w w.heap.size d1 empty empty w1 := by
    have hz := (Block.made w 37 (cellsL empty).toArray)
    exact ⟨ListIn.new (S := empty) hz ho1.nil, hdn, below_next (below_new _ _) ho1.nil, Nat.le_refl _, by omega, by omega⟩
  clear hdn ho1 hd1 hnew
  generalize hd0 : w.heap.size = d0 at htwo
  go_wp2_with fail
  go_loopw [51] (fun i wr => ∃ (k : Nat) (S : Lst), i = .int .i64 k ∧ k ≤ l.length ∧ S.Ok ∧ Two w d0 d1 S S wr) (fun i _ => l.length - (intOf i).toNat)
  case atStart => exact ⟨0, empty, rfl, by omega, empty_ok, htwo⟩
  case round =>
    obtain ⟨k, S, rfl, hk, hS, hat⟩ := hrel
    clear htwo
    by_cases hlt : k < l.length
    · obtain ⟨ad, rfl, _, hcell⟩ := (hn.below hat.below (Nat.le_refl _)).at hlt
      generalize l[k] = d at hcell
      clear hn
      by_cases h10 : d = 10
      · subst h10
        go_wp2_with fail
        refine (next_any S hS.len d0 _ hat.a).mono ?_
        rintro e w3 ⟨⟨v3, rfl⟩, hd3, ho3⟩
        have hat3 := hat.turn0 hd3 ho3
        clear hat hd3 ho3
        go_wp2_with fail
        refine (next_any S hS.len d1 _ hat3.b).mono ?_
        rintro e w4 ⟨⟨v4, rfl⟩, hd4, ho4⟩
        have hat4 := hat3.turn1 hd4 ho4
        clear hat3 hd4 ho4
        go_wp2_with fail
        go_roundw
        case rel => exact ⟨k + 1, _, by go_num, by omega, next_ok hS, hat4⟩
        case measure => simp [intOf]; omega
      · have h10' : (d == 10) = false := by simpa using h10
        clear h10
        go_wp2_with fail
        refine (digit_any S hS d d0 _ hat.a).mono ?_
        rintro e w3 ⟨⟨v3, rfl⟩, hd3, ho3⟩
        have hat3 := hat.turn0 hd3 ho3
        clear hat hd3 ho3
        go_wp2_with fail
        refine (digit_any S hS d d1 _ hat3.b).mono ?_
        rintro e w4 ⟨⟨v4, rfl⟩, hd4, ho4⟩
        have hat4 := hat3.turn1 hd4 ho4
        clear hat3 hd4 ho4
        go_wp2_with fail
        go_roundw
        case rel => exact ⟨k + 1, _, by go_num, by omega, digit_ok hS d, hat4⟩
        case measure => simp [intOf]; omega
    · have hl := hS.len
      clear hn
      go_wp2_with fail
      refine (values_any S hl d0 _ hat.a).mono ?_
      rintro e w3 ⟨v3, rfl, hown3, hb3⟩
      obtain ⟨a3, c3, rfl, _, _, hn3⟩ := hown3.shape
      have hat3 := hat.new hb3
      clear hat hown3 hb3
      go_wp2_with fail
      refine (values_any S hl d1 _ hat3.b).mono ?_
      rintro e w4 ⟨v4, rfl, hown4, hb4⟩
      obtain ⟨a4, c4, rfl, _, _, hn4⟩ := hown4.shape
      have hat4 := hat3.new hb4
      have hn34 := (hn3.below hb4 (Nat.le_refl _)).more hb4.size
      clear hat3 hown4 hb4 hn3
      go_wp2_with fail
      refine (same_yes S.n a3 a4 c3 c4 w4 w4.heap.size (by omega) hn34 hn4).mono ?_
      rintro e w5 ⟨rfl, n5, rfl⟩
      have hat5 := hat4.new (below_dr (Below.refl _ _) n5)
      clear hat4 hn34 hn4
      go_wp2_with fail
      refine (len_says S hl d1 _ rfl _ hat5.b).mono ?_
      rintro e w6 ⟨rfl, hb6⟩
      have hbel := (hat5.new hb6).below
      clear hat5 hb6
      go_wp2_with ((go_at_call 7; refine (known_any _).mono ?_; rintro e w7 ⟨rfl, hb7⟩))
      go_ret
      exact ⟨rfl, below_next hbel hb7⟩

end Go.Proofs.Ytgpoboolonkmcaa.Par
