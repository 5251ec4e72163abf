/-
  The law ParamsHeld.
-/
import Derived.Test.YtgpoboolonkmcaaPKnow
import Derived.Test.YtgpoboolonkmcaaIn
import Derived.IntWalk
namespace Go.Proofs.Ytgpoboolonkmcaa.Par
open Go Go.RowKit Go.Proofs.Ytgpoboolonkmcaa.Com

/-- Two lists of the call's own. -/
structure Two (w : World) (d0 d1 : Nat) (A B : Lst) (wr : World) : Prop where
  a : ListIn wr d0 A
  b : ListIn wr d1 B
  below : Below w.heap.size w wr
  at0 : w.heap.size ≤ d0
  at1 : w.heap.size ≤ d1
  ne : d0 ≠ d1
section
variable {w wr w' : World} {d0 d1 : Nat} {A B A' B' : Lst}
theorem Two.new (h : Two w d0 d1 A B wr) (hb : Below wr.heap.size wr w') : Two w d0 d1 A B w' := ⟨h.a.new hb, h.b.new hb, below_next h.below hb, h.at0, h.at1, h.ne⟩
theorem Two.turn0 (h : Two w d0 d1 A B wr) (hd : ListIn w' d0 A') (ho : Only [d0] wr w') : Two w d0 d1 A' B w' := ⟨hd, h.b.only ho (by simpa using fun e => h.ne e.symm), below_on h.below ho h.at0, h.at0, h.at1, h.ne⟩
theorem Two.turn1 (h : Two w d0 d1 A B wr) (hd : ListIn w' d1 B') (ho : Only [d1] wr w') : Two w d0 d1 A B' w' := ⟨h.a.only ho (by simpa using h.ne), hd, below_on h.below ho h.at1, h.at0, h.at1, h.ne⟩
end

/-- A list of one number, or an empty one, which is as one with a nought. -/
def Like (S : Lst) (x : Int) : Prop := (S = empty ∧ x = 0) ∨ S = ⟨[x], false⟩
theorem Like.ok {S : Lst} {x : Int} (h : Like S x) (h0 : 0 ≤ x) (h1 : x ≤ 65535) : S.Ok := by
  rcases h with ⟨rfl, _⟩ | rfl
  · exact empty_ok
  · exact lst_ok (by simp) (by simp; omega)
theorem Like.digit {S : Lst} {x d : Int} (h : Like S x) (h0 : 0 ≤ d) (h1 : d ≤ 9) : digitF S d = ⟨[capF (x * 10 + d)], false⟩ := by
  rcases h with ⟨rfl, rfl⟩ | rfl
  · rw [digit_put h0 h1 rfl]; rfl
  · rw [digit_put h0 h1 rfl]; rfl
theorem Like.nought {S : Lst} (h : Like S 0) : Like (digitF S 0) 0 := by
  rw [h.digit (by omega) (by omega)]
  exact .inr rfl
theorem cap_bounds {x d : Int} (h0 : 0 ≤ x) (h1 : x ≤ 65535) (hd : 0 ≤ d) : 0 ≤ capF (x * 10 + d) ∧ capF (x * 10 + d) ≤ 65535 ∧ x ≤ capF (x * 10 + d) := by
  unfold capF
  split <;> omega
theorem at_one (x : Int) : atF [x] 0 0 = x := by
  unfold atF
  simp
  omega

set_option maxRecDepth 100000 in
set_option maxHeartbeats 4000000 in
theorem lawHeld (l : List Int) (hf : Fits .u8 l) (ao : Option Addr) (c : Nat) (_hc : l.length ≤ c) (hm : c ≤ maxLen) (t : Int) (_wt : (Lit.int .i64 t).wf = true) (w : World)
    (hn : Nums w w.heap.size .u8 ao l) :
    Calls Try.prog 6 #[.slice ao l.length c, .int .i64 t] w fun e w' => e = .returned (.bool true) ∧ Below w.heap.size w w' := by
  have hb : ∀ x ∈ l, 0 ≤ x ∧ x ≤ 255 := fun x hx => bounds_u8 (hf x hx)
  have h63 : l.length ≤ 9223372036854775807 := by simp only [maxLen] at hm; omega
  clear hm hf
  by_cases h0 : 300 < l.length
  · go_enter Try.func6, Try.ntmps6
    go_wp2_with ((go_at_call 7; refine (known_any _).mono ?_; rintro e w1 ⟨rfl, hb1⟩))
    go_ret
    exact ⟨rfl, hb1⟩
  by_cases h1 : t < 0
  · go_enter Try.func6, Try.ntmps6
    go_wp2_with ((go_at_call 7; refine (known_any _).mono ?_; rintro e w1 ⟨rfl, hb1⟩))
    go_ret
    exact ⟨rfl, hb1⟩
  by_cases h2 : 100 < t
  · go_enter Try.func6, Try.ntmps6
    go_wp2_with ((go_at_call 7; refine (known_any _).mono ?_; rintro e w1 ⟨rfl, hb1⟩))
    go_ret
    exact ⟨rfl, hb1⟩
  have h0' : l.length ≤ 300 := by omega
  obtain ⟨m, rfl⟩ : ∃ m : Nat, t = m := ⟨t.toNat, by omega⟩
  have h2' : m ≤ 100 := by omega
  clear h0 h1 h2
  go_enter Try.func6, Try.ntmps6
  go_wp2_with fail
  refine (new_any w).mono ?_
  rintro e w1 ⟨rfl, hd1, ho1⟩
  go_wp2_with fail
  refine (new_any w1).mono ?_
  rintro e w2 ⟨rfl, hd2, ho2⟩
  have hlt := hd1.lt
  have htwo : Two w w.heap.size w1.heap.size empty empty w2 := ⟨hd1.new ho2.nil, hd2, below_next ho1.nil ho2.nil, Nat.le_refl _, Nat.le_of_lt hlt, by omega⟩
  clear hd1 hd2 ho1 ho2
  generalize w1.heap.size = d1 at htwo
  generalize hd0 : w.heap.size = d0 at htwo
  go_wp2_with fail
  go_loopw [26] (fun i wr => ∃ (k : Nat) (B : Lst), i = .int .i64 k ∧ k ≤ m ∧ Like B 0 ∧ Two w d0 d1 empty B wr) (fun i _ => m - (intOf i).toNat)
  case atStart => exact ⟨0, empty, rfl, by omega, .inl ⟨rfl, rfl⟩, htwo⟩
  case round =>
    obtain ⟨k, B, rfl, hk, hB, hat⟩ := hrel
    by_cases hlt : k < m
    · go_wp2_with fail
      refine (digit_any B (hB.ok (by omega) (by omega)) 0 d1 _ hat.b).mono ?_
      rintro e w3 ⟨⟨v3, rfl⟩, hd3, ho3⟩
      have hat3 := hat.turn1 hd3 ho3
      go_wp2_with fail
      go_roundw
      case rel => exact ⟨k + 1, _, by go_num, by omega, hB.nought, hat3⟩
      case measure => simp [intOf]; omega
    · have hB2 := hat.below
      go_wp2_with fail
      have hnk := hn
      clear hn
      go_loopw [7, 33] (fun v i wr => ∃ (k : Nat) (x : Int) (A B : Lst), i = .int .i64 k ∧ v = .int .i64 x ∧ k ≤ l.length ∧ 0 ≤ x ∧ x ≤ 65535 ∧ Like A x ∧ Like B x ∧ Two w d0 d1 A B wr) (fun _ i _ => l.length - (intOf i).toNat)
      case atStart => exact ⟨0, 0, empty, B, rfl, rfl, by omega, by omega, by omega, .inl ⟨rfl, rfl⟩, hB, hat⟩
      case round =>
        clear hat hB hB2
        obtain ⟨k, x, A, B, rfl, rfl, hk, hx0, hx1, hA, hB, hat⟩ := hrel
        by_cases hlt : k < l.length
        · obtain ⟨ad, rfl, _, hcell⟩ := (hnk.below hat.below (Nat.le_refl _)).at hlt
          obtain ⟨hd0, hd1⟩ := hb _ (List.getElem_mem hlt)
          generalize l[k] = d at hcell hd0 hd1
          clear hnk
          have hr0 : 0 ≤ d % 10 := by omega
          have hr1 : d % 10 ≤ 9 := by omega
          obtain ⟨hy0, hy1, hxy⟩ := cap_bounds hx0 hx1 hr0
          have e1 := Lib.hid (hA.digit hr0 hr1)
          have e2 := Lib.hid (hB.digit hr0 hr1)
          have hA' := hA.ok hx0 hx1
          have hB' := hB.ok hx0 hx1
          generalize capF (x * 10 + d % 10) = y at e1 e2 hy0 hy1 hxy
          go_wp2_with fail
          refine (digit_any A hA' (d % 10) d0 _ hat.a).mono ?_
          rintro e w3 ⟨⟨v3, rfl⟩, hd3, ho3⟩
          rw [e1.out] at hd3
          have hat3 := hat.turn0 hd3 ho3
          clear hat hd3 ho3 e1
          go_wp2_with fail
          refine (digit_any B hB' (d % 10) d1 _ hat3.b).mono ?_
          rintro e w4 ⟨⟨v4, rfl⟩, hd4, ho4⟩
          rw [e2.out] at hd4
          have hat4 := hat3.turn1 hd4 ho4
          clear hat3 hd4 ho4 e2
          go_wp2_with fail
          refine (at_says _ (by simp) d0 0 0 y (at_one y) w4 hat4.a).mono ?_
          rintro e w5 ⟨rfl, hb5⟩
          have hat5 := hat4.new hb5
          clear hat4 hb5
          go_wp2_with fail
          refine (at_says _ (by simp) d1 0 0 y (at_one y) w5 hat5.b).mono ?_
          rintro e w6 ⟨rfl, hb6⟩
          have hat6 := hat5.new hb6
          clear hat5 hb6
          go_wp2_with fail
          refine (len_says _ (by simp) d0 1 rfl w6 hat6.a).mono ?_
          rintro e w7 ⟨rfl, hb7⟩
          have hat7 := hat6.new hb7
          clear hat6 hb7
          go_wp2_with fail
          refine (len_says _ (by simp) d1 1 rfl w7 hat7.b).mono ?_
          rintro e w8 ⟨rfl, hb8⟩
          have hat8 := hat7.new hb8
          clear hat7 hb8
          go_wp2_with fail
          go_roundw
          case rel => exact ⟨k + 1, y, _, _, by go_num, rfl, by omega, hy0, hy1, .inr rfl, .inr rfl, hat8⟩
          case measure => simp [intOf]; omega
        · have hbel := hat.below
          clear hat hnk
          go_wp2_with ((go_at_call 7; refine (known_any _).mono ?_; rintro e w9 ⟨rfl, hb9⟩))
          go_ret
          exact ⟨rfl, below_next hbel hb9⟩

end Go.Proofs.Ytgpoboolonkmcaa.Par
