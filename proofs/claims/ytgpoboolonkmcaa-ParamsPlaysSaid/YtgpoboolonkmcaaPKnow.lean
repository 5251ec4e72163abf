/-
  The law's own known answers.
-/
import Derived.Test.YtgpoboolonkmcaaPRef2
namespace Go.Proofs.Ytgpoboolonkmcaa.Par
open Go Go.RowKit Go.Proofs.Ytgpoboolonkmcaa.Com

theorem below_new (w : World) (o : Obj) : Below w.heap.size w (w.alloc o) := (Below.refl _ _).alloc (Nat.le_refl _) o
theorem below_next {a b c : World} (h : Below a.heap.size a b) (g : Below b.heap.size b c) : Below a.heap.size a c := h.trans (g.mono h.size)
theorem below_on {a b c : World} {d : Nat} (h : Below a.heap.size a b) (g : Only [d] b c) (hd : a.heap.size ≤ d) : Below a.heap.size a c := h.trans (g.below h.size (by simpa using hd))
theorem below_dr {a b : World} (h : Below a.heap.size a b) (n : Nat) : Below a.heap.size a (b.drewN n) := below_drewN h n
theorem ListIn.new {w w' : World} {d : Nat} {S : Lst} (h : ListIn w d S) (hb : Below w.heap.size w w') : ListIn w' d S := h.only (Only.of_below hb []) (by simp)
theorem own_nums {w : World} {B : Nat} {e : TypeId} {k : IntKind} {ao : Option Addr} {n c : Nat} {l : List Int} (h : Own w B e k (.slice ao n c) l) : Nums w w.heap.size k ao l := by
  obtain ⟨a', c', e', _, _, hn⟩ := h.shape
  cases e'
  exact hn

/-- Numbers are held against a literal. -/
theorem same_lit (L : List Int) (hl : L.length ≤ 1048576) (ao : Option Addr) (c : Nat) (w : World) (hn : Nums w w.heap.size .i64 ao L) :
    Calls Try.prog 16 #[.slice ao L.length c, .slice (some ⟨w.heap.size, 0, none⟩) L.length L.length] (w.alloc (.cells (L.map (Value.int .i64)).toArray 3)) fun e w' => e = .returned (.bool true) ∧ Below w.heap.size w w' := by
  refine (same_yes L ao (some ⟨w.heap.size, 0, none⟩) c L.length _ (w.heap.size + 1) hl ((hn.alloc (Nat.le_refl _) _).more (by omega)) (Nums.lit w _ _ L)).mono ?_
  rintro e w' ⟨rfl, n, rfl⟩
  exact ⟨rfl, below_dr (below_new _ _) n⟩

theorem at_says (L : Lst) (hL : L.n.length ≤ 32) (d : Nat) (i none r : Int) (hr : atF L.n i none = r) (w : World) (hd : ListIn w d L) :
    Calls Try.prog 18 #[.pointer (some ⟨d, 0, .none⟩), .int .i64 i, .int .i64 none] w fun e w' => e = .returned (.int .i64 r) ∧ Below w.heap.size w w' := by
  subst hr
  refine (at_any L hL d i none w hd).mono ?_
  rintro e w' ⟨rfl, n, rfl⟩
  exact ⟨rfl, below_dr (Below.refl _ _) n⟩
theorem len_says (L : Lst) (hL : L.n.length ≤ 32) (d : Nat) (r : Int) (hr : (L.n.length : Int) = r) (w : World) (hd : ListIn w d L) :
    Calls Try.prog 17 #[.pointer (some ⟨d, 0, none⟩)] w fun e w' => e = .returned (.int .i64 r) ∧ Below w.heap.size w w' := by
  subst hr
  refine (len_any L hL d w hd).mono ?_
  rintro e w' ⟨rfl, n, rfl⟩
  exact ⟨rfl, below_dr (Below.refl _ _) n⟩

theorem k1 : digitF empty 3 = ⟨[3], false⟩ := rfl
theorem k2 : digitF ⟨[3], false⟩ 8 = ⟨[38], false⟩ := rfl
theorem k3 : nextF ⟨[38], false⟩ = ⟨[38, 0], false⟩ := rfl
theorem k4 : digitF ⟨[38, 0], false⟩ 5 = ⟨[38, 5], false⟩ := rfl
theorem k5 : nextF empty = ⟨[0, 0], false⟩ := rfl
theorem lst_ok {n : List Int} {b : Bool} (h : n.length ≤ 32) (h2 : ∀ x ∈ n, 0 ≤ x ∧ x ≤ 65535) : Lst.Ok ⟨n, b⟩ := ⟨h, fun x hx => (h2 x hx).1, fun x hx => (h2 x hx).2⟩

set_option maxHeartbeats 2000000 in
theorem known_any (w : World) : Calls Try.prog 7 #[] w fun e w' => e = .returned (.bool true) ∧ Below w.heap.size w w' := by
  go_enter Try.func7, Try.ntmps7
  go_wp2_with fail
  refine (new_any w).mono ?_
  rintro e w1 ⟨rfl, hd1, ho1⟩
  have hb1 := ho1.nil
  go_wp2_with fail
  refine (digit_any empty empty_ok 3 w.heap.size w1 hd1).mono ?_
  rintro e w2 ⟨⟨v2, rfl⟩, hd2, ho2⟩
  rw [k1] at hd2
  have hb2 := below_on hb1 ho2 (Nat.le_refl _)
  go_wp2_with fail
  refine (digit_any _ (lst_ok (by simp) (by simp)) 8 w.heap.size w2 hd2).mono ?_
  rintro e w3 ⟨⟨v3, rfl⟩, hd3, ho3⟩
  rw [k2] at hd3
  have hb3 := below_on hb2 ho3 (Nat.le_refl _)
  go_wp2_with fail
  refine (next_any _ (by simp) w.heap.size w3 hd3).mono ?_
  rintro e w4 ⟨⟨v4, rfl⟩, hd4, ho4⟩
  rw [k3] at hd4
  have hb4 := below_on hb3 ho4 (Nat.le_refl _)
  go_wp2_with fail
  refine (digit_any _ (lst_ok (by simp) (by simp)) 5 w.heap.size w4 hd4).mono ?_
  rintro e w5 ⟨⟨v5, rfl⟩, hd5, ho5⟩
  rw [k4] at hd5
  have hb5 := below_on hb4 ho5 (Nat.le_refl _)
  have hlt := hd5.lt
  clear hd1 ho1 hd2 ho2 hd3 ho3 hd4 ho4 ho5 hb1 hb2 hb3 hb4
  go_wp2_with fail
  refine (next_any empty (by simp [empty]) w5.heap.size _ (Block.made _ _ _)).mono ?_
  rintro e w6 ⟨⟨v6, rfl⟩, hz6, ho6⟩
  rw [k5] at hz6
  have hd6 := (hd5.new (below_new _ _)).only ho6 (by simp; omega)
  have hb6 := below_on (below_next hb5 (below_new _ _)) ho6 hb5.size
  clear hd5 ho6 hb5
  go_wp2_with fail
  refine (values_any _ (by simp) w.heap.size w6 hd6).mono ?_
  rintro e w7 ⟨v7, rfl, hown7, hb7⟩
  obtain ⟨a7, c7, rfl, _, _, hn7⟩ := hown7.shape
  have hB7 := below_next hb6 hb7
  have hd7 := hd6.new hb7
  have hz7 := hz6.new hb7
  clear hd6 hz6 hown7
  go_wp2_with fail
  refine (same_lit [38, 5] (by simp) a7 c7 w7 hn7).mono ?_
  rintro e w8 ⟨rfl, hb8⟩
  have hB8 := below_next hB7 hb8
  have hd8 := hd7.new hb8
  have hz8 := hz7.new hb8
  clear hd7 hz7 hn7
  go_wp2_with fail
  refine (at_says _ (by simp) w.heap.size 1 7 5 rfl w8 hd8).mono ?_
  rintro e w9 ⟨rfl, hb9⟩
  have hB9 := below_next hB8 hb9
  have hd9 := hd8.new hb9
  have hz9 := hz8.new hb9
  clear hd8 hz8
  go_wp2_with fail
  refine (at_says _ (by simp) w.heap.size 2 7 7 rfl w9 hd9).mono ?_
  rintro e w10 ⟨rfl, hb10⟩
  have hB10 := below_next hB9 hb10
  have hz10 := hz9.new hb10
  clear hd9 hz9
  go_wp2_with fail
  refine (values_any _ (by simp) w5.heap.size w10 hz10).mono ?_
  rintro e w11 ⟨v11, rfl, hown11, hb11⟩
  obtain ⟨a11, c11, rfl, _, _, hn11⟩ := hown11.shape
  have hB11 := below_next hB10 hb11
  have hz11 := hz10.new hb11
  clear hz10 hown11
  go_wp2_with fail
  refine (same_lit [0, 0] (by simp) a11 c11 w11 hn11).mono ?_
  rintro e w12 ⟨rfl, hb12⟩
  have hB12 := below_next hB11 hb12
  have hz12 := hz11.new hb12
  clear hz11 hn11
  go_wp2_with fail
  refine (at_says _ (by simp) w5.heap.size 0 1 1 rfl w12 hz12).mono ?_
  rintro e w13 ⟨rfl, hb13⟩
  go_wp2_with fail
  go_ret
  exact ⟨rfl, below_next hB12 hb13⟩

end Go.Proofs.Ytgpoboolonkmcaa.Par
