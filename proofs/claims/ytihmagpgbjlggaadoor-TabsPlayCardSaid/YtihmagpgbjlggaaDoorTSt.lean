/-
  tabs: one call done to tabs, whatever its arguments are: what is known behind it.
-/
import Derived.Test.YtihmagpgbjlggaaDoorTRes
namespace Go.Proofs.YtihmagpgbjlggaaDoor.Tbs
open Go Go.RowKit Go.Proofs.YtihmagpgbjlggaaDoor.Com

/-- The tabs in the block d; w0 the world that the law began in. -/
structure TSt (w0 w : World) (d n : Nat) (f : Nat → Bool) : Prop where
  tabs : TabsIn w d n f
  tab : Tab w
  below : Below w0.heap.size w0 w
  low : w0.heap.size ≤ d
  lo : 1 ≤ n
  hi : n ≤ 512
theorem TSt.next {w0 w w' : World} {d n : Nat} {f : Nat → Bool} (h : TSt w0 w d n f) (hb : Below w.heap.size w w') : TSt w0 w' d n f :=
  ⟨h.tabs.below hb, h.tab.below hb, below_next h.below hb, h.low, h.lo, h.hi⟩
theorem Tab.only {w w' : World} {w0 : World} {d : Nat} (h0 : Tab w0) (ho : Only [d] w w') (hb : Below w0.heap.size w0 w) (hd : w0.heap.size ≤ d) : Tab w' := h0.below (below_on hb ho hd)
theorem TSt.turned {w0 w w' : World} {d n m : Nat} {f g : Nat → Bool} (h : TSt w0 w d n f) (T : Tab w0) (ht : TabsIn w' d m g) (ho : Only [d] w w') (h1 : 1 ≤ m) (h2 : m ≤ 512) : TSt w0 w' d m g :=
  ⟨ht, T.only ho h.below h.low, below_on h.below ho h.low, h.low, h1, h2⟩
theorem TSt.drewN {w0 w : World} {d n : Nat} {f : Nat → Bool} (h : TSt w0 w d n f) (k : Nat) : TSt w0 (w.drewN k) d n f := h.next (below_dr (Below.refl _ _) k)

/-- A number is told; what is known stays. -/
def Told (w0 : World) (d n : Nat) (f : Nat → Bool) (x : Int) (e : Ending) (w' : World) : Prop := e = .returned (.int .i64 x) ∧ TSt w0 w' d n f
theorem new_st (w0 : World) (T : Tab w0) (n : Nat) (h0 : 1 ≤ n) (h1 : n ≤ 512) : Calls Tryd.prog 6 #[.int .i64 n] w0 fun e w' => ∃ d, e = .returned (.tuple #[.pointer (some ⟨d, 0, none⟩), .int .i64 0]) ∧ TSt w0 w' d n (freshF 0 n) :=
  (new_ok n h0 h1 w0).mono fun _ _ ⟨d, he, ht, hb, hd⟩ => ⟨d, he, ht, T.below hb, hb, hd, h0, h1⟩
theorem next_st {w0 w : World} {d n : Nat} {f : Nat → Bool} (h : TSt w0 w d n f) (c k : Int) : Calls Tryd.prog 22 #[.pointer (some ⟨d, 0, none⟩), .int .i64 c, .int .i64 k] w (Told w0 d n f (nextF n f c k)) :=
  (next_any h.tabs h.lo h.hi c k h.tab).mono fun _ _ ⟨he, hb⟩ => ⟨he, h.next hb⟩
theorem prev_st {w0 w : World} {d n : Nat} {f : Nat → Bool} (h : TSt w0 w d n f) (c k : Int) : Calls Tryd.prog 24 #[.pointer (some ⟨d, 0, none⟩), .int .i64 c, .int .i64 k] w (Told w0 d n f (prevF n f c k)) :=
  (prev_any h.tabs h.lo h.hi c k h.tab).mono fun _ _ ⟨he, hb⟩ => ⟨he, h.next hb⟩
/-- Whether there is such a column. -/
def inC (n : Nat) (c : Int) : Prop := 0 ≤ c ∧ c < n
instance (n : Nat) (c : Int) : Decidable (inC n c) := inferInstanceAs (Decidable (_ ∧ _))
def putE (n : Nat) (c : Int) : Int := if inC n c then 0 else 2
def putG (n : Nat) (f : Nat → Bool) (c : Int) (b : Bool) : Nat → Bool := if inC n c then putF f c.toNat b else f
theorem set_st {w0 w : World} {d n : Nat} {f : Nat → Bool} (h : TSt w0 w d n f) (T : Tab w0) (c : Int) : Calls Tryd.prog 10 #[.pointer (some ⟨d, 0, none⟩), .int .i64 c] w (Told w0 d n (putG n f c true) (putE n c)) := by
  unfold putG putE
  by_cases hc : inC n c
  · rw [if_pos hc, if_pos hc]
    obtain ⟨k, rfl⟩ : ∃ k : Nat, c = k := ⟨c.toNat, by have := hc.1; omega⟩
    have := hc.2
    exact (set_ok h.tabs h.hi k (by omega)).mono fun _ _ ⟨he, ht, ho⟩ => ⟨he, h.turned T ht ho h.lo h.hi⟩
  · rw [if_neg hc, if_neg hc]
    exact (set_bad h.lo h.tabs c (by unfold inC at hc; omega)).mono fun _ _ ⟨he, hw⟩ => ⟨he, by subst hw; exact h⟩
theorem clr_st {w0 w : World} {d n : Nat} {f : Nat → Bool} (h : TSt w0 w d n f) (T : Tab w0) (c : Int) : Calls Tryd.prog 12 #[.pointer (some ⟨d, 0, none⟩), .int .i64 c] w (Told w0 d n (putG n f c false) (putE n c)) := by
  unfold putG putE
  by_cases hc : inC n c
  · rw [if_pos hc, if_pos hc]
    obtain ⟨k, rfl⟩ : ∃ k : Nat, c = k := ⟨c.toNat, by have := hc.1; omega⟩
    have := hc.2
    exact (clr_ok h.tabs h.hi k (by omega)).mono fun _ _ ⟨he, ht, ho⟩ => ⟨he, h.turned T ht ho h.lo h.hi⟩
  · rw [if_neg hc, if_neg hc]
    exact (clr_bad h.lo h.tabs c (by unfold inC at hc; omega)).mono fun _ _ ⟨he, hw⟩ => ⟨he, by subst hw; exact h⟩
theorem clearAll_st {w0 w : World} {d n : Nat} {f : Nat → Bool} (h : TSt w0 w d n f) (T : Tab w0) : Calls Tryd.prog 13 #[.pointer (some ⟨d, 0, none⟩)] w (Told w0 d n (fun _ => false) 0) :=
  (clearAll_any h.tabs h.lo).mono fun _ _ ⟨he, ht, ho⟩ => ⟨he, h.turned T ht ho h.lo h.hi⟩

/-! The known answers. -/
theorem kn1 : nextF 20 (freshF 0 (20 : Nat)) 0 1 = 8 := by decide +kernel
theorem kn2 : nextF 20 (freshF 0 (20 : Nat)) 16 1 = 19 := by decide +kernel
theorem kn3 : prevF 20 (freshF 0 (20 : Nat)) 17 2 = 8 := by decide +kernel
theorem kn4 : prevF 20 (freshF 0 (20 : Nat)) 8 1 = 0 := by decide +kernel
theorem kn5 : nextF 20 (putG 20 (fun _ => false) 3 true) 0 1 = 3 := by decide +kernel
theorem kn6 : nextF 20 (putG 20 (fun _ => false) 3 true) 3 1 = 19 := by decide +kernel
theorem kn7 : putE 20 3 = 0 := by decide
/-- True is told; nothing that was there is turned. -/
def Yes (w : World) (e : Ending) (w' : World) : Prop := e = .returned (.bool true) ∧ Below w.heap.size w w'
set_option maxRecDepth 100000 in
set_option maxHeartbeats 2000000 in
theorem known_any (w : World) (T : Tab w) : Calls Tryd.prog 8 #[] w (Yes w) := by
  have hN : Hid (Calls Tryd.prog 6 #[.int .i64 20] w fun e w' => ∃ d, e = .returned (.tuple #[.pointer (some ⟨d, 0, none⟩), .int .i64 0]) ∧ TSt w w' d 20 (freshF 0 (20 : Nat))) := Lib.hid (new_st w T 20 (by omega) (by omega))
  generalize hF : freshF 0 (20 : Nat) = F at hN
  have h1 := fun w' d (h : TSt w w' d 20 F) => next_st h 0 1
  have h2 := fun w' d (h : TSt w w' d 20 F) => next_st h 16 1
  have h3 := fun w' d (h : TSt w w' d 20 F) => prev_st h 17 2
  have h4 := fun w' d (h : TSt w w' d 20 F) => prev_st h 8 1
  have h5 := Lib.hid (fun w' d (h : TSt w w' d 20 F) => clearAll_st h T)
  have h6 := fun w' d (h : TSt w w' d 20 (fun _ => false)) => set_st h T 3
  generalize hG : putG 20 (fun _ => false) 3 true = G at h6
  have h7 := fun w' d (h : TSt w w' d 20 G) => next_st h 0 1
  have h8 := fun w' d (h : TSt w w' d 20 G) => next_st h 3 1
  rw [← hF] at h1 h2 h3 h4
  rw [← hG] at h7 h8
  rw [kn1] at h1
  rw [kn2] at h2
  rw [kn3] at h3
  rw [kn4] at h4
  rw [kn5] at h7
  rw [kn6] at h8
  rw [kn7] at h6
  rw [hF] at h1 h2 h3 h4
  rw [hG] at h7 h8
  clear hF hG
  replace h1 := Lib.hid h1
  replace h2 := Lib.hid h2
  replace h3 := Lib.hid h3
  replace h4 := Lib.hid h4
  replace h6 := Lib.hid h6
  replace h7 := Lib.hid h7
  replace h8 := Lib.hid h8
  go_enter Tryd.func8, Tryd.ntmps8
  go_wp2_with (first
    | (go_at_call 6; (with_reducible refine (hN.out).mono ?_); rintro e w1 ⟨d, rfl, hs⟩; replace hs := Lib.hid hs)
    | (go_at_call 22; (with_reducible refine (h1.out _ _ (Hid.out (by assumption))).mono ?_); rintro e w1 ⟨rfl, hs⟩; replace hs := Lib.hid hs)
    | (go_at_call 22; (with_reducible refine (h2.out _ _ (Hid.out (by assumption))).mono ?_); rintro e w1 ⟨rfl, hs⟩; replace hs := Lib.hid hs)
    | (go_at_call 24; (with_reducible refine (h3.out _ _ (Hid.out (by assumption))).mono ?_); rintro e w1 ⟨rfl, hs⟩; replace hs := Lib.hid hs)
    | (go_at_call 24; (with_reducible refine (h4.out _ _ (Hid.out (by assumption))).mono ?_); rintro e w1 ⟨rfl, hs⟩; replace hs := Lib.hid hs)
    | (go_at_call 13; (with_reducible refine (h5.out _ _ (Hid.out (by assumption))).mono ?_); rintro e w1 ⟨rfl, hs⟩; replace hs := Lib.hid hs)
    | (go_at_call 10; (with_reducible refine (h6.out _ _ (Hid.out (by assumption))).mono ?_); rintro e w1 ⟨rfl, hs⟩; replace hs := Lib.hid hs)
    | (go_at_call 22; (with_reducible refine (h7.out _ _ (Hid.out (by assumption))).mono ?_); rintro e w1 ⟨rfl, hs⟩; replace hs := Lib.hid hs)
    | (go_at_call 22; (with_reducible refine (h8.out _ _ (Hid.out (by assumption))).mono ?_); rintro e w1 ⟨rfl, hs⟩; replace hs := Lib.hid hs))
  go_ret
  exact ⟨rfl, hs.out.below⟩

end Go.Proofs.YtihmagpgbjlggaaDoor.Tbs
