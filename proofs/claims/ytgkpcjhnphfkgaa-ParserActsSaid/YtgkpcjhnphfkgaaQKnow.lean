/-
  The law's own known answers.
-/
import Derived.Test.YtgkpcjhnphfkgaaQTold
namespace Go.Proofs.Ytgkpcjhnphfkgaa.Prs
open Go Go.RowKit Go.Proofs.Ytgkpcjhnphfkgaa.Com Go.Proofs.Ytgkpcjhnphfkgaa.Par

def s1 : ByteArray := { data := #[27, 91, 63, 49, 59, 50, 53, 104] }
def s2 : ByteArray := { data := #[27, 40, 48] }
def s3 : ByteArray := { data := #[27, 91, 49, 58, 50, 109, 120] }
def s4 : ByteArray := { data := #[27, 93, 48, 59, 97, 7] }
theorem k1 : actsF start (chars s1) = [⟨4, 0, 63, [1, 25], [], 104, []⟩] := by kernel_rfl
theorem k2 : actsF start (chars s2) = [⟨3, 0, 0, [], [40], 48, []⟩] := by kernel_rfl
theorem k3 : actsF start (chars s3) = [⟨1, 120, 0, [], [], 0, []⟩] := by kernel_rfl
theorem k4 : actsF start (chars s4) = [⟨5, 0, 0, [], [], 0, [48, 59, 97]⟩] := by kernel_rfl
theorem small_of (s : ByteArray) (h : ∀ c ∈ s.data.toList, c.toNat < 128) : ∀ k (hk : k < s.size), (s[k]'hk).toNat < 128 := fun k hk => h _ (by
  show s.data[k]'hk ∈ s.data.toList
  simp)
theorem b1 : ∀ k (h : k < s1.size), (s1[k]'h).toNat < 128 := small_of s1 (by decide)
theorem b2 : ∀ k (h : k < s2.size), (s2[k]'h).toNat < 128 := small_of s2 (by decide)
theorem b3 : ∀ k (h : k < s3.size), (s3[k]'h).toNat < 128 := small_of s3 (by decide)
theorem b4 : ∀ k (h : k < s4.size), (s4[k]'h).toNat < 128 := small_of s4 (by decide)

theorem told1 (w : World) : Calls Try.prog 13 #[.string { data := #[27, 91, 63, 49, 59, 50, 53, 104] }] w (Tells w [⟨4, 0, 63, [1, 25], [], 104, []⟩]) := by
  have := told_any s1 b1 (by decide) w
  rw [k1] at this
  exact this
theorem told2 (w : World) : Calls Try.prog 13 #[.string { data := #[27, 40, 48] }] w (Tells w [⟨3, 0, 0, [], [40], 48, []⟩]) := by
  have := told_any s2 b2 (by decide) w
  rw [k2] at this
  exact this
theorem told3 (w : World) : Calls Try.prog 13 #[.string { data := #[27, 91, 49, 58, 50, 109, 120] }] w (Tells w [⟨1, 120, 0, [], [], 0, []⟩]) := by
  have := told_any s3 b3 (by decide) w
  rw [k3] at this
  exact this
theorem told4 (w : World) : Calls Try.prog 13 #[.string { data := #[27, 93, 48, 59, 97, 7] }] w (Tells w [⟨5, 0, 0, [], [], 0, [48, 59, 97]⟩]) := by
  have := told_any s4 b4 (by decide) w
  rw [k4] at this
  exact this

/-- A literal of one act. -/
theorem lit_rd (w : World) (A : Act) (cs : List Value) (h : ActIs w (· < w.heap.size) A cs) : ActsRd (w.alloc (.cells cs.toArray 33)) (some ⟨w.heap.size, 0, none⟩) [A] :=
  (made_acts w w.heap.size (Nat.le_refl _) _ A cs h).rd.2
/-- What was told is held against a literal. -/
theorem same_lit (A : Act) (hA : A.Small) (cs : List Value) (ao : Option Addr) (c : Nat) (w w2 : World) (hb : Below w.heap.size w w2) (h : ActsRd w ao [A]) (h2 : ActIs w2 (· < w2.heap.size) A cs) :
    Calls Try.prog 10 #[.slice ao 1 c, .slice (some ⟨w2.heap.size, 0, none⟩) 1 1] (w2.alloc (.cells cs.toArray 33)) fun e w' => e = .returned (.bool true) ∧ Below w.heap.size w w' := by
  refine (same_yes [A] (fun B hB => by simp at hB; rw [hB]; exact hA) (by simp) ao (some ⟨w2.heap.size, 0, none⟩) c 1 _ ((h.below hb).below (below_new w2 _)) (lit_rd w2 A cs h2)).mono ?_
  rintro e w' ⟨rfl, hb'⟩
  exact ⟨rfl, below_next hb (below_next (below_new w2 _) hb')⟩
theorem numsP_lit (w : World) (e : TypeId) (k : IntKind) (l : List Int) : NumsP (w.alloc (.cells (l.map (Value.int k)).toArray e)) (· < (w.alloc (.cells (l.map (Value.int k)).toArray e)).heap.size) k (some ⟨w.heap.size, 0, none⟩) l := by
  have := Nums.lit w e k l
  intro i x hx
  obtain ⟨ad, e1, h1, h2⟩ := this i x hx
  exact ⟨ad, e1, by simpa using h1, h2⟩

set_option maxRecDepth 100000 in
set_option maxHeartbeats 4000000 in
theorem known_any (w : World) : Calls Try.prog 6 #[] w fun e w' => e = .returned (.bool true) ∧ Below w.heap.size w w' := by
  go_enter Try.func6, Try.ntmps6
  go_wp2_with fail
  refine (told1 w).mono ?_
  rintro e w1 ⟨a1, c1, rfl, hr1, hb1⟩
  go_wp2_with fail
  have h1 := same_lit ⟨4, 0, 63, [1, 25], [], 104, []⟩ ⟨by simp, by simp, by simp⟩ [.int .u8 4, .int .i32 0, .int .i32 63, .slice (some ⟨w1.heap.size, 0, none⟩) 2 2, .slice none 0 0, .int .i32 104, .slice none 0 0] a1 c1 w1 (w1.alloc (.cells #[.int .i64 1, .int .i64 25] 3)) (below_new _ _) hr1 ⟨_, 2, none, 0, none, 0, rfl, numsP_lit w1 3 .i64 [1, 25], NumsP.nil _ _ _ _, NumsP.nil _ _ _ _⟩
  simp only [World.size_alloc] at h1
  replace h1 := Lib.hid h1
  (with_reducible refine h1.out.mono ?_)
  rintro e w2 ⟨rfl, hb2⟩
  have o2 := Lib.hid (below_next hb1 hb2)
  clear h1 hr1 hb1 hb2
  go_wp2_with fail
  refine (told2 w2).mono ?_
  rintro e w3 ⟨a3, c3, rfl, hr3, hb3⟩
  go_wp2_with fail
  have h3 := same_lit ⟨3, 0, 0, [], [40], 48, []⟩ ⟨by simp, by simp, by simp⟩ [.int .u8 3, .int .i32 0, .int .i32 0, .slice none 0 0, .slice (some ⟨w3.heap.size, 0, none⟩) 1 1, .int .i32 48, .slice none 0 0] a3 c3 w3 (w3.alloc (.cells #[.int .i32 40] 21)) (below_new _ _) hr3 ⟨none, 0, _, 1, none, 0, rfl, NumsP.nil _ _ _ _, numsP_lit w3 21 .i32 [40], NumsP.nil _ _ _ _⟩
  simp only [World.size_alloc] at h3
  replace h3 := Lib.hid h3
  (with_reducible refine h3.out.mono ?_)
  rintro e w4 ⟨rfl, hb4⟩
  have o4 := Lib.hid (below_next o2.out (below_next hb3 hb4))
  clear h3 hr3 hb3 hb4 o2
  go_wp2_with fail
  refine (told3 w4).mono ?_
  rintro e w5 ⟨a5, c5, rfl, hr5, hb5⟩
  go_wp2_with fail
  have h5 := same_lit ⟨1, 120, 0, [], [], 0, []⟩ ⟨by simp, by simp, by simp⟩ [.int .u8 1, .int .i32 120, .int .i32 0, .slice none 0 0, .slice none 0 0, .int .i32 0, .slice none 0 0] a5 c5 w5 w5 (Below.refl _ _) hr5 (act_bare w5 _ 1 120 0 0)
  replace h5 := Lib.hid h5
  (with_reducible refine h5.out.mono ?_)
  rintro e w6 ⟨rfl, hb6⟩
  have o6 := Lib.hid (below_next o4.out (below_next hb5 hb6))
  clear h5 hr5 hb5 hb6 o4
  go_wp2_with fail
  refine (told4 w6).mono ?_
  rintro e w7 ⟨a7, c7, rfl, hr7, hb7⟩
  go_wp2_with fail
  have h7 := same_lit ⟨5, 0, 0, [], [], 0, [48, 59, 97]⟩ ⟨by simp, by simp, by simp⟩ [.int .u8 5, .int .i32 0, .int .i32 0, .slice none 0 0, .slice none 0 0, .int .i32 0, .slice (some ⟨w7.heap.size, 0, none⟩) 3 3] a7 c7 w7 (w7.alloc (.cells #[.int .i32 48, .int .i32 59, .int .i32 97] 21)) (below_new _ _) hr7 ⟨none, 0, none, 0, _, 3, rfl, NumsP.nil _ _ _ _, NumsP.nil _ _ _ _, numsP_lit w7 21 .i32 [48, 59, 97]⟩
  simp only [World.size_alloc] at h7
  replace h7 := Lib.hid h7
  (with_reducible refine h7.out.mono ?_)
  rintro e w8 ⟨rfl, hb8⟩
  have o8 := Lib.hid (below_next o6.out (below_next hb7 hb8))
  clear h7 hr7 hb7 hb8 o6
  go_wp2_with fail
  go_ret
  exact ⟨rfl, o8.out⟩

end Go.Proofs.Ytgkpcjhnphfkgaa.Prs
