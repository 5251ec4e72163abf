/-
  The law SgrApplies.
-/
import Derived.Test.YtlpihhjdgipgnaaDoorSParts
import Derived.Test.YtlpihhjdgipgnaaDoorSRefA
namespace Go.Proofs.YtlpihhjdgipgnaaDoor.Sgr
open Go Go.RowKit Go.Proofs.YtlpihhjdgipgnaaDoor.Com

set_option maxHeartbeats 1000000 in
theorem same_yes (l : List Int) (ao bo : Option Addr) (c d : Nat) (w : World) (B : Nat) (hl : l.length ≤ 1048576) (h1 : Nums w B .i64 ao l) (h2 : Nums w B .i64 bo l) :
    Calls Tryd.prog 12 #[.slice ao l.length c, .slice bo l.length d] w fun e w' => e = .returned (.bool true) ∧ Below w.heap.size w w' := by
  go_enter Tryd.func12, Tryd.ntmps12
  go_wp2
  go_loopw [5] (fun i wr => ∃ k n : Nat, k ≤ l.length ∧ i = .int .i64 k ∧ wr = w.drewN n) (fun i _ => l.length - (intOf i).toNat)
  case atStart => exact ⟨0, 0, by omega, rfl, rfl⟩
  case round =>
    obtain ⟨k, n, hk, rfl, rfl⟩ := hrel
    by_cases hlt : k < l.length
    · obtain ⟨ad, rfl, _, hc1⟩ := h1.at hlt
      obtain ⟨bd, rfl, _, hc2⟩ := h2.at hlt
      clear h1 h2
      generalize l[k] = x at hc1 hc2
      go_wp2
      go_quiet (fail)
      go_wp2
      go_roundw
      case rel => exact ⟨k + 1, _, by omega, by go_num, rfl⟩
      case measure => simp [intOf]; omega
    · go_wp2
      go_ret
      exact ⟨rfl, below_dr (Below.refl _ _) _⟩

set_option maxRecDepth 100000 in
set_option maxHeartbeats 4000000 in
theorem lawApplies (a : At) (ha : a.Ok) (l : List Int) (hfl : Fits .i64 l) (ao : Option Addr) (c : Nat) (hc : l.length ≤ c) (hcm : c ≤ maxLen) (w : World) (T : Tab w) (hnl : Nums w w.heap.size .i64 ao l) :
    Calls Tryd.prog 3 #[.agg #[.int .u32 a.f, .int .u32 a.b, .int .u16 a.g], .slice ao l.length c] w fun e w' => e = .returned (.bool true) ∧ Below w.heap.size w w' := by
  obtain ⟨f, b, g⟩ := a
  have hks : KS w (w.alloc (.cells #[.int .u32 f, .int .u32 b, .int .u16 g] 25)) w.heap.size ⟨f, b, g⟩ := ⟨AIn.made w ⟨f, b, g⟩, T.below (below_new _ _), below_new _ _⟩
  have hkn := Lib.hid (known_any _ hks.tab)
  have hbel := Lib.hid hks.below
  have hl63 : l.length ≤ 9223372036854775807 := by simp only [maxLen] at hcm; omega
  by_cases h1 : 1000 < l.length
  · go_enter Tryd.func3, Tryd.ntmps3
    go_wp2_with (go_at_call 7; refine (hkn.out).mono ?_; rintro e w' ⟨rfl, hb1⟩)
    go_ret
    exact ⟨rfl, below_next hbel.out hb1⟩
  have hsmall : l.length ≤ 1000 := by omega
  have hnl1 := Lib.hid (hnl.below hks.below (Nat.le_refl _))
  clear hkn
  have hb0 := Lib.hid (below_new (w.alloc (.cells #[.int .u32 f, .int .u32 b, .int .u16 g] 25)) (.cells #[] 3))
  have hol := own_empty (w.alloc (.cells #[.int .u32 f, .int .u32 b, .int .u16 g] 25)) 3 .i64
  rw [World.size_alloc] at hol
  replace hol := Lib.hid hol
  have hn0 := Lib.hid (hnl1.out.below hb0.out (by simp))
  have hb0' := hb0.out
  rw [World.size_alloc] at hb0'
  replace hb0' := Lib.hid hb0'
  go_enter Tryd.func3, Tryd.ntmps3
  go_wp2_with (with_reducible show wpList _ _ _ (⟨some 12, .call _, _, _, _, _⟩ :: _) _ _; go_must (refine wpList_app elemI rfl (.tmp 10) (.tmp 11) rfl (w.heap.size + 1) (.slice (some ⟨w.heap.size + 1, 0, none⟩) 0 0) [] l ao w.heap.size c rfl rfl hol.out hn0.out ?_ ?_ ?_ ?_; (simp); (simp; omega); (simp [maxLen]; omega); intro v2 w2 hown2 ho2 hat2))
  simp only [List.nil_append] at hown2
  obtain ⟨a2, c2', rfl, g1, g2, hn2⟩ := hown2.shape
  have hb2 := below_app0 hb0'.out hol.out (by simp) ho2
  have hk2 : KS w w2 w.heap.size ⟨f, b, g⟩ := hks.new (by rw [World.size_alloc]; exact hb2)
  have hnl2 : Nums w2 w.heap.size .i64 ao l := hnl1.out.below hb2 (by omega)
  obtain ⟨d, hd⟩ : ∃ d, d = w.heap.size := ⟨_, rfl⟩
  rw [← hd] at hk2 hown2 ⊢
  clear hb2 hb0' hb0 hol hn0 hnl1 hbel hks hown2 ho2 hat2 T
  have hT2 := Lib.hid (fun w' (hb : Below w2.heap.size w2 w') => hk2.tab.below hb)
  have hn1 := Lib.hid (fun w' (hb : Below w2.heap.size w2 w') => (hn2.below hb (Nat.le_refl _)).more hb.size)
  have hn3 := Lib.hid (fun w' (hb : Below w2.heap.size w2 w') => ((hnl2.more hk2.below.size).below hb (Nat.le_refl _)).more hb.size)
  have hn4 := Lib.hid (fun w' (hb : Below w2.heap.size w2 w') => hn2.below hb (Nat.le_refl _))
  have hn5 := Lib.hid (fun w' (hb : Below w2.heap.size w2 w') => (hnl2.more hk2.below.size).below hb (Nat.le_refl _))
  have hS := Lib.hid (fun w' (hb : Below w2.heap.size w2 w') => (show w'.cell? ⟨d, 0, none⟩ = some (.int .u32 f) ∧ w'.cell? ⟨d, 1, none⟩ = some (.int .u32 b) ∧ w'.cell? ⟨d, 2, none⟩ = some (.int .u16 g) from ⟨(hk2.att.new hb).c0, (hk2.att.new hb).c1, (hk2.att.new hb).c2⟩))
  have hA1 := fun w' (hb : Below w2.heap.size w2 w') => apply_any ⟨f, b, g⟩ l hfl a2 c2' g1 g2 w' (hT2.out _ hb) (hn1.out _ hb)
  have hA2 := fun w' (hb : Below w2.heap.size w2 w') => refApply_any ⟨f, b, g⟩ ha l hfl ao c (by omega) w' (hn3.out _ hb)
  have hM1 := fun w' => may_any ⟨f, b, g⟩ w'
  have hM2 := fun w' => rmay_any ⟨f, b, g⟩ w'
  have hC := Lib.hid (fun w' (hb : Below w2.heap.size w2 w') => same_yes l a2 ao c2' c w' w2.heap.size (by omega) (hn4.out _ hb) (hn5.out _ hb))
  have hK := Lib.hid (fun w' (hb : Below w2.heap.size w2 w') => known_any w' (hT2.out _ hb))
  have hb51 : Below w2.heap.size w2 w2.drew := below_dr (Below.refl w2.heap.size w2) 1
  rcases applyF ⟨f, b, g⟩ l with ⟨xf, xb, xg⟩
  simp only at hA1 hA2 hM1 hM2
  replace hA1 := Lib.hid hA1
  replace hA2 := Lib.hid hA2
  generalize mayF ⟨f, b, g⟩ = q at hM1 hM2
  replace hM1 := Lib.hid hM1
  replace hM2 := Lib.hid hM2
  have hw0 := Lib.hid hk2.below
  clear hT2 hn1 hn2 hn3 hn4 hn5 hnl2 hk2 hnl hd
  go_region_held3 (fun w' => w'.cell? ⟨d, 0, none⟩ = some (.int .u32 f) ∧ w'.cell? ⟨d, 1, none⟩ = some (.int .u32 b) ∧ w'.cell? ⟨d, 2, none⟩ = some (.int .u16 g))
    (first | exact hS.out _ (by assumption) | go_keep)
    (first
      | (go_at_call 8; with_reducible refine (hA1.out _ (by assumption)).mono ?_; rintro e1 w6 ⟨rfl, hb6'⟩; have hb6 : Below w2.heap.size w2 w6 := below_next (by assumption) hb6')
      | (go_at_call 9; with_reducible refine (hA2.out _ (by assumption)).mono ?_; rintro e1 w7 ⟨rfl, hb7'⟩; have hb7 : Below w2.heap.size w2 w7 := below_next (by assumption) hb7')
      | (go_at_call 10; with_reducible refine (hM1.out _).mono ?_; rintro e1 w8 ⟨rfl, hb8'⟩; have hb8 : Below w2.heap.size w2 w8 := below_next (by assumption) hb8')
      | (go_at_call 11; with_reducible refine (hM2.out _).mono ?_; rintro e1 w9 ⟨rfl, hb9'⟩; have hb9 : Below w2.heap.size w2 w9 := below_next (by assumption) hb9')
      | (go_at_call 12; with_reducible refine (hC.out _ (by assumption)).mono ?_; rintro e1 w10 ⟨rfl, hb10'⟩; have hb10 : Below w2.heap.size w2 w10 := below_next (by assumption) hb10')
      | (go_at_call 7; with_reducible refine (hK.out _ (by assumption)).mono ?_; rintro e1 w11 ⟨rfl, hb11'⟩; have hb11 : Below w2.heap.size w2 w11 := below_next (by assumption) hb11'))
  go_wp2
  go_ret
  exact ⟨rfl, below_next hw0.out hb11⟩

end Go.Proofs.YtlpihhjdgipgnaaDoor.Sgr
