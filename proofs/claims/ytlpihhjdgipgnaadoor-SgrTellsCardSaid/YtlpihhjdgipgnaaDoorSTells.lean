/-
  The law SgrTells.
-/
import Derived.Test.YtlpihhjdgipgnaaDoorSNum3
namespace Go.Proofs.YtlpihhjdgipgnaaDoor.Sgr
open Go Go.RowKit Go.Proofs.YtlpihhjdgipgnaaDoor.Com

theorem numbers_len (a : At) : (numbersF a).length ≤ 19 := by
  have h1 := flags_len a.g 8
  have h2 := num_len 30 82 38 a.f
  have h3 := num_len 40 92 48 a.b
  unfold numbersF
  rw [List.length_append, List.length_append, List.length_cons]
  omega
theorem num_fits {u b fo c : Int} (hu : 0 ≤ u ∧ u ≤ 1000) (hb : 0 ≤ b ∧ b ≤ 1000) (hf : 0 ≤ fo ∧ fo ≤ 1000) (h0 : 0 ≤ c) (h1 : c ≤ 4294967295) : Fits .i64 (numF u b fo c) := by
  apply fits_of
  intro n hn
  unfold numF at hn
  (repeat' split at hn) <;> simp at hn <;> omega
theorem numbers_fits {a : At} (ha : a.Ok) : Fits .i64 (numbersF a) := by
  unfold numbersF
  intro n hn
  rcases List.mem_append.1 hn with hn | hn
  · rcases List.mem_append.1 hn with hn | hn
    · rcases List.mem_cons.1 hn with rfl | hn
      · decide
      · have := flags_mem a.g 8 (Nat.le_refl _) n hn
        exact fits_of (l := [n]) (by simp; omega) n (by simp)
    · exact num_fits (by omega) (by omega) (by omega) ha.f0 ha.f1 n hn
  · exact num_fits (by omega) (by omega) (by omega) ha.b0 ha.b1 n hn

set_option maxRecDepth 100000 in
set_option maxHeartbeats 4000000 in
theorem lawTells (a : At) (ha : a.Ok) (b : At) (_hb : b.Ok) (w : World) (T : Tab w) :
    Calls Tryd.prog 4 #[.agg #[.int .u32 a.f, .int .u32 a.b, .int .u16 a.g], .agg #[.int .u32 b.f, .int .u32 b.b, .int .u16 b.g]] w fun e w' => e = .returned (.bool true) ∧ Below w.heap.size w w' := by
  have hA0 := (AIn.made w a).new (below_new _ (.cells #[.int .u32 b.f, .int .u32 b.b, .int .u16 b.g] 25))
  have hB0 := AIn.made (w.alloc (.cells #[.int .u32 a.f, .int .u32 a.b, .int .u16 a.g] 25)) b
  rw [World.size_alloc] at hB0
  have hbel := Lib.hid (below_next (below_new w (.cells #[.int .u32 a.f, .int .u32 a.b, .int .u16 a.g] 25)) (below_new _ (.cells #[.int .u32 b.f, .int .u32 b.b, .int .u16 b.g] 25)))
  have hT := Lib.hid (fun w' (hb : Below w.heap.size w w') => T.below hb)
  have hK := Lib.hid (fun w' (hb : Below w.heap.size w w') => known_any w' (T.below hb))
  replace hA0 := Lib.hid hA0
  replace hB0 := Lib.hid hB0
  rcases h5 : mayF a with _ | _
  · have hN := Lib.hid (fun w' => numbers_no a h5 w')
    have hM := fun w' => rmay_any a w'
    rw [h5] at hM
    replace hM := Lib.hid hM
    obtain ⟨f, b1, g⟩ := a
    obtain ⟨bf, bb, bg⟩ := b
    simp only at hN hM
    go_enter Tryd.func4, Tryd.ntmps4
    go_wp2_with fail
    refine (hN.out _).mono ?_
    rintro e w2 ⟨rfl, hb2⟩
    have hA2 := hA0.out.new hb2
    have m0 := hA2.c0
    have m1 := hA2.c1
    have m2 := hA2.c2
    simp only at m0 m1 m2
    have hbw2 := Lib.hid (below_next hbel.out hb2)
    go_wp2_with fail
    refine (hM.out _).mono ?_
    rintro e w3 ⟨rfl, hb3⟩
    have hbw3 := Lib.hid (below_next hbw2.out hb3)
    go_wp2_with (go_at_call 7; refine (hK.out _ hbw3.out).mono ?_; rintro e w4 ⟨rfl, hb4⟩)
    go_ret
    exact ⟨rfl, below_next hbw3.out hb4⟩
  · have hN := Lib.hid (fun w' T' => numbers_any a h5 ha w' T')
    have hM := fun w' => rmay_any a w'
    rw [h5] at hM
    replace hM := Lib.hid hM
    have hR := Lib.hid (fun w' => rnumbers_any a h5 ha w')
    have hback := tells_back (may_p ha h5) b
    have hlen := numbers_len a
    have hfits := numbers_fits ha
    obtain ⟨f, b1, g⟩ := a
    obtain ⟨bf, bb, bg⟩ := b
    simp only at hN hM hR
    generalize numbersF ⟨f, b1, g⟩ = L at hN hR hback hlen hfits
    have hAp := Lib.hid (fun w' ao c (h1 : L.length ≤ c) (h2 : c ≤ maxLen) (T' : Tab w') (hn : Nums w' w'.heap.size .i64 ao L) => apply_any ⟨bf, bb, bg⟩ L hfits ao c h1 h2 w' T' hn)
    rw [hback] at hAp
    simp only at hAp
    go_enter Tryd.func4, Tryd.ntmps4
    go_wp2_with fail
    refine (hN.out _ (hT.out _ hbel.out)).mono ?_
    rintro e w2 ⟨v2, rfl, hown2, hb2⟩
    obtain ⟨a2, c2, rfl, g1, g2, hn2⟩ := hown2.shape
    have hA2 := hA0.out.new hb2
    have hB2 := Lib.hid (hB0.out.new hb2)
    have m0 := hA2.c0
    have m1 := hA2.c1
    have m2 := hA2.c2
    simp only at m0 m1 m2
    replace hA2 := Lib.hid hA2
    have hbw2 := Lib.hid (below_next hbel.out hb2)
    clear hbel hA0 hB0
    go_wp2_with fail
    refine (hM.out _).mono ?_
    rintro e w3 ⟨rfl, hb3⟩
    have hbw3 := Lib.hid (below_next hbw2.out hb3)
    have hn3 := Lib.hid (fun w' (hb : Below w3.heap.size w3 w') => (hn2.below (below_next hb3 hb) (Nat.le_refl _)).more (below_next hb3 hb).size)
    have hT3 := Lib.hid (fun w' (hb : Below w3.heap.size w3 w') => hT.out _ (below_next hbw3.out hb))
    have hK3 := Lib.hid (fun w' (hb : Below w3.heap.size w3 w') => hK.out _ (below_next hbw3.out hb))
    have hA3 := Lib.hid (fun w' (hb : Below w3.heap.size w3 w') => hAp.out w' a2 c2 g1 g2 (hT3.out _ hb) (hn3.out _ hb))
    obtain ⟨da, hda⟩ : ∃ d, d = w.heap.size := ⟨_, rfl⟩
    obtain ⟨db, hdb⟩ : ∃ d, d = w.heap.size + 1 := ⟨_, rfl⟩
    have hS := Lib.hid (fun w' (hb : Below w3.heap.size w3 w') => (show w'.cell? ⟨da, 0, none⟩ = some (.int .u32 f) ∧ w'.cell? ⟨da, 1, none⟩ = some (.int .u32 b1) ∧ w'.cell? ⟨da, 2, none⟩ = some (.int .u16 g) ∧ w'.cell? ⟨db, 0, none⟩ = some (.int .u32 bf) ∧ w'.cell? ⟨db, 1, none⟩ = some (.int .u32 bb) ∧ w'.cell? ⟨db, 2, none⟩ = some (.int .u16 bg) by
      subst hda
      subst hdb
      exact ⟨((hA2.out.new hb3).new hb).c0, ((hA2.out.new hb3).new hb).c1, ((hA2.out.new hb3).new hb).c2, ((hB2.out.new hb3).new hb).c0, ((hB2.out.new hb3).new hb).c1, ((hB2.out.new hb3).new hb).c2⟩))
    have hb51 : Below w3.heap.size w3 w3.drew := below_dr (Below.refl _ _) 1
    clear hA2 hB2 hK hT hAp hback hfits m0 m1 m2 hown2 hn2
    go_wp2_with fail
    rw [← hdb, ← hda]
    clear hda hdb
    go_region_held3 (fun w' => w'.cell? ⟨da, 0, none⟩ = some (.int .u32 f) ∧ w'.cell? ⟨da, 1, none⟩ = some (.int .u32 b1) ∧ w'.cell? ⟨da, 2, none⟩ = some (.int .u16 g) ∧ w'.cell? ⟨db, 0, none⟩ = some (.int .u32 bf) ∧ w'.cell? ⟨db, 1, none⟩ = some (.int .u32 bb) ∧ w'.cell? ⟨db, 2, none⟩ = some (.int .u16 bg))
      (first | exact hS.out _ (by assumption) | go_keep)
      (first
        | (go_at_call 14; refine (hR.out _).mono ?_; rintro e1 w6 ⟨v6, rfl, hown6, hb6'⟩; have hb6 : Below w3.heap.size w3 w6 := below_next (by assumption) hb6'; obtain ⟨a6, c6, rfl, _, _, hn6⟩ := hown6.shape)
        | (go_at_call 12; refine (same_yes L a2 a6 c2 c6 _ w6.heap.size (by omega) (hn3.out _ hb6) hn6).mono ?_; rintro e1 w7 ⟨rfl, hb7'⟩; have hb7 : Below w3.heap.size w3 w7 := below_next hb6 hb7')
        | (go_at_call 8; refine (hA3.out _ (by assumption)).mono ?_; rintro e1 w8 ⟨rfl, hb8'⟩; have hb8 : Below w3.heap.size w3 w8 := below_next (by assumption) hb8')
        | (go_at_call 7; refine (hK3.out _ (by assumption)).mono ?_; rintro e1 w9 ⟨rfl, hb9'⟩; have hb9 : Below w3.heap.size w3 w9 := below_next (by assumption) hb9'))
    go_wp2
    go_ret
    exact ⟨rfl, below_next hbw3.out hb9⟩

end Go.Proofs.YtlpihhjdgipgnaaDoor.Sgr
