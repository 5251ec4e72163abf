/-
  The law SgrParts: numbers applied in two parts are applied as one.
-/
import Derived.Test.YtlpihhjdgipgnaaDoorSKnow
import Derived.Test.YtlpihhjdgipgnaaDoorSPMath
import Derived.Test.YtlpihhjdgipgnaaDoorSRef
import Derived.Test.YtlpihhjdgipgnaaDoorMem2
namespace Go.Proofs.YtlpihhjdgipgnaaDoor.Sgr
open Go Go.RowKit Go.Proofs.YtlpihhjdgipgnaaDoor.Com

theorem elemI : Elem Tryd.prog 26 3 .i64 8 := by
  have h : (Tryd.prog.info? 3).map (fun i => (i.zero, i.size, i.bytes)) = some (some (.int .i64 0), 1, 8) := by kernel_rfl
  obtain ⟨i, h0, h1, h2, h3⟩ := info_parts h
  exact ⟨Tryd.underlying26, i, h0, h1, h2, h3⟩
theorem KS.fact {w0 w : World} {d : Nat} {f b g : Int} (h : KS w0 w d ⟨f, b, g⟩) : KS w0 w d ⟨f, b, g⟩ ∧ w.cell? ⟨d, 0, none⟩ = some (.int .u32 f) ∧ w.cell? ⟨d, 1, none⟩ = some (.int .u32 b) ∧ w.cell? ⟨d, 2, none⟩ = some (.int .u16 g) := h.cells
theorem own_empty (w : World) (e : TypeId) (k : IntKind) : Own (w.alloc (.cells #[] e)) w.heap.size e k (.slice (some ⟨w.heap.size, 0, none⟩) 0 0) [] := by
  simpa using Own.lit w w.heap.size e k [] (Nat.le_refl _) (by simp)
/-- Three stores that turn the whole block. -/
def turned (w : World) (e : Nat) (b : At) : World := ((w.setCell ⟨e, 0, none⟩ (.int .u32 b.f)).setCell ⟨e, 1, none⟩ (.int .u32 b.b)).setCell ⟨e, 2, none⟩ (.int .u16 b.g)
theorem turned_in {w : World} {e : Nat} {a : At} (h : AIn w e a) (b : At) : AIn (turned w e b) e b := by
  have := ((h.blk.set 0 (.int .u32 b.f)).set 1 (.int .u32 b.b)).set 2 (.int .u16 b.g)
  simpa [turned, AIn] using this
theorem turned_only (w : World) (e : Nat) (b : At) : Only [e] w (turned w e b) := ((Only.setCell w ⟨e, 0, none⟩ _).trans (Only.setCell _ ⟨e, 1, none⟩ _)).trans (Only.setCell _ ⟨e, 2, none⟩ _)
/-- The row of numbers does not lie in an attribute's block. -/
theorem att_apart {w : World} {B e : Nat} {v : Value} {L : List Int} {a : At} (h : Own w B 3 .i64 v L) (hz : AIn w e a) : e ∉ v.ownBlock.toList := fun hm => h.apart hz.blk (by decide) (by simpa using hm)
theorem bare_take {l : List Int} {k : Nat} (h : k < l.length) (hb : Bare (l.take k)) (h1 : l[k] ≠ 38) (h2 : l[k] ≠ 48) : Bare (l.take (k + 1)) := by
  rw [take_snoc h]
  intro n hn
  rcases List.mem_append.1 hn with hn | hn
  · exact hb n hn
  · simp at hn; subst hn; exact ⟨h1, h2⟩

set_option maxRecDepth 100000 in
set_option maxHeartbeats 4000000 in
theorem lawParts (a : At) (ha : a.Ok) (l : List Int) (hfl : Fits .i64 l) (ao : Option Addr) (c : Nat) (hc : l.length ≤ c) (hcm : c ≤ maxLen) (m : List Int) (hfm : Fits .i64 m) (bo : Option Addr) (c2 : Nat) (hc2 : m.length ≤ c2) (hcm2 : c2 ≤ maxLen)
    (w : World) (T : Tab w) (hnl : Nums w w.heap.size .i64 ao l) (hnm : Nums w w.heap.size .i64 bo m) :
    Calls Tryd.prog 5 #[.agg #[.int .u32 a.f, .int .u32 a.b, .int .u16 a.g], .slice ao l.length c, .slice bo m.length c2] w fun e w' => e = .returned (.bool true) ∧ Below w.heap.size w w' := by
  obtain ⟨f, b, g⟩ := a
  have hks : KS w (w.alloc (.cells #[.int .u32 f, .int .u32 b, .int .u16 g] 25)) w.heap.size ⟨f, b, g⟩ := ⟨AIn.made w ⟨f, b, g⟩, T.below (below_new _ _), below_new _ _⟩
  have hkn := Lib.hid (known_any _ hks.tab)
  have hbel := Lib.hid hks.below
  have hl63 : l.length ≤ 9223372036854775807 := by simp only [maxLen] at hcm; omega
  have hm63 : m.length ≤ 9223372036854775807 := by simp only [maxLen] at hcm2; omega
  by_cases h1 : 1000 < l.length
  · go_enter Tryd.func5, Tryd.ntmps5
    go_wp2_with (go_at_call 7; refine (hkn.out).mono ?_; rintro e w' ⟨rfl, hb1⟩)
    go_ret
    exact ⟨rfl, below_next hbel.out hb1⟩
  by_cases h2 : 1000 < m.length
  · go_enter Tryd.func5, Tryd.ntmps5
    go_wp2_with (go_at_call 7; refine (hkn.out).mono ?_; rintro e w' ⟨rfl, hb1⟩)
    go_ret
    exact ⟨rfl, below_next hbel.out hb1⟩
  by_cases h3 : l.length = 0
  · rw [h3] at h1 ⊢
    go_enter Tryd.func5, Tryd.ntmps5
    go_wp2_with (go_at_call 7; refine (hkn.out).mono ?_; rintro e w' ⟨rfl, hb1⟩)
    go_ret
    exact ⟨rfl, below_next hbel.out hb1⟩
  have h3' : ((l.length : Int) == 0) = false := beq_eq_false_iff_ne.2 (by omega)
  by_cases h4 : m.length = 0
  · rw [h4] at h2 ⊢
    go_enter Tryd.func5, Tryd.ntmps5
    go_wp2_with (go_at_call 7; refine (hkn.out).mono ?_; rintro e w' ⟨rfl, hb1⟩)
    go_ret
    exact ⟨rfl, below_next hbel.out hb1⟩
  have h4' : ((m.length : Int) == 0) = false := beq_eq_false_iff_ne.2 (by omega)
  have hlne : l ≠ [] := fun e => h3 (by rw [e]; rfl)
  have hmne : m ≠ [] := fun e => h4 (by rw [e]; rfl)
  have hnl1 := hnl.below hks.below (Nat.le_refl _)
  obtain ⟨N, hN⟩ : ∃ N, N = l.length := ⟨_, rfl⟩
  obtain ⟨M, hM⟩ : ∃ M, M = m.length := ⟨_, rfl⟩
  rw [← hN] at h1 h3 h3' hl63 ⊢
  rw [← hM] at h2 h4 h4' hm63 ⊢
  replace hN := Lib.hid hN
  replace hM := Lib.hid hM
  have hnl' := Lib.hid hnl1
  clear hnl1
  go_enter Tryd.func5, Tryd.ntmps5
  go_wp2_with fail
  obtain ⟨d, hd⟩ : ∃ d, d = w.heap.size := ⟨_, rfl⟩
  rw [← hd] at hks ⊢
  generalize (w.alloc (.cells #[.int .u32 f, .int .u32 b, .int .u16 g] 25)) = w1 at hks hkn hbel hnl' ⊢
  clear hd
  go_loop [31] (fun i => ∃ k : Nat, k ≤ N ∧ i = .int .i64 k ∧ Hid (Bare (l.take k))) (fun i => N - (intOf i).toNat)
  case atStart => exact ⟨0, by omega, rfl, Lib.hid (by intro n hn; simp at hn)⟩
  case round =>
    obtain ⟨k, hk, rfl, hs⟩ := hrel
    by_cases hlt : k < N
    · have hkl : k < l.length := by have := hN.out; omega
      obtain ⟨ad, rfl, _, hcell⟩ := hnl'.out.at hkl
      have hnext := Lib.hid (bare_take hkl hs.out)
      generalize l[k] = n at hcell hnext
      by_cases e1 : n = 38
      · subst e1
        go_wp2_with (go_at_call 7; refine (hkn.out).mono ?_; rintro e w' ⟨rfl, hb1⟩)
        go_ret
        exact ⟨rfl, below_next hbel.out hb1⟩
      have e1' : (n == 38) = false := by simpa using e1
      by_cases e2 : n = 48
      · subst e2
        go_wp2_with (go_at_call 7; refine (hkn.out).mono ?_; rintro e w' ⟨rfl, hb1⟩)
        go_ret
        exact ⟨rfl, below_next hbel.out hb1⟩
      have e2' : (n == 48) = false := by simpa using e2
      go_wp2_with fail
      go_round
      case rel => exact ⟨k + 1, by omega, by go_num, Lib.hid (hnext.out e1 e2)⟩
      case measure => simp [intOf]; omega
    · have hbare : Bare l := by
        have := hs.out
        rwa [List.take_of_length_le (by have := hN.out; omega)] at this
      clear hs
      have hnlW := Lib.hid (fun w' (hb : Below w1.heap.size w1 w') => (hnl'.out.below hb hks.below.size : Nums w' w.heap.size .i64 ao l))
      have hnmW := Lib.hid (fun w' (hb : Below w1.heap.size w1 w') => ((hnm.below hks.below (Nat.le_refl _)).below hb hks.below.size : Nums w' w.heap.size .i64 bo m))
      have hsz := hks.below.size
      obtain ⟨L, hL⟩ : ∃ L, l ++ m = L := ⟨_, rfl⟩
      have hfL : Fits .i64 L := by rw [← hL]; intro n hn; exact (List.mem_append.1 hn).elim (hfl n) (hfm n)
      have happ := apply_app (a := ⟨f, b, g⟩) hlne hmne hbare
      rw [hL] at happ
      rcases hone : applyF ⟨f, b, g⟩ L with ⟨of, ob, og⟩
      have hA := Lib.hid (fun w' (T' : Tab w') ao' cp' (h1 : L.length ≤ cp') (h2 : cp' ≤ maxLen) (hn' : Nums w' w'.heap.size .i64 ao' L) => apply_any ⟨f, b, g⟩ L hfL ao' cp' h1 h2 w' T' hn')
      rw [hone] at hA happ
      simp only at hA
      have hks0 := hks.drew.cells
      have hTab := Lib.hid (fun w' (hb : Below w1.heap.size w1 w') => hks.tab.below hb)
      have hKS := Lib.hid (fun w' (hb : Below w1.heap.size w1 w') => (hks.new hb).fact)
      simp only at hks0
      have hsmall : l.length + m.length ≤ 2000 := by have := hN.out; have := hM.out; omega
      replace happ := Lib.hid happ
      replace hone := Lib.hid hone
      go_wp2_with fail
      have hd0 := Lib.hid (below_dr (Below.refl w1.heap.size w1) 1)
      have hdl := Lib.hid (below_dr (below_new w1 (.cells #[] 3)) 1)
      have hdz := Lib.hid (below_dr (below_new w1 (.cells #[.int .u32 0, .int .u32 0, .int .u16 0] 25)) 1)
      have hdzl := Lib.hid (below_dr (below_next (below_new w1 (.cells #[.int .u32 0, .int .u32 0, .int .u16 0] 25)) (below_new _ (.cells #[] 3))) 1)
      have hdlz := Lib.hid (below_dr (below_next (below_new w1 (.cells #[] 3)) (below_new _ (.cells #[.int .u32 0, .int .u32 0, .int .u16 0] 25))) 1)
      have hol := Lib.hid ((own_empty w1 3 .i64).only (only_drew [] _) (by simp))
      have holz := Lib.hid (((own_empty w1 3 .i64).alloc (.cells #[.int .u32 0, .int .u32 0, .int .u16 0] 25)).only (only_drew [] _) (by simp))
      have hozl := ((own_empty (w1.alloc (.cells #[.int .u32 0, .int .u32 0, .int .u16 0] 25)) 3 .i64).only (only_drew [] _) (by simp)).lower (B' := w1.heap.size) (by simp)
      rw [World.size_alloc] at hozl
      replace hozl := Lib.hid hozl
      have hzlz := ((AIn.made (w1.alloc (.cells #[] 3)) zero).only (only_drew [] _) (by simp))
      rw [World.size_alloc] at hzlz
      replace hzlz := Lib.hid hzlz
      have hzzl := Lib.hid (((AIn.made w1 zero).new (below_new _ (.cells #[] 3))).only (only_drew [] _) (by simp))
      go_cut [9] from 43 to 49 (fun s9 wx => ∃ e, s9 = .pointer (some ⟨e, 0, none⟩) ∧ Below w1.heap.size w1 wx ∧ AIn wx e ⟨of, ob, og⟩)
      case first =>
        go_region_held3 (fun w' => KS w w' d ⟨f, b, g⟩ ∧ w'.cell? ⟨d, 0, none⟩ = some (.int .u32 f) ∧ w'.cell? ⟨d, 1, none⟩ = some (.int .u32 b) ∧ w'.cell? ⟨d, 2, none⟩ = some (.int .u16 g))
          (first
            | exact hks0
            | exact hKS.out _ (below_on hb4 (turned_only w4 _ ⟨of, ob, og⟩) he4)
            | exact hKS.out _ (below_next hb4 (below_new _ _))
            | exact hKS.out _ hb4
            | exact hKS.out _ (below_next hb3 (below_new _ _))
            | exact hKS.out _ hb3
            | exact hKS.out _ (below_next hb2 (below_new _ _))
            | exact hKS.out _ hb2
            | exact hKS.out _ hdl.out
            | exact hKS.out _ hdz.out
            | exact hKS.out _ hdzl.out
            | exact hKS.out _ hdlz.out
            | go_keep)
          (first
            | (refine step_app elemI rfl (.tmp 44) (.tmp 45) rfl w1.heap.size (.slice (some ⟨w1.heap.size, 0, none⟩) 0 0) [] l ao w.heap.size c rfl (by rw [← hN.out]; rfl) hol.out (hnlW.out _ hdl.out) (by simp) (by simp; omega) (by simp [maxLen]; omega) ?_; intro v2 w2 hown2 ho2 hat2; simp only [List.nil_append] at hown2; have hb2 : Below w1.heap.size w1 w2 := below_app0 hdl.out hol.out (by simp) ho2; obtain ⟨a2, n2, c2', rfl⟩ := own_slice hown2; replace hown2 := Lib.hid hown2)
            | (refine step_app elemI rfl (.tmp 44) (.tmp 45) rfl w1.heap.size (.slice (some ⟨w1.heap.size, 0, none⟩) 0 0) [] l ao w.heap.size c rfl (by rw [← hN.out]; rfl) holz.out (hnlW.out _ hdlz.out) (by simp; omega) (by simp; omega) (by simp [maxLen]; omega) ?_; intro v2 w2 hown2 ho2 hat2; simp only [List.nil_append] at hown2; have hb2 : Below w1.heap.size w1 w2 := below_app0 hdlz.out holz.out (by simp; omega) ho2; obtain ⟨a2, n2, c2', rfl⟩ := own_slice hown2; replace hown2 := Lib.hid hown2; have hz2 := Lib.hid (hzlz.out.only ho2 (by simp [Value.ownBlock])); have he2 : w1.heap.size ≤ w1.heap.size + 1 := by omega)
            | (refine step_app elemI rfl (.tmp 44) (.tmp 45) rfl w1.heap.size (.slice (some ⟨w1.heap.size + 1, 0, none⟩) 0 0) [] l ao w.heap.size c rfl (by rw [← hN.out]; rfl) hozl.out (hnlW.out _ hdzl.out) (by simp; omega) (by simp; omega) (by simp [maxLen]; omega) ?_; intro v2 w2 hown2 ho2 hat2; simp only [List.nil_append] at hown2; have hb2 : Below w1.heap.size w1 w2 := below_app0 hdzl.out hozl.out (by simp; omega) ho2; obtain ⟨a2, n2, c2', rfl⟩ := own_slice hown2; replace hown2 := Lib.hid hown2; have hz2 := Lib.hid (hzzl.out.only ho2 (by simp [Value.ownBlock])); have he2 : w1.heap.size ≤ w1.heap.size := Nat.le_refl _)
            | (refine step_app elemI rfl (.tmp 46) (.tmp 47) rfl w1.heap.size (.slice a2 n2 c2') l m bo w.heap.size c2 rfl (by rw [← hM.out]; rfl) hown2.out (hnmW.out _ hb2) hb2.size (by omega) (by simp [maxLen]; omega) ?_; intro v3 w3 hown3 ho3 hat3; rw [hL] at hown3; have hb3 : Below w1.heap.size w1 w3 := below_app0 hb2 hown2.out hb2.size ho3; (try (have hz3 := Lib.hid (hz2.out.only ho3 (att_apart hown2.out hz2.out)); have he3 := he2)); obtain ⟨a3, c3', rfl, g1, g2, g3⟩ := hown3.shape)
            | (refine step_app elemI rfl (.tmp 46) (.tmp 47) rfl w1.heap.size (.slice a2 n2 c2') l m bo w.heap.size c2 rfl (by rw [← hM.out]; rfl) (hown2.out.alloc _) (hnmW.out _ (below_next hb2 (below_new _ _))) (by have := hb2.size; simp; omega) (by omega) (by simp [maxLen]; omega) ?_; intro v3 w3 hown3 ho3 hat3; rw [hL] at hown3; have hb3 : Below w1.heap.size w1 w3 := below_app0 (below_next hb2 (below_new _ _)) (hown2.out.alloc _) (by have := hb2.size; simp; omega) ho3; have hz3 := Lib.hid ((AIn.made w2 zero).only ho3 (att_apart (hown2.out.alloc _) (AIn.made w2 zero))); have he3 := hb2.size; obtain ⟨a3, c3', rfl, g1, g2, g3⟩ := hown3.shape)
            | (go_at_call 8; refine (hA.out _ (hTab.out _ hb3) a3 c3' g1 g2 g3).mono ?_; rintro e w4 ⟨rfl, hb4'⟩; have hb4 := below_next hb3 hb4'; (try (have hz4 := hz3.out.new hb4'; have he4 := he3; have z0 := hz4.c0; have z1 := hz4.c1; have z2 := hz4.c2; have y0 := hz4.free 0; have y1 := hz4.free 1; have y2 := hz4.free 2)))
            | (go_at_call 8; refine (hA.out _ (hTab.out _ (below_next hb3 (below_new _ _))) a3 c3' g1 g2 (g3.below (below_new _ _) (Nat.le_refl _) |>.more (by simp))).mono ?_; rintro e w4 ⟨rfl, hb4'⟩; have hb4 := below_next (below_next hb3 (below_new _ _)) hb4'; have hz4 := (AIn.made w3 zero).new hb4'; have he4 := hb3.size; have z0 := hz4.c0; have z1 := hz4.c1; have z2 := hz4.c2; have y0 := hz4.free 0; have y1 := hz4.free 1; have y2 := hz4.free 2))
        all_goals
          go_wp2
          go_meet
          first
            | exact ⟨_, rfl, below_on hb4 (turned_only w4 _ ⟨of, ob, og⟩) he4, turned_in hz4 ⟨of, ob, og⟩⟩
            | exact ⟨_, rfl, below_next hb4 (below_new _ _), AIn.made w4 ⟨of, ob, og⟩⟩
      case rest =>
        obtain ⟨e, rfl, hbc, hac⟩ := hcut
        clear hd0 hdl hdz hdzl hdlz hol holz hozl hzlz hzzl hA hKS hks0 hkn
        have hw0 : Hid (∀ w', Below wc.heap.size wc w' → Below w.heap.size w w') := Lib.hid (fun w' hb => below_next (below_next hks.below hbc) hb)
        have hT2 := Lib.hid (fun w' (hb : Below wc.heap.size wc w') => (hks.tab.below hbc).below hb)
        have hn1 := Lib.hid (fun w' (hb : Below wc.heap.size wc w') => ((hnlW.out _ (below_next hbc hb)).more (hw0.out _ hb).size : Nums w' w'.heap.size .i64 ao l))
        have hn2 := Lib.hid (fun w' (hb : Below wc.heap.size wc w') => ((hnmW.out _ (below_next hbc hb)).more (hw0.out _ hb).size : Nums w' w'.heap.size .i64 bo m))
        have hkd := hks.new hbc
        have hS := Lib.hid (fun w' (hb : Below wc.heap.size wc w') => (show w'.cell? ⟨d, 0, none⟩ = some (.int .u32 f) ∧ w'.cell? ⟨d, 1, none⟩ = some (.int .u32 b) ∧ w'.cell? ⟨d, 2, none⟩ = some (.int .u16 g) ∧ w'.cell? ⟨e, 0, none⟩ = some (.int .u32 of) ∧ w'.cell? ⟨e, 1, none⟩ = some (.int .u32 ob) ∧ w'.cell? ⟨e, 2, none⟩ = some (.int .u16 og) from ⟨(hkd.att.new hb).c0, (hkd.att.new hb).c1, (hkd.att.new hb).c2, (hac.new hb).c0, (hac.new hb).c1, (hac.new hb).c2⟩))
        have hA1 := fun w' (hb : Below wc.heap.size wc w') => apply_any ⟨f, b, g⟩ l hfl ao c hc hcm w' (hT2.out _ hb) (hn1.out _ hb)
        rcases hx : applyF ⟨f, b, g⟩ l with ⟨xf, xb, xg⟩
        rw [hx] at hA1 happ
        have hA2 := fun w' (hb : Below wc.heap.size wc w') => apply_any ⟨xf, xb, xg⟩ m hfm bo c2 hc2 hcm2 w' (hT2.out _ hb) (hn2.out _ hb)
        rw [← happ.out] at hA2
        have hA3 := fun w' (hb : Below wc.heap.size wc w') => apply_any ⟨f, b, g⟩ [] (by intro n hn; cases hn) none 0 (Nat.le_refl _) (by simp) w' (hT2.out _ hb) (Nums.nil _ _ _ _)
        rw [apply_nil] at hA3
        have hM1 := fun w' => may_any ⟨f, b, g⟩ w'
        have hM2 := fun w' => may_any ⟨of, ob, og⟩ w'
        have hK := Lib.hid (fun w' (hb : Below wc.heap.size wc w') => known_any w' (hT2.out _ hb))
        have hb50 := below_dr (Below.refl wc.heap.size wc) 1
        have hb51 : Below wc.heap.size wc wc.drew := hb50
        simp only [zero, List.length_nil] at hA1 hA2 hA3 hM1 hM2
        rw [← hN.out] at hA1
        rw [← hM.out] at hA2
        replace hA1 := Lib.hid hA1
        replace hA2 := Lib.hid hA2
        replace hA3 := Lib.hid hA3
        have hmay : mayF ⟨f, b, g⟩ = true → mayF ⟨of, ob, og⟩ = true := fun h => by have := apply_may ha h L; rwa [hone.out] at this
        clear hb50 hT2 hn1 hn2 hkd hx happ hone hnlW hnmW hnl' hbel hac hTab
        rcases h5 : mayF ⟨f, b, g⟩ with _ | _
        · rw [h5] at hM1
          replace hM1 := Lib.hid hM1
          clear hM2 hmay
          go_wp2_with fail
          obtain ⟨j0, j1, j2, j3, j4, j5⟩ := hS.out _ (Below.refl _ wc)
          go_region_with (first
            | (go_at_call 8; with_reducible refine (hA1.out _ (by assumption)).mono ?_; rintro e1 w6 ⟨rfl, hb6'⟩; have hb6 : Below wc.heap.size wc w6 := below_next (by assumption) hb6'; obtain ⟨q0, q1, q2, q3, q4, q5⟩ := hS.out _ hb6)
            | (go_at_call 8; with_reducible refine (hA2.out _ (by assumption)).mono ?_; rintro e1 w7 ⟨rfl, hb7'⟩; have hb7 : Below wc.heap.size wc w7 := below_next (by assumption) hb7'; obtain ⟨r0, r1, r2, r3, r4, r5⟩ := hS.out _ hb7)
            | (go_at_call 10; with_reducible refine (hM1.out _).mono ?_; rintro e1 w8 ⟨rfl, hb8'⟩; have hb8 : Below wc.heap.size wc w8 := below_next (by assumption) hb8'; obtain ⟨s0, s1, s2, s3, s4, s5⟩ := hS.out _ hb8)
            | (go_at_call 8; with_reducible refine (hA3.out _ (by assumption)).mono ?_; rintro e1 w10 ⟨rfl, hb10'⟩; have hb10 : Below wc.heap.size wc w10 := below_next (by assumption) hb10')
            | (go_at_call 7; with_reducible refine (hK.out _ (by assumption)).mono ?_; rintro e1 w11 ⟨rfl, hb11'⟩; have hb11 : Below wc.heap.size wc w11 := below_next (by assumption) hb11'))
          all_goals
            go_wp2
            go_ret
            exact ⟨rfl, hw0.out _ hb11⟩
        · rw [h5] at hM1
          rw [hmay h5] at hM2
          replace hM1 := Lib.hid hM1
          replace hM2 := Lib.hid hM2
          clear hmay
          go_wp2_with fail
          go_region_held3 (fun w' => w'.cell? ⟨d, 0, none⟩ = some (.int .u32 f) ∧ w'.cell? ⟨d, 1, none⟩ = some (.int .u32 b) ∧ w'.cell? ⟨d, 2, none⟩ = some (.int .u16 g) ∧ w'.cell? ⟨e, 0, none⟩ = some (.int .u32 of) ∧ w'.cell? ⟨e, 1, none⟩ = some (.int .u32 ob) ∧ w'.cell? ⟨e, 2, none⟩ = some (.int .u16 og))
            (first | exact hS.out _ (by assumption) | go_keep)
            (first
              | (go_at_call 8; with_reducible refine (hA1.out _ (by assumption)).mono ?_; rintro e1 w6 ⟨rfl, hb6'⟩; have hb6 : Below wc.heap.size wc w6 := below_next (by assumption) hb6')
              | (go_at_call 8; with_reducible refine (hA2.out _ (by assumption)).mono ?_; rintro e1 w7 ⟨rfl, hb7'⟩; have hb7 : Below wc.heap.size wc w7 := below_next (by assumption) hb7')
              | (go_at_call 10; with_reducible refine (hM1.out _).mono ?_; rintro e1 w8 ⟨rfl, hb8'⟩; have hb8 : Below wc.heap.size wc w8 := below_next (by assumption) hb8')
              | (go_at_call 10; with_reducible refine (hM2.out _).mono ?_; rintro e1 w9 ⟨rfl, hb9'⟩; have hb9 : Below wc.heap.size wc w9 := below_next (by assumption) hb9')
              | (go_at_call 8; with_reducible refine (hA3.out _ (by assumption)).mono ?_; rintro e1 w10 ⟨rfl, hb10'⟩; have hb10 : Below wc.heap.size wc w10 := below_next (by assumption) hb10')
              | (go_at_call 7; with_reducible refine (hK.out _ (by assumption)).mono ?_; rintro e1 w11 ⟨rfl, hb11'⟩; have hb11 : Below wc.heap.size wc w11 := below_next (by assumption) hb11'))
          go_wp2
          go_ret
          exact ⟨rfl, hw0.out _ hb11⟩

end Go.Proofs.YtlpihhjdgipgnaaDoor.Sgr
