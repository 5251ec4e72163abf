/-
  The law SgrLast.
-/
import Derived.Test.YtlpihhjdgipgnaaDoorSMap
namespace Go.Proofs.YtlpihhjdgipgnaaDoor.Sgr
open Go Go.RowKit Go.Proofs.YtlpihhjdgipgnaaDoor.Com
open Go.WideShapes Go.WideAt
open Go.Maps (Keyed keyOf_int_mk)

theorem own_one (w : World) (e : TypeId) (k : IntKind) (x : Int) : Own (w.alloc (.cells #[.int k x] e)) w.heap.size e k (.slice (some ⟨w.heap.size, 0, none⟩) 1 1) [x] := by
  simpa using Own.lit w w.heap.size e k [x] (Nat.le_refl _) (by simp [maxLen])
theorem apply_one (a : At) {n : Int} (h1 : n ≠ 38) (h2 : n ≠ 48) : applyF a [n] = oneF a n := by rw [apply_cons _ (by simp), run_one _ _ h1 h2, run_nil]
theorem apply_two (a : At) {n m : Int} (h1 : n ≠ 38) (h2 : n ≠ 48) (h3 : m ≠ 38) (h4 : m ≠ 48) : applyF a [n, m] = oneF (oneF a n) m := by rw [apply_cons _ (by simp), run_one _ _ h1 h2, run_one _ _ h3 h4, run_nil]
theorem apply_fresh (a : At) (l : List Int) : applyF a (0 :: l) = runF zero l := by rw [apply_cons _ (by simp), run_one _ _ (by decide) (by decide), one_zero]
theorem pair_small {p q : Int} (h : Pair p q) : (1 ≤ p ∧ p ≤ 9) ∧ 22 ≤ q ∧ q ≤ 29 := by cases h <;> omega
/-- What was taken away and is set again: another flag's worth. -/
theorem back_flags {a : At} (ha : a.Ok) {p q : Int} (h : Pair p q) : (oneF (oneF a q) p).f = (oneF a q).f ∧ (oneF (oneF a q) p).b = (oneF a q).b ∧ (oneF (oneF a q) p).g ≠ (oneF a q).g := by
  obtain ⟨hp, hq, _⟩ := pair_bits h
  have hne := pair_back ha h
  have e := one_set (one_ok ha q) hp
  rw [e] at hne ⊢
  refine ⟨rfl, rfl, fun hg => hne ?_⟩
  simp only at hg
  rw [hg]

set_option maxRecDepth 100000 in
set_option maxHeartbeats 4000000 in
theorem lawLast (a : At) (ha : a.Ok) (l : List Int) (hfl : Fits .i64 l) (ao : Option Addr) (c : Nat) (hc : l.length ≤ c) (hcm : c ≤ maxLen) (n : Int) (wn : (Lit.int .i64 n).wf = true) (w : World) (T : Tab w) (hnl : Nums w w.heap.size .i64 ao l) :
    Calls Tryd.prog 6 #[.agg #[.int .u32 a.f, .int .u32 a.b, .int .u16 a.g], .slice ao l.length c, .int .i64 n] w fun e w' => e = .returned (.bool true) ∧ Below w.heap.size w w' := by
  obtain ⟨f, b, g⟩ := a
  have hks : KS w (w.alloc (.cells #[.int .u32 f, .int .u32 b, .int .u16 g] 25)) w.heap.size ⟨f, b, g⟩ := ⟨AIn.made w ⟨f, b, g⟩, T.below (below_new _ _), below_new _ _⟩
  have hkn := Lib.hid (known_any _ hks.tab)
  have hbel := Lib.hid hks.below
  have hl63 : l.length ≤ 9223372036854775807 := by simp only [maxLen] at hcm; omega
  by_cases h1 : 500 < l.length
  · go_enter Tryd.func6, Tryd.ntmps6
    go_wp2_with (go_at_call 7; refine (hkn.out).mono ?_; rintro e w' ⟨rfl, hb1⟩)
    go_ret
    exact ⟨rfl, below_next hbel.out hb1⟩
  by_cases h38 : n = 38
  · subst h38
    go_enter Tryd.func6, Tryd.ntmps6
    go_wp2_with (go_at_call 7; refine (hkn.out).mono ?_; rintro e w' ⟨rfl, hb1⟩)
    go_ret
    exact ⟨rfl, below_next hbel.out hb1⟩
  have b38 : (n == 38) = false := by simpa using h38
  by_cases h48 : n = 48
  · subst h48
    go_enter Tryd.func6, Tryd.ntmps6
    go_wp2_with (go_at_call 7; refine (hkn.out).mono ?_; rintro e w' ⟨rfl, hb1⟩)
    go_ret
    exact ⟨rfl, below_next hbel.out hb1⟩
  have b48 : (n == 48) = false := by simpa using h48
  have hsmall : l.length ≤ 500 := by omega
  have hbn := bounds_i64 wn
  have hfn : Fits .i64 [n] := by intro x hx; simp at hx; subst hx; exact wn
  have hfnn : Fits .i64 [n, n] := by intro x hx; simp at hx; subst hx; exact wn
  have hnl1 := hnl.below hks.below (Nat.le_refl _)
  clear hkn T
  go_enter Tryd.func6, Tryd.ntmps6
  go_wp2_with fail
  obtain ⟨d, hd⟩ : ∃ d, d = w.heap.size := ⟨_, rfl⟩
  rw [← hd] at hks ⊢
  generalize (w.alloc (.cells #[.int .u32 f, .int .u32 b, .int .u16 g] 25)) = w1 at hks hbel hnl1 ⊢
  clear hd
  have hnlW := Lib.hid (fun w' (hb : Below w1.heap.size w1 w') => (hnl1.below hb hks.below.size : Nums w' w.heap.size .i64 ao l))
  have hsz := hks.below.size
  obtain ⟨L, hL⟩ : ∃ L, 0 :: l = L := ⟨_, rfl⟩
  have hfL : Fits .i64 L := by rw [← hL]; intro x hx; exact (List.mem_cons.1 hx).elim (fun e => by subst e; decide) (hfl x)
  have hone0 : applyF ⟨f, b, g⟩ L = runF zero l := by rw [← hL]; exact apply_fresh _ _
  have hone1 : applyF zero L = runF zero l := by rw [← hL]; exact apply_fresh _ _
  obtain ⟨y, hy⟩ : ∃ y, runF zero l = y := ⟨_, rfl⟩
  rw [hy] at hone0 hone1
  clear hy
  obtain ⟨of, ob, og⟩ := y
  have hA := Lib.hid (fun w' (T' : Tab w') ao' cp' (h1 : L.length ≤ cp') (h2 : cp' ≤ maxLen) (hn' : Nums w' w'.heap.size .i64 ao' L) => apply_any ⟨f, b, g⟩ L hfL ao' cp' h1 h2 w' T' hn')
  have hA' := Lib.hid (fun w' (T' : Tab w') ao' cp' (h1 : L.length ≤ cp') (h2 : cp' ≤ maxLen) (hn' : Nums w' w'.heap.size .i64 ao' L) => apply_any zero L hfL ao' cp' h1 h2 w' T' hn')
  rw [hone0] at hA
  rw [hone1] at hA'
  simp only [zero] at hA hA'
  have hks0 := hks.drew.fact
  have hTab := Lib.hid (fun w' (hb : Below w1.heap.size w1 w') => hks.tab.below hb)
  have hKS := Lib.hid (fun w' (hb : Below w1.heap.size w1 w') => (hks.new hb).fact)
  have hdl := Lib.hid (below_dr (below_new w1 (.cells #[.int .i64 0] 3)) 1)
  have hdz := Lib.hid (below_dr (below_new w1 (.cells #[.int .u32 0, .int .u32 0, .int .u16 0] 25)) 1)
  have hdzl := Lib.hid (below_dr (below_next (below_new w1 (.cells #[.int .u32 0, .int .u32 0, .int .u16 0] 25)) (below_new _ (.cells #[.int .i64 0] 3))) 1)
  have hdlz := Lib.hid (below_dr (below_next (below_new w1 (.cells #[.int .i64 0] 3)) (below_new _ (.cells #[.int .u32 0, .int .u32 0, .int .u16 0] 25))) 1)
  have hol := Lib.hid ((own_one w1 3 .i64 0).only (only_drew [] _) (by simp))
  have holz := Lib.hid (((own_one w1 3 .i64 0).alloc (.cells #[.int .u32 0, .int .u32 0, .int .u16 0] 25)).only (only_drew [] _) (by simp))
  have hozl := ((own_one (w1.alloc (.cells #[.int .u32 0, .int .u32 0, .int .u16 0] 25)) 3 .i64 0).only (only_drew [] _) (by simp)).lower (B' := w1.heap.size) (by simp)
  rw [World.size_alloc] at hozl
  replace hozl := Lib.hid hozl
  have hzlz := ((AIn.made (w1.alloc (.cells #[.int .i64 0] 3)) zero).only (only_drew [] _) (by simp))
  rw [World.size_alloc] at hzlz
  replace hzlz := Lib.hid hzlz
  have hzzl := Lib.hid (((AIn.made w1 zero).new (below_new _ (.cells #[.int .i64 0] 3))).only (only_drew [] _) (by simp))
  go_cut [7] from 24 to 28 (fun s7 wx => ∃ e, s7 = .pointer (some ⟨e, 0, none⟩) ∧ Below w1.heap.size w1 wx ∧ AIn wx e ⟨of, ob, og⟩)
  case first =>
    go_region_held3 (fun w' => KS w w' d ⟨f, b, g⟩ ∧ w'.cell? ⟨d, 0, none⟩ = some (.int .u32 f) ∧ w'.cell? ⟨d, 1, none⟩ = some (.int .u32 b) ∧ w'.cell? ⟨d, 2, none⟩ = some (.int .u16 g))
      (first
        | exact hks0
        | exact hKS.out _ (below_on hb4 (turned_only w4 _ ⟨of, ob, og⟩) he4)
        | exact hKS.out _ (below_next hb4 (below_new _ _))
        | exact hKS.out _ hb4
        | exact hKS.out _ (below_next hb3 (below_new _ _))
        | exact hKS.out _ hb3
        | exact hKS.out _ hdl.out
        | exact hKS.out _ hdz.out
        | exact hKS.out _ hdzl.out
        | exact hKS.out _ hdlz.out
        | go_keep)
      (first
        | (refine step_app elemI rfl (.tmp 25) (.tmp 26) rfl w1.heap.size (.slice (some ⟨w1.heap.size, 0, none⟩) 1 1) [0] l ao w.heap.size c rfl rfl hol.out (hnlW.out _ hdl.out) (by simp) (by simp; omega) (by simp [maxLen]; omega) ?_; intro v3 w3 hown3 ho3 hat3; simp only [List.singleton_append] at hown3; rw [hL] at hown3; have hb3 : Below w1.heap.size w1 w3 := below_app0 hdl.out hol.out (by simp) ho3; obtain ⟨a3, c3', rfl, g1, g2, g3⟩ := hown3.shape)
        | (refine step_app elemI rfl (.tmp 25) (.tmp 26) rfl w1.heap.size (.slice (some ⟨w1.heap.size, 0, none⟩) 1 1) [0] l ao w.heap.size c rfl rfl holz.out (hnlW.out _ hdlz.out) (by simp; omega) (by simp; omega) (by simp [maxLen]; omega) ?_; intro v3 w3 hown3 ho3 hat3; simp only [List.singleton_append] at hown3; rw [hL] at hown3; have hb3 : Below w1.heap.size w1 w3 := below_app0 hdlz.out holz.out (by simp; omega) ho3; obtain ⟨a3, c3', rfl, g1, g2, g3⟩ := hown3.shape; have hz3 := Lib.hid (hzlz.out.only ho3 (by simp [Value.ownBlock])); have he3 : w1.heap.size ≤ w1.heap.size + 1 := by omega)
        | (refine step_app elemI rfl (.tmp 25) (.tmp 26) rfl w1.heap.size (.slice (some ⟨w1.heap.size + 1, 0, none⟩) 1 1) [0] l ao w.heap.size c rfl rfl hozl.out (hnlW.out _ hdzl.out) (by simp; omega) (by simp; omega) (by simp [maxLen]; omega) ?_; intro v3 w3 hown3 ho3 hat3; simp only [List.singleton_append] at hown3; rw [hL] at hown3; have hb3 : Below w1.heap.size w1 w3 := below_app0 hdzl.out hozl.out (by simp; omega) ho3; obtain ⟨a3, c3', rfl, g1, g2, g3⟩ := hown3.shape; have hz3 := Lib.hid (hzzl.out.only ho3 (by simp [Value.ownBlock])); have he3 : w1.heap.size ≤ w1.heap.size := Nat.le_refl _)
        | (go_at_call 8; refine (hA.out _ (hTab.out _ hb3) a3 c3' g1 g2 g3).mono ?_; rintro e w4 ⟨rfl, hb4'⟩; have hb4 := below_next hb3 hb4'; (try (have hz4 := hz3.out.new hb4'; have he4 := he3; have z0 := hz4.c0; have z1 := hz4.c1; have z2 := hz4.c2; have y0 := hz4.free 0; have y1 := hz4.free 1; have y2 := hz4.free 2)))
        | (go_at_call 8; refine (hA.out _ (hTab.out _ (below_next hb3 (below_new _ _))) a3 c3' g1 g2 (g3.below (below_new _ _) (Nat.le_refl _) |>.more (by simp))).mono ?_; rintro e w4 ⟨rfl, hb4'⟩; have hb4 := below_next (below_next hb3 (below_new _ _)) hb4'; have hz4 := (AIn.made w3 zero).new hb4'; have he4 := hb3.size; have z0 := hz4.c0; have z1 := hz4.c1; have z2 := hz4.c2; have y0 := hz4.free 0; have y1 := hz4.free 1; have y2 := hz4.free 2))
    all_goals
      go_wp2
      go_meet
      first
        | exact ⟨_, rfl, below_on hb4 (turned_only w4 _ ⟨of, ob, og⟩) he4, turned_in hz4 ⟨of, ob, og⟩⟩
        | exact ⟨_, rfl, below_next hb4 (below_new _ _), AIn.made w4 ⟨of, ob, og⟩⟩
  case rest =>
    obtain ⟨e, rfl, hbc, hac⟩ := hcut
    clear hdl hdz hdzl hdlz hol holz hozl hzlz hzzl hA hKS hks0
    have hkc := hks.new hbc
    have hn2 := apply_two ⟨f, b, g⟩ h38 h48 h38 h48
    rw [one_twice ha n] at hn2
    have hn1 := apply_one ⟨f, b, g⟩ h38 h48
    obtain ⟨z, hz⟩ : ∃ z, oneF ⟨f, b, g⟩ n = z := ⟨_, rfl⟩
    rw [hz] at hn1 hn2
    clear hz
    obtain ⟨zf, zb, zg⟩ := z
    have hC4 := apply_lit ⟨f, b, g⟩ [n, n] _ hn2 hfnn (by simp [maxLen]) wc hkc.tab
    have hC5 := fun w' (T' : Tab w') => apply_lit ⟨f, b, g⟩ [n] _ hn1 hfn (by simp [maxLen]) w' T'
    simp only [List.length_cons, List.length_nil, List.map_cons, List.map_nil, Nat.reduceAdd, Nat.zero_add] at hC4 hC5
    replace hC4 := Lib.hid hC4
    replace hC5 := Lib.hid hC5
    have m0 := hkc.att.c0
    have m1 := hkc.att.c1
    have m2 := hkc.att.c2
    simp only at m0 m1 m2
    clear hn1 hn2 hone0 hone1
    replace hkc := Lib.hid hkc
    go_wp2_with (go_at_call 8; refine (hC4.out).mono ?_; rintro e5 w5 ⟨rfl, hb5⟩)
    clear m0 m1 m2 hC4
    have hk6 := (hkc.out.new hb5).new (below_new w5 (.cells #[.int .u32 zf, .int .u32 zb, .int .u16 zg] 25))
    have hy6 := (hac.new hb5).new (below_new w5 (.cells #[.int .u32 zf, .int .u32 zb, .int .u16 zg] 25))
    have hz6 := AIn.made w5 ⟨zf, zb, zg⟩
    have hb6 : Below w1.heap.size w1 (w5.alloc (.cells #[.int .u32 zf, .int .u32 zb, .int .u16 zg] 25)) := below_next (below_next hbc hb5) (below_new _ _)
    generalize (w5.alloc (.cells #[.int .u32 zf, .int .u32 zb, .int .u16 zg] 25)) = w6 at hk6 hy6 hz6 hb6 ⊢
    generalize w5.heap.size = e2 at hz6 ⊢
    clear hkc hac hb5 hbc hks hbel
    have hS := Lib.hid (fun w' (hb : Below w6.heap.size w6 w') => (show w'.cell? ⟨d, 0, none⟩ = some (.int .u32 f) ∧ w'.cell? ⟨d, 1, none⟩ = some (.int .u32 b) ∧ w'.cell? ⟨d, 2, none⟩ = some (.int .u16 g) ∧ w'.cell? ⟨e, 0, none⟩ = some (.int .u32 of) ∧ w'.cell? ⟨e, 1, none⟩ = some (.int .u32 ob) ∧ w'.cell? ⟨e, 2, none⟩ = some (.int .u16 og) ∧ w'.cell? ⟨e2, 0, none⟩ = some (.int .u32 zf) ∧ w'.cell? ⟨e2, 1, none⟩ = some (.int .u32 zb) ∧ w'.cell? ⟨e2, 2, none⟩ = some (.int .u16 zg) from
      ⟨(hk6.att.new hb).c0, (hk6.att.new hb).c1, (hk6.att.new hb).c2, (hy6.new hb).c0, (hy6.new hb).c1, (hy6.new hb).c2, (hz6.new hb).c0, (hz6.new hb).c1, (hz6.new hb).c2⟩))
    have hk6' := Lib.hid hk6
    have hT6 := Lib.hid (fun w' (hb : Below w6.heap.size w6 w') => hk6'.out.tab.below hb)
    have hb60 : Below w6.heap.size w6 w6.drew := below_dr (Below.refl _ _) 1
    have hb61 : Below w6.heap.size w6 (w6.alloc (.cells #[.int .i64 0] 3)).drew := below_dr (below_new _ _) 1
    have ho6 := Lib.hid ((own_one w6 3 .i64 0).only (only_drew [] _) (by simp))
    have hnl6 := Lib.hid (hnlW.out _ (below_next hb6 hb61))
    clear hk6 hy6 hz6 hTab
    go_region_held3 (fun w' => w'.cell? ⟨d, 0, none⟩ = some (.int .u32 f) ∧ w'.cell? ⟨d, 1, none⟩ = some (.int .u32 b) ∧ w'.cell? ⟨d, 2, none⟩ = some (.int .u16 g) ∧ w'.cell? ⟨e, 0, none⟩ = some (.int .u32 of) ∧ w'.cell? ⟨e, 1, none⟩ = some (.int .u32 ob) ∧ w'.cell? ⟨e, 2, none⟩ = some (.int .u16 og) ∧ w'.cell? ⟨e2, 0, none⟩ = some (.int .u32 zf) ∧ w'.cell? ⟨e2, 1, none⟩ = some (.int .u32 zb) ∧ w'.cell? ⟨e2, 2, none⟩ = some (.int .u16 zg))
      (first
        | exact hS.out _ (by assumption)
        | exact hS.out _ (below_next hb8 (below_new _ _))
        | go_keep)
      (first
        | (refine step_app elemI rfl (.tmp 36) (.tmp 37) rfl w6.heap.size (.slice (some ⟨w6.heap.size, 0, none⟩) 1 1) [0] l ao w.heap.size c rfl rfl ho6.out hnl6.out (by simp) (by simp; omega) (by simp [maxLen]; omega) ?_; intro v7 w7 hown7 ho7 hat7; simp only [List.singleton_append] at hown7; rw [hL] at hown7; have hb7 : Below w6.heap.size w6 w7 := below_app0 hb61 ho6.out (by simp) ho7; obtain ⟨a7, c7', rfl, g1, g2, g3⟩ := hown7.shape)
        | (go_at_call 8; with_reducible refine (hA'.out _ (hT6.out _ hb7) a7 c7' g1 g2 g3).mono ?_; rintro e8 w8 ⟨rfl, hb8'⟩; have hb8 : Below w6.heap.size w6 w8 := below_next hb7 hb8')
        | (go_at_call 8; with_reducible refine (hC5.out _ (hT6.out _ hb8)).mono ?_; rintro e9 w9 ⟨rfl, hb9'⟩; have hb9 : Below w6.heap.size w6 w9 := below_next hb8 hb9'))
    have hk9 := hk6'.out.new hb9
    have hb19 := below_next hb6 hb9
    clear hS hT6 hb60 hb61 ho6 hnl6 hk6' hb7 hb8 hb8' hb9' hown7 ho7 hat7 g1 g2 g3 hA' hC5 hb6 hb9
    have hmm := @run_makeMap Tryd.prog
    have hownM := World.ownsMap_made w9 Tryd.prog 3 (plainElem (H := Unit) Tryd.prog 3)
    have hbm : Below w9.heap.size w9 (w9.alloc (.map #[] 0)) := below_new w9 _
    go_wp2_with (first
      | (with_reducible show wpList _ _ _ (⟨none, .insert _ _ _ _, _, _, _, _⟩ :: _) _ _; go_must (refine wpList_insert_ii _ _ _ rfl (.tmp 49) rfl w9.heap.size _ _ rfl hownM (by simp [maxLen]) (by decide) (by decide) ?_); go_must (intro w10 hownN hgN; have hbn := below_on (d := w9.heap.size) hbm (only_some hgN) (Nat.le_refl _); clear hbm hownM; have hownM := hownN; have hbm := hbn; clear hbn hownN hgN))
      | (at_range; rw [made8] at hownM; refine wpList_range_own _ rfl _ 38 rfl 3 3 law3 Tryd.underlying38 _ w9.heap.size _ _ rfl hownM ?_; intro w0 hrg0 hg0 hs0; go_frame)
      | go_in)
    have hr0 := hbm.size
    have hbw0 := below_next hbm (Only.nil (only_null hg0))
    have hsub0 : ∀ x, Maps.has D8 (.int .i64 x) = true → Maps.has D8 (.int .i64 x) = true := fun _ h => h
    clear hg0 hs0 hbm hownM hmm hb19
    generalize w10.heap.size = r0 at hrg0 hr0 ⊢
    go_loopw [9] (fun _ wq => ∃ (left : Lit → Bool) (cnt : Nat) (wr : World), wr = wq ∧ wr.ranges Tryd.prog 3 (plainElem (H := Unit) Tryd.prog 3) w9.heap.size r0 (0 + 1 + 1 + 1 + 1 + 1 + 1 + 1 + 1) D8 left cnt ∧ Below w9.heap.size w9 wr ∧ (∀ x, left (.int .i64 x) = true → Maps.has D8 (.int .i64 x) = true)) (fun _ wq => wq.rangeLeft w9.heap.size r0)
    case atStart => exact ⟨_, _, _, rfl, hrg0, hbw0, hsub0⟩
    case round =>
      obtain ⟨left, cnt, wr, rfl, hrg, hbr, hsub⟩ := hrel
      clear hrg0 hbw0 hsub0
      have hkn := Lib.hid (known_any wr (hk9.tab.below hbr))
      go_wp2_with (first
        | (at_next; refine wpList_next_ranges_ii _ rfl _ rfl 3 3 .i64 .i64 law3 Tryd.underlying3 Tryd.underlying3 w9.heap.size r0 _ _ _ _ rfl hrg ?_ ?_)
        | go_in)
      · intro hc0 hl0
        go_wp2_with (go_at_call 7; refine (hkn.out).mono ?_; rintro e10 w10 ⟨rfl, hb10⟩)
        go_ret
        exact ⟨rfl, below_next hk9.below (below_next hbr hb10)⟩
      · intro x cc w11 cnt1 hwx hwc hlx hat hrg1 hlt hg1 hs1 hen
        have hpair := pair8 (hsub x hlx) hat
        have hbr1 : Below w9.heap.size w9 w11 := below_on hbr (only_some hg1) hr0
        have hk11 := hk9.new hbr1
        clear hs1 hg1
        have hsub1 : ∀ z, (left (.int .i64 z) && !(Lit.int .i64 z).sameKey (.int .i64 x)) = true → Maps.has D8 (.int .i64 z) = true := fun z hz => hsub z (by simp only [Bool.and_eq_true] at hz; exact hz.1)
        obtain ⟨hsx, hsc⟩ := pair_small hpair
        have hxx := apply_two ⟨f, b, g⟩ (n := x) (m := cc) (by omega) (by omega) (by omega) (by omega)
        rw [pair_gone ha hpair] at hxx
        have hcc := apply_one ⟨f, b, g⟩ (n := cc) (by omega) (by omega)
        obtain ⟨yF, yB, yG⟩ := back_flags ha hpair
        have hback := apply_one (oneF ⟨f, b, g⟩ cc) (n := x) (by omega) (by omega)
        obtain ⟨X, hX⟩ : ∃ X, oneF ⟨f, b, g⟩ cc = X := ⟨_, rfl⟩
        rw [hX] at hxx hcc hback yF yB yG
        obtain ⟨Y, hY⟩ : ∃ Y, oneF X x = Y := ⟨_, rfl⟩
        rw [hY] at hback yF yB yG
        clear hX hY
        obtain ⟨xf, xb, xg⟩ := X
        obtain ⟨yf, yb, yg⟩ := Y
        simp only at yF yB yG
        subst yF
        subst yB
        have yng : (yg == xg) = false := by simpa using yG
        have ff1 : Fits .i64 [x, cc] := fits_of (by simp; omega)
        have ff2 : Fits .i64 [cc] := fits_of (by simp; omega)
        have ff3 : Fits .i64 [x] := fits_of (by simp; omega)
        have hC1 := apply_lit ⟨f, b, g⟩ [x, cc] _ hxx ff1 (by simp [maxLen]) w11 hk11.tab
        have hC2 := fun w' (T' : Tab w') => apply_litd ⟨f, b, g⟩ [cc] _ hcc ff2 (by simp [maxLen]) w' T'
        have hC3 := fun w' (T' : Tab w') => apply_lit ⟨yf, yb, xg⟩ [x] _ hback ff3 (by simp [maxLen]) w' T'
        simp only [List.length_cons, List.length_nil, List.map_cons, List.map_nil, Nat.reduceAdd, Nat.zero_add] at hC1 hC2 hC3
        replace hC1 := Lib.hid hC1
        replace hC2 := Lib.hid hC2
        replace hC3 := Lib.hid hC3
        have m0 := hk11.att.c0
        have m1 := hk11.att.c1
        have m2 := hk11.att.c2
        simp only at m0 m1 m2
        clear hxx hcc hback yG ff1 ff2 ff3 hkn hsx hsc hat hlx hwx hwc
        replace hk11 := Lib.hid hk11
        go_wp2_with (go_at_call 8; go_must (with_reducible refine hC1.out.mono ?_); rintro e12 w12 ⟨rfl, hb12⟩)
        clear m0 m1 m2 hC1 hen
        have hk13 := (hk11.out.new hb12).new (below_new w12 (.cells #[.int .u32 yf, .int .u32 yb, .int .u16 xg] 25))
        have hX13 := AIn.made w12 ⟨yf, yb, xg⟩
        have hb13 : Below w11.heap.size w11 (w12.alloc (.cells #[.int .u32 yf, .int .u32 yb, .int .u16 xg] 25)) := below_next hb12 (below_new _ _)
        generalize (w12.alloc (.cells #[.int .u32 yf, .int .u32 yb, .int .u16 xg] 25)) = w13 at hk13 hX13 hb13 ⊢
        generalize w12.heap.size = e3 at hX13 ⊢
        clear hb12 hk11
        have hS := Lib.hid (fun w' (hb : Below w13.heap.size w13 w') => (show w'.cell? ⟨d, 0, none⟩ = some (.int .u32 f) ∧ w'.cell? ⟨d, 1, none⟩ = some (.int .u32 b) ∧ w'.cell? ⟨d, 2, none⟩ = some (.int .u16 g) ∧ w'.cell? ⟨e3, 0, none⟩ = some (.int .u32 yf) ∧ w'.cell? ⟨e3, 1, none⟩ = some (.int .u32 yb) ∧ w'.cell? ⟨e3, 2, none⟩ = some (.int .u16 xg) from
          ⟨(hk13.att.new hb).c0, (hk13.att.new hb).c1, (hk13.att.new hb).c2, (hX13.new hb).c0, (hX13.new hb).c1, (hX13.new hb).c2⟩))
        have hk13' := Lib.hid hk13
        have hb130 : Below w13.heap.size w13 w13.drew := below_dr (Below.refl _ _) 1
        have hb131 : Below w13.heap.size w13 (w13.alloc (.cells #[.int .i64 cc] 3)).drew := below_dr (below_new _ _) 1
        clear hk13 hX13
        go_region_held3 (fun w' => w'.cell? ⟨d, 0, none⟩ = some (.int .u32 f) ∧ w'.cell? ⟨d, 1, none⟩ = some (.int .u32 b) ∧ w'.cell? ⟨d, 2, none⟩ = some (.int .u16 g) ∧ w'.cell? ⟨e3, 0, none⟩ = some (.int .u32 yf) ∧ w'.cell? ⟨e3, 1, none⟩ = some (.int .u32 yb) ∧ w'.cell? ⟨e3, 2, none⟩ = some (.int .u16 xg))
          (first
            | exact hS.out _ (by assumption)
            | exact hS.out _ (below_next hb14 (below_new _ _))
            | go_keep)
          (first
            | (go_at_call 8; with_reducible refine (hC2.out _ hk13'.out.tab).mono ?_; rintro e14 w14 ⟨rfl, hb14⟩)
            | (go_at_call 8; with_reducible refine (hC3.out _ (hk13'.out.tab.below hb14)).mono ?_; rintro e15 w15 ⟨rfl, hb15'⟩; have hb15 : Below w13.heap.size w13 w15 := below_next hb14 hb15'))
        have hbz := below_next hb13 hb15
        have hrg2 := ranges_new hrg1 hbz
        clear hS hk13' hb130 hb131 hb14 hb15 hb15' hC2 hC3 hb13
        go_wp2_with fail
        go_roundw
        case rel => exact ⟨_, _, _, rfl, hrg2, below_next hbr1 hbz, hsub1⟩
        case measure => rw [hrg2.left_eq, hrg.left_eq]; exact hlt

end Go.Proofs.YtlpihhjdgipgnaaDoor.Sgr
