/-
  sgr: the reference's Apply.
-/
import Derived.Test.YtlpihhjdgipgnaaDoorSRef
import Derived.Test.YtlpihhjdgipgnaaDoorSApp
namespace Go.Proofs.YtlpihhjdgipgnaaDoor.Sgr
open Go Go.RowKit Go.Proofs.YtlpihhjdgipgnaaDoor.Com

theorem rflag_says {n p q : Int} (h : rflagF n = (p, q)) (w : World) : Calls Tryd.prog 17 #[.int .i64 n] w fun e w' => e = .returned (.tuple #[.int .u16 p, .int .i64 q]) ∧ w = w' := by
  have := rflag_any n w
  rw [h] at this
  exact this
theorem base_says {n p : Int} {q : Bool} (h : baseF n = (p, q)) (w : World) : Calls Tryd.prog 18 #[.int .i64 n] w fun e w' => e = .returned (.tuple #[.int .u32 p, .bool q]) ∧ w = w' := by
  have := base_any n w
  rw [h] at this
  exact this
theorem byte_says {n : Int} {b : Bool} (h : isB n = b) (w : World) : Calls Tryd.prog 19 #[.int .i64 n] w fun e w' => e = .returned (.bool b) ∧ w = w' := by
  have := byte_any n w
  rw [h] at this
  exact this
theorem r_set {n : Int} (h : n = 1 ∨ n = 2 ∨ n = 3 ∨ n = 4 ∨ n = 5 ∨ n = 7 ∨ n = 8 ∨ n = 9) : rflagF n = (flagF n, 1) := by
  rcases h with rfl | rfl | rfl | rfl | rfl | rfl | rfl | rfl <;> decide
theorem r_off {n : Int} (h : n = 22 ∨ n = 23 ∨ n = 24 ∨ n = 25 ∨ n = 27 ∨ n = 28 ∨ n = 29) : rflagF n = (endF n, 2) := by
  rcases h with rfl | rfl | rfl | rfl | rfl | rfl | rfl <;> decide
theorem b_none {n : Int} (h0 : ¬ (30 ≤ n ∧ n ≤ 37)) (h1 : ¬ (40 ≤ n ∧ n ≤ 47)) (h2 : ¬ (90 ≤ n ∧ n ≤ 97)) (h3 : ¬ (100 ≤ n ∧ n ≤ 107)) (h4 : n ≠ 39) (h5 : n ≠ 49) : baseF n = (999, false) := by
  unfold baseF
  rw [if_neg h0, if_neg h1, if_neg h2, if_neg h3, if_neg h4, if_neg h5]
theorem b_fg {n : Int} (c : Int) (h : (30 ≤ n ∧ n ≤ 37) ∨ (90 ≤ n ∧ n ≤ 97) ∨ n = 39) : baseF n = (namedF 30 82 39 c n, false) ∧ 0 ≤ namedF 30 82 39 c n ∧ namedF 30 82 39 c n ≤ 16 := by
  unfold baseF namedF
  rcases h with h | h | h
  · rw [if_pos h, if_pos (by omega)]
    exact ⟨by congr 1; omega, by omega, by omega⟩
  · rw [if_neg (by omega), if_neg (by omega), if_pos h, if_neg (by omega), if_pos (by omega)]
    exact ⟨by congr 1; omega, by omega, by omega⟩
  · subst h
    exact ⟨rfl, Int.le_refl _, by show (0 : Int) ≤ 16; decide⟩
theorem b_bg {n : Int} (c : Int) (h : (40 ≤ n ∧ n ≤ 47) ∨ (100 ≤ n ∧ n ≤ 107) ∨ n = 49) : baseF n = (namedF 40 92 49 c n, true) ∧ 0 ≤ namedF 40 92 49 c n ∧ namedF 40 92 49 c n ≤ 16 := by
  unfold baseF namedF
  rcases h with h | h | h
  · rw [if_neg (by omega), if_pos h, if_pos (by omega)]
    exact ⟨by congr 1; omega, by omega, by omega⟩
  · rw [if_neg (by omega), if_neg (by omega), if_neg (by omega), if_pos h, if_neg (by omega), if_pos (by omega)]
    exact ⟨by congr 1; omega, by omega, by omega⟩
  · subst h
    exact ⟨rfl, Int.le_refl _, by show (0 : Int) ≤ 16; decide⟩

/-- Where the reference stands. -/
structure RefAt (w0 wr : World) (d r : Nat) (A : At) (L : List Int) (l : List Int) (a : At) : Prop where
  alo : Alo w0 wr d r a
  ok : a.Ok
  eq : runF A L = runF a l
section
variable {w0 wr w' w2 : World} {d r : Nat} {A a b : At} {L l t t' : List Int} {n c3 : Int} {l3 : List Int}
theorem RefAt.turn1 (h : RefAt w0 wr d r A L (n :: t) a) (h1 : n ≠ 38) (h2 : n ≠ 48) (hb : oneF a n = b) (hd : AIn w' d b) (ho : Only [d] wr w') : RefAt w0 w' d r A L t b :=
  ⟨h.alo.turn hd ho, by rw [← hb]; exact one_ok h.ok n, h.eq.trans (by rw [run_one a t h1 h2, hb])⟩
theorem RefAt.stay1 (h : RefAt w0 wr d r A L (n :: t) a) (h1 : n ≠ 38) (h2 : n ≠ 48) (hb : oneF a n = a) : RefAt w0 wr d r A L t a := ⟨h.alo, h.ok, h.eq.trans (by rw [run_one a t h1 h2, hb])⟩
theorem RefAt.fg (h : RefAt w0 wr d r A L (38 :: t) a) (hR : folF a.f t = (c3, l3)) (hd : AIn w' d ⟨c3, a.b, a.g⟩) (ho : Only [d] wr w') : RefAt w0 w' d r A L l3 ⟨c3, a.b, a.g⟩ :=
  ⟨h.alo.turn hd ho, by have := fg_ok h.ok t; rwa [hR] at this, h.eq.trans (by rw [run_fg, hR])⟩
theorem RefAt.bg (h : RefAt w0 wr d r A L (48 :: t) a) (hR : folF a.b t = (c3, l3)) (hd : AIn w' d ⟨a.f, c3, a.g⟩) (ho : Only [d] wr w') : RefAt w0 w' d r A L l3 ⟨a.f, c3, a.g⟩ :=
  ⟨h.alo.turn hd ho, by have := bg_ok h.ok t; rwa [hR] at this, h.eq.trans (by rw [run_bg, hR])⟩
theorem RefAt.fgs (h : RefAt w0 wr d r A L (38 :: t) a) (hR : folF a.f t = (a.f, l3)) : RefAt w0 wr d r A L l3 a := ⟨h.alo, h.ok, h.eq.trans (by rw [run_fg, hR])⟩
theorem RefAt.bgs (h : RefAt w0 wr d r A L (48 :: t) a) (hR : folF a.b t = (a.b, l3)) : RefAt w0 wr d r A L l3 a := ⟨h.alo, h.ok, h.eq.trans (by rw [run_bg, hR])⟩
theorem RefAt.drewN (h : RefAt w0 wr d r A L l a) (n : Nat) : RefAt w0 (wr.drewN n) d r A L l a := ⟨h.alo.new (below_dr (Below.refl _ _) n), h.ok, h.eq⟩
end

set_option maxRecDepth 100000 in
set_option maxHeartbeats 4000000 in
theorem refApply_any (a : At) (ha : a.Ok) (l : List Int) (hf : Fits .i64 l) (ao : Option Addr) (cp : Nat) (hl : l.length ≤ 1000000) (w : World) (hn : Nums w w.heap.size .i64 ao l) :
    Calls Tryd.prog 9 #[.agg #[.int .u32 a.f, .int .u32 a.b, .int .u16 a.g], .slice ao l.length cp] w fun e w' => e = .returned (.agg #[.int .u32 (applyF a l).f, .int .u32 (applyF a l).b, .int .u16 (applyF a l).g]) ∧ Below w.heap.size w w' := by
  have hmade := Lib.hid (Alo.made w a)
  by_cases h0 : l = []
  · subst h0
    clear hn
    go_enter Tryd.func9, Tryd.ntmps9
    go_wp2_with (with_reducible show wpList _ _ _ (⟨none, .store _ (.tmp 4) _, _, _, _, _⟩ :: _) _ _; go_must (refine wpList_storeAll rfl _ (.tmp 4) (.tmp 14) rfl hmade.out.res.blk _ rfl rfl (by simpa using sizeA) (by simp) (by simp [Value.oneCell']) ?_); intro w2 hr2 ho2)
    have r0 := AIn.c0 (a := zero) hr2; have r1 := AIn.c1 (a := zero) hr2; have r2 := AIn.c2 (a := zero) hr2
    simp only [zero] at r0 r1 r2
    exact bodyPost_ret (v := .agg #[.int .u32 0, .int .u32 0, .int .u16 0]) (by simp [results, Tryd.results9, go_sem, r0, r1, r2]) rfl ⟨rfl, below_on hmade.out.below ho2 hmade.out.low.2⟩
  have hE := Lib.hid (apply_cons a h0)
  have hpos : 0 < l.length := by rcases l with _ | _ <;> simp_all
  have hat : RefAt w ((w.alloc (.cells #[.int .u32 a.f, .int .u32 a.b, .int .u16 a.g] 25)).alloc (.cells #[.int .u32 0, .int .u32 0, .int .u16 0] 25)) w.heap.size (w.heap.size + 1) a l (l.drop 0) a := ⟨hmade.out, ha, rfl⟩
  replace hat := Lib.hid hat
  clear hmade h0 ha
  obtain ⟨d, hd⟩ : ∃ d, d = w.heap.size := ⟨_, rfl⟩
  obtain ⟨r, hr⟩ : ∃ r, r = w.heap.size + 1 := ⟨_, rfl⟩
  have hN0 : ((l.length : Int) == 0) = false := beq_eq_false_iff_ne.2 (by omega)
  have hNums := Lib.hid hn
  clear hn
  obtain ⟨N, hN⟩ : ∃ N, N = l.length := ⟨_, rfl⟩
  rw [← hN] at hN0 hpos hl ⊢
  replace hN := Lib.hid hN
  go_enter Tryd.func9, Tryd.ntmps9
  go_wp2_with fail
  rw [← hr, ← hd] at hat ⊢
  generalize ((w.alloc (.cells #[.int .u32 a.f, .int .u32 a.b, .int .u16 a.g] 25)).alloc (.cells #[.int .u32 0, .int .u32 0, .int .u16 0] 25)) = w1 at hat ⊢
  clear hd hr
  go_loopw [5] (fun i wr => ∃ (k : Nat) (a' : At), i = .int .i64 k ∧ k ≤ N ∧ Hid (RefAt w wr d r a l (l.drop k) a')) (fun i _ => N - (intOf i).toNat)
  case atStart => exact ⟨0, a, rfl, by omega, hat⟩
  case round =>
    obtain ⟨k, a', rfl, hk, hat'⟩ := hrel
    clear hat
    rename_i wr _
    by_cases hge : N ≤ k
    · have hlt : ¬ k < N := by omega
      have hE2 : applyF a l = a' := by rw [hE.out, hat'.out.eq, List.drop_of_length_le (by have := hN.out; omega), run_nil]
      have m0 := hat'.out.alo.att.c0
      have m1 := hat'.out.alo.att.c1
      have m2 := hat'.out.alo.att.c2
      obtain ⟨f, b, g⟩ := a'
      simp only at m0 m1 m2
      go_wp2_with (with_reducible show wpList _ _ _ (⟨none, .store _ (.tmp 4) _, _, _, _, _⟩ :: _) _ _; go_must (refine wpList_storeAll rfl _ (.tmp 4) (.tmp 170) rfl hat'.out.alo.res.blk _ rfl rfl (by simpa using sizeA) (by simp) (by simp [Value.oneCell']) ?_); intro w9 hr9 ho9)
      have r0 := AIn.c0 (a := ⟨f, b, g⟩) hr9
      have r1 := AIn.c1 (a := ⟨f, b, g⟩) hr9
      have r2 := AIn.c2 (a := ⟨f, b, g⟩) hr9
      simp only at r0 r1 r2
      exact bodyPost_ret (v := .agg #[.int .u32 f, .int .u32 b, .int .u16 g]) (by simp [results, Tryd.results9, go_sem, r0, r1, r2]) rfl ⟨by rw [hE2], below_on hat'.out.alo.below ho9 hat'.out.alo.low.2⟩
    have hlt : k < N := by omega
    clear hge
    have hkl : k < l.length := by have := hN.out; omega
    have hwr := hat'.out.alo.below
    obtain ⟨ad, rfl, _, c0⟩ := (hNums.out.below hwr (Nat.le_refl _)).at hkl
    have hdrop : l.drop k = l[k] :: l.drop (k + 1) := List.drop_eq_getElem_cons hkl
    rw [hdrop] at hat'
    have hnm : l[k] ≤ 9223372036854775807 := fits_le hf (List.getElem_mem hkl)
    have hcell := Lib.hid (fun j x (hx : l[j]? = some x) => (hNums.out.below hwr (Nat.le_refl _)) j x hx)
    have hdropL := Lib.hid (rfl : l.drop (k + 1) = l.drop (k + 1))
    generalize l[k] = n at hat' c0 hnm
    clear hdrop hwr hdropL
    have m0 := hat'.out.alo.att.c0
    have m1 := hat'.out.alo.att.c1
    have m2 := hat'.out.alo.att.c2
    have e1 : ((k : Int) + 1).toNat = k + 1 := by omega
    by_cases h38 : n = 38
    · subst h38
      have hfl := Lib.hid (fun w' => rflag_says (n := 38) (p := 0) (q := 0) (by decide) w')
      have hba := Lib.hid (fun w' => base_says (n := 38) (p := 999) (q := false) (by decide) w')
      rcases fol_cases (l.drop (k + 1)) with ⟨y, t, ht⟩ | ⟨x, y, z, t, ht⟩ | hD
      · have hlen : t.length + 2 = N - (k + 1) := by have h1 := congrArg List.length ht; have h2 := hN.out; simp only [List.length_drop, List.length_cons] at h1; omega
        have g0 : l[k + 1]? = some 5 := by have := congrArg (·[0]?) ht; simpa using this
        have g1 : l[k + 2]? = some y := by have := congrArg (·[1]?) ht; simpa using this
        have hnx : l.drop (k + 3) = t := by have := congrArg (List.drop 2) ht; simpa [List.drop_drop] using this
        replace hnx := Lib.hid hnx
        obtain ⟨ad', e', _, d1⟩ := hcell.out _ _ g0
        cases e'
        obtain ⟨ad', e', _, d2⟩ := hcell.out _ _ g1
        cases e'
        rw [show ad.add (k + 1) = ⟨ad.block, ad.off + (k + 1), none⟩ from rfl] at d1
        rw [show ad.add (k + 2) = ⟨ad.block, ad.off + (k + 2), none⟩ from rfl] at d2
        rw [ht] at hat'
        have e2 : ((k : Int) + 1 + 1).toNat = k + 2 := by omega
        have q1 : k + 2 < N := by omega
        clear ht g0 g1 hlen
        rcases hi : isB y with _ | _
        · have hby := Lib.hid (fun w' => byte_says hi w')
          have hR : Hid (folF a'.f (5 :: y :: t) = (a'.f, t)) := by show _ = _; rw [fol_five, hi]; rfl
          as_aux_lemma =>
            go_wp2_with (first
              | (go_at_call 17; refine (hfl.out _).mono ?_; rintro e w' ⟨rfl, rfl⟩)
              | (go_at_call 18; refine (hba.out _).mono ?_; rintro e w' ⟨rfl, rfl⟩)
              | (go_at_call 19; refine (hby.out _).mono ?_; rintro e w' ⟨rfl, rfl⟩))
            go_roundw
            case rel => exact ⟨k + 3, a', by go_num, by omega, Lib.hid (by rw [hnx.out]; exact hat'.out.fgs hR.out)⟩
            case measure => simp [intOf]; omega
        · have hby := Lib.hid (fun w' => byte_says hi w')
          have hR : Hid (folF a'.f (5 :: y :: t) = (y + 1, t)) := by show _ = _; rw [fol_five, hi]; rfl
          simp only [isB, decide_eq_true_eq] at hi
          obtain ⟨y0, y1⟩ := hi
          have z1 : ((y + 1 : Int) == 999) = false := beq_eq_false_iff_ne.2 (by omega)
          have z2 : ((y + 1 : Int) != 999) = true := by simp; omega
          as_aux_lemma =>
            go_wp2_with (first
              | (go_at_call 17; refine (hfl.out _).mono ?_; rintro e w' ⟨rfl, rfl⟩)
              | (go_at_call 18; refine (hba.out _).mono ?_; rintro e w' ⟨rfl, rfl⟩)
              | (go_at_call 19; refine (hby.out _).mono ?_; rintro e w' ⟨rfl, rfl⟩)
              | (with_reducible show wpList _ _ _ (⟨none, .store _ (.tmp 161) _, _, _, _, _⟩ :: _) _ _; go_must (refine wpList_store1 rfl _ (.tmp 161) (.tmp 160) rfl hat'.out.alo.att.blk (.int _ _) rfl rfl (by simp) (by exact size32) rfl ?_); intro w4 hd4 ho4; dsimp only [Act.put]))
            go_roundw
            case rel => exact ⟨k + 3, ⟨y + 1, a'.b, a'.g⟩, by go_num, by omega, Lib.hid (by rw [hnx.out]; exact hat'.out.fg hR.out hd4 ho4)⟩
            case measure => simp [intOf]; omega
      · have hlen : t.length + 4 = N - (k + 1) := by have h1 := congrArg List.length ht; have h2 := hN.out; simp only [List.length_drop, List.length_cons] at h1; omega
        have g0 : l[k + 1]? = some 2 := by have := congrArg (·[0]?) ht; simpa using this
        have g1 : l[k + 2]? = some x := by have := congrArg (·[1]?) ht; simpa using this
        have g2 : l[k + 3]? = some y := by have := congrArg (·[2]?) ht; simpa using this
        have g3 : l[k + 4]? = some z := by have := congrArg (·[3]?) ht; simpa using this
        have hnx : l.drop (k + 5) = t := by have := congrArg (List.drop 4) ht; simpa [List.drop_drop] using this
        replace hnx := Lib.hid hnx
        obtain ⟨ad', e', _, d1⟩ := hcell.out _ _ g0
        cases e'
        obtain ⟨ad', e', _, d2⟩ := hcell.out _ _ g1
        cases e'
        obtain ⟨ad', e', _, d3⟩ := hcell.out _ _ g2
        cases e'
        obtain ⟨ad', e', _, d4⟩ := hcell.out _ _ g3
        cases e'
        rw [show ad.add (k + 1) = ⟨ad.block, ad.off + (k + 1), none⟩ from rfl] at d1
        rw [show ad.add (k + 2) = ⟨ad.block, ad.off + (k + 2), none⟩ from rfl] at d2
        rw [show ad.add (k + 3) = ⟨ad.block, ad.off + (k + 3), none⟩ from rfl] at d3
        rw [show ad.add (k + 4) = ⟨ad.block, ad.off + (k + 4), none⟩ from rfl] at d4
        rw [ht] at hat'
        have e2 : ((k : Int) + 1 + 1).toNat = k + 2 := by omega
        have e3 : ((k : Int) + 1 + 2).toNat = k + 3 := by omega
        have e4 : ((k : Int) + 1 + 3).toNat = k + 4 := by omega
        have q1 : k + 4 < N := by omega
        clear ht g0 g1 g2 g3 hlen
        rcases hi : (isB x && isB y && isB z) with _ | _
        · have hR : Hid (folF a'.f (2 :: x :: y :: z :: t) = (a'.f, t)) := by show _ = _; rw [fol_two, hi]; rfl
          rcases hx : isB x with _ | _
          · have hx' := Lib.hid hx
            as_aux_lemma =>
              go_wp2_with (first
                | (go_at_call 17; refine (hfl.out _).mono ?_; rintro e w' ⟨rfl, rfl⟩)
                | (go_at_call 18; refine (hba.out _).mono ?_; rintro e w' ⟨rfl, rfl⟩)
                | (go_at_call 19; refine (byte_any _ _).mono ?_; rintro e w' ⟨rfl, rfl⟩; rw [hx'.out]))
              go_roundw
              case rel => exact ⟨k + 5, a', by go_num, by omega, Lib.hid (by rw [hnx.out]; exact hat'.out.fgs hR.out)⟩
              case measure => simp [intOf]; omega
          rcases hy : isB y with _ | _
          · have hx' := Lib.hid hx
            have hy' := Lib.hid hy
            as_aux_lemma =>
              go_wp2_with (first
                | (go_at_call 17; refine (hfl.out _).mono ?_; rintro e w' ⟨rfl, rfl⟩)
                | (go_at_call 18; refine (hba.out _).mono ?_; rintro e w' ⟨rfl, rfl⟩)
                | (go_at_call 19; refine (byte_any _ _).mono ?_; rintro e w' ⟨rfl, rfl⟩; first | rw [hx'.out] | rw [hy'.out]))
              go_roundw
              case rel => exact ⟨k + 5, a', by go_num, by omega, Lib.hid (by rw [hnx.out]; exact hat'.out.fgs hR.out)⟩
              case measure => simp [intOf]; omega
          rcases hz : isB z with _ | _
          · have hx' := Lib.hid hx
            have hy' := Lib.hid hy
            have hz' := Lib.hid hz
            as_aux_lemma =>
              go_wp2_with (first
                | (go_at_call 17; refine (hfl.out _).mono ?_; rintro e w' ⟨rfl, rfl⟩)
                | (go_at_call 18; refine (hba.out _).mono ?_; rintro e w' ⟨rfl, rfl⟩)
                | (go_at_call 19; refine (byte_any _ _).mono ?_; rintro e w' ⟨rfl, rfl⟩; first | rw [hx'.out] | rw [hy'.out] | rw [hz'.out]))
              go_roundw
              case rel => exact ⟨k + 5, a', by go_num, by omega, Lib.hid (by rw [hnx.out]; exact hat'.out.fgs hR.out)⟩
              case measure => simp [intOf]; omega
          · rw [hx, hy, hz] at hi
            cases hi
        · have hR : Hid (folF a'.f (2 :: x :: y :: z :: t) = (rgbF x y z, t)) := by show _ = _; rw [fol_two, hi]; rfl
          simp only [Bool.and_eq_true] at hi
          obtain ⟨⟨hx, hy⟩, hz⟩ := hi
          have hx' := Lib.hid hx
          have hy' := Lib.hid hy
          have hz' := Lib.hid hz
          simp only [isB, decide_eq_true_eq] at hx hy hz
          obtain ⟨x0, x1⟩ := hx
          obtain ⟨y0, y1⟩ := hy
          obtain ⟨w0, w1⟩ := hz
          have z1 : ((16777216 + x * 65536 + y * 256 + z : Int) == 999) = false := beq_eq_false_iff_ne.2 (by omega)
          have z2 : ((16777216 + x * 65536 + y * 256 + z : Int) != 999) = true := by simp; omega
          as_aux_lemma =>
            go_wp2_with (first
              | (go_at_call 17; refine (hfl.out _).mono ?_; rintro e w' ⟨rfl, rfl⟩)
              | (go_at_call 18; refine (hba.out _).mono ?_; rintro e w' ⟨rfl, rfl⟩)
              | (go_at_call 19; refine (byte_any _ _).mono ?_; rintro e w' ⟨rfl, rfl⟩; first | rw [hx'.out] | rw [hy'.out] | rw [hz'.out]))
            go_quiet (fail)
            have hat2 := Lib.hid (hat'.out.drewN nq)
            go_wp2_with (with_reducible show wpList _ _ _ (⟨none, .store _ (.tmp 161) _, _, _, _, _⟩ :: _) _ _; go_must (refine wpList_store1 rfl _ (.tmp 161) (.tmp 160) rfl hat2.out.alo.att.blk (.int _ _) rfl rfl (by simp) (by exact size32) rfl ?_); intro w4 hd4 ho4; dsimp only [Act.put])
            go_roundw
            case rel => exact ⟨k + 5, ⟨rgbF x y z, a'.b, a'.g⟩, by go_num, by omega, Lib.hid (by rw [hnx.out]; exact hat2.out.fg hR.out hd4 ho4)⟩
            case measure => simp [intOf]; omega
      · have hE2 : applyF a l = a' := by rw [hE.out, hat'.out.eq, run_fg, fol_dumb hD, run_nil]
        replace hE2 := Lib.hid hE2
        have hlen : (l.drop (k + 1)).length = N - (k + 1) := by have := hN.out; simp; omega
        obtain ⟨D5, D2⟩ := hD
        rw [hlen] at D5 D2
        obtain ⟨f, b, g⟩ := a'
        simp only at m0 m1 m2
        by_cases q1 : k + 2 < N
        · obtain ⟨v, hv⟩ : ∃ v, l[k + 1]? = some v := ⟨l[k + 1]'(by have := hN.out; omega), List.getElem?_eq_getElem _⟩
          have e0 : (l.drop (k + 1)).getD 0 0 = v := by simp [List.getD, hv]
          rw [e0] at D5 D2
          obtain ⟨ad', e', _, d1⟩ := hcell.out _ _ hv
          cases e'
          rw [show ad.add (k + 1) = ⟨ad.block, ad.off + (k + 1), none⟩ from rfl] at d1
          have v5 : (v == 5) = false := by simpa using D5 (by omega)
          clear hv e0 D5 hlen
          by_cases q2 : k + 4 < N
          · have v2 : (v == 2) = false := by simpa using D2 (by omega)
            clear D2
            as_aux_lemma =>
              go_wp2_with (first
                | (go_at_call 17; refine (hfl.out _).mono ?_; rintro e w' ⟨rfl, rfl⟩)
                | (go_at_call 18; refine (hba.out _).mono ?_; rintro e w' ⟨rfl, rfl⟩)
                | (with_reducible show wpList _ _ _ (⟨none, .store _ (.tmp 4) _, _, _, _, _⟩ :: _) _ _; go_must (refine wpList_storeAll rfl _ (.tmp 4) (.tmp 65) rfl hat'.out.alo.res.blk _ rfl rfl (by simpa using sizeA) (by simp) (by simp [Value.oneCell']) ?_); intro w9 hr9 ho9))
              have r0 := AIn.c0 (a := ⟨f, b, g⟩) hr9
              have r1 := AIn.c1 (a := ⟨f, b, g⟩) hr9
              have r2 := AIn.c2 (a := ⟨f, b, g⟩) hr9
              simp only at r0 r1 r2
              exact bodyPost_ret (v := .agg #[.int .u32 f, .int .u32 b, .int .u16 g]) (by simp [results, Tryd.results9, go_sem, r0, r1, r2]) rfl ⟨by rw [hE2.out], below_on hat'.out.alo.below ho9 hat'.out.alo.low.2⟩
          · clear D2
            as_aux_lemma =>
              go_wp2_with (first
                | (go_at_call 17; refine (hfl.out _).mono ?_; rintro e w' ⟨rfl, rfl⟩)
                | (go_at_call 18; refine (hba.out _).mono ?_; rintro e w' ⟨rfl, rfl⟩)
                | (with_reducible show wpList _ _ _ (⟨none, .store _ (.tmp 4) _, _, _, _, _⟩ :: _) _ _; go_must (refine wpList_storeAll rfl _ (.tmp 4) (.tmp 65) rfl hat'.out.alo.res.blk _ rfl rfl (by simpa using sizeA) (by simp) (by simp [Value.oneCell']) ?_); intro w9 hr9 ho9))
              have r0 := AIn.c0 (a := ⟨f, b, g⟩) hr9
              have r1 := AIn.c1 (a := ⟨f, b, g⟩) hr9
              have r2 := AIn.c2 (a := ⟨f, b, g⟩) hr9
              simp only at r0 r1 r2
              exact bodyPost_ret (v := .agg #[.int .u32 f, .int .u32 b, .int .u16 g]) (by simp [results, Tryd.results9, go_sem, r0, r1, r2]) rfl ⟨by rw [hE2.out], below_on hat'.out.alo.below ho9 hat'.out.alo.low.2⟩
        · clear D5 D2 hlen
          as_aux_lemma =>
            go_wp2_with (first
              | (go_at_call 17; refine (hfl.out _).mono ?_; rintro e w' ⟨rfl, rfl⟩)
              | (go_at_call 18; refine (hba.out _).mono ?_; rintro e w' ⟨rfl, rfl⟩)
              | (with_reducible show wpList _ _ _ (⟨none, .store _ (.tmp 4) _, _, _, _, _⟩ :: _) _ _; go_must (refine wpList_storeAll rfl _ (.tmp 4) (.tmp 65) rfl hat'.out.alo.res.blk _ rfl rfl (by simpa using sizeA) (by simp) (by simp [Value.oneCell']) ?_); intro w9 hr9 ho9))
            have r0 := AIn.c0 (a := ⟨f, b, g⟩) hr9
            have r1 := AIn.c1 (a := ⟨f, b, g⟩) hr9
            have r2 := AIn.c2 (a := ⟨f, b, g⟩) hr9
            simp only at r0 r1 r2
            exact bodyPost_ret (v := .agg #[.int .u32 f, .int .u32 b, .int .u16 g]) (by simp [results, Tryd.results9, go_sem, r0, r1, r2]) rfl ⟨by rw [hE2.out], below_on hat'.out.alo.below ho9 hat'.out.alo.low.2⟩
    by_cases h48 : n = 48
    · subst h48
      have hfl := Lib.hid (fun w' => rflag_says (n := 48) (p := 0) (q := 0) (by decide) w')
      have hba := Lib.hid (fun w' => base_says (n := 48) (p := 999) (q := false) (by decide) w')
      rcases fol_cases (l.drop (k + 1)) with ⟨y, t, ht⟩ | ⟨x, y, z, t, ht⟩ | hD
      · have hlen : t.length + 2 = N - (k + 1) := by have h1 := congrArg List.length ht; have h2 := hN.out; simp only [List.length_drop, List.length_cons] at h1; omega
        have g0 : l[k + 1]? = some 5 := by have := congrArg (·[0]?) ht; simpa using this
        have g1 : l[k + 2]? = some y := by have := congrArg (·[1]?) ht; simpa using this
        have hnx : l.drop (k + 3) = t := by have := congrArg (List.drop 2) ht; simpa [List.drop_drop] using this
        replace hnx := Lib.hid hnx
        obtain ⟨ad', e', _, d1⟩ := hcell.out _ _ g0
        cases e'
        obtain ⟨ad', e', _, d2⟩ := hcell.out _ _ g1
        cases e'
        rw [show ad.add (k + 1) = ⟨ad.block, ad.off + (k + 1), none⟩ from rfl] at d1
        rw [show ad.add (k + 2) = ⟨ad.block, ad.off + (k + 2), none⟩ from rfl] at d2
        rw [ht] at hat'
        have e2 : ((k : Int) + 1 + 1).toNat = k + 2 := by omega
        have q1 : k + 2 < N := by omega
        clear ht g0 g1 hlen
        rcases hi : isB y with _ | _
        · have hby := Lib.hid (fun w' => byte_says hi w')
          have hR : Hid (folF a'.b (5 :: y :: t) = (a'.b, t)) := by show _ = _; rw [fol_five, hi]; rfl
          as_aux_lemma =>
            go_wp2_with (first
              | (go_at_call 17; refine (hfl.out _).mono ?_; rintro e w' ⟨rfl, rfl⟩)
              | (go_at_call 18; refine (hba.out _).mono ?_; rintro e w' ⟨rfl, rfl⟩)
              | (go_at_call 19; refine (hby.out _).mono ?_; rintro e w' ⟨rfl, rfl⟩))
            go_roundw
            case rel => exact ⟨k + 3, a', by go_num, by omega, Lib.hid (by rw [hnx.out]; exact hat'.out.bgs hR.out)⟩
            case measure => simp [intOf]; omega
        · have hby := Lib.hid (fun w' => byte_says hi w')
          have hR : Hid (folF a'.b (5 :: y :: t) = (y + 1, t)) := by show _ = _; rw [fol_five, hi]; rfl
          simp only [isB, decide_eq_true_eq] at hi
          obtain ⟨y0, y1⟩ := hi
          have z1 : ((y + 1 : Int) == 999) = false := beq_eq_false_iff_ne.2 (by omega)
          have z2 : ((y + 1 : Int) != 999) = true := by simp; omega
          as_aux_lemma =>
            go_wp2_with (first
              | (go_at_call 17; refine (hfl.out _).mono ?_; rintro e w' ⟨rfl, rfl⟩)
              | (go_at_call 18; refine (hba.out _).mono ?_; rintro e w' ⟨rfl, rfl⟩)
              | (go_at_call 19; refine (hby.out _).mono ?_; rintro e w' ⟨rfl, rfl⟩)
              | (with_reducible show wpList _ _ _ (⟨none, .store _ (.tmp 169) _, _, _, _, _⟩ :: _) _ _; go_must (refine wpList_store1 rfl _ (.tmp 169) (.tmp 168) rfl hat'.out.alo.att.blk (.int _ _) rfl rfl (by simp) (by exact size32) rfl ?_); intro w4 hd4 ho4; dsimp only [Act.put]))
            go_roundw
            case rel => exact ⟨k + 3, ⟨a'.f, y + 1, a'.g⟩, by go_num, by omega, Lib.hid (by rw [hnx.out]; exact hat'.out.bg hR.out hd4 ho4)⟩
            case measure => simp [intOf]; omega
      · have hlen : t.length + 4 = N - (k + 1) := by have h1 := congrArg List.length ht; have h2 := hN.out; simp only [List.length_drop, List.length_cons] at h1; omega
        have g0 : l[k + 1]? = some 2 := by have := congrArg (·[0]?) ht; simpa using this
        have g1 : l[k + 2]? = some x := by have := congrArg (·[1]?) ht; simpa using this
        have g2 : l[k + 3]? = some y := by have := congrArg (·[2]?) ht; simpa using this
        have g3 : l[k + 4]? = some z := by have := congrArg (·[3]?) ht; simpa using this
        have hnx : l.drop (k + 5) = t := by have := congrArg (List.drop 4) ht; simpa [List.drop_drop] using this
        replace hnx := Lib.hid hnx
        obtain ⟨ad', e', _, d1⟩ := hcell.out _ _ g0
        cases e'
        obtain ⟨ad', e', _, d2⟩ := hcell.out _ _ g1
        cases e'
        obtain ⟨ad', e', _, d3⟩ := hcell.out _ _ g2
        cases e'
        obtain ⟨ad', e', _, d4⟩ := hcell.out _ _ g3
        cases e'
        rw [show ad.add (k + 1) = ⟨ad.block, ad.off + (k + 1), none⟩ from rfl] at d1
        rw [show ad.add (k + 2) = ⟨ad.block, ad.off + (k + 2), none⟩ from rfl] at d2
        rw [show ad.add (k + 3) = ⟨ad.block, ad.off + (k + 3), none⟩ from rfl] at d3
        rw [show ad.add (k + 4) = ⟨ad.block, ad.off + (k + 4), none⟩ from rfl] at d4
        rw [ht] at hat'
        have e2 : ((k : Int) + 1 + 1).toNat = k + 2 := by omega
        have e3 : ((k : Int) + 1 + 2).toNat = k + 3 := by omega
        have e4 : ((k : Int) + 1 + 3).toNat = k + 4 := by omega
        have q1 : k + 4 < N := by omega
        clear ht g0 g1 g2 g3 hlen
        rcases hi : (isB x && isB y && isB z) with _ | _
        · have hR : Hid (folF a'.b (2 :: x :: y :: z :: t) = (a'.b, t)) := by show _ = _; rw [fol_two, hi]; rfl
          rcases hx : isB x with _ | _
          · have hx' := Lib.hid hx
            as_aux_lemma =>
              go_wp2_with (first
                | (go_at_call 17; refine (hfl.out _).mono ?_; rintro e w' ⟨rfl, rfl⟩)
                | (go_at_call 18; refine (hba.out _).mono ?_; rintro e w' ⟨rfl, rfl⟩)
                | (go_at_call 19; refine (byte_any _ _).mono ?_; rintro e w' ⟨rfl, rfl⟩; rw [hx'.out]))
              go_roundw
              case rel => exact ⟨k + 5, a', by go_num, by omega, Lib.hid (by rw [hnx.out]; exact hat'.out.bgs hR.out)⟩
              case measure => simp [intOf]; omega
          rcases hy : isB y with _ | _
          · have hx' := Lib.hid hx
            have hy' := Lib.hid hy
            as_aux_lemma =>
              go_wp2_with (first
                | (go_at_call 17; refine (hfl.out _).mono ?_; rintro e w' ⟨rfl, rfl⟩)
                | (go_at_call 18; refine (hba.out _).mono ?_; rintro e w' ⟨rfl, rfl⟩)
                | (go_at_call 19; refine (byte_any _ _).mono ?_; rintro e w' ⟨rfl, rfl⟩; first | rw [hx'.out] | rw [hy'.out]))
              go_roundw
              case rel => exact ⟨k + 5, a', by go_num, by omega, Lib.hid (by rw [hnx.out]; exact hat'.out.bgs hR.out)⟩
              case measure => simp [intOf]; omega
          rcases hz : isB z with _ | _
          · have hx' := Lib.hid hx
            have hy' := Lib.hid hy
            have hz' := Lib.hid hz
            as_aux_lemma =>
              go_wp2_with (first
                | (go_at_call 17; refine (hfl.out _).mono ?_; rintro e w' ⟨rfl, rfl⟩)
                | (go_at_call 18; refine (hba.out _).mono ?_; rintro e w' ⟨rfl, rfl⟩)
                | (go_at_call 19; refine (byte_any _ _).mono ?_; rintro e w' ⟨rfl, rfl⟩; first | rw [hx'.out] | rw [hy'.out] | rw [hz'.out]))
              go_roundw
              case rel => exact ⟨k + 5, a', by go_num, by omega, Lib.hid (by rw [hnx.out]; exact hat'.out.bgs hR.out)⟩
              case measure => simp [intOf]; omega
          · rw [hx, hy, hz] at hi
            cases hi
        · have hR : Hid (folF a'.b (2 :: x :: y :: z :: t) = (rgbF x y z, t)) := by show _ = _; rw [fol_two, hi]; rfl
          simp only [Bool.and_eq_true] at hi
          obtain ⟨⟨hx, hy⟩, hz⟩ := hi
          have hx' := Lib.hid hx
          have hy' := Lib.hid hy
          have hz' := Lib.hid hz
          simp only [isB, decide_eq_true_eq] at hx hy hz
          obtain ⟨x0, x1⟩ := hx
          obtain ⟨y0, y1⟩ := hy
          obtain ⟨w0, w1⟩ := hz
          have z1 : ((16777216 + x * 65536 + y * 256 + z : Int) == 999) = false := beq_eq_false_iff_ne.2 (by omega)
          have z2 : ((16777216 + x * 65536 + y * 256 + z : Int) != 999) = true := by simp; omega
          as_aux_lemma =>
            go_wp2_with (first
              | (go_at_call 17; refine (hfl.out _).mono ?_; rintro e w' ⟨rfl, rfl⟩)
              | (go_at_call 18; refine (hba.out _).mono ?_; rintro e w' ⟨rfl, rfl⟩)
              | (go_at_call 19; refine (byte_any _ _).mono ?_; rintro e w' ⟨rfl, rfl⟩; first | rw [hx'.out] | rw [hy'.out] | rw [hz'.out]))
            go_quiet (fail)
            have hat2 := Lib.hid (hat'.out.drewN nq)
            go_wp2_with (with_reducible show wpList _ _ _ (⟨none, .store _ (.tmp 169) _, _, _, _, _⟩ :: _) _ _; go_must (refine wpList_store1 rfl _ (.tmp 169) (.tmp 168) rfl hat2.out.alo.att.blk (.int _ _) rfl rfl (by simp) (by exact size32) rfl ?_); intro w4 hd4 ho4; dsimp only [Act.put])
            go_roundw
            case rel => exact ⟨k + 5, ⟨a'.f, rgbF x y z, a'.g⟩, by go_num, by omega, Lib.hid (by rw [hnx.out]; exact hat2.out.bg hR.out hd4 ho4)⟩
            case measure => simp [intOf]; omega
      · have hE2 : applyF a l = a' := by rw [hE.out, hat'.out.eq, run_bg, fol_dumb hD, run_nil]
        replace hE2 := Lib.hid hE2
        have hlen : (l.drop (k + 1)).length = N - (k + 1) := by have := hN.out; simp; omega
        obtain ⟨D5, D2⟩ := hD
        rw [hlen] at D5 D2
        obtain ⟨f, b, g⟩ := a'
        simp only at m0 m1 m2
        by_cases q1 : k + 2 < N
        · obtain ⟨v, hv⟩ : ∃ v, l[k + 1]? = some v := ⟨l[k + 1]'(by have := hN.out; omega), List.getElem?_eq_getElem _⟩
          have e0 : (l.drop (k + 1)).getD 0 0 = v := by simp [List.getD, hv]
          rw [e0] at D5 D2
          obtain ⟨ad', e', _, d1⟩ := hcell.out _ _ hv
          cases e'
          rw [show ad.add (k + 1) = ⟨ad.block, ad.off + (k + 1), none⟩ from rfl] at d1
          have v5 : (v == 5) = false := by simpa using D5 (by omega)
          clear hv e0 D5 hlen
          by_cases q2 : k + 4 < N
          · have v2 : (v == 2) = false := by simpa using D2 (by omega)
            clear D2
            as_aux_lemma =>
              go_wp2_with (first
                | (go_at_call 17; refine (hfl.out _).mono ?_; rintro e w' ⟨rfl, rfl⟩)
                | (go_at_call 18; refine (hba.out _).mono ?_; rintro e w' ⟨rfl, rfl⟩)
                | (with_reducible show wpList _ _ _ (⟨none, .store _ (.tmp 4) _, _, _, _, _⟩ :: _) _ _; go_must (refine wpList_storeAll rfl _ (.tmp 4) (.tmp 65) rfl hat'.out.alo.res.blk _ rfl rfl (by simpa using sizeA) (by simp) (by simp [Value.oneCell']) ?_); intro w9 hr9 ho9))
              have r0 := AIn.c0 (a := ⟨f, b, g⟩) hr9
              have r1 := AIn.c1 (a := ⟨f, b, g⟩) hr9
              have r2 := AIn.c2 (a := ⟨f, b, g⟩) hr9
              simp only at r0 r1 r2
              exact bodyPost_ret (v := .agg #[.int .u32 f, .int .u32 b, .int .u16 g]) (by simp [results, Tryd.results9, go_sem, r0, r1, r2]) rfl ⟨by rw [hE2.out], below_on hat'.out.alo.below ho9 hat'.out.alo.low.2⟩
          · clear D2
            as_aux_lemma =>
              go_wp2_with (first
                | (go_at_call 17; refine (hfl.out _).mono ?_; rintro e w' ⟨rfl, rfl⟩)
                | (go_at_call 18; refine (hba.out _).mono ?_; rintro e w' ⟨rfl, rfl⟩)
                | (with_reducible show wpList _ _ _ (⟨none, .store _ (.tmp 4) _, _, _, _, _⟩ :: _) _ _; go_must (refine wpList_storeAll rfl _ (.tmp 4) (.tmp 65) rfl hat'.out.alo.res.blk _ rfl rfl (by simpa using sizeA) (by simp) (by simp [Value.oneCell']) ?_); intro w9 hr9 ho9))
              have r0 := AIn.c0 (a := ⟨f, b, g⟩) hr9
              have r1 := AIn.c1 (a := ⟨f, b, g⟩) hr9
              have r2 := AIn.c2 (a := ⟨f, b, g⟩) hr9
              simp only at r0 r1 r2
              exact bodyPost_ret (v := .agg #[.int .u32 f, .int .u32 b, .int .u16 g]) (by simp [results, Tryd.results9, go_sem, r0, r1, r2]) rfl ⟨by rw [hE2.out], below_on hat'.out.alo.below ho9 hat'.out.alo.low.2⟩
        · clear D5 D2 hlen
          as_aux_lemma =>
            go_wp2_with (first
              | (go_at_call 17; refine (hfl.out _).mono ?_; rintro e w' ⟨rfl, rfl⟩)
              | (go_at_call 18; refine (hba.out _).mono ?_; rintro e w' ⟨rfl, rfl⟩)
              | (with_reducible show wpList _ _ _ (⟨none, .store _ (.tmp 4) _, _, _, _, _⟩ :: _) _ _; go_must (refine wpList_storeAll rfl _ (.tmp 4) (.tmp 65) rfl hat'.out.alo.res.blk _ rfl rfl (by simpa using sizeA) (by simp) (by simp [Value.oneCell']) ?_); intro w9 hr9 ho9))
            have r0 := AIn.c0 (a := ⟨f, b, g⟩) hr9
            have r1 := AIn.c1 (a := ⟨f, b, g⟩) hr9
            have r2 := AIn.c2 (a := ⟨f, b, g⟩) hr9
            simp only at r0 r1 r2
            exact bodyPost_ret (v := .agg #[.int .u32 f, .int .u32 b, .int .u16 g]) (by simp [results, Tryd.results9, go_sem, r0, r1, r2]) rfl ⟨by rw [hE2.out], below_on hat'.out.alo.below ho9 hat'.out.alo.low.2⟩
    have b38 : (n == 38) = false := by simpa using h38
    have b48 : (n == 48) = false := by simpa using h48
    have n38 : (n != 38) = true := by simpa using h38
    have n48 : (n != 48) = true := by simpa using h48
    have hnext := Lib.hid (fun w4 b (hb : oneF a' n = b) hd ho => hat'.out.turn1 (w' := w4) (b := b) h38 h48 hb hd ho)
    have hstay := Lib.hid (fun (hb : oneF a' n = a') => hat'.out.stay1 h38 h48 hb)
    have hok := Lib.hid hat'.out.ok
    rcases kinds n with h | h | h | h | h | h | h | ⟨k0, k1, k2, k3, k4, k5, k6⟩
    · subst h
      have hfl := Lib.hid (fun w' => rflag_says (n := 0) (p := 0) (q := 0) (by decide) w')
      have hba := Lib.hid (fun w' => base_says (n := 0) (p := 999) (q := false) (by decide) w')
      as_aux_lemma =>
        go_wp2_with (first
          | (with_reducible show wpList _ _ _ (⟨none, .store _ (.tmp 2) _, _, _, _, _⟩ :: _) _ _; go_must (refine wpList_storeAll rfl _ (.tmp 2) (.tmp 27) rfl hat'.out.alo.att.blk _ rfl rfl (by simpa using sizeA) (by simp) (by simp [Value.oneCell']) ?_); intro w4 hd4 ho4; dsimp only [Act.put])
          | (go_at_call 17; refine (hfl.out _).mono ?_; rintro e w' ⟨rfl, rfl⟩)
          | (go_at_call 18; refine (hba.out _).mono ?_; rintro e w' ⟨rfl, rfl⟩))
        go_roundw
        case rel => exact ⟨k + 1, _, by go_num, by omega, Lib.hid (hnext.out _ zero (one_zero a') hd4 ho4)⟩
        case measure => simp [intOf]; omega
    · have hfl := Lib.hid (fun w' => rflag_says (r_set h) w')
      have hba := Lib.hid (fun w' => base_says (b_none (n := n) (by omega) (by omega) (by omega) (by omega) (by omega) (by omega)) w')
      have hb := Lib.hid (one_set hok.out h)
      have z0 : (n == 0) = false := by simp; omega
      have hf0 := hat'.out.alo.att.free 2
      clear h
      generalize flagF n = F at hfl hb
      as_aux_lemma =>
        go_wp2_with (first
          | (with_reducible show wpList _ _ _ (⟨none, .store _ (.tmp 39) _, _, _, _, _⟩ :: _) _ _; go_must (refine wpList_store1 rfl _ (.tmp 39) (.tmp 38) rfl hat'.out.alo.att.blk (.int _ _) rfl rfl (by simp) (by exact size16) rfl ?_); intro w4 hd4 ho4; dsimp only [Act.put])
          | (go_at_call 17; refine (hfl.out _).mono ?_; rintro e w' ⟨rfl, rfl⟩)
          | (go_at_call 18; refine (hba.out _).mono ?_; rintro e w' ⟨rfl, rfl⟩))
        go_roundw
        case rel => exact ⟨k + 1, _, by go_num, by omega, Lib.hid (hnext.out _ _ hb.out hd4 ho4)⟩
        case measure => simp [intOf]; omega
    · have hfl := Lib.hid (fun w' => rflag_says (r_off h) w')
      have hba := Lib.hid (fun w' => base_says (b_none (n := n) (by omega) (by omega) (by omega) (by omega) (by omega) (by omega)) w')
      have hb := Lib.hid (one_off hok.out h)
      have z0 : (n == 0) = false := by simp; omega
      clear h
      generalize endF n = F at hfl hb
      as_aux_lemma =>
        go_wp2_with (first
          | (with_reducible show wpList _ _ _ (⟨none, .store _ (.tmp 46) _, _, _, _, _⟩ :: _) _ _; go_must (refine wpList_store1 rfl _ (.tmp 46) (.tmp 45) rfl hat'.out.alo.att.blk (.int _ _) rfl rfl (by simp) (by exact size16) rfl ?_); intro w4 hd4 ho4; dsimp only [Act.put])
          | (go_at_call 17; refine (hfl.out _).mono ?_; rintro e w' ⟨rfl, rfl⟩)
          | (go_at_call 18; refine (hba.out _).mono ?_; rintro e w' ⟨rfl, rfl⟩))
        go_roundw
        case rel => exact ⟨k + 1, _, by go_num, by omega, Lib.hid (hnext.out _ _ hb.out hd4 ho4)⟩
        case measure => simp [intOf]; omega
    · have hfl := Lib.hid (fun w' => rflag_says (rflag_else (n := n) ⟨by omega, by omega, by omega, by omega, by omega, by omega, by omega, by omega, by omega, by omega, by omega, by omega, by omega, by omega, by omega⟩) w')
      obtain ⟨e3, e4, e5⟩ := b_fg a'.f h
      have hba := Lib.hid (fun w' => base_says e3 w')
      have hb := Lib.hid (one_fg hok.out h)
      have z0 : (n == 0) = false := by simp; omega
      clear h e3
      generalize namedF 30 82 39 a'.f n = F at hba hb e4 e5
      have z1 : (F == 999) = false := by simp; omega
      have z2 : (F != 999) = true := by simp; omega
      as_aux_lemma =>
        go_wp2_with (first
          | (with_reducible show wpList _ _ _ (⟨none, .store _ (.tmp 58) _, _, _, _, _⟩ :: _) _ _; go_must (refine wpList_store1 rfl _ (.tmp 58) (.tmp 57) rfl hat'.out.alo.att.blk (.int _ _) rfl rfl (by simp) (by exact size32) rfl ?_); intro w4 hd4 ho4; dsimp only [Act.put])
          | (go_at_call 17; refine (hfl.out _).mono ?_; rintro e w' ⟨rfl, rfl⟩)
          | (go_at_call 18; refine (hba.out _).mono ?_; rintro e w' ⟨rfl, rfl⟩))
        go_roundw
        case rel => exact ⟨k + 1, _, by go_num, by omega, Lib.hid (hnext.out _ _ hb.out hd4 ho4)⟩
        case measure => simp [intOf]; omega
    · have hfl := Lib.hid (fun w' => rflag_says (rflag_else (n := n) ⟨by omega, by omega, by omega, by omega, by omega, by omega, by omega, by omega, by omega, by omega, by omega, by omega, by omega, by omega, by omega⟩) w')
      obtain ⟨e3, e4, e5⟩ := b_bg a'.b h
      have hba := Lib.hid (fun w' => base_says e3 w')
      have hb := Lib.hid (one_bg hok.out h)
      have z0 : (n == 0) = false := by simp; omega
      clear h e3
      generalize namedF 40 92 49 a'.b n = F at hba hb e4 e5
      have z1 : (F == 999) = false := by simp; omega
      have z2 : (F != 999) = true := by simp; omega
      as_aux_lemma =>
        go_wp2_with (first
          | (with_reducible show wpList _ _ _ (⟨none, .store _ (.tmp 56) _, _, _, _, _⟩ :: _) _ _; go_must (refine wpList_store1 rfl _ (.tmp 56) (.tmp 55) rfl hat'.out.alo.att.blk (.int _ _) rfl rfl (by simp) (by exact size32) rfl ?_); intro w4 hd4 ho4; dsimp only [Act.put])
          | (go_at_call 17; refine (hfl.out _).mono ?_; rintro e w' ⟨rfl, rfl⟩)
          | (go_at_call 18; refine (hba.out _).mono ?_; rintro e w' ⟨rfl, rfl⟩))
        go_roundw
        case rel => exact ⟨k + 1, _, by go_num, by omega, Lib.hid (hnext.out _ _ hb.out hd4 ho4)⟩
        case measure => simp [intOf]; omega
    · exact absurd h h38
    · exact absurd h h48
    · have hfl := Lib.hid (fun w' => rflag_says (rflag_else (n := n) ⟨by omega, by omega, by omega, by omega, by omega, by omega, by omega, by omega, by omega, by omega, by omega, by omega, by omega, by omega, by omega⟩) w')
      have hba := Lib.hid (fun w' => base_says (b_none (n := n) (by omega) (by omega) (by omega) (by omega) (by omega) (by omega)) w')
      have hb := Lib.hid (one_none hok.out k0 k1 k2 k3 k4 k5 k6)
      have z0 : (n == 0) = false := by simp; omega
      clear k0 k1 k2 k3 k4 k5 k6
      as_aux_lemma =>
        go_wp2_with (first
          | (go_at_call 17; refine (hfl.out _).mono ?_; rintro e w' ⟨rfl, rfl⟩)
          | (go_at_call 18; refine (hba.out _).mono ?_; rintro e w' ⟨rfl, rfl⟩))
        go_roundw
        case rel => exact ⟨k + 1, _, by go_num, by omega, Lib.hid (hstay.out hb.out)⟩
        case measure => simp [intOf]; omega

end Go.Proofs.YtlpihhjdgipgnaaDoor.Sgr
