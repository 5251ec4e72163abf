/-
  sgr: bytes of a list; the colour that follows; what one number does.
-/
import Derived.Test.YtlpihhjdgipgnaaDoorSLeaf
import Derived.Deep.RegionHeld3
import Derived.StillTailTactics
import Derived.Great.BuildSlice
import Derived.Deep.CutRange
namespace Go.Proofs.YtlpihhjdgipgnaaDoor.Sgr
open Go Go.RowKit Go.Proofs.YtlpihhjdgipgnaaDoor.Com

def allB (l : List Int) : Bool := l.all isB
theorem isB_yes {n : Int} (h0 : ¬ n < 0) (h1 : ¬ 255 < n) : isB n = true := by simp only [isB, decide_eq_true_eq]; omega
theorem isB_no {n : Int} (h : n < 0 ∨ 255 < n) : isB n = false := by simp only [isB, decide_eq_false_iff_not]; omega
theorem all_drop {l : List Int} {k : Nat} (h : k < l.length) : allB (l.drop k) = (isB l[k] && allB (l.drop (k + 1))) := by
  unfold allB
  rw [List.drop_eq_getElem_cons h, List.all_cons]

set_option maxHeartbeats 1000000 in
theorem areBytes_any (l : List Int) (ao : Option Addr) (c B : Nat) (hl : l.length ≤ 9223372036854775807) (w : World) (hn : Nums w B .i64 ao l) :
    Calls Tryd.prog 26 #[.slice ao l.length c] w fun e w' => e = .returned (.bool (allB l)) ∧ w = w' := by
  go_enter Tryd.func26, Tryd.ntmps26
  go_wp2
  go_loop [7] (fun i => ∃ k : Nat, k ≤ l.length ∧ i = .int .i64 k ∧ Hid (allB l = allB (l.drop k))) (fun i => l.length - (intOf i).toNat)
  case atStart => exact ⟨0, by omega, rfl, Lib.hid (by simp)⟩
  case round =>
    obtain ⟨k, hk, rfl, hs⟩ := hrel
    by_cases hlt : k < l.length
    · obtain ⟨ad, rfl, _, hc⟩ := hn.at hlt
      have hE := Lib.hid (all_drop hlt)
      clear hn
      generalize l[k] = x at hc hE
      by_cases h0 : x < 0
      · have hF := Lib.hid (isB_no (.inl h0))
        go_wp2
        go_ret
        exact ⟨ret_bool (by rw [hs.out, hE.out, hF.out]; rfl), rfl⟩
      by_cases h1 : 255 < x
      · have hF := Lib.hid (isB_no (.inr h1))
        go_wp2
        go_ret
        exact ⟨ret_bool (by rw [hs.out, hE.out, hF.out]; rfl), rfl⟩
      · have hF := Lib.hid (isB_yes h0 h1)
        go_wp2
        go_round
        case rel => exact ⟨k + 1, by omega, by go_num, Lib.hid (by rw [hs.out, hE.out, hF.out]; rfl)⟩
        case measure => simp [intOf]; omega
    · have hE : Hid (allB (l.drop k) = true) := by show _ = _; rw [List.drop_of_length_le (by omega)]; rfl
      go_wp2
      go_ret
      exact ⟨ret_bool (by rw [hs.out, hE.out]), rfl⟩

/-- An attribute's block. -/
def AIn (w : World) (d : Nat) (a : At) : Prop := Block w d 25 #[.int .u32 a.f, .int .u32 a.b, .int .u16 a.g]
section
variable {w w' : World} {d : Nat} {a : At}
theorem AIn.blk (h : AIn w d a) : Block w d 25 #[.int .u32 a.f, .int .u32 a.b, .int .u16 a.g] := h
theorem AIn.lt (h : AIn w d a) : d < w.heap.size := Block.lt h
theorem AIn.c0 (h : AIn w d a) : w.cell? ⟨d, 0, none⟩ = some (.int .u32 a.f) := Block.cell h 0 rfl
theorem AIn.c1 (h : AIn w d a) : w.cell? ⟨d, 1, none⟩ = some (.int .u32 a.b) := Block.cell h 1 rfl
theorem AIn.c2 (h : AIn w d a) : w.cell? ⟨d, 2, none⟩ = some (.int .u16 a.g) := Block.cell h 2 rfl
theorem AIn.free (h : AIn w d a) (i : Nat) : w.frozen? ⟨d, i, none⟩ = false := Block.free h i
theorem AIn.only {L : List Nat} (h : AIn w d a) (ho : Only L w w') (hn : d ∉ L) : AIn w' d a := Block.only h ho hn
theorem AIn.new (h : AIn w d a) (hb : Below w.heap.size w w') : AIn w' d a := h.only (Only.of_below hb []) (by simp)
theorem AIn.made (w : World) (a : At) : AIn (w.alloc (.cells #[.int .u32 a.f, .int .u32 a.b, .int .u16 a.g] 25)) w.heap.size a := Block.made _ _ _
end
theorem sizeA : (Tryd.prog.info? 25).map (·.size) = some 3 := by kernel_rfl
theorem size32 : (Tryd.prog.info? 22).map (·.size) = some 1 := by kernel_rfl
theorem size16 : (Tryd.prog.info? 23).map (·.size) = some 1 := by kernel_rfl

/-- What alone knows of memory: the attribute's block, the result's. -/
structure Alo (w0 w : World) (d r : Nat) (a : At) : Prop where
  att : AIn w d a
  res : AIn w r zero
  low : w0.heap.size ≤ d ∧ w0.heap.size ≤ r
  ne : d ≠ r
  below : Below w0.heap.size w0 w
section
variable {w0 w w' : World} {d r : Nat} {a a' : At}
theorem Alo.new (h : Alo w0 w d r a) (hb : Below w.heap.size w w') : Alo w0 w' d r a := ⟨h.att.new hb, h.res.new hb, h.low, h.ne, below_next h.below hb⟩
theorem Alo.turn (h : Alo w0 w d r a) (hd : AIn w' d a') (ho : Only [d] w w') : Alo w0 w' d r a' := ⟨hd, h.res.only ho (by simp; exact fun e => h.ne e.symm), h.low, h.ne, below_on h.below ho h.low.1⟩
theorem Alo.drew (h : Alo w0 w d r a) : Alo w0 w.drew d r a := h.new (below_dr (Below.refl _ _) 1)
theorem Alo.made (w : World) (a : At) : Alo w ((w.alloc (.cells #[.int .u32 a.f, .int .u32 a.b, .int .u16 a.g] 25)).alloc (.cells #[.int .u32 0, .int .u32 0, .int .u16 0] 25)) w.heap.size (w.heap.size + 1) a := by
  have h1 := AIn.made w a
  have h2 := AIn.made (w.alloc (.cells #[.int .u32 a.f, .int .u32 a.b, .int .u16 a.g] 25)) zero
  rw [World.size_alloc] at h2
  exact ⟨h1.new (below_new _ _), h2, ⟨by omega, by omega⟩, by omega, below_next (below_new _ _) (below_new _ _)⟩
theorem Alo.set0 {f b g : Int} (h : Alo w0 w d r ⟨f, b, g⟩) (x : Int) : Alo w0 (w.setCell ⟨d, 0, none⟩ (.int .u32 x)) d r ⟨x, b, g⟩ := h.turn (Block.set h.att.blk 0 _) (Only.setCell w ⟨d, 0, none⟩ _)
theorem Alo.set1 {f b g : Int} (h : Alo w0 w d r ⟨f, b, g⟩) (x : Int) : Alo w0 (w.setCell ⟨d, 1, none⟩ (.int .u32 x)) d r ⟨f, x, g⟩ := h.turn (Block.set h.att.blk 1 _) (Only.setCell w ⟨d, 1, none⟩ _)
theorem Alo.set2 {f b g : Int} (h : Alo w0 w d r ⟨f, b, g⟩) (x : Int) : Alo w0 (w.setCell ⟨d, 2, none⟩ (.int .u16 x)) d r ⟨f, b, x⟩ := h.turn (Block.set h.att.blk 2 _) (Only.setCell w ⟨d, 2, none⟩ _)
end

set_option maxHeartbeats 2000000 in
theorem alone_any (a : At) (n : Int) (hn : n ≤ 9223372036854775807) (w : World) (T : Tab w) :
    Calls Tryd.prog 16 #[.agg #[.int .u32 a.f, .int .u32 a.b, .int .u16 a.g], .int .i64 n] w fun e w' => e = .returned (.agg #[.int .u32 (oneF a n).f, .int .u32 (oneF a n).b, .int .u16 (oneF a n).g]) ∧ Below w.heap.size w w' := by
  obtain ⟨f, b, g⟩ := a
  have hmade := Lib.hid (Alo.made w ⟨f, b, g⟩)
  by_cases h0 : n = 0
  · subst h0
    go_enter Tryd.func16, Tryd.ntmps16
    go_wp2_with (with_reducible show wpList _ _ _ (⟨none, .store _ (.tmp 4) _, _, _, _, _⟩ :: _) _ _; go_must (refine wpList_storeAll rfl _ (.tmp 4) (.tmp 7) rfl hmade.out.res.blk _ rfl rfl (by simpa using sizeA) (by simp) (by simp [Value.oneCell']) ?_); intro w2 hr2 ho2)
    have r0 := AIn.c0 (a := zero) hr2; have r1 := AIn.c1 (a := zero) hr2; have r2 := AIn.c2 (a := zero) hr2
    simp only [zero] at r0 r1 r2
    exact bodyPost_ret (v := .agg #[.int .u32 0, .int .u32 0, .int .u16 0]) (by simp [results, Tryd.results16, go_sem, r0, r1, r2]) rfl ⟨rfl, below_on hmade.out.below ho2 hmade.out.low.2⟩
  have hE : Hid (oneF ⟨f, b, g⟩ n = ⟨namedF 30 82 39 f n, namedF 40 92 49 b n, orF (notF g (endF n)) (flagF n)⟩) := by show _ = _; unfold oneF; rw [if_neg h0]
  have h0' : (n == 0) = false := by simpa using h0
  have hend := Lib.hid (fun w' (hb : Below w.heap.size w w') => ended_any n hn w' (T.below hb))
  have hflag := Lib.hid (fun w' (hb : Below w.heap.size w w') => flag_any n w' (T.below hb))
  clear h0 T
  go_enter Tryd.func16, Tryd.ntmps16
  go_wp2
  replace hmade := hmade.out
  obtain ⟨r, hr⟩ : ∃ r, r = w.heap.size + 1 := ⟨_, rfl⟩
  rw [← hr] at hmade ⊢
  obtain ⟨d, hd⟩ : ∃ d, d = w.heap.size := ⟨_, rfl⟩
  have hbelow := Lib.hid hmade.drew.below
  have h2 := hmade
  rw [← hd] at h2 ⊢
  generalize ((w.alloc (.cells #[.int .u32 f, .int .u32 b, .int .u16 g] 25)).alloc (.cells #[.int .u32 0, .int .u32 0, .int .u16 0] 25)) = w1 at h2 hbelow ⊢
  have h2' := Lib.hid h2
  have c2 := h2.att.c2
  have hf2 := h2.att.free 2
  have he1 := hend.out _ hbelow.out
  have he2 := hflag.out _ hbelow.out
  clear hmade hr hd h2
  go_cut [] from 8 to 16 (fun wx => Alo w wx d r ⟨f, b, orF (notF g (endF n)) (flagF n)⟩)
  case first =>
    go_region_with (first
      | (go_at_call 28; refine (he1).mono ?_; rintro e w' ⟨rfl, rfl⟩)
      | (go_at_call 29; refine (he2).mono ?_; rintro e w' ⟨rfl, rfl⟩))
    all_goals
      go_wp2
      go_meet
      exact (h2'.out.set2 _).drew
  case rest =>
    clear he1 he2 hend hflag c2 hf2 hbelow h2' hn
    generalize hG : orF (notF g (endF n)) (flagF n) = G at hcut
    replace hG := Lib.hid hG
    go_wp2_with fail
    have h3 := Lib.hid hcut
    have c3 := hcut.att.c0
    have hf3 := hcut.att.free 0
    have hk3 := Lib.hid (fun w' (hb : Below wc.drew.heap.size wc.drew w') => (hcut.drew.new hb))
    clear hcut
    go_cut [] from 17 to 22 (fun wx => Alo w wx d r ⟨namedF 30 82 39 f n, b, G⟩)
    case first =>
      go_region_with (first
        | (go_at_call 22; refine (foreground_any _).mono ?_; rintro e w4 ⟨rfl, hb4⟩; have k4 := (hk3.out _ hb4).att.c0; have kf4 := (hk3.out _ hb4).att.free 0)
        | (go_at_call 30; refine (named_any 30 82 38 39 f n (by omega) (by omega) _).mono ?_; rintro e w5 ⟨rfl, hb5⟩; have k5 := ((hk3.out _ hb4).new hb5).att.c0; have kf5 := ((hk3.out _ hb4).new hb5).att.free 0))
      all_goals
        go_wp2
        go_meet
        exact ((hk3.out _ hb4).new hb5).set0 _
    case rest =>
      clear h3 c3 hf3 hk3
      go_wp2_with fail
      have c4 := hcut.att.c1
      have hf4 := hcut.att.free 1
      have hk4 := Lib.hid (fun w' (hb : Below wc.drew.heap.size wc.drew w') => (hcut.drew.new hb))
      clear hcut
      go_cut [] from 23 to 28 (fun wx => Alo w wx d r ⟨namedF 30 82 39 f n, namedF 40 92 49 b n, G⟩)
      case first =>
        go_region_with (first
          | (go_at_call 24; refine (background_any _).mono ?_; rintro e w7 ⟨rfl, hb7⟩; have k7 := (hk4.out _ hb7).att.c1; have kf7 := (hk4.out _ hb7).att.free 1)
          | (go_at_call 30; refine (named_any 40 92 48 49 b n (by omega) (by omega) _).mono ?_; rintro e w8 ⟨rfl, hb8⟩; have k8 := ((hk4.out _ hb7).new hb8).att.c1; have kf8 := ((hk4.out _ hb7).new hb8).att.free 1))
        all_goals
          go_wp2
          go_meet
          exact ((hk4.out _ hb7).new hb8).set1 _
      case rest =>
        have hE2 := hE.out
        rw [hG.out] at hE2
        clear hE hG c4 hf4 hk4
        have m0 := hcut.att.c0
        have m1 := hcut.att.c1
        have m2 := hcut.att.c2
        replace hcut := Lib.hid hcut
        generalize namedF 30 82 39 f n = x at hcut hE2 m0
        generalize namedF 40 92 49 b n = y at hcut hE2 m1
        go_wp2_with (with_reducible show wpList _ _ _ (⟨none, .store _ (.tmp 4) _, _, _, _, _⟩ :: _) _ _; go_must (refine wpList_storeAll rfl _ (.tmp 4) (.tmp 29) rfl hcut.out.res.blk _ rfl rfl (by simpa using sizeA) (by simp) (by simp [Value.oneCell']) ?_); intro w9 hr9 ho9)
        have r0 := AIn.c0 (a := ⟨x, y, G⟩) hr9
        have r1 := AIn.c1 (a := ⟨x, y, G⟩) hr9
        have r2 := AIn.c2 (a := ⟨x, y, G⟩) hr9
        simp only at r0 r1 r2
        exact bodyPost_ret (v := .agg #[.int .u32 x, .int .u32 y, .int .u16 G]) (by simp [results, Tryd.results16, go_sem, r0, r1, r2]) rfl ⟨rfl, below_on hcut.out.below ho9 hcut.out.low.2⟩

end Go.Proofs.YtlpihhjdgipgnaaDoor.Sgr
