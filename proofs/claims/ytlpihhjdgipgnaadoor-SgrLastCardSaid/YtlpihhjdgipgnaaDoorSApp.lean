/-
  sgr: Apply.
-/
import Derived.Test.YtlpihhjdgipgnaaDoorSFol
import Derived.Test.YtlpihhjdgipgnaaDoorIn
import Derived.Maps.RangeWalk
namespace Go.Proofs.YtlpihhjdgipgnaaDoor.Sgr
open Go Go.RowKit Go.Proofs.YtlpihhjdgipgnaaDoor.Com

def sliceLen : Value → Nat
  | .slice _ n _ => n
  | _ => 0
theorem fol_mem {c : Int} {l : List Int} : ∀ x ∈ (folF c l).2, x ∈ l := by
  rcases fol_cases l with ⟨y, t, rfl⟩ | ⟨x, y, z, t, rfl⟩ | h
  · rw [fol_five]; intro x hx; exact List.mem_cons_of_mem _ (List.mem_cons_of_mem _ hx)
  · rw [fol_two]; intro x hx; exact List.mem_cons_of_mem _ (List.mem_cons_of_mem _ (List.mem_cons_of_mem _ (List.mem_cons_of_mem _ hx)))
  · rw [fol_dumb h]; intro x hx; cases hx
theorem fits_le {n : Int} {l : List Int} (h : Fits .i64 l) (hn : n ∈ l) : n ≤ 9223372036854775807 := (bounds_i64 (h n hn)).2

/-- Where Apply stands: the attribute, the numbers that are left, and that they come to what was asked. -/
structure AppAt (w0 wr : World) (d r : Nat) (A : At) (L : List Int) (x : Option Addr) (y : Nat) (l : List Int) (a : At) : Prop where
  alo : Alo w0 wr d r a
  nums : Nums wr w0.heap.size .i64 x l
  fits : Fits .i64 l
  cap : l.length ≤ y ∧ y ≤ maxLen
  eq : runF A L = runF a l
section
variable {w0 wr w' w2 : World} {d r y y' : Nat} {A a a' : At} {L l t : List Int} {x x' : Option Addr} {n : Int}
/-- A number of its own was done. -/
theorem AppAt.one (h : AppAt w0 wr d r A L x y (n :: t) a) (h1 : n ≠ 38) (h2 : n ≠ 48) (hb : Below wr.heap.size wr w2) (hd : AIn w' d (oneF a n)) (ho : Only [d] w2 w') (hn : Nums wr w0.heap.size .i64 x' t) (hy : t.length ≤ y' ∧ y' ≤ maxLen) : AppAt w0 w' d r A L x' y' t (oneF a n) :=
  have h' := h.alo.new hb
  ⟨h'.turn hd ho, (hn.below hb h.alo.below.size).only ho (h'.below.size) (by simpa using h'.low.1), fun m hm => h.fits m (List.mem_cons_of_mem _ hm), hy, h.eq.trans (run_one a t h1 h2)⟩
theorem AppAt.fg {c3 : Int} {l3 : List Int} (h : AppAt w0 wr d r A L x y (38 :: t) a) (hR : folF a.f t = (c3, l3)) (hb : Below wr.heap.size wr w2) (hd : AIn w' d ⟨c3, a.b, a.g⟩) (ho : Only [d] w2 w') (hn : Nums wr w0.heap.size .i64 x' l3) (hy : l3.length ≤ y' ∧ y' ≤ maxLen) :
    AppAt w0 w' d r A L x' y' l3 ⟨c3, a.b, a.g⟩ :=
  have h' := h.alo.new hb
  ⟨h'.turn hd ho, (hn.below hb h.alo.below.size).only ho (h'.below.size) (by simpa using h'.low.1), fun m hm => h.fits m (List.mem_cons_of_mem _ (fol_mem (c := a.f) m (by rw [hR]; exact hm))), hy, h.eq.trans (by rw [run_fg, hR])⟩
theorem AppAt.bg {c3 : Int} {l3 : List Int} (h : AppAt w0 wr d r A L x y (48 :: t) a) (hR : folF a.b t = (c3, l3)) (hb : Below wr.heap.size wr w2) (hd : AIn w' d ⟨a.f, c3, a.g⟩) (ho : Only [d] w2 w') (hn : Nums wr w0.heap.size .i64 x' l3) (hy : l3.length ≤ y' ∧ y' ≤ maxLen) :
    AppAt w0 w' d r A L x' y' l3 ⟨a.f, c3, a.g⟩ :=
  have h' := h.alo.new hb
  ⟨h'.turn hd ho, (hn.below hb h.alo.below.size).only ho (h'.below.size) (by simpa using h'.low.1), fun m hm => h.fits m (List.mem_cons_of_mem _ (fol_mem (c := a.b) m (by rw [hR]; exact hm))), hy, h.eq.trans (by rw [run_bg, hR])⟩
end
theorem tail_nums {w : World} {B : Nat} {ad : Addr} {n : Int} {t : List Int} {y : Nat} (h : Nums w B .i64 (some ad) (n :: t)) (hy : t.length + 1 ≤ y) : Nums w B .i64 (if y = 1 then some ad else some ⟨ad.block, ad.off + 1, none⟩) t := sliced h 1 hy
theorem apply_nil (a : At) : applyF a [] = zero := if_pos rfl
theorem apply_cons (a : At) {l : List Int} (h : l ≠ []) : applyF a l = runF a l := if_neg h

def attV (a : At) : Value := .agg #[.int .u32 a.f, .int .u32 a.b, .int .u16 a.g]

set_option maxHeartbeats 4000000 in
theorem apply_any (a : At) (l : List Int) (hf : Fits .i64 l) (ao : Option Addr) (cp : Nat) (hl : l.length ≤ cp) (hm : cp ≤ maxLen) (w : World) (T : Tab w) (hn : Nums w w.heap.size .i64 ao l) :
    Calls Tryd.prog 8 #[.agg #[.int .u32 a.f, .int .u32 a.b, .int .u16 a.g], .slice ao l.length cp] w fun e w' => e = .returned (.agg #[.int .u32 (applyF a l).f, .int .u32 (applyF a l).b, .int .u16 (applyF a l).g]) ∧ Below w.heap.size w w' := by
  have hmade := Lib.hid (Alo.made w a)
  by_cases h0 : l = []
  · subst h0
    clear hn
    go_enter Tryd.func8, Tryd.ntmps8
    go_wp2_with (with_reducible show wpList _ _ _ (⟨none, .store _ (.tmp 4) _, _, _, _, _⟩ :: _) _ _; go_must (refine wpList_storeAll rfl _ (.tmp 4) (.tmp 9) rfl hmade.out.res.blk _ rfl rfl (by simpa using sizeA) (by simp) (by simp [Value.oneCell']) ?_); intro w2 hr2 ho2)
    have r0 := AIn.c0 (a := zero) hr2; have r1 := AIn.c1 (a := zero) hr2; have r2 := AIn.c2 (a := zero) hr2
    simp only [zero] at r0 r1 r2
    exact bodyPost_ret (v := .agg #[.int .u32 0, .int .u32 0, .int .u16 0]) (by simp [results, Tryd.results8, go_sem, r0, r1, r2]) rfl ⟨rfl, below_on hmade.out.below ho2 hmade.out.low.2⟩
  have hstart := hmade.out
  have hnums := hn.below hstart.below (Nat.le_refl _)
  have hE := Lib.hid (apply_cons a h0)
  have hpos : 0 < l.length := by rcases l with _ | _ <;> simp_all
  have hat : AppAt w ((w.alloc (.cells #[.int .u32 a.f, .int .u32 a.b, .int .u16 a.g] 25)).alloc (.cells #[.int .u32 0, .int .u32 0, .int .u16 0] 25)) w.heap.size (w.heap.size + 1) a l ao cp l a := ⟨hstart, hnums, hf, ⟨hl, hm⟩, rfl⟩
  replace hat := Lib.hid hat
  clear hstart hnums hmade h0 hf hn
  obtain ⟨d, hd⟩ : ∃ d, d = w.heap.size := ⟨_, rfl⟩
  obtain ⟨r, hr⟩ : ∃ r, r = w.heap.size + 1 := ⟨_, rfl⟩
  have hl' := Lib.hid (And.intro hl hm)
  generalize hN : l.length = N at hpos
  have hN' := Lib.hid hN
  have hN0 : ((N : Int) == 0) = false := by simp; omega
  clear hl hm hN
  go_enter Tryd.func8, Tryd.ntmps8
  go_wp2_with fail
  rw [← hr, ← hd] at hat ⊢
  generalize ((w.alloc (.cells #[.int .u32 a.f, .int .u32 a.b, .int .u16 a.g] 25)).alloc (.cells #[.int .u32 0, .int .u32 0, .int .u16 0] 25)) = w1 at hat ⊢
  clear hd hr
  go_loopw [1] (fun s wr => ∃ x y l' a', s = .slice x l'.length y ∧ Hid (AppAt w wr d r a l x y l' a')) (fun s _ => sliceLen s)
  case atStart => exact ⟨ao, cp, l, a, by rw [hN'.out], hat⟩
  case round =>
    obtain ⟨x, y, l', a', rfl, hat'⟩ := hrel
    clear hat
    rename_i wr _
    rcases l' with _ | ⟨n, t⟩
    · have hE2 : applyF a l = a' := by rw [hE.out, hat'.out.eq, run_nil]
      have m0 := hat'.out.alo.att.c0
      have m1 := hat'.out.alo.att.c1
      have m2 := hat'.out.alo.att.c2
      obtain ⟨f, b, g⟩ := a'
      simp only at m0 m1 m2
      go_wp2_with (with_reducible show wpList _ _ _ (⟨none, .store _ (.tmp 4) _, _, _, _, _⟩ :: _) _ _; go_must (refine wpList_storeAll rfl _ (.tmp 4) (.tmp 42) rfl hat'.out.alo.res.blk _ rfl rfl (by simpa using sizeA) (by simp) (by simp [Value.oneCell']) ?_); intro w9 hr9 ho9)
      have r0 := AIn.c0 (a := ⟨f, b, g⟩) hr9
      have r1 := AIn.c1 (a := ⟨f, b, g⟩) hr9
      have r2 := AIn.c2 (a := ⟨f, b, g⟩) hr9
      simp only at r0 r1 r2
      exact bodyPost_ret (v := .agg #[.int .u32 f, .int .u32 b, .int .u16 g]) (by simp [results, Tryd.results8, go_sem, r0, r1, r2]) rfl ⟨by rw [hE2], below_on hat'.out.alo.below ho9 hat'.out.alo.low.2⟩
    · obtain ⟨ad, rfl, hblk, c0⟩ := hat'.out.nums 0 n rfl
      rw [add_none] at c0
      have hcap := hat'.out.cap
      have hnt := tail_nums hat'.out.nums (by simpa using hcap.1)
      obtain ⟨q, hq⟩ : ∃ q, (if y = 1 then some ad else some (⟨ad.block, ad.off + 1, none⟩ : Addr)) = q := ⟨_, rfl⟩
      rw [hq] at hnt
      have hcap1 : t.length + 1 ≤ y := by simpa using hcap.1
      have hty : t.length ≤ y - 1 ∧ y - 1 ≤ maxLen := ⟨by omega, by have := hcap.2; omega⟩
      have hnm : n ≤ 9223372036854775807 := fits_le hat'.out.fits (List.mem_cons_self ..)
      have hbs := hat'.out.alo.below.size
      have hcap2 : y ≤ 9223372036854775807 := by have := hcap.2; simp only [maxLen] at this; omega
      have hty' := Lib.hid hty
      have hT := Lib.hid (T.below hat'.out.alo.below)
      have hNt : (n :: t).length = t.length + 1 := rfl
      rw [hNt]
      clear hcap hNt
      by_cases h38 : n = 38
      · subst h38
        have hfol := follow_any a'.f t q (y - 1) w.heap.size hty.1 hty.2 wr hnt hbs
        have hlen := fol_len a'.f t
        rcases hR : folF a'.f t with ⟨c3, l3⟩
        rw [hR] at hfol hlen
        replace hR := Lib.hid hR
        replace hfol := Lib.hid hfol
        simp only at hlen
        have m0 := hat'.out.alo.att.c0
        replace hlen := Lib.hid hlen
        clear hnt hty hnm hT hbs
        generalize hM : t.length = M at hfol hcap1 hlen
        clear hM
        go_wp2_with (first
          | (go_at_call 15; refine (hfol.out).mono ?_; rintro e w3 ⟨x3, y3, rfl, g1, g2, g3, g4⟩; simp only at g1 g2 g3; replace g3 := Lib.hid g3; have g5 := Lib.hid (hat'.out.alo.new g4))
          | (with_reducible show wpList _ _ _ (⟨none, .store _ (.tmp 31) _, _, _, _, _⟩ :: _) _ _; go_must (refine wpList_store1 rfl _ (.tmp 31) (.tmp 29) rfl g5.out.att.blk (.int _ _) rfl rfl (by simp) (by exact size32) rfl ?_); intro w4 hd4 ho4))
        go_roundw
        case rel => exact ⟨x3, y3, l3, ⟨c3, a'.b, a'.g⟩, rfl, Lib.hid (hat'.out.fg hR.out g4 hd4 ho4 g3.out ⟨g1, g2⟩)⟩
        case measure => simp only [sliceLen]; have := hlen.out; omega
      by_cases h48 : n = 48
      · subst h48
        have hfol := follow_any a'.b t q (y - 1) w.heap.size hty.1 hty.2 wr hnt hbs
        have hlen := fol_len a'.b t
        rcases hR : folF a'.b t with ⟨c3, l3⟩
        rw [hR] at hfol hlen
        replace hR := Lib.hid hR
        replace hfol := Lib.hid hfol
        simp only at hlen
        have m1 := hat'.out.alo.att.c1
        replace hlen := Lib.hid hlen
        clear hnt hty hnm hT hbs
        generalize hM : t.length = M at hfol hcap1 hlen
        clear hM
        go_wp2_with (first
          | (go_at_call 15; refine (hfol.out).mono ?_; rintro e w3 ⟨x3, y3, rfl, g1, g2, g3, g4⟩; simp only at g1 g2 g3; replace g3 := Lib.hid g3; have g5 := Lib.hid (hat'.out.alo.new g4))
          | (with_reducible show wpList _ _ _ (⟨none, .store _ (.tmp 41) _, _, _, _, _⟩ :: _) _ _; go_must (refine wpList_store1 rfl _ (.tmp 41) (.tmp 39) rfl g5.out.att.blk (.int _ _) rfl rfl (by simp) (by exact size32) rfl ?_); intro w4 hd4 ho4))
        go_roundw
        case rel => exact ⟨x3, y3, l3, ⟨a'.f, c3, a'.g⟩, rfl, Lib.hid (hat'.out.bg hR.out g4 hd4 ho4 g3.out ⟨g1, g2⟩)⟩
        case measure => simp only [sliceLen]; have := hlen.out; omega
      · have b38 : (n == 38) = false := by simpa using h38
        have b48 : (n == 48) = false := by simpa using h48
        have hone := Lib.hid (alone_any a' n hnm wr hT.out)
        have hstep := Lib.hid (fun w2 w4 (hb : Below wr.heap.size wr w2) hd ho => hat'.out.one (w2 := w2) (w' := w4) h38 h48 hb hd ho hnt hty)
        have m0 := hat'.out.alo.att.c0
        have m1 := hat'.out.alo.att.c1
        have m2 := hat'.out.alo.att.c2
        clear hnt hty hnm hT hbs h38 h48
        generalize hM : t.length = M at hcap1 hty'
        replace hM := Lib.hid hM
        go_wp2_with (first
          | (go_at_call 16; refine (hone.out).mono ?_; rintro e w3 ⟨rfl, g4⟩; have g5 := Lib.hid (hat'.out.alo.new g4))
          | (with_reducible show wpList _ _ _ (⟨none, .store _ (.tmp 2) _, _, _, _, _⟩ :: _) _ _; go_must (refine wpList_storeAll rfl _ (.tmp 2) (.tmp 21) rfl g5.out.att.blk _ rfl rfl (by simpa using sizeA) (by simp) (by simp [Value.oneCell']) ?_); intro w4 hd4 ho4; dsimp only [Act.put]))
        go_roundw
        case rel => exact ⟨q, y - 1, t, oneF a' n, by rw [hM.out], Lib.hid (hstep.out _ _ g4 hd4 ho4)⟩
        case measure => simp only [sliceLen]; omega

end Go.Proofs.YtlpihhjdgipgnaaDoor.Sgr
