/-
  tabs: the calls that take words by value and give words back: within, with, fresh.
-/
import Derived.Test.YtihmagpgbjlggaaDoorTStops
import Derived.Deep.RegionHeld3
import Derived.Deep.RegionLaw
namespace Go.Proofs.YtihmagpgbjlggaaDoor.Tbs
open Go Go.RowKit Go.Proofs.YtihmagpgbjlggaaDoor.Com

def zero8 : Array Value := #[.int .u64 0, .int .u64 0, .int .u64 0, .int .u64 0, .int .u64 0, .int .u64 0, .int .u64 0, .int .u64 0]
/-- Words that a call gives back. -/
def Ret8 (w : World) (g : Nat → Bool) (e : Ending) (w' : World) : Prop := e = .returned (.agg (wsA g)) ∧ Below w.heap.size w w'
/-- The words of the call's own, and the result's. -/
structure Two8 (w wr : World) (d0 d1 : Nat) (g : Nat → Bool) : Prop where
  own : Block wr d0 49 (wsA g)
  res : Block wr d1 49 zero8
  below : Below w.heap.size w wr
  low0 : w.heap.size ≤ d0
  low1 : w.heap.size ≤ d1
  ne : d0 ≠ d1
theorem Two8.drewN {w wr : World} {d0 d1 : Nat} {g : Nat → Bool} (h : Two8 w wr d0 d1 g) (n : Nat) : Two8 w (wr.drewN n) d0 d1 g :=
  ⟨h.own.only (Only.drewN [] _ _) (by simp), h.res.only (Only.drewN [] _ _) (by simp), below_dr h.below n, h.low0, h.low1, h.ne⟩
theorem Two8.drew {w wr : World} {d0 d1 : Nat} {g : Nat → Bool} (h : Two8 w wr d0 d1 g) : Two8 w wr.drew d0 d1 g := h.drewN 1
theorem Two8.put {w wr : World} {d0 d1 : Nat} {f g : Nat → Bool} (h : Two8 w wr d0 d1 f) {i : Nat} (hg : ∀ j, j < 8 → j ≠ i → wd f j = wd g j) : Two8 w (wr.setCell ⟨d0, i, none⟩ (.int .u64 (wd g i))) d0 d1 g := by
  have hs := h.own.set i (.int .u64 (wd g i))
  have e : (wsA f).setIfInBounds i (.int .u64 (wd g i)) = wsA g := by
    unfold wsA
    rw [List.setIfInBounds_toArray, wsl_set hg]
  rw [e] at hs
  have ho := Only.setCell wr ⟨d0, i, none⟩ (.int .u64 (wd g i))
  exact ⟨hs, h.res.only ho (by simpa using h.ne.symm), h.below.trans (ho.below h.below.size (by simpa using h.low0)), h.low0, h.low1, h.ne⟩
theorem two8_at (w : World) (f : Nat → Bool) : Two8 w ((w.alloc (.cells (wsA f) 49)).alloc (.cells #[.int .u64 0, .int .u64 0, .int .u64 0, .int .u64 0, .int .u64 0, .int .u64 0, .int .u64 0, .int .u64 0] 49)) w.heap.size (w.heap.size + 1) f := by
  refine ⟨(Block.made w _ _).alloc _, ?_, ((Below.refl _ _).alloc (Nat.le_refl _) _).alloc (by simp) _, Nat.le_refl _, by omega, by omega⟩
  have h : (w.alloc (.cells (wsA f) 49)).heap.size = w.heap.size + 1 := by simp
  have := Block.made (w.alloc (.cells (wsA f) 49)) 49 zero8
  rw [h] at this
  exact this

/-- Below 64 k what stands within, from there on what stood there. -/
def mixF (f g : Nat → Bool) (k : Nat) : Nat → Bool := fun c => if c < 64 * k then g c else f c
theorem mix_zero (f g : Nat → Bool) : mixF f g 0 = f := by funext c; simp [mixF]
theorem mix_at (f g : Nat → Bool) (k : Nat) : wd (mixF f g k) k = wd f k := wd_congr fun j hj => by unfold mixF; rw [if_neg (by omega)]
theorem mix_next (f g : Nat → Bool) (k : Nat) : wd (mixF f g (k + 1)) k = wd g k := wd_congr fun j hj => by unfold mixF; rw [if_pos (by omega)]
theorem mix_other (f g : Nat → Bool) (k : Nat) : ∀ j, j < 8 → j ≠ k → wd (mixF f g k) j = wd (mixF f g (k + 1)) j := fun j _ hne => wd_congr fun i hi => by
  unfold mixF
  by_cases h : j < k
  · rw [if_pos (by omega), if_pos (by omega)]
  · rw [if_neg (by omega), if_neg (by omega)]
theorem mix_end (f g : Nat → Bool) : wsA (mixF f g 8) = wsA g := by
  unfold wsA
  rw [ws_congr (f := mixF f g 8) (g := g) fun c hc => by unfold mixF; rw [if_pos (by omega)]]

theorem blk {w : World} {g : Nat} {t : TypeId} {cs : Array Value} (h : Block w g t cs) : w.heap[g]? = some (.cells cs t (0, 0)) := h
/-- The words are given back out of the result's block. -/
theorem end8 {fn : Func} {p : Tmp} (h : fn.results = #[.cell p 49]) {a : Act} {w w1 : World} {d : Nat} {t : TypeId} {g : Nat → Bool} (hp : a.tmps.getD p undef = .pointer (some ⟨d, 0, none⟩)) (hd : a.defers = [])
    (hb : Block w1 d t (wsA g)) (hbel : Below w.heap.size w w1) : bodyPost Tryd.prog fn (Ret8 w g) .ret a w1 :=
  bodyPost_ret (results_cell_row h _ _ _ _ _ _ _ hp hb Tryd.underlying49 rfl (ws_info g)) hd ⟨rfl, hbel⟩
set_option maxHeartbeats 2000000 in
theorem within_any (f : Nat → Bool) (a b : Int) (ha : -1000 ≤ a ∧ a ≤ 1000) (hb : -1000 ≤ b ∧ b ≤ 1000) (w : World) :
    Calls Tryd.prog 31 #[.agg (wsA f), .int .i64 a, .int .i64 b] w (Ret8 w (inF f a b)) := by
  have h0 := two8_at w f
  obtain ⟨a0, a1⟩ := ha
  obtain ⟨b0, b1⟩ := hb
  go_enter Tryd.func31, Tryd.ntmps31
  go_wp2
  generalize ((w.alloc (.cells (wsA f) 49)).alloc (.cells #[.int .u64 0, .int .u64 0, .int .u64 0, .int .u64 0, .int .u64 0, .int .u64 0, .int .u64 0, .int .u64 0] 49)) = w0 at h0 ⊢
  generalize w.heap.size + 1 = d1 at h0 ⊢
  obtain ⟨d0, hd0⟩ : ∃ d0, d0 = w.heap.size := ⟨_, rfl⟩
  have h1 : Two8 w w0 d0 d1 (mixF f (inF f a b) 0) := by rw [mix_zero, hd0]; exact h0
  rw [← hd0]
  clear h0 hd0
  replace h1 := Lib.hid h1
  go_loopw [9] (fun i wr => ∃ k : Nat, k ≤ 8 ∧ i = .int .i64 k ∧ Hid (Two8 w wr d0 d1 (mixF f (inF f a b) k))) (fun i _ => 8 - (intOf i).toNat)
  case atStart => exact ⟨0, by omega, rfl, h1⟩
  case round =>
    obtain ⟨k, hk, rfl, hR⟩ := hrel
    by_cases hlt : k < 8
    · have hcell := hR.out.own.cell k (ws_at _ hlt)
      rw [mix_at] at hcell
      have hput := Lib.hid (hR.out.put (mix_other f (inF f a b) k)).drew
      rw [mix_next] at hput
      have hfr := hR.out.own.free k
      have hand : bits BinOp.and IntKind.u64 (wd f k : Nat) (bits BinOp.andNot IntKind.u64 (lowF (b - (k : Int) * 64) : Nat) (lowF (a - (k : Int) * 64) : Nat)) = (wd (inF f a b) k : Nat) := by
        rw [andNot_nat _ _ (low_lt _) (low_lt _), bits_and_u64_nat _ _ (wd_lt _ _) (sub_lt (low_lt _)), ← wd_in, Int.mul_comm (k : Int) 64]
      have hB := Lib.hid below_any
      have hw1 : IntKind.i64.wrap (b - (k : Int) * 64) = b - (k : Int) * 64 := IntWalk.i64_in _ (by omega)
      have hw2 : IntKind.i64.wrap (a - (k : Int) * 64) = a - (k : Int) * 64 := IntWalk.i64_in _ (by omega)
      have hl1 : -9223372036854775808 ≤ b - (k : Int) * 64 ∧ b - (k : Int) * 64 ≤ 9223372036854775807 := by omega
      have hl2 : -9223372036854775808 ≤ a - (k : Int) * 64 ∧ a - (k : Int) * 64 ≤ 9223372036854775807 := by omega
      replace hl1 := Lib.hid hl1
      replace hl2 := Lib.hid hl2
      generalize wd (inF f a b) k = y at hput hand
      generalize wd f k = x at hcell hand
      clear hR
      go_wp2
      go_region_law (first
        | (go_simp; go_at_call 38; (first | (with_reducible refine (hB.out _ hl1.out.1 hl1.out.2 _).mono ?_) | (with_reducible refine (hB.out _ hl2.out.1 hl2.out.2 _).mono ?_)); rintro e w5 ⟨rfl, rfl⟩))
      all_goals
        go_wp2
        go_roundw
        case rel => exact ⟨k + 1, by omega, by go_num, hput⟩
        case measure => simp [intOf]; omega
    · obtain rfl : k = 8 := by omega
      have hown := hR.out.own
      have hres := hR.out.res
      have hlow := hR.out.low1
      have hbel := hR.out.below
      rw [mix_end] at hown
      have hinf := ws_info (inF f a b)
      have hsz : zero8.size = (wsA (inF f a b)).size := by rw [ws_size]; rfl
      clear hR
      replace hown := Lib.hid hown
      replace hres := Lib.hid hres
      replace hinf := Lib.hid hinf
      replace hsz := Lib.hid hsz
      go_wp2_with (first
        | (with_reducible show wpList _ _ _ (⟨some 29, .load _ (.tmp 3), _, _, _, _⟩ :: _) _ _; go_must (refine wpList_load_row rfl _ (.tmp 3) rfl d0 rfl _ (wsA (inF f a b)) (0, 0) _ (blk hown.out) Tryd.underlying49 rfl hinf.out ?_))
        | (with_reducible show wpList _ _ _ (⟨none, .store _ (.tmp 6) _, _, _, _, _⟩ :: _) _ _; go_must (refine wpList_storeAll rfl _ (.tmp 6) (.tmp 29) rfl hres.out (wsA (inF f a b)) rfl rfl hinf.out hsz.out (ws_one _) ?_); intro w1 hd1 ho1))
      exact end8 Tryd.results31 rfl rfl hd1 (below_on hbel ho1 hlow)

/-! with -/
structure Three8 (w wr : World) (d0 d1 d2 : Nat) (g h : Nat → Bool) : Prop where
  own : Block wr d0 49 (wsA g)
  oth : Block wr d1 49 (wsA h)
  res : Block wr d2 49 zero8
  below : Below w.heap.size w wr
  low0 : w.heap.size ≤ d0
  low2 : w.heap.size ≤ d2
  ne1 : d0 ≠ d1
  ne2 : d0 ≠ d2
theorem Three8.drew {w wr : World} {d0 d1 d2 : Nat} {g h : Nat → Bool} (H : Three8 w wr d0 d1 d2 g h) : Three8 w wr.drew d0 d1 d2 g h :=
  ⟨H.own.only (only_drew [] _) (by simp), H.oth.only (only_drew [] _) (by simp), H.res.only (only_drew [] _) (by simp), below_dr H.below 1, H.low0, H.low2, H.ne1, H.ne2⟩
theorem Three8.put {w wr : World} {d0 d1 d2 : Nat} {f g h : Nat → Bool} (H : Three8 w wr d0 d1 d2 f h) {i : Nat} (hg : ∀ j, j < 8 → j ≠ i → wd f j = wd g j) : Three8 w (wr.setCell ⟨d0, i, none⟩ (.int .u64 (wd g i))) d0 d1 d2 g h := by
  have hs := H.own.set i (.int .u64 (wd g i))
  have e : (wsA f).setIfInBounds i (.int .u64 (wd g i)) = wsA g := by
    unfold wsA
    rw [List.setIfInBounds_toArray, wsl_set hg]
  rw [e] at hs
  have ho := Only.setCell wr ⟨d0, i, none⟩ (.int .u64 (wd g i))
  exact ⟨hs, H.oth.only ho (by simpa using H.ne1.symm), H.res.only ho (by simpa using H.ne2.symm), H.below.trans (ho.below H.below.size (by simpa using H.low0)), H.low0, H.low2, H.ne1, H.ne2⟩
theorem three8_at (w : World) (f h : Nat → Bool) : Three8 w (((w.alloc (.cells (wsA f) 49)).alloc (.cells (wsA h) 49)).alloc (.cells #[.int .u64 0, .int .u64 0, .int .u64 0, .int .u64 0, .int .u64 0, .int .u64 0, .int .u64 0, .int .u64 0] 49)) w.heap.size (w.heap.size + 1) (w.heap.size + 1 + 1) f h := by
  have h1 : (w.alloc (.cells (wsA f) 49)).heap.size = w.heap.size + 1 := by simp
  have h2 : ((w.alloc (.cells (wsA f) 49)).alloc (.cells (wsA h) 49)).heap.size = w.heap.size + 1 + 1 := by simp
  have b1 := Block.made (w.alloc (.cells (wsA f) 49)) 49 (wsA h)
  have b2 := Block.made ((w.alloc (.cells (wsA f) 49)).alloc (.cells (wsA h) 49)) 49 zero8
  rw [h1] at b1
  rw [h2] at b2
  exact ⟨((Block.made w _ _).alloc _).alloc _, b1.alloc _, b2, (((Below.refl _ _).alloc (Nat.le_refl _) _).alloc (by simp) _).alloc (by simp; omega) _, Nat.le_refl _, by omega, by omega, by omega⟩
def orF (f h : Nat → Bool) : Nat → Bool := fun c => f c || h c
set_option maxHeartbeats 2000000 in
theorem with_any (f h : Nat → Bool) (w : World) :
    Calls Tryd.prog 32 #[.agg (wsA f), .agg (wsA h)] w (Ret8 w (orF f h)) := by
  have h0 := three8_at w f h
  go_enter Tryd.func32, Tryd.ntmps32
  go_wp2
  generalize (((w.alloc (.cells (wsA f) 49)).alloc (.cells (wsA h) 49)).alloc (.cells #[.int .u64 0, .int .u64 0, .int .u64 0, .int .u64 0, .int .u64 0, .int .u64 0, .int .u64 0, .int .u64 0] 49)) = w0 at h0 ⊢
  generalize w.heap.size + 1 + 1 = d2 at h0 ⊢
  generalize w.heap.size + 1 = d1 at h0 ⊢
  obtain ⟨d0, hd0⟩ : ∃ d0, d0 = w.heap.size := ⟨_, rfl⟩
  have h1 : Three8 w w0 d0 d1 d2 (mixF f (orF f h) 0) h := by rw [mix_zero, hd0]; exact h0
  rw [← hd0]
  clear h0 hd0
  replace h1 := Lib.hid h1
  go_loopw [6] (fun i wr => ∃ k : Nat, k ≤ 8 ∧ i = .int .i64 k ∧ Hid (Three8 w wr d0 d1 d2 (mixF f (orF f h) k) h)) (fun i _ => 8 - (intOf i).toNat)
  case atStart => exact ⟨0, by omega, rfl, h1⟩
  case round =>
    obtain ⟨k, hk, rfl, hR⟩ := hrel
    by_cases hlt : k < 8
    · have hcell := hR.out.own.cell k (ws_at _ hlt)
      have hcell2 := hR.out.oth.cell k (ws_at _ hlt)
      rw [mix_at] at hcell
      have hput := Lib.hid (hR.out.put (mix_other f (orF f h) k)).drew
      rw [mix_next] at hput
      have hfr := hR.out.own.free k
      have hor : bits BinOp.or IntKind.u64 (wd f k : Nat) (wd h k : Nat) = (wd (orF f h) k : Nat) := by
        rw [bits_or_u64_nat _ _ (wd_lt _ _) (wd_lt _ _), wd_or]
        rfl
      generalize wd (orF f h) k = y at hput hor
      generalize wd f k = x at hcell hor
      generalize wd h k = z at hcell2 hor
      clear hR
      go_wp2
      go_region
      all_goals
        go_wp2
        go_roundw
        case rel => exact ⟨k + 1, by omega, by go_num, hput⟩
        case measure => simp [intOf]; omega
    · obtain rfl : k = 8 := by omega
      have hown := hR.out.own
      have hres := hR.out.res
      have hlow := hR.out.low2
      have hbel := hR.out.below
      rw [mix_end] at hown
      have hinf := ws_info (orF f h)
      have hsz : zero8.size = (wsA (orF f h)).size := by rw [ws_size]; rfl
      clear hR
      replace hown := Lib.hid hown
      replace hres := Lib.hid hres
      replace hinf := Lib.hid hinf
      replace hsz := Lib.hid hsz
      go_wp2_with (first
        | (with_reducible show wpList _ _ _ (⟨some 18, .load _ (.tmp 2), _, _, _, _⟩ :: _) _ _; go_must (refine wpList_load_row rfl _ (.tmp 2) rfl d0 rfl _ (wsA (orF f h)) (0, 0) _ (blk hown.out) Tryd.underlying49 rfl hinf.out ?_))
        | (with_reducible show wpList _ _ _ (⟨none, .store _ (.tmp 4) _, _, _, _, _⟩ :: _) _ _; go_must (refine wpList_storeAll rfl _ (.tmp 4) (.tmp 18) rfl hres.out (wsA (orF f h)) rfl rfl hinf.out hsz.out (ws_one _) ?_); intro w1 hd1 ho1))
      exact end8 Tryd.results32 rfl rfl hd1 (below_on hbel ho1 hlow)

/-! fresh -/
def eightF : Nat → Bool := fun c => c % 8 == 0
theorem eight_wd (k : Nat) : wd eightF k = 72340172838076673 :=
  (wd_eq (by decide) fun j hj => by
    have h : ∀ j : Fin 64, (72340172838076673 : Nat).testBit j.val = (j.val % 8 == 0) := by decide
    rw [h ⟨j, hj⟩]
    unfold eightF
    simp only
    rw [show (64 * k + j) % 8 = j % 8 by omega]).symm
theorem none_wd (k : Nat) : wd (fun _ => false) k = 0 := wd_zero fun _ _ => rfl
theorem none_ws : wsA (fun _ => false) = zero8 := by
  unfold wsA wsL zero8
  simp [none_wd, List.range_succ]
def freshF (a b : Int) : Nat → Bool := inF (putF eightF 0 false) a b
theorem two8_swap (w : World) : Two8 w ((w.alloc (.cells #[.int .u64 0, .int .u64 0, .int .u64 0, .int .u64 0, .int .u64 0, .int .u64 0, .int .u64 0, .int .u64 0] 49)).alloc (.cells #[.int .u64 0, .int .u64 0, .int .u64 0, .int .u64 0, .int .u64 0, .int .u64 0, .int .u64 0, .int .u64 0] 49)) (w.heap.size + 1) w.heap.size (fun _ => false) := by
  have h : (w.alloc (.cells zero8 49)).heap.size = w.heap.size + 1 := by simp
  have b := Block.made (w.alloc (.cells zero8 49)) 49 zero8
  rw [h] at b
  exact ⟨by rw [none_ws]; exact b, (Block.made w _ zero8).alloc _, ((Below.refl _ _).alloc (Nat.le_refl _) _).alloc (by simp) _, by omega, Nat.le_refl _, by omega⟩
theorem bit_ws (f : Nat → Bool) (c : Nat) (b : Bool) : (wsA f).setIfInBounds (c / 64) (.int .u64 (wd (putF f c b) (c / 64))) = wsA (putF f c b) := by
  unfold wsA
  rw [List.setIfInBounds_toArray, wsl_set fun j _ hne => (wd_other f c b hne).symm]
set_option maxHeartbeats 2000000 in
theorem fresh_any (a b : Int) (ha : -1000 ≤ a ∧ a ≤ 1000) (hb : -1000 ≤ b ∧ b ≤ 1000) (w : World) :
    Calls Tryd.prog 27 #[.int .i64 a, .int .i64 b] w (Ret8 w (freshF a b)) := by
  have h0 := two8_swap w
  rw [← mix_zero (fun _ => false) eightF] at h0
  go_enter Tryd.func27, Tryd.ntmps27
  go_wp2
  generalize ((w.alloc (.cells #[.int .u64 0, .int .u64 0, .int .u64 0, .int .u64 0, .int .u64 0, .int .u64 0, .int .u64 0, .int .u64 0] 49)).alloc (.cells #[.int .u64 0, .int .u64 0, .int .u64 0, .int .u64 0, .int .u64 0, .int .u64 0, .int .u64 0, .int .u64 0] 49)) = w0 at h0 ⊢
  generalize w.heap.size + 1 = d0 at h0 ⊢
  obtain ⟨d1, hd1⟩ : ∃ d1, d1 = w.heap.size := ⟨_, rfl⟩
  rw [← hd1] at h0 ⊢
  have h1 : Two8 w w0 d0 d1 (mixF (fun _ => false) eightF 0) := h0
  clear h0 hd1
  replace h1 := Lib.hid h1
  go_loopw [7] (fun i wr => ∃ k : Nat, k ≤ 8 ∧ i = .int .i64 k ∧ Hid (Two8 w wr d0 d1 (mixF (fun _ => false) eightF k))) (fun i _ => 8 - (intOf i).toNat)
  case atStart => exact ⟨0, by omega, rfl, h1⟩
  case round =>
    obtain ⟨k, hk, rfl, hR⟩ := hrel
    by_cases hlt : k < 8
    · have hcell := hR.out.own.cell k (ws_at _ hlt)
      have hput := Lib.hid (hR.out.put (mix_other (fun _ => false) eightF k))
      rw [mix_next, eight_wd] at hput
      have hfr := hR.out.own.free k
      clear hR
      go_wp2
      go_roundw
      case rel => exact ⟨k + 1, by omega, by go_num, hput⟩
      case measure => simp [intOf]; omega
    · obtain rfl : k = 8 := by omega
      have hown := hR.out.own
      have hres := hR.out.res
      have hlow := hR.out.low1
      have hlow0 := hR.out.low0
      have hbel := hR.out.below
      have hne := hR.out.ne
      rw [mix_end] at hown
      have hcl := Lib.hid (clear_any eightF 0 (by omega) d0 0 49 (wsA eightF) wr hown (ws_at eightF (by omega)))
      have hwi := Lib.hid (within_any (putF eightF 0 false) a b ha hb)
      have hinf := ws_info (putF eightF 0 false)
      have hinf2 := ws_info (freshF a b)
      have hsz : zero8.size = (wsA (freshF a b)).size := by rw [ws_size]; rfl
      clear hR
      replace hres := Lib.hid hres
      replace hinf := Lib.hid hinf
      replace hinf2 := Lib.hid hinf2
      replace hsz := Lib.hid hsz
      go_wp2_with fail
      refine hcl.out.mono ?_
      rintro e w1 ⟨⟨v1, rfl⟩, hb1, ho1⟩
      have e0 := bit_ws eightF 0 false
      simp only [Nat.zero_div, Nat.zero_add] at hb1 e0
      rw [e0] at hb1
      have hres1 := Lib.hid (hres.out.only ho1 (by simpa using hne.symm))
      have hbel1 := Lib.hid (below_on hbel ho1 hlow0)
      replace hb1 := Lib.hid hb1
      clear ho1 hown e0 hcl
      go_wp2_with (first
        | (with_reducible show wpList _ _ _ (⟨some 14, .load _ (.tmp 5), _, _, _, _⟩ :: _) _ _; go_must (refine wpList_load_row rfl _ (.tmp 5) rfl d0 rfl _ (wsA (putF eightF 0 false)) (0, 0) _ (blk hb1.out) Tryd.underlying49 rfl hinf.out ?_))
        | (go_at_call 31; (with_reducible refine (hwi.out _).mono ?_); rintro e w2 ⟨rfl, hb2⟩)
        | (with_reducible show wpList _ _ _ (⟨none, .store _ (.tmp 4) _, _, _, _, _⟩ :: _) _ _; go_must (refine wpList_storeAll rfl _ (.tmp 4) (.tmp 17) rfl (hres1.out.only (Only.of_below hb2 []) (by simp)) (wsA (freshF a b)) rfl rfl hinf2.out hsz.out (ws_one _) ?_); intro w3 hd3 ho3))
      exact end8 Tryd.results27 rfl rfl hd3 (below_on (below_next hbel1.out hb2) ho3 hlow)

end Go.Proofs.YtihmagpgbjlggaaDoor.Tbs
