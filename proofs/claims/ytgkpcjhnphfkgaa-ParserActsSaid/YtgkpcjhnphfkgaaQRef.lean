/-
  The reference's comparisons: alike acts are told alike.
-/
import Derived.Test.YtgkpcjhnphfkgaaQLead
import Derived.Deep.RegionHeld3
namespace Go.Proofs.Ytgkpcjhnphfkgaa.Prs
open Go Go.RowKit Go.Proofs.Ytgkpcjhnphfkgaa.Com Go.Proofs.Ytgkpcjhnphfkgaa.Par

theorem ints_yes (l : List Int) (ao bo : Option Addr) (c d : Nat) (w : World) (B : Nat) (hl : l.length ≤ 1048576) (h1 : Nums w B .i64 ao l) (h2 : Nums w B .i64 bo l) :
    Calls Try.prog 20 #[.slice ao l.length c, .slice bo l.length d] w fun e w' => e = .returned (.bool true) ∧ ∃ n, w' = w.drewN n := by
  go_enter Try.func20, Try.ntmps20
  go_wp2
  go_loopw [5] (fun i wr => ∃ k n : Nat, k ≤ l.length ∧ i = .int .i64 k ∧ wr = w.drewN n) (fun i _ => l.length - (intOf i).toNat)
  case atStart => exact ⟨0, 0, by omega, rfl, rfl⟩
  case round =>
    obtain ⟨k, n, hk, rfl, rfl⟩ := hrel
    by_cases hlt : k < l.length
    · obtain ⟨ad, rfl, _, hc1⟩ := h1.at hlt
      obtain ⟨bd, rfl, _, hc2⟩ := h2.at hlt
      clear h1 h2
      generalize l[k] = x at hc1 hc2
      go_wp2
      go_quiet (fail)
      go_wp2
      go_roundw
      case rel => exact ⟨k + 1, _, by omega, by go_num, rfl⟩
      case measure => simp [intOf]; omega
    · go_wp2
      go_ret
      exact ⟨rfl, _, rfl⟩
theorem runes_yes (l : List Int) (ao bo : Option Addr) (c d : Nat) (w : World) (B : Nat) (hl : l.length ≤ 1048576) (h1 : Nums w B .i32 ao l) (h2 : Nums w B .i32 bo l) :
    Calls Try.prog 21 #[.slice ao l.length c, .slice bo l.length d] w fun e w' => e = .returned (.bool true) ∧ ∃ n, w' = w.drewN n := by
  go_enter Try.func21, Try.ntmps21
  go_wp2
  go_loopw [5] (fun i wr => ∃ k n : Nat, k ≤ l.length ∧ i = .int .i64 k ∧ wr = w.drewN n) (fun i _ => l.length - (intOf i).toNat)
  case atStart => exact ⟨0, 0, by omega, rfl, rfl⟩
  case round =>
    obtain ⟨k, n, hk, rfl, rfl⟩ := hrel
    by_cases hlt : k < l.length
    · obtain ⟨ad, rfl, _, hc1⟩ := h1.at hlt
      obtain ⟨bd, rfl, _, hc2⟩ := h2.at hlt
      clear h1 h2
      generalize l[k] = x at hc1 hc2
      go_wp2
      go_quiet (fail)
      go_wp2
      go_roundw
      case rel => exact ⟨k + 1, _, by omega, by go_num, rfl⟩
      case measure => simp [intOf]; omega
    · go_wp2
      go_ret
      exact ⟨rfl, _, rfl⟩

/-- No list of the act is long. -/
structure Act.Small (A : Act) : Prop where
  params : A.params.length ≤ 1048576
  inter : A.inter.length ≤ 1048576
  text : A.text.length ≤ 1048576

set_option maxRecDepth 100000 in
set_option maxHeartbeats 4000000 in
theorem sameAct_yes (A : Act) (hA : A.Small) (cs ds : List Value) (w : World) (h1 : ActIs w (· < w.heap.size) A cs) (h2 : ActIs w (· < w.heap.size) A ds) :
    Calls Try.prog 11 #[.agg cs.toArray, .agg ds.toArray] w fun e w' => e = .returned (.bool true) ∧ Below w.heap.size w w' := by
  obtain ⟨ap, cp, ai, ci, at_, ct, rfl, p1, i1, t1⟩ := h1.ex
  obtain ⟨bp, dp, bi, di, bt, dt, rfl, p2, i2, t2⟩ := h2.ex
  clear h1 h2
  have hp := Lib.hid (fun w' (hb : Below w.heap.size w w') => ints_yes A.params ap bp cp dp w' w.heap.size hA.params (Nums.below (k := .i64) p1 hb (Nat.le_refl _)) (Nums.below p2 hb (Nat.le_refl _)))
  have hi := Lib.hid (fun w' (hb : Below w.heap.size w w') => runes_yes A.inter ai bi ci di w' w.heap.size hA.inter (Nums.below i1 hb (Nat.le_refl _)) (Nums.below i2 hb (Nat.le_refl _)))
  have ht := Lib.hid (fun w' (hb : Below w.heap.size w w') => runes_yes A.text at_ bt ct dt w' w.heap.size hA.text (Nums.below t1 hb (Nat.le_refl _)) (Nums.below t2 hb (Nat.le_refl _)))
  clear p1 p2 i1 i2 t1 t2 hA
  unfold actL
  obtain ⟨kind, R, priv, params, inter, final, text⟩ := A
  simp only at hp hi ht ⊢
  generalize params.length = np at hp
  generalize inter.length = ni at hi
  generalize text.length = nt at ht
  go_enter Try.func11, Try.ntmps11
  go_wp2_with fail
  have b2 := below_next (below_new w (.cells #[.int .u8 kind, .int .i32 R, .int .i32 priv, .slice ap np cp, .slice ai ni ci, .int .i32 final, .slice at_ nt ct] 33)) (below_new _ (.cells #[.int .u8 kind, .int .i32 R, .int .i32 priv, .slice bp np dp, .slice bi ni di, .int .i32 final, .slice bt nt dt] 33))
  replace b2 := Lib.hid b2
  refine (hp.out _ b2.out).mono ?_
  rintro e w1 ⟨rfl, n1, rfl⟩
  go_wp2_with fail
  refine (hi.out _ (below_dr b2.out _)).mono ?_
  rintro e w1 ⟨rfl, n2, rfl⟩
  go_wp2_with fail
  refine (ht.out _ (below_dr b2.out _)).mono ?_
  rintro e w1 ⟨rfl, n3, rfl⟩
  go_wp2_with fail
  go_ret
  exact ⟨rfl, below_dr b2.out _⟩

set_option maxRecDepth 100000 in
set_option maxHeartbeats 4000000 in
theorem same_yes (As : List Act) (hA : ∀ A ∈ As, A.Small) (hl : As.length ≤ 1048576) (ao bo : Option Addr) (c d : Nat) (w : World) (h1 : ActsRd w ao As) (h2 : ActsRd w bo As) :
    Calls Try.prog 10 #[.slice ao As.length c, .slice bo As.length d] w fun e w' => e = .returned (.bool true) ∧ Below w.heap.size w w' := by
  go_enter Try.func10, Try.ntmps10
  go_wp2
  go_loopw [5] (fun i wr => ∃ k : Nat, k ≤ As.length ∧ i = .int .i64 k ∧ Below w.heap.size w wr) (fun i _ => As.length - (intOf i).toNat)
  case atStart => exact ⟨0, by omega, rfl, Below.refl _ _⟩
  case round =>
    obtain ⟨k, hk, rfl, hbw⟩ := hrel
    by_cases hlt : k < As.length
    · obtain ⟨g, cs, rfl, hg, a1, hc⟩ := (h1.below hbw).at_ k As[k] (List.getElem?_eq_getElem hlt)
      obtain ⟨h, ds, rfl, hh, a2, hd⟩ := (h2.below hbw).at_ k As[k] (List.getElem?_eq_getElem hlt)
      have hsm := hA _ (List.getElem_mem hlt)
      rename_i wr _ _
      have hcall := Lib.hid (fun w' (hb : Below wr.heap.size wr w') => sameAct_yes As[k] hsm cs ds w' ((a1.only (Only.of_below hb []) (by simp)).mono (fun g hg _ => hg)) ((a2.only (Only.of_below hb []) (by simp)).mono (fun g hg _ => hg)))
      obtain ⟨ap, cp, ai, ci, at_, ct, rfl, -⟩ := a1.ex
      obtain ⟨bp, dp, bi, di, bt, dt, rfl, -⟩ := a2.ex
      have x0 := hc 0 _ rfl
      have x1 := hc 1 _ rfl
      have x2 := hc 2 _ rfl
      have x3 := hc 3 _ rfl
      have x4 := hc 4 _ rfl
      have x5 := hc 5 _ rfl
      have x6 := hc 6 _ rfl
      have y0 := hd 0 _ rfl
      have y1 := hd 1 _ rfl
      have y2 := hd 2 _ rfl
      have y3 := hd 3 _ rfl
      have y4 := hd 4 _ rfl
      have y5 := hd 5 _ rfl
      have y6 := hd 6 _ rfl
      have hkeep := Lib.hid (fun w' (hb : Below wr.heap.size wr w') (b o : Nat) (u : Value) (hb2 : b < wr.heap.size) (hcell : wr.cell? ⟨b, o, none⟩ = some u) => ((World.cell?_of_block (w := wr) (hb.block b hb2)).trans hcell : w'.cell? ⟨b, o, none⟩ = some u))
      clear a1 a2 hc hd h1 h2 hsm hA
      generalize As[k] = A at hcall x0 x1 x2 x3 x4 x5 x6 y0 y1 y2 y3 y4 y5 y6
      obtain ⟨kind, R, priv, params, inter, final, text⟩ := A
      simp only [actL, Nat.add_zero] at hcall x0 x1 x2 x3 x4 x5 x6 y0 y1 y2 y3 y4 y5 y6
      generalize params.length = np at hcall x3 y3
      generalize inter.length = ni at hcall x4 y4
      generalize text.length = nt at hcall x6 y6
      go_wp2
      go_region_held3 (fun w' => w'.cell? ⟨g, k * 7, none⟩ = some (.int .u8 kind) ∧ w'.cell? ⟨g, k * 7 + 1, none⟩ = some (.int .i32 R) ∧ w'.cell? ⟨g, k * 7 + 2, none⟩ = some (.int .i32 priv) ∧ w'.cell? ⟨g, k * 7 + 3, none⟩ = some (.slice ap np cp) ∧ w'.cell? ⟨g, k * 7 + 4, none⟩ = some (.slice ai ni ci) ∧ w'.cell? ⟨g, k * 7 + 5, none⟩ = some (.int .i32 final) ∧ w'.cell? ⟨g, k * 7 + 6, none⟩ = some (.slice at_ nt ct) ∧ w'.cell? ⟨h, k * 7, none⟩ = some (.int .u8 kind) ∧ w'.cell? ⟨h, k * 7 + 1, none⟩ = some (.int .i32 R) ∧ w'.cell? ⟨h, k * 7 + 2, none⟩ = some (.int .i32 priv) ∧ w'.cell? ⟨h, k * 7 + 3, none⟩ = some (.slice bp np dp) ∧ w'.cell? ⟨h, k * 7 + 4, none⟩ = some (.slice bi ni di) ∧ w'.cell? ⟨h, k * 7 + 5, none⟩ = some (.int .i32 final) ∧ w'.cell? ⟨h, k * 7 + 6, none⟩ = some (.slice bt nt dt))
        (first
          | exact ⟨x0, x1, x2, x3, x4, x5, x6, y0, y1, y2, y3, y4, y5, y6⟩
          | (have hb9 := (below_dr (Below.refl wr.heap.size wr) 1).trans hb1; have hk9 := hkeep.out _ hb9; exact ⟨hk9 g _ _ hg x0, hk9 g _ _ hg x1, hk9 g _ _ hg x2, hk9 g _ _ hg x3, hk9 g _ _ hg x4, hk9 g _ _ hg x5, hk9 g _ _ hg x6, hk9 h _ _ hh y0, hk9 h _ _ hh y1, hk9 h _ _ hh y2, hk9 h _ _ hh y3, hk9 h _ _ hh y4, hk9 h _ _ hh y5, hk9 h _ _ hh y6⟩)
          | go_keep)
        (first | (go_at_call 11; refine (hcall.out _ (below_dr (Below.refl wr.heap.size wr) 1)).mono ?_; rintro e w1 ⟨rfl, hb1⟩))
      go_wp2
      go_roundw
      case rel => exact ⟨k + 1, by omega, by go_num, hbw.trans (((below_dr (Below.refl wr.heap.size wr) 1).trans hb1).mono hbw.size)⟩
      case measure => simp [intOf]; omega
    · go_wp2
      go_ret
      exact ⟨rfl, hbw⟩

end Go.Proofs.Ytgkpcjhnphfkgaa.Prs
