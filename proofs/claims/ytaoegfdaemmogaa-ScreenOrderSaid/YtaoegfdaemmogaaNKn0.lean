/-
  screen: known.
-/
import Derived.Test.YtaoegfdaemmogaaNPl
namespace Go.Proofs.Ytaoegfdaemmogaa.Scn
open Go Go.RowKit Go.Proofs.Ytaoegfdaemmogaa.Com Go.Proofs.Ytaoegfdaemmogaa.Rw Go.Proofs.Ytaoegfdaemmogaa.Lns
theorem own_nums' {w : World} {B : Nat} {e : TypeId} {k : IntKind} {v : Value} {l : List Int} (h : Own w B e k v l) : ∃ ao c, v = .slice ao l.length c ∧ Nums w w.heap.size k ao l := by
  obtain ⟨ao, c, e, _, _, hn⟩ := h.shape
  exact ⟨ao, c, e, hn⟩
/-- What ids told is held against a list of a literal. -/
theorem alike_lit {w w1 : World} {v : Value} {l : List Int} (m : List Int) (hO : Own w1 w.heap.size 3 .i64 v l) (hl : l.length ≤ 1000) (h : decide (l = m) = true) :
    Calls Try.prog 25 #[v, .slice (some ⟨w1.heap.size, 0, none⟩) m.length m.length] (w1.alloc (.cells (m.map (Value.int .i64)).toArray 3)) fun e w' => e = .returned (.bool true) ∧ Below (w1.alloc (.cells (m.map (Value.int .i64)).toArray 3)).heap.size (w1.alloc (.cells (m.map (Value.int .i64)).toArray 3)) w' := by
  obtain ⟨ao, c, rfl, hn⟩ := own_nums' hO
  have := alike_any (c1 := c) (c2 := m.length) (w1.alloc (.cells (m.map (Value.int .i64)).toArray 3)) (hn.alloc (Nat.le_refl _) _) (Nums.lit w1 3 .i64 m) (by simp) (by simp) (by omega)
  rw [h] at this
  exact this
def K0 : Scr := newS 1 9 4 3 true []
theorem K0_fit : Fit K0 := newS_fit (by decide) (by decide) (by decide) (by decide) (by decide)
theorem zero_ids (nx cols m : Nat) (a : At) : idsL (freshS nx cols m a) = (List.range m).map fun (j : Nat) => ((nx : Int) + (j : Int)) := by simp [idsL, freshS]
def K1 : Scr := upS K0 K0.top 1 zeroAt true
def K2a : Scr := { K0 with top := 1, bot := 2 }
def K2 : Scr := downS K2a K2a.top 1 zeroAt
def K3 : Scr := upS K0 1 2 zeroAt false
def K4 : Scr := resS K0 2 3 2
theorem K1_ids : idsL K1.L = [2, 3, 4, 5] := by kernel_rfl
theorem K1_R : idsL K1.R = [1] := by kernel_rfl
theorem K2_ids : idsL K2.L = [1, 5, 2, 4] := by kernel_rfl
theorem K2_R : K2.R.length = 0 := by kernel_rfl
theorem K3_ids : idsL K3.L = [1, 4, 5, 6] := by kernel_rfl
theorem K3_R : K3.R.length = 0 := by kernel_rfl
theorem K4_ids : idsL K4.L = [2, 3] := by kernel_rfl
theorem K4_R : idsL K4.R = [1] := by kernel_rfl
theorem K0_len : K0.L.length = 4 := by kernel_rfl
theorem K1_fit : Fit K1 := K0_fit.up (Nat.zero_le _) _ _ _
theorem K2a_fit : Fit K2a := ⟨K0_fit.len, K0_fit.len5, by have := K0_len; show 2 < K0.L.length; omega, by decide, K0_fit.c1, K0_fit.c5, K0_fit.wid, K0_fit.ids, K0_fit.pos⟩
theorem K2_fit : Fit K2 := K2a_fit.down (by decide) _ _
theorem K3_fit : Fit K3 := K0_fit.up (by have h := K0_len; show 1 ≤ K0.L.length - 1; omega) _ _ _

theorem resL_len (l : List Cel) (cols : Nat) : (resL l cols).length = cols := by
  unfold resL
  rw [mendAll_length]
  exact resX_length l cols
theorem Fit.res {S : Scr} (h : Fit S) {rows cols y : Nat} (hr1 : 1 ≤ rows) (hr5 : rows ≤ 512) (hc1 : 1 ≤ cols) (hc5 : cols ≤ 512) (hy : y < S.L.length) : Fit (resS S rows cols y) ∧ (resS S rows cols y).L.length = rows := by
  have hAl : (resA S rows y).L.length = S.L.length - (y - (rows - 1)) := by
    unfold resA
    rw [chg_len (by omega)]
    omega
  have hAi : ∀ p ∈ (resA S rows y).L, 1 ≤ p.1 ∧ p.1 < ((resA S rows y).nx : Int) := chg_ids h.ids h.pos
  have hAp : 1 ≤ (resA S rows y).nx := h.pos
  unfold resS
  generalize resA S rows y = S1 at hAl hAi hAp ⊢
  have hBl : (resB S1 rows).L.length = rows := by
    unfold resB
    rw [chg_len (by omega)]
    omega
  have hBi : ∀ p ∈ (resB S1 rows).L, 1 ≤ p.1 ∧ p.1 < ((resB S1 rows).nx : Int) := chg_ids hAi hAp
  have hBp : 1 ≤ (resB S1 rows).nx := Nat.le_trans hAp (Nat.le_add_right _ _)
  generalize resB S1 rows = S2 at hBl hBi hBp ⊢
  have hl : (margS (wideS S2 cols)).L.length = rows := by rw [← hBl]; exact List.length_map _
  have hb : (margS (wideS S2 cols)).bot = (margS (wideS S2 cols)).L.length - 1 := rfl
  refine ⟨⟨by omega, by omega, by omega, Nat.zero_le _, hc1, hc5, fun p hp => ?_, fun p hp => ?_, hBp⟩, hl⟩
  · obtain ⟨q, _, rfl⟩ := List.mem_map.1 hp
    exact resL_len _ _
  · obtain ⟨q, hq, rfl⟩ := List.mem_map.1 hp
    exact hBi q hq
theorem K4_fit : Fit K4 := (K0_fit.res (by decide) (by decide) (by decide) (by decide) (by rw [K0_len]; decide)).1
theorem K1_find : findF (idsL K1.R) 1 = 0 := by kernel_rfl
theorem K1_len : K1.R.length = 1 := by kernel_rfl
theorem K4_find : findF (idsL K4.R) 1 = 0 := by kernel_rfl

set_option maxRecDepth 100000 in
set_option maxHeartbeats 8000000 in
theorem known_any (w : World) : Calls Try.prog 7 #[] w fun e w' => e = .returned (.bool true) ∧ Below w.heap.size w w' := by
  have hmd : Hid (∀ w, Calls Try.prog 8 #[.int .i64 4, .int .i64 3, .int .i64 9, .bool true] w (MadeYes w 4 3 9 true)) := Lib.hid (fun w => made_yes 4 3 9 true (by decide) (by decide) (by decide) (by decide) (by decide) w)
  go_enter Try.func7, Try.ntmps7
  go_wp2
  go_loopw [7] (fun iv wr => (iv = .int .i64 0 ∨ iv = .int .i64 1 ∨ iv = .int .i64 2 ∨ iv = .int .i64 3 ∨ iv = .int .i64 4) ∧ Hid (Below w.heap.size w wr)) (fun iv _ => 4 - (intOf iv).toNat)
  case atStart => exact ⟨.inl rfl, Lib.hid (Below.refl _ _)⟩
  case round =>
    obtain ⟨hi, hB⟩ := hrel
    have hsz := hB.out.size
    rcases hi with rfl | rfl | rfl | rfl | rfl
    · go_wp2_with (first
        | (go_at_call 8; (with_reducible refine (hmd.out _).mono ?_); rintro e w1 ⟨x, s, rfl, hs1, hb1⟩; have hB1 := below_next hB.out hb1)
        | (go_at_call 23; (refine (Up_keep hs1 K0_fit 1 (by decide) zeroAt ⟨rfl, rfl⟩).mono ?_); rintro e w2 ⟨rfl, hs2, hf2⟩; change SC _ _ _ _ K1 at hs2; have hbs := hb1.size; have hB2 := hB1.trans ((hf2.below hbs).mono hsz))
        | (go_at_call 11; (with_reducible refine (ids_sc hs2 K1_fit).mono ?_); rintro e w3 ⟨v, rfl, hO, hb3⟩; rw [K1_ids] at hO)
        | (go_at_call 25; (refine (alike_lit [2, 3, 4, 5] hO (by decide) (by decide)).mono ?_); rintro e w4 ⟨rfl, hb4⟩; have hbb := below_next hb3 (below_next (below_new _ _) hb4); have hs4 := hs2.below hbb)
        | (go_at_call 26; (with_reducible refine (len_sc hs4).mono ?_); rintro e w' ⟨rfl, rfl⟩; have hln := K1_len)
        | (go_at_call 19; (with_reducible refine (stfind_sc hs4 1).mono ?_); rintro e w5 ⟨rfl, hb5⟩; have hfd := K1_find))
      have hres := Lib.hid (below_next (below_next hB2 hbb) hb5 : Below w.heap.size w w5)
      go_roundw
      case rel => exact ⟨.inr (.inl rfl), hres⟩
      case measure => simp [intOf]
    · go_wp2_with (first
        | (go_at_call 8; (with_reducible refine (hmd.out _).mono ?_); rintro e w1 ⟨x, s, rfl, hs1, hb1⟩; have hB1 := below_next hB.out hb1)
        | (go_at_call 21; (refine (setm_yes hs1 K0_fit 1 2 (by decide)).mono ?_); rintro e w1a ⟨rfl, hs1a, hf1a⟩; change SC _ _ _ _ K2a at hs1a)
        | (go_at_call 24; (refine (Down_sc hs1a K2a_fit 1 (by decide) zeroAt).mono ?_); rintro e w2 ⟨rfl, hs2, hf2⟩; change SC _ _ _ _ K2 at hs2; have hbs := hb1.size; have hB2 := (hB1.trans ((hf1a.below hbs).mono hsz)).trans ((hf2.below (Nat.le_trans hbs hf1a.size)).mono hsz))
        | (go_at_call 11; (with_reducible refine (ids_sc hs2 K2_fit).mono ?_); rintro e w3 ⟨v, rfl, hO, hb3⟩; rw [K2_ids] at hO)
        | (go_at_call 25; (refine (alike_lit [1, 5, 2, 4] hO (by decide) (by decide)).mono ?_); rintro e w4 ⟨rfl, hb4⟩; have hbb := below_next hb3 (below_next (below_new _ _) hb4); have hs4 := hs2.below hbb)
        | (go_at_call 26; (with_reducible refine (len_sc hs4).mono ?_); rintro e w' ⟨rfl, rfl⟩; have hln := K2_R))
      have hres := Lib.hid (below_next hB2 hbb : Below w.heap.size w w4)
      go_roundw
      case rel => exact ⟨.inr (.inr (.inl rfl)), hres⟩
      case measure => simp [intOf]
    · go_wp2_with (first
        | (go_at_call 8; (with_reducible refine (hmd.out _).mono ?_); rintro e w1 ⟨x, s, rfl, hs1, hb1⟩; have hB1 := below_next hB.out hb1)
        | (go_at_call 28; (refine (del_yes hs1 K0_fit 1 2 (by decide) (by decide) (by decide) zeroAt).mono ?_); rintro e w2 ⟨rfl, hs2, hf2⟩; change SC _ _ _ _ K3 at hs2; have hbs := hb1.size; have hB2 := hB1.trans ((hf2.below hbs).mono hsz))
        | (go_at_call 11; (with_reducible refine (ids_sc hs2 K3_fit).mono ?_); rintro e w3 ⟨v, rfl, hO, hb3⟩; rw [K3_ids] at hO)
        | (go_at_call 25; (refine (alike_lit [1, 4, 5, 6] hO (by decide) (by decide)).mono ?_); rintro e w4 ⟨rfl, hb4⟩; have hbb := below_next hb3 (below_next (below_new _ _) hb4); have hs4 := hs2.below hbb)
        | (go_at_call 26; (with_reducible refine (len_sc hs4).mono ?_); rintro e w' ⟨rfl, rfl⟩; have hln := K3_R))
      have hres := Lib.hid (below_next hB2 hbb : Below w.heap.size w w4)
      go_roundw
      case rel => exact ⟨.inr (.inr (.inr (.inl rfl))), hres⟩
      case measure => simp [intOf]
    · go_wp2_with (first
        | (go_at_call 8; (with_reducible refine (hmd.out _).mono ?_); rintro e w1 ⟨x, s, rfl, hs1, hb1⟩; have hB1 := below_next hB.out hb1)
        | (go_at_call 13; (refine (res_yes hs1 K0_fit 2 3 2 (by decide) (by decide) (by decide) (by decide) (by show 2 < K0.L.length; rw [K0_len]; decide) (by decide)).mono ?_); rintro e w2 ⟨rfl, hs2, hf2⟩; change SC _ _ _ _ K4 at hs2; have hbs := hb1.size; have hB2 := hB1.trans ((hf2.below hbs).mono hsz))
        | (go_at_call 11; (with_reducible refine (ids_sc hs2 K4_fit).mono ?_); rintro e w3 ⟨v, rfl, hO, hb3⟩; rw [K4_ids] at hO)
        | (go_at_call 25; (refine (alike_lit [2, 3] hO (by decide) (by decide)).mono ?_); rintro e w4 ⟨rfl, hb4⟩; have hbb := below_next hb3 (below_next (below_new _ _) hb4); have hs4 := hs2.below hbb)
        | (go_at_call 19; (with_reducible refine (stfind_sc hs4 1).mono ?_); rintro e w5 ⟨rfl, hb5⟩; have hfd := K4_find))
      have hres := Lib.hid (below_next (below_next hB2 hbb) hb5 : Below w.heap.size w w5)
      go_roundw
      case rel => exact ⟨.inr (.inr (.inr (.inr rfl))), hres⟩
      case measure => simp [intOf]
    · go_wp2
      go_ret
      exact ⟨rfl, hB.out⟩
end Go.Proofs.Ytaoegfdaemmogaa.Scn
