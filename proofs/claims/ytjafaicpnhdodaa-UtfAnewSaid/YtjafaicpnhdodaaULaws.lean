/-
  The laws of utf: UtfDecodes, UtfEncodes, UtfSplits, UtfAnew.
-/
import Derived.Test.YtjafaicpnhdodaaUKnow
import Derived.Test.YtjafaicpnhdodaaIn
import Derived.Deep.RegionHeld3
import Derived.Deep.RegionWith
import Derived.Deep.DeepMust
namespace Go.Proofs.Ytjafaicpnhdodaa.Utf
open Go Go.RowKit Go.Proofs.Ytjafaicpnhdodaa.Com

theorem bytes_of_fits {l : List Int} (h : Fits .u8 l) : Bytes l := fun x hx => bounds_u8 (h x hx)

/-- Behind append([]T{}, l...): a row of the call's own that shows l. -/
theorem copied {w w1 : World} {e : TypeId} {k : IntKind} {v1 : Value} {l : List Int} (h : Own w1 w.heap.size e k v1 ([] ++ l)) (ho : Only (Value.slice (some ⟨w.heap.size, 0, none⟩) 0 0).ownBlock.toList (w.alloc (.cells #[] e)) w1) :
    ∃ a1 c1, v1 = .slice a1 l.length c1 ∧ Below w.heap.size w w1 ∧ Nums w1 w1.heap.size k a1 l := by
  obtain ⟨a1, c1, rfl, _, _, hn⟩ := h.shape
  exact ⟨a1, c1, rfl, (enc_below _ _).trans (ho.below (by simp) (by simp [Value.ownBlock])), hn⟩

set_option maxHeartbeats 2000000 in
theorem lawEncodes (r : Int) (_wr : (Lit.int .i32 r).wf = true) (w : World) : Calls Try.prog 4 #[.int .i32 r] w fun e w' => e = .returned (.bool true) ∧ Below w.heap.size w w' := by
  go_enter Try.func4, Try.ntmps4
  go_wp2_with fail
  go_region_with (first
    | (go_at_call 13; refine (encode_any r _).mono ?_; rintro e w1 ⟨v1, rfl, hown1, hb1⟩; obtain ⟨a1, c1, rfl, _, _, hn1⟩ := hown1.shape; have t1 := run_text hn1 Try.underlying22 Try.underlying5 Try.underlying9 c1)
    | (go_at_call 14; refine (refEncode_any r _).mono ?_; rintro e w2 ⟨v2, rfl, hown2, hb2⟩; obtain ⟨a2, c2, rfl, _, _, hn2⟩ := hown2.shape; have t2 := run_text hn2 Try.underlying22 Try.underlying5 Try.underlying9 c2; have t3 := run_text (hn1.below hb2 (Nat.le_refl _)) Try.underlying22 Try.underlying5 Try.underlying9 c1)
    | (go_at_call 9; refine (known_any _).mono ?_; rintro e w3 ⟨rfl, hb3⟩))
  all_goals
    go_wp2
    go_ret
    exact ⟨rfl, below_next (below_next (((Below.refl _ w).drew).trans hb1) hb2) hb3⟩

set_option maxHeartbeats 2000000 in
theorem lawDecodes (l : List Int) (hf : Fits .u8 l) (ao : Option Addr) (c : Nat) (hc : l.length ≤ c) (hm : c ≤ maxLen) (w : World) (hn : Nums w w.heap.size .u8 ao l) :
    Calls Try.prog 3 #[.slice ao l.length c] w fun e w' => e = .returned (.bool true) ∧ Below w.heap.size w w' := by
  have hb := bytes_of_fits hf
  have hl63 : l.length ≤ 9223372036854775807 := by simp only [maxLen] at hm; omega
  by_cases h3 : 3000 < l.length
  · clear hm
    go_enter Try.func3, Try.ntmps3
    go_wp2_with ((go_at_call 9; refine (known_any _).mono ?_; rintro e w1 ⟨rfl, hb1⟩))
    go_ret
    exact ⟨rfl, hb1⟩
  · clear hm
    go_enter Try.func3, Try.ntmps3
    have hl3 : l.length ≤ 3000 := by omega
    clear h3
    go_wp2_with ((at_builtin; refine wpList_app elemB rfl _ _ rfl w.heap.size (.slice (some ⟨w.heap.size, 0, none⟩) 0 0) [] l ao w.heap.size c rfl rfl (Own.lit w _ _ _ [] (Nat.le_refl _) (by simp [maxLen])) (hn.alloc (Nat.le_refl _) _) ?_ ?_ ?_ ?_; (simp); (simp; omega); (simp [maxLen]; omega); intro v1 w1 hown1 ho1 hat1))
    obtain ⟨a1, c1, rfl, hB1, hn1⟩ := copied hown1 ho1
    clear hown1 ho1 hat1
    refine (decode_any l hb a1 c1 w1 (by omega) hn1).mono ?_
    rintro e w2 ⟨v2, rfl, hown2, hb2⟩
    have hB2 := below_next hB1 hb2
    go_wp2_with fail
    refine (refDecode_any l hb ao c w2 (by omega) hc ((hn.below hB2 (Nat.le_refl _)).more hB2.size)).mono ?_
    rintro e w3 ⟨v3, rfl, hown3, hb3⟩
    have hB3 := below_next hB2 hb3
    obtain ⟨a2, c2, rfl, _, _, hn2⟩ := hown2.shape
    obtain ⟨a3, c3, rfl, _, _, hn3⟩ := hown3.shape
    have hd : (decF l).length ≤ 3000 := Nat.le_trans (dec_len hb) hl3
    go_wp2_with fail
    refine (same_yes (decF l) a2 a3 c2 c3 w3 w3.heap.size (by omega) ((hn2.below hb3 (Nat.le_refl _)).more hb3.size) hn3).mono ?_
    rintro e w4 ⟨rfl, hb4⟩
    have hB4 := below_next hB3 hb4
    have hn4 := hn.below hB4 (Nat.le_refl _)
    have hn5 := hn1.below (below_next (below_next hb2 hb3) hb4) (Nat.le_refl _)
    clear hn hn1 hn2 hn3 hown2 hown3
    go_wp2_with (first
      | (with_reducible show wpList _ _ _ (⟨some 18, .convert _ _ _, _, _, _, _⟩ :: _) _ _; go_must (refine wpList_text rfl (.tmp 17) rfl Try.underlying22 Try.underlying5 Try.underlying9 c1 hn5 rfl ?_))
      | (with_reducible show wpList _ _ _ (⟨some 20, .convert _ _ _, _, _, _, _⟩ :: _) _ _; go_must (refine wpList_text rfl (.tmp 19) rfl Try.underlying22 Try.underlying5 Try.underlying9 c hn4 rfl ?_))
      | (go_at_call 9; refine (known_any _).mono ?_; rintro e w5 ⟨rfl, hb5⟩))
    go_ret
    exact ⟨rfl, below_next hB4 hb5⟩

end Go.Proofs.Ytjafaicpnhdodaa.Utf
