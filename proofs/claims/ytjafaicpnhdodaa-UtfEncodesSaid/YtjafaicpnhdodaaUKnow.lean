/-
  The law's own known answers.
-/
import Derived.Test.YtjafaicpnhdodaaUEnc
import Derived.Deep.DeepMust
namespace Go.Proofs.Ytjafaicpnhdodaa.Utf
open Go Go.RowKit Go.Proofs.Ytjafaicpnhdodaa.Com

instance (x : Int) : Decidable (IsByte x) := by unfold IsByte; infer_instance
instance (l : List Int) : Decidable (Bytes l) := by unfold Bytes; infer_instance

def Shows (w : World) (L : List Int) (e : Ending) (w' : World) : Prop := ∃ ao cap, e = .returned (.slice ao L.length cap) ∧ Nums w' w'.heap.size .i32 ao L ∧ Below w.heap.size w w'
/-- What a literal of bytes says. -/
theorem decode_lit (l L : List Int) (hb : Bytes l) (hl : l.length ≤ 900000) (hL : decF l = L) (w : World) :
    Calls Try.prog 11 #[.slice (some ⟨w.heap.size, 0, none⟩) l.length l.length] (w.alloc (.cells (l.map (Value.int .u8)).toArray 5)) (Shows w L) := by
  refine (decode_any l hb (some ⟨w.heap.size, 0, none⟩) l.length _ hl ((Nums.lit w _ _ l).more (by simp))).mono ?_
  rintro e w' ⟨v, rfl, hown, hbel⟩
  obtain ⟨ao, cap, rfl, _, _, hn⟩ := hown.shape
  rw [hL] at hn ⊢
  exact ⟨ao, cap, rfl, hn, (enc_below _ _).trans (hbel.mono (by simp))⟩
/-- It is held against another literal. -/
theorem same_lit (L : List Int) (hl : L.length ≤ 1048576) (ao : Option Addr) (c : Nat) (w : World) (hn : Nums w w.heap.size .i32 ao L) :
    Calls Try.prog 10 #[.slice ao L.length c, .slice (some ⟨w.heap.size, 0, none⟩) L.length L.length] (w.alloc (.cells (L.map (Value.int .i32)).toArray 21)) fun e w' => e = .returned (.bool true) ∧ Below w.heap.size w w' := by
  refine (same_yes L ao (some ⟨w.heap.size, 0, none⟩) c L.length _ (w.heap.size + 1) hl ((hn.alloc (Nat.le_refl _) _).more (by omega)) (Nums.lit w _ _ L)).mono ?_
  rintro e w' ⟨rfl, hbel⟩
  exact ⟨rfl, (enc_below _ _).trans (hbel.mono (by simp))⟩

theorem dec_k1 : decF [97, 195, 164] = [97, 228] := by decide +kernel
theorem dec_k2 : decF [240, 144, 97] = [65533, 97] := by decide +kernel
theorem dec_k3 : decF [237, 160, 128] = [65533, 65533, 65533] := by decide +kernel
theorem text_k : ((strOfNums [195, 164]).toList == [195, 164]) = true := by decide +kernel
theorem below_next {a b c : World} (h : Below a.heap.size a b) (g : Below b.heap.size b c) : Below a.heap.size a c := h.trans (g.mono h.size)
theorem enc_k : encF 228 = [195, 164] := by decide +kernel

set_option maxHeartbeats 2000000 in
theorem known_any (w : World) : Calls Try.prog 9 #[] w fun e w' => e = .returned (.bool true) ∧ Below w.heap.size w w' := by
  go_enter Try.func9, Try.ntmps9
  go_wp2_with fail
  refine (decode_lit [97, 195, 164] [97, 228] (by decide) (by simp) dec_k1 _).mono ?_
  rintro e w1 ⟨a1, p1, rfl, hn1, hb1⟩
  go_wp2_with fail
  refine (same_lit [97, 228] (by simp) a1 p1 w1 hn1).mono ?_
  rintro e w2 ⟨rfl, hb2⟩
  go_wp2_with fail
  refine (decode_lit [240, 144, 97] [65533, 97] (by decide) (by simp) dec_k2 _).mono ?_
  rintro e w3 ⟨a3, p3, rfl, hn3, hb3⟩
  go_wp2_with fail
  refine (same_lit [65533, 97] (by simp) a3 p3 w3 hn3).mono ?_
  rintro e w4 ⟨rfl, hb4⟩
  go_wp2_with fail
  refine (decode_lit [237, 160, 128] [65533, 65533, 65533] (by decide) (by simp) dec_k3 _).mono ?_
  rintro e w5 ⟨a5, p5, rfl, hn5, hb5⟩
  go_wp2_with fail
  refine (same_lit [65533, 65533, 65533] (by simp) a5 p5 w5 hn5).mono ?_
  rintro e w6 ⟨rfl, hb6⟩
  go_wp2_with fail
  refine (encode_any 228 w6).mono ?_
  rintro e w7 ⟨v, rfl, hown, hb7⟩
  rw [enc_k] at hown
  obtain ⟨a7, p7, rfl, _, _, hn7⟩ := hown.shape
  go_wp2_with (with_reducible show wpList _ _ _ (⟨_, .convert _ _ _, _, _, _, _⟩ :: _) _ _; go_must (refine wpList_text rfl (.tmp 18) rfl Try.underlying22 Try.underlying5 Try.underlying9 p7 hn7 rfl ?_))
  go_ret
  exact ⟨ret_bool text_k, below_next (below_next (below_next (below_next (below_next (below_next hb1 hb2) hb3) hb4) hb5) hb6) hb7⟩

end Go.Proofs.Ytjafaicpnhdodaa.Utf
