/-
  keys: the law's known.
-/
import Derived.Test.YtkmedfffmalbgaaDoorKEncK
namespace Go.Proofs.YtkmedfffmalbgaaDoor.Kys
open Go Go.RowKit Go.Proofs.YtkmedfffmalbgaaDoor.Com Go.Proofs.YtkmedfffmalbgaaDoor.Mds

theorem dg_one {n : Nat} (h : n < 10) : dgF (n : Int) = [48 + (n : Int)] := dg_small h
theorem dg_two {n : Nat} (h : 10 ≤ n) (h1 : n < 100) : dgF (n : Int) = [48 + ((n / 10 : Nat) : Int), 48 + ((n % 10 : Nat) : Int)] := by
  rw [dg_big h, dg_small (by omega)]
  rfl
theorem dg_three {n : Nat} (h : 100 ≤ n) (h1 : n < 1000) : dgF (n : Int) = [48 + ((n / 100 : Nat) : Int), 48 + ((n / 10 % 10 : Nat) : Int), 48 + ((n % 10 : Nat) : Int)] := by
  rw [dg_big (by omega), dg_two (n := n / 10) (by omega) (by omega), Nat.div_div_eq_div_mul]
  rfl
theorem dg15 : dgF 15 = [49, 53] := dg_two (n := 15) (by omega) (by omega)
def k1 : List Int := [27, 91, 65]
def k2 : List Int := [27, 79, 65]
def k3 : List Int := [3]
def k4 : List Int := [27, 91, 49, 53, 126]
theorem k1_s : strOfNums k1 = { data := #[27, 91, 65] } := rfl
theorem k2_s : strOfNums k2 = { data := #[27, 79, 65] } := rfl
theorem k3_s : strOfNums k3 = { data := #[3] } := rfl
theorem k4_s : strOfNums k4 = { data := #[27, 91, 49, 53, 126] } := rfl
theorem key_ok {kd r n md : Int} (h1 : 0 ≤ kd ∧ kd ≤ 255) (h2 : -2147483648 ≤ r ∧ r ≤ 2147483647) (h3 : -9223372036854775808 ≤ n ∧ n ≤ 9223372036854775807) (h4 : 0 ≤ md ∧ md ≤ 255) : (Ky.mk kd r n md).Ok := ⟨h1, h2, h3, h4⟩
theorem know1 (w : World) (hT : Tab w) : Calls Tryd.prog 17 #[.agg #[.bool false, .bool false, .bool false, .bool false, .bool false, .bool false, .bool false, .bool false], .agg #[.int .u8 2, .int .i32 0, .int .i64 0, .int .u8 0]] w (EncIs k1 w) :=
  encode_yes ⟨false, false, false, false, false, false, false, false⟩ ⟨2, 0, 0, 0⟩ (key_ok (by decide) (by decide) (by decide) (by decide)) (by decide) w hT
theorem know2 (w : World) (hT : Tab w) : Calls Tryd.prog 17 #[.agg #[.bool false, .bool false, .bool true, .bool false, .bool false, .bool false, .bool false, .bool false], .agg #[.int .u8 2, .int .i32 0, .int .i64 0, .int .u8 0]] w (EncIs k2 w) :=
  encode_yes ⟨false, false, true, false, false, false, false, false⟩ ⟨2, 0, 0, 0⟩ (key_ok (by decide) (by decide) (by decide) (by decide)) (by decide) w hT
theorem know3 (w : World) (hT : Tab w) : Calls Tryd.prog 17 #[.agg #[.bool false, .bool false, .bool false, .bool false, .bool false, .bool false, .bool false, .bool false], .agg #[.int .u8 1, .int .i32 99, .int .i64 0, .int .u8 4]] w (EncIs k3 w) :=
  encode_yes ⟨false, false, false, false, false, false, false, false⟩ ⟨1, 99, 0, 4⟩ (key_ok (by decide) (by decide) (by decide) (by decide)) (by decide) w hT
theorem know4 (w : World) (hT : Tab w) : Calls Tryd.prog 17 #[.agg #[.bool false, .bool false, .bool false, .bool false, .bool false, .bool false, .bool false, .bool false], .agg #[.int .u8 12, .int .i32 0, .int .i64 5, .int .u8 0]] w (EncIs k4 w) := by
  have h := encode_yes ⟨false, false, false, false, false, false, false, false⟩ ⟨12, 0, 5, 0⟩ (key_ok (by decide) (by decide) (by decide) (by decide)) (by decide) w hT
  have e : encK false false ⟨12, 0, 5, 0⟩ = k4 := by
    show [27, 91] ++ (dgF 15 ++ []) ++ [126] = k4
    rw [dg15]
    rfl
  dsimp only at h
  rw [e] at h
  exact h
theorem nums_next {w w' : World} {k : IntKind} {ao : Option Addr} {l : List Int} (h : Nums w w.heap.size k ao l) (hb : Below w.heap.size w w') : Nums w' w'.heap.size k ao l := (h.below hb (Nat.le_refl _)).more hb.size
def Yes (w : World) (e : Ending) (w' : World) : Prop := e = .returned (.bool true) ∧ Below w.heap.size w w'
set_option maxHeartbeats 4000000 in
theorem known_any (w : World) (hT : Tab w) : Calls Tryd.prog 8 #[] w (Yes w) := by
  have hs1 := k1_s
  have hs2 := k2_s
  have hs3 := k3_s
  have hs4 := k4_s
  replace hT := Lib.hid hT
  go_enter Tryd.func8, Tryd.ntmps8
  go_wp2_with (first
    | (go_at_call 17; (with_reducible refine (know1 _ hT.out).mono ?_); rintro e w1 ⟨v1, rfl, hr1, hb1⟩; obtain ⟨a1, c1, rfl, _, _, hn1⟩ := hr1.shape; replace hb1 := Lib.hid hb1; replace hn1 := Lib.hid hn1; clear hr1)
    | (go_at_call 17; (with_reducible refine (know2 _ (hT.out.below hb1.out)).mono ?_); rintro e w2 ⟨v2, rfl, hr2, hb2⟩; obtain ⟨a2, c2, rfl, _, _, hn2⟩ := hr2.shape; replace hn1 := Lib.hid (nums_next hn1.out hb2); replace hb2 := Lib.hid (below_next hb1.out hb2); replace hn2 := Lib.hid hn2; clear hr2)
    | (go_at_call 17; (with_reducible refine (know3 _ (hT.out.below hb2.out)).mono ?_); rintro e w3 ⟨v3, rfl, hr3, hb3⟩; obtain ⟨a3, c3, rfl, _, _, hn3⟩ := hr3.shape; replace hn1 := Lib.hid (nums_next hn1.out hb3); replace hn2 := Lib.hid (nums_next hn2.out hb3); replace hb3 := Lib.hid (below_next hb2.out hb3); replace hn3 := Lib.hid hn3; clear hr3)
    | (go_at_call 17; (with_reducible refine (know4 _ (hT.out.below hb3.out)).mono ?_); rintro e w4 ⟨v4, rfl, hr4, hb4⟩; obtain ⟨a4, c4, rfl, _, _, hn4⟩ := hr4.shape; replace hn1 := Lib.hid (nums_next hn1.out hb4); replace hn2 := Lib.hid (nums_next hn2.out hb4); replace hn3 := Lib.hid (nums_next hn3.out hb4); replace hb4 := Lib.hid (below_next hb3.out hb4); replace hn4 := Lib.hid hn4; clear hr4)
    | (with_reducible show wpList _ _ _ (⟨some 49, .convert _ _ _, _, _, _, _⟩ :: _) _ _; go_must (refine wpList_text rfl (.tmp 48) rfl Tryd.underlying26 Tryd.underlying5 Tryd.underlying9 _ hn1.out rfl ?_))
    | (with_reducible show wpList _ _ _ (⟨some 54, .convert _ _ _, _, _, _, _⟩ :: _) _ _; go_must (refine wpList_text rfl (.tmp 53) rfl Tryd.underlying26 Tryd.underlying5 Tryd.underlying9 _ hn2.out rfl ?_))
    | (with_reducible show wpList _ _ _ (⟨some 59, .convert _ _ _, _, _, _, _⟩ :: _) _ _; go_must (refine wpList_text rfl (.tmp 58) rfl Tryd.underlying26 Tryd.underlying5 Tryd.underlying9 _ hn3.out rfl ?_))
    | (with_reducible show wpList _ _ _ (⟨some 64, .convert _ _ _, _, _, _, _⟩ :: _) _ _; go_must (refine wpList_text rfl (.tmp 63) rfl Tryd.underlying26 Tryd.underlying5 Tryd.underlying9 _ hn4.out rfl ?_)))
  go_ret
  exact ⟨rfl, hb4.out⟩

end Go.Proofs.YtkmedfffmalbgaaDoor.Kys
