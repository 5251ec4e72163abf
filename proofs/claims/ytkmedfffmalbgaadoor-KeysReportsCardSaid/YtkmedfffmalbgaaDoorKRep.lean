/-
  keys: the reports on both sides; an arrow's bytes on both sides.
-/
import Derived.Test.YtkmedfffmalbgaaDoorKDig
import Derived.Test.YtkmedfffmalbgaaDoorKKnow
namespace Go.Proofs.YtkmedfffmalbgaaDoor.Kys
open Go Go.RowKit Go.Proofs.YtkmedfffmalbgaaDoor.Com Go.Proofs.YtkmedfffmalbgaaDoor.Mds

def mx (r : Int) : Int := if r < 1 then 1 else r
theorem mx_in {r : Int} (h : r ≤ 9223372036854775807) : 0 ≤ mx r ∧ mx r ≤ 9223372036854775807 := by
  unfold mx
  split <;> omega
def curF (r c : Int) : List Int := ctlF [27, 91] [mx r, mx c] 82
set_option maxHeartbeats 2000000 in
theorem cursor_any (r c : Int) (hr : r ≤ 9223372036854775807) (hc : c ≤ 9223372036854775807) (w : World) (hT : Tab w) : Calls Tryd.prog 13 #[.int .i64 r, .int .i64 c] w (Put w.heap.size (curF r c) w) := by
  have hx := mx_in hr
  have hy := mx_in hc
  have hcon := ctl2 _ _ csi_b (by simp) 82 w hT hx hy
  have hE := Lib.hid (show curF r c = ctlF [27, 91] [mx r, mx c] 82 from rfl)
  by_cases h1 : r < 1
  · have e1 : mx r = 1 := if_pos h1
    rw [e1] at hcon hE
    by_cases h2 : c < 1
    · have e2 : mx c = 1 := if_pos h2
      rw [e2] at hcon hE
      have m1 : max r 1 = 1 := by omega
      have m2 : max c 1 = 1 := by omega
      clear hx hy e1 e2 hT hr hc
      replace hcon := Lib.hid hcon
      go_enter Tryd.func13, Tryd.ntmps13
      go_wp2_with ((go_at_call 19; (with_reducible refine (hcon.out).mono ?_); rintro e w1 ⟨v1, rfl, hr1, hb1⟩))
      go_ret
      rw [hE.out]
      exact ⟨_, rfl, hr1, hb1⟩
    · have e2 : mx c = c := if_neg h2
      rw [e2] at hcon hE
      have m1 : max r 1 = 1 := by omega
      have m2 : max c 1 = c := by omega
      clear hx hy e1 e2 hT hr hc
      replace hcon := Lib.hid hcon
      go_enter Tryd.func13, Tryd.ntmps13
      go_wp2_with ((go_at_call 19; (with_reducible refine (hcon.out).mono ?_); rintro e w1 ⟨v1, rfl, hr1, hb1⟩))
      go_ret
      rw [hE.out]
      exact ⟨_, rfl, hr1, hb1⟩
  · have e1 : mx r = r := if_neg h1
    rw [e1] at hcon hE
    by_cases h2 : c < 1
    · have e2 : mx c = 1 := if_pos h2
      rw [e2] at hcon hE
      have m1 : max r 1 = r := by omega
      have m2 : max c 1 = 1 := by omega
      clear hx hy e1 e2 hT hr hc
      replace hcon := Lib.hid hcon
      go_enter Tryd.func13, Tryd.ntmps13
      go_wp2_with ((go_at_call 19; (with_reducible refine (hcon.out).mono ?_); rintro e w1 ⟨v1, rfl, hr1, hb1⟩))
      go_ret
      rw [hE.out]
      exact ⟨_, rfl, hr1, hb1⟩
    · have e2 : mx c = c := if_neg h2
      rw [e2] at hcon hE
      have m1 : max r 1 = r := by omega
      have m2 : max c 1 = c := by omega
      clear hx hy e1 e2 hT hr hc
      replace hcon := Lib.hid hcon
      go_enter Tryd.func13, Tryd.ntmps13
      go_wp2_with ((go_at_call 19; (with_reducible refine (hcon.out).mono ?_); rintro e w1 ⟨v1, rfl, hr1, hb1⟩))
      go_ret
      rw [hE.out]
      exact ⟨_, rfl, hr1, hb1⟩
def staF : List Int := [27, 91, 48, 110]
def devF : List Int := [27, 91, 63, 54, 50, 59, 50, 50, 99]
theorem sta_is : ctlF [27, 91] [0] 110 = staF := by
  show [27, 91] ++ (dgF ((0 : Nat) : Int) ++ []) ++ [110] = staF
  rw [dg_small (by omega)]
  rfl
theorem dev_is : ctlF [27, 91, 63] [62, 22] 99 = devF := by
  show [27, 91, 63] ++ (dgF ((62 : Nat) : Int) ++ (59 :: (dgF ((22 : Nat) : Int) ++ []))) ++ [99] = devF
  rw [dg_two (by omega) (by omega), dg_two (by omega) (by omega)]
  rfl
theorem sta_s : strOfNums staF = { data := #[27, 91, 48, 110] } := rfl
theorem dev_s : strOfNums devF = { data := #[27, 91, 63, 54, 50, 59, 50, 50, 99] } := rfl
theorem status_any (w : World) (hT : Tab w) : Calls Tryd.prog 15 #[] w (Put w.heap.size staF w) := by
  have hcon := ctl1 _ _ csi_b (by simp) 110 w hT (x := 0) (by omega)
  rw [sta_is] at hcon
  replace hcon := Lib.hid hcon
  clear hT
  go_enter Tryd.func15, Tryd.ntmps15
  go_wp2_with ((go_at_call 19; (with_reducible refine (hcon.out).mono ?_); rintro e w1 ⟨v1, rfl, hr1, hb1⟩))
  go_ret
  exact ⟨_, rfl, hr1, hb1⟩
theorem device_any (w : World) (hT : Tab w) : Calls Tryd.prog 16 #[] w (Put w.heap.size devF w) := by
  have hcon := ctl2 _ _ dev_b (by simp) 99 w hT (x := 62) (y := 22) (by omega) (by omega)
  rw [dev_is] at hcon
  replace hcon := Lib.hid hcon
  clear hT
  go_enter Tryd.func16, Tryd.ntmps16
  go_wp2_with ((go_at_call 19; (with_reducible refine (hcon.out).mono ?_); rintro e w1 ⟨v1, rfl, hr1, hb1⟩))
  go_ret
  exact ⟨_, rfl, hr1, hb1⟩

theorem strCells_nums {l : List Int} (h : ∀ x ∈ l, 0 ≤ x ∧ x ≤ 255) : Lib.strCells (strOfNums l) = l.map (Value.int .u8) := by
  unfold Lib.strCells strOfNums
  simp only [List.map_map]
  refine List.map_congr_left fun x hx => ?_
  have := h x hx
  simp only [Function.comp]
  rw [UInt8.toNat_ofNat_of_lt' (by simp [UInt8.size]; omega)]
  congr 1
  omega
set_option maxHeartbeats 4000000 in
theorem rcursor_any (r c : Int) (hr : r ≤ 9223372036854775807) (hc : c ≤ 9223372036854775807) (w : World) : Calls Tryd.prog 14 #[.int .i64 r, .int .i64 c] w (Put w.heap.size (curF r c) w) := by
  have hx := mx_in hr
  have hy := mx_in hc
  obtain ⟨x, hx'⟩ : ∃ x : Nat, mx r = (x : Int) := ⟨(mx r).toNat, by omega⟩
  obtain ⟨y, hy'⟩ : ∃ y : Nat, mx c = (y : Int) := ⟨(mx c).toNat, by omega⟩
  have hd1 := fun w' => digits_any x (by omega) w'
  have hd2 := fun w' => digits_any y (by omega) w'
  have hl1 := dg_len (u := x) (by omega)
  have hl2 := dg_len (u := y) (by omega)
  have hE : curF r c = [27, 91] ++ dgF (x : Int) ++ [59] ++ dgF (y : Int) ++ [82] := by
    unfold curF ctlF
    rw [hx', hy']
    simp [numsF, tailF]
  have hby : ∀ z ∈ curF r c, 0 ≤ z ∧ z ≤ 255 := by
    rw [hE]
    intro z hz
    simp only [List.mem_append, List.mem_cons, List.not_mem_nil, or_false] at hz
    rcases hz with (((hz | hz) | hz) | hz) | hz
    · omega
    · exact dg_byte _ z hz
    · omega
    · exact dg_byte _ z hz
    · omega
  rw [← hx'] at hd1 hl1 hE
  rw [← hy'] at hd2 hl2 hE
  have ha1 := fun w' => add_str (x := { data := #[27, 91] }) (l := [27, 91]) (m := dgF (mx r)) rfl (by simp; omega) w'
  obtain ⟨Q1, hQ1⟩ : ∃ Q, Q = [27, 91] ++ dgF (mx r) := ⟨_, rfl⟩
  have ha2 := fun w' => add_str' (x := { data := #[59] }) (l := Q1) (m := [59]) rfl (by rw [hQ1]; simp; omega) w'
  obtain ⟨Q2, hQ2⟩ : ∃ Q, Q = Q1 ++ [59] := ⟨_, rfl⟩
  have ha3 := fun w' => add_str (x := strOfNums Q2) (l := Q2) (m := dgF (mx c)) rfl (by rw [hQ2, hQ1]; simp; omega) w'
  obtain ⟨Q3, hQ3⟩ : ∃ Q, Q = Q2 ++ dgF (mx c) := ⟨_, rfl⟩
  have ha4 := fun w' => add_str' (x := { data := #[82] }) (l := Q3) (m := [82]) rfl (by rw [hQ3, hQ2, hQ1]; simp; omega) w'
  rw [← hQ1] at ha1
  rw [← hQ2] at ha2
  rw [← hQ3] at ha3
  have hE4 : Q3 ++ [82] = curF r c := by rw [hE, hQ3, hQ2, hQ1]
  rw [hE4] at ha4
  have hlc : (curF r c).length ≤ 50 := by rw [hE]; simp; omega
  obtain ⟨X, hX⟩ : ∃ X, X = curF r c := ⟨_, rfl⟩
  rw [← hX] at ha4 hlc hby ⊢
  have hsc := strCells_nums hby
  obtain ⟨D1, hD1⟩ : ∃ D, D = dgF (mx r) := ⟨_, rfl⟩
  obtain ⟨D2, hD2⟩ : ∃ D, D = dgF (mx c) := ⟨_, rfl⟩
  rw [← hD1] at hd1 ha1
  rw [← hD2] at hd2 ha3
  replace hd1 := Lib.hid hd1
  replace hd2 := Lib.hid hd2
  replace hsc := Lib.hid hsc
  clear hQ1 hQ2 hQ3 hE hE4 hX hby hl1 hl2 hD1 hD2 hx hy hx' hy' hr hc
  by_cases h1 : r < 1
  all_goals by_cases h2 : c < 1
  all_goals
    first | rw [show mx r = 1 from if_pos h1] at hd1 | rw [show mx r = r from if_neg h1] at hd1
    first | rw [show mx c = 1 from if_pos h2] at hd2 | rw [show mx c = c from if_neg h2] at hd2
    go_enter Tryd.func14, Tryd.ntmps14
    go_wp2_with (first
      | (go_at_call 24; (with_reducible refine (hd1.out _).mono ?_); rintro e w1 ⟨rfl, hb1⟩; replace hb1 := Lib.hid hb1; clear hd1)
      | (go_at_call 24; (with_reducible refine (hd2.out _).mono ?_); rintro e w2 ⟨rfl, hb2⟩; replace hb2 := Lib.hid (below_next hb1.out hb2))
      | (with_reducible show wpList _ _ _ (⟨some 17, .convert _ _ _, _, _, _, _⟩ :: _) _ _; go_must (refine wpList_bytes Tryd.underlying9 Tryd.underlying26 Tryd.underlying5 rfl (.tmp 16) rfl w.heap.size _ X hsc.out rfl hb2.out.size (by omega) ?_); intro v3 w3 h3 hb3; replace hb3 := Lib.hid (below_next hb2.out hb3)))
    go_ret
    exact ⟨v3, rfl, h3, hb3.out⟩

end Go.Proofs.YtkmedfffmalbgaaDoor.Kys
