/-
  modes: the reference's calls.
-/
import Derived.Test.YtnammlihpjjdoaaMBits
import Derived.Deep.CutRange
namespace Go.Proofs.Ytnammlihpjjdoaa.Mds
open Go Go.RowKit Go.Proofs.Ytnammlihpjjdoaa.Com

set_option maxHeartbeats 1000000 in
theorem rdefault_any (w : World) : Calls Try.prog 14 #[] w (MIs start w) := by
  go_enter Try.func14, Try.ntmps14
  go_wp2
  exact end_m rfl rfl rfl ((MB.made w start).alloc _) ⟨rfl, below_next (below_new w _) (below_new _ _)⟩

def PlaceIs (x : Int) (w : World) (e : Ending) (w' : World) : Prop := e = .returned (.int .i64 x) ∧ w = w'
set_option maxHeartbeats 1000000 in
theorem place_no (n : Int) (w : World) : Calls Try.prog 21 #[.bool false, .int .i64 n] w (PlaceIs (pow (spot false n)) w) := by
  by_cases h4 : n = 4
  · subst h4
    go_enter Try.func21, Try.ntmps21
    go_wp2
    go_ret
    exact ⟨rfl, rfl⟩
  by_cases h20 : n = 20
  · subst h20
    go_enter Try.func21, Try.ntmps21
    go_wp2
    go_ret
    exact ⟨rfl, rfl⟩
  have hE : Hid (spot false n = 8) := by show _ = _; unfold spot; rw [if_neg (by simp), if_neg h4, if_neg h20]
  have b4 : (n == 4) = false := by simpa using h4
  have b20 : (n == 20) = false := by simpa using h20
  go_enter Try.func21, Try.ntmps21
  go_wp2
  go_ret
  exact ⟨by rw [hE.out]; rfl, rfl⟩
set_option maxHeartbeats 1000000 in
theorem place_yes (n : Int) (w : World) : Calls Try.prog 21 #[.bool true, .int .i64 n] w (PlaceIs (pow (spot true n)) w) := by
  by_cases h1 : n = 1
  · subst h1
    go_enter Try.func21, Try.ntmps21
    go_wp2
    go_ret
    exact ⟨rfl, rfl⟩
  by_cases h6 : n = 6
  · subst h6
    go_enter Try.func21, Try.ntmps21
    go_wp2
    go_ret
    exact ⟨rfl, rfl⟩
  by_cases h7 : n = 7
  · subst h7
    go_enter Try.func21, Try.ntmps21
    go_wp2
    go_ret
    exact ⟨rfl, rfl⟩
  by_cases h25 : n = 25
  · subst h25
    go_enter Try.func21, Try.ntmps21
    go_wp2
    go_ret
    exact ⟨rfl, rfl⟩
  by_cases h47 : n = 47
  · subst h47
    go_enter Try.func21, Try.ntmps21
    go_wp2
    go_ret
    exact ⟨rfl, rfl⟩
  by_cases h1047 : n = 1047
  · subst h1047
    go_enter Try.func21, Try.ntmps21
    go_wp2
    go_ret
    exact ⟨rfl, rfl⟩
  by_cases h1049 : n = 1049
  · subst h1049
    go_enter Try.func21, Try.ntmps21
    go_wp2
    go_ret
    exact ⟨rfl, rfl⟩
  by_cases h2004 : n = 2004
  · subst h2004
    go_enter Try.func21, Try.ntmps21
    go_wp2
    go_ret
    exact ⟨rfl, rfl⟩
  have hE : Hid (spot true n = 8) := by show _ = _; unfold spot; rw [if_pos rfl, if_neg h1, if_neg h6, if_neg h7, if_neg h25, if_neg h47, if_neg h1047, if_neg h1049, if_neg h2004]
  have b1 : (n == 1) = false := by simpa using h1
  have b6 : (n == 6) = false := by simpa using h6
  have b7 : (n == 7) = false := by simpa using h7
  have b25 : (n == 25) = false := by simpa using h25
  have b47 : (n == 47) = false := by simpa using h47
  have b1047 : (n == 1047) = false := by simpa using h1047
  have b1049 : (n == 1049) = false := by simpa using h1049
  have b2004 : (n == 2004) = false := by simpa using h2004
  go_enter Try.func21, Try.ntmps21
  go_wp2
  go_ret
  exact ⟨by rw [hE.out]; rfl, rfl⟩
theorem place_any (p : Bool) (n : Int) (w : World) : Calls Try.prog 21 #[.bool p, .int .i64 n] w (PlaceIs (pow (spot p n)) w) := by
  cases p
  · exact place_no n w
  · exact place_yes n w

def BitsIs (m : Md) (w : World) (e : Ending) (w' : World) : Prop := e = .returned (.int .u8 m.bits) ∧ Below w.heap.size w w'
theorem part_last (m : Md) : 0 ≤ part m 8 ∧ part m 8 < 256 := by rw [part_all]; exact ⟨bits_ge m, bits_lt m⟩
theorem part_no {m : Md} {k : Nat} (h : m.get k = false) : part m (k + 1) = part m k := by
  show part m k + one (m.get k) (pow k) = _
  rw [h]
  exact Int.add_zero _
theorem part_yes {m : Md} {k : Nat} (h : m.get k = true) : part m (k + 1) = part m k + pow k := by
  show part m k + one (m.get k) (pow k) = _
  rw [h]
  rfl
theorem part_b1 (m : Md) : 0 ≤ part m 1 ∧ part m 1 < 2 := part_in m (by omega)
theorem part_b2 (m : Md) : 0 ≤ part m 2 ∧ part m 2 < 4 := part_in m (by omega)
theorem part_b3 (m : Md) : 0 ≤ part m 3 ∧ part m 3 < 8 := part_in m (by omega)
theorem part_b4 (m : Md) : 0 ≤ part m 4 ∧ part m 4 < 16 := part_in m (by omega)
theorem part_b5 (m : Md) : 0 ≤ part m 5 ∧ part m 5 < 32 := part_in m (by omega)
theorem part_b6 (m : Md) : 0 ≤ part m 6 ∧ part m 6 < 64 := part_in m (by omega)
theorem part_b7 (m : Md) : 0 ≤ part m 7 ∧ part m 7 < 128 := part_in m (by omega)
theorem part_b8 (m : Md) : 0 ≤ part m 8 ∧ part m 8 < 256 := part_last m
set_option maxHeartbeats 2000000 in
theorem rbits_any (m : Md) (w : World) : Calls Try.prog 16 #[.agg (mA m)] w (BitsIs m w) := by
  have hb0 := Lib.hid (below_new w (.cells (mA m) 23))
  have hm0 := MB.made w m
  have c0 := hm0.cell (k := 0) (by omega)
  have c1 := hm0.cell (k := 1) (by omega)
  have c2 := hm0.cell (k := 2) (by omega)
  have c3 := hm0.cell (k := 3) (by omega)
  have c4 := hm0.cell (k := 4) (by omega)
  have c5 := hm0.cell (k := 5) (by omega)
  have c6 := hm0.cell (k := 6) (by omega)
  have c7 := hm0.cell (k := 7) (by omega)
  clear hm0
  obtain ⟨w1, e1⟩ : ∃ w1, w1 = w.alloc (.cells (mA m) 23) := ⟨_, rfl⟩
  rw [← e1] at hb0 c0 c1 c2 c3 c4 c5 c6 c7
  replace e1 := Lib.hid e1
  go_enter Try.func16, Try.ntmps16
  go_upto_region 2 with (fail)
  rw [← e1.out]
  go_upto_if 5 with (fail)
  go_cut [3] from 5 to 7 (fun s3 wx => s3 = .int .i64 (part m 1) ∧ w1 = wx)
  case first =>
    cases hg : m.get 0
    all_goals
      go_wp2
      go_meet
      first | exact ⟨congrArg (Value.int .i64) (part_no hg).symm, rfl⟩ | exact ⟨congrArg (Value.int .i64) (part_yes hg).symm, rfl⟩
  obtain ⟨rfl, rfl⟩ := hcut
  have b1 := part_b1 m
  go_upto_if 9 with (fail)
  go_cut [3] from 9 to 11 (fun s3 wx => s3 = .int .i64 (part m 2) ∧ w1 = wx)
  case first =>
    cases hg : m.get 1
    all_goals
      go_wp2
      go_meet
      first | exact ⟨congrArg (Value.int .i64) (part_no hg).symm, rfl⟩ | exact ⟨congrArg (Value.int .i64) (part_yes hg).symm, rfl⟩
  obtain ⟨rfl, rfl⟩ := hcut
  have b2 := part_b2 m
  go_upto_if 13 with (fail)
  go_cut [3] from 13 to 15 (fun s3 wx => s3 = .int .i64 (part m 3) ∧ w1 = wx)
  case first =>
    cases hg : m.get 2
    all_goals
      go_wp2
      go_meet
      first | exact ⟨congrArg (Value.int .i64) (part_no hg).symm, rfl⟩ | exact ⟨congrArg (Value.int .i64) (part_yes hg).symm, rfl⟩
  obtain ⟨rfl, rfl⟩ := hcut
  have b3 := part_b3 m
  go_upto_if 17 with (fail)
  go_cut [3] from 17 to 19 (fun s3 wx => s3 = .int .i64 (part m 4) ∧ w1 = wx)
  case first =>
    cases hg : m.get 3
    all_goals
      go_wp2
      go_meet
      first | exact ⟨congrArg (Value.int .i64) (part_no hg).symm, rfl⟩ | exact ⟨congrArg (Value.int .i64) (part_yes hg).symm, rfl⟩
  obtain ⟨rfl, rfl⟩ := hcut
  have b4 := part_b4 m
  go_upto_if 21 with (fail)
  go_cut [3] from 21 to 23 (fun s3 wx => s3 = .int .i64 (part m 5) ∧ w1 = wx)
  case first =>
    cases hg : m.get 4
    all_goals
      go_wp2
      go_meet
      first | exact ⟨congrArg (Value.int .i64) (part_no hg).symm, rfl⟩ | exact ⟨congrArg (Value.int .i64) (part_yes hg).symm, rfl⟩
  obtain ⟨rfl, rfl⟩ := hcut
  have b5 := part_b5 m
  go_upto_if 25 with (fail)
  go_cut [3] from 25 to 27 (fun s3 wx => s3 = .int .i64 (part m 6) ∧ w1 = wx)
  case first =>
    cases hg : m.get 5
    all_goals
      go_wp2
      go_meet
      first | exact ⟨congrArg (Value.int .i64) (part_no hg).symm, rfl⟩ | exact ⟨congrArg (Value.int .i64) (part_yes hg).symm, rfl⟩
  obtain ⟨rfl, rfl⟩ := hcut
  have b6 := part_b6 m
  go_upto_if 29 with (fail)
  go_cut [3] from 29 to 31 (fun s3 wx => s3 = .int .i64 (part m 7) ∧ w1 = wx)
  case first =>
    cases hg : m.get 6
    all_goals
      go_wp2
      go_meet
      first | exact ⟨congrArg (Value.int .i64) (part_no hg).symm, rfl⟩ | exact ⟨congrArg (Value.int .i64) (part_yes hg).symm, rfl⟩
  obtain ⟨rfl, rfl⟩ := hcut
  have b7 := part_b7 m
  go_upto_if 33 with (fail)
  go_cut [3] from 33 to 35 (fun s3 wx => s3 = .int .i64 (part m 8) ∧ w1 = wx)
  case first =>
    cases hg : m.get 7
    all_goals
      go_wp2
      go_meet
      first | exact ⟨congrArg (Value.int .i64) (part_no hg).symm, rfl⟩ | exact ⟨congrArg (Value.int .i64) (part_yes hg).symm, rfl⟩
  obtain ⟨rfl, rfl⟩ := hcut
  have b8 := part_b8 m
  go_wp2
  go_ret
  exact ⟨by rw [part_all]; rfl, hb0.out⟩

theorem of_cells {x : Int} (h0 : 0 ≤ x) (h1 : x < 256) : #[Value.bool (x % 2 == 1), Value.bool (x / 2 % 2 == 1), Value.bool (x / 4 % 2 == 1), Value.bool (x / 8 % 2 == 1), Value.bool (x / 16 % 2 == 1), Value.bool (x / 32 % 2 == 1), Value.bool (x / 64 % 2 == 1), Value.bool (x / 128 == 1)] = mA (ofBits x) := by
  have e : (x / 128 == 1) = decide (x / 128 % 2 = 1) := by
    have h : x / 128 % 2 = x / 128 := by omega
    rw [h]
    rfl
  rw [e]
  rfl
set_option maxHeartbeats 2000000 in
theorem rof_any (x : Int) (h0 : 0 ≤ x) (h1 : x < 256) (w : World) : Calls Try.prog 18 #[.int .u8 x] w (MIs (ofBits x) w) := by
  go_enter Try.func18, Try.ntmps18
  go_wp2
  rw [of_cells h0 h1]
  exact end_m rfl rfl rfl (MB.made w _) ⟨rfl, below_new _ _⟩

end Go.Proofs.Ytnammlihpjjdoaa.Mds
