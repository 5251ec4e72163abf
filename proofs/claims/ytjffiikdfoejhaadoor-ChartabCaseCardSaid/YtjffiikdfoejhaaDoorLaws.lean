/-
  The eight statements' walks: each call returns true, in whatever memory that holds the two tables and the graphics, and writes nothing that was there.
-/
import Derived.Test.YtjffiikdfoejhaaDoorNamed
namespace Go.Proofs.YtjffiikdfoejhaaDoor.Cht
open Go Go.RowKit

theorem k1 : widthF 97 = 1 := by decide +kernel
theorem k2 : widthF 19968 = 2 := by decide +kernel
theorem k3 : widthF 769 = 0 := by decide +kernel
theorem k4 : classF 12288 = 1 := by decide +kernel
theorem k5 : classF 55296 = 0 := by decide +kernel
theorem k6 : charsetF 2 113 = 9472 := by decide +kernel
theorem k7 : (nameF 64).1 = ⟨#[97, 116]⟩ := by decide +kernel
theorem k8 : (nameF 64).2 = 1 := by decide +kernel

set_option maxHeartbeats 4000000 in
theorem known_any (w : World) (T : Tabs w) : Calls Tryd.prog 13 #[] w fun e w' => e = .returned (.bool true) ∧ Below w.heap.size w w' := by
  have TT := Lib.hid T; clear T
  have e1 := k1; have e2 := k2; have e3 := k3; have e4 := k4; have e5 := k5; have e6 := k6; have e7 := k7; have e8 := k8
  go_enter Tryd.func13, Tryd.ntmps13
  go_wp2_with (first | (go_at_call 24; refine (name_any _ _ TT.out (by omega) (by omega)).mono ?_; rintro e w1 ⟨rfl, hbel⟩; have TT1 := Lib.hid (TT.out.below hbel)) | (go_at_call 14; refine (width_any _ _ TT1.out).mono ?_; rintro e w' ⟨rfl, rfl⟩) | (go_at_call 16; refine (class_any _ _ TT1.out).mono ?_; rintro e w' ⟨rfl, rfl⟩) | (go_at_call 22; refine (charset_any _ _ _ TT1.out).mono ?_; rintro e w' ⟨rfl, rfl⟩))
  go_ret
  exact ⟨rfl, hbel⟩

set_option maxHeartbeats 1000000 in
theorem lawMay (r : Int) (w : World) (T : Tabs w) : Calls Tryd.prog 3 #[.int .i32 r] w fun e w' => e = .returned (.bool true) ∧ Below w.heap.size w w' := by
  have TT := Lib.hid T; clear T
  go_enter Tryd.func3, Tryd.ntmps3
  go_wp2_with (first | (go_at_call 11; refine (may_any _ _).mono ?_; rintro e w' ⟨rfl, rfl⟩) | (go_at_call 12; refine (refMay_any _ _).mono ?_; rintro e w' ⟨rfl, rfl⟩) | (go_at_call 13; refine (known_any _ TT.out).mono ?_; rintro e w1 ⟨rfl, hbel⟩))
  go_ret
  exact ⟨rfl, hbel⟩

set_option maxHeartbeats 1000000 in
theorem lawWidth (r : Int) (w : World) (T : Tabs w) : Calls Tryd.prog 4 #[.int .i32 r] w fun e w' => e = .returned (.bool true) ∧ Below w.heap.size w w' := by
  have TT := Lib.hid T; clear T
  go_enter Tryd.func4, Tryd.ntmps4
  go_wp2_with (first | (go_at_call 14; refine (width_any _ _ TT.out).mono ?_; rintro e w' ⟨rfl, rfl⟩) | (go_at_call 15; refine (refWidth_any _ _).mono ?_; rintro e w' ⟨rfl, rfl⟩) | (go_at_call 13; refine (known_any _ TT.out).mono ?_; rintro e w1 ⟨rfl, hbel⟩))
  go_ret
  exact ⟨rfl, hbel⟩

set_option maxHeartbeats 1000000 in
theorem lawClass (r : Int) (w : World) (T : Tabs w) : Calls Tryd.prog 5 #[.int .i32 r] w fun e w' => e = .returned (.bool true) ∧ Below w.heap.size w w' := by
  have TT := Lib.hid T; clear T
  go_enter Tryd.func5, Tryd.ntmps5
  go_wp2_with (first | (go_at_call 16; refine (class_any _ _ TT.out).mono ?_; rintro e w' ⟨rfl, rfl⟩) | (go_at_call 17; refine (refClass_any _ _).mono ?_; rintro e w' ⟨rfl, rfl⟩) | (go_at_call 13; refine (known_any _ TT.out).mono ?_; rintro e w1 ⟨rfl, hbel⟩))
  go_ret
  exact ⟨rfl, hbel⟩

set_option maxHeartbeats 1000000 in
theorem lawCase (r : Int) (w : World) (T : Tabs w) : Calls Tryd.prog 6 #[.int .i32 r] w fun e w' => e = .returned (.bool true) ∧ Below w.heap.size w w' := by
  have TT := Lib.hid T; clear T
  go_enter Tryd.func6, Tryd.ntmps6
  go_wp2_with (first | (go_at_call 18; refine (lower_any _ _ TT.out).mono ?_; rintro e w' ⟨rfl, rfl⟩) | (go_at_call 19; refine (refLower_any _ _).mono ?_; rintro e w' ⟨rfl, rfl⟩) | (go_at_call 20; refine (upper_any _ _ TT.out).mono ?_; rintro e w' ⟨rfl, rfl⟩) | (go_at_call 21; refine (refUpper_any _ _).mono ?_; rintro e w' ⟨rfl, rfl⟩) | (go_at_call 13; refine (known_any _ TT.out).mono ?_; rintro e w1 ⟨rfl, hbel⟩))
  go_ret
  exact ⟨rfl, hbel⟩

set_option maxHeartbeats 1000000 in
theorem lawCharset (s r : Int) (w : World) (T : Tabs w) : Calls Tryd.prog 7 #[.int .u8 s, .int .i32 r] w fun e w' => e = .returned (.bool true) ∧ Below w.heap.size w w' := by
  have TT := Lib.hid T; clear T
  go_enter Tryd.func7, Tryd.ntmps7
  go_wp2_with (first | (go_at_call 22; refine (charset_any _ _ _ TT.out).mono ?_; rintro e w' ⟨rfl, rfl⟩) | (go_at_call 23; refine (refCharset_any _ _ _).mono ?_; rintro e w1 ⟨rfl, hbel⟩; have TT1 := Lib.hid (TT.out.below hbel)) | (go_at_call 13; refine (known_any _ TT1.out).mono ?_; rintro e w2 ⟨rfl, hbel2⟩))
  go_ret
  exact ⟨rfl, hbel.trans (hbel2.mono hbel.size)⟩

set_option maxHeartbeats 1000000 in
theorem lawName (r : Int) (w : World) (T : Tabs w) (h1 : -2147483648 ≤ r) (h2 : r ≤ 2147483647) : Calls Tryd.prog 8 #[.int .i32 r] w fun e w' => e = .returned (.bool true) ∧ Below w.heap.size w w' := by
  have TT := Lib.hid T; clear T
  go_enter Tryd.func8, Tryd.ntmps8
  go_wp2_with (first | (go_at_call 24; refine (name_any _ _ TT.out h1 h2).mono ?_; rintro e w1 ⟨rfl, hbel⟩; have TT1 := Lib.hid (TT.out.below hbel)) | (go_at_call 25; refine (refName_any _ _).mono ?_; rintro e w' ⟨rfl, rfl⟩) | (go_at_call 13; refine (known_any _ TT1.out).mono ?_; rintro e w2 ⟨rfl, hbel2⟩))
  go_ret
  exact ⟨rfl, hbel.trans (hbel2.mono hbel.size)⟩

end Go.Proofs.YtjffiikdfoejhaaDoor.Cht
