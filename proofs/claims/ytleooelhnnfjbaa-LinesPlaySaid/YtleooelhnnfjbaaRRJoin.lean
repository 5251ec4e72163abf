/-
  row: the reference's Put that refuses, and Join.
-/
import Derived.Test.YtleooelhnnfjbaaRBld5
import Derived.Test.YtleooelhnnfjbaaRJoin
namespace Go.Proofs.Ytleooelhnnfjbaa.Rw
open Go Go.RowKit Go.Proofs.Ytleooelhnnfjbaa.Com

set_option maxRecDepth 100000 in
set_option maxHeartbeats 4000000 in
theorem rput_no {B : Nat} {w : World} {d gv n cap : Nat} {ps : List (Cel × Value)} (h : RefX B w d gv n cap ps) (col x : Int) (hc : -9223372036854775808 ≤ col ∧ col ≤ 9223372036854775807) (wide : Bool) (a : At) (hno : runeB x = false ∨ col < 0 ∨ (n : Int) ≤ col ∨ (wide = true ∧ (n : Int) ≤ col + 1)) :
    Calls Try.prog 18 #[.pointer (some ⟨d, 0, none⟩), .int .i64 col, .int .i32 x, .bool wide, .agg #[.int .u32 a.f, .int .u32 a.b, .int .u16 a.g]] w fun e w' => e = .returned (.int .i64 2) ∧ Below w.heap.size w w' := by
  obtain ⟨af, ab, ag⟩ := a
  have hn := h.pos
  have hn5 := h.small
  have hs := (h.below (below_new w (.cells #[.int .u32 af, .int .u32 ab, .int .u16 ag] 36))).slice
  have hdw := h.ptr.lt
  have hres := Lib.hid (below_new w (.cells #[.int .u32 af, .int .u32 ab, .int .u16 ag] 36))
  have hru := rune_any x
  simp only
  clear h
  by_cases h1 : runeB x = false
  · rw [h1] at hru
    replace hru := Lib.hid hru
    clear hno
    cases wide
    all_goals
      go_enter Try.func18, Try.ntmps18
      go_wp2_with ((go_at_call 43; (with_reducible refine (hru.out _).mono ?_); rintro e w' ⟨rfl, rfl⟩))
      go_ret
      exact ⟨rfl, hres.out⟩
  have h1 : runeB x = true := by simpa using h1
  rw [h1] at hru
  replace hru := Lib.hid hru
  by_cases h2 : col < 0
  · clear hno
    cases wide
    all_goals
      go_enter Try.func18, Try.ntmps18
      go_wp2_with ((go_at_call 43; (with_reducible refine (hru.out _).mono ?_); rintro e w' ⟨rfl, rfl⟩))
      go_ret
      exact ⟨rfl, hres.out⟩
  by_cases h3 : (n : Int) ≤ col
  · clear hno
    cases wide
    all_goals
      go_enter Try.func18, Try.ntmps18
      go_wp2_with ((go_at_call 43; (with_reducible refine (hru.out _).mono ?_); rintro e w' ⟨rfl, rfl⟩))
      go_ret
      exact ⟨rfl, hres.out⟩
  obtain ⟨rfl, h4⟩ : wide = true ∧ (n : Int) ≤ col + 1 := by
    rcases hno with hh | hh | hh | hh
    · simp [h1] at hh
    · omega
    · omega
    · exact hh
  have h5 : (n : Int) < col + 2 := by omega
  go_enter Try.func18, Try.ntmps18
  go_wp2_with ((go_at_call 43; (with_reducible refine (hru.out _).mono ?_); rintro e w' ⟨rfl, rfl⟩))
  go_ret
  exact ⟨rfl, hres.out⟩

end Go.Proofs.Ytleooelhnnfjbaa.Rw
