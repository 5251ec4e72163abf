/-
  keys: Paste of the program.
-/
import Derived.Test.YtkmedfffmalbgaaDoorKTyp
import Derived.LoopTactic
import Derived.IntWalk
namespace Go.Proofs.YtkmedfffmalbgaaDoor.Kys
open Go Go.RowKit Go.Proofs.YtkmedfffmalbgaaDoor.Com Go.Proofs.YtkmedfffmalbgaaDoor.Mds

theorem past_ways (r : Int) : (¬ mayR r ∧ ¬ pasted r) ∨ (mayR r ∧ r = 9 ∧ pasted r) ∨ (mayR r ∧ r < 32 ∧ r ≠ 9 ∧ ¬ pasted r) ∨ (mayR r ∧ 32 ≤ r ∧ r < 127 ∧ pasted r) ∨ (mayR r ∧ 127 ≤ r ∧ r ≤ 159 ∧ ¬ pasted r) ∨ (mayR r ∧ 159 < r ∧ pasted r) := by
  by_cases h : mayR r
  · by_cases a : r = 9
    · exact .inr (.inl ⟨h, a, .inl a⟩)
    by_cases b : r < 32
    · exact .inr (.inr (.inl ⟨h, b, a, by unfold pasted; omega⟩))
    by_cases c : r < 127
    · exact .inr (.inr (.inr (.inl ⟨h, by omega, c, .inr (.inl ⟨by omega, by omega⟩)⟩)))
    by_cases d : r ≤ 159
    · exact .inr (.inr (.inr (.inr (.inl ⟨h, by omega, d, by unfold pasted; omega⟩))))
    · exact .inr (.inr (.inr (.inr (.inr ⟨h, by omega, .inr (.inr ⟨by omega, h⟩)⟩))))
  · refine .inl ⟨h, ?_⟩
    unfold pasted
    unfold mayR at *
    omega
theorem pasted_any (r : Int) (w : World) : Calls Tryd.prog 20 #[.int .i32 r] w fun e w' => e = .returned (.bool (decide (pasted r))) ∧ w = w' := by
  rcases past_ways r with ⟨h, e⟩ | ⟨h, h1, e⟩ | ⟨h, h1, h2, e⟩ | ⟨h, h1, h2, e⟩ | ⟨h, h1, h2, e⟩ | ⟨h, h1, e⟩
  · have hrun := Lib.hid (fun w' => rune_no h w')
    rw [decide_eq_false e]
    clear h e
    go_enter Tryd.func20, Tryd.ntmps20
    go_wp2_with ((go_at_call 37; (with_reducible refine (hrun.out _).mono ?_); rintro e w' ⟨rfl, rfl⟩))
    go_ret
    exact ⟨rfl, rfl⟩
  all_goals
    try subst h1
    have hrun := Lib.hid (fun w' => rune_yes h w')
    first | rw [decide_eq_false e] | rw [decide_eq_true e]
    clear h e
    go_enter Tryd.func20, Tryd.ntmps20
    go_wp2_with ((go_at_call 37; (with_reducible refine (hrun.out _).mono ?_); rintro e w' ⟨rfl, rfl⟩))
    go_ret
    first
      | exact ⟨rfl, rfl⟩
      | exact ⟨ret_bool (by simp; omega), rfl⟩
theorem pasted_yes {r : Int} (h : pasted r) (w : World) : Calls Tryd.prog 20 #[.int .i32 r] w fun e w' => e = .returned (.bool true) ∧ w = w' := by
  have := pasted_any r w
  rwa [decide_eq_true h] at this
theorem pasted_no {r : Int} (h : ¬ pasted r) (w : World) : Calls Tryd.prog 20 #[.int .i32 r] w fun e w' => e = .returned (.bool false) ∧ w = w' := by
  have := pasted_any r w
  rwa [decide_eq_false h] at this

theorem one_10f (x : Bool) (h : x = false) : oneP x 10 = [13] := by subst h; rfl
theorem one_10t (x : Bool) (h : x = true) : oneP x 10 = [] := by subst h; rfl
theorem one_13 (x : Bool) : oneP x 13 = [13] := rfl
theorem one_p {r : Int} (x : Bool) (h1 : r ≠ 10) (h2 : r ≠ 13) (h : pasted r) : oneP x r = encF r := by unfold oneP; rw [if_neg h1, if_neg h2, if_pos h]
theorem one_n {r : Int} (x : Bool) (h1 : r ≠ 10) (h2 : r ≠ 13) (h : ¬ pasted r) : oneP x r = [] := by unfold oneP; rw [if_neg h1, if_neg h2, if_neg h]
def pre (on : Bool) : List Int := if on = true then b200 else []
theorem ctl200 : ctlF [27, 91] [200] 126 = b200 := by
  show [27, 91] ++ (dgF 200 ++ []) ++ [126] = b200
  rw [show (200 : Int) = ((200 : Nat) : Int) from rfl, dg_big (by omega), dg_big (n := 200 / 10) (by omega), dg_small (by omega)]
  rfl
theorem ctl201 : ctlF [27, 91] [201] 126 = b201 := by
  show [27, 91] ++ (dgF 201 ++ []) ++ [126] = b201
  rw [show (201 : Int) = ((201 : Nat) : Int) from rfl, dg_big (by omega), dg_big (n := 201 / 10) (by omega), dg_small (by omega)]
  rfl
/-- What is known at the head of Paste's loop. -/
structure PasAt (w : World) (m : Md) (pr text : List Int) (k : Nat) (v : Value) (wr : World) : Prop where
  row : Row wr w.heap.size 5 v (pr ++ plainP false (text.take k))
  below : Below w.heap.size w wr
  box : MB wr w.heap.size m
theorem pas_len {on : Bool} {text : List Int} (h : text.length ≤ 100000000) (k : Nat) : (pre on ++ plainP false (text.take k)).length ≤ 500000000 := by
  have h1 := plain_len (text.take k) false
  have h2 : (text.take k).length ≤ text.length := by rw [List.length_take]; omega
  have h3 : (pre on).length ≤ 6 := by cases on <;> simp [pre, b200]
  rw [List.length_append]
  omega
theorem pas_same {w wr : World} {m : Md} {pr text : List Int} {k : Nat} {v : Value} (h : PasAt w m pr text k v wr) (hk : k < text.length) (e : oneP (ahead text k) text[k] = []) : PasAt w m pr text (k + 1) v wr :=
  ⟨by rw [plain_next hk, e, List.append_nil]; exact h.row, h.below, h.box⟩
theorem pas_next {w w1 : World} {m : Md} {pr text : List Int} {k : Nat} {v1 : Value} (hk : k < text.length) {acc x : List Int} (ha : acc = pr ++ plainP false (text.take k)) (e : oneP (ahead text k) text[k] = x)
    (h1 : Row w1 w.heap.size 5 v1 (acc ++ x)) (hb : Below w.heap.size w w1) (hm : MB w1 w.heap.size m) : PasAt w m pr text (k + 1) v1 w1 :=
  ⟨by rw [plain_next hk, e, ← List.append_assoc, ← ha]; exact h1, hb, hm⟩
/-- A block of another make stays behind an append. -/
theorem box_app {w w' : World} {B g : Nat} {v : Value} {l : List Int} {m : Md} (hm : MB w g m) (h : Row w B 5 v l) (ho : Only v.ownBlock.toList w w') : MB w' g m :=
  hm.only ho (by
    intro hc
    exact h.apart hm.blk (by decide) (by simpa using hc))


end Go.Proofs.YtkmedfffmalbgaaDoor.Kys
