/-
  keys: a key as a value and as a block; which key may be, its letter, its number.
-/
import Derived.Test.YtkmedfffmalbgaaDoorKCtl
import Derived.Test.YtkmedfffmalbgaaDoorMLeaf
namespace Go.Proofs.YtkmedfffmalbgaaDoor.Kys
open Go Go.RowKit Go.Proofs.YtkmedfffmalbgaaDoor.Com Go.Proofs.YtkmedfffmalbgaaDoor.Mds

/-- The key's cells. -/
def kA (k : Ky) : Array Value := #[.int .u8 k.kd, .int .i32 k.r, .int .i64 k.n, .int .u8 k.md]
theorem kA_info (k : Ky) : (Tryd.prog.info? 34).map (·.size) = some (kA k).size := by
  rw [show (kA k).size = 4 from rfl]
  kernel_rfl
def KB (w : World) (g : Nat) (k : Ky) : Prop := Block w g 34 (kA k)
section
variable {w w' : World} {g : Nat} {k : Ky}
theorem KB.blk (h : KB w g k) : Block w g 34 (kA k) := h
theorem KB.of (h : Block w g 34 (kA k)) : KB w g k := h
theorem KB.made (w : World) (k : Ky) : KB (w.alloc (.cells (kA k) 34)) w.heap.size k := Block.made w _ _
theorem KB.only {L : List Nat} (h : KB w g k) (ho : Only L w w') (hg : g ∉ L) : KB w' g k := Block.only h ho hg
theorem KB.below (h : KB w g k) (hb : Below w.heap.size w w') : KB w' g k := h.only (Only.of_below hb []) (by simp)
theorem KB.alloc (h : KB w g k) (o : Obj) : KB (w.alloc o) g k := Block.alloc h o
theorem KB.lt (h : KB w g k) : g < w.heap.size := Block.lt h
theorem KB.c0 (h : KB w g k) : w.cell? ⟨g, 0, none⟩ = some (.int .u8 k.kd) := Block.cell h 0 rfl
theorem KB.c1 (h : KB w g k) : w.cell? ⟨g, 1, none⟩ = some (.int .i32 k.r) := Block.cell h 1 rfl
theorem KB.c2 (h : KB w g k) : w.cell? ⟨g, 2, none⟩ = some (.int .i64 k.n) := Block.cell h 2 rfl
theorem KB.c3 (h : KB w g k) : w.cell? ⟨g, 3, none⟩ = some (.int .u8 k.md) := Block.cell h 3 rfl
end
/-- A key is loaded whole; flags are. -/
theorem wpList_load_k {o : Oper} {ops : Array Oper} {rest : List Oper} {a : Act} {w : World} {Q : Exit → Act → World → Prop} (hw : Region.wanted o (yielded ops a.tmps) = true) (x : Operand) (ho : o.op = .load 34 x) {g : Nat} {k : Ky} (hx : a.eval x = .pointer (some ⟨g, 0, none⟩))
    (hb : KB w g k) (h : wpList Tryd.prog ops Q rest (a.put o.dst (.agg (kA k))) w) : wpList Tryd.prog ops Q (o :: rest) a w :=
  wpList_wanted hw fun _ hK => by
    unfold Oper.wp execOp
    simp only [ho, hx, Instr.loadAt, Instr.sureAddr, Sem.run_bind, Sem.run_pure, Result.andThen_ok, load_row hb.blk Tryd.underlying34 rfl (kA_info k)]
    exact hK _ _ h
theorem wpList_load_m {o : Oper} {ops : Array Oper} {rest : List Oper} {a : Act} {w : World} {Q : Exit → Act → World → Prop} (hw : Region.wanted o (yielded ops a.tmps) = true) (x : Operand) (ho : o.op = .load 23 x) {g : Nat} {m : Md} (hx : a.eval x = .pointer (some ⟨g, 0, none⟩))
    (hb : MB w g m) (h : wpList Tryd.prog ops Q rest (a.put o.dst (.agg (mA m))) w) : wpList Tryd.prog ops Q (o :: rest) a w :=
  wpList_wanted hw fun _ hK => by
    unfold Oper.wp execOp
    simp only [ho, hx, Instr.loadAt, Instr.sureAddr, Sem.run_bind, Sem.run_pure, Result.andThen_ok, load_row hb.blk Tryd.underlying23 rfl (mA_info m)]
    exact hK _ _ h

def Tup (v : Value) (w : World) (e : Ending) (w' : World) : Prop := e = .returned v ∧ Below w.heap.size w w'

theorem rune_ways (r : Int) : (r < 0 ∧ ¬ mayR r) ∨ (0 ≤ r ∧ 1114111 < r ∧ ¬ mayR r) ∨ (0 ≤ r ∧ r < 55296 ∧ mayR r) ∨ (55296 ≤ r ∧ r ≤ 57343 ∧ ¬ mayR r) ∨ (57343 < r ∧ r ≤ 1114111 ∧ mayR r) := by
  unfold mayR
  omega
theorem rune_any (r : Int) (w : World) : Calls Tryd.prog 37 #[.int .i32 r] w fun e w' => e = .returned (.bool (decide (mayR r))) ∧ w = w' := by
  rcases rune_ways r with ⟨h1, e⟩ | ⟨h1, h2, e⟩ | ⟨h1, h2, e⟩ | ⟨h1, h2, e⟩ | ⟨h1, h2, e⟩
  all_goals
    replace e := Lib.hid e
    go_enter Tryd.func37, Tryd.ntmps37
    go_wp2
    go_ret
    first
      | exact ⟨ret_bool (decide_eq_true e.out).symm, rfl⟩
      | exact ⟨ret_bool (decide_eq_false e.out).symm, rfl⟩
      | exact ⟨ret_bool (by simp [e.out]; omega), rfl⟩
theorem rune_yes {r : Int} (h : mayR r) (w : World) : Calls Tryd.prog 37 #[.int .i32 r] w fun e w' => e = .returned (.bool true) ∧ w = w' := by
  have := rune_any r w
  rwa [decide_eq_true h] at this
theorem rune_no {r : Int} (h : ¬ mayR r) (w : World) : Calls Tryd.prog 37 #[.int .i32 r] w fun e w' => e = .returned (.bool false) ∧ w = w' := by
  have := rune_any r w
  rwa [decide_eq_false h] at this

theorem may_ways (k : Ky) (hk : k.Ok) : (k.kd < 1 ∧ ¬ k.may) ∨ (1 ≤ k.kd ∧ 16 < k.kd ∧ ¬ k.may) ∨ (1 ≤ k.kd ∧ k.kd ≤ 16 ∧ 7 < k.md ∧ ¬ k.may) ∨ (k.kd = 1 ∧ k.md ≤ 7) ∨ (k.kd = 12 ∧ k.md ≤ 7 ∧ k.r ≠ 0 ∧ ¬ k.may) ∨ (k.kd = 12 ∧ k.md ≤ 7 ∧ k.r = 0 ∧ k.n < 1 ∧ ¬ k.may) ∨
    (k.kd = 12 ∧ k.md ≤ 7 ∧ k.r = 0 ∧ 1 ≤ k.n ∧ 12 < k.n ∧ ¬ k.may) ∨ (k.kd = 12 ∧ k.md ≤ 7 ∧ k.r = 0 ∧ 1 ≤ k.n ∧ k.n ≤ 12 ∧ k.may) ∨
    (1 ≤ k.kd ∧ k.kd ≤ 16 ∧ k.kd ≠ 1 ∧ k.kd ≠ 12 ∧ k.md ≤ 7 ∧ k.r ≠ 0 ∧ ¬ k.may) ∨ (1 ≤ k.kd ∧ k.kd ≤ 16 ∧ k.kd ≠ 1 ∧ k.kd ≠ 12 ∧ k.md ≤ 7 ∧ k.r = 0 ∧ k.n ≠ 0 ∧ ¬ k.may) ∨ (1 ≤ k.kd ∧ k.kd ≤ 16 ∧ k.kd ≠ 1 ∧ k.kd ≠ 12 ∧ k.md ≤ 7 ∧ k.r = 0 ∧ k.n = 0 ∧ k.may) := by
  have h0 := hk.kd
  by_cases a : k.kd < 1
  · exact .inl ⟨a, fun h => by unfold Ky.may at h; omega⟩
  by_cases b : 16 < k.kd
  · exact .inr (.inl ⟨by omega, b, fun h => by unfold Ky.may at h; omega⟩)
  by_cases c : 7 < k.md
  · exact .inr (.inr (.inl ⟨by omega, by omega, c, fun h => by unfold Ky.may at h; omega⟩))
  by_cases d : k.kd = 1
  · exact .inr (.inr (.inr (.inl ⟨d, by omega⟩)))
  by_cases f : k.kd = 12
  · by_cases g : k.r = 0
    · by_cases i : k.n < 1
      · exact .inr (.inr (.inr (.inr (.inr (.inl ⟨f, by omega, g, i, fun h => by unfold Ky.may at h; omega⟩)))))
      · by_cases j : 12 < k.n
        · exact .inr (.inr (.inr (.inr (.inr (.inr (.inl ⟨f, by omega, g, by omega, j, fun h => by unfold Ky.may at h; omega⟩))))))
        · exact .inr (.inr (.inr (.inr (.inr (.inr (.inr (.inl ⟨f, by omega, g, by omega, by omega, by omega, by omega, by omega, .inr (.inl ⟨f, g, by omega, by omega⟩)⟩)))))))
    · exact .inr (.inr (.inr (.inr (.inl ⟨f, by omega, g, fun h => by unfold Ky.may at h; omega⟩))))
  · by_cases g : k.r = 0
    · by_cases i : k.n = 0
      · exact .inr (.inr (.inr (.inr (.inr (.inr (.inr (.inr (.inr (.inr (⟨by omega, by omega, d, f, by omega, g, i, by omega, by omega, by omega, .inr (.inr ⟨d, f, g, i⟩)⟩))))))))))
      · exact .inr (.inr (.inr (.inr (.inr (.inr (.inr (.inr (.inr (.inl ⟨by omega, by omega, d, f, by omega, g, i, fun h => by unfold Ky.may at h; omega⟩)))))))))
    · exact .inr (.inr (.inr (.inr (.inr (.inr (.inr (.inr (.inl ⟨by omega, by omega, d, f, by omega, g, fun h => by unfold Ky.may at h; omega⟩))))))))
set_option maxHeartbeats 2000000 in
theorem may_any (k : Ky) (hk : k.Ok) (w : World) : Calls Tryd.prog 28 #[.agg (kA k)] w (Tup (.bool (decide k.may)) w) := by
  have hb0 := Lib.hid (below_new w (.cells (kA k) 34))
  have hd := KB.made w k
  have hc0 := hd.c0
  have hc1 := hd.c1
  have hc2 := hd.c2
  have hc3 := hd.c3
  clear hd
  rcases may_ways k hk with ⟨h1, e⟩ | ⟨h1, h2, e⟩ | ⟨h1, h2, h3, e⟩ | ⟨h1, h3⟩ | ⟨h1, h3, h4, e⟩ | ⟨h1, h3, h4, h5, e⟩ | ⟨h1, h3, h4, h5, h6, e⟩ | ⟨h1, h3, h4, h5, h6, e⟩ | ⟨h1, h2, h3, h4, h5, h6, e⟩ | ⟨h1, h2, h3, h4, h5, h6, h7, e⟩ | ⟨h1, h2, h3, h4, h5, h6, h7, e⟩
  case inr.inr.inr.inl =>
    have hE : Hid (k.may ↔ mayR k.r ∧ k.n = 0) := by
      show _ ↔ _
      unfold Ky.may
      constructor
      · rintro ⟨_, _, _, h⟩
        rcases h with h | h | h
        · exact h.2
        · omega
        · exact absurd h1 h.1
      · rintro ⟨h4, h5⟩
        exact ⟨by omega, by omega, h3, .inl ⟨h1, h4, h5⟩⟩
    rw [h1] at hc0
    clear h1 hk
    by_cases hr : mayR k.r
    · have hrun := Lib.hid (fun w' => rune_yes hr w')
      by_cases hn : k.n = 0
      · have e : Hid (true = decide k.may) := (decide_eq_true (hE.out.2 ⟨hr, hn⟩)).symm
        rw [hn] at hc2
        clear hn hr hE
        generalize k.r = x1 at *
        generalize k.n = x2 at *
        generalize k.md = x3 at *
        go_enter Tryd.func28, Tryd.ntmps28
        go_wp2_with ((go_at_call 37; (with_reducible refine (hrun.out _).mono ?_); rintro e w' ⟨rfl, rfl⟩))
        go_ret
        exact ⟨ret_bool e.out, hb0.out⟩
      · have e : Hid (false = decide k.may) := (decide_eq_false fun h => hn (hE.out.1 h).2).symm
        clear hr hE
        generalize k.r = x1 at *
        generalize k.n = x2 at *
        generalize k.md = x3 at *
        go_enter Tryd.func28, Tryd.ntmps28
        go_wp2_with ((go_at_call 37; (with_reducible refine (hrun.out _).mono ?_); rintro e w' ⟨rfl, rfl⟩))
        go_ret
        exact ⟨ret_bool (Eq.trans (by simp; omega) e.out), hb0.out⟩
    · have hrun := Lib.hid (fun w' => rune_no hr w')
      have e : Hid (false = decide k.may) := (decide_eq_false fun h => hr (hE.out.1 h).1).symm
      clear hr hE
      generalize k.r = x1 at *
      generalize k.n = x2 at *
      generalize k.md = x3 at *
      go_enter Tryd.func28, Tryd.ntmps28
      go_wp2_with ((go_at_call 37; (with_reducible refine (hrun.out _).mono ?_); rintro e w' ⟨rfl, rfl⟩))
      go_ret
      exact ⟨ret_bool e.out, hb0.out⟩
  all_goals
    replace e := Lib.hid e
    clear hk
    generalize k.kd = x0 at *
    generalize k.r = x1 at *
    generalize k.n = x2 at *
    generalize k.md = x3 at *
    try subst h1
    go_enter Tryd.func28, Tryd.ntmps28
    go_wp2_with fail
    go_ret
    first
      | exact ⟨ret_bool (decide_eq_true e.out).symm, hb0.out⟩
      | exact ⟨ret_bool (decide_eq_false e.out).symm, hb0.out⟩
      | exact ⟨ret_bool (Eq.trans (b := false) (by simp; omega) (decide_eq_false e.out).symm), hb0.out⟩

end Go.Proofs.YtkmedfffmalbgaaDoor.Kys
