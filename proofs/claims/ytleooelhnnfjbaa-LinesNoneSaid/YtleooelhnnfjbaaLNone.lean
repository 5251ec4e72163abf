/-
  lines: a store that is not there, or was not made.
-/
import Derived.Test.YtleooelhnnfjbaaLKnow
namespace Go.Proofs.Ytleooelhnnfjbaa.Lns
open Go Go.RowKit Go.Proofs.Ytleooelhnnfjbaa.Com Go.Proofs.Ytleooelhnnfjbaa.Rw

/-- A store that is not there, or a zero one. -/
def NilS (w : World) (p : Option Addr) : Prop := p = none ∨ ∃ d, p = some ⟨d, 0, none⟩ ∧ w.cell? ⟨d, 0, none⟩ = some (.int .i64 0)
theorem NilS.below {w w' : World} {p : Option Addr} (h : NilS w p) (hb : Below w.heap.size w w') : NilS w' p := by
  rcases h with h | ⟨d, h, hc⟩
  · exact .inl h
  · exact .inr ⟨d, h, (hb.cell (p := ⟨d, 0, none⟩) (World.block_lt_of_cell? _ _ hc)).trans hc⟩
theorem made_p {p : Option Addr} {w : World} (h : NilS w p) : Calls Try.prog 27 #[.pointer p] w fun e w' => e = .returned (.bool false) ∧ w = w' := by
  rcases h with rfl | ⟨d, rfl, hc⟩
  · go_enter Try.func27, Try.ntmps27
    go_wp2
    go_ret
    exact ⟨rfl, rfl⟩
  · go_enter Try.func27, Try.ntmps27
    go_wp2
    go_ret
    exact ⟨rfl, rfl⟩
section
variable {p : Option Addr} {w : World}
theorem cap_p (h : NilS w p) : Calls Try.prog 26 #[.pointer p] w fun e w' => e = .returned (.int .i64 0) ∧ w = w' := by
  have hm := Lib.hid (made_p h)
  clear h
  go_enter Try.func26, Try.ntmps26
  go_wp2_with ((go_at_call 27; (with_reducible refine (hm.out).mono ?_); rintro e w' ⟨rfl, rfl⟩))
  go_ret
  exact ⟨rfl, rfl⟩
theorem next_p (h : NilS w p) : Calls Try.prog 23 #[.pointer p] w fun e w' => e = .returned (.int .i64 0) ∧ w = w' := by
  have hm := Lib.hid (made_p h)
  clear h
  go_enter Try.func23, Try.ntmps23
  go_wp2_with ((go_at_call 27; (with_reducible refine (hm.out).mono ?_); rintro e w' ⟨rfl, rfl⟩))
  go_ret
  exact ⟨rfl, rfl⟩
theorem len_p (h : NilS w p) : Calls Try.prog 22 #[.pointer p] w fun e w' => e = .returned (.int .i64 0) ∧ w = w' := by
  have hm := Lib.hid (made_p h)
  clear h
  go_enter Try.func22, Try.ntmps22
  go_wp2_with ((go_at_call 27; (with_reducible refine (hm.out).mono ?_); rintro e w' ⟨rfl, rfl⟩))
  go_ret
  exact ⟨rfl, rfl⟩
theorem find_p (h : NilS w p) (id : Int) : Calls Try.prog 25 #[.pointer p, .int .i64 id] w fun e w' => e = .returned (.int .i64 (-1)) ∧ w = w' := by
  have hm := Lib.hid (made_p h)
  clear h
  go_enter Try.func25, Try.ntmps25
  go_wp2_with ((go_at_call 27; (with_reducible refine (hm.out).mono ?_); rintro e w' ⟨rfl, rfl⟩))
  go_ret
  exact ⟨rfl, rfl⟩
theorem clear_p (h : NilS w p) : Calls Try.prog 19 #[.pointer p] w fun e w' => e = .returned (.int .i64 1) ∧ w = w' := by
  have hm := Lib.hid (made_p h)
  clear h
  go_enter Try.func19, Try.ntmps19
  go_wp2_with ((go_at_call 27; (with_reducible refine (hm.out).mono ?_); rintro e w' ⟨rfl, rfl⟩))
  go_ret
  exact ⟨rfl, rfl⟩
theorem copy_p (h : NilS w p) : Calls Try.prog 20 #[.pointer p] w fun e w' => e = .returned (.pointer none) ∧ w = w' := by
  have hm := Lib.hid (made_p h)
  clear h
  go_enter Try.func20, Try.ntmps20
  go_wp2_with ((go_at_call 27; (with_reducible refine (hm.out).mono ?_); rintro e w' ⟨rfl, rfl⟩))
  go_ret
  exact ⟨rfl, rfl⟩
theorem push_p (h : NilS w p) (id : Int) : Calls Try.prog 15 #[.pointer p, .agg #[.int .i64 id, .pointer none]] w fun e w' => e = .returned (.int .i64 1) ∧ Below w.heap.size w w' := by
  have hbn := below_new w (.cells #[.int .i64 id, .pointer none] 42)
  have hm := Lib.hid (made_p (h.below hbn))
  clear h
  go_enter Try.func15, Try.ntmps15
  go_wp2_with ((go_at_call 27; (with_reducible refine (hm.out).mono ?_); rintro e w' ⟨rfl, rfl⟩))
  go_ret
  exact ⟨rfl, hbn⟩
theorem at_p (h : NilS w p) (i : Int) : Calls Try.prog 24 #[.pointer p, .int .i64 i] w (AtNo w 1) := by
  have hbn := below_new w (.cells #[.int .i64 0, .slice none 0 0] 66)
  have hbx : Block (w.alloc (.cells #[.int .i64 0, .slice none 0 0] 66)) w.heap.size 66 #[.int .i64 0, .slice none 0 0] := Block.made w _ _
  have hm := Lib.hid (made_p (h.below hbn))
  clear h
  go_enter Try.func24, Try.ntmps24
  go_wp2_with ((go_at_call 27; (with_reducible refine (hm.out).mono ?_); rintro e w' ⟨rfl, rfl⟩))
  exact bodyPost_ret (results_cell_tmpG rfl _ _ w.heap.size _ rfl hbx Try.underlying66 rfl infoH) rfl ⟨rfl, hbn⟩
theorem fresh_p (h : NilS w p) (cols : Int) (a : At) : Calls Try.prog 11 #[.pointer p, .int .i64 cols, .agg #[.int .u32 a.f, .int .u32 a.b, .int .u16 a.g]] w (FreshNo w 1) := by
  obtain ⟨af, ab, ag⟩ := a
  have hbn : Below w.heap.size w ((w.alloc (.cells #[.int .u32 af, .int .u32 ab, .int .u16 ag] 36)).alloc (.cells #[.int .i64 0, .pointer none] 42)) := below_next (below_new _ _) (below_new _ _)
  have hm := Lib.hid (made_p (h.below hbn))
  have hbx := Block.made (w.alloc (.cells #[.int .u32 af, .int .u32 ab, .int .u16 ag] 36)) 42 #[.int .i64 0, .pointer none]
  simp only [World.size_alloc] at hbx
  clear h
  go_enter Try.func11, Try.ntmps11
  go_wp2_with ((go_at_call 27; (with_reducible refine (hm.out).mono ?_); rintro e w' ⟨rfl, rfl⟩))
  exact bodyPost_ret (results_cell_tmpG rfl _ _ (w.heap.size + 1) _ rfl hbx Try.underlying42 rfl infoL) rfl ⟨rfl, hbn⟩
end

structure NSt (w0 w : World) (b dz : Nat) (a : At) : Prop where
  box : Block w b 36 (attV a).toArray
  zero : Block w dz 76 #[.int .i64 0, .int .i64 0, .slice none 0 0, .int .i64 0]
  below : Below w0.heap.size w0 w
theorem NSt.next {w0 w w' : World} {b dz : Nat} {a : At} (h : NSt w0 w b dz a) (hb : Below w.heap.size w w') : NSt w0 w' b dz a := ⟨h.box.only (Only.of_below hb []) (by simp), h.zero.only (Only.of_below hb []) (by simp), below_next h.below hb⟩
theorem NSt.nil {w0 w : World} {b dz : Nat} {a : At} (h : NSt w0 w b dz a) {p : Option Addr} (hp : p = none ∨ p = some ⟨dz, 0, none⟩) : NilS w p := by
  rcases hp with hp | hp
  · exact .inl hp
  · exact .inr ⟨dz, hp, h.zero.cell 0 rfl⟩
theorem two0 (v' : Option Addr) (w : World) : (Instr.index 77 (.agg #[.pointer none, .pointer v']) (.int .i64 0)).run Try.prog w = .ok (.pointer none) w := by kernel_rfl
theorem two1 (v' : Option Addr) (w : World) : (Instr.index 77 (.agg #[.pointer none, .pointer v']) (.int .i64 1)).run Try.prog w = .ok (.pointer v') w := by kernel_rfl
theorem wpList_idx {P : Program} {ops : Array Oper} {rest : List Oper} {o : Oper} {a : Go.Act} {w : World} {Q : Exit → Go.Act → World → Prop} (hgd : o.guard = none) {t : TypeId} {u j v : Value} (h : ∀ w, (Instr.index t u j).run P w = .ok v w) (x i : Operand) (ho : o.op = .index t x i) (hx : a.eval x = u) (hj : a.eval i = j)
    (hK : wpList P ops Q rest (a.put o.dst v) w) : wpList P ops Q (o :: rest) a w :=
  wpList_plain hgd fun _ hK' => by
    unfold Oper.wp execOp
    simp only [ho, hx, hj, Sem.run_bind, h, Sem.run_pure, Result.andThen_ok]
    exact hK' _ _ hK
set_option maxRecDepth 100000 in
set_option maxHeartbeats 8000000 in
theorem lawNone (n : Int) (a : At) (w : World) : Calls Try.prog 5 #[.int .i64 n, .agg #[.int .u32 a.f, .int .u32 a.b, .int .u16 a.g]] w fun e w' => e = .returned (.bool true) ∧ Below w.heap.size w w' := by
  obtain ⟨af, ab, ag⟩ := a
  have hb0 := Block.made w 36 #[.int .u32 af, .int .u32 ab, .int .u16 ag]
  have hz0 := Block.made (w.alloc (.cells #[.int .u32 af, .int .u32 ab, .int .u16 ag] 36)) 76 #[.int .i64 0, .int .i64 0, .slice none 0 0, .int .i64 0]
  have hN0 : NSt w ((w.alloc (.cells #[.int .u32 af, .int .u32 ab, .int .u16 ag] 36)).alloc (.cells #[.int .i64 0, .int .i64 0, .slice none 0 0, .int .i64 0] 76)) w.heap.size (w.heap.size + 1) ⟨af, ab, ag⟩ :=
    ⟨hb0.alloc _, by simpa using hz0, ((Below.refl _ _).alloc (Nat.le_refl _) _).alloc (by simp) _⟩
  clear hb0 hz0
  replace hN0 := Lib.hid hN0
  have hkn := Lib.hid (fun w => known_any w)
  go_enter Try.func5, Try.ntmps5
  go_wp2
  obtain ⟨dz, hdz⟩ : ∃ dz, dz = w.heap.size + 1 := ⟨_, rfl⟩
  obtain ⟨b, hb⟩ : ∃ b, b = w.heap.size := ⟨_, rfl⟩
  rw [← hdz, ← hb] at hN0
  rw [← hdz]
  rw [← hb]
  clear hdz
  replace hb := Lib.hid hb
  generalize (w.alloc (.cells #[.int .u32 af, .int .u32 ab, .int .u16 ag] 36)).alloc (.cells #[.int .i64 0, .int .i64 0, .slice none 0 0, .int .i64 0] 76) = w0 at hN0 ⊢
  go_loopw [13] (fun i wr => ∃ k : Int, 0 ≤ k ∧ k ≤ 2 ∧ i = .int .i64 k ∧ Hid (NSt w wr b dz ⟨af, ab, ag⟩)) (fun i _ => (2 - intOf i).toNat)
  case atStart => exact ⟨0, by omega, by omega, rfl, hN0⟩
  case round =>
    obtain ⟨k, hk0, hk2, rfl, hR⟩ := hrel
    have hR := hR.out
    clear hN0
    by_cases hlt : k < 2
    · obtain ⟨p, hp, hix⟩ : ∃ p, (p = none ∨ p = some ⟨dz, 0, none⟩) ∧ ∀ w, (Instr.index 77 (.agg #[.pointer none, .pointer (some ⟨dz, 0, none⟩)]) (.int .i64 k)).run Try.prog w = .ok (.pointer p) w := by
        have : k = 0 ∨ k = 1 := by omega
        rcases this with rfl | rfl
        · exact ⟨_, .inl rfl, two0 _⟩
        · exact ⟨_, .inr rfl, two1 _⟩
      have c0 : wr.cell? ⟨b, 0, none⟩ = some (.int .u32 af) := hR.box.cell 0 rfl
      have c1 : wr.cell? ⟨b, 1, none⟩ = some (.int .u32 ab) := hR.box.cell 1 rfl
      have c2 : wr.cell? ⟨b, 2, none⟩ = some (.int .u16 ag) := hR.box.cell 2 rfl
      have hfr := fresh_p (hR.nil hp) n ⟨af, ab, ag⟩
      have hN := fun w' (hb : Below wr.heap.size wr w') => (hR.next hb).nil hp
      have hRW := Lib.hid (fun w' (hb : Below wr.heap.size wr w') => hR.next hb)
      replace hfr := Lib.hid hfr
      replace hix := Lib.hid hix
      replace hN := Lib.hid hN
      simp only at hfr
      clear hR
      go_wp2_with (first
        | (with_reducible show wpList _ _ _ (⟨some 15, .index _ _ _, _, _, _, _⟩ :: _) _ _; go_must (refine wpList_idx rfl hix.out (.tmp 12) (.tmp 13) rfl rfl rfl ?_))
        | (go_at_call 11; (with_reducible refine (hfr.out).mono ?_); rintro e w1 ⟨rfl, hb1⟩; have hb8 := below_next hb1 (below_new w1 (.cells #[.int .i64 0, .pointer none] 42)); have hk8 := Block.made w1 42 #[.int .i64 0, .pointer none]; have hn8 := hN.out _ hb8)
        | (go_at_call 24; (with_reducible refine (at_p hn8 n).mono ?_); rintro e w2 ⟨rfl, hb2⟩; have hb10 := below_next (below_next hb8 hb2) (below_new w2 (.cells #[.int .i64 0, .slice none 0 0] 66)); have hk10 := Block.made w2 66 #[.int .i64 0, .slice none 0 0]; have hk9 := (hk8.only (Only.of_below hb2 []) (by simp)).alloc (.cells #[.int .i64 0, .slice none 0 0] 66); have k0 := hk9.cell 0 rfl; have k1 := hk9.cell 1 rfl; have j0 := hk10.cell 0 rfl; have j1 := hk10.cell 1 rfl; have hn10 := hN.out _ hb10)
        | (go_at_call 15; (with_reducible refine (push_p hn10 n).mono ?_); rintro e w3 ⟨rfl, hb3⟩; have hb3 := below_next hb10 hb3; have hn3 := hN.out _ hb3)
        | (go_at_call 19; (with_reducible refine (clear_p hn3).mono ?_); rintro e w4 ⟨rfl, rfl⟩)
        | (go_at_call 22; (with_reducible refine (len_p hn3).mono ?_); rintro e w5 ⟨rfl, rfl⟩)
        | (go_at_call 26; (with_reducible refine (cap_p hn3).mono ?_); rintro e w6 ⟨rfl, rfl⟩)
        | (go_at_call 23; (with_reducible refine (next_p hn3).mono ?_); rintro e w7 ⟨rfl, rfl⟩)
        | (go_at_call 25; (with_reducible refine (find_p hn3 n).mono ?_); rintro e w8 ⟨rfl, rfl⟩)
        | (go_at_call 20; (with_reducible refine (copy_p hn3).mono ?_); rintro e w9 ⟨rfl, rfl⟩))
      have hres := Lib.hid (hRW.out _ hb3)
      go_roundw
      case rel => exact ⟨k + 1, by omega, by omega, by go_num, hres⟩
      case measure => simp [intOf]; omega
    · obtain rfl : k = 2 := by omega
      have hB := Lib.hid hR.below
      clear hR
      go_wp2_with ((go_at_call 8; (with_reducible refine (hkn.out _).mono ?_); rintro e w1 ⟨rfl, hb1⟩))
      go_ret
      exact ⟨rfl, below_next hB.out hb1⟩
end Go.Proofs.Ytleooelhnnfjbaa.Lns
