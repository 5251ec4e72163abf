/-
  typed: a list in memory; the small calls: place, isMade, reach, isAwaited.
-/
import Derived.Test.YtkaeicaidomghaaChecked
import Derived.Test.YtkaeicaidomghaaYMath
import Derived.WalkLawsBesides
import Derived.LoopTactic
import Derived.IntWalk
import Derived.Outline
import Derived.Deep.QuietTactic
import Derived.BigQuiet
namespace Go.Proofs.Ytkaeicaidomghaa.Tpd
open Go Go.RowKit Go.Proofs.Ytkaeicaidomghaa.Com

/-- A list's block. -/
def LB (w : World) (d : Nat) (life last : Int) (p : Pl) (f n : Nat) : Prop := Block w d 28 (tyL life last p f n).toArray
section
variable {w w' : World} {d : Nat} {life last : Int} {p : Pl} {f n : Nat}
theorem LB.cellAt (h : LB w d life last p f n) (k : Nat) {v : Value} (hv : (tyL life last p f n)[k]? = some v) : w.cell? ⟨d, k, none⟩ = some v := Block.cell h k (by rw [List.getElem?_toArray]; exact hv)
theorem LB.clife (h : LB w d life last p f n) : w.cell? ⟨d, 0, none⟩ = some (.int .i64 life) := h.cellAt 0 (tyL_life ..)
theorem LB.clast (h : LB w d life last p f n) : w.cell? ⟨d, 1, none⟩ = some (.int .i64 last) := h.cellAt 1 (tyL_last ..)
theorem LB.fst (h : LB w d life last p f n) : w.cell? ⟨d, 130, none⟩ = some (.int .i64 f) := h.cellAt 130 (tyL_f ..)
theorem LB.cnt (h : LB w d life last p f n) : w.cell? ⟨d, 131, none⟩ = some (.int .i64 n) := h.cellAt 131 (tyL_n ..)
theorem LB.r (h : LB w d life last p f n) {i : Nat} (hi : i < 64) : w.cell? ⟨d, 2 + i * 2, none⟩ = some (.int .i32 (p i).1) := h.cellAt _ (tyL_r life last p f n hi)
theorem LB.t (h : LB w d life last p f n) {i : Nat} (hi : i < 64) : w.cell? ⟨d, 2 + i * 2 + 1, none⟩ = some (.int .i64 (p i).2) := h.cellAt _ (tyL_t life last p f n hi)
theorem LB.free (h : LB w d life last p f n) (k : Nat) : w.frozen? ⟨d, k, none⟩ = false := Block.free h k
theorem LB.lt (h : LB w d life last p f n) : d < w.heap.size := Block.lt h
theorem LB.only {L : List Nat} (h : LB w d life last p f n) (ho : Only L w w') (hn : d ∉ L) : LB w' d life last p f n := Block.only h ho hn
theorem LB.below (h : LB w d life last p f n) (hb : Below w.heap.size w w') : LB w' d life last p f n := h.only (Only.of_below hb []) (by simp)
theorem LB.drewN (h : LB w d life last p f n) (m : Nat) : LB (w.drewN m) d life last p f n := h.only (Only.drewN [] w m) (by simp)
theorem LB.set1 (h : LB w d life last p f n) (k : Nat) (v : Value) {life' last' : Int} {p' : Pl} {f' n' : Nat} (e : (tyL life last p f n).set k v = tyL life' last' p' f' n') : LB (w.setCell ⟨d, k, none⟩ v) d life' last' p' f' n' := by
  have := Block.set h k v
  rw [List.setIfInBounds_toArray, e] at this
  exact this
end

/-- A list that shows these keys, in their order. -/
def TL (w : World) (d : Nat) (life last : Int) (ks : List Key) : Prop := ∃ p f, f < 64 ∧ ks.length ≤ 64 ∧ LB w d life last p f ks.length ∧ Shows p f ks
theorem TL.only {w w' : World} {d : Nat} {life last : Int} {ks : List Key} {L : List Nat} (h : TL w d life last ks) (ho : Only L w w') (hn : d ∉ L) : TL w' d life last ks := by
  obtain ⟨p, f, h1, h2, h3, h4⟩ := h
  exact ⟨p, f, h1, h2, h3.only ho hn, h4⟩
theorem TL.below {w w' : World} {d : Nat} {life last : Int} {ks : List Key} (h : TL w d life last ks) (hb : Below w.heap.size w w') : TL w' d life last ks := h.only (Only.of_below hb []) (by simp)
theorem TL.lt {w : World} {d : Nat} {life last : Int} {ks : List Key} (h : TL w d life last ks) : d < w.heap.size := by
  obtain ⟨p, f, h1, h2, h3, h4⟩ := h
  exact h3.lt
theorem TL.len {w : World} {d : Nat} {life last : Int} {ks : List Key} (h : TL w d life last ks) : ks.length ≤ 64 := by
  obtain ⟨p, f, h1, h2, h3, h4⟩ := h
  exact h2
theorem TL.clife {w : World} {d : Nat} {life last : Int} {ks : List Key} (h : TL w d life last ks) : w.cell? ⟨d, 0, none⟩ = some (.int .i64 life) := by
  obtain ⟨p, f, h1, h2, h3, h4⟩ := h
  exact h3.clife
theorem TL.clast {w : World} {d : Nat} {life last : Int} {ks : List Key} (h : TL w d life last ks) : w.cell? ⟨d, 1, none⟩ = some (.int .i64 last) := by
  obtain ⟨p, f, h1, h2, h3, h4⟩ := h
  exact h3.clast

theorem wrap_in {x : Int} (h0 : -9223372036854775808 ≤ x) (h1 : x ≤ 9223372036854775807) : wrap64 x = x := by
  unfold wrap64
  omega

theorem place_any {w : World} {d : Nat} {life last : Int} {p : Pl} {f n : Nat} (h : LB w d life last p f n) (hf : f < 64) (i : Nat) (hi : i ≤ 64) :
    Calls Try.prog 21 #[.pointer (some ⟨d, 2, none⟩), .int .i64 (i : Int)] w fun e w' => e = .returned (.int .i64 ((pos f i : Nat) : Int)) ∧ w = w' := by
  have h0 := h.fst
  clear h
  go_enter Try.func21, Try.ntmps21
  go_wp2
  go_ret
  refine ⟨ret_int ?_, rfl⟩
  unfold pos
  simp

/-- A receiver that is none, or was not made. -/
def NoList (w : World) (v : Value) : Prop := v = .pointer none ∨ ∃ d last p f n, v = .pointer (some ⟨d, 0, none⟩) ∧ LB w d 0 last p f n
theorem isMade_yes {w : World} {d : Nat} {life last : Int} {ks : List Key} (h : TL w d life last ks) (hl : 1 ≤ life) :
    Calls Try.prog 13 #[.pointer (some ⟨d, 0, none⟩)] w fun e w' => e = .returned (.bool true) ∧ w = w' := by
  have h0 := h.clife
  clear h
  go_enter Try.func13, Try.ntmps13
  go_wp2
  go_ret
  refine ⟨ret_bool (by simp; omega), rfl⟩
theorem isMade_no {w : World} {v : Value} (h : NoList w v) :
    Calls Try.prog 13 #[v] w fun e w' => e = .returned (.bool false) ∧ w = w' := by
  rcases h with rfl | ⟨d, last, p, f, n, rfl, hb⟩
  · go_enter Try.func13, Try.ntmps13
    go_wp2
    go_ret
    exact ⟨rfl, rfl⟩
  · have h0 := hb.clife
    clear hb
    go_enter Try.func13, Try.ntmps13
    go_wp2
    go_ret
    exact ⟨rfl, rfl⟩

/-- What a method without results leaves. -/
def Leaves (w : World) (d : Nat) (life last : Int) (ks : List Key) (e : Ending) (w' : World) : Prop := (∃ v, e = .returned v) ∧ TL w' d life last ks ∧ Only [d] w w'

theorem isAwaited_any {w : World} {d : Nat} {life : Int} (h0 : w.cell? ⟨d, 0, none⟩ = some (.int .i64 life)) (h1 : 1 ≤ life) (h2 : life ≤ 1000) (k : Key) (hk : 0 ≤ k.2 ∧ k.2 ≤ 1099511627776) (now : Int) :
    Calls Try.prog 20 #[.pointer (some ⟨d, 0, none⟩), .agg #[.int .i32 k.1, .int .i64 k.2], .int .i64 now] w fun e w' => e = .returned (.bool (waits life now k)) ∧ Below w.heap.size w w' := by
  have hlt := World.block_lt_of_cell? _ _ h0
  have hB := (Below.refl w.heap.size w).alloc (Nat.le_refl _) (.cells #[.int .i32 k.1, .int .i64 k.2] 23)
  have h0' : (w.alloc (.cells #[.int .i32 k.1, .int .i64 k.2] 23)).cell? ⟨d, 0, none⟩ = some (.int .i64 life) := (hB.cell (p := ⟨d, 0, none⟩) hlt).trans h0
  have hb := Block.made w 23 #[.int .i32 k.1, .int .i64 k.2]
  have hc1 : (w.alloc (.cells #[.int .i32 k.1, .int .i64 k.2] 23)).cell? ⟨w.heap.size, 1, none⟩ = some (.int .i64 k.2) := hb.cell 1 rfl
  have hw := wrap_in (x := k.2 + life) (by omega) (by omega)
  go_enter Try.func20, Try.ntmps20
  go_wp2
  go_quiet (fail)

  go_wp2
  go_ret
  refine ⟨ret_bool ?_, ?_⟩
  · simp [waits]
  · exact below_drewN hB _
end Go.Proofs.Ytkaeicaidomghaa.Tpd
