/-
  tabs: math/bits.OnesCount64 and TrailingZeros64, as the library's own text reckons them.
-/
import Derived.Test.YtihmagpgbjlggaaDoorChecked
import Derived.Test.YtihmagpgbjlggaaDoorTMath
import Derived.Test.YtihmagpgbjlggaaDoorMem
import Derived.WalkLawsBesides
import Derived.LoopTactic
import Derived.IntWalk
import Derived.Outline
import Derived.Deep.QuietTactic
import Derived.BigQuiet
import Derived.WalkSmall
import Derived.Deep.DeepMust
import Derived.Laws.Bits128
namespace Go.Proofs.YtihmagpgbjlggaaDoor.Tbs
open Go Go.RowKit Go.Proofs.YtihmagpgbjlggaaDoor.Com

theorem wrap_nat {n : Nat} (h : n < 18446744073709551616) : IntKind.u64.wrap (n : Int) = (n : Int) := by
  rw [IntKind.wrap_u64]
  omega
theorem mod_cast128 {a b : Nat} (h : a % 128 = b) : (a : Int) % 128 = (b : Nat) := by omega
/-- What the library's steps make of a word, one after the other. -/
theorem swar (x : Nat) (hx : x < 18446744073709551616) : ∃ a b y c d z p q z1 z2 z3 : Nat,
    bits BinOp.and IntKind.u64 ((x : Int) / 2) 6148914691236517205 = (a : Int) ∧ bits BinOp.and IntKind.u64 (x : Int) 6148914691236517205 = (b : Int) ∧ IntKind.u64.wrap ((a : Int) + (b : Int)) = (y : Int) ∧
    bits BinOp.and IntKind.u64 ((y : Int) / 4) 3689348814741910323 = (c : Int) ∧ bits BinOp.and IntKind.u64 (y : Int) 3689348814741910323 = (d : Int) ∧ IntKind.u64.wrap ((c : Int) + (d : Int)) = (z : Int) ∧
    IntKind.u64.wrap ((z : Int) / 16 + (z : Int)) = (p : Int) ∧ bits BinOp.and IntKind.u64 (p : Int) 1085102592571150095 = (q : Int) ∧
    IntKind.u64.wrap ((q : Int) + (q : Int) / 256) = (z1 : Int) ∧ IntKind.u64.wrap ((z1 : Int) + (z1 : Int) / 65536) = (z2 : Int) ∧ IntKind.u64.wrap ((z2 : Int) + (z2 : Int) / 4294967296) = (z3 : Int) ∧
    z3 < 900000000000000000 ∧ (z3 : Int) % 128 = (ds 2 64 x : Nat) := by
  obtain ⟨h1, d1⟩ := step1 32 x
  obtain ⟨h2, d2⟩ := step2 16 _ d1
  obtain ⟨h3, d3⟩ := step3 8 _ d2
  have b1 := d1.le (by decide)
  have b2 := d2.le (by decide)
  rw [mk1] at h1 d1 h2 d2 h3 d3 b1 b2
  rw [mk2] at h2 d2 h3 d3 b2
  rw [mk3] at h3 d3
  rw [show (4 : Nat) ^ 32 = 18446744073709551616 from by decide] at b1
  rw [show (16 : Nat) ^ 16 = 18446744073709551616 from by decide] at b2
  have a1 := bits_and_u64_nat (x / 2) 6148914691236517205 (by omega) (by decide)
  have a2 := bits_and_u64_nat x 6148914691236517205 hx (by decide)
  generalize x / 2 &&& 6148914691236517205 = a at *
  generalize x &&& 6148914691236517205 = b at *
  generalize hy : a + b = y at *
  have a3 := bits_and_u64_nat (y / 4) 3689348814741910323 (by omega) (by decide)
  have a4 := bits_and_u64_nat y 3689348814741910323 (by omega) (by decide)
  generalize y / 4 &&& 3689348814741910323 = c at *
  generalize y &&& 3689348814741910323 = d at *
  generalize hz : c + d = z at *
  have a5 := bits_and_u64_nat (z / 16 + z) 1085102592571150095 (by omega) (by decide)
  generalize hp : z / 16 + z = p at *
  generalize p &&& 1085102592571150095 = q at *
  obtain ⟨z1, z2, z3, e1, e2, e3, l1, l2, l3, e4⟩ := fold_all d3
  refine ⟨a, b, y, c, d, z, p, q, z1, z2, z3, a1, a2, ?_, a3, a4, ?_, ?_, a5, ?_, ?_, ?_, l3, ?_⟩
  · rw [IntKind.wrap_u64]; omega
  · rw [IntKind.wrap_u64]; omega
  · rw [IntKind.wrap_u64]; omega
  · rw [IntKind.wrap_u64]; omega
  · rw [IntKind.wrap_u64]; omega
  · rw [IntKind.wrap_u64]; omega
  · have e5 : ds 256 8 q = ds 2 64 x := h3.trans (h2.trans h1)
    rw [e5] at e4
    exact mod_cast128 e4

set_option maxHeartbeats 1000000 in
theorem ones_any (x : Nat) (hx : x < 18446744073709551616) (w : World) :
    Calls Tryd.prog 39 #[.int .u64 x] w fun e w' => e = .returned (.int .i64 (ds 2 64 x)) ∧ w = w' := by
  obtain ⟨a, b, y, c, d, z, p, q, z1, z2, z3, a1, a2, a3, a4, a5, a6, a7, a8, a9, b1, b2, l3, hE⟩ := swar x hx
  replace hE := Lib.hid hE
  go_enter Tryd.func39, Tryd.ntmps39
  go_wp2
  go_ret
  exact ⟨ret_int ((i64_and127 _).trans hE.out), rfl⟩

/-- The library's table lies where its initialiser laid it. -/
structure Tab (w : World) : Prop where
  size : 0 < w.heap.size
  cells : ∀ k, k < 64 → w.cell? ⟨0, k, none⟩ = some (.int .u8 (Lib.deBruijn64tab.getD k 0))
theorem Tab.below {w w' : World} (h : Tab w) (hb : Below w.heap.size w w') : Tab w' :=
  ⟨Nat.lt_of_lt_of_le h.size hb.size, fun k hk => (hb.cell (p := ⟨0, k, none⟩) h.size).trans (h.cells k hk)⟩
theorem Tab.under {w w' : World} {B : Nat} (h : Tab w) (hb : Below B w w') (hB : w.heap.size ≤ B) : Tab w' := h.below (hb.mono hB)

/-- Where the lowest bit stands. -/
theorem ctz_bit {x : Nat} (hx : x < 18446744073709551616) (h0 : x ≠ 0) : Lib.ctz 64 x < 64 ∧ x.testBit (Lib.ctz 64 x) = true ∧ ∀ j, j < Lib.ctz 64 x → x.testBit j = false := by
  obtain ⟨m, hm, hk⟩ := Lib.ctzFrom_spec 64 x (by omega) hx
  have e : Lib.ctz 64 x = Lib.ctzFrom 64 x := by simp [Lib.ctz, h0]
  rw [e]
  generalize Lib.ctzFrom 64 x = k at hm hk
  refine ⟨hk, ?_, fun j hj => ?_⟩
  · rw [hm, Nat.mul_comm, Nat.testBit_mul_two_pow]
    simp
  · rw [hm, Nat.mul_comm, Nat.testBit_mul_two_pow]
    simp
    omega
theorem tz_key (x a : Nat) (hx : x < 18446744073709551616) (hx0 : x ≠ 0) (hlow : x &&& (18446744073709551616 - x) = a) :
    IntKind.u64.wrap (bits BinOp.and IntKind.u64 (x : Int) (IntKind.u64.wrap (-(x : Int))) * 285870213051353865) / 288230376151711744 = ((a * 285870213051353865 % 18446744073709551616 / 288230376151711744 : Nat) : Int) := by
  have e1 : IntKind.u64.wrap (-(x : Int)) = ((18446744073709551616 - x : Nat) : Int) := by rw [IntKind.wrap_u64]; omega
  rw [e1, bits_and_u64_nat x _ hx (by omega), hlow, IntKind.wrap_u64]
  omega
theorem tz_core (x k idx : Nat) (w : World) (hx0 : ((x : Int) == 0) = false)
    (key : IntKind.u64.wrap (bits BinOp.and IntKind.u64 (x : Int) (IntKind.u64.wrap (-(x : Int))) * 285870213051353865) / 288230376151711744 = (idx : Int))
    (hi : idx < 64) (hk : k < 64) (hcell : w.cell? ⟨0, idx, none⟩ = some (.int .u8 k)) :
    Calls Tryd.prog 40 #[.int .u64 x] w fun e w' => e = .returned (.int .i64 k) ∧ w = w' := by
  go_enter Tryd.func40, Tryd.ntmps40
  go_wp2_with (simp only [key])
  go_ret
  exact ⟨rfl, rfl⟩
theorem tz_any (x : Nat) (hx : x < 18446744073709551616) (h0 : x ≠ 0) (w : World) (T : Tab w) :
    Calls Tryd.prog 40 #[.int .u64 x] w fun e w' => e = .returned (.int .i64 (Lib.ctz 64 x)) ∧ w = w' := by
  obtain ⟨hlow, hk⟩ := Lib.lowest_bit 64 x h0 hx
  obtain ⟨hi, htab⟩ := Lib.deBruijn64_at _ hk
  have hcell := T.cells _ hi
  rw [htab] at hcell
  exact tz_core x _ _ w (by simp; omega) (tz_key x _ hx h0 hlow) hi hk hcell

end Go.Proofs.YtihmagpgbjlggaaDoor.Tbs
