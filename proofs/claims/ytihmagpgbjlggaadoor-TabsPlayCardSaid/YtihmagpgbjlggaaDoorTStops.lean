/-
  tabs: eight words of bits in memory, and the calls on them.
-/
import Derived.Test.YtihmagpgbjlggaaDoorTBits
import Derived.Test.YtihmagpgbjlggaaDoorMem2
namespace Go.Proofs.YtihmagpgbjlggaaDoor.Tbs
open Go Go.RowKit Go.Proofs.YtihmagpgbjlggaaDoor.Com

/-- The eight words. -/
def wsL (f : Nat → Bool) : List Value := (List.range 8).map fun i => .int .u64 (wd f i)
def wsA (f : Nat → Bool) : Array Value := (wsL f).toArray
theorem ws_len (f : Nat → Bool) : (wsL f).length = 8 := by simp [wsL]
theorem ws_size (f : Nat → Bool) : (wsA f).size = 8 := by simp [wsA, ws_len]
theorem wsl_at (f : Nat → Bool) {i : Nat} (hi : i < 8) : (wsL f)[i]? = some (.int .u64 (wd f i)) := by simp [wsL, hi]
theorem ws_at (f : Nat → Bool) {i : Nat} (hi : i < 8) : (wsA f)[i]? = some (.int .u64 (wd f i)) := by simpa [wsA] using wsl_at f hi
theorem wsl_set {f g : Nat → Bool} {i : Nat} (h : ∀ j, j < 8 → j ≠ i → wd f j = wd g j) : (wsL f).set i (.int .u64 (wd g i)) = wsL g := by
  apply List.ext_getElem?
  intro j
  by_cases hj : j < 8
  · rw [wsl_at g hj]
    by_cases e : i = j
    · subst e
      rw [List.getElem?_set_self (by rw [ws_len]; exact hj)]
    · rw [List.getElem?_set_ne e, wsl_at f hj, h j hj (fun e' => e e'.symm)]
  · rw [List.getElem?_eq_none (by rw [List.length_set, ws_len]; omega), List.getElem?_eq_none (by rw [ws_len]; omega)]
theorem ws_congr {f g : Nat → Bool} (h : ∀ c, c < 512 → f c = g c) : wsL f = wsL g := by
  unfold wsL
  apply List.map_congr_left
  intro i hi
  rw [wd_congr (f := f) (g := g) fun j hj => h _ (by have := List.mem_range.1 hi; omega)]
theorem ws_one (f : Nat → Bool) : (wsA f).all (·.oneCell') = true := by simp [wsA, wsL, Value.oneCell']
theorem ws_info (f : Nat → Bool) : (Tryd.prog.info? 49).map (·.size) = some (wsA f).size := by
  rw [ws_size]
  kernel_rfl

theorem pow_lt {k : Nat} (h : k < 64) : 2 ^ k < 18446744073709551616 := show _ < 2 ^ 64 from Nat.pow_lt_pow_right (by decide) h
theorem int_pow (k : Nat) : (2 : Int) ^ k = ((2 ^ k : Nat) : Int) := by rw [Int.natCast_pow]; rfl
theorem wrap_pow {k : Nat} (h : k < 64) : IntKind.u64.wrap (2 ^ k) = ((2 ^ k : Nat) : Int) := by
  rw [int_pow]
  exact wrap_nat (pow_lt h)
theorem low_wrap {k : Nat} (h : k ≤ 64) : IntKind.u64.wrap (IntKind.u64.wrap (2 ^ k) - 1) = ((2 ^ k - 1 : Nat) : Int) := by
  have h1 : 0 < 2 ^ k := Nat.pow_pos (by decide)
  have h2 : 2 ^ k ≤ 18446744073709551616 := show _ ≤ 2 ^ 64 from Nat.pow_le_pow_right (by decide) h
  rw [int_pow, IntKind.wrap_u64, IntKind.wrap_u64]
  generalize 2 ^ k = x at h1 h2
  omega
theorem andNot_nat (a b : Nat) (ha : a < 18446744073709551616) (hb : b < 18446744073709551616) : bits .andNot .u64 (a : Int) (b : Int) = (sub a b : Nat) := by
  have h1 : (BitVec.ofInt 64 (a : Int)).toNat = a := by
    rw [BitVec.ofInt_natCast, BitVec.toNat_ofNat]; exact Nat.mod_eq_of_lt (by omega)
  have h2 : (BitVec.ofInt 64 (b : Int)).toNat = b := by
    rw [BitVec.ofInt_natCast, BitVec.toNat_ofNat]; exact Nat.mod_eq_of_lt (by omega)
  show IntKind.u64.wrap ((BitVec.ofInt 64 (a : Int) &&& ~~~ (BitVec.ofInt 64 (b : Int))).toNat : Int) = _
  rw [BitVec.toNat_and, BitVec.toNat_not, h1, h2]
  exact wrap_nat (sub_lt ha)

/-- What a method leaves that turns one bit of the words that begin at o in the block d. -/
def Bit (w : World) (d o : Nat) (t : TypeId) (cs : Array Value) (f : Nat → Bool) (c : Nat) (b : Bool) (e : Ending) (w' : World) : Prop :=
  (∃ v, e = .returned v) ∧ Block w' d t (cs.setIfInBounds (o + c / 64) (.int .u64 (wd (putF f c b) (c / 64)))) ∧ Only [d] w w'
theorem bit_set {w : World} {d o : Nat} {t : TypeId} {cs : Array Value} {f : Nat → Bool} {c : Nat} {b : Bool} (hb : Block w d t cs) {v : Value} : Bit w d o t cs f c b (.returned v) ((w.setCell ⟨d, o + c / 64, none⟩ (.int .u64 (wd (putF f c b) (c / 64)))).drew) :=
  ⟨⟨_, rfl⟩, (hb.set _ _).only (only_drew [] _) (by simp), (Only.setCell w ⟨d, o + c / 64, none⟩ _).trans (only_drew [d] _)⟩
set_option maxHeartbeats 1000000 in
theorem set_any (f : Nat → Bool) (c : Nat) (hc : c < 512) (d o : Nat) (t : TypeId) (cs : Array Value) (w : World) (hb : Block w d t cs) (hat : cs[o + c / 64]? = some (.int .u64 (wd f (c / 64)))) :
    Calls Tryd.prog 29 #[.pointer (some ⟨d, o, none⟩), .int .i64 c] w (Bit w d o t cs f c true) := by
  have hcell := hb.cell _ hat
  have hfr := hb.free (o + c / 64)
  have hq : c / 64 < 8 := by omega
  have hr : c % 64 < 64 := by omega
  have hE := bit_set (o := o) (f := f) (c := c) (b := true) hb (v := .tuple #[])
  have hor : bits BinOp.or IntKind.u64 (wd f (c / 64)) (IntKind.u64.wrap (2 ^ (c % 64))) = (wd (putF f c true) (c / 64) : Nat) := by
    rw [wrap_pow hr, bits_or_u64_nat _ _ (wd_lt _ _) (pow_lt hr), wd_put]
  generalize wd (putF f c true) (c / 64) = y at hor hE
  generalize wd f (c / 64) = x at hor hcell
  replace hE := Lib.hid hE
  clear hb hat
  go_enter Tryd.func29, Tryd.ntmps29
  go_wp2
  go_region
  go_end0
  exact hE.out
set_option maxHeartbeats 1000000 in
theorem clear_any (f : Nat → Bool) (c : Nat) (hc : c < 512) (d o : Nat) (t : TypeId) (cs : Array Value) (w : World) (hb : Block w d t cs) (hat : cs[o + c / 64]? = some (.int .u64 (wd f (c / 64)))) :
    Calls Tryd.prog 30 #[.pointer (some ⟨d, o, none⟩), .int .i64 c] w (Bit w d o t cs f c false) := by
  have hcell := hb.cell _ hat
  have hfr := hb.free (o + c / 64)
  have hq : c / 64 < 8 := by omega
  have hr : c % 64 < 64 := by omega
  have hE := bit_set (o := o) (f := f) (c := c) (b := false) hb (v := .tuple #[])
  have hor : bits BinOp.andNot IntKind.u64 (wd f (c / 64)) (IntKind.u64.wrap (2 ^ (c % 64))) = (wd (putF f c false) (c / 64) : Nat) := by
    rw [wrap_pow hr, andNot_nat _ _ (wd_lt _ _) (pow_lt hr), wd_off]
  generalize wd (putF f c false) (c / 64) = y at hor hE
  generalize wd f (c / 64) = x at hor hcell
  replace hE := Lib.hid hE
  clear hb hat
  go_enter Tryd.func30, Tryd.ntmps30
  go_wp2
  go_region
  go_end0
  exact hE.out

theorem below_any (n : Int) (hlo : -9223372036854775808 ≤ n) (hhi : n ≤ 9223372036854775807) (w : World) : Calls Tryd.prog 38 #[.int .i64 n] w fun e w' => e = .returned (.int .u64 (lowF n)) ∧ w = w' := by
  by_cases h0 : n ≤ 0
  · have hE : Hid (((0 : Nat) : Int) = (lowF n : Nat)) := by
      show _ = _
      unfold lowF clamp
      rw [show min n.toNat 64 = 0 by omega]
    go_enter Tryd.func38, Tryd.ntmps38
    go_wp2
    all_goals (first | omega | skip)
    all_goals
      go_ret
      exact ⟨ret_int hE.out, rfl⟩
  by_cases h1 : 64 < n
  · have hE : Hid (((18446744073709551615 : Nat) : Int) = (lowF n : Nat)) := by
      show _ = _
      unfold lowF clamp
      rw [show min n.toNat 64 = 64 by omega]
    go_enter Tryd.func38, Tryd.ntmps38
    go_wp2
    all_goals (first | omega | skip)
    all_goals
      go_ret
      exact ⟨ret_int hE.out, rfl⟩
  · obtain ⟨k, rfl⟩ : ∃ k : Nat, n = k := ⟨n.toNat, by omega⟩
    have hk : 1 ≤ k ∧ k ≤ 64 := by omega
    obtain ⟨hk1, hk2⟩ := hk
    have hE : Hid (IntKind.u64.wrap (IntKind.u64.wrap (2 ^ k) - 1) = (lowF (k : Int) : Nat)) := by
      show _ = _
      unfold lowF clamp
      rw [low_wrap hk2, show min (k : Int).toNat 64 = k by omega]
    go_enter Tryd.func38, Tryd.ntmps38
    go_wp2
    all_goals (first | omega | skip)
    all_goals
      go_ret
      exact ⟨ret_int hE.out, rfl⟩

end Go.Proofs.YtihmagpgbjlggaaDoor.Tbs
