/-
  modes: Default; the array of pointers; Bits and Of.
-/
import Derived.Test.YtnammlihpjjdoaaMGet
import Derived.Maps.RangeWalk
import Derived.Deep.RegionHeld3
import Derived.Deep.DeepMust
import Derived.BigRegion
namespace Go.Proofs.Ytnammlihpjjdoaa.Mds
open Go Go.RowKit Go.Proofs.Ytnammlihpjjdoaa.Com

def MIs (m : Md) (w : World) (e : Ending) (w' : World) : Prop := e = .returned (.agg (mA m)) ∧ Below w.heap.size w w'
set_option maxHeartbeats 1000000 in
theorem default_any (w : World) : Calls Try.prog 13 #[] w (MIs start w) := by
  have hb0 := Lib.hid (below_new w (.cells #[.bool false, .bool false, .bool false, .bool false, .bool false, .bool false, .bool false, .bool false] 23))
  have hr0 := Lib.hid (MB.zero w)
  have hinf := Lib.hid (mA_info start)
  go_enter Try.func13, Try.ntmps13
  go_wp2_with (first
    | (with_reducible show wpList _ _ _ (⟨none, .store _ (.tmp 0) _, _, _, _, _⟩ :: _) _ _; go_must (refine wpList_storeAll rfl _ (.tmp 0) (.tmp 1) rfl hr0.out.blk (mA start) rfl rfl hinf.out rfl (mA_one _) ?_); intro w2 hd2 ho2))
  exact end_m rfl rfl rfl (MB.of hd2) ⟨rfl, hb0.out.trans (ho2.below hb0.out.size (by simp))⟩

/-- The eight pointers into block b. -/
def ptrs (b : Nat) : Array Value := #[.pointer (some ⟨b, 0, none⟩), .pointer (some ⟨b, 1, none⟩), .pointer (some ⟨b, 2, none⟩), .pointer (some ⟨b, 3, none⟩), .pointer (some ⟨b, 4, none⟩), .pointer (some ⟨b, 5, none⟩), .pointer (some ⟨b, 6, none⟩), .pointer (some ⟨b, 7, none⟩)]
theorem ptrs_size (b : Nat) : (ptrs b).size = 8 := rfl
theorem ptrs_info (b : Nat) : (Try.prog.info? 48).map (·.size) = some (ptrs b).size := by
  rw [ptrs_size]
  kernel_rfl
theorem ptrs_one (b : Nat) : (ptrs b).all (·.oneCell') = true := by simp [ptrs, Value.oneCell']
def PIs (b : Nat) (w : World) (e : Ending) (w' : World) : Prop := e = .returned (.agg (ptrs b)) ∧ Below w.heap.size w w'
set_option maxHeartbeats 2000000 in
theorem inBits_any (b : Nat) (w : World) : Calls Try.prog 22 #[.pointer (some ⟨b, 0, none⟩)] w (PIs b w) := by
  have hB := (Block.made w 48 (ptrs b)).only (Only.drewN [] _ 1) (by simp)
  have hb := below_dr (below_new w (.cells (ptrs b) 48)) 1
  replace hB := Lib.hid hB
  replace hb := Lib.hid hb
  go_enter Try.func22, Try.ntmps22
  go_wp2
  go_region
  go_wp2
  exact bodyPost_ret (results_cell_row rfl _ _ w.heap.size 48 (ptrs b) (0, 0) _ rfl (blk hB.out) Try.underlying48 rfl (ptrs_info b)) rfl ⟨rfl, hb.out⟩

theorem wpList_idx {P : Program} {ops : Array Oper} {rest : List Oper} {o : Oper} {a : Act} {w : World} {Q : Exit → Act → World → Prop} (hgd : o.guard = none) {t : TypeId} {u j v : Value} (h : ∀ w, (Instr.index t u j).run P w = .ok v w) (x i : Operand) (ho : o.op = .index t x i) (hx : a.eval x = u) (hj : a.eval i = j)
    (hK : wpList P ops Q rest (a.put o.dst v) w) : wpList P ops Q (o :: rest) a w :=
  wpList_plain hgd fun _ hK' => by
    unfold Oper.wp execOp
    simp only [ho, hx, hj, Sem.run_bind, h, Sem.run_pure, Result.andThen_ok]
    exact hK' _ _ hK
theorem idx_at (b : Nat) {k : Nat} (hk : k < 8) (w : World) : (Instr.index 48 (.agg (ptrs b)) (.int .i64 k)).run Try.prog w = .ok (.pointer (some ⟨b, k, none⟩)) w := by
  rcases small (Nat.le_of_lt hk) with rfl | rfl | rfl | rfl | rfl | rfl | rfl | rfl | rfl
  all_goals first | omega | kernel_rfl

/-- The bits of the first k flags. -/
def part (m : Md) : Nat → Int
  | 0 => 0
  | k + 1 => part m k + one (m.get k) (pow k)
theorem part_all (m : Md) : part m 8 = m.bits := by
  simp [part, Md.bits, Md.get, pow]
theorem pow_two : ∀ k : Nat, k < 7 → pow (k + 1) = 2 * pow k := by
  have h : ∀ k : Fin 7, pow (k.val + 1) = 2 * pow k.val := by decide
  exact fun k hk => h ⟨k, hk⟩
theorem part_in (m : Md) {k : Nat} (hk : k < 8) : 0 ≤ part m k ∧ part m k < pow k := by
  induction k with
  | zero => exact ⟨Int.le_refl _, by show (0 : Int) < 1; decide⟩
  | succ k ih =>
    obtain ⟨h0, h1⟩ := ih (by omega)
    have h2 := pow_two k (by omega)
    have h3 := one_cases (m.get k) (pow k)
    unfold part
    omega

set_option maxRecDepth 100000 in
theorem or_small : ∀ k : Fin 8, ∀ s : Fin 128, s.val < 2 ^ k.val → bits .or .u8 (s.val : Int) ((2 : Int) ^ k.val % 256) = s.val + pow k.val := by decide
theorem pow_nat : ∀ k : Nat, k < 8 → pow k = ((2 ^ k : Nat) : Int) ∧ pow k ≤ 128 := by
  have h : ∀ k : Fin 8, pow k.val = ((2 ^ k.val : Nat) : Int) ∧ pow k.val ≤ 128 := by decide
  exact fun k hk => h ⟨k, hk⟩
theorem or_part (m : Md) {k : Nat} (hk : k < 8) : bits .or .u8 (part m k) ((2 : Int) ^ k % 256) = part m k + pow k := by
  obtain ⟨h0, h1⟩ := part_in m hk
  obtain ⟨e, h2⟩ := pow_nat k hk
  obtain ⟨s, hs⟩ : ∃ s : Nat, part m k = s := ⟨(part m k).toNat, by omega⟩
  rw [hs] at h1 ⊢
  have h3 : s < 2 ^ k := by rw [e] at h1; exact_mod_cast h1
  exact or_small ⟨k, hk⟩ ⟨s, by omega⟩ h3

set_option maxHeartbeats 2000000 in
theorem bits_any (m : Md) (w : World) : Calls Try.prog 15 #[.agg (mA m)] w fun e w' => e = .returned (.int .u8 m.bits) ∧ Below w.heap.size w w' := by
  have hm0 := Lib.hid (MB.made w m)
  have hb0 := Lib.hid (below_new w (.cells (mA m) 23))
  have hpi := Lib.hid (ptrs_info w.heap.size)
  go_enter Try.func15, Try.ntmps15
  go_wp2_with (first
    | (go_at_call 22; (with_reducible refine (inBits_any _ _).mono ?_); rintro e w1 ⟨rfl, hb1⟩; have hb2 := Lib.hid (below_next hb0.out hb1); have hm1 := Lib.hid (hm0.out.below hb1); clear hb1 hb0 hm0))
  go_loop [3, 7] (fun s i => ∃ k : Nat, k ≤ 8 ∧ i = .int .i64 k ∧ s = .int .u8 (part m k)) (fun _ i => 8 - (intOf i).toNat)
  case atStart => exact ⟨0, by omega, rfl, rfl⟩
  case round =>
    obtain ⟨k, hk, rfl, rfl⟩ := hrel
    by_cases hlt : k < 8
    · have hix := Lib.hid (fun w' => idx_at w.heap.size hlt w')
      have hcell := hm1.out.cell hlt
      cases hg : m.get k
      · rw [hg] at hcell
        go_wp2_with (with_reducible show wpList _ _ _ (⟨some 10, .index _ _ _, _, _, _, _⟩ :: _) _ _; go_must (refine wpList_idx rfl (u := .agg (ptrs w.heap.size)) (j := .int .i64 k) hix.out (.tmp 6) (.tmp 7) rfl rfl rfl ?_))
        refine ⟨⟨k + 1, by omega, by simp, ?_⟩, by simp [intOf]; omega⟩
        show Value.int .u8 (part m k) = .int .u8 (part m k + one (m.get k) (pow k))
        rw [hg]
        simp [one]
      · rw [hg] at hcell
        go_wp2_with (with_reducible show wpList _ _ _ (⟨some 10, .index _ _ _, _, _, _, _⟩ :: _) _ _; go_must (refine wpList_idx rfl (u := .agg (ptrs w.heap.size)) (j := .int .i64 k) hix.out (.tmp 6) (.tmp 7) rfl rfl rfl ?_))
        refine ⟨⟨k + 1, by omega, by simp, ?_⟩, by simp [intOf]; omega⟩
        show Value.int .u8 _ = .int .u8 (part m k + one (m.get k) (pow k))
        rw [or_part m hlt, hg]
        rfl
    · obtain rfl : k = 8 := by omega
      go_wp2
      go_ret
      exact ⟨by rw [part_all]; rfl, hb2.out⟩

/-- The first k flags of a number's bits. -/
def build (x : Int) : Nat → Md
  | 0 => none0
  | k + 1 => (build x k).set k ((ofBits x).get k)
theorem build_all (x : Int) : build x 8 = ofBits x := rfl
structure OfSt (w wr : World) (x : Int) (k : Nat) : Prop where
  res : MB wr w.heap.size none0
  own : MB wr (w.heap.size + 1) (build x k)
  below : Below w.heap.size w wr
theorem OfSt.below' {w wr w' : World} {x : Int} {k : Nat} (h : OfSt w wr x k) (hb : Below wr.heap.size wr w') : OfSt w w' x k :=
  ⟨h.res.below hb, h.own.below hb, h.below.trans (hb.mono h.below.size)⟩
theorem OfSt.next {w wr : World} {x : Int} {k : Nat} (h : OfSt w wr x k) (hk : k < 8) {b : Bool} (hb : b = (ofBits x).get k) : OfSt w (wr.setCell ⟨w.heap.size + 1, k, none⟩ (.bool b)) x (k + 1) := by
  have ho := Only.setCell wr ⟨w.heap.size + 1, k, none⟩ (.bool b)
  have hs := h.own.set hk b
  rw [hb] at hs ho ⊢
  exact ⟨h.res.only ho (by simp), hs, h.below.trans (ho.below h.below.size (by simp))⟩
set_option maxRecDepth 100000 in
theorem and_small : ∀ y : Fin 256, (bits .and .u8 (y.val : Int) 1 == 1) = decide ((y.val : Int) % 2 = 1) := by decide
theorem bit_at {x : Int} (h0 : 0 ≤ x) (h1 : x < 256) {k : Nat} (hk : k < 8) : (bits .and .u8 (x / 2 ^ k) 1 == 1) = (ofBits x).get k := by
  have e : (ofBits x).get k = decide (x / pow k % 2 = 1) := by
    rcases small (Nat.le_of_lt hk) with rfl | rfl | rfl | rfl | rfl | rfl | rfl | rfl | rfl
    all_goals first | omega | (show decide (_ = 1) = decide (x / _ % 2 = 1); simp [pow])
  obtain ⟨e2, h2⟩ := pow_nat k hk
  have e3 : (2 : Int) ^ k = pow k := by rw [e2]; simp
  rw [e, e3]
  have hp : 0 < pow k := by rw [e2]; exact_mod_cast Nat.two_pow_pos k
  have g0 : 0 ≤ x / pow k := Int.ediv_nonneg h0 (Int.le_of_lt hp)
  have g1 : x / pow k < 256 := Int.lt_of_le_of_lt (Int.ediv_le_self _ h0) h1
  generalize x / pow k = y at g0 g1
  have := and_small ⟨y.toNat, by omega⟩
  have ey : ((y.toNat : Nat) : Int) = y := by omega
  simpa [ey] using this
theorem of_start (w : World) (x : Int) : OfSt w ((w.alloc (.cells #[.bool false, .bool false, .bool false, .bool false, .bool false, .bool false, .bool false, .bool false] 23)).alloc (.cells #[.bool false, .bool false, .bool false, .bool false, .bool false, .bool false, .bool false, .bool false] 23)) x 0 :=
  ⟨two_m w none0, two_r w none0, below_two w none0⟩
set_option maxHeartbeats 2000000 in
theorem of_any (x : Int) (h0 : 0 ≤ x) (h1 : x < 256) (w : World) : Calls Try.prog 17 #[.int .u8 x] w (MIs (ofBits x) w) := by
  have hS0 := Lib.hid (of_start w x)
  go_enter Try.func17, Try.ntmps17
  go_wp2_with (first
    | (go_at_call 22; (with_reducible refine (inBits_any _ _).mono ?_); rintro e w1 ⟨rfl, hb1⟩; have hS1 := Lib.hid (hS0.out.below' hb1); clear hb1 hS0))
  go_loopw [7] (fun i wr => ∃ k : Nat, k ≤ 8 ∧ i = .int .i64 k ∧ Hid (OfSt w wr x k)) (fun i _ => 8 - (intOf i).toNat)
  case atStart => exact ⟨0, by omega, rfl, hS1⟩
  case round =>
    obtain ⟨k, hk, rfl, hS⟩ := hrel
    clear hS1
    by_cases hlt : k < 8
    · have hix := Lib.hid (fun w' => idx_at (w.heap.size + 1) hlt w')
      have hcell := hS.out.own.cell hlt
      have hfr := hS.out.own.free k
      go_wp2_with (with_reducible show wpList _ _ _ (⟨some 10, .index _ _ _, _, _, _, _⟩ :: _) _ _; go_must (refine wpList_idx rfl (u := .agg (ptrs (w.heap.size + 1))) (j := .int .i64 k) hix.out (.tmp 6) (.tmp 7) rfl rfl rfl ?_))
      exact ⟨⟨k + 1, by omega, by simp, Lib.hid (hS.out.next hlt (bit_at h0 h1 hlt))⟩, by simp [intOf]; omega⟩
    · obtain rfl : k = 8 := by omega
      have hinf := Lib.hid (mA_info (ofBits x))
      have hown := Lib.hid hS.out.own
      have hres := Lib.hid hS.out.res
      rw [build_all] at hown
      go_wp2_with (first
        | (with_reducible show wpList _ _ _ (⟨some 19, .load _ (.tmp 3), _, _, _, _⟩ :: _) _ _; go_must (refine wpList_load_row rfl _ (.tmp 3) rfl (w.heap.size + 1) rfl _ (mA (ofBits x)) (0, 0) _ (blk hown.out.blk) Try.underlying23 rfl hinf.out ?_))
        | (with_reducible show wpList _ _ _ (⟨none, .store _ (.tmp 2) _, _, _, _, _⟩ :: _) _ _; go_must (refine wpList_storeAll rfl _ (.tmp 2) (.tmp 19) rfl hres.out.blk (mA (ofBits x)) rfl rfl hinf.out rfl (mA_one _) ?_); intro w2 hd2 ho2))
      exact end_m rfl rfl rfl (MB.of hd2) ⟨rfl, hS.out.below.trans (ho2.below hS.out.below.size (by simp))⟩

end Go.Proofs.Ytnammlihpjjdoaa.Mds
