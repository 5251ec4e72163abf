/-
  The reference's Digit and At; are two rows of numbers alike?
-/
import Derived.Test.YtgpoboolonkmcaaPRef
import Derived.Deep.AppendLies
namespace Go.Proofs.Ytgpoboolonkmcaa.Par
open Go Go.RowKit Go.Proofs.Ytgpoboolonkmcaa.Com

theorem own_form {w : World} {B : Nat} {e : TypeId} {k : IntKind} {v : Value} {l : List Int} (h : Own w B e k v l) (hl : 0 < l.length) :
    ∃ g cap, v = .slice (some ⟨g, 0, none⟩) l.length cap ∧ B ≤ g ∧ (∀ i x, l[i]? = some x → w.cell? ⟨g, i, none⟩ = some (.int k x)) ∧ ∀ i, w.frozen? ⟨g, i, none⟩ = false := by
  have hs := h.shape
  rcases h.2 with ⟨_, hn⟩ | ⟨g, cap, cur, rfl, hg, _⟩
  · omega
  · refine ⟨g, cap, rfl, hg, fun i x hx => ?_, fun i => World.ownsRow.frozenAt h i⟩
    obtain ⟨ao, c', e', _, _, hn⟩ := hs
    cases e'
    obtain ⟨ad, e', _, hc⟩ := hn i x hx
    cases e'
    rw [Addr.add_lit, Nat.zero_add] at hc
    exact hc
theorem own_stored {w : World} {B : Nat} {e : TypeId} {k : IntKind} {g n cap : Nat} {l : List Int} (h : Own w B e k (.slice (some ⟨g, 0, none⟩) n cap) l) (hn : n = l.length) (i : Nat) (x : Int) :
    Own (w.setCell ⟨g, i, none⟩ (.int k x)) B e k (.slice (some ⟨g, 0, none⟩) n cap) (l.set i x) := by
  subst hn
  have := (World.ownsRow.stored h i (.int k x)).1
  unfold Own
  rw [List.length_set, List.map_set]
  exact this
/-- A number of the row is stored. -/
theorem ref_put {w : World} {B r g n cap : Nat} {L : Lst} (h : RefIn w B r (.slice (some ⟨g, 0, none⟩) n cap) L) (hn : n = L.n.length) (i : Nat) (x : Int) (o : Bool) (ho : o = L.over) :
    RefStep w B r (.slice (some ⟨g, 0, none⟩) n cap) ⟨L.n.set i x, o⟩ (.slice (some ⟨g, 0, none⟩) n cap) (w.setCell ⟨g, i, none⟩ (.int .i64 x)) := by
  subst ho
  have hap := h.apart
  exact ⟨⟨h.blk.only (Only.setCell w ⟨g, i, none⟩ _) (by simpa [Value.ownBlock, eq_comm] using hap), own_stored h.own hn i x, h.low⟩, (Only.setCell w ⟨g, i, none⟩ _).mono (by simp [Value.ownBlock]), .inl rfl⟩
theorem RefStep.drew {w : World} {B r : Nat} {v : Value} {L : Lst} (h : RefIn w B r v L) (n : Nat) : RefStep w B r v L v (w.drewN n) := ⟨⟨h.blk, h.own, h.low⟩, Only.drewN _ _ _, .inl rfl⟩

set_option maxHeartbeats 1000000 in
theorem refDigit_any (L : Lst) (hL : L.Ok) (x : Int) (B r : Nat) (v : Value) (w : World) (hB : B ≤ w.heap.size) (h : RefIn w B r v L) :
    Calls Try.prog 14 #[.pointer (some ⟨r, 0, none⟩), .int .i64 x] w (RefTurned w B r v (digitF L x)) := by
  have c1 := h.c1
  by_cases h0 : x < 0
  · rw [digit_skip (Or.inl h0)]
    have h' := Lib.hid (RefStep.refl h)
    clear h
    go_enter Try.func14, Try.ntmps14
    go_wp2
    go_end0
    exact ⟨⟨_, rfl⟩, _, h'.out⟩
  by_cases h1 : 9 < x
  · rw [digit_skip (Or.inr (Or.inl h1))]
    have h' := Lib.hid (RefStep.refl h)
    clear h
    go_enter Try.func14, Try.ntmps14
    go_wp2
    go_end0
    exact ⟨⟨_, rfl⟩, _, h'.out⟩
  by_cases hov : L.over = true
  · rw [digit_skip (Or.inr (Or.inr hov))]
    rw [hov] at c1
    have h' := Lib.hid (RefStep.refl h)
    clear h
    go_enter Try.func14, Try.ntmps14
    go_wp2
    go_end0
    exact ⟨⟨_, rfl⟩, _, h'.out⟩
  replace hov : L.over = false := by simpa using hov
  have h0' : 0 ≤ x := by omega
  have h1' : x ≤ 9 := by omega
  rw [digit_put h0' h1' hov]
  have hc0 := h.c0
  rw [hov] at c1
  by_cases he : L.n.length = 0
  · have hE : Hid (putF (begF L.n) x = [x]) := by
      show _ = _
      rw [beg_none he]
      show [capF (0 * 10 + x)] = [x]
      unfold capF
      rw [if_neg (by omega)]
      simp
    obtain ⟨n, o⟩ := L
    have hn : n = [] := List.eq_nil_of_length_eq_zero he
    subst hn
    have ho : o = false := hov
    subst ho
    have hown := h.own
    obtain ⟨ao, cap, rfl, _, _, hnn⟩ := hown.shape
    simp only [List.length_nil] at hc0 hown hnn h
    clear he h0 h1
    go_enter Try.func14, Try.ntmps14
    go_wp2_with (first
      | (with_reducible show wpList _ _ _ (⟨some 29, .call _, _, _, _, _⟩ :: _) _ _; go_must (refine wpList_app elemI rfl (.tmp 27) (.tmp 28) rfl B (.slice ao 0 cap) [] [0] _ (w.heap.size + 1) 1 rfl rfl (hown.alloc _) (Nums.one _ _ _ _) ?_ ?_ ?_ ?_; (simp; omega); (simp); (simp [maxLen]); intro v1 w1 hown1 ho1 hat1; obtain ⟨g, p1, rfl, _, _, _⟩ := own_form hown1 (by simp); have hb1 := h.app_only ho1; simp only [List.nil_append, List.length_singleton] at hown1 hat1))
      | (with_reducible show wpList _ _ _ (⟨none, .store _ (.tmp 31) _, _, _, _, _⟩ :: _) _ _; go_must (refine wpList_refPut rfl (.tmp 31) (.tmp 29) rfl hb1 rfl rfl ?_); intro w2 hb2 ho2; have hs2 := ref_app (m := [0]) h hown1 ho1 hat1 hb2 ho2; have c2 := hs2.ref.c0))
    obtain ⟨g', p', e', _, hcells, hfree⟩ := own_form hs2.ref.own (by simp)
    cases e'
    have hx := hcells 0 0 rfl
    have hfj := hfree 0
    have hset := fun n y => Lib.hid (hs2.trans ((RefStep.drew hs2.ref n).trans (ref_put (w := w2.drewN n) ⟨hs2.ref.blk, hs2.ref.own, hs2.ref.low⟩ rfl 0 y false rfl)))
    clear hown1 ho1 hat1 hb1 hb2 ho2 hs2 hcells hfree hown hnn h hc0 c1
    go_quiet (fail)
    go_wp2
    go_region
    go_end0
    refine ⟨⟨_, rfl⟩, .slice (some ⟨g, 0, none⟩) 1 p1, ?_⟩
    rw [hE.out]
    exact (hset _ _).out
  · have hp : 0 < L.n.length := by omega
    rw [beg_of_pos hp]
    have hl0 := hL.lo _ (last_mem hp)
    have hl1 := hL.hi _ (last_mem hp)
    obtain ⟨j, hj⟩ : ∃ j, L.n.length = j + 1 := ⟨L.n.length - 1, by omega⟩
    have hj31 : j ≤ 31 := by have := hL.len; omega
    have hput : Hid (putF L.n x = L.n.set j (capF (lastF L.n * 10 + x))) := by
      show _ = _
      unfold putF
      rw [hj, Nat.add_sub_cancel]
    obtain ⟨g, cap, rfl, hg, hcells, hfree⟩ := own_form h.own hp
    have hx := hcells j _ (by rw [List.getElem?_eq_getElem (by omega), ← getD_at (by omega)])
    have hlast : L.n.getD j 0 = lastF L.n := by unfold lastF; rw [hj, Nat.add_sub_cancel]
    have hfj := hfree j
    have hset := fun n y => Lib.hid ((RefStep.drew h n).trans (ref_put (w := w.drewN n) ⟨h.blk, h.own, h.low⟩ rfl j y false hov.symm))
    rw [hlast] at hx
    rw [hj] at hc0 hset ⊢
    generalize lastF L.n = y at hx hl0 hl1 hput
    clear h h0 h1 he hp hcells hfree hlast hj
    have w1 : IntKind.i64.wrap (j : Int) = j := IntWalk.i64_in _ (by omega)
    have w2 : IntKind.i64.wrap (y * 10) = y * 10 := IntWalk.i64_in _ (by omega)
    have w3 : IntKind.i64.wrap (y * 10 + x) = y * 10 + x := IntWalk.i64_in _ (by omega)
    have b1 : (0 : Int) ≤ (j : Int) := by omega
    have b2 : (j : Int) < (j : Int) + 1 := by omega
    have b3 : (j : Int) + 1 - 1 = j := by omega
    have b4 : (j : Int) < ((j + 1 : Nat) : Int) := by omega
    have b5 : ((j : Int)).toNat = j := by omega
    have w4 : IntKind.i64.wrap ((j : Int) + 1 - 1) = j := by rw [b3]; exact w1
    go_enter Try.func14, Try.ntmps14
    go_wp2
    go_quiet (fail)
    go_wp2
    · have hcap : capF (y * 10 + x) = 65535 := if_pos (by assumption)
      go_region
      go_end0
      refine ⟨⟨_, rfl⟩, .slice (some ⟨g, 0, none⟩) (j + 1) cap, ?_⟩
      rw [hput.out, hcap]
      exact (hset _ _).out
    · have hcap : capF (y * 10 + x) = y * 10 + x := if_neg (by omega)
      go_region
      go_end0
      refine ⟨⟨_, rfl⟩, .slice (some ⟨g, 0, none⟩) (j + 1) cap, ?_⟩
      rw [hput.out, hcap]
      exact (hset _ _).out

set_option maxHeartbeats 400000 in
theorem refAt_any (L : Lst) (hL : L.n.length ≤ 32) (i none : Int) (B r : Nat) (v : Value) (w : World) (h : RefIn w B r v L) :
    Calls Try.prog 19 #[.pointer (some ⟨r, 0, .none⟩), .int .i64 i, .int .i64 none] w fun e w' => e = .returned (.int .i64 (atF L.n i none)) ∧ w' = w := by
  have c0 := h.c0
  by_cases h0 : i < 0
  · rw [at_none (Or.inl h0)]
    clear h
    go_enter Try.func19, Try.ntmps19
    go_wp2
    go_ret
    exact ⟨rfl, rfl⟩
  by_cases h1 : (L.n.length : Int) ≤ i
  · rw [at_none (Or.inr h1)]
    obtain ⟨ao, cap, rfl, _, _, hnn⟩ := h.own.shape
    generalize L.n.length = k at c0 hL h1
    clear h hnn
    go_enter Try.func19, Try.ntmps19
    go_wp2
    go_ret
    exact ⟨rfl, rfl⟩
  obtain ⟨j, rfl⟩ : ∃ j : Nat, i = j := ⟨i.toNat, by omega⟩
  have hj : j < L.n.length := by omega
  obtain ⟨g, cap, rfl, hg, hcells, hfree⟩ := own_form h.own (by omega)
  have hc := hcells j _ (List.getElem?_eq_getElem hj)
  have ha := at_in (n := L.n) (i := (j : Int)) (none := none) (by omega) (by omega)
  simp only [Int.toNat_natCast] at ha
  generalize L.n[j] = x at hc ha
  generalize L.n.length = k at c0 hL h1 hj
  clear h h0 hcells hfree
  by_cases hx : x = 0
  · subst hx
    replace ha := Lib.hid ha
    go_enter Try.func19, Try.ntmps19
    go_wp2
    go_ret
    exact ⟨ret_int (by rw [ha.out]; simp), rfl⟩
  · have hx' : (x == 0) = false := by simpa using hx
    rw [if_neg hx] at ha
    replace ha := Lib.hid ha
    go_enter Try.func19, Try.ntmps19
    go_wp2
    go_ret
    exact ⟨ret_int ha.out.symm, rfl⟩

theorem same_yes (l : List Int) (ao bo : Option Addr) (c d : Nat) (w : World) (B : Nat) (hl : l.length ≤ 1048576) (h1 : Nums w B .i64 ao l) (h2 : Nums w B .i64 bo l) :
    Calls Try.prog 16 #[.slice ao l.length c, .slice bo l.length d] w fun e w' => e = .returned (.bool true) ∧ ∃ n, w' = w.drewN n := by
  go_enter Try.func16, Try.ntmps16
  go_wp2
  go_loopw [5] (fun i wr => ∃ k n : Nat, k ≤ l.length ∧ i = .int .i64 k ∧ wr = w.drewN n) (fun i _ => l.length - (intOf i).toNat)
  case atStart => exact ⟨0, 0, by omega, rfl, rfl⟩
  case round =>
    obtain ⟨k, n, hk, rfl, rfl⟩ := hrel
    by_cases hlt : k < l.length
    · obtain ⟨ad, rfl, _, hc1⟩ := h1.at hlt
      obtain ⟨bd, rfl, _, hc2⟩ := h2.at hlt
      clear h1 h2
      generalize l[k] = x at hc1 hc2
      go_wp2
      go_quiet (fail)
      go_wp2
      go_roundw
      case rel => exact ⟨k + 1, _, by omega, by go_num, rfl⟩
      case measure => simp [intOf]; omega
    · go_wp2
      go_ret
      exact ⟨rfl, _, rfl⟩

end Go.Proofs.Ytgpoboolonkmcaa.Par
