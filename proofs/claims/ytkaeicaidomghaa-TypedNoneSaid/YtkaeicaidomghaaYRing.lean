/-
  typed: keys taken away from the first one on, a key put behind all others, the greatest tick.
-/
import Derived.Test.YtkaeicaidomghaaYLeaf
import Derived.Deep.RegionWith
import Derived.Deep.CutRange
import Derived.Deep.RegionHeld3
import Derived.Deep.RegionLaw
namespace Go.Proofs.Ytkaeicaidomghaa.Tpd
open Go Go.RowKit Go.Proofs.Ytkaeicaidomghaa.Com

theorem LB.put {w : World} {d : Nat} {life last : Int} {p : Pl} {f n : Nat} (h : LB w d life last p f n) {i : Nat} (hi : i < 64) (x : Key) :
    LB ((w.setCell ⟨d, 2 + i * 2, none⟩ (.int .i32 x.1)).setCell ⟨d, 2 + i * 2 + 1, none⟩ (.int .i64 x.2)) d life last (setP p i x) f n := by
  have h1 := Block.set (Block.set h (2 + i * 2) (.int .i32 x.1)) (2 + i * 2 + 1) (.int .i64 x.2)
  rw [List.setIfInBounds_toArray, List.setIfInBounds_toArray, set_pl life last p f n hi x] at h1
  exact h1
theorem only_put (w : World) (d i j : Nat) (u v : Value) : Only [d] w ((w.setCell ⟨d, i, none⟩ u).setCell ⟨d, j, none⟩ v) := (Only.setCell w ⟨d, i, none⟩ u).trans (Only.setCell _ ⟨d, j, none⟩ v)

theorem reach_any {w : World} {d : Nat} {life last : Int} {ks : List Key} (h : TL w d life last ks) (now : Int) (h1 : last ≤ now) (h2 : now ≤ 1099511627776) :
    Calls Try.prog 14 #[.pointer (some ⟨d, 0, none⟩), .int .i64 now] w (Leaves w d life now ks) := by
  obtain ⟨p, f, hf, hn, hb, hs⟩ := h
  have h0 := hb.clast
  have hfz := hb.free 1
  have e1 : min now 1099511627776 = now := by omega
  have e2 : max last now = now := by omega
  have hb' := Lib.hid hb
  clear hb
  go_enter Try.func14, Try.ntmps14
  have hres : Leaves w d life now ks (.returned (.tuple #[])) (w.setCell ⟨d, 1, none⟩ (.int .i64 now)) := ⟨⟨_, rfl⟩, ⟨p, f, hf, hn, hb'.out.set1 1 _ (set_last ..), hs⟩, Only.setCell w ⟨d, 1, none⟩ _⟩
  replace hres := Lib.hid hres
  go_wp2
  all_goals go_end0
  · exact hres.out
  · have e : last = now := by omega
    subst e
    exact hres.out

set_option maxHeartbeats 2000000 in
theorem drop_any {w : World} {d : Nat} {life last : Int} {ks : List Key} (h : TL w d life last ks) (k : Nat) (hk : k ≤ ks.length) :
    Calls Try.prog 16 #[.pointer (some ⟨d, 2, none⟩), .int .i64 (k : Int)] w (Leaves w d life last (ks.drop k)) := by
  obtain ⟨p, f, hf, hn, hb, hs⟩ := h
  obtain ⟨N, hN⟩ : ∃ N, N = ks.length := ⟨_, rfl⟩
  rw [← hN] at hb hn hk
  have hsd := Lib.hid (hs.drop (by omega) k (by omega))
  have hN' := Lib.hid hN
  clear hs hN
  go_enter Try.func16, Try.ntmps16
  go_wp2
  go_loopw [6] (fun i wr => ∃ j : Nat, j ≤ k ∧ i = .int .i64 j ∧ Hid (LB wr d life last (wipe p f j) f N ∧ Only [d] w wr)) (fun i _ => k - (intOf i).toNat)
  case atStart => exact ⟨0, Nat.zero_le _, rfl, Lib.hid ⟨hb, Only.refl _ _⟩⟩
  case round =>
    obtain ⟨j, hj, rfl, hst⟩ := hrel
    by_cases hlt : j < k
    · have hP := Lib.hid (place_any (hst.out.1.only (only_drew [] wr) (by simp)) hf j (by omega))
      have hq := pos_lt f j
      have c0 := hst.out.1.r hq
      have c1 := hst.out.1.t hq
      have z0 := hst.out.1.free (2 + pos f j * 2)
      have z1 := hst.out.1.free (2 + pos f j * 2 + 1)
      go_wp2
      go_region_with ((go_at_call 21; (with_reducible refine (hP.out).mono ?_); rintro e w' ⟨rfl, rfl⟩))
      all_goals go_wp2
      go_roundw
      case rel => exact ⟨j + 1, by omega, by simp, Lib.hid ⟨LB.put (w := wr.drew) (hst.out.1.only (only_drew [] wr) (by simp)) hq (0, 0), hst.out.2.trans ((only_drew [d] wr).trans (only_put ..))⟩⟩
      case measure => simp [intOf]; omega
    · obtain rfl : j = k := by omega
      have hP := Lib.hid (place_any hst.out.1 hf j (by omega))
      have hq := pos_lt f j
      have c2 := hst.out.1.cnt
      have c3 := hst.out.1.fst
      have z0 := hst.out.1.free 130
      have z1 := hst.out.1.free 131
      have hsub : ((N : Int) - (j : Int)) = ((N - j : Nat) : Int) := by omega
      have hw2 : wrap64 ((N - j : Nat) : Int) = ((N - j : Nat) : Int) := wrap_in (by omega) (by omega)
      have hres : Leaves w d life last (ks.drop j) (.returned (.tuple #[])) ((wr.setCell ⟨d, 130, none⟩ (.int .i64 ((pos f j : Nat) : Int))).setCell ⟨d, 131, none⟩ (.int .i64 ((N - j : Nat) : Int))) := by
        refine ⟨⟨_, rfl⟩, ⟨_, pos f j, pos_lt f j, ?_, ?_, hsd.out⟩, hst.out.2.trans (only_put ..)⟩
        · rw [List.length_drop, ← hN'.out]; omega
        · rw [List.length_drop, ← hN'.out]
          exact (hst.out.1.set1 130 _ (set_f ..)).set1 131 _ (set_n ..)
      replace hres := Lib.hid hres
      clear hsd hb
      go_wp2_with ((go_at_call 21; (with_reducible refine (hP.out).mono ?_); rintro e w' ⟨rfl, rfl⟩))
      go_end0
      exact hres.out

set_option maxHeartbeats 4000000 in
theorem add_any {w : World} {d : Nat} {life last : Int} {ks : List Key} (h : TL w d life last ks) (x : Key) :
    Calls Try.prog 15 #[.pointer (some ⟨d, 2, none⟩), .agg #[.int .i32 x.1, .int .i64 x.2]] w (Leaves w d life last (pushK ks x)) := by
  have hbn := below_new w (.cells #[.int .i32 x.1, .int .i64 x.2] 23)
  have hbx := Block.made w 23 #[.int .i32 x.1, .int .i64 x.2]
  have hT := h.below hbn
  have hlt := h.lt
  have hne : d ≠ w.heap.size := by omega
  clear h
  generalize hw0 : w.alloc (.cells #[.int .i32 x.1, .int .i64 x.2] 23) = w0 at hbn hbx hT
  -- a full ring first drops its first key
  have hd : ∃ ks' : List Key, ks'.length < 64 ∧ pushK ks x = ks' ++ [x] ∧ (ks.length = 64 → ks' = ks.drop 1) ∧ (ks.length ≠ 64 → ks' = ks) := by
    have := hT.len
    by_cases e : ks.length = 64
    · exact ⟨ks.drop 1, by rw [List.length_drop]; omega, by unfold pushK; rw [if_pos e], fun _ => rfl, fun h => absurd e h⟩
    · exact ⟨ks, by omega, by unfold pushK; rw [if_neg e], fun h => absurd h e, fun _ => rfl⟩
  obtain ⟨ks', h64, hpk, hk1, hk2⟩ := hd
  rw [hpk]
  have hcnt : w0.cell? ⟨d, 131, none⟩ = some (.int .i64 (ks.length : Nat)) := by
    obtain ⟨p, f, h1, h2, h3, h4⟩ := hT
    exact h3.cnt
  have hend : ∀ w1, TL w1 d life last ks' → Only [d] w0 w1 → ∃ p f, Hid (f < 64 ∧ LB w1 d life last p f ks'.length ∧ Shows p f ks' ∧ Block w1 w.heap.size 23 #[.int .i32 x.1, .int .i64 x.2] ∧ Only [d] w0 w1) := fun w1 h1 h2 => by
    obtain ⟨p, f, h3, h4, h5, h6⟩ := h1
    exact ⟨p, f, Lib.hid ⟨h3, h5, h6, hbx.only h2 (by simp; omega), h2⟩⟩
  replace hend := Lib.hid hend
  have hD : ks.length = 64 → Hid (Calls Try.prog 16 #[.pointer (some ⟨d, 2, none⟩), .int .i64 1] w0 (Leaves w0 d life last ks')) := fun e => Lib.hid (by
    have := drop_any hT 1 (by omega)
    rw [← hk1 e] at this
    exact this)
  have hdone : ∀ w1 p f, Hid (f < 64 ∧ LB w1 d life last p f ks'.length ∧ Shows p f ks' ∧ Block w1 w.heap.size 23 #[.int .i32 x.1, .int .i64 x.2] ∧ Only [d] w0 w1) →
      Leaves w d life last (ks' ++ [x]) (.returned (.tuple #[])) (((w1.drew.setCell ⟨d, 2 + pos f ks'.length * 2, none⟩ (.int .i32 x.1)).setCell ⟨d, 2 + pos f ks'.length * 2 + 1, none⟩ (.int .i64 x.2)).setCell ⟨d, 131, none⟩ (.int .i64 ((ks'.length + 1 : Nat) : Int))) := fun w1 p f hh => by
    obtain ⟨h1, h2, h3, h4, h5⟩ := hh.out
    have h6 := LB.put (w := w1.drew) (h2.only (only_drew [] w1) (by simp)) (pos_lt f ks'.length) x
    refine ⟨⟨_, rfl⟩, ⟨_, f, h1, ?_, ?_, h3.push h64 x⟩, ?_⟩
    · simp; omega
    · rw [List.length_append, List.length_singleton]
      exact h6.set1 131 _ (set_n ..)
    · exact (Only.of_below hbn [d]).trans (h5.trans ((only_drew [d] w1).trans ((only_put ..).trans (Only.setCell _ ⟨d, 131, none⟩ _))))
  replace hdone := Lib.hid hdone
  by_cases e64 : ks.length = 64
  · have hD' := hD e64
    have hle : ((ks.length : Nat) : Int) = 64 := by omega
    rw [hle] at hcnt
    clear hD hk1 hk2 hT hbx e64 hle hpk
    go_enter Try.func15, Try.ntmps15
    go_upto_region 3 with ((go_at_call 16; (with_reducible refine (hD'.out).mono ?_); rintro e w1 ⟨⟨v1, rfl⟩, ht, ho⟩; obtain ⟨p, f, hh⟩ := hend.out w1 ht ho; clear ht ho))
    clear hcnt hD' hbn hne hlt hw0
    have q0 := hh.out.2.1
    have q1 := hh.out.2.2.2.1
    have hP := Lib.hid (place_any (w := w1.drew) (q0.only (only_drew [] w1) (by simp)) hh.out.1 ks'.length (by omega))
    have c1 := q0.cnt
    have c2 := q0.r (pos_lt f ks'.length)
    have c3 := q0.t (pos_lt f ks'.length)
    have c4 := q1.cell 0 (v := .int .i32 x.1) rfl
    have c5 := q1.cell 1 (v := .int .i64 x.2) rfl
    have z1 := q0.free (2 + pos f ks'.length * 2)
    have z2 := q0.free (2 + pos f ks'.length * 2 + 1)
    have z3 := q0.free 131
    have hlt64 := pos_lt f ks'.length
    have c6 : ((w1.drew.setCell ⟨d, 2 + pos f ks'.length * 2, none⟩ (.int .i32 x.1)).setCell ⟨d, 2 + pos f ks'.length * 2 + 1, none⟩ (.int .i64 x.2)).cell? ⟨d, 131, none⟩ = some (.int .i64 (ks'.length : Nat)) := (LB.put (w := w1.drew) (q0.only (only_drew [] w1) (by simp)) hlt64 x).cnt
    have z6 : ((w1.drew.setCell ⟨d, 2 + pos f ks'.length * 2, none⟩ (.int .i32 x.1)).setCell ⟨d, 2 + pos f ks'.length * 2 + 1, none⟩ (.int .i64 x.2)).frozen? ⟨d, 131, none⟩ = false := (LB.put (w := w1.drew) (q0.only (only_drew [] w1) (by simp)) hlt64 x).free 131
    have hw3 : wrap64 (((ks'.length : Nat) : Int) + 1) = ((ks'.length + 1 : Nat) : Int) := by rw [wrap_in (by omega) (by omega)]; omega
    have hfin := Lib.hid (hdone.out w1 p f hh)
    clear q0 q1 hh hdone hend
    go_region_with ((go_at_call 21; (with_reducible refine (hP.out).mono ?_); rintro e w' ⟨rfl, rfl⟩))
    all_goals go_wp2
    all_goals go_end0
    all_goals exact hfin.out
  · have ht : TL w0 d life last ks' := by rw [hk2 e64]; exact hT
    have hne64 : (((ks.length : Nat) : Int) == 64) = false := by simp; omega
    obtain ⟨p, f, hh⟩ := hend.out w0 ht (Only.refl _ _)
    clear hD hk1 hk2 hT hbx e64 hpk ht
    go_enter Try.func15, Try.ntmps15
    go_upto_region 3 with (fail)
    clear hcnt hbn hne hlt hw0 hne64
    have q0 := hh.out.2.1
    have q1 := hh.out.2.2.2.1
    have hP := Lib.hid (place_any (w := w0.drew) (q0.only (only_drew [] w0) (by simp)) hh.out.1 ks'.length (by omega))
    have c1 := q0.cnt
    have c2 := q0.r (pos_lt f ks'.length)
    have c3 := q0.t (pos_lt f ks'.length)
    have c4 := q1.cell 0 (v := .int .i32 x.1) rfl
    have c5 := q1.cell 1 (v := .int .i64 x.2) rfl
    have z1 := q0.free (2 + pos f ks'.length * 2)
    have z2 := q0.free (2 + pos f ks'.length * 2 + 1)
    have z3 := q0.free 131
    have hlt64 := pos_lt f ks'.length
    have c6 : ((w0.drew.setCell ⟨d, 2 + pos f ks'.length * 2, none⟩ (.int .i32 x.1)).setCell ⟨d, 2 + pos f ks'.length * 2 + 1, none⟩ (.int .i64 x.2)).cell? ⟨d, 131, none⟩ = some (.int .i64 (ks'.length : Nat)) := (LB.put (w := w0.drew) (q0.only (only_drew [] w0) (by simp)) hlt64 x).cnt
    have z6 : ((w0.drew.setCell ⟨d, 2 + pos f ks'.length * 2, none⟩ (.int .i32 x.1)).setCell ⟨d, 2 + pos f ks'.length * 2 + 1, none⟩ (.int .i64 x.2)).frozen? ⟨d, 131, none⟩ = false := (LB.put (w := w0.drew) (q0.only (only_drew [] w0) (by simp)) hlt64 x).free 131
    have hw3 : wrap64 (((ks'.length : Nat) : Int) + 1) = ((ks'.length + 1 : Nat) : Int) := by rw [wrap_in (by omega) (by omega)]; omega
    have hfin := Lib.hid (hdone.out w0 p f hh)
    clear q0 q1 hh hdone hend
    go_region_with ((go_at_call 21; (with_reducible refine (hP.out).mono ?_); rintro e w' ⟨rfl, rfl⟩))
    all_goals go_wp2
    all_goals go_end0
    all_goals exact hfin.out
end Go.Proofs.Ytkaeicaidomghaa.Tpd
