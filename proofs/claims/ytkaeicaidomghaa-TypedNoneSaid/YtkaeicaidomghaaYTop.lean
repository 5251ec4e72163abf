/-
  typed: the calls: New, Type, Take, Clear, Waits on a list that was made; all of them on one that was not.
-/
import Derived.Test.YtkaeicaidomghaaYWait
import Derived.Test.YtkaeicaidomghaaYRing
namespace Go.Proofs.Ytkaeicaidomghaa.Tpd
open Go Go.RowKit Go.Proofs.Ytkaeicaidomghaa.Com

theorem no_shape {w : World} {v : Value} (h : NoList w v) : ∃ a, v = .pointer a := by
  rcases h with rfl | ⟨d, last, p, f, n, rfl, hb⟩
  · exact ⟨_, rfl⟩
  · exact ⟨_, rfl⟩
theorem NoList.below {w w' : World} {v : Value} (h : NoList w v) (hb : Below w.heap.size w w') : NoList w' v := by
  rcases h with h | ⟨d, last, p, f, n, h, ht⟩
  · exact .inl h
  · exact .inr ⟨d, last, p, f, n, h, ht.below hb⟩
/-- Nothing is done. -/
def Idle (w : World) (e : Ending) (w' : World) : Prop := (∃ v, e = .returned v) ∧ w = w'
theorem type_no {w : World} {v : Value} (h : NoList w v) (r now : Int) : Calls Try.prog 6 #[v, .int .i32 r, .int .i64 now] w (Idle w) := by
  have hm := Lib.hid (isMade_no h)
  obtain ⟨a, rfl⟩ := no_shape h
  clear h
  go_enter Try.func6, Try.ntmps6
  go_wp2_with ((go_at_call 13; (with_reducible refine (hm.out).mono ?_); rintro e w' ⟨rfl, rfl⟩))
  go_end0
  exact ⟨⟨_, rfl⟩, rfl⟩
theorem take_no {w : World} {v : Value} (h : NoList w v) (r now : Int) : Calls Try.prog 7 #[v, .int .i32 r, .int .i64 now] w fun e w' => e = .returned (.bool false) ∧ w = w' := by
  have hm := Lib.hid (isMade_no h)
  obtain ⟨a, rfl⟩ := no_shape h
  clear h
  go_enter Try.func7, Try.ntmps7
  go_wp2_with ((go_at_call 13; (with_reducible refine (hm.out).mono ?_); rintro e w' ⟨rfl, rfl⟩))
  go_ret
  exact ⟨rfl, rfl⟩
theorem clear_no {w : World} {v : Value} (h : NoList w v) : Calls Try.prog 10 #[v] w (Idle w) := by
  have hm := Lib.hid (isMade_no h)
  obtain ⟨a, rfl⟩ := no_shape h
  clear h
  go_enter Try.func10, Try.ntmps10
  go_wp2_with ((go_at_call 13; (with_reducible refine (hm.out).mono ?_); rintro e w' ⟨rfl, rfl⟩))
  go_end0
  exact ⟨⟨_, rfl⟩, rfl⟩
theorem copy_no {w : World} {v : Value} (h : NoList w v) : Calls Try.prog 9 #[v] w fun e w' => e = .returned (.pointer none) ∧ w = w' := by
  have hm := Lib.hid (isMade_no h)
  obtain ⟨a, rfl⟩ := no_shape h
  clear h
  go_enter Try.func9, Try.ntmps9
  go_wp2_with ((go_at_call 13; (with_reducible refine (hm.out).mono ?_); rintro e w' ⟨rfl, rfl⟩))
  go_ret
  exact ⟨rfl, rfl⟩
theorem waits_no {w : World} {v : Value} (h : NoList w v) (now : Int) : Calls Try.prog 8 #[v, .int .i64 now] w fun e w' => e = .returned (.slice none 0 0) ∧ Below w.heap.size w w' := by
  obtain ⟨a, rfl⟩ := no_shape h
  have hB : Below w.heap.size w ((w.alloc (.cells #[.pointer a] 29)).alloc (.cells #[.int .i64 now] 3)) := ((Below.refl _ w).alloc (Nat.le_refl _) _).alloc (by simp) _
  have hm := Lib.hid (isMade_no (h.below hB))
  have c0 := ((Block.made w 29 #[.pointer a]).alloc (.cells #[.int .i64 now] 3)).cell 0 (v := .pointer a) rfl
  clear h
  go_enter Try.func8, Try.ntmps8
  go_wp2_with ((go_at_call 13; (with_reducible refine (hm.out).mono ?_); rintro e w' ⟨rfl, rfl⟩))
  go_ret
  exact ⟨rfl, hB⟩

set_option maxHeartbeats 2000000 in
theorem type_any {w : World} {d : Nat} {life last : Int} {ks : List Key} (h : TL w d life last ks) (hl : 1 ≤ life) (r now : Int) (h1 : last ≤ now) (h2 : now ≤ 1099511627776) :
    Calls Try.prog 6 #[.pointer (some ⟨d, 0, none⟩), .int .i32 r, .int .i64 now] w (Leaves w d life now (pushK ks (r, now))) := by
  have hm := Lib.hid (isMade_yes h hl)
  have hr := Lib.hid (reach_any h now h1 h2)
  have ha : Hid (∀ w1, TL w1 d life now ks → Calls Try.prog 15 #[.pointer (some ⟨d, 2, none⟩), .agg #[.int .i32 r, .int .i64 now]] w1.drew (Leaves w1.drew d life now (pushK ks (r, now)))) :=
    Lib.hid fun w1 h' => add_any (h'.only (only_drew [] w1) (by simp)) (r, now)
  have hend : Hid (∀ w1 w2, Only [d] w w1 → TL w2 d life now (pushK ks (r, now)) → Only [d] w1.drew w2 → TL w2 d life now (pushK ks (r, now)) ∧ Only [d] w w2) := Lib.hid fun w1 w2 a b c => ⟨b, a.trans ((only_drew [d] w1).trans c)⟩
  clear h
  go_enter Try.func6, Try.ntmps6
  go_upto_region 2 with (first
    | (go_at_call 13; (with_reducible refine (hm.out).mono ?_); rintro e w' ⟨rfl, rfl⟩)
    | (go_at_call 14; (with_reducible refine (hr.out).mono ?_); rintro e w1 ⟨⟨v1, rfl⟩, ht, ho⟩; have c1 := ht.clast; have ha1 := Lib.hid (ha.out w1 ht); have he1 := Lib.hid (fun w2 => hend.out w1 w2 ho); clear ht ho ha hend))
  go_region_with ((go_at_call 15; (with_reducible refine (ha1.out).mono ?_); rintro e w2 ⟨⟨v2, rfl⟩, hx, hy⟩; have hf := Lib.hid (he1.out w2 hx hy); clear hx hy))
  all_goals go_wp2
  all_goals go_end0
  all_goals exact ⟨⟨_, rfl⟩, hf.out⟩

/-- What Take leaves. -/
def Takes (w : World) (d : Nat) (life now : Int) (b : Bool) (ks : List Key) (e : Ending) (w' : World) : Prop := e = .returned (.bool b) ∧ TL w' d life now ks ∧ Only [d] w w'
set_option maxHeartbeats 4000000 in
theorem take_any {w : World} {d : Nat} {life last : Int} {ks : List Key} (h : TL w d life last ks) (hl : 1 ≤ life) (hl2 : life ≤ 1000) (htk : Tick ks) (r now : Int) (h1 : last ≤ now) (h2 : now ≤ 1099511627776) :
    Calls Try.prog 7 #[.pointer (some ⟨d, 0, none⟩), .int .i32 r, .int .i64 now] w (Takes w d life now (takeB life now ks r) (takeK life now ks r)) := by
  have hm := Lib.hid (isMade_yes h hl)
  have hr := Lib.hid (reach_any h now h1 h2)
  obtain ⟨g, hg⟩ : ∃ g, g = goneN life now ks := ⟨_, rfl⟩
  have hgl : g ≤ ks.length := by rw [hg]; exact goneN_le ..
  have ho1 : Hid (∀ w1, TL w1 d life now ks → Calls Try.prog 17 #[.pointer (some ⟨d, 0, none⟩)] w1.drew (fun e w2 => e = .returned (.int .i64 (g : Nat)) ∧ TL w2 d life now ks ∧ Only [d] w1 w2)) :=
    Lib.hid fun w1 h' => by
      have h3 := h'.only (only_drew [] w1) (by simp)
      refine (outlived_any h3 hl hl2 htk).mono ?_
      rintro e w2 ⟨rfl, hb⟩
      exact ⟨by rw [hg], h3.below hb, (only_drew [d] w1).trans (Only.of_below hb [d])⟩
  have hd1 : Hid (∀ w1 w2, TL w2 d life now ks → Only [d] w1 w2 → Calls Try.prog 16 #[.pointer (some ⟨d, 2, none⟩), .int .i64 (g : Nat)] w2 (fun e w3 => (∃ v, e = .returned v) ∧ TL w3 d life now (ks.drop g) ∧ Only [d] w1 w3)) :=
    Lib.hid fun w1 w2 h' ho => (drop_any h' g hgl).mono (fun e w3 ⟨hv, ht, hn⟩ => ⟨hv, ht, ho.trans hn⟩)
  have hf1 : Hid (∀ w1 w2, TL w2 d life now (ks.drop g) → Only [d] w1 w2 → Calls Try.prog 18 #[.pointer (some ⟨d, 0, none⟩), .int .i32 r] w2 (fun e w3 => e = .returned (.bool (takeB life now ks r)) ∧ TL w3 d life now (ks.drop g) ∧ Only [d] w1 w3)) :=
    Lib.hid fun w1 w2 h' ho => (isFirst_any h' r).mono (fun e w3 ⟨he, hb⟩ => ⟨by rw [he, takeB, hg], h'.below hb, ho.trans (Only.of_below hb [d])⟩)
  have hK0 : takeB life now ks r = false → takeK life now ks r = ks.drop g := fun h => by unfold takeK; unfold takeB at h; rw [h, ← hg]; simp
  have hK1 : takeB life now ks r = true → takeK life now ks r = (ks.drop g).drop 1 ∧ 1 ≤ (ks.drop g).length := fun h => by
    unfold takeK
    unfold takeB at h
    rw [h, ← hg]
    rw [← hg] at h
    refine ⟨by simp, ?_⟩
    cases hc : ks.drop g with
    | nil => rw [hc] at h; cases h
    | cons a l => simp
  have hd2 : Hid (∀ w1 w2, takeB life now ks r = true → TL w2 d life now (ks.drop g) → Only [d] w1 w2 → Calls Try.prog 16 #[.pointer (some ⟨d, 2, none⟩), .int .i64 1] w2 (fun e w3 => (∃ v, e = .returned v) ∧ TL w3 d life now (takeK life now ks r) ∧ Only [d] w1 w3)) :=
    Lib.hid fun w1 w2 hb h' ho => (drop_any h' 1 (hK1 hb).2).mono (fun e w3 ⟨hv, ht, hn⟩ => ⟨hv, by rw [(hK1 hb).1]; exact ht, ho.trans hn⟩)
  obtain ⟨b, hb⟩ : ∃ b, b = takeB life now ks r := ⟨_, rfl⟩
  rw [← hb] at hf1 hd2 ⊢
  have hK0' : Hid (b = false → takeK life now ks r = ks.drop g) := Lib.hid (by rw [hb]; exact hK0)
  clear h hg hgl hK0 hK1 hb htk
  generalize takeK life now ks r = kt at hd2 hK0' ⊢
  generalize ks.drop g = kd at hd1 hf1 hd2 hK0'
  go_enter Try.func7, Try.ntmps7
  go_upto_region 4 with (first
    | (go_at_call 13; (with_reducible refine (hm.out).mono ?_); rintro e w' ⟨rfl, rfl⟩)
    | (go_at_call 14; (with_reducible refine (hr.out).mono ?_); rintro e w1 ⟨⟨v1, rfl⟩, ht, ho⟩; have ho2 := Lib.hid (ho1.out w1 ht); have ho := Lib.hid ho; clear ht ho1))
  go_region_with (first
    | (go_at_call 17; (with_reducible refine (ho2.out).mono ?_); rintro e w2 ⟨rfl, ht, hn⟩; have hd3 := Lib.hid (hd1.out w1 w2 ht hn); clear ht hn)
    | (go_at_call 16; (with_reducible refine (hd3.out).mono ?_); rintro e w3 ⟨⟨v3, rfl⟩, ht, hn⟩; have hf2 := Lib.hid (hf1.out w1 w3 ht hn); clear ht hn hd3))
  all_goals
    cases b with
    | false =>
      have hfin : Hid (∀ w4, TL w4 d life now kd → Only [d] w1 w4 → TL w4 d life now kt ∧ Only [d] w w4) := Lib.hid fun w4 h4 h5 => ⟨by rw [hK0'.out rfl]; exact h4, ho.out.trans h5⟩
      clear hK0' hd1 hd2 hf1
      go_wp2_with ((go_at_call 18; (with_reducible refine (hf2.out).mono ?_); rintro e w4 ⟨rfl, ht, hn⟩; have hq := Lib.hid (hfin.out w4 ht hn); clear ht hn))
      go_ret
      exact ⟨rfl, hq.out.1, hq.out.2⟩
    | true =>
      have hd4 := Lib.hid (fun w4 => hd2.out w1 w4 rfl)
      clear hK0' hd1 hd2 hf1
      go_wp2_with (first
        | (go_at_call 18; (with_reducible refine (hf2.out).mono ?_); rintro e w4 ⟨rfl, ht, hn⟩; have hd5 := Lib.hid (hd4.out w4 ht hn); clear ht hn hd4)
        | (go_at_call 16; (with_reducible refine (hd5.out).mono ?_); rintro e w5 ⟨⟨v5, rfl⟩, ht, hn⟩; have hq := Lib.hid (show TL w5 d life now kt ∧ Only [d] w w5 from ⟨ht, ho.out.trans hn⟩); clear ht hn))
      go_ret
      exact ⟨rfl, hq.out.1, hq.out.2⟩

end Go.Proofs.Ytkaeicaidomghaa.Tpd
