/-
  frontier: New, Copy, On; the table of what takes an event; Feed.
-/
import Derived.Test.YtbibnnbmiefcgaaFLeaf
import Derived.Laws.EntriesVeiled
import Derived.Deep.CutRange
import Derived.Deep.DeepMust
import Derived.Deep.RegionHeld3
import Derived.Deep.RegionLaw
namespace Go.Proofs.Ytbibnnbmiefcgaa.Fro
open Go Go.RowKit Go.Proofs.Ytbibnnbmiefcgaa.Com

theorem new_any (w : World) : Calls Try.prog 6 #[] w fun x w' => ∃ d, x = .returned (.pointer (some ⟨d, 0, none⟩)) ∧ FB w' d Fr.new ∧ w.heap.size ≤ d ∧ Below w.heap.size w w' := by
  have hb := Block.made w 33 #[.bool false, .int .u8 0]
  go_enter Try.func6, Try.ntmps6
  go_wp2
  go_ret
  exact ⟨_, rfl, hb, Nat.le_refl _, below_new _ _⟩
theorem on_any {w : World} {d : Nat} {S : Fr} (h : FB w d S) : Calls Try.prog 7 #[.pointer (some ⟨d, 0, none⟩)] w fun x w' => x = .returned (.bool !S.off) ∧ w = w' := by
  have h0 := h.coff
  clear h
  go_enter Try.func7, Try.ntmps7
  go_wp2
  go_ret
  exact ⟨rfl, rfl⟩
theorem on_none (w : World) : Calls Try.prog 7 #[.pointer none] w fun x w' => x = .returned (.bool false) ∧ w = w' := by
  go_enter Try.func7, Try.ntmps7
  go_wp2
  go_ret
  exact ⟨rfl, rfl⟩
theorem copy_none (w : World) : Calls Try.prog 9 #[.pointer none] w fun x w' => x = .returned (.pointer none) ∧ w = w' := by
  go_enter Try.func9, Try.ntmps9
  go_wp2
  go_ret
  exact ⟨rfl, rfl⟩
theorem copy_any {w : World} {d : Nat} {S : Fr} (h : FB w d S) : Calls Try.prog 9 #[.pointer (some ⟨d, 0, none⟩)] w fun x w' => ∃ g, x = .returned (.pointer (some ⟨g, 0, none⟩)) ∧ FB w' g S ∧ w.heap.size ≤ g ∧ Below w.heap.size w w' := by
  have h0 := h.coff
  have h1 := h.cla
  have hb := Block.made w 33 #[.bool S.off, .int .u8 S.la]
  clear h
  go_enter Try.func9, Try.ntmps9
  go_wp2
  go_ret
  exact ⟨_, rfl, hb, Nat.le_refl _, below_new _ _⟩

def stepsV : Value := .agg #[.func (.func 12) #[] #[], .func (.func 13) #[] #[], .func (.func 14) #[] #[], .func (.func 15) #[] #[], .func (.func 16) #[] #[], .func (.func 17) #[] #[]]
theorem infoT : (Try.prog.info? 37).map (·.size) = some 6 := by kernel_rfl
set_option maxRecDepth 100000 in
theorem steps_any (w : World) :
    Calls Try.prog 11 #[] w fun e w' => e = .returned stepsV ∧ Below w.heap.size w w' := by
  go_enter Try.func11, Try.ntmps11
  go_wp2
  exact bodyPost_ret (v := stepsV) (by simp [results, Try.results11, go_sem, stepsV]) rfl ⟨rfl, below_new _ _⟩

theorem feed_none (w : World) (e : Ev) (echo : Bool) : Calls Try.prog 8 #[.pointer none, evV e, .bool echo] w fun x w' => x = .returned (.int .u8 0) ∧ Below w.heap.size w w' := by
  go_enter Try.func8, Try.ntmps8
  go_wp2
  go_ret
  exact ⟨rfl, below_new _ _⟩

set_option maxRecDepth 100000 in
set_option maxHeartbeats 2000000 in
theorem feed0 {w : World} {d : Nat} {S : Fr} (h : FB w d S) (e : Ev) (hk : e.k = 0) (echo : Bool) {K : Int} {T : Fr}
    (hcon : ∀ w1, FB w1 d S → Calls Try.prog 12 #[.pointer (some ⟨d, 0, none⟩), evV e, .bool echo] w1 (Leaves w1 d K T)) :
    Calls Try.prog 8 #[.pointer (some ⟨d, 0, none⟩), evV e, .bool echo] w (Leaves w d K T) := by
  obtain ⟨k, ix, ln, cl, wd, r, bl, la, fr, wr⟩ := e
  dsimp only at hk
  subst hk
  replace hcon := Lib.hid hcon
  have hb1 := below_new w (.cells #[.int .u8 0, .int .u64 ix, .int .i64 ln, .int .i64 cl, .bool wd, .int .i32 r, .bool bl, .bool la, .bool fr, .bool wr] 29)
  have hE := Block.made w 29 #[.int .u8 0, .int .u64 ix, .int .i64 ln, .int .i64 cl, .bool wd, .int .i32 r, .bool bl, .bool la, .bool fr, .bool wr]
  have hd1 := Lib.hid (h.below hb1)
  replace hb1 := Lib.hid hb1
  clear h
  go_enter Try.func8, Try.ntmps8
  go_upto_region 3 with (fail)
  obtain ⟨b, hbb⟩ : ∃ b, b = w.heap.size := ⟨_, rfl⟩
  generalize w.alloc (.cells #[.int .u8 0, .int .u64 ix, .int .i64 ln, .int .i64 cl, .bool wd, .int .i32 r, .bool bl, .bool la, .bool fr, .bool wr] 29) = w1 at hb1 hE hd1 ⊢
  rw [← hbb] at hE ⊢
  go_upto_region 4 with (first
    | (go_at_call 11; (with_reducible refine (steps_any _).mono ?_); rintro x w2 ⟨rfl, hb2⟩; have hT0 := Block.made w2 37 #[.nilFunc, .nilFunc, .nilFunc, .nilFunc, .nilFunc, .nilFunc]; have hE2 := (hE.only (Only.of_below hb2 []) (by simp)).alloc (.cells #[.nilFunc, .nilFunc, .nilFunc, .nilFunc, .nilFunc, .nilFunc] 37); have hd2 := (hd1.out.below hb2).below (below_new w2 (.cells #[.nilFunc, .nilFunc, .nilFunc, .nilFunc, .nilFunc, .nilFunc] 37)); have hne := Lib.hid (Nat.ne_of_lt (Nat.lt_of_lt_of_le hE.lt hb2.size)); have hnd := Lib.hid (Nat.ne_of_lt (Nat.lt_of_lt_of_le hd1.out.lt hb2.size)); have hB2 := Lib.hid (below_next (below_next hb1.out hb2) (below_new w2 (.cells #[.nilFunc, .nilFunc, .nilFunc, .nilFunc, .nilFunc, .nilFunc] 37))); have hlow := Lib.hid (Nat.le_trans hb1.out.size hb2.size); clear hb2 hb1 hd1 hE; replace hE2 := Lib.hid hE2; replace hd2 := Lib.hid hd2)
    | (with_reducible show wpList _ _ _ (⟨none, .store _ (.tmp 7) _, _, _, _, _⟩ :: _) _ _; go_must (refine wpList_storeAll rfl _ (.tmp 7) (.tmp 10) rfl hT0 _ rfl rfl (by simpa using infoT) (by simp) (by simp [Value.oneCell']) ?_); intro w3 hT ho3; clear hT0))
  generalize w2.heap.size = q at *
  subst hbb
  have hE3 := hE2.out.only ho3 (by simp; exact hne.out)
  have hd3 := hd2.out.only ho3 (by simp; exact hnd.out)
  have hB3 := Lib.hid (hB2.out.trans (ho3.below (B := w.heap.size) (by have := hB2.out.size; exact this) (by simpa using hlow.out)))
  have c0 := hE3.cell 0 rfl
  have c1 := hE3.cell 1 rfl
  have c2 := hE3.cell 2 rfl
  have c3 := hE3.cell 3 rfl
  have c4 := hE3.cell 4 rfl
  have c5 := hE3.cell 5 rfl
  have c6 := hE3.cell 6 rfl
  have c7 := hE3.cell 7 rfl
  have c8 := hE3.cell 8 rfl
  have c9 := hE3.cell 9 rfl
  have t := hT.cell 0 rfl
  have hc := Lib.hid (fun m => hcon.out (w3.drewN m) (hd3.drewN m))
  have hfin := Lib.hid (fun m w' (T : Fr) (h : Only [d] (w3.drewN m) w') => (Only.of_below hB3.out [d]).trans ((Only.drewN [d] w3 m).trans h))
  clear hE3 hE2 hd2 ho3 hne hnd hlow hB2 hT hcon hd3 hB3
  go_wp2_with fail
  go_region_with (go_at_call 12; (refine (hc.out _).mono ?_); rintro x w9 ⟨rfl, h2, h3⟩; replace h2 := Lib.hid h2; replace h3 := Lib.hid (hfin.out _ _ T h3))
  all_goals go_wp2
  all_goals go_ret
  all_goals exact ⟨rfl, h2.out, h3.out⟩

set_option maxRecDepth 100000 in
set_option maxHeartbeats 2000000 in
theorem feed1 {w : World} {d : Nat} {S : Fr} (h : FB w d S) (e : Ev) (hk : e.k = 1) (echo : Bool) {K : Int} {T : Fr}
    (hcon : ∀ w1, FB w1 d S → Calls Try.prog 13 #[.pointer (some ⟨d, 0, none⟩), evV e, .bool echo] w1 (Leaves w1 d K T)) :
    Calls Try.prog 8 #[.pointer (some ⟨d, 0, none⟩), evV e, .bool echo] w (Leaves w d K T) := by
  obtain ⟨k, ix, ln, cl, wd, r, bl, la, fr, wr⟩ := e
  dsimp only at hk
  subst hk
  replace hcon := Lib.hid hcon
  have hb1 := below_new w (.cells #[.int .u8 1, .int .u64 ix, .int .i64 ln, .int .i64 cl, .bool wd, .int .i32 r, .bool bl, .bool la, .bool fr, .bool wr] 29)
  have hE := Block.made w 29 #[.int .u8 1, .int .u64 ix, .int .i64 ln, .int .i64 cl, .bool wd, .int .i32 r, .bool bl, .bool la, .bool fr, .bool wr]
  have hd1 := Lib.hid (h.below hb1)
  replace hb1 := Lib.hid hb1
  clear h
  go_enter Try.func8, Try.ntmps8
  go_upto_region 3 with (fail)
  obtain ⟨b, hbb⟩ : ∃ b, b = w.heap.size := ⟨_, rfl⟩
  generalize w.alloc (.cells #[.int .u8 1, .int .u64 ix, .int .i64 ln, .int .i64 cl, .bool wd, .int .i32 r, .bool bl, .bool la, .bool fr, .bool wr] 29) = w1 at hb1 hE hd1 ⊢
  rw [← hbb] at hE ⊢
  go_upto_region 4 with (first
    | (go_at_call 11; (with_reducible refine (steps_any _).mono ?_); rintro x w2 ⟨rfl, hb2⟩; have hT0 := Block.made w2 37 #[.nilFunc, .nilFunc, .nilFunc, .nilFunc, .nilFunc, .nilFunc]; have hE2 := (hE.only (Only.of_below hb2 []) (by simp)).alloc (.cells #[.nilFunc, .nilFunc, .nilFunc, .nilFunc, .nilFunc, .nilFunc] 37); have hd2 := (hd1.out.below hb2).below (below_new w2 (.cells #[.nilFunc, .nilFunc, .nilFunc, .nilFunc, .nilFunc, .nilFunc] 37)); have hne := Lib.hid (Nat.ne_of_lt (Nat.lt_of_lt_of_le hE.lt hb2.size)); have hnd := Lib.hid (Nat.ne_of_lt (Nat.lt_of_lt_of_le hd1.out.lt hb2.size)); have hB2 := Lib.hid (below_next (below_next hb1.out hb2) (below_new w2 (.cells #[.nilFunc, .nilFunc, .nilFunc, .nilFunc, .nilFunc, .nilFunc] 37))); have hlow := Lib.hid (Nat.le_trans hb1.out.size hb2.size); clear hb2 hb1 hd1 hE; replace hE2 := Lib.hid hE2; replace hd2 := Lib.hid hd2)
    | (with_reducible show wpList _ _ _ (⟨none, .store _ (.tmp 7) _, _, _, _, _⟩ :: _) _ _; go_must (refine wpList_storeAll rfl _ (.tmp 7) (.tmp 10) rfl hT0 _ rfl rfl (by simpa using infoT) (by simp) (by simp [Value.oneCell']) ?_); intro w3 hT ho3; clear hT0))
  generalize w2.heap.size = q at *
  subst hbb
  have hE3 := hE2.out.only ho3 (by simp; exact hne.out)
  have hd3 := hd2.out.only ho3 (by simp; exact hnd.out)
  have hB3 := Lib.hid (hB2.out.trans (ho3.below (B := w.heap.size) (by have := hB2.out.size; exact this) (by simpa using hlow.out)))
  have c0 := hE3.cell 0 rfl
  have c1 := hE3.cell 1 rfl
  have c2 := hE3.cell 2 rfl
  have c3 := hE3.cell 3 rfl
  have c4 := hE3.cell 4 rfl
  have c5 := hE3.cell 5 rfl
  have c6 := hE3.cell 6 rfl
  have c7 := hE3.cell 7 rfl
  have c8 := hE3.cell 8 rfl
  have c9 := hE3.cell 9 rfl
  have t := hT.cell 1 rfl
  have hc := Lib.hid (fun m => hcon.out (w3.drewN m) (hd3.drewN m))
  have hfin := Lib.hid (fun m w' (T : Fr) (h : Only [d] (w3.drewN m) w') => (Only.of_below hB3.out [d]).trans ((Only.drewN [d] w3 m).trans h))
  clear hE3 hE2 hd2 ho3 hne hnd hlow hB2 hT hcon hd3 hB3
  go_wp2_with fail
  go_region_with (go_at_call 13; (refine (hc.out _).mono ?_); rintro x w9 ⟨rfl, h2, h3⟩; replace h2 := Lib.hid h2; replace h3 := Lib.hid (hfin.out _ _ T h3))
  all_goals go_wp2
  all_goals go_ret
  all_goals exact ⟨rfl, h2.out, h3.out⟩

set_option maxRecDepth 100000 in
set_option maxHeartbeats 2000000 in
theorem feed2 {w : World} {d : Nat} {S : Fr} (h : FB w d S) (e : Ev) (hk : e.k = 2) (echo : Bool) {K : Int} {T : Fr}
    (hcon : ∀ w1, FB w1 d S → Calls Try.prog 14 #[.pointer (some ⟨d, 0, none⟩), evV e, .bool echo] w1 (Leaves w1 d K T)) :
    Calls Try.prog 8 #[.pointer (some ⟨d, 0, none⟩), evV e, .bool echo] w (Leaves w d K T) := by
  obtain ⟨k, ix, ln, cl, wd, r, bl, la, fr, wr⟩ := e
  dsimp only at hk
  subst hk
  replace hcon := Lib.hid hcon
  have hb1 := below_new w (.cells #[.int .u8 2, .int .u64 ix, .int .i64 ln, .int .i64 cl, .bool wd, .int .i32 r, .bool bl, .bool la, .bool fr, .bool wr] 29)
  have hE := Block.made w 29 #[.int .u8 2, .int .u64 ix, .int .i64 ln, .int .i64 cl, .bool wd, .int .i32 r, .bool bl, .bool la, .bool fr, .bool wr]
  have hd1 := Lib.hid (h.below hb1)
  replace hb1 := Lib.hid hb1
  clear h
  go_enter Try.func8, Try.ntmps8
  go_upto_region 3 with (fail)
  obtain ⟨b, hbb⟩ : ∃ b, b = w.heap.size := ⟨_, rfl⟩
  generalize w.alloc (.cells #[.int .u8 2, .int .u64 ix, .int .i64 ln, .int .i64 cl, .bool wd, .int .i32 r, .bool bl, .bool la, .bool fr, .bool wr] 29) = w1 at hb1 hE hd1 ⊢
  rw [← hbb] at hE ⊢
  go_upto_region 4 with (first
    | (go_at_call 11; (with_reducible refine (steps_any _).mono ?_); rintro x w2 ⟨rfl, hb2⟩; have hT0 := Block.made w2 37 #[.nilFunc, .nilFunc, .nilFunc, .nilFunc, .nilFunc, .nilFunc]; have hE2 := (hE.only (Only.of_below hb2 []) (by simp)).alloc (.cells #[.nilFunc, .nilFunc, .nilFunc, .nilFunc, .nilFunc, .nilFunc] 37); have hd2 := (hd1.out.below hb2).below (below_new w2 (.cells #[.nilFunc, .nilFunc, .nilFunc, .nilFunc, .nilFunc, .nilFunc] 37)); have hne := Lib.hid (Nat.ne_of_lt (Nat.lt_of_lt_of_le hE.lt hb2.size)); have hnd := Lib.hid (Nat.ne_of_lt (Nat.lt_of_lt_of_le hd1.out.lt hb2.size)); have hB2 := Lib.hid (below_next (below_next hb1.out hb2) (below_new w2 (.cells #[.nilFunc, .nilFunc, .nilFunc, .nilFunc, .nilFunc, .nilFunc] 37))); have hlow := Lib.hid (Nat.le_trans hb1.out.size hb2.size); clear hb2 hb1 hd1 hE; replace hE2 := Lib.hid hE2; replace hd2 := Lib.hid hd2)
    | (with_reducible show wpList _ _ _ (⟨none, .store _ (.tmp 7) _, _, _, _, _⟩ :: _) _ _; go_must (refine wpList_storeAll rfl _ (.tmp 7) (.tmp 10) rfl hT0 _ rfl rfl (by simpa using infoT) (by simp) (by simp [Value.oneCell']) ?_); intro w3 hT ho3; clear hT0))
  generalize w2.heap.size = q at *
  subst hbb
  have hE3 := hE2.out.only ho3 (by simp; exact hne.out)
  have hd3 := hd2.out.only ho3 (by simp; exact hnd.out)
  have hB3 := Lib.hid (hB2.out.trans (ho3.below (B := w.heap.size) (by have := hB2.out.size; exact this) (by simpa using hlow.out)))
  have c0 := hE3.cell 0 rfl
  have c1 := hE3.cell 1 rfl
  have c2 := hE3.cell 2 rfl
  have c3 := hE3.cell 3 rfl
  have c4 := hE3.cell 4 rfl
  have c5 := hE3.cell 5 rfl
  have c6 := hE3.cell 6 rfl
  have c7 := hE3.cell 7 rfl
  have c8 := hE3.cell 8 rfl
  have c9 := hE3.cell 9 rfl
  have t := hT.cell 2 rfl
  have hc := Lib.hid (fun m => hcon.out (w3.drewN m) (hd3.drewN m))
  have hfin := Lib.hid (fun m w' (T : Fr) (h : Only [d] (w3.drewN m) w') => (Only.of_below hB3.out [d]).trans ((Only.drewN [d] w3 m).trans h))
  clear hE3 hE2 hd2 ho3 hne hnd hlow hB2 hT hcon hd3 hB3
  go_wp2_with fail
  go_region_with (go_at_call 14; (refine (hc.out _).mono ?_); rintro x w9 ⟨rfl, h2, h3⟩; replace h2 := Lib.hid h2; replace h3 := Lib.hid (hfin.out _ _ T h3))
  all_goals go_wp2
  all_goals go_ret
  all_goals exact ⟨rfl, h2.out, h3.out⟩

set_option maxRecDepth 100000 in
set_option maxHeartbeats 2000000 in
theorem feed3 {w : World} {d : Nat} {S : Fr} (h : FB w d S) (e : Ev) (hk : e.k = 3) (echo : Bool) {K : Int} {T : Fr}
    (hcon : ∀ w1, FB w1 d S → Calls Try.prog 15 #[.pointer (some ⟨d, 0, none⟩), evV e, .bool echo] w1 (Leaves w1 d K T)) :
    Calls Try.prog 8 #[.pointer (some ⟨d, 0, none⟩), evV e, .bool echo] w (Leaves w d K T) := by
  obtain ⟨k, ix, ln, cl, wd, r, bl, la, fr, wr⟩ := e
  dsimp only at hk
  subst hk
  replace hcon := Lib.hid hcon
  have hb1 := below_new w (.cells #[.int .u8 3, .int .u64 ix, .int .i64 ln, .int .i64 cl, .bool wd, .int .i32 r, .bool bl, .bool la, .bool fr, .bool wr] 29)
  have hE := Block.made w 29 #[.int .u8 3, .int .u64 ix, .int .i64 ln, .int .i64 cl, .bool wd, .int .i32 r, .bool bl, .bool la, .bool fr, .bool wr]
  have hd1 := Lib.hid (h.below hb1)
  replace hb1 := Lib.hid hb1
  clear h
  go_enter Try.func8, Try.ntmps8
  go_upto_region 3 with (fail)
  obtain ⟨b, hbb⟩ : ∃ b, b = w.heap.size := ⟨_, rfl⟩
  generalize w.alloc (.cells #[.int .u8 3, .int .u64 ix, .int .i64 ln, .int .i64 cl, .bool wd, .int .i32 r, .bool bl, .bool la, .bool fr, .bool wr] 29) = w1 at hb1 hE hd1 ⊢
  rw [← hbb] at hE ⊢
  go_upto_region 4 with (first
    | (go_at_call 11; (with_reducible refine (steps_any _).mono ?_); rintro x w2 ⟨rfl, hb2⟩; have hT0 := Block.made w2 37 #[.nilFunc, .nilFunc, .nilFunc, .nilFunc, .nilFunc, .nilFunc]; have hE2 := (hE.only (Only.of_below hb2 []) (by simp)).alloc (.cells #[.nilFunc, .nilFunc, .nilFunc, .nilFunc, .nilFunc, .nilFunc] 37); have hd2 := (hd1.out.below hb2).below (below_new w2 (.cells #[.nilFunc, .nilFunc, .nilFunc, .nilFunc, .nilFunc, .nilFunc] 37)); have hne := Lib.hid (Nat.ne_of_lt (Nat.lt_of_lt_of_le hE.lt hb2.size)); have hnd := Lib.hid (Nat.ne_of_lt (Nat.lt_of_lt_of_le hd1.out.lt hb2.size)); have hB2 := Lib.hid (below_next (below_next hb1.out hb2) (below_new w2 (.cells #[.nilFunc, .nilFunc, .nilFunc, .nilFunc, .nilFunc, .nilFunc] 37))); have hlow := Lib.hid (Nat.le_trans hb1.out.size hb2.size); clear hb2 hb1 hd1 hE; replace hE2 := Lib.hid hE2; replace hd2 := Lib.hid hd2)
    | (with_reducible show wpList _ _ _ (⟨none, .store _ (.tmp 7) _, _, _, _, _⟩ :: _) _ _; go_must (refine wpList_storeAll rfl _ (.tmp 7) (.tmp 10) rfl hT0 _ rfl rfl (by simpa using infoT) (by simp) (by simp [Value.oneCell']) ?_); intro w3 hT ho3; clear hT0))
  generalize w2.heap.size = q at *
  subst hbb
  have hE3 := hE2.out.only ho3 (by simp; exact hne.out)
  have hd3 := hd2.out.only ho3 (by simp; exact hnd.out)
  have hB3 := Lib.hid (hB2.out.trans (ho3.below (B := w.heap.size) (by have := hB2.out.size; exact this) (by simpa using hlow.out)))
  have c0 := hE3.cell 0 rfl
  have c1 := hE3.cell 1 rfl
  have c2 := hE3.cell 2 rfl
  have c3 := hE3.cell 3 rfl
  have c4 := hE3.cell 4 rfl
  have c5 := hE3.cell 5 rfl
  have c6 := hE3.cell 6 rfl
  have c7 := hE3.cell 7 rfl
  have c8 := hE3.cell 8 rfl
  have c9 := hE3.cell 9 rfl
  have t := hT.cell 3 rfl
  have hc := Lib.hid (fun m => hcon.out (w3.drewN m) (hd3.drewN m))
  have hfin := Lib.hid (fun m w' (T : Fr) (h : Only [d] (w3.drewN m) w') => (Only.of_below hB3.out [d]).trans ((Only.drewN [d] w3 m).trans h))
  clear hE3 hE2 hd2 ho3 hne hnd hlow hB2 hT hcon hd3 hB3
  go_wp2_with fail
  go_region_with (go_at_call 15; (refine (hc.out _).mono ?_); rintro x w9 ⟨rfl, h2, h3⟩; replace h2 := Lib.hid h2; replace h3 := Lib.hid (hfin.out _ _ T h3))
  all_goals go_wp2
  all_goals go_ret
  all_goals exact ⟨rfl, h2.out, h3.out⟩

set_option maxRecDepth 100000 in
set_option maxHeartbeats 2000000 in
theorem feed4 {w : World} {d : Nat} {S : Fr} (h : FB w d S) (e : Ev) (hk : e.k = 4) (echo : Bool) {K : Int} {T : Fr}
    (hcon : ∀ w1, FB w1 d S → Calls Try.prog 16 #[.pointer (some ⟨d, 0, none⟩), evV e, .bool echo] w1 (Leaves w1 d K T)) :
    Calls Try.prog 8 #[.pointer (some ⟨d, 0, none⟩), evV e, .bool echo] w (Leaves w d K T) := by
  obtain ⟨k, ix, ln, cl, wd, r, bl, la, fr, wr⟩ := e
  dsimp only at hk
  subst hk
  replace hcon := Lib.hid hcon
  have hb1 := below_new w (.cells #[.int .u8 4, .int .u64 ix, .int .i64 ln, .int .i64 cl, .bool wd, .int .i32 r, .bool bl, .bool la, .bool fr, .bool wr] 29)
  have hE := Block.made w 29 #[.int .u8 4, .int .u64 ix, .int .i64 ln, .int .i64 cl, .bool wd, .int .i32 r, .bool bl, .bool la, .bool fr, .bool wr]
  have hd1 := Lib.hid (h.below hb1)
  replace hb1 := Lib.hid hb1
  clear h
  go_enter Try.func8, Try.ntmps8
  go_upto_region 3 with (fail)
  obtain ⟨b, hbb⟩ : ∃ b, b = w.heap.size := ⟨_, rfl⟩
  generalize w.alloc (.cells #[.int .u8 4, .int .u64 ix, .int .i64 ln, .int .i64 cl, .bool wd, .int .i32 r, .bool bl, .bool la, .bool fr, .bool wr] 29) = w1 at hb1 hE hd1 ⊢
  rw [← hbb] at hE ⊢
  go_upto_region 4 with (first
    | (go_at_call 11; (with_reducible refine (steps_any _).mono ?_); rintro x w2 ⟨rfl, hb2⟩; have hT0 := Block.made w2 37 #[.nilFunc, .nilFunc, .nilFunc, .nilFunc, .nilFunc, .nilFunc]; have hE2 := (hE.only (Only.of_below hb2 []) (by simp)).alloc (.cells #[.nilFunc, .nilFunc, .nilFunc, .nilFunc, .nilFunc, .nilFunc] 37); have hd2 := (hd1.out.below hb2).below (below_new w2 (.cells #[.nilFunc, .nilFunc, .nilFunc, .nilFunc, .nilFunc, .nilFunc] 37)); have hne := Lib.hid (Nat.ne_of_lt (Nat.lt_of_lt_of_le hE.lt hb2.size)); have hnd := Lib.hid (Nat.ne_of_lt (Nat.lt_of_lt_of_le hd1.out.lt hb2.size)); have hB2 := Lib.hid (below_next (below_next hb1.out hb2) (below_new w2 (.cells #[.nilFunc, .nilFunc, .nilFunc, .nilFunc, .nilFunc, .nilFunc] 37))); have hlow := Lib.hid (Nat.le_trans hb1.out.size hb2.size); clear hb2 hb1 hd1 hE; replace hE2 := Lib.hid hE2; replace hd2 := Lib.hid hd2)
    | (with_reducible show wpList _ _ _ (⟨none, .store _ (.tmp 7) _, _, _, _, _⟩ :: _) _ _; go_must (refine wpList_storeAll rfl _ (.tmp 7) (.tmp 10) rfl hT0 _ rfl rfl (by simpa using infoT) (by simp) (by simp [Value.oneCell']) ?_); intro w3 hT ho3; clear hT0))
  generalize w2.heap.size = q at *
  subst hbb
  have hE3 := hE2.out.only ho3 (by simp; exact hne.out)
  have hd3 := hd2.out.only ho3 (by simp; exact hnd.out)
  have hB3 := Lib.hid (hB2.out.trans (ho3.below (B := w.heap.size) (by have := hB2.out.size; exact this) (by simpa using hlow.out)))
  have c0 := hE3.cell 0 rfl
  have c1 := hE3.cell 1 rfl
  have c2 := hE3.cell 2 rfl
  have c3 := hE3.cell 3 rfl
  have c4 := hE3.cell 4 rfl
  have c5 := hE3.cell 5 rfl
  have c6 := hE3.cell 6 rfl
  have c7 := hE3.cell 7 rfl
  have c8 := hE3.cell 8 rfl
  have c9 := hE3.cell 9 rfl
  have t := hT.cell 4 rfl
  have hc := Lib.hid (fun m => hcon.out (w3.drewN m) (hd3.drewN m))
  have hfin := Lib.hid (fun m w' (T : Fr) (h : Only [d] (w3.drewN m) w') => (Only.of_below hB3.out [d]).trans ((Only.drewN [d] w3 m).trans h))
  clear hE3 hE2 hd2 ho3 hne hnd hlow hB2 hT hcon hd3 hB3
  go_wp2_with fail
  go_region_with (go_at_call 16; (refine (hc.out _).mono ?_); rintro x w9 ⟨rfl, h2, h3⟩; replace h2 := Lib.hid h2; replace h3 := Lib.hid (hfin.out _ _ T h3))
  all_goals go_wp2
  all_goals go_ret
  all_goals exact ⟨rfl, h2.out, h3.out⟩

set_option maxRecDepth 100000 in
set_option maxHeartbeats 2000000 in
theorem feed5 {w : World} {d : Nat} {S : Fr} (h : FB w d S) (e : Ev) (hk : e.k = 5) (echo : Bool) {K : Int} {T : Fr}
    (hcon : ∀ w1, FB w1 d S → Calls Try.prog 17 #[.pointer (some ⟨d, 0, none⟩), evV e, .bool echo] w1 (Leaves w1 d K T)) :
    Calls Try.prog 8 #[.pointer (some ⟨d, 0, none⟩), evV e, .bool echo] w (Leaves w d K T) := by
  obtain ⟨k, ix, ln, cl, wd, r, bl, la, fr, wr⟩ := e
  dsimp only at hk
  subst hk
  replace hcon := Lib.hid hcon
  have hb1 := below_new w (.cells #[.int .u8 5, .int .u64 ix, .int .i64 ln, .int .i64 cl, .bool wd, .int .i32 r, .bool bl, .bool la, .bool fr, .bool wr] 29)
  have hE := Block.made w 29 #[.int .u8 5, .int .u64 ix, .int .i64 ln, .int .i64 cl, .bool wd, .int .i32 r, .bool bl, .bool la, .bool fr, .bool wr]
  have hd1 := Lib.hid (h.below hb1)
  replace hb1 := Lib.hid hb1
  clear h
  go_enter Try.func8, Try.ntmps8
  go_upto_region 3 with (fail)
  obtain ⟨b, hbb⟩ : ∃ b, b = w.heap.size := ⟨_, rfl⟩
  generalize w.alloc (.cells #[.int .u8 5, .int .u64 ix, .int .i64 ln, .int .i64 cl, .bool wd, .int .i32 r, .bool bl, .bool la, .bool fr, .bool wr] 29) = w1 at hb1 hE hd1 ⊢
  rw [← hbb] at hE ⊢
  go_upto_region 4 with (first
    | (go_at_call 11; (with_reducible refine (steps_any _).mono ?_); rintro x w2 ⟨rfl, hb2⟩; have hT0 := Block.made w2 37 #[.nilFunc, .nilFunc, .nilFunc, .nilFunc, .nilFunc, .nilFunc]; have hE2 := (hE.only (Only.of_below hb2 []) (by simp)).alloc (.cells #[.nilFunc, .nilFunc, .nilFunc, .nilFunc, .nilFunc, .nilFunc] 37); have hd2 := (hd1.out.below hb2).below (below_new w2 (.cells #[.nilFunc, .nilFunc, .nilFunc, .nilFunc, .nilFunc, .nilFunc] 37)); have hne := Lib.hid (Nat.ne_of_lt (Nat.lt_of_lt_of_le hE.lt hb2.size)); have hnd := Lib.hid (Nat.ne_of_lt (Nat.lt_of_lt_of_le hd1.out.lt hb2.size)); have hB2 := Lib.hid (below_next (below_next hb1.out hb2) (below_new w2 (.cells #[.nilFunc, .nilFunc, .nilFunc, .nilFunc, .nilFunc, .nilFunc] 37))); have hlow := Lib.hid (Nat.le_trans hb1.out.size hb2.size); clear hb2 hb1 hd1 hE; replace hE2 := Lib.hid hE2; replace hd2 := Lib.hid hd2)
    | (with_reducible show wpList _ _ _ (⟨none, .store _ (.tmp 7) _, _, _, _, _⟩ :: _) _ _; go_must (refine wpList_storeAll rfl _ (.tmp 7) (.tmp 10) rfl hT0 _ rfl rfl (by simpa using infoT) (by simp) (by simp [Value.oneCell']) ?_); intro w3 hT ho3; clear hT0))
  generalize w2.heap.size = q at *
  subst hbb
  have hE3 := hE2.out.only ho3 (by simp; exact hne.out)
  have hd3 := hd2.out.only ho3 (by simp; exact hnd.out)
  have hB3 := Lib.hid (hB2.out.trans (ho3.below (B := w.heap.size) (by have := hB2.out.size; exact this) (by simpa using hlow.out)))
  have c0 := hE3.cell 0 rfl
  have c1 := hE3.cell 1 rfl
  have c2 := hE3.cell 2 rfl
  have c3 := hE3.cell 3 rfl
  have c4 := hE3.cell 4 rfl
  have c5 := hE3.cell 5 rfl
  have c6 := hE3.cell 6 rfl
  have c7 := hE3.cell 7 rfl
  have c8 := hE3.cell 8 rfl
  have c9 := hE3.cell 9 rfl
  have t := hT.cell 5 rfl
  have hc := Lib.hid (fun m => hcon.out (w3.drewN m) (hd3.drewN m))
  have hfin := Lib.hid (fun m w' (T : Fr) (h : Only [d] (w3.drewN m) w') => (Only.of_below hB3.out [d]).trans ((Only.drewN [d] w3 m).trans h))
  clear hE3 hE2 hd2 ho3 hne hnd hlow hB2 hT hcon hd3 hB3
  go_wp2_with fail
  go_region_with (go_at_call 17; (refine (hc.out _).mono ?_); rintro x w9 ⟨rfl, h2, h3⟩; replace h2 := Lib.hid h2; replace h3 := Lib.hid (hfin.out _ _ T h3))
  all_goals go_wp2
  all_goals go_ret
  all_goals exact ⟨rfl, h2.out, h3.out⟩

set_option maxRecDepth 100000 in
set_option maxHeartbeats 2000000 in
theorem feed6 {w : World} {d : Nat} {S : Fr} (h : FB w d S) (e : Ev) (hk : 6 ≤ e.k) (hk2 : e.k ≤ 255) (echo : Bool) :
    Calls Try.prog 8 #[.pointer (some ⟨d, 0, none⟩), evV e, .bool echo] w (Leaves w d 0 S) := by
  obtain ⟨k, ix, ln, cl, wd, r, bl, la, fr, wr⟩ := e
  dsimp only at hk hk2
  have hcon := Lib.hid (fun w1 => nothing_any (w := w1) (.pointer (some ⟨d, 0, none⟩)) ⟨k, ix, ln, cl, wd, r, bl, la, fr, wr⟩ echo)
  have hge : decide ((6 : Int) ≤ k) = true := by simpa using hk
  have hb1 := below_new w (.cells #[.int .u8 k, .int .u64 ix, .int .i64 ln, .int .i64 cl, .bool wd, .int .i32 r, .bool bl, .bool la, .bool fr, .bool wr] 29)
  have hE := Block.made w 29 #[.int .u8 k, .int .u64 ix, .int .i64 ln, .int .i64 cl, .bool wd, .int .i32 r, .bool bl, .bool la, .bool fr, .bool wr]
  have hd1 := Lib.hid (h.below hb1)
  replace hb1 := Lib.hid hb1
  clear h
  go_enter Try.func8, Try.ntmps8
  go_upto_region 3 with (fail)
  obtain ⟨b, hbb⟩ : ∃ b, b = w.heap.size := ⟨_, rfl⟩
  generalize w.alloc (.cells #[.int .u8 k, .int .u64 ix, .int .i64 ln, .int .i64 cl, .bool wd, .int .i32 r, .bool bl, .bool la, .bool fr, .bool wr] 29) = w1 at hb1 hE hd1 ⊢
  rw [← hbb] at hE ⊢
  go_upto_region 4 with (first
    | (go_at_call 11; (with_reducible refine (steps_any _).mono ?_); rintro x w2 ⟨rfl, hb2⟩; have hT0 := Block.made w2 37 #[.nilFunc, .nilFunc, .nilFunc, .nilFunc, .nilFunc, .nilFunc]; have hE2 := (hE.only (Only.of_below hb2 []) (by simp)).alloc (.cells #[.nilFunc, .nilFunc, .nilFunc, .nilFunc, .nilFunc, .nilFunc] 37); have hd2 := (hd1.out.below hb2).below (below_new w2 (.cells #[.nilFunc, .nilFunc, .nilFunc, .nilFunc, .nilFunc, .nilFunc] 37)); have hne := Lib.hid (Nat.ne_of_lt (Nat.lt_of_lt_of_le hE.lt hb2.size)); have hnd := Lib.hid (Nat.ne_of_lt (Nat.lt_of_lt_of_le hd1.out.lt hb2.size)); have hB2 := Lib.hid (below_next (below_next hb1.out hb2) (below_new w2 (.cells #[.nilFunc, .nilFunc, .nilFunc, .nilFunc, .nilFunc, .nilFunc] 37))); have hlow := Lib.hid (Nat.le_trans hb1.out.size hb2.size); clear hb2 hb1 hd1 hE; replace hE2 := Lib.hid hE2; replace hd2 := Lib.hid hd2)
    | (with_reducible show wpList _ _ _ (⟨none, .store _ (.tmp 7) _, _, _, _, _⟩ :: _) _ _; go_must (refine wpList_storeAll rfl _ (.tmp 7) (.tmp 10) rfl hT0 _ rfl rfl (by simpa using infoT) (by simp) (by simp [Value.oneCell']) ?_); intro w3 hT ho3; clear hT0))
  generalize w2.heap.size = q at *
  subst hbb
  have hE3 := hE2.out.only ho3 (by simp; exact hne.out)
  have hd3 := hd2.out.only ho3 (by simp; exact hnd.out)
  have hB3 := Lib.hid (hB2.out.trans (ho3.below (B := w.heap.size) (by have := hB2.out.size; exact this) (by simpa using hlow.out)))
  have c0 := hE3.cell 0 rfl
  have c1 := hE3.cell 1 rfl
  have c2 := hE3.cell 2 rfl
  have c3 := hE3.cell 3 rfl
  have c4 := hE3.cell 4 rfl
  have c5 := hE3.cell 5 rfl
  have c6 := hE3.cell 6 rfl
  have c7 := hE3.cell 7 rfl
  have c8 := hE3.cell 8 rfl
  have c9 := hE3.cell 9 rfl
  have hfin := Lib.hid (fun w' (h : Below w3.heap.size w3 w') => And.intro (hd3.below h) (Only.of_below (below_next hB3.out h) [d]))
  clear hE3 hE2 hd2 ho3 hne hnd hlow hB2 hT hd3 hB3
  go_wp2_with (go_at_call 12; (refine (hcon.out _).mono ?_); rintro x w9 ⟨rfl, h2⟩; replace h2 := Lib.hid (hfin.out _ h2))
  go_ret
  exact ⟨rfl, h2.out.1, h2.out.2⟩

theorem feed_any {w : World} {d : Nat} {S : Fr} (h : FB w d S) (e : Ev) (hk : e.Ok) (echo : Bool) :
    Calls Try.prog 8 #[.pointer (some ⟨d, 0, none⟩), evV e, .bool echo] w (Leaves w d (kindF S e echo) (nextF S e echo)) := by
  obtain ⟨h0, h2⟩ := hk
  have hn : ∀ w1, FB w1 d S → Calls Try.prog 12 #[.pointer (some ⟨d, 0, none⟩), evV e, .bool echo] w1 (Leaves w1 d 0 S) := fun w1 h1 => (nothing_any _ e echo).mono fun _ _ ⟨a, b⟩ => ⟨a, h1.below b, Only.of_below b _⟩
  unfold kindF nextF
  by_cases k0 : e.k = 0
  · simp only [k0]
    exact feed0 h e k0 echo hn
  by_cases k1 : e.k = 1
  · simp only [k1]
    exact feed1 h e k1 echo fun w1 h1 => print_any h1 e echo
  by_cases k2 : e.k = 2
  · simp only [k2]
    exact feed2 h e k2 echo fun w1 h1 => join_any h1 e echo
  by_cases k3 : e.k = 3
  · simp only [k3]
    exact feed3 h e k3 echo fun w1 h1 => straight_any h1 e echo
  by_cases k4 : e.k = 4
  · simp only [k4]
    exact feed4 h e k4 echo fun w1 h1 => other_any h1 e echo
  by_cases k5 : e.k = 5
  · simp only [k5]
    exact feed5 h e k5 echo fun w1 h1 => reset_any h1 e echo
  rw [if_neg k1, if_neg k2, if_neg k1, if_neg k2, if_neg k3, if_neg k4, if_neg k5]
  exact feed6 h e (by omega) h2 echo
end Go.Proofs.Ytbibnnbmiefcgaa.Fro
