/-
  tabs: Prev.
-/
import Derived.Test.YtihmagpgbjlggaaDoorTNew
namespace Go.Proofs.YtihmagpgbjlggaaDoor.Tbs
open Go Go.RowKit Go.Proofs.YtihmagpgbjlggaaDoor.Com

/-- P7.2, by the words. -/
def prevAt (f : Nat → Bool) (h : Nat) (k : Int) : Nat := if k < 1 then h else if ((sts (inF f 0 h) 512).length : Int) < k then 0 else (sts (inF f 0 h) 512).getD ((sts (inF f 0 h) 512).length - k.toNat) 0
def nextAt (n : Nat) (f : Nat → Bool) (h : Nat) (k : Int) : Nat := if k < 1 then h else if ((sts (inF f (h + 1) n) 512).length : Int) < k then n - 1 else (sts (inF f (h + 1) n) 512).getD (k.toNat - 1) 0
def prevF (n : Nat) (f : Nat → Bool) (c k : Int) : Nat := prevAt f (heldF n c) k
def nextF (n : Nat) (f : Nat → Bool) (c k : Int) : Nat := nextAt n f (heldF n c) k

theorem prev_no {w : World} {v : Value} (h : NoTabs w v) (c k : Int) : Calls Tryd.prog 24 #[v, .int .i64 c, .int .i64 k] w (Err w 0) := by
  have hC := Lib.hid (cols_no h)
  obtain ⟨a, rfl⟩ := no_shape h
  clear h
  go_enter Tryd.func24, Tryd.ntmps24
  go_wp2_with ((go_at_call 18; (with_reducible refine (hC.out).mono ?_); rintro e w' ⟨rfl, rfl⟩))
  go_ret
  exact ⟨rfl, rfl⟩
theorem next_no {w : World} {v : Value} (h : NoTabs w v) (c k : Int) : Calls Tryd.prog 22 #[v, .int .i64 c, .int .i64 k] w (Err w 0) := by
  have hC := Lib.hid (cols_no h)
  obtain ⟨a, rfl⟩ := no_shape h
  clear h
  go_enter Tryd.func22, Tryd.ntmps22
  go_wp2_with ((go_at_call 18; (with_reducible refine (hC.out).mono ?_); rintro e w' ⟨rfl, rfl⟩))
  go_ret
  exact ⟨rfl, rfl⟩

theorem wsL_info (f : Nat → Bool) : (Tryd.prog.info? 49).map (·.size) = some (wsL f).length := by rw [ws_len]; kernel_rfl
theorem made8 (w : World) : Block (w.alloc (.cells #[.int .u64 0, .int .u64 0, .int .u64 0, .int .u64 0, .int .u64 0, .int .u64 0, .int .u64 0, .int .u64 0] 49)) w.heap.size 49 zero8 := Block.made w _ zero8
theorem below_made {w w1 w2 : World} {t : TypeId} (h1 : Below w.heap.size w w1) (h2 : Only [w1.heap.size] (w1.alloc (.cells #[.int .u64 0, .int .u64 0, .int .u64 0, .int .u64 0, .int .u64 0, .int .u64 0, .int .u64 0, .int .u64 0] t)) w2) : Below w.heap.size w w2 :=
  below_on (below_next h1 (below_new w1 _)) h2 h1.size
set_option maxHeartbeats 2000000 in
theorem prev_any {w : World} {d n : Nat} {f : Nat → Bool} (h : TabsIn w d n f) (hn : 1 ≤ n) (hn2 : n ≤ 512) (c k : Int) (T : Tab w) : Calls Tryd.prog 24 #[.pointer (some ⟨d, 0, none⟩), .int .i64 c, .int .i64 k] w (Num w (prevF n f c k)) := by
  have hC := Lib.hid (cols_any w h)
  have hH := held_any h hn hn2 c
  have hlt := held_lt hn c
  have hn0 : ((n : Int) == 0) = false := by simp; omega
  unfold prevF
  generalize heldF n c = q at hH hlt ⊢
  replace hH := Lib.hid hH
  by_cases hk : k < 1
  · have hE : Hid (prevAt f q k = q) := by show _ = _; unfold prevAt; rw [if_pos hk]
    clear h T
    go_enter Tryd.func24, Tryd.ntmps24
    go_wp2_with (first
      | (go_at_call 18; (with_reducible refine (hC.out).mono ?_); rintro e w' ⟨rfl, rfl⟩)
      | (go_at_call 34; (with_reducible refine (hH.out).mono ?_); rintro e w' ⟨rfl, rfl⟩))
    go_ret
    exact ⟨ret_int (by rw [hE.out]), Below.refl _ _⟩
  · have hr0 := Lib.hid h.range
    have hi := Lib.hid (wsL_info f)
    have hw : Hid (Calls Tryd.prog 31 #[.agg (wsL f).toArray, .int .i64 0, .int .i64 q] w (Ret8 w (inF f 0 q))) := Lib.hid (within_any f 0 q (by omega) (by omega) w)
    have hEe : prevAt f q k = if ((sts (inF f 0 q) 512).length : Int) < k then 0 else (sts (inF f 0 q) 512).getD ((sts (inF f 0 q) 512).length - k.toNat) 0 := by unfold prevAt; rw [if_neg hk]
    have hbd := sts_bound (inF f 0 q) 512
    have hcnt := Lib.hid (fun w => count_any (inF f 0 q) w)
    have hnth := Lib.hid (fun w m h1 h2 T => nth_any (inF f 0 q) m h1 h2 w T)
    have hinf := Lib.hid (ws_info (inF f 0 q))
    have hone := Lib.hid (ws_one (inF f 0 q))
    have hsz : Hid (zero8.size = (wsA (inF f 0 q)).size) := Lib.hid (by rw [ws_size]; rfl)
    generalize inF f 0 q = g at hw hEe hbd hcnt hnth hinf hone hsz
    obtain ⟨L, hL⟩ : ∃ L, L = sts g 512 := ⟨_, rfl⟩
    rw [← hL] at hEe hbd
    obtain ⟨m, hm⟩ : ∃ m, m = L.length := ⟨_, rfl⟩
    have hcnt2 : Hid (∀ w, Calls Tryd.prog 35 #[.agg (wsA g)] w (Num w m)) := Lib.hid fun w => by have := hcnt.out w; rw [← hL, ← hm] at this; exact this
    rw [← hm] at hEe hbd
    replace T := Lib.hid T
    by_cases hkm : (m : Int) < k
    · rw [if_pos hkm] at hEe
      rw [hEe]
      clear h hcnt hnth hEe hL hm
      go_enter Tryd.func24, Tryd.ntmps24
      go_wp2_with (first
        | (go_at_call 18; (with_reducible refine (hC.out).mono ?_); rintro e w' ⟨rfl, rfl⟩)
        | (go_at_call 34; (with_reducible refine (hH.out).mono ?_); rintro e w' ⟨rfl, rfl⟩)
        | (with_reducible show wpList _ _ _ (⟨some 21, .load _ (.tmp 20), _, _, _, _⟩ :: _) _ _; go_must (refine wpList_load_mid rfl _ (.tmp 20) rfl d 1 rfl (wsL f) _ hr0.out Tryd.underlying49 rfl hi.out ?_))
        | (go_at_call 31; (with_reducible refine (hw.out).mono ?_); rintro e w1 ⟨rfl, hb1⟩)
        | (with_reducible show wpList _ _ _ (⟨none, .store _ (.tmp 7) _, _, _, _, _⟩ :: _) _ _; go_must (refine wpList_storeAll rfl _ (.tmp 7) (.tmp 23) rfl (made8 w1) (wsA g) rfl rfl hinf.out hsz.out hone.out ?_); intro w2 hd2 ho2; replace hd2 := Lib.hid hd2)
        | (with_reducible show wpList _ _ _ (⟨some 24, .load _ (.tmp 7), _, _, _, _⟩ :: _) _ _; go_must (refine wpList_load_row rfl _ (.tmp 7) rfl w1.heap.size rfl _ (wsA g) (0, 0) _ (blk hd2.out) Tryd.underlying49 rfl hinf.out ?_))
        | (go_at_call 35; (with_reducible refine (hcnt2.out _).mono ?_); rintro e w3 ⟨rfl, hb3⟩))
      go_ret
      exact ⟨rfl, below_next (below_made hb1 ho2) hb3⟩
    · obtain ⟨K, rfl⟩ : ∃ K : Nat, k = K := ⟨k.toNat, by omega⟩
      have hK1 : 1 ≤ K := by omega
      have hK2 : K ≤ m := by omega
      rw [if_neg hkm, Int.toNat_natCast] at hEe
      have hN : Hid (∀ w, Tab w → Calls Tryd.prog 36 #[.agg (wsA g), .int .i64 ((m : Int) - (K : Int) + 1)] w (Num w (L.getD (m - K) 0))) := Lib.hid fun w T => by
        have := hnth.out w (m - K + 1) (by omega) (by rw [← hL, ← hm]; omega) T
        rw [← hL, Nat.add_sub_cancel, show ((m - K + 1 : Nat) : Int) = (m : Int) - (K : Int) + 1 by omega] at this
        exact this
      rw [hEe]
      generalize L.getD (m - K) 0 = x at hN
      clear h hcnt hnth hEe hL hm
      go_enter Tryd.func24, Tryd.ntmps24
      go_wp2_with (first
        | (go_at_call 18; (with_reducible refine (hC.out).mono ?_); rintro e w' ⟨rfl, rfl⟩)
        | (go_at_call 34; (with_reducible refine (hH.out).mono ?_); rintro e w' ⟨rfl, rfl⟩)
        | (with_reducible show wpList _ _ _ (⟨some 21, .load _ (.tmp 20), _, _, _, _⟩ :: _) _ _; go_must (refine wpList_load_mid rfl _ (.tmp 20) rfl d 1 rfl (wsL f) _ hr0.out Tryd.underlying49 rfl hi.out ?_))
        | (go_at_call 31; (with_reducible refine (hw.out).mono ?_); rintro e w1 ⟨rfl, hb1⟩)
        | (with_reducible show wpList _ _ _ (⟨none, .store _ (.tmp 7) _, _, _, _, _⟩ :: _) _ _; go_must (refine wpList_storeAll rfl _ (.tmp 7) (.tmp 23) rfl (made8 w1) (wsA g) rfl rfl hinf.out hsz.out hone.out ?_); intro w2 hd2 ho2; replace hd2 := Lib.hid hd2)
        | (with_reducible show wpList _ _ _ (⟨some 24, .load _ (.tmp 7), _, _, _, _⟩ :: _) _ _; go_must (refine wpList_load_row rfl _ (.tmp 7) rfl w1.heap.size rfl _ (wsA g) (0, 0) _ (blk hd2.out) Tryd.underlying49 rfl hinf.out ?_))
        | (go_at_call 35; (with_reducible refine (hcnt2.out _).mono ?_); rintro e w3 ⟨rfl, hb3⟩)
        | (with_reducible show wpList _ _ _ (⟨some 29, .load _ (.tmp 7), _, _, _, _⟩ :: _) _ _; go_must (refine wpList_load_row rfl _ (.tmp 7) rfl w1.heap.size rfl _ (wsA g) (0, 0) _ (blk (hd2.out.only (Only.of_below hb3 []) (by simp))) Tryd.underlying49 rfl hinf.out ?_))
        | (go_at_call 36; (with_reducible refine (hN.out _ (T.out.below (below_next (below_made hb1 ho2) hb3))).mono ?_); rintro e w4 ⟨rfl, hb4⟩))
      go_ret
      exact ⟨rfl, below_next (below_next (below_made hb1 ho2) hb3) hb4⟩

end Go.Proofs.YtihmagpgbjlggaaDoor.Tbs
