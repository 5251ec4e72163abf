/- Part 16 of the proof that the card of EmuNone holds. -/
import Derived.Deep.MidRow
import Derived.Test.YtkjpjegmanpbfaaGreatDoorPN15
set_option maxHeartbeats 16000000
set_option maxRecDepth 100000
namespace Go.Proofs.YtkjpjegmanpbfaaGreatDoor.Tbs
open Go Go.RowKit Go.Proofs.YtkjpjegmanpbfaaGreatDoor.Com
def tabL (n : Nat) (f : Nat → Bool) : List Value := .int .i64 n :: wsL f
def TabsIn (w : World) (d n : Nat) (f : Nat → Bool) : Prop := Block w d 147 (tabL n f).toArray
theorem TabsIn.blk {w : World} {d n : Nat} {f : Nat → Bool} (h : TabsIn w d n f) : Block w d 147 (tabL n f).toArray := h
theorem TabsIn.cols {w : World} {d n : Nat} {f : Nat → Bool} (h : TabsIn w d n f) : w.cell? ⟨d, 0, none⟩ = some (.int .i64 n) := Block.cell h 0 rfl
theorem tab_word {n : Nat} {f : Nat → Bool} {i : Nat} (hi : i < 8) : (tabL n f).toArray[1 + i]? = some (.int .u64 (wd f i)) := by
 rw [List.getElem?_toArray, Nat.add_comm]
 exact wsl_at f hi
theorem TabsIn.range {w : World} {d n : Nat} {f : Nat → Bool} (h : TabsIn w d n f) : w.rangeAt d 1 (wsL f) := fun j v hv => Block.cell h (1 + j) (by
 rw [List.getElem?_toArray, Nat.add_comm]
 exact hv)
theorem TabsIn.only {L : List Nat} {w w' : World} {d n : Nat} {f : Nat → Bool} (h : TabsIn w d n f) (ho : Only L w w') (hn : d ∉ L) : TabsIn w' d n f := Block.only h ho hn
theorem TabsIn.below {w w' : World} {d n : Nat} {f : Nat → Bool} (h : TabsIn w d n f) (hb : Below w.heap.size w w') : TabsIn w' d n f := h.only (Only.of_below hb []) (by simp)
def mayB (n : Int) : Bool := decide (1 ≤ n) && decide (n ≤ 512)
theorem may_true {n : Int} (h : 1 ≤ n ∧ n ≤ 512) : mayB n = true := by simp [mayB, h]
theorem may_false {n : Int} (h : ¬ (1 ≤ n ∧ n ≤ 512)) : mayB n = false := by
 unfold mayB
 rw [Bool.and_eq_false_iff]
 simp
 omega
theorem mayCount_any (n : Int) (w : World) : Calls Tryz.prog 85 #[.int .i64 n] w fun e w' => e = .returned (.bool (mayB n)) ∧ w = w' := by
 by_cases h1 : 1 ≤ n
 ·by_cases h2 : n ≤ 512
  ·rw [may_true ⟨h1, h2⟩]
   go_enter Tryz.func85, Tryz.ntmps85
   go_wp2
   go_ret
   exact ⟨rfl, rfl⟩
  ·rw [may_false (by omega)]
   go_enter Tryz.func85, Tryz.ntmps85
   go_wp2
   go_ret
   exact ⟨ret_bool (by simp), rfl⟩
 ·rw [may_false (by omega)]
  go_enter Tryz.func85, Tryz.ntmps85
  go_wp2
  go_ret
  exact ⟨ret_bool (by simp), rfl⟩
theorem cols_any {d n : Nat} {f : Nat → Bool} (w : World) (h : TabsIn w d n f) : Calls Tryz.prog 84 #[.pointer (some ⟨d, 0, none⟩)] w fun e w' => e = .returned (.int .i64 n) ∧ w = w' := by
 have hc := h.cols
 clear h
 go_enter Tryz.func84, Tryz.ntmps84
 go_wp2
 go_ret
 exact ⟨rfl, rfl⟩
def Err (w : World) (k : Int) (e : Ending) (w' : World) : Prop := e = .returned (.int .i64 k) ∧ w = w'
theorem refuse_ok {w : World} {d n : Nat} {f : Nat → Bool} (h : TabsIn w d n f) (c : Nat) (hc : c < n) : Calls Tryz.prog 172 #[.pointer (some ⟨d, 0, none⟩), .int .i64 c] w (Err w 0) := by
 have hC := Lib.hid (cols_any w h)
 have h0 := h.cols
 have hn0 : ((n : Int) == 0) = false := by simp; omega
 have h1 : decide ((c : Int) < 0) = false := by simp
 have h2 : ¬ ((n : Int) ≤ (c : Int)) := by omega
 clear h
 go_enter Tryz.func172, Tryz.ntmps172
 go_wp2_with ((go_at_call 84; (with_reducible refine (hC.out).mono ?_); rintro e w' ⟨rfl, rfl⟩))
 go_ret
 exact ⟨rfl, rfl⟩
def Turned (w : World) (d n : Nat) (f : Nat → Bool) (k : Int) (e : Ending) (w' : World) : Prop := e = .returned (.int .i64 k) ∧ TabsIn w' d n f ∧ Only [d] w w'
theorem bit_tabs {w w' : World} {d n : Nat} {f : Nat → Bool} {c : Nat} {b : Bool} {e : Ending} (hb : Bit w d 1 147 (tabL n f).toArray f c b e w') : TabsIn w' d n (putF f c b) ∧ Only [d] w w' := by
 obtain ⟨_, h1, h2⟩ := hb
 refine ⟨?_, h2⟩
 have e1 : (tabL n f).toArray.setIfInBounds (1 + c / 64) (.int .u64 (wd (putF f c b) (c / 64))) = (tabL n (putF f c b)).toArray := by
  rw [List.setIfInBounds_toArray, Nat.add_comm]
  unfold tabL
  rw [List.set_cons_succ, wsl_set fun j _ hne => (wd_other f c b hne).symm]
 rw [e1] at h1
 exact h1
theorem set_ok {w : World} {d n : Nat} {f : Nat → Bool} (h : TabsIn w d n f) (hn : n ≤ 512) (c : Nat) (hc : c < n) : Calls Tryz.prog 115 #[.pointer (some ⟨d, 0, none⟩), .int .i64 c] w (Turned w d n (putF f c true) 0) := by
 have hR := Lib.hid (refuse_ok h c hc)
 have hS := Lib.hid (set_any f c (by omega) d 1 147 _ w h (tab_word (by omega)))
 clear h hc
 go_enter Tryz.func115, Tryz.ntmps115
 go_wp2_with (first
  | (go_at_call 172; (with_reducible refine (hR.out).mono ?_); rintro e w' ⟨rfl, rfl⟩)
  | (go_at_call 173; (with_reducible refine (hS.out).mono ?_); rintro e w' ⟨⟨v', rfl⟩, hb'⟩))
 have hb := bit_tabs (e := .returned v') ⟨⟨v', rfl⟩, hb'⟩
 go_ret
 exact ⟨rfl, hb.1, hb.2⟩
theorem clr_ok {w : World} {d n : Nat} {f : Nat → Bool} (h : TabsIn w d n f) (hn : n ≤ 512) (c : Nat) (hc : c < n) : Calls Tryz.prog 189 #[.pointer (some ⟨d, 0, none⟩), .int .i64 c] w (Turned w d n (putF f c false) 0) := by
 have hR := Lib.hid (refuse_ok h c hc)
 have hS := Lib.hid (clear_any f c (by omega) d 1 147 _ w h (tab_word (by omega)))
 clear h hc
 go_enter Tryz.func189, Tryz.ntmps189
 go_wp2_with (first
  | (go_at_call 172; (with_reducible refine (hR.out).mono ?_); rintro e w' ⟨rfl, rfl⟩)
  | (go_at_call 154; (with_reducible refine (hS.out).mono ?_); rintro e w' ⟨⟨v', rfl⟩, hb'⟩))
 have hb := bit_tabs (e := .returned v') ⟨⟨v', rfl⟩, hb'⟩
 go_ret
 exact ⟨rfl, hb.1, hb.2⟩
def heldF (n : Nat) (c : Int) : Nat := if c < 0 then 0 else if (n : Int) ≤ c then n - 1 else c.toNat
theorem held_lt {n : Nat} (hn : 1 ≤ n) (c : Int) : heldF n c < n := by
 unfold heldF
 split
 ·omega
 ·split <;> omega
theorem held_any {w : World} {d n : Nat} {f : Nat → Bool} (h : TabsIn w d n f) (hn : 1 ≤ n) (hn2 : n ≤ 512) (c : Int) : Calls Tryz.prog 169 #[.pointer (some ⟨d, 0, none⟩), .int .i64 c] w (Err w (heldF n c)) := by
 have h0 := h.cols
 clear h
 by_cases h1 : c < 0
 ·have hE : Hid (0 = ((heldF n c : Nat) : Int)) := by show _ = _; unfold heldF; rw [if_pos h1]; rfl
  go_enter Tryz.func169, Tryz.ntmps169
  go_wp2
  all_goals (first | omega | skip)
  all_goals
   go_ret
   exact ⟨ret_int (by first | (rw [← hE.out]; done) | (rw [← hE.out]; omega)), rfl⟩
 by_cases h2 : (n : Int) ≤ c
 ·have hE : Hid ((n : Int) - 1 = ((heldF n c : Nat) : Int)) := by show _ = _; unfold heldF; rw [if_neg h1, if_pos h2]; omega
  go_enter Tryz.func169, Tryz.ntmps169
  go_wp2
  all_goals (first | omega | skip)
  all_goals
   go_ret
   exact ⟨ret_int (by first | (rw [← hE.out]; done) | (rw [← hE.out]; omega)), rfl⟩
 ·obtain ⟨k, rfl⟩ : ∃ k : Nat, c = k := ⟨c.toNat, by omega⟩
  have hE : Hid ((k : Int) = ((heldF n k : Nat) : Int)) := by show _ = _; unfold heldF; rw [if_neg h1, if_neg h2]; omega
  go_enter Tryz.func169, Tryz.ntmps169
  go_wp2
  all_goals (first | omega | skip)
  all_goals
   go_ret
   exact ⟨ret_int (by first | (rw [← hE.out]; done) | (rw [← hE.out]; omega)), rfl⟩
theorem tab_stored (n : Nat) (f g : Nat → Bool) : (((tabL n f).toArray.toList.take 1 ++ ((wsA g).toList ++ (tabL n f).toArray.toList.drop (1 + (wsA g).size))).toArray) = (tabL n g).toArray := by
 rw [ws_size]
 simp only [tabL, wsA, List.take_succ_cons, List.take_zero]
 rw [List.drop_eq_nil_of_le (by simp [ws_len])]
 simp
theorem ws_eq (g : Nat → Bool) : wsA g = #[.int .u64 (wd g 0), .int .u64 (wd g 1), .int .u64 (wd g 2), .int .u64 (wd g 3), .int .u64 (wd g 4), .int .u64 (wd g 5), .int .u64 (wd g 6), .int .u64 (wd g 7)] := by
 simp [wsA, wsL, List.range_succ]
theorem tab_eq (n : Nat) (g : Nat → Bool) : (tabL n g).toArray = #[.int .i64 n, .int .u64 (wd g 0), .int .u64 (wd g 1), .int .u64 (wd g 2), .int .u64 (wd g 3), .int .u64 (wd g 4), .int .u64 (wd g 5), .int .u64 (wd g 6), .int .u64 (wd g 7)] := by simp [tabL, wsL, List.range_succ]
theorem TabsIn.nine {w : World} {d n : Nat} {f : Nat → Bool} (h : TabsIn w d n f) : w.cell? ⟨d, 0, none⟩ = some (.int .i64 n) ∧ w.cell? ⟨d, 1, none⟩ = some (.int .u64 (wd f 0)) ∧ w.cell? ⟨d, 2, none⟩ = some (.int .u64 (wd f 1)) ∧ w.cell? ⟨d, 3, none⟩ = some (.int .u64 (wd f 2)) ∧ w.cell? ⟨d, 4, none⟩ = some (.int .u64 (wd f 3)) ∧ w.cell? ⟨d, 5, none⟩ = some (.int .u64 (wd f 4)) ∧ w.cell? ⟨d, 6, none⟩ = some (.int .u64 (wd f 5)) ∧ w.cell? ⟨d, 7, none⟩ = some (.int .u64 (wd f 6)) ∧ w.cell? ⟨d, 8, none⟩ = some (.int .u64 (wd f 7)) := by
 have hb := h.blk
 rw [tab_eq] at hb
 exact ⟨hb.cell 0 rfl, hb.cell 1 rfl, hb.cell 2 rfl, hb.cell 3 rfl, hb.cell 4 rfl, hb.cell 5 rfl, hb.cell 6 rfl, hb.cell 7 rfl, hb.cell 8 rfl⟩
theorem fold_tab (n : Nat) (g : Nat → Bool) : Array.foldl (fun (cs : Array Value) (x : Value × Nat) => cs.setIfInBounds (1 + x.snd) x.fst) #[.int .i64 n, .int .u64 0, .int .u64 0, .int .u64 0, .int .u64 0, .int .u64 0, .int .u64 0, .int .u64 0, .int .u64 0] (wsA g).zipIdx 0 8 = (tabL n g).toArray := by
 rw [tab_eq, ws_eq]
 simp
theorem clearAll_any {w : World} {d n : Nat} {f : Nat → Bool} (h : TabsIn w d n f) (hn : 1 ≤ n) : Calls Tryz.prog 190 #[.pointer (some ⟨d, 0, none⟩)] w (Turned w d n (fun _ => false) 0) := by
 have hC := Lib.hid (cols_any w h)
 have hn0 : ((n : Int) == 0) = false := by simp; omega
 have hinf := ws_info (fun _ => false)
 have hsz : Hid (1 + (wsA (fun _ => false)).size ≤ (tabL n f).toArray.size) := Lib.hid (by rw [ws_size]; simp [tabL, ws_len])
 have hst := tab_stored n f (fun _ => false)
 have hone := ws_one (fun _ => false)
 have hsz := hsz.out
 rw [none_ws] at hst hinf hone hsz
 replace hst := Lib.hid hst
 replace hinf := Lib.hid hinf
 replace hone := Lib.hid hone
 replace hsz := Lib.hid hsz
 replace h := Lib.hid h
 go_enter Tryz.func190, Tryz.ntmps190
 go_wp2_with (first
  | (go_at_call 84; (with_reducible refine (hC.out).mono ?_); rintro e w' ⟨rfl, rfl⟩)
  | (with_reducible show wpList _ _ _ (⟨none, .store _ (.tmp 9) _, _, _, _, _⟩ :: _) _ _; go_must (refine wpList_storeAt rfl _ (.tmp 9) (.tmp 7) rfl h.out.blk zero8 rfl rfl hsz.out hinf.out hone.out ?_); intro w1 hd1 ho1))
 rw [hst.out] at hd1
 go_ret
 exact ⟨rfl, hd1, ho1⟩
theorem new_ok (n : Nat) (h0 : 1 ≤ n) (h1 : n ≤ 512) (w : World) : Calls Tryz.prog 51 #[.int .i64 n] w fun e w' => ∃ d, e = .returned (.tuple #[.pointer (some ⟨d, 0, none⟩), .int .i64 0]) ∧ TabsIn w' d n (freshF 0 n) ∧ Below w.heap.size w w' ∧ w.heap.size ≤ d := by
 have hm := Lib.hid (mayCount_any n w)
 rw [may_true (by omega)] at hm
 have hf := fresh_any 0 n (by omega) (by omega)
 have hs8 := ws_size (freshF 0 n)
 have hfo := Lib.hid (fold_tab n (freshF 0 n))
 generalize freshF 0 n = g at hf hs8 hfo ⊢
 replace hf := Lib.hid hf
 have hz8 : (zero8).size = 8 := rfl
 go_enter Tryz.func51, Tryz.ntmps51
 go_wp2_with (first
  | (go_at_call 85; (with_reducible refine (hm.out).mono ?_); rintro e w' ⟨rfl, rfl⟩)
  | (go_at_call 88; (with_reducible refine (hf.out _).mono ?_); rintro e w' ⟨rfl, hb'⟩))
 rw [hfo.out]
 go_ret2
 exact ⟨_, rfl, Block.made w' _ _, below_next hb' (below_new _ _), hb'.size⟩
def prevAt (f : Nat → Bool) (h : Nat) (k : Int) : Nat := if k < 1 then h else if ((sts (inF f 0 h) 512).length : Int) < k then 0 else (sts (inF f 0 h) 512).getD ((sts (inF f 0 h) 512).length - k.toNat) 0
def nextAt (n : Nat) (f : Nat → Bool) (h : Nat) (k : Int) : Nat := if k < 1 then h else if ((sts (inF f (h + 1) n) 512).length : Int) < k then n - 1 else (sts (inF f (h + 1) n) 512).getD (k.toNat - 1) 0
def prevF (n : Nat) (f : Nat → Bool) (c k : Int) : Nat := prevAt f (heldF n c) k
def nextF (n : Nat) (f : Nat → Bool) (c k : Int) : Nat := nextAt n f (heldF n c) k
theorem wsL_info (f : Nat → Bool) : (Tryz.prog.info? 145).map (·.size) = some (wsL f).length := by rw [ws_len]; kernel_rfl
theorem made8 (w : World) : Block (w.alloc (.cells #[.int .u64 0, .int .u64 0, .int .u64 0, .int .u64 0, .int .u64 0, .int .u64 0, .int .u64 0, .int .u64 0] 145)) w.heap.size 145 zero8 := Block.made w _ zero8
theorem below_made {w w1 w2 : World} {t : TypeId} (h1 : Below w.heap.size w w1) (h2 : Only [w1.heap.size] (w1.alloc (.cells #[.int .u64 0, .int .u64 0, .int .u64 0, .int .u64 0, .int .u64 0, .int .u64 0, .int .u64 0, .int .u64 0] t)) w2) : Below w.heap.size w w2 :=
 below_on (below_next h1 (below_new w1 _)) h2 h1.size
theorem prev_any {w : World} {d n : Nat} {f : Nat → Bool} (h : TabsIn w d n f) (hn : 1 ≤ n) (hn2 : n ≤ 512) (c k : Int) (T : Tab w) : Calls Tryz.prog 179 #[.pointer (some ⟨d, 0, none⟩), .int .i64 c, .int .i64 k] w (Num w (prevF n f c k)) := by
 have hC := Lib.hid (cols_any w h)
 have hH := held_any h hn hn2 c
 have hlt := held_lt hn c
 have hn0 : ((n : Int) == 0) = false := by simp; omega
 unfold prevF
 generalize heldF n c = q at hH hlt ⊢
 replace hH := Lib.hid hH
 by_cases hk : k < 1
 ·have hE : Hid (prevAt f q k = q) := by show _ = _; unfold prevAt; rw [if_pos hk]
  clear h T
  go_enter Tryz.func179, Tryz.ntmps179
  go_wp2_with (first
   | (go_at_call 84; (with_reducible refine (hC.out).mono ?_); rintro e w' ⟨rfl, rfl⟩)
   | (go_at_call 169; (with_reducible refine (hH.out).mono ?_); rintro e w' ⟨rfl, rfl⟩))
  go_ret
  exact ⟨ret_int (by rw [hE.out]), Below.refl _ _⟩
 ·have hr0 := Lib.hid h.range
  have hi := Lib.hid (wsL_info f)
  have hw : Hid (Calls Tryz.prog 86 #[.agg (wsL f).toArray, .int .i64 0, .int .i64 q] w (Ret8 w (inF f 0 q))) := Lib.hid (within_any f 0 q (by omega) (by omega) w)
  have hEe : prevAt f q k = if ((sts (inF f 0 q) 512).length : Int) < k then 0 else (sts (inF f 0 q) 512).getD ((sts (inF f 0 q) 512).length - k.toNat) 0 := by unfold prevAt; rw [if_neg hk]
  have hbd := sts_bound (inF f 0 q) 512
  have hcnt := Lib.hid (fun w => count_any (inF f 0 q) w)
  have hnth := Lib.hid (fun w m h1 h2 T => nth_any (inF f 0 q) m h1 h2 w T)
  have hinf := Lib.hid (ws_info (inF f 0 q))
  have hone := Lib.hid (ws_one (inF f 0 q))
  have hsz : Hid (zero8.size = (wsA (inF f 0 q)).size) := Lib.hid (by rw [ws_size]; rfl)
  generalize inF f 0 q = g at hw hEe hbd hcnt hnth hinf hone hsz
  obtain ⟨L, hL⟩ : ∃ L, L = sts g 512 := ⟨_, rfl⟩
  rw [← hL] at hEe hbd
  obtain ⟨m, hm⟩ : ∃ m, m = L.length := ⟨_, rfl⟩
  have hcnt2 : Hid (∀ w, Calls Tryz.prog 170 #[.agg (wsA g)] w (Num w m)) := Lib.hid fun w => by have := hcnt.out w; rw [← hL, ← hm] at this; exact this
  rw [← hm] at hEe hbd
  replace T := Lib.hid T
  by_cases hkm : (m : Int) < k
  ·rw [if_pos hkm] at hEe
   rw [hEe]
   clear h hcnt hnth hEe hL hm
   go_enter Tryz.func179, Tryz.ntmps179
   go_wp2_with (first
    | (go_at_call 84; (with_reducible refine (hC.out).mono ?_); rintro e w' ⟨rfl, rfl⟩)
    | (go_at_call 169; (with_reducible refine (hH.out).mono ?_); rintro e w' ⟨rfl, rfl⟩)
    | (with_reducible show wpList _ _ _ (⟨some 21, .load _ (.tmp 20), _, _, _, _⟩ :: _) _ _; go_must (refine wpList_load_mid rfl _ (.tmp 20) rfl d 1 rfl (wsL f) _ hr0.out Tryz.underlying145 rfl hi.out ?_))
    | (go_at_call 86; (with_reducible refine (hw.out).mono ?_); rintro e w1 ⟨rfl, hb1⟩)
    | (with_reducible show wpList _ _ _ (⟨none, .store _ (.tmp 7) _, _, _, _, _⟩ :: _) _ _; go_must (refine wpList_storeAll rfl _ (.tmp 7) (.tmp 23) rfl (made8 w1) (wsA g) rfl rfl hinf.out hsz.out hone.out ?_); intro w2 hd2 ho2; replace hd2 := Lib.hid hd2)
    | (with_reducible show wpList _ _ _ (⟨some 24, .load _ (.tmp 7), _, _, _, _⟩ :: _) _ _; go_must (refine wpList_load_row rfl _ (.tmp 7) rfl w1.heap.size rfl _ (wsA g) (0, 0) _ (blk hd2.out) Tryz.underlying145 rfl hinf.out ?_))
    | (go_at_call 170; (with_reducible refine (hcnt2.out _).mono ?_); rintro e w3 ⟨rfl, hb3⟩))
   go_ret
   exact ⟨rfl, below_next (below_made hb1 ho2) hb3⟩
  ·obtain ⟨K, rfl⟩ : ∃ K : Nat, k = K := ⟨k.toNat, by omega⟩
   have hK1 : 1 ≤ K := by omega
   have hK2 : K ≤ m := by omega
   rw [if_neg hkm, Int.toNat_natCast] at hEe
   have hN : Hid (∀ w, Tab w → Calls Tryz.prog 171 #[.agg (wsA g), .int .i64 ((m : Int) - (K : Int) + 1)] w (Num w (L.getD (m - K) 0))) := Lib.hid fun w T => by
    have := hnth.out w (m - K + 1) (by omega) (by rw [← hL, ← hm]; omega) T
    rw [← hL, Nat.add_sub_cancel, show ((m - K + 1 : Nat) : Int) = (m : Int) - (K : Int) + 1 by omega] at this
    exact this
   rw [hEe]
   generalize L.getD (m - K) 0 = x at hN
   clear h hcnt hnth hEe hL hm
   go_enter Tryz.func179, Tryz.ntmps179
   go_wp2_with (first
    | (go_at_call 84; (with_reducible refine (hC.out).mono ?_); rintro e w' ⟨rfl, rfl⟩)
    | (go_at_call 169; (with_reducible refine (hH.out).mono ?_); rintro e w' ⟨rfl, rfl⟩)
    | (with_reducible show wpList _ _ _ (⟨some 21, .load _ (.tmp 20), _, _, _, _⟩ :: _) _ _; go_must (refine wpList_load_mid rfl _ (.tmp 20) rfl d 1 rfl (wsL f) _ hr0.out Tryz.underlying145 rfl hi.out ?_))
    | (go_at_call 86; (with_reducible refine (hw.out).mono ?_); rintro e w1 ⟨rfl, hb1⟩)
    | (with_reducible show wpList _ _ _ (⟨none, .store _ (.tmp 7) _, _, _, _, _⟩ :: _) _ _; go_must (refine wpList_storeAll rfl _ (.tmp 7) (.tmp 23) rfl (made8 w1) (wsA g) rfl rfl hinf.out hsz.out hone.out ?_); intro w2 hd2 ho2; replace hd2 := Lib.hid hd2)
    | (with_reducible show wpList _ _ _ (⟨some 24, .load _ (.tmp 7), _, _, _, _⟩ :: _) _ _; go_must (refine wpList_load_row rfl _ (.tmp 7) rfl w1.heap.size rfl _ (wsA g) (0, 0) _ (blk hd2.out) Tryz.underlying145 rfl hinf.out ?_))
    | (go_at_call 170; (with_reducible refine (hcnt2.out _).mono ?_); rintro e w3 ⟨rfl, hb3⟩)
    | (with_reducible show wpList _ _ _ (⟨some 29, .load _ (.tmp 7), _, _, _, _⟩ :: _) _ _; go_must (refine wpList_load_row rfl _ (.tmp 7) rfl w1.heap.size rfl _ (wsA g) (0, 0) _ (blk (hd2.out.only (Only.of_below hb3 []) (by simp))) Tryz.underlying145 rfl hinf.out ?_))
    | (go_at_call 171; (with_reducible refine (hN.out _ (T.out.below (below_next (below_made hb1 ho2) hb3))).mono ?_); rintro e w4 ⟨rfl, hb4⟩))
   go_ret
   exact ⟨rfl, below_next (below_next (below_made hb1 ho2) hb3) hb4⟩
theorem storing8 {w : World} {b : Nat} (h : Block w b 145 zero8) (g : Nat → Bool) : ∃ w', (storeCells ⟨b, 0, none⟩ (wsA g).toList).run Tryz.prog w = .ok () w' ∧ Block w' b 145 (wsA g) ∧ Only [b] w w' := by
 have hz : zero8.size = 8 := rfl
 have hl : (wsA g).toList.length = 8 := by rw [Array.length_toList, ws_size]
 have hrun := run_storeCells_at Tryz.prog b 0 145 (wsA g).toList 0 zero8 w h (by rw [hl, hz]; omega) (fun x hx => (Array.all_eq_true_iff_forall_mem.1 (ws_one g)) x (by simpa using hx))
 refine ⟨_, hrun, ?_, only_setRow w b _⟩
 have := setRow_heap w b zero8 (zero8.toList.take (0 + 0) ++ ((wsA g).toList ++ zero8.toList.drop (0 + 0 + (wsA g).toList.length))).toArray 145 _ h
 rw [hl] at this ⊢
 simpa [zero8, Block] using this
theorem TabsIn.nineB {w : World} {d n : Nat} {f : Nat → Bool} (h : TabsIn w d n f) : ∀ w', Below w.heap.size w w' → (w'.cell? ⟨d, 0, none⟩ = some (.int .i64 n) ∧ w'.cell? ⟨d, 1, none⟩ = some (.int .u64 (wd f 0)) ∧ w'.cell? ⟨d, 2, none⟩ = some (.int .u64 (wd f 1)) ∧ w'.cell? ⟨d, 3, none⟩ = some (.int .u64 (wd f 2)) ∧ w'.cell? ⟨d, 4, none⟩ = some (.int .u64 (wd f 3)) ∧ w'.cell? ⟨d, 5, none⟩ = some (.int .u64 (wd f 4)) ∧ w'.cell? ⟨d, 6, none⟩ = some (.int .u64 (wd f 5)) ∧ w'.cell? ⟨d, 7, none⟩ = some (.int .u64 (wd f 6)) ∧ w'.cell? ⟨d, 8, none⟩ = some (.int .u64 (wd f 7))) := fun _ hb => (h.below hb).nine
theorem next_any {w : World} {d n : Nat} {f : Nat → Bool} (h : TabsIn w d n f) (hn : 1 ≤ n) (hn2 : n ≤ 512) (c k : Int) (T : Tab w) : Calls Tryz.prog 113 #[.pointer (some ⟨d, 0, none⟩), .int .i64 c, .int .i64 k] w (Num w (nextF n f c k)) := by
 have hC := Lib.hid (cols_any w h)
 have hH := held_any h hn hn2 c
 have hlt := held_lt hn c
 have hn0 : ((n : Int) == 0) = false := by simp; omega
 unfold nextF
 generalize heldF n c = q at hH hlt ⊢
 replace hH := Lib.hid hH
 by_cases hk : k < 1
 ·have hE : Hid (nextAt n f q k = q) := by show _ = _; unfold nextAt; rw [if_pos hk]
  clear h T
  go_enter Tryz.func113, Tryz.ntmps113
  go_wp2_with (first
   | (go_at_call 84; (with_reducible refine (hC.out).mono ?_); rintro e w' ⟨rfl, rfl⟩)
   | (go_at_call 169; (with_reducible refine (hH.out).mono ?_); rintro e w' ⟨rfl, rfl⟩))
  go_ret
  exact ⟨ret_int (by rw [hE.out]), Below.refl _ _⟩
 ·have hc := h.nine
  have hS := Lib.hid h.nineB
  have hw : Hid (∀ w, Calls Tryz.prog 86 #[.agg #[.int .u64 (wd f 0), .int .u64 (wd f 1), .int .u64 (wd f 2), .int .u64 (wd f 3), .int .u64 (wd f 4), .int .u64 (wd f 5), .int .u64 (wd f 6), .int .u64 (wd f 7)], .int .i64 ((q : Int) + 1), .int .i64 n] w (Ret8 w (inF f (q + 1) n))) := Lib.hid fun w => by
   have := within_any f (q + 1) n (by omega) (by omega) w
   rwa [ws_eq] at this
  have hEe : nextAt n f q k = if ((sts (inF f (q + 1) n) 512).length : Int) < k then n - 1 else (sts (inF f (q + 1) n) 512).getD (k.toNat - 1) 0 := by unfold nextAt; rw [if_neg hk]
  have hbd := sts_bound (inF f (q + 1) n) 512
  have hcnt := Lib.hid (fun w => count_any (inF f (q + 1) n) w)
  have hnth := Lib.hid (fun w m h1 h2 T => nth_any (inF f (q + 1) n) m h1 h2 w T)
  have hinf := Lib.hid (ws_info (inF f (q + 1) n))
  have hsto := Lib.hid (fun (w : World) (b : Nat) (h : Block w b 145 zero8) => storing8 h (inF f (q + 1) n))
  have hs8 := ws_size (inF f (q + 1) n)
  have hcut := Lib.hid (fun w' hb => (h.below hb : TabsIn w' d n f))
  generalize inF f (q + 1) n = g at hw hEe hbd hcnt hnth hinf hsto hs8
  obtain ⟨L, hL⟩ : ∃ L, L = sts g 512 := ⟨_, rfl⟩
  rw [← hL] at hEe hbd
  obtain ⟨m, hm⟩ : ∃ m, m = L.length := ⟨_, rfl⟩
  have hcnt2 : Hid (∀ w, Calls Tryz.prog 170 #[.agg (wsA g)] w (Num w m)) := Lib.hid fun w => by have := hcnt.out w; rw [← hL, ← hm] at this; exact this
  rw [← hm] at hEe hbd
  replace T := Lib.hid T
  replace hEe := Lib.hid hEe
  replace hL := Lib.hid hL
  replace hm := Lib.hid hm
  have hwr : IntKind.i64.wrap ((q : Int) + 1) = (q : Int) + 1 := IntWalk.i64_in _ (by omega)
  clear h hcnt
  go_enter Tryz.func113, Tryz.ntmps113
  go_wp2_with (first
   | (go_at_call 84; (with_reducible refine (hC.out).mono ?_); rintro e w' ⟨rfl, rfl⟩)
   | (go_at_call 169; (with_reducible refine (hH.out).mono ?_); rintro e w' ⟨rfl, rfl⟩))
  have hdw := below_dr (Below.refl w.heap.size w) 1
  have hda := below_dr (below_new w (.cells #[.int .u64 0, .int .u64 0, .int .u64 0, .int .u64 0, .int .u64 0, .int .u64 0, .int .u64 0, .int .u64 0] 145)) 1
  have hma : Block ((w.alloc (.cells #[.int .u64 0, .int .u64 0, .int .u64 0, .int .u64 0, .int .u64 0, .int .u64 0, .int .u64 0, .int .u64 0] 145)).drew) w.heap.size 145 zero8 := (made8 w).only (only_drew [] _) (by simp)
  replace hma := Lib.hid hma
  go_region_held3 (fun w' => w'.cell? ⟨d, 0, none⟩ = some (.int .i64 n) ∧ w'.cell? ⟨d, 1, none⟩ = some (.int .u64 (wd f 0)) ∧ w'.cell? ⟨d, 2, none⟩ = some (.int .u64 (wd f 1)) ∧ w'.cell? ⟨d, 3, none⟩ = some (.int .u64 (wd f 2)) ∧ w'.cell? ⟨d, 4, none⟩ = some (.int .u64 (wd f 3)) ∧ w'.cell? ⟨d, 5, none⟩ = some (.int .u64 (wd f 4)) ∧ w'.cell? ⟨d, 6, none⟩ = some (.int .u64 (wd f 5)) ∧ w'.cell? ⟨d, 7, none⟩ = some (.int .u64 (wd f 6)) ∧ w'.cell? ⟨d, 8, none⟩ = some (.int .u64 (wd f 7))) (first | exact hc | exact hS.out _ (by assumption) | go_keep)
   (first
    | (go_at_call 86; (with_reducible refine (hw.out w.drew).mono ?_); rintro e w1 ⟨rfl, hb1'⟩; have hb1 : Below w.heap.size w w1 := below_next hdw hb1'; obtain ⟨w7, hst7, hB7, ho7⟩ := hsto.out _ _ (made8 w1); have hb8 := below_next hb1 (below_new w1 (.cells #[.int .u64 0, .int .u64 0, .int .u64 0, .int .u64 0, .int .u64 0, .int .u64 0, .int .u64 0, .int .u64 0] 145)); have hb7 : Below w.heap.size w w7 := below_made hb1 ho7)
    | (go_at_call 86; (with_reducible refine (hw.out (w.alloc (.cells #[.int .u64 0, .int .u64 0, .int .u64 0, .int .u64 0, .int .u64 0, .int .u64 0, .int .u64 0, .int .u64 0] 145)).drew).mono ?_); rintro e w1 ⟨rfl, hb1'⟩; have hb1 : Below w.heap.size w w1 := below_next hda hb1'; obtain ⟨w7, hst7, hB7, ho7⟩ := hsto.out w1 _ (hma.out.only (Only.of_below hb1' []) (by simp)); have hb7 : Below w.heap.size w w7 := below_on hb1 ho7 (Nat.le_refl _)))
  all_goals
   replace hB7 := Lib.hid hB7
   replace hb7 := Lib.hid hb7
   have hc7 := hcut.out w7 hb7.out
   have hcol7 := hc7.cols
   clear hst7 ho7 hb1' hb1 hdw hda hS hc hwr
   by_cases hkm : (m : Int) < k
   ·have hE := hEe.out
    rw [if_pos hkm] at hE
    replace hE := Lib.hid hE
    have hn1 : (n : Int) - 1 = ((n - 1 : Nat) : Int) := by omega
    have hc9 := Lib.hid (fun w8 (hb : Below w7.heap.size w7 w8) => (hc7.below hb).cols)
    replace hn1 := Lib.hid hn1
    clear hc7 hcol7
    go_wp2_with (first
     | (with_reducible show wpList _ _ _ (⟨some 29, .load _ (.tmp 7), _, _, _, _⟩ :: _) _ _; go_must (refine wpList_load_row rfl _ (.tmp 7) rfl _ rfl _ (wsA g) (0, 0) _ (blk hB7.out) Tryz.underlying145 rfl hinf.out ?_))
     | (go_at_call 170; (with_reducible refine (hcnt2.out _).mono ?_); rintro e w8 ⟨rfl, hb8'⟩; have hcol8 := hc9.out w8 hb8'))
    go_ret
    exact ⟨ret_int (by rw [hn1.out, hE.out]), below_next hb7.out hb8'⟩
   ·obtain ⟨K, rfl⟩ : ∃ K : Nat, k = K := ⟨k.toNat, by omega⟩
    have hK1 : 1 ≤ K := by omega
    have hK2 : K ≤ m := by omega
    have hE := hEe.out
    rw [if_neg hkm, Int.toNat_natCast] at hE
    have hN : Hid (∀ w, Tab w → Calls Tryz.prog 171 #[.agg (wsA g), .int .i64 K] w (Num w (L.getD (K - 1) 0))) := Lib.hid fun w T => by
     have := hnth.out w K hK1 (by rw [← hL.out, ← hm.out]; omega) T
     rw [← hL.out] at this
     exact this
    generalize L.getD (K - 1) 0 = x at hN hE
    replace hE := Lib.hid hE
    clear hc7 hcol7
    go_wp2_with (first
     | (with_reducible show wpList _ _ _ (⟨some 29, .load _ (.tmp 7), _, _, _, _⟩ :: _) _ _; go_must (refine wpList_load_row rfl _ (.tmp 7) rfl _ rfl _ (wsA g) (0, 0) _ (blk hB7.out) Tryz.underlying145 rfl hinf.out ?_))
     | (go_at_call 170; (with_reducible refine (hcnt2.out _).mono ?_); rintro e w8 ⟨rfl, hb8'⟩)
     | (with_reducible show wpList _ _ _ (⟨some 37, .load _ (.tmp 7), _, _, _, _⟩ :: _) _ _; go_must (refine wpList_load_row rfl _ (.tmp 7) rfl _ rfl _ (wsA g) (0, 0) _ (blk (hB7.out.only (Only.of_below hb8' []) (by simp))) Tryz.underlying145 rfl hinf.out ?_))
     | (go_at_call 171; (with_reducible refine (hN.out _ (T.out.below (below_next hb7.out hb8'))).mono ?_); rintro e w9 ⟨rfl, hb9'⟩))
    go_ret
    exact ⟨ret_int (by rw [hE.out]), below_next (below_next hb7.out hb8') hb9'⟩
end Go.Proofs.YtkjpjegmanpbfaaGreatDoor.Tbs
namespace Go.Proofs.YtkjpjegmanpbfaaGreatDoor.Mds
structure Md where
 a0 : Bool
 a1 : Bool
 a2 : Bool
 a3 : Bool
 a4 : Bool
 a5 : Bool
 a6 : Bool
 a7 : Bool
def Md.get (m : Md) : Nat → Bool
 | 0 => m.a0
 | 1 => m.a1
 | 2 => m.a2
 | 3 => m.a3
 | 4 => m.a4
 | 5 => m.a5
 | 6 => m.a6
 | 7 => m.a7
 | _ => false
def Md.set (m : Md) (k : Nat) (b : Bool) : Md :=
 match k with
 | 0 => { m with a0 := b }
 | 1 => { m with a1 := b }
 | 2 => { m with a2 := b }
 | 3 => { m with a3 := b }
 | 4 => { m with a4 := b }
 | 5 => { m with a5 := b }
 | 6 => { m with a6 := b }
 | 7 => { m with a7 := b }
 | _ => m
def spot (p : Bool) (n : Int) : Nat :=
 if p then
  if n = 1 then 2 else if n = 6 then 3 else if n = 7 then 4 else if n = 25 then 5 else if n = 47 then 6 else if n = 1047 then 6 else if n = 1049 then 6 else if n = 2004 then 7 else 8
 else if n = 4 then 0 else if n = 20 then 1 else 8
def pow : Nat → Int
 | 0 => 1
 | 1 => 2
 | 2 => 4
 | 3 => 8
 | 4 => 16
 | 5 => 32
 | 6 => 64
 | 7 => 128
 | _ => 0
def one (b : Bool) (v : Int) : Int := if b then v else 0
def Md.bits (m : Md) : Int := one m.a0 1 + one m.a1 2 + one m.a2 4 + one m.a3 8 + one m.a4 16 + one m.a5 32 + one m.a6 64 + one m.a7 128
def start : Md := ⟨false, false, false, false, true, true, false, false⟩
def none0 : Md := ⟨false, false, false, false, false, false, false, false⟩
def Md.put (m : Md) (p : Bool) (n : Int) (on : Bool) : Md := m.set (spot p n) on
def Md.has (m : Md) (p : Bool) (n : Int) : Bool := m.get (spot p n)
def known (p : Bool) (n : Int) : Bool := decide (spot p n < 8)
theorem spot_le (p : Bool) (n : Int) : spot p n ≤ 8 := by
 unfold spot
 repeat' split
 all_goals omega
theorem small {k : Nat} (h : k ≤ 8) : k = 0 ∨ k = 1 ∨ k = 2 ∨ k = 3 ∨ k = 4 ∨ k = 5 ∨ k = 6 ∨ k = 7 ∨ k = 8 := by omega
def Md.same (m x : Md) : Bool := m.a0 == x.a0 && m.a1 == x.a1 && m.a2 == x.a2 && m.a3 == x.a3 && m.a4 == x.a4 && m.a5 == x.a5 && m.a6 == x.a6 && m.a7 == x.a7
def turn (m : Md) (k : Nat) (on : Bool) : Int := if m.get k && !on then m.bits - pow k else if !m.get k && on then m.bits + pow k else m.bits
end Go.Proofs.YtkjpjegmanpbfaaGreatDoor.Mds
