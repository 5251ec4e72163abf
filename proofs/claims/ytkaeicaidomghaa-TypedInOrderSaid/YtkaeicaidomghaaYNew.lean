/-
  typed: New, and Clear of a list that was made.
-/
import Derived.Test.YtkaeicaidomghaaYTop
import Derived.Deep.DeepMust
namespace Go.Proofs.Ytkaeicaidomghaa.Tpd
open Go Go.RowKit Go.Proofs.Ytkaeicaidomghaa.Com

theorem LB.blk {w : World} {d : Nat} {life last : Int} {p : Pl} {f n : Nat} (h : LB w d life last p f n) : Block w d 28 (tyL life last p f n).toArray := h
/-! Zero values. -/
def zP : Pl := fun _ => (0, 0)
def zA : Array Value := (tyL 0 0 zP 0 0).toArray
def zRl : List Value := plL zP ++ [.int .i64 ((0 : Nat) : Int), .int .i64 ((0 : Nat) : Int)]
def zR : Array Value := zRl.toArray
set_option maxRecDepth 100000 in
theorem zero_list (w : World) : (zeroValue 28).run Try.prog w = .ok (.agg zA) w := by kernel_rfl
set_option maxRecDepth 100000 in
theorem zero_ring (w : World) : (zeroValue 26).run Try.prog w = .ok (.agg zR) w := by kernel_rfl
theorem zA_some : (zA = #[]) = False := by
  refine eq_false (fun h => ?_)
  have := congrArg Array.size h
  simp [zA, tyL] at this
theorem zR_some : (zR = #[]) = False := by
  refine eq_false (fun h => ?_)
  have := congrArg Array.size h
  simp [zR, zRl] at this
theorem zA_set (life : Int) : zA.setIfInBounds 0 (.int .i64 life) = (tyL life 0 zP 0 0).toArray := by
  unfold zA
  rw [List.setIfInBounds_toArray]
  rfl
theorem info_ring : (Try.prog.info? 26).map (·.size) = some zR.size := by kernel_rfl
theorem info_list : (Try.prog.info? 28).map (·.size) = some 132 := by kernel_rfl
theorem one_ring : zR.all (·.oneCell') = true := by kernel_rfl
theorem zR_len : zR.size = 130 := by simp [zR, zRl, plL_len]
theorem cleared (life last : Int) (p : Pl) (f n : Nat) : ((tyL life last p f n).toArray.toList.take 2 ++ (zR.toList ++ (tyL life last p f n).toArray.toList.drop (2 + zR.size))).toArray = (tyL life last zP 0 0).toArray := by
  rw [zR_len, List.toList_toArray, List.drop_eq_nil_of_le (by rw [tyL_len]; omega)]
  simp [tyL, zR, zRl]

set_option maxHeartbeats 4000000 in
theorem clear_any {w : World} {d : Nat} {life last : Int} {ks : List Key} (h : TL w d life last ks) (hl : 1 ≤ life) :
    Calls Try.prog 10 #[.pointer (some ⟨d, 0, none⟩)] w (Leaves w d life last []) := by
  have hm := Lib.hid (isMade_yes h hl)
  obtain ⟨p, f, hf, hn, hb, hs⟩ := h
  replace hb := hb.blk
  have hz := zero_ring
  have hz1 := zR_some
  generalize hn0 : ks.length = n at hb hn
  go_enter Try.func10, Try.ntmps10
  go_wp2_with (first
    | (go_at_call 13; (with_reducible refine (hm.out).mono ?_); rintro e w' ⟨rfl, rfl⟩)
    | (with_reducible show wpList _ _ _ (⟨none, .store _ (.tmp 7) _, _, _, _, _⟩ :: _) _ _; go_must (refine wpList_storeAt rfl _ (.tmp 7) (.tmp 5) rfl (g := d) (i := 2) hb zR rfl rfl (by rw [zR_len, List.size_toArray, tyL_len]; omega) info_ring one_ring ?_); rw [cleared]; intro w1 hb1 ho1))
  go_end0
  exact ⟨⟨_, rfl⟩, ⟨zP, 0, by omega, by simp, hb1, Shows.nil _ _⟩, ho1⟩
end Go.Proofs.Ytkaeicaidomghaa.Tpd
