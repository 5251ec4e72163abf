/-
  tabs: all stops in a row of the call's own.
-/
import Derived.Test.YtihmagpgbjlggaaDoorTNth
namespace Go.Proofs.YtihmagpgbjlggaaDoor.Tbs
open Go Go.RowKit Go.Proofs.YtihmagpgbjlggaaDoor.Com

theorem elemI : Elem Tryd.prog 42 3 .i64 8 := by
  have h : (Tryd.prog.info? 3).map (fun i => (i.zero, i.size, i.bytes)) = some (some (.int .i64 0), 1, 8) := by kernel_rfl
  obtain ⟨i, h0, h1, h2, h3⟩ := info_parts h
  exact ⟨Tryd.underlying42, i, h0, h1, h2, h3⟩
def stsI (f : Nat → Bool) (n : Nat) : List Int := (sts f n).map fun (c : Nat) => (c : Int)
theorem stsI_len (f : Nat → Bool) (n : Nat) : (stsI f n).length = (sts f n).length := by simp [stsI]
/-- A row of ints that a call gives back. -/
def Shown (w : World) (l : List Int) (e : Ending) (w' : World) : Prop := ∃ v, e = .returned v ∧ Own w' w.heap.size 3 .i64 v l ∧ Below w.heap.size w w'
structure AllAt (w wr : World) (d0 : Nat) (f : Nat → Bool) (p : Nat) (v : Value) : Prop where
  at8 : At8 w wr d0 f p
  own : Own wr w.heap.size 3 .i64 v (stsI f p)
theorem AllAt.slice {w wr : World} {d0 : Nat} {f : Nat → Bool} {p : Nat} {v : Value} (h : AllAt w wr d0 f p v) : ∃ ao n c, v = .slice ao n c := own_slice h.own
theorem AllAt.app {w wr w1 w2 : World} {d0 : Nat} {f : Nat → Bool} {p c : Nat} {v v1 : Value} {o : Obj} (h : AllAt w wr d0 f p v) (hs : sts f (c + 1) = sts f p ++ [c]) (hput : putF (rest f p) c false = rest f (c + 1))
    (hown : Own w1 w.heap.size 3 .i64 v1 (stsI f p ++ [(c : Int)])) (ho : Only v.ownBlock.toList (wr.alloc o) w1) {e : Ending}
    (hb : Bit w1 d0 0 49 (wsA (rest f p)) (rest f p) c false e w2) : AllAt w w2 d0 f (c + 1) v1 := by
  have hne : v.ownBlock ≠ some d0 := h.own.apart h.at8.own (by decide)
  have h1 : At8 w w1 d0 f p := ⟨(h.at8.own.alloc o).only ho (by simpa using hne), below_app h.at8.below h.own h.at8.below.size o ho, h.at8.low⟩
  have hne1 : v1.ownBlock ≠ some d0 := hown.apart h1.own (by decide)
  refine ⟨h1.cleared hput hb, ?_⟩
  have e1 : stsI f (c + 1) = stsI f p ++ [(c : Int)] := by unfold stsI; rw [hs, List.map_append]; rfl
  rw [e1]
  exact hown.only hb.2.2 fun g hg => by
    have : g ≠ d0 := fun e' => hne1 (by rw [← e']; exact hg)
    simpa using this

set_option maxRecDepth 100000 in
set_option maxHeartbeats 2000000 in
theorem all_any (f : Nat → Bool) (w : World) (T : Tab w) : Calls Tryd.prog 33 #[.agg (wsA f)] w (Shown w (stsI f 512)) := by
  have hb0 := Block.made w 49 (wsA f)
  have hbel := below_new w (.cells (wsA f) 49)
  go_enter Tryd.func33, Tryd.ntmps33
  go_wp2
  generalize w.alloc (.cells (wsA f) 49) = w0 at hb0 hbel ⊢
  obtain ⟨d0, hd0⟩ : ∃ d0, d0 = w.heap.size := ⟨_, rfl⟩
  rw [← hd0] at hb0 ⊢
  have hA : Hid (AllAt w w0 d0 f 0 (.slice none 0 0)) := Lib.hid ⟨⟨by rw [rest_zero]; exact hb0, hbel, by omega⟩, Own.nil _ _ _ _⟩
  clear hd0 hb0 hbel
  replace T := Lib.hid T
  go_loopg [3, 6] 8 (fun g v i wr => ∃ (k : Nat), k + g = 8 ∧ i = .int .i64 k ∧ Hid (AllAt w wr d0 f (64 * k) v))
  case atStart => exact ⟨0, by omega, rfl, hA⟩
  case round =>
    obtain ⟨k, hk, rfl, hW⟩ := hrel
    obtain ⟨av, nv, cv, rfl⟩ := hW.out.slice
    cases gk with
    | zero =>
      obtain rfl : k = 8 := by omega
      go_wp2
      go_ret
      exact ⟨_, rfl, hW.out.own, hW.out.at8.below⟩
    | succ g =>
      have hlt : k < 8 := by omega
      have hcell := hW.out.at8.own.cell k (ws_at _ hlt)
      rw [rest_word (Nat.le_refl _)] at hcell
      have hon := Lib.hid (fun w => ones_any (wd f k) (wd_lt f k) w)
      have hpop := pop_sts f k
      have hle := sts_bound f (64 * (k + 1))
      have hd : ds 2 64 (wd f k) ≤ 512 := by omega
      generalize wd f k = y at hcell hon hpop hd
      generalize ds 2 64 y = N at hon hpop hd
      replace hpop := Lib.hid hpop
      clear hle
      replace hk := Lib.hid hk
      go_wp2_with ((go_at_call 39; (with_reducible refine (hon.out _).mono ?_); rintro e w' ⟨rfl, rfl⟩))
      clear hcell hon
      go_loopg [3, 13] N (fun g v i wr => ∃ (j p : Nat), j + g = N ∧ i = .int .i64 j ∧ Hid (InW f k j p (sts f p).length) ∧ Hid (AllAt w wr d0 f p v))
      case atStart => exact ⟨0, 64 * k, by omega, rfl, Lib.hid ⟨Nat.le_refl _, by omega, rfl, rfl⟩, hW⟩
      case round =>
        clear hW
        obtain ⟨j, p, hj, rfl, hI, hW⟩ := hrel
        obtain ⟨av, nv, cv, rfl⟩ := hW.out.slice
        cases gk with
        | zero =>
          have hj0 : ¬ ((j : Int) < (N : Int)) := by omega
          obtain rfl : j = N := by omega
          have hlen : (sts f (64 * (k + 1))).length = (sts f p).length := by
            have e2 := hI.out.add
            have e3 := hpop.out
            omega
          have hsame : sts f (64 * (k + 1)) = sts f p := sts_gap _ hI.out.hi (sts_same hlen)
          have hW2 : Hid (AllAt w _ d0 f (64 * (k + 1)) (.slice av nv cv)) := Lib.hid ⟨hW.out.at8.gap hI.out.hi (sts_same hlen), by unfold stsI; rw [hsame]; exact hW.out.own⟩
          clear hW hI hpop hlen hsame
          go_wp2
          go_roundg g
          case measure => omega
          case rel => exact ⟨k + 1, by have := hk.out; omega, by go_num, hW2⟩
        | succ g2 =>
          have hj0 : (j : Int) < (N : Int) := by omega
          have hnx := next_stop hI.out.lo hI.out.hi (by rw [hI.out.add, ← hpop.out]; omega)
          obtain ⟨hne, c, hc, hpc, hcl, hck, hs, hput⟩ := hnx
          have hcell := hW.out.at8.own.cell k (ws_at _ hlt)
          have htz := Lib.hid (fun w T => tz_any (wd (rest f p) k) (wd_lt _ _) hne w T)
          have hclr := Lib.hid (fun w' hb => clear_any (rest f p) c (by omega) d0 0 49 (wsA (rest f p)) w' hb (by rw [Nat.zero_add]; exact ws_at _ (by omega)))
          have hcv : (k : Int) * 64 + (Lib.ctz 64 (wd (rest f p) k) : Nat) = (c : Int) := by omega
          have hTw := Lib.hid (T.out.below hW.out.at8.below)
          have hc5 : c < 512 := by omega
          have hI2 : Hid (InW f k (j + 1) (c + 1) (sts f (c + 1)).length) := Lib.hid ⟨by have := hI.out.lo; omega, by omega, rfl, by rw [hs, List.length_append, hI.out.add]; rfl⟩
          generalize Lib.ctz 64 (wd (rest f p) k) = z at htz hcv
          generalize wd (rest f p) k = y at hcell htz
          have hlen : (stsI f p).length ≤ 512 := by
            rw [stsI_len]
            have h1 := hI.out.hi
            have h2 := sts_bound f p
            omega
          replace hput := Lib.hid hput
          replace hs := Lib.hid hs
          have hapart := Lib.hid (fun w1 (o : Obj) (ho : Only (Value.slice av nv cv).ownBlock.toList (wr.alloc o) w1) => (hW.out.at8.own.alloc o).only ho (by simpa using hW.out.own.apart hW.out.at8.own (by decide)))
          have hB : w.heap.size ≤ _ := hW.out.at8.below.size
          clear hne hc hI hpop hpc hcl hck
          go_wp2_with (first
            | (go_at_call 40; (with_reducible refine (htz.out _ hTw.out).mono ?_); rintro e w' ⟨rfl, rfl⟩)
            | (with_reducible show wpList _ _ _ (⟨some 25, .call _, _, _, _, _⟩ :: _) _ _; go_must (refine wpList_app elemI rfl (.tmp 22) (.tmp 24) rfl w.heap.size (.slice av nv cv) (stsI f p) [(c : Int)] (some ⟨_, 0, none⟩) _ 1 rfl rfl (hW.out.own.alloc _) (Nums.one _ _ _ _) ?_ ?_ ?_ ?_; (simp; omega); (simp; omega); (simp [maxLen]; omega); intro v3 w3 hown3 ho3 hat3; obtain ⟨a3, n3, c3, rfl⟩ := own_slice hown3))
            | (go_at_call 30; (with_reducible refine (hclr.out _ (hapart.out _ _ ho3)).mono ?_); rintro e w' ⟨⟨v', rfl⟩, hb', ho'⟩))
          have hW2 : Hid (AllAt w w' d0 f (c + 1) (.slice a3 n3 c3)) := Lib.hid (hW.out.app hs.out hput.out hown3 ho3 (e := .returned v') ⟨⟨v', rfl⟩, hb', ho'⟩)
          clear hb' ho' hW
          go_roundg g2
          case measure => omega
          case rel => exact ⟨j + 1, c + 1, by omega, by go_num, hI2, hW2⟩

end Go.Proofs.YtihmagpgbjlggaaDoor.Tbs
