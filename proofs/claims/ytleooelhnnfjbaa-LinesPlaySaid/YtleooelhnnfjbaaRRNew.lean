/-
  row: the reference's New and From.
-/
import Derived.Test.YtleooelhnnfjbaaRBld5
namespace Go.Proofs.Ytleooelhnnfjbaa.Rw
open Go Go.RowKit Go.Proofs.Ytleooelhnnfjbaa.Com

theorem own_shape {w : World} {B : Nat} {e : TypeId} {s n : Nat} {v : Value} {xs : List Value} (h : w.ownsRow B e s v n xs) : ∃ ao m c, v = .slice ao m c := by
  rcases h.2 with ⟨rfl, _⟩ | ⟨g, cap, cur, rfl, _⟩
  · exact ⟨_, _, _, rfl⟩
  · exact ⟨_, _, _, rfl⟩
def newq : Cel × Value := (clr zeroAt, .slice none 0 0)
structure NewSt (w wr : World) (k : Nat) (lv : Value) : Prop where
  box : Block wr w.heap.size 54 #[lv]
  own : wr.ownsRow (w.heap.size + 1) 87 6 lv k (fl apiP (List.replicate k newq))
  below : Below w.heap.size w wr
theorem NewSt.start (w : World) : NewSt w (w.alloc (.cells #[.slice none 0 0] 54)) 0 (.slice none 0 0) :=
  ⟨Block.made w _ _, ⟨rfl, .inl ⟨rfl, rfl⟩⟩, below_new _ _⟩
theorem NewSt.shape {w wr : World} {k : Nat} {lv : Value} (h : NewSt w wr k lv) : ∃ ao m c, lv = .slice ao m c := by
  rcases h.own.2 with ⟨rfl, _⟩ | ⟨g, cap, cur, rfl, _⟩
  · exact ⟨_, _, _, rfl⟩
  · exact ⟨_, _, _, rfl⟩
theorem NewSt.next {w wr wa w3 w4 : World} {k : Nat} {lv lv1 : Value} (h : NewSt w wr k lv) (hl : w3.ownsRow (w.heap.size + 1) 87 6 lv1 (k + 1) (fl apiP (List.replicate k newq) ++ apiP newq)) (hb : Below wr.heap.size wr wa) (ho : Only lv.ownBlock.toList wa w3) (h4 : Block w4 w.heap.size 54 #[lv1]) (ho4 : Only [w.heap.size] w3 w4) (hb3 : Block w3 w.heap.size 54 #[lv]) : NewSt w w4 (k + 1) lv1 := by
  have hlt := World.ownsRow.lt h.own
  refine ⟨h4, ?_, ?_⟩
  · have e : fl apiP (List.replicate (k + 1) newq) = fl apiP (List.replicate k newq) ++ apiP newq := by
      rw [List.replicate_succ', fl_app, fl_one]
    rw [e]
    exact ownsRow_fr hl (Fr.of_only ho4 (B := 0) (ts := [54]) (fun x hx _ => by
      simp at hx; subst hx
      exact ⟨Nat.zero_le _, _, List.mem_singleton.2 rfl, Block.typ hb3⟩)) (by decide)
  · have h3 : Below w.heap.size w w3 := (below_next h.below hb).trans (ho.below (Nat.le_trans h.below.size hb.size) (fun x hx => by
      have := (hlt x (by simpa using hx)).1
      omega))
    exact h3.trans (ho4.below h3.size (by simp))
theorem NewSt.done {w wr : World} {n : Nat} {lv : Value} (h : NewSt w wr n lv) (h0 : 0 < n) (h5 : n ≤ 512) : RefIn w.heap.size wr w.heap.size (List.replicate n (clr zeroAt)) := by
  obtain ⟨g, cap, tail, rfl, hg, hb, hc, hm, ht⟩ := own_block' h.own h0
  refine ⟨g, n, cap, List.replicate n newq, ⟨h.box, ⟨?_, ?_⟩, by simp, h0, h5, hc, hm, Nat.le_refl _⟩, by simp [cels, newq]⟩
  · rw [List.length_replicate]
    have hA : Api (w.heap.size + 1) wr (.slice (some ⟨g, 0, none⟩) n cap) (List.replicate n newq) := ⟨by rw [List.length_replicate]; exact h.own, fun p hp => by obtain ⟨_, rfl⟩ := List.mem_replicate.1 hp; exact Own.nil _ _ _ _⟩
    have := (hA.lower (B' := w.heap.size) (by omega)).own
    rwa [List.length_replicate] at this
  · intro p hp
    obtain ⟨_, rfl⟩ := List.mem_replicate.1 hp
    exact Own.nil _ _ _ _

set_option maxRecDepth 100000 in
set_option maxHeartbeats 4000000 in
theorem rnew_any (w : World) (n : Nat) (h1 : 1 ≤ n) (h5 : n ≤ 512) :
    Calls Try.prog 31 #[.int .i64 n] w fun e w' => e = .returned (.pointer (some ⟨w.heap.size, 0, none⟩)) ∧ RefIn w.heap.size w' w.heap.size (List.replicate n (clr zeroAt)) ∧ Below w.heap.size w w' := by
  have h0 := Lib.hid (NewSt.start w)
  go_enter Try.func31, Try.ntmps31
  go_wp2
  go_loopw [4] (fun i wr => ∃ (k : Nat) (lv : Value), k ≤ n ∧ i = .int .i64 k ∧ Hid (NewSt w wr k lv)) (fun i _ => n - (intOf i).toNat)
  case atStart => exact ⟨0, _, Nat.zero_le _, rfl, h0⟩
  case round =>
    obtain ⟨k, lv, hk, rfl, hR⟩ := hrel
    have hR := hR.out
    obtain ⟨ao, m0, c0, rfl⟩ := hR.shape
    have hs := hR.box.cell 0 rfl
    have hdw := hR.box.lt
    by_cases hlt : k < n
    · have hone := Lib.hid (apiC_one (c := clr zeroAt) (v := .slice none 0 0) rfl)
      have hbn := below_new wr (.cells #[.int .i32 32, .slice none 0 0, .int .u8 0, .int .u32 0, .int .u32 0, .int .u16 0] 87)
      have hlt3 := World.ownsRow.lt hR.own
      have hbx := hR.box.alloc (.cells #[.int .i32 32, .slice none 0 0, .int .u8 0, .int .u32 0, .int .u32 0, .int .u16 0] 87)
      have hlw := ownsRow_fr hR.own (Fr.of_below (B := 0) (ts := []) hbn) (by simp)
      replace hbn := Lib.hid hbn
      replace hbx := Lib.hid hbx
      replace hlw := Lib.hid hlw
      go_wp2_with (first
        | (with_reducible show wpList _ _ _ (⟨some 19, .call _, _, _, _, _⟩ :: _) _ _; go_must (refine wpList_appN elemA rfl (.tmp 16) (.tmp 18) rfl (w.heap.size + 1) (.slice ao m0 c0) k (fl apiP (List.replicate k newq)) ⟨wr.heap.size, 0, none⟩ 1 1 (apiC (clr zeroAt) (.slice none 0 0)) rfl rfl hlw.out rfl (lit_at wr _) hone.out (by have := hR.below.size; simp; omega) (by omega) ?_); intro lv1 w3 hl1 ho1 _; have hb3 := hbx.out.only ho1 (fun hm => by have := (hlt3 _ (by simpa using hm)).1; omega); obtain ⟨ao1, m1, c1, rfl⟩ := own_shape hl1)
        | (with_reducible show wpList _ _ _ (⟨none, .store _ (.tmp 21) _, _, _, _, _⟩ :: _) _ _; go_must (refine wpList_store1 rfl _ (.tmp 21) (.tmp 19) rfl hb3 (.slice _ _ _) rfl rfl (by simp) (by exact info44) rfl ?_); intro w4 hb4 ho4; have hN := hR.next hl1 hbn.out ho1 hb4 ho4 hb3))
      clear hs hl1 ho1 hb4 ho4 hb3
      replace hN := Lib.hid hN
      go_roundw
      case rel => exact ⟨k + 1, _, by omega, by go_num, hN⟩
      case measure => simp [intOf]; omega
    · obtain rfl : k = n := by omega
      have hD := Lib.hid (hR.done (by omega) h5)
      have hB := Lib.hid hR.below
      clear hR
      go_wp2
      go_ret
      exact ⟨rfl, hD.out, hB.out⟩
end Go.Proofs.Ytleooelhnnfjbaa.Rw
