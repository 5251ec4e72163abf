/-
  The decoder's calls: end, begin, goOn, take.
-/
import Derived.Test.YtjafaicpnhdodaaUSay
import Derived.Laws.Tables
import Derived.Deep.DeepMust
import Derived.Great.BuildSlice
import Derived.Deep.Cut
import Derived.Deep.DeepMust
import Derived.Deep.CutRange
import Derived.Deep.CutBlock
namespace Go.Proofs.Ytjafaicpnhdodaa.Utf
open Go Go.RowKit Go.Proofs.Ytjafaicpnhdodaa.Com

/-- A decoder's block. -/
def DecIn (w : World) (d : Nat) (D : Dec) : Prop := Block w d 33 #[.int .i64 D.o, .int .i64 D.l, .int .i32 D.b, .int .u8 D.lo, .int .u8 D.hi]
theorem DecIn.blk {w : World} {d : Nat} {D : Dec} (h : DecIn w d D) : Block w d 33 #[.int .i64 D.o, .int .i64 D.l, .int .i32 D.b, .int .u8 D.lo, .int .u8 D.hi] := h
theorem DecIn.c0 {w : World} {d : Nat} {D : Dec} (h : DecIn w d D) : w.cell? ⟨d, 0, none⟩ = some (.int .i64 D.o) := Block.cell h 0 rfl
theorem DecIn.c1 {w : World} {d : Nat} {D : Dec} (h : DecIn w d D) : w.cell? ⟨d, 1, none⟩ = some (.int .i64 D.l) := Block.cell h 1 rfl
theorem DecIn.c2 {w : World} {d : Nat} {D : Dec} (h : DecIn w d D) : w.cell? ⟨d, 2, none⟩ = some (.int .i32 D.b) := Block.cell h 2 rfl
theorem DecIn.c3 {w : World} {d : Nat} {D : Dec} (h : DecIn w d D) : w.cell? ⟨d, 3, none⟩ = some (.int .u8 D.lo) := Block.cell h 3 rfl
theorem DecIn.c4 {w : World} {d : Nat} {D : Dec} (h : DecIn w d D) : w.cell? ⟨d, 4, none⟩ = some (.int .u8 D.hi) := Block.cell h 4 rfl
theorem DecIn.free {w : World} {d : Nat} {D : Dec} (h : DecIn w d D) (i : Nat) : w.frozen? ⟨d, i, none⟩ = false := Block.free h i

theorem sizeD : (Try.prog.info? 33).map (·.size) = some 5 := by kernel_rfl
theorem sizeI : (Try.prog.info? 3).map (·.size) = some 1 := by kernel_rfl
theorem sizeR : (Try.prog.info? 21).map (·.size) = some 1 := by kernel_rfl
theorem sizeU : (Try.prog.info? 5).map (·.size) = some 1 := by kernel_rfl

/-- What end, begin, goOn and take leave: the decoder's block, and the row, longer; nothing else has turned. -/
structure Told (w : World) (B d : Nat) (v : Value) (out : List Int) (R : Dec × List Int) (v' : Value) (w' : World) : Prop where
  dec : DecIn w' d R.1
  own : Own w' B 21 .i32 v' (out ++ R.2)
  only : Only (d :: v.ownBlock.toList) w w'
  lies : ∀ g, v'.ownBlock = some g → v.ownBlock = some g ∨ w.heap.size ≤ g
def Tells (w : World) (B d : Nat) (v : Value) (out : List Int) (R : Dec × List Int) (e : Ending) (w' : World) : Prop := ∃ v', e = .returned v' ∧ Told w B d v out R v' w'

theorem apart_one {v : Value} {d : Nat} (h : v.ownBlock ≠ some d) : ∀ g, v.ownBlock = some g → g ∉ [d] := fun g hg hm => h (by rw [hg]; simp at hm; rw [hm])
/-- The block was stored to, a literal laid, the row made longer. -/
theorem told_app {w w1 w2 : World} {B d : Nat} {v v' : Value} {out m : List Int} {D : Dec} {o : Obj} (hd : DecIn w1 d D) (hap : v.ownBlock ≠ some d) (ho1 : Only [d] w w1)
    (hown2 : Own w2 B 21 .i32 v' (out ++ m)) (ho2 : Only v.ownBlock.toList (w1.alloc o) w2) (hat : v'.ownBlock = v.ownBlock ∨ v'.ownBlock = some (w1.alloc o).heap.size) : Told w B d v out (D, m) v' w2 := by
  have hs := ho1.size
  refine ⟨(hd.alloc o).only ho2 (fun hm => hap (by simpa using hm)), hown2, ?_, fun g hg => ?_⟩
  · exact (ho1.mono (by simp)).trans ((Only.alloc _ w1 o).trans (ho2.mono (fun k hk => List.mem_cons_of_mem _ hk)))
  · rcases hat with e | e
    · left; rw [← e]; exact hg
    · right
      rw [e] at hg
      simp at hg
      omega

theorem DecIn.num {w : World} {d : Nat} {a b c e f c' : Int} (h : Block w d 33 #[.int .i64 a, .int .i64 b, .int .i32 c, .int .u8 e, .int .u8 f]) (hc : c = c') : DecIn w d ⟨a, b, c', e, f⟩ := by subst hc; exact h
theorem told_store {w w1 : World} {B d : Nat} {v : Value} {out : List Int} {D : Dec} (hd : DecIn w1 d D) (hown : Own w B 21 .i32 v out) (hap : v.ownBlock ≠ some d) (ho1 : Only [d] w w1) : Told w B d v out (D, []) v w1 :=
  ⟨hd, by simpa using hown.only ho1 (apart_one hap), ho1.mono (by simp), fun g hg => .inl hg⟩

set_option maxHeartbeats 1000000 in
theorem end_any (D : Dec) (d : Nat) (v : Value) (out : List Int) (B : Nat) (w : World) (hB : B ≤ w.heap.size) (hd : DecIn w d D) (hown : Own w B 21 .i32 v out) (hlen : out.length ≤ 1048576) :
    Calls Try.prog 22 #[.pointer (some ⟨d, 0, none⟩), v] w (Tells w B d v out (endF D)) := by
  have c0 := hd.c0
  by_cases ho : D.o = 0
  · have hE : Hid (endF D = (D, [])) := by show _ = _; unfold endF; rw [if_pos ho]
    rw [ho] at c0
    clear ho
    go_enter Try.func22, Try.ntmps22
    go_wp2
    go_ret
    rw [hE.out]
    exact ⟨v, rfl, hd, by simpa using hown, Only.refl _ _, fun g hg => .inl hg⟩
  · have hE : Hid (endF D = (zero, [65533])) := by show _ = _; unfold endF; rw [if_neg ho]
    have ho' : (D.o == 0) = false := by simpa using ho
    clear ho
    have hap := hown.apart hd (by decide)
    go_enter Try.func22, Try.ntmps22
    go_wp2_with (first
      | (with_reducible show wpList _ _ _ (⟨none, .store _ (.tmp 13) _, _, _, _, _⟩ :: _) _ _; go_must (refine wpList_storeAll rfl _ (.tmp 13) (.tmp 12) rfl hd.blk _ rfl rfl (by simpa using sizeD) (by simp) (by simp [Value.oneCell']) ?_); intro w1 hd1 ho1; clear c0)
      | (at_builtin; refine wpList_app elemR rfl _ _ rfl B v out [65533] _ (w1.heap.size + 1) 1 rfl rfl ((hown.only ho1 (apart_one hap)).alloc _) (Nums.one _ _ _ _) ?_ ?_ ?_ ?_; (have := ho1.size; simp; omega); (simp; omega); (simp [maxLen]; omega); intro v' w2 hown1 ho2 hat1))
    go_ret
    rw [hE.out]
    exact ⟨v', rfl, told_app (D := zero) hd1 hap ho1 hown1 ho2 hat1⟩

theorem and_low : ∀ n : Int, 0 ≤ n → n ≤ 255 → bits .and .i32 n 31 = n % 32 ∧ bits .and .i32 n 15 = n % 16 ∧ bits .and .i32 n 7 = n % 8 ∧ bits .and .u8 n 63 = n % 64 := by
  have hall : ∀ m : Fin 256, bits .and .i32 m.val 31 = m.val % 32 ∧ bits .and .i32 m.val 15 = m.val % 16 ∧ bits .and .i32 m.val 7 = m.val % 8 ∧ bits .and .u8 m.val 63 = m.val % 64 := by decide +kernel
  intro n h0 h1
  have e : ((⟨n.toNat, by omega⟩ : Fin 256).val : Int) = n := by simp; omega
  have h := hall ⟨n.toNat, by omega⟩
  rw [e] at h
  exact h

set_option maxHeartbeats 1000000 in
theorem begin_any (b : Int) (hb0 : 0 ≤ b) (hb1 : b ≤ 255) (d : Nat) (v : Value) (out : List Int) (B : Nat) (w : World) (hB : B ≤ w.heap.size) (hd : DecIn w d zero) (hown : Own w B 21 .i32 v out) (hlen : out.length ≤ 1048576) :
    Calls Try.prog 28 #[.pointer (some ⟨d, 0, none⟩), .int .u8 b, v] w (Tells w B d v out (beginF zero b)) := by
  have hap := hown.apart hd (by decide)
  by_cases h1 : b < 128
  · have hE : Hid (beginF zero b = (zero, [b])) := by show _ = _; unfold beginF; rw [if_pos h1]
    go_enter Try.func28, Try.ntmps28
    go_wp2_with ((at_builtin; refine wpList_app elemR rfl _ _ rfl B v out [b] _ (w.heap.size + 1) 1 rfl rfl (hown.alloc _) (Nums.one _ _ _ _) ?_ ?_ ?_ ?_; (simp; omega); (simp; omega); (simp [maxLen]; omega); intro v' w2 hown1 ho2 hat1))
    go_ret
    rw [hE.out]
    exact ⟨v', rfl, told_app hd hap (Only.refl _ _) hown1 ho2 hat1⟩
  · have hge : 128 ≤ b := by omega
    have hf := follow_any b hge hb1 w
    rcases sizeF_cases b with ⟨c1, e⟩ | ⟨c1, c2, e⟩ | ⟨c1, c2, e⟩ | ⟨c1, c2, e⟩ | ⟨c1, c2, e⟩
    · omega
    all_goals
      have hl : leftF b = if sizeF b = 0 then 0 else (sizeF b : Int) - 1 := rfl
      have hE : Hid (beginF zero b = if sizeF b = 0 then (zero, [65533]) else (⟨1, sizeF b - 1, b - leadF (sizeF b), loF b, hiF b⟩, [])) := by show _ = _; unfold beginF; rw [if_neg h1]
      rw [e] at hl hE
      simp [leadF] at hl hE
      rw [hl] at hf
      replace hf := Lib.hid hf
      clear hl h1 e
    · have hm := Lib.hid (and_low b hb0 hb1).1
      go_enter Try.func28, Try.ntmps28
      go_wp2_with (first
        | (go_at_call 30; refine (hf.out).mono ?_; rintro e w' ⟨rfl, rfl⟩)
        | (with_reducible show wpList _ _ _ (⟨none, .store _ (.tmp 42) _, _, _, _, _⟩ :: _) _ _; go_must (refine wpList_storeAll rfl _ (.tmp 42) (.tmp 41) rfl hd.blk _ rfl rfl (by simpa using sizeD) (by simp) (by simp [Value.oneCell']) ?_); intro w1 hd1 ho1))
      go_ret
      rw [hE.out]
      exact ⟨v, rfl, told_store (DecIn.num hd1 (by have := hm.out; omega)) hown hap ho1⟩
    · have hm := Lib.hid (and_low b hb0 hb1).2.1
      go_enter Try.func28, Try.ntmps28
      go_wp2_with (first
        | (go_at_call 30; refine (hf.out).mono ?_; rintro e w' ⟨rfl, rfl⟩)
        | (with_reducible show wpList _ _ _ (⟨none, .store _ (.tmp 42) _, _, _, _, _⟩ :: _) _ _; go_must (refine wpList_storeAll rfl _ (.tmp 42) (.tmp 41) rfl hd.blk _ rfl rfl (by simpa using sizeD) (by simp) (by simp [Value.oneCell']) ?_); intro w1 hd1 ho1))
      go_ret
      rw [hE.out]
      exact ⟨v, rfl, told_store (DecIn.num hd1 (by have := hm.out; omega)) hown hap ho1⟩
    · have hm := Lib.hid (and_low b hb0 hb1).2.2.1
      go_enter Try.func28, Try.ntmps28
      go_wp2_with (first
        | (go_at_call 30; refine (hf.out).mono ?_; rintro e w' ⟨rfl, rfl⟩)
        | (with_reducible show wpList _ _ _ (⟨none, .store _ (.tmp 42) _, _, _, _, _⟩ :: _) _ _; go_must (refine wpList_storeAll rfl _ (.tmp 42) (.tmp 41) rfl hd.blk _ rfl rfl (by simpa using sizeD) (by simp) (by simp [Value.oneCell']) ?_); intro w1 hd1 ho1))
      go_ret
      rw [hE.out]
      exact ⟨v, rfl, told_store (DecIn.num hd1 (by have := hm.out; omega)) hown hap ho1⟩
    · go_enter Try.func28, Try.ntmps28
      go_wp2_with (first
        | (go_at_call 30; refine (hf.out).mono ?_; rintro e w' ⟨rfl, rfl⟩)
        | (at_builtin; refine wpList_app elemR rfl _ _ rfl B v out [65533] _ (w.heap.size + 1) 1 rfl rfl (hown.alloc _) (Nums.one _ _ _ _) ?_ ?_ ?_ ?_; (simp; omega); (simp; omega); (simp [maxLen]; omega); intro v' w2 hown1 ho2 hat1))
      go_ret
      rw [hE.out]
      exact ⟨v', rfl, told_app hd hap (Only.refl _ _) hown1 ho2 hat1⟩

set_option maxHeartbeats 1000000 in
theorem goOn_any (D : Dec) (hD : D.Ok) (x : Int) (ho : 0 < D.o) (hlo : D.lo ≤ x) (hhi : x ≤ D.hi) (d : Nat) (v : Value) (out : List Int) (B : Nat) (w : World) (hB : B ≤ w.heap.size) (hd : DecIn w d D) (hown : Own w B 21 .i32 v out) (hlen : out.length ≤ 1048576) :
    Calls Try.prog 27 #[.pointer (some ⟨d, 0, none⟩), .int .u8 x, v] w (Tells w B d v out (goOnF D x)) := by
  have hap := hown.apart hd (by decide)
  have c0 := hd.c0
  have o3 := hD.o3
  have l1 := hD.l1 ho
  have l3 := hD.l3
  have b0 := hD.b0
  have b3 := hD.b3
  have x0 := hD.lo ho
  have x1 := hD.hi ho
  have hx0 : 128 ≤ x := by omega
  have hx1 : x ≤ 191 := by omega
  clear x0 x1 hlo hhi hD
  by_cases hl : 0 < D.l - 1
  · have hE : Hid (goOnF D x = (⟨D.o + 1, D.l - 1, D.b * 64 + (x - 128), 128, 191⟩, [])) := by show _ = _; unfold goOnF; rw [if_pos hl]
    go_enter Try.func27, Try.ntmps27
    go_wp2_with (first
      | (with_reducible show wpList _ _ _ (⟨none, .store _ (.tmp 14) _, _, _, _, _⟩ :: _) _ _; go_must (refine wpList_store1 rfl _ (.tmp 14) (.tmp 12) rfl hd.blk (.int _ _) rfl rfl (by simp) (by exact sizeI) rfl ?_); intro w1 hd1 ho1; go_must (replace hd1 : DecIn w1 d ⟨D.o + 1, D.l, D.b, D.lo, D.hi⟩ := by simpa [DecIn] using hd1); clear c0; have c1 := hd1.c1)
      | (with_reducible show wpList _ _ _ (⟨none, .store _ (.tmp 21) _, _, _, _, _⟩ :: _) _ _; go_must (refine wpList_store1 rfl _ (.tmp 21) (.tmp 19) rfl hd1.blk (.int _ _) rfl rfl (by simp) (by exact sizeI) rfl ?_); intro w2 hd2 ho2; go_must (replace hd2 : DecIn w2 d ⟨D.o + 1, D.l - 1, D.b, D.lo, D.hi⟩ := by simpa [DecIn] using hd2); clear c1; have c2 := hd2.c2)
      | (with_reducible show wpList _ _ _ (⟨none, .store _ (.tmp 33) _, _, _, _, _⟩ :: _) _ _; go_must (refine wpList_store1 rfl _ (.tmp 33) (.tmp 31) rfl hd2.blk (.int _ _) rfl rfl (by simp) (by exact sizeR) rfl ?_); intro w3 hd3 ho3; go_must (replace hd3 : DecIn w3 d ⟨D.o + 1, D.l - 1, D.b * 64 + x % 64, D.lo, D.hi⟩ := by simpa [DecIn] using hd3); clear c2)
      | (with_reducible show wpList _ _ _ (⟨none, .store _ (.tmp 37) _, _, _, _, _⟩ :: _) _ _; go_must (refine wpList_store1 rfl _ (.tmp 37) (.const (.int .u8 128)) rfl hd3.blk (.int _ _) rfl rfl (by simp) (by exact sizeU) rfl ?_); intro w4 hd4 ho4; go_must (replace hd4 : DecIn w4 d ⟨D.o + 1, D.l - 1, D.b * 64 + x % 64, 128, D.hi⟩ := by simpa [DecIn] using hd4))
      | (with_reducible show wpList _ _ _ (⟨none, .store _ (.tmp 39) _, _, _, _, _⟩ :: _) _ _; go_must (refine wpList_store1 rfl _ (.tmp 39) (.const (.int .u8 191)) rfl hd4.blk (.int _ _) rfl rfl (by simp) (by exact sizeU) rfl ?_); intro w5 hd5 ho5; go_must (replace hd5 : DecIn w5 d ⟨D.o + 1, D.l - 1, D.b * 64 + x % 64, 128, 191⟩ := by simpa [DecIn] using hd5); have c5 := hd5.c1; have c6 := hd5.c2))
    go_ret
    rw [hE.out]
    exact ⟨v, rfl, told_store (DecIn.num hd5 (by show D.b * 64 + x % 64 = _; omega)) hown hap ((((ho1.trans ho2).trans ho3).trans ho4).trans ho5)⟩
  · have hE : Hid (goOnF D x = (zero, [D.b * 64 + (x - 128)])) := by show _ = _; unfold goOnF; rw [if_neg hl]
    have hx : Hid (x % 64 = x - 128) := by show _ = _; omega
    go_enter Try.func27, Try.ntmps27
    go_wp2_with (first
      | (with_reducible show wpList _ _ _ (⟨none, .store _ (.tmp 14) _, _, _, _, _⟩ :: _) _ _; go_must (refine wpList_store1 rfl _ (.tmp 14) (.tmp 12) rfl hd.blk (.int _ _) rfl rfl (by simp) (by exact sizeI) rfl ?_); intro w1 hd1 ho1; go_must (replace hd1 : DecIn w1 d ⟨D.o + 1, D.l, D.b, D.lo, D.hi⟩ := by simpa [DecIn] using hd1); clear c0; have c1 := hd1.c1)
      | (with_reducible show wpList _ _ _ (⟨none, .store _ (.tmp 21) _, _, _, _, _⟩ :: _) _ _; go_must (refine wpList_store1 rfl _ (.tmp 21) (.tmp 19) rfl hd1.blk (.int _ _) rfl rfl (by simp) (by exact sizeI) rfl ?_); intro w2 hd2 ho2; go_must (replace hd2 : DecIn w2 d ⟨D.o + 1, D.l - 1, D.b, D.lo, D.hi⟩ := by simpa [DecIn] using hd2); clear c1; have c2 := hd2.c2)
      | (with_reducible show wpList _ _ _ (⟨none, .store _ (.tmp 33) _, _, _, _, _⟩ :: _) _ _; go_must (refine wpList_store1 rfl _ (.tmp 33) (.tmp 31) rfl hd2.blk (.int _ _) rfl rfl (by simp) (by exact sizeR) rfl ?_); intro w3 hd3 ho3; go_must (replace hd3 : DecIn w3 d ⟨D.o + 1, D.l - 1, D.b * 64 + x % 64, D.lo, D.hi⟩ := by simpa [DecIn] using hd3); clear c2)
      | (with_reducible show wpList _ _ _ (⟨none, .store _ (.tmp 37) _, _, _, _, _⟩ :: _) _ _; go_must (refine wpList_store1 rfl _ (.tmp 37) (.const (.int .u8 128)) rfl hd3.blk (.int _ _) rfl rfl (by simp) (by exact sizeU) rfl ?_); intro w4 hd4 ho4; go_must (replace hd4 : DecIn w4 d ⟨D.o + 1, D.l - 1, D.b * 64 + x % 64, 128, D.hi⟩ := by simpa [DecIn] using hd4))
      | (with_reducible show wpList _ _ _ (⟨none, .store _ (.tmp 39) _, _, _, _, _⟩ :: _) _ _; go_must (refine wpList_store1 rfl _ (.tmp 39) (.const (.int .u8 191)) rfl hd4.blk (.int _ _) rfl rfl (by simp) (by exact sizeU) rfl ?_); intro w5 hd5 ho5; go_must (replace hd5 : DecIn w5 d ⟨D.o + 1, D.l - 1, D.b * 64 + x % 64, 128, 191⟩ := by simpa [DecIn] using hd5); have c5 := hd5.c1; have c6 := hd5.c2)
      | (with_reducible show wpList _ _ _ (⟨none, .store _ (.tmp 52) _, _, _, _, _⟩ :: _) _ _; go_must (refine wpList_storeAll rfl _ (.tmp 52) (.tmp 51) rfl hd5.blk _ rfl rfl (by simpa using sizeD) (by simp) (by simp [Value.oneCell']) ?_); intro w6 hd6 ho6; clear c5 c6)
      | (at_builtin; refine wpList_app elemR rfl _ _ rfl B v out [_] _ (w6.heap.size + 1) 1 rfl rfl ((hown.only (((((ho1.trans ho2).trans ho3).trans ho4).trans ho5).trans ho6) (apart_one hap)).alloc _) (Nums.one _ _ _ _) ?_ ?_ ?_ ?_; (have := (((((ho1.trans ho2).trans ho3).trans ho4).trans ho5).trans ho6).size; simp; omega); (simp; omega); (simp [maxLen]; omega); intro v' w7 hown1 ho7 hat1))
    go_ret
    rw [hE.out]
    rw [hx.out] at hown1
    exact ⟨v', rfl, told_app (D := zero) hd6 hap (((((ho1.trans ho2).trans ho3).trans ho4).trans ho5).trans ho6) hown1 ho7 hat1⟩

end Go.Proofs.Ytjafaicpnhdodaa.Utf
