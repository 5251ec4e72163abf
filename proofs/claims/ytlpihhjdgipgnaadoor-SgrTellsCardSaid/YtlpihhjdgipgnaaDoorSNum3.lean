/-
  sgr: the reference's Numbers.
-/
import Derived.Test.YtlpihhjdgipgnaaDoorSNum2
namespace Go.Proofs.YtlpihhjdgipgnaaDoor.Sgr
open Go Go.RowKit Go.Proofs.YtlpihhjdgipgnaaDoor.Com

theorem r_small {n : Int} (h0 : 1 ≤ n) (h1 : n ≤ 9) : rflagF n = (flagF n, if flagF n = 0 then 0 else 1) := by
  unfold rflagF
  rw [if_neg (by omega)]
  by_cases h : flagF n = 0
  · rw [if_neg (by simpa using h), if_neg (by omega), if_pos h, h]
  · rw [if_pos h, if_neg h]
theorem rto_yes {g F : Int} {k : Nat} (hF : flagF ((k : Int) + 1) = F) (h0 : F ≠ 0) (h : (bits .and .u16 g F != 0) = true) : rTo g (k + 1) = rTo g k ++ [(k : Int) + 1] := by
  rw [rTo, hF, if_pos ⟨h0, h⟩]
theorem rto_no {g F : Int} {k : Nat} (hF : flagF ((k : Int) + 1) = F) (h : (bits .and .u16 g F != 0) = false) : rTo g (k + 1) = rTo g k := by
  rw [rTo, hF, if_neg (fun e => by have := e.2; rw [hasF, h] at this; cases this), List.append_nil]
theorem rto_zero {g : Int} {k : Nat} (hF : flagF ((k : Int) + 1) = 0) : rTo g (k + 1) = rTo g k := by
  rw [rTo, hF, if_neg (fun e => e.1 rfl), List.append_nil]

set_option maxRecDepth 100000 in
set_option maxHeartbeats 4000000 in
theorem rnumbers_any (a : At) (h : mayF a = true) (ha : a.Ok) (w : World) :
    Calls Tryd.prog 14 #[.agg #[.int .u32 a.f, .int .u32 a.b, .int .u16 a.g]] w (Row w (numbersF a)) := by
  have hp := may_p ha h
  have hb0 := below_new w (.cells #[.int .u32 a.f, .int .u32 a.b, .int .u16 a.g] 25)
  have hat0 := AIn.made w a
  have hF := fun w' => rnums_any a.f 0 (by omega) ha.f0 hp.f w'
  have hB := fun w' => rnums_any a.b 10 (by omega) ha.b0 hp.b w'
  simp only [Int.add_zero, Int.reduceAdd] at hF hB
  replace hF := Lib.hid hF
  replace hB := Lib.hid hB
  obtain ⟨NN, hNN⟩ : ∃ NN, NN = numbersF a := ⟨_, rfl⟩
  rw [← hNN]
  have hE : NN = (0 :: rTo a.g 9) ++ numF 30 82 38 a.f ++ numF 40 92 48 a.b := by rw [hNN, to_same]; rfl
  clear hNN
  have hlenF := num_len 30 82 38 a.f
  have hlenB := num_len 40 92 48 a.b
  have hlenG := rto_len a.g
  clear h hp ha
  obtain ⟨f, b, g⟩ := a
  simp only at hF hB hE hat0 hlenF hlenB hlenG
  generalize numF 30 82 38 f = LF at hF hE hlenF
  generalize numF 40 92 48 b = LB at hB hE hlenB
  have hN0 := NumAt.mk (w0 := w) (hat0.new (below_new _ (.cells #[.int .i64 0] 3))) (show Own ((w.alloc (.cells #[.int .u32 f, .int .u32 b, .int .u16 g] 25)).alloc (.cells #[.int .i64 0] 3)) w.heap.size 3 .i64 (.slice (some ⟨(w.alloc (.cells #[.int .u32 f, .int .u32 b, .int .u16 g] 25)).heap.size, 0, none⟩) 1 1) (0 :: rTo g 0) by simpa [rTo] using Own.lit (w.alloc (.cells #[.int .u32 f, .int .u32 b, .int .u16 g] 25)) w.heap.size 3 .i64 [0] hb0.size (by simp [maxLen])) (Nat.le_refl _) (below_next hb0 (below_new _ (.cells #[.int .i64 0] 3)))
  rw [World.size_alloc] at hN0
  replace hN0 := Lib.hid hN0
  replace hE := Lib.hid hE
  clear hb0 hat0
  go_enter Tryd.func14, Tryd.ntmps14
  go_wp2_with fail
  generalize ((w.alloc (.cells #[.int .u32 f, .int .u32 b, .int .u16 g] 25)).alloc (.cells #[.int .i64 0] 3)) = w3 at hN0 ⊢
  obtain ⟨e0, he0⟩ : ∃ e, e = w.heap.size + 1 := ⟨_, rfl⟩
  rw [← he0] at hN0 ⊢
  obtain ⟨d, hd⟩ : ∃ d, d = w.heap.size := ⟨_, rfl⟩
  rw [← hd] at hN0 ⊢
  clear hd he0
  go_loopw [4, 3] (fun i v wq => ∃ (k : Nat) (wr : World), i = .int .i64 ((k : Int) + 1) ∧ k ≤ 9 ∧ wr = wq ∧ Hid (NumAt w wr d ⟨f, b, g⟩ v (0 :: rTo g k))) (fun i _ _ => 11 - (intOf i).toNat)
  case atStart => exact ⟨0, _, rfl, by omega, rfl, hN0⟩
  case round =>
    obtain ⟨k, wr, rfl, hk, rfl, hat⟩ := hrel
    clear hN0
    obtain ⟨av, nv, cv, rfl⟩ := hat.out.slice
    by_cases hlt : k < 9
    · have hsm := r_small (n := (k : Int) + 1) (by omega) (by omega)
      have m2 := hat.out.att.c2
      have hlen := hlenG k
      by_cases hz : flagF ((k : Int) + 1) = 0
      · rw [if_pos hz, hz] at hsm
        have hfl := Lib.hid (fun w' => rflag_says hsm w')
        have hnext := Lib.hid (rto_zero (g := g) hz)
        clear hsm hz
        go_wp2_with (go_at_call 17; refine (hfl.out _).mono ?_; rintro e w' ⟨rfl, rfl⟩)
        go_roundw
        case rel => exact ⟨k + 1, _, by go_num, by omega, rfl, Lib.hid (by rw [hnext.out]; exact hat.out)⟩
        case measure => simp [intOf]; omega
      · rw [if_neg hz] at hsm
        have hfl := Lib.hid (fun w' => rflag_says hsm w')
        have hyes := Lib.hid (fun F (hF : flagF ((k : Int) + 1) = F) => rto_yes (g := g) (F := F) hF)
        have hno := Lib.hid (fun F (hF : flagF ((k : Int) + 1) = F) => rto_no (g := g) (F := F) hF)
        clear hsm
        obtain ⟨F, hFF⟩ : ∃ F, flagF ((k : Int) + 1) = F := ⟨_, rfl⟩
        rw [hFF] at hfl hz
        replace hFF := Lib.hid hFF
        rcases hbit : (bits .and .u16 g F != 0) with _ | _
        · have hnext := Lib.hid (hno.out F hFF.out hbit)
          clear hyes hno hz
          go_wp2_with (go_at_call 17; refine (hfl.out _).mono ?_; rintro e w' ⟨rfl, rfl⟩)
          go_roundw
          case rel => exact ⟨k + 1, _, by go_num, by omega, rfl, Lib.hid (by rw [hnext.out]; exact hat.out)⟩
          case measure => simp [intOf]; omega
        · have hnext := Lib.hid (hyes.out F hFF.out hz hbit)
          have hat3 := Lib.hid (hat.out.new (below_new _ (.cells #[.int .i64 ((k : Int) + 1)] 3)))
          clear hyes hno hz
          go_wp2_with (first
            | (go_at_call 17; refine (hfl.out _).mono ?_; rintro e w' ⟨rfl, rfl⟩)
            | (with_reducible show wpList _ _ _ (⟨some 29, .call _, _, _, _, _⟩ :: _) _ _; go_must (refine wpList_app elemI rfl (.tmp 26) (.tmp 28) rfl w.heap.size (.slice av nv cv) (0 :: rTo g k) [(k : Int) + 1] (some ⟨_, 0, none⟩) _ 1 rfl rfl hat3.out.own (Nums.one _ _ _ _) ?_ ?_ ?_ ?_; (exact hat3.out.below.size); (simp; omega); (simp [maxLen]; omega); intro v3 w5 hown3 ho3 hl3; obtain ⟨a3, n3, c3', rfl⟩ := own_slice hown3)))
          go_roundw
          case rel => exact ⟨k + 1, _, by go_num, by omega, rfl, Lib.hid (by rw [hnext.out]; exact hat3.out.app hown3 ho3)⟩
          case measure => simp [intOf]; omega
    · have hk9 : k = 9 := by omega
      subst hk9
      have hlen := hlenG 9
      have m0 := hat.out.att.c0
      have hl5 : (0 :: rTo g 9 : List Int).length ≤ 10 := by simp; omega
      go_wp2_with fail
      refine (hF.out _).mono ?_
      rintro e w7 ⟨v7, rfl, hown7, hb7⟩
      obtain ⟨a7, c7, rfl, _, _, hn7⟩ := hown7.shape
      have hat7 := Lib.hid (hat.out.new hb7)
      have hl8 : (0 :: rTo g 9 ++ LF : List Int).length ≤ 15 := by rw [List.length_append]; omega
      clear hat m0 hlen hlenG
      go_wp2_with (with_reducible show wpList _ _ _ (⟨some 34, .call _, _, _, _, _⟩ :: _) _ _; go_must (refine wpList_app elemI rfl (.tmp 30) (.tmp 33) rfl w.heap.size (.slice av nv cv) (0 :: rTo g 9) LF a7 w7.heap.size c7 rfl rfl hat7.out.own hn7 hat7.out.below.size (by omega) (by simp only [maxLen]; omega) ?_); intro v8 w8 hown8 ho8 hat8'; have hat8 := Lib.hid (hat7.out.app hown8 ho8); have m1 := hat8.out.att.c1; obtain ⟨a8, n8, c8, rfl⟩ := own_slice hown8)
      generalize (0 :: rTo g 9 ++ LF : List Int) = L8 at hat8 hE hl8
      refine (hB.out _).mono ?_
      rintro e w10 ⟨v10, rfl, hown10, hb10⟩
      obtain ⟨a10, c10, rfl, _, _, hn10⟩ := hown10.shape
      have hat10 := Lib.hid (hat8.out.new hb10)
      go_wp2_with (with_reducible show wpList _ _ _ (⟨some 39, .call _, _, _, _, _⟩ :: _) _ _; go_must (refine wpList_app elemI rfl (.tmp 35) (.tmp 38) rfl w.heap.size (.slice a8 n8 c8) L8 LB a10 w10.heap.size c10 rfl rfl hat10.out.own hn10 hat10.out.below.size (by omega) (by simp only [maxLen]; omega) ?_); intro v11 w11 hown11 ho11 hat11'; have hat11 := Lib.hid (hat10.out.app hown11 ho11); obtain ⟨a11, n11, c11, rfl⟩ := own_slice hown11)
      go_ret
      exact ⟨_, rfl, by rw [hE.out]; exact hat11.out.own, hat11.out.below⟩

end Go.Proofs.YtlpihhjdgipgnaaDoor.Sgr
