/-
  The law UtfBack.
-/
import Derived.Test.YtjafaicpnhdodaaULaw3
import Derived.Test.YtjafaicpnhdodaaUBMath
namespace Go.Proofs.Ytjafaicpnhdodaa.Utf
open Go Go.RowKit Go.Proofs.Ytjafaicpnhdodaa.Com

theorem own_apart {w : World} {B B' : Nat} {e e' : TypeId} {k k' : IntKind} {v v' : Value} {l l' : List Int} (h : Own w B e k v l) (h' : Own w B' e' k' v' l') (he : e ≠ e') : ∀ g, v.ownBlock = some g → g ∉ v'.ownBlock.toList := by
  intro g hg hm
  rcases h.2 with ⟨rfl, _⟩ | ⟨x, cap, cur, rfl, _, hh, _⟩
  · simp [Value.ownBlock] at hg
  · have hx : x = g := by simpa [Value.ownBlock] using hg
    subst hx
    exact h'.apart (g := x) hh (fun e => he e.symm) (by simpa using hm)
theorem enc_len (r : Int) : 1 ≤ (encF r).length ∧ (encF r).length ≤ 4 := by
  unfold encF
  split
  · simp
  · split
    · simp
    · split
      · simp
      · split <;> simp
theorem encAll_snoc (l : List Int) (r : Int) : encAll (l ++ [r]) = encAll l ++ encF r := by simp [encAll]
theorem encAll_len : ∀ l : List Int, (encAll l).length ≤ 4 * l.length
  | [] => by simp [encAll]
  | r :: l => by
    have h := enc_len r
    have ih := encAll_len l
    show (encF r ++ encAll l).length ≤ _
    rw [List.length_append, List.length_cons]
    omega
theorem enc_bytes (r : Int) : Bytes (encF r) := by
  unfold encF
  intro x hx
  unfold IsByte
  split at hx
  · simp at hx; omega
  · split at hx
    · simp at hx; omega
    · split at hx
      · simp at hx; omega
      · split at hx
        · simp at hx; omega
        · simp at hx; omega
theorem encAll_bytes (l : List Int) : Bytes (encAll l) := fun x hx => by
  obtain ⟨r, _, hr⟩ := List.mem_flatMap.1 hx
  exact enc_bytes r x hr

/-- The first loop: what was encoded, and what is wanted. -/
structure EncAt (w : World) (s : List Int) (v5 v6 : Value) (wr : World) : Prop where
  all : Own wr w.heap.size 5 .u8 v5 (encAll s)
  want : Own wr w.heap.size 21 .i32 v6 (s.map fixF)
  below : Below w.heap.size w wr
theorem encAt_next {w wr w1 w2 w3 : World} {s : List Int} {v5 v6 v5' v6' : Value} {r : Int} {o : Obj} (h : EncAt w s v5 v6 wr) (hb : Below wr.heap.size wr w1)
    (h5 : Own w2 w.heap.size 5 .u8 v5' (encAll s ++ encF r)) (ho5 : Only v5.ownBlock.toList w1 w2)
    (h6 : Own w3 w.heap.size 21 .i32 v6' (s.map fixF ++ [fixF r])) (ho6 : Only v6.ownBlock.toList (w2.alloc o) w3) : EncAt w (s ++ [r]) v5' v6' w3 := by
  have hB := h.below.size
  have hs1 := hb.size
  have hs2 := ho5.size
  have a1 := (Own.only h.all (Only.of_below hb []) (by simp))
  have w1' := (Own.only h.want (Only.of_below hb []) (by simp))
  have w2' := Own.only w1' ho5 (own_apart w1' a1 (by decide))
  have b1 := below_app0 (below_next h.below (hb.mono (Nat.le_refl _))) a1 (by omega) ho5
  refine ⟨?_, by rw [List.map_append]; exact h6, below_app b1 w2' (by omega) o ho6⟩
  rw [encAll_snoc]
  exact Own.only (h5.alloc o) ho6 (own_apart h5 w2' (by decide))

/-- The second loop: what was encoded again. -/
structure BackAt (w : World) (s : List Int) (v : Value) (wr : World) : Prop where
  own : Own wr w.heap.size 5 .u8 v (encAll s)
  below : Below w.heap.size w wr
  good : ∀ x ∈ s, x ≠ 65533
theorem backAt_next {w wr w1 w2 : World} {s : List Int} {v v2 : Value} {x : Int} (h : BackAt w s v wr) (hb : Below wr.heap.size wr w1) (h2 : Own w2 w.heap.size 5 .u8 v2 (encAll s ++ encF x)) (ho : Only v.ownBlock.toList w1 w2) (hx : x ≠ 65533) : BackAt w (s ++ [x]) v2 w2 := by
  have hB := h.below.size
  have hs := hb.size
  refine ⟨by rw [encAll_snoc]; exact h2, below_app0 (below_next h.below hb) (Own.only h.own (Only.of_below hb []) (by simp)) (by omega) ho, fun y hy => ?_⟩
  rcases List.mem_append.1 hy with hy | hy
  · exact h.good y hy
  · simp at hy; subst hy; exact hx
theorem fix_yes {r : Int} (h : Valid r) : fixF r = r := if_pos h
theorem fix_no {r : Int} (h : ¬ Valid r) : fixF r = 65533 := if_neg h

set_option maxRecDepth 100000 in
set_option maxHeartbeats 4000000 in
theorem lawBack (l0 : List Int) (_hf0 : Fits .i32 l0) (a0 : Option Addr) (c0 : Nat) (_hc0 : l0.length ≤ c0) (hm0 : c0 ≤ maxLen) (l1 : List Int) (hf1 : Fits .u8 l1) (a1 : Option Addr) (c1 : Nat) (_hc1 : l1.length ≤ c1) (hm1 : c1 ≤ maxLen) (w : World)
    (hn0 : Nums w w.heap.size .i32 a0 l0) (hn1 : Nums w w.heap.size .u8 a1 l1) :
    Calls Try.prog 7 #[.slice a0 l0.length c0, .slice a1 l1.length c1] w fun e w' => e = .returned (.bool true) ∧ Below w.heap.size w w' := by
  have hb1 := bytes_of_fits hf1
  have h630 : l0.length ≤ 9223372036854775807 := by simp only [maxLen] at hm0; omega
  have h631 : l1.length ≤ 9223372036854775807 := by simp only [maxLen] at hm1; omega
  clear hm0 hm1 hf1
  by_cases h0 : 1000 < l0.length
  · go_enter Try.func7, Try.ntmps7
    go_wp2_with ((go_at_call 9; refine (known_any _).mono ?_; rintro e w1 ⟨rfl, hb1⟩))
    go_ret
    exact ⟨rfl, hb1⟩
  by_cases h1 : 3000 < l1.length
  · go_enter Try.func7, Try.ntmps7
    go_wp2_with ((go_at_call 9; refine (known_any _).mono ?_; rintro e w1 ⟨rfl, hb1⟩))
    go_ret
    exact ⟨rfl, hb1⟩
  have h0' : l0.length ≤ 1000 := by omega
  have h1' : l1.length ≤ 3000 := by omega
  clear h0 h1
  have hlen0 : ∀ k, (encAll (l0.take k)).length ≤ 4000 ∧ ((l0.take k).map fixF).length ≤ 1000 := fun k => ⟨Nat.le_trans (encAll_len _) (by simp; omega), by simp; omega⟩
  replace hlen0 := Lib.hid hlen0
  go_enter Try.func7, Try.ntmps7
  go_wp2_with fail
  go_loopw [5, 6, 24] (fun v5 v6 i wr => ∃ k : Nat, i = .int .i64 k ∧ k ≤ l0.length ∧ EncAt w (l0.take k) v5 v6 wr) (fun _ _ i _ => l0.length - (intOf i).toNat)
  case atStart => exact ⟨0, rfl, by omega, Own.nil _ _ _ _, Own.nil _ _ _ _, Below.refl _ _⟩
  case round =>
    obtain ⟨k, rfl, hk, hat⟩ := hrel
    by_cases hlt : k < l0.length
    · obtain ⟨ad, rfl, _, hcell⟩ := (hn0.below hat.below (Nat.le_refl _)).at hlt
      have henc := Lib.hid (encode_any l0[k] wr)
      have hnext := fun w1 w2 w3 v5' v6' o => Lib.hid (encAt_next (r := l0[k]) (w1 := w1) (w2 := w2) (w3 := w3) (v5' := v5') (v6' := v6') (o := o) hat)
      have hts := Lib.hid (take_snoc hlt)
      have hall := hat.all
      have hwant := hat.want
      have hB := hat.below.size
      obtain ⟨hL5, hL6⟩ := hlen0.out k
      clear hn0 hn1 hat
      generalize hS : (l0.take k).map fixF = S at hwant hL6 hnext
      generalize hA : encAll (l0.take k) = A at hall hL5 hnext
      clear hS hA
      generalize l0[k] = r at hcell hnext hts henc
      obtain ⟨E, hE⟩ : ∃ E, E = encF r := ⟨_, rfl⟩
      obtain ⟨hE1, hE4⟩ : 1 ≤ E.length ∧ E.length ≤ 4 := by rw [hE]; exact enc_len r
      replace hE := Lib.hid hE
      rcases (show r < 0 ∨ 1114111 < r ∨ (55296 ≤ r ∧ r ≤ 57343) ∨ (0 ≤ r ∧ r < 55296) ∨ (57343 < r ∧ r ≤ 1114111) by omega) with hr | hr | ⟨hr, hr'⟩ | ⟨hr, hr'⟩ | ⟨hr, hr'⟩
      · have hfx := Lib.hid (fix_no (r := r) (by unfold Valid; omega))
        go_wp2_with (first
          | (go_at_call 13; refine (henc.out).mono ?_; rintro e w1 ⟨v1, rfl, hownE, hbE⟩; rw [← hE.out] at hownE; obtain ⟨b1, d1, rfl, _, _, hnE⟩ := hownE.shape; have hs1 := hbE.size; have hall1 := Own.only hall (Only.of_below hbE []) (by simp); have hwant1 := Own.only hwant (Only.of_below hbE []) (by simp))
          | (with_reducible show wpList _ _ _ (⟨some 40, .call _, _, _, _, _⟩ :: _) _ _; go_must (refine wpList_app elemB rfl (.tmp 38) (.tmp 39) rfl w.heap.size u5 A E b1 w1.heap.size d1 rfl rfl hall1 hnE ?_ ?_ ?_ ?_; (omega); (omega); (simp only [maxLen]; omega); intro v5 w2 hown5 ho5 hat5; have hs2 := ho5.size; have hwant2 := Own.only hwant1 ho5 (own_apart hwant1 hall1 (by decide))))
          | (with_reducible show wpList _ _ _ (⟨some 58, .call _, _, _, _, _⟩ :: _) _ _; go_must (refine wpList_app elemR rfl (.tmp 55) (.tmp 57) rfl w.heap.size u6 S [_] _ (w2.heap.size + 1) 1 rfl rfl (hwant2.alloc _) (Nums.one _ _ _ _) ?_ ?_ ?_ ?_; (simp; omega); (simp; omega); (simp [maxLen]; omega); intro v6 w3 hown6 ho6 hat6)))
        go_roundw
        case rel => exact ⟨k + 1, by go_num, by omega, by rw [hts.out]; exact (hnext _ _ _ _ _ _).out hbE (by rw [← hE.out]; exact hown5) ho5 (by rw [hfx.out]; exact hown6) ho6⟩
        case measure => simp [intOf]; omega
      · have hfx := Lib.hid (fix_no (r := r) (by unfold Valid; omega))
        go_wp2_with (first
          | (go_at_call 13; refine (henc.out).mono ?_; rintro e w1 ⟨v1, rfl, hownE, hbE⟩; rw [← hE.out] at hownE; obtain ⟨b1, d1, rfl, _, _, hnE⟩ := hownE.shape; have hs1 := hbE.size; have hall1 := Own.only hall (Only.of_below hbE []) (by simp); have hwant1 := Own.only hwant (Only.of_below hbE []) (by simp))
          | (with_reducible show wpList _ _ _ (⟨some 40, .call _, _, _, _, _⟩ :: _) _ _; go_must (refine wpList_app elemB rfl (.tmp 38) (.tmp 39) rfl w.heap.size u5 A E b1 w1.heap.size d1 rfl rfl hall1 hnE ?_ ?_ ?_ ?_; (omega); (omega); (simp only [maxLen]; omega); intro v5 w2 hown5 ho5 hat5; have hs2 := ho5.size; have hwant2 := Own.only hwant1 ho5 (own_apart hwant1 hall1 (by decide))))
          | (with_reducible show wpList _ _ _ (⟨some 58, .call _, _, _, _, _⟩ :: _) _ _; go_must (refine wpList_app elemR rfl (.tmp 55) (.tmp 57) rfl w.heap.size u6 S [_] _ (w2.heap.size + 1) 1 rfl rfl (hwant2.alloc _) (Nums.one _ _ _ _) ?_ ?_ ?_ ?_; (simp; omega); (simp; omega); (simp [maxLen]; omega); intro v6 w3 hown6 ho6 hat6)))
        go_roundw
        case rel => exact ⟨k + 1, by go_num, by omega, by rw [hts.out]; exact (hnext _ _ _ _ _ _).out hbE (by rw [← hE.out]; exact hown5) ho5 (by rw [hfx.out]; exact hown6) ho6⟩
        case measure => simp [intOf]; omega
      · have hfx := Lib.hid (fix_no (r := r) (by unfold Valid; omega))
        go_wp2_with (first
          | (go_at_call 13; refine (henc.out).mono ?_; rintro e w1 ⟨v1, rfl, hownE, hbE⟩; rw [← hE.out] at hownE; obtain ⟨b1, d1, rfl, _, _, hnE⟩ := hownE.shape; have hs1 := hbE.size; have hall1 := Own.only hall (Only.of_below hbE []) (by simp); have hwant1 := Own.only hwant (Only.of_below hbE []) (by simp))
          | (with_reducible show wpList _ _ _ (⟨some 40, .call _, _, _, _, _⟩ :: _) _ _; go_must (refine wpList_app elemB rfl (.tmp 38) (.tmp 39) rfl w.heap.size u5 A E b1 w1.heap.size d1 rfl rfl hall1 hnE ?_ ?_ ?_ ?_; (omega); (omega); (simp only [maxLen]; omega); intro v5 w2 hown5 ho5 hat5; have hs2 := ho5.size; have hwant2 := Own.only hwant1 ho5 (own_apart hwant1 hall1 (by decide))))
          | (with_reducible show wpList _ _ _ (⟨some 58, .call _, _, _, _, _⟩ :: _) _ _; go_must (refine wpList_app elemR rfl (.tmp 55) (.tmp 57) rfl w.heap.size u6 S [_] _ (w2.heap.size + 1) 1 rfl rfl (hwant2.alloc _) (Nums.one _ _ _ _) ?_ ?_ ?_ ?_; (simp; omega); (simp; omega); (simp [maxLen]; omega); intro v6 w3 hown6 ho6 hat6)))
        go_roundw
        case rel => exact ⟨k + 1, by go_num, by omega, by rw [hts.out]; exact (hnext _ _ _ _ _ _).out hbE (by rw [← hE.out]; exact hown5) ho5 (by rw [hfx.out]; exact hown6) ho6⟩
        case measure => simp [intOf]; omega
      · have hfx := Lib.hid (fix_yes (r := r) (by unfold Valid; omega))
        go_wp2_with (first
          | (go_at_call 13; refine (henc.out).mono ?_; rintro e w1 ⟨v1, rfl, hownE, hbE⟩; rw [← hE.out] at hownE; obtain ⟨b1, d1, rfl, _, _, hnE⟩ := hownE.shape; have hs1 := hbE.size; have hall1 := Own.only hall (Only.of_below hbE []) (by simp); have hwant1 := Own.only hwant (Only.of_below hbE []) (by simp))
          | (with_reducible show wpList _ _ _ (⟨some 40, .call _, _, _, _, _⟩ :: _) _ _; go_must (refine wpList_app elemB rfl (.tmp 38) (.tmp 39) rfl w.heap.size u5 A E b1 w1.heap.size d1 rfl rfl hall1 hnE ?_ ?_ ?_ ?_; (omega); (omega); (simp only [maxLen]; omega); intro v5 w2 hown5 ho5 hat5; have hs2 := ho5.size; have hwant2 := Own.only hwant1 ho5 (own_apart hwant1 hall1 (by decide))))
          | (with_reducible show wpList _ _ _ (⟨some 58, .call _, _, _, _, _⟩ :: _) _ _; go_must (refine wpList_app elemR rfl (.tmp 55) (.tmp 57) rfl w.heap.size u6 S [_] _ (w2.heap.size + 1) 1 rfl rfl (hwant2.alloc _) (Nums.one _ _ _ _) ?_ ?_ ?_ ?_; (simp; omega); (simp; omega); (simp [maxLen]; omega); intro v6 w3 hown6 ho6 hat6)))
        go_roundw
        case rel => exact ⟨k + 1, by go_num, by omega, by rw [hts.out]; exact (hnext _ _ _ _ _ _).out hbE (by rw [← hE.out]; exact hown5) ho5 (by rw [hfx.out]; exact hown6) ho6⟩
        case measure => simp [intOf]; omega
      · have hfx := Lib.hid (fix_yes (r := r) (by unfold Valid; omega))
        go_wp2_with (first
          | (go_at_call 13; refine (henc.out).mono ?_; rintro e w1 ⟨v1, rfl, hownE, hbE⟩; rw [← hE.out] at hownE; obtain ⟨b1, d1, rfl, _, _, hnE⟩ := hownE.shape; have hs1 := hbE.size; have hall1 := Own.only hall (Only.of_below hbE []) (by simp); have hwant1 := Own.only hwant (Only.of_below hbE []) (by simp))
          | (with_reducible show wpList _ _ _ (⟨some 40, .call _, _, _, _, _⟩ :: _) _ _; go_must (refine wpList_app elemB rfl (.tmp 38) (.tmp 39) rfl w.heap.size u5 A E b1 w1.heap.size d1 rfl rfl hall1 hnE ?_ ?_ ?_ ?_; (omega); (omega); (simp only [maxLen]; omega); intro v5 w2 hown5 ho5 hat5; have hs2 := ho5.size; have hwant2 := Own.only hwant1 ho5 (own_apart hwant1 hall1 (by decide))))
          | (with_reducible show wpList _ _ _ (⟨some 58, .call _, _, _, _, _⟩ :: _) _ _; go_must (refine wpList_app elemR rfl (.tmp 55) (.tmp 57) rfl w.heap.size u6 S [_] _ (w2.heap.size + 1) 1 rfl rfl (hwant2.alloc _) (Nums.one _ _ _ _) ?_ ?_ ?_ ?_; (simp; omega); (simp; omega); (simp [maxLen]; omega); intro v6 w3 hown6 ho6 hat6)))
        go_roundw
        case rel => exact ⟨k + 1, by go_num, by omega, by rw [hts.out]; exact (hnext _ _ _ _ _ _).out hbE (by rw [← hE.out]; exact hown5) ho5 (by rw [hfx.out]; exact hown6) ho6⟩
        case measure => simp [intOf]; omega
    · have hkl : l0.take k = l0 := List.take_of_length_le (by omega)
      rw [hkl] at hat
      have hall := hat.all
      have hwant := hat.want
      have hB := hat.below
      obtain ⟨A, hA⟩ : ∃ A, A = encAll l0 := ⟨_, rfl⟩
      obtain ⟨T, hT⟩ : ∃ T, T = l0.map fixF := ⟨_, rfl⟩
      rw [← hA] at hall
      rw [← hT] at hwant
      have hAl : A.length ≤ 4000 := by rw [hA]; exact Nat.le_trans (encAll_len _) (by omega)
      have hTl : T.length ≤ 1000 := by rw [hT]; simp; omega
      have hdT : decF A = T := by rw [hA, hT]; exact dec_encAll l0
      have hAb : Bytes A := by rw [hA]; exact encAll_bytes l0
      replace hA := Lib.hid hA
      replace hT := Lib.hid hT
      replace hdT := Lib.hid hdT
      obtain ⟨b5, d5, rfl, _, _, hn5⟩ := hall.shape
      obtain ⟨b6, d6, rfl, _, _, hn6⟩ := hwant.shape
      have hdc := Lib.hid (decode_any A hAb b5 d5 wr (by omega) hn5)
      clear hat hkl hall hn0
      go_wp2_with fail
      refine hdc.out.mono ?_
      rintro e w1 ⟨v1, rfl, hown1, hb1'⟩
      rw [hdT.out] at hown1
      obtain ⟨b7, d7, rfl, _, _, hn7⟩ := hown1.shape
      go_wp2_with fail
      refine (same_yes T b7 b6 d7 d6 w1 w1.heap.size (by omega) hn7 ((hn6.below hb1' (Nat.le_refl _)).more hb1'.size)).mono ?_
      rintro e w2 ⟨rfl, hb2⟩
      have hB2 := below_next (below_next hB hb1') hb2
      have hdc1 := Lib.hid (decode_any l1 hb1 a1 c1 w2 (by omega) ((hn1.below hB2 (Nat.le_refl _)).more hB2.size))
      clear hdc hn5 hn6 hn7 hwant hown1 hb1' hb2 hdT hA hT hAl hTl hAb hB
      go_wp2_with fail
      refine hdc1.out.mono ?_
      rintro e w3 ⟨v3, rfl, hown3, hb3⟩
      have hB3 := below_next hB2 hb3
      obtain ⟨T, hT⟩ : ∃ T, T = decF l1 := ⟨_, rfl⟩
      rw [← hT] at hown3
      have hTl : T.length ≤ 3000 := by rw [hT]; exact Nat.le_trans (dec_len hb1) (by omega)
      have hback := fun hno => back l1.length l1 (Nat.le_refl _) hb1 hno
      rw [← hT] at hback
      replace hback := Lib.hid hback
      have hsm := Lib.hid (dec_small hb1)
      rw [← hT] at hsm
      obtain ⟨b3, d3, rfl, _, _, hn3⟩ := hown3.shape
      clear hdc1 hown3 hb3 hT
      go_wp2_with fail
      have hnb := hn1.below hB3 (Nat.le_refl _)
      have hs3 := hB3.size
      clear hn1 hB2 hk hlt hlen0
      go_loopw [10, 68] (fun v i wr => ∃ k : Nat, i = .int .i64 k ∧ k ≤ T.length ∧ BackAt w3 (T.take k) v wr) (fun _ i _ => T.length - (intOf i).toNat)
      case atStart => exact ⟨0, rfl, by omega, Own.nil _ _ _ _, Below.refl _ _, by simp⟩
      case round =>
        obtain ⟨k, rfl, hk, hat⟩ := hrel
        have hown := hat.own
        have hbel := hat.below
        by_cases hlt : k < T.length
        · obtain ⟨ad, rfl, _, hcell⟩ := (hn3.below hbel (Nat.le_refl _)).at hlt
          have hts := Lib.hid (take_snoc hlt)
          have hL : (encAll (T.take k)).length ≤ 12000 := Nat.le_trans (encAll_len _) (by simp; omega)
          have hBk := below_next hB3 hbel
          have hnext := fun w1 w2 v2 => Lib.hid (backAt_next (x := T[k]) (w1 := w1) (w2 := w2) (v2 := v2) hat)
          clear hn3 hnb hat hback hsm
          generalize encAll (T.take k) = A at hown hL hnext
          generalize T[k] = x at hcell hts hnext
          by_cases hx : x = 65533
          · subst hx
            clear hnext hts
            go_wp2_with ((go_at_call 9; refine (known_any _).mono ?_; rintro e w4 ⟨rfl, hb4⟩))
            go_ret
            exact ⟨rfl, below_next hBk hb4⟩
          · have hne : (x == 65533) = false := by simpa using hx
            have hx' := Lib.hid hx
            have hs4 := hbel.size
            clear hx
            obtain ⟨E, hE⟩ : ∃ E, E = encF x := ⟨_, rfl⟩
            obtain ⟨hE1, hE4⟩ : 1 ≤ E.length ∧ E.length ≤ 4 := by rw [hE]; exact enc_len x
            replace hE := Lib.hid hE
            go_wp2_with (first
              | (go_at_call 13; refine (encode_any x wr).mono ?_; rintro e w4 ⟨v4, rfl, hownE, hbE⟩; rw [← hE.out] at hownE; obtain ⟨b4, d4, rfl, _, _, hnE⟩ := hownE.shape; have hs5 := hbE.size; have hown4 := Own.only hown (Only.of_below hbE []) (by simp))
              | (with_reducible show wpList _ _ _ (⟨some 78, .call _, _, _, _, _⟩ :: _) _ _; go_must (refine wpList_app elemB rfl (.tmp 75) (.tmp 77) rfl w3.heap.size u10 A E b4 w4.heap.size d4 rfl rfl hown4 hnE ?_ ?_ ?_ ?_; (omega); (omega); (simp only [maxLen]; omega); intro v5 w5 hown5 ho5 hat5)))
            go_roundw
            case rel => exact ⟨k + 1, by go_num, by omega, by rw [hts.out]; exact (hnext _ _ _).out hbE (by rw [← hE.out]; exact hown5) ho5 hx'.out⟩
            case measure => simp [intOf]; omega
        · have hkl : T.take k = T := List.take_of_length_le (by omega)
          have hno := hat.good
          rw [hkl] at hown hno
          have hBk := below_next hB3 hbel
          rw [hback.out (fun hm => hno _ hm rfl)] at hown
          obtain ⟨b4, d4, rfl, _, _, hn4⟩ := hown.shape
          have hnb4 := hnb.below hbel hs3
          clear hnb hn3 hat hback hsm hkl hown hno
          go_wp2_with (first
            | (with_reducible show wpList _ _ _ (⟨some 81, .convert _ _ _, _, _, _, _⟩ :: _) _ _; go_must (refine wpList_text rfl (.tmp 80) rfl Try.underlying22 Try.underlying5 Try.underlying9 d4 hn4 rfl ?_))
            | (with_reducible show wpList _ _ _ (⟨some 83, .convert _ _ _, _, _, _, _⟩ :: _) _ _; go_must (refine wpList_text rfl (.tmp 82) rfl Try.underlying22 Try.underlying5 Try.underlying9 c1 hnb4 rfl ?_))
            | (go_at_call 9; refine (known_any _).mono ?_; rintro e w5 ⟨rfl, hb5⟩))
          go_ret
          exact ⟨rfl, below_next hBk hb5⟩

end Go.Proofs.Ytjafaicpnhdodaa.Utf
