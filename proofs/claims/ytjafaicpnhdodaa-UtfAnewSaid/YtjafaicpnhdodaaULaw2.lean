/-
  The laws of utf: UtfSplits, UtfAnew.
-/
import Derived.Test.YtjafaicpnhdodaaULaws
namespace Go.Proofs.Ytjafaicpnhdodaa.Utf
open Go Go.RowKit Go.Proofs.Ytjafaicpnhdodaa.Com

theorem own_empty (w : World) (e : TypeId) (k : IntKind) : Own (w.alloc (.cells #[] e)) w.heap.size e k (.slice (some ⟨w.heap.size, 0, none⟩) 0 0) [] :=
  Own.lit w _ e k [] (Nat.le_refl _) (by simp [maxLen])

/-- Fed the bytes s one by one, a decoder of block d has told v. -/
structure FeedAt (w : World) (d : Nat) (s : List Int) (v : Value) (wr : World) : Prop where
  dec : DecIn wr d (runF zero s).1
  own : Own wr w.heap.size 21 .i32 v (runF zero s).2
  below : Below w.heap.size w wr
  at_ : w.heap.size ≤ d
theorem feedAt_next {w wr w1 w2 : World} {d : Nat} {s : List Int} {v v1 v2 : Value} {x : Int} (h : FeedAt w d s v wr) (hf : Fed wr d (takeF (runF zero s).1 x) v1 w1)
    (hown : Own w2 w.heap.size 21 .i32 v2 ((runF zero s).2 ++ (takeF (runF zero s).1 x).2)) (ho : Only v.ownBlock.toList w1 w2) : FeedAt w d (s ++ [x]) v2 w2 := by
  have hap := h.own.apart h.dec (by decide)
  have hB := h.below.size
  refine ⟨?_, by rw [run_snoc]; exact hown, (h.below.trans (hf.only.below hB (by simpa using h.at_))).trans (ho.below (by have := hf.only.size; omega) (fun g hg => (h.own.lt g (by simpa using hg)).1)), h.at_⟩
  rw [run_snoc]
  exact Block.only hf.dec ho (fun hm => hap (by simpa using hm))

set_option maxRecDepth 100000 in
set_option maxHeartbeats 4000000 in
theorem lawSplits (l0 : List Int) (hf0 : Fits .u8 l0) (a0 : Option Addr) (c0 : Nat) (_hc0 : l0.length ≤ c0) (hm0 : c0 ≤ maxLen) (l1 : List Int) (hf1 : Fits .u8 l1) (a1 : Option Addr) (c1 : Nat) (_hc1 : l1.length ≤ c1) (hm1 : c1 ≤ maxLen) (w : World)
    (hn0 : Nums w w.heap.size .u8 a0 l0) (hn1 : Nums w w.heap.size .u8 a1 l1) :
    Calls Try.prog 6 #[.slice a0 l0.length c0, .slice a1 l1.length c1] w fun e w' => e = .returned (.bool true) ∧ Below w.heap.size w w' := by
  have hb0 := bytes_of_fits hf0
  have hb1 := bytes_of_fits hf1
  have h630 : l0.length ≤ 9223372036854775807 := by simp only [maxLen] at hm0; omega
  have h631 : l1.length ≤ 9223372036854775807 := by simp only [maxLen] at hm1; omega
  clear hm0 hm1 hf0 hf1
  by_cases h0 : 1000 < l0.length
  · go_enter Try.func6, Try.ntmps6
    go_wp2_with ((go_at_call 9; refine (known_any _).mono ?_; rintro e w1 ⟨rfl, hb1⟩))
    go_ret
    exact ⟨rfl, hb1⟩
  by_cases h1 : 1000 < l1.length
  · go_enter Try.func6, Try.ntmps6
    go_wp2_with ((go_at_call 9; refine (known_any _).mono ?_; rintro e w1 ⟨rfl, hb1⟩))
    go_ret
    exact ⟨rfl, hb1⟩
  have h0' : l0.length ≤ 1000 := by omega
  have h1' : l1.length ≤ 1000 := by omega
  clear h0 h1
  have hlen0 : ∀ k, (runF zero (l0.take k)).2.length ≤ 1000 := fun k => Nat.le_trans (run_len (bytes_take hb0 k)) (by simp; omega)
  have hlen1 : ∀ k, (runF zero (l0 ++ l1.take k)).2.length ≤ 2000 := fun k => Nat.le_trans (run_len (fun x hx => (List.mem_append.1 hx).elim (hb0 x) (fun h => bytes_take hb1 k x h))) (by simp; omega)
  have hok0 : ∀ k, (runF zero (l0.take k)).1.Ok := fun k => run_ok _ zero_ok (bytes_take hb0 k)
  have hok1 : ∀ k, (runF zero (l0 ++ l1.take k)).1.Ok := fun k => run_ok _ zero_ok (fun x hx => (List.mem_append.1 hx).elim (hb0 x) (fun h => bytes_take hb1 k x h))
  replace hlen0 := Lib.hid hlen0
  replace hlen1 := Lib.hid hlen1
  replace hok0 := Lib.hid hok0
  replace hok1 := Lib.hid hok1
  go_enter Try.func6, Try.ntmps6
  go_wp2_with ((go_at_call 15; refine (new_any _).mono ?_; rintro e wn ⟨rfl, hdn, hon⟩))
  go_loopw [6, 23] (fun v i wr => ∃ k : Nat, i = .int .i64 k ∧ k ≤ l0.length ∧ FeedAt w w.heap.size (l0.take k) v wr) (fun _ i _ => l0.length - (intOf i).toNat)
  case atStart => exact ⟨0, rfl, by omega, hdn, Own.nil _ _ _ _, hon.nil, Nat.le_refl _⟩
  case round =>
    obtain ⟨k, rfl, hk, hat⟩ := hrel
    by_cases hlt : k < l0.length
    · obtain ⟨ad, rfl, _, hcell⟩ := (hn0.below hat.below (Nat.le_refl _)).at hlt
      have hx := hb0 _ (List.getElem_mem hlt)
      have hfeed := Lib.hid (feed_any _ (hok0.out k) l0[k] hx w.heap.size wr hat.dec)
      have hnext := fun v1 w1 v2 w2 => Lib.hid (feedAt_next (x := l0[k]) (v1 := v1) (w1 := w1) (v2 := v2) (w2 := w2) hat)
      have hts := Lib.hid (take_snoc hlt)
      have hown := hat.own
      have hap := hat.own.apart hat.dec (by decide)
      have hL := hlen0.out k
      have hB := hat.below.size
      have hT := take_len (runF zero (l0.take k)).1 l0[k]
      clear hn0 hn1 hat
      generalize (runF zero (l0.take k)).2 = out at hown hL hnext
      generalize takeF (runF zero (l0.take k)).1 l0[k] = R at hfeed hnext hT
      generalize l0[k] = x at hcell hx hnext hts hfeed
      go_wp2_with (first
        | (go_at_call 16; refine (hfeed.out).mono ?_; rintro e w1 ⟨v1, rfl, hfd⟩; obtain ⟨b1, d1, rfl, _, _, hn2⟩ := hfd.own.shape)
        | (at_builtin; refine wpList_app elemR rfl (.tmp 27) (.tmp 30) rfl w.heap.size _ out R.2 b1 w1.heap.size d1 rfl rfl (hown.only hfd.only (apart_one hap)) hn2 ?_ ?_ ?_ ?_; (have := hfd.only.size; omega); (omega); (simp only [maxLen]; omega); intro v2 w2 hown2 ho2 hat2))
      go_roundw
      case rel => exact ⟨k + 1, by go_num, by omega, by rw [hts.out]; exact (hnext _ _ _ _).out hfd hown2 ho2⟩
      case measure => simp [intOf]; omega
    · have hkl : l0.take k = l0 := List.take_of_length_le (by omega)
      rw [hkl] at hat
      clear hkl
      replace hat : FeedAt w w.heap.size (l0 ++ l1.take 0) u6 wr := by simpa using hat
      go_wp2_with fail
      obtain ⟨wo, hwo⟩ : ∃ wo : World, wo = wr := ⟨_, rfl⟩
      rw [← hwo]
      rw [← hwo] at hat
      clear hwo wr
      go_loopw [6, 35] (fun v i wr => ∃ k : Nat, i = .int .i64 k ∧ k ≤ l1.length ∧ FeedAt w w.heap.size (l0 ++ l1.take k) v wr) (fun _ i _ => l1.length - (intOf i).toNat)
      case atStart => exact ⟨0, rfl, by omega, hat⟩
      case round =>
        clear hat hlt hk
        obtain ⟨k, rfl, hk, hat⟩ := hrel
        by_cases hlt : k < l1.length
        · obtain ⟨ad, rfl, _, hcell⟩ := (hn1.below hat.below (Nat.le_refl _)).at hlt
          have hx := hb1 _ (List.getElem_mem hlt)
          have hfeed := Lib.hid (feed_any _ (hok1.out k) l1[k] hx w.heap.size wr hat.dec)
          have hnext := fun v1 w1 v2 w2 => Lib.hid (feedAt_next (x := l1[k]) (v1 := v1) (w1 := w1) (v2 := v2) (w2 := w2) hat)
          have hts := Lib.hid (show l0 ++ l1.take (k + 1) = l0 ++ l1.take k ++ [l1[k]] by rw [take_snoc hlt, List.append_assoc])
          have hown := hat.own
          have hap := hat.own.apart hat.dec (by decide)
          have hL := hlen1.out k
          have hB := hat.below.size
          have hT := take_len (runF zero (l0 ++ l1.take k)).1 l1[k]
          clear hn0 hn1 hat
          generalize (runF zero (l0 ++ l1.take k)).2 = out at hown hL hnext
          generalize takeF (runF zero (l0 ++ l1.take k)).1 l1[k] = R at hfeed hnext hT
          generalize l1[k] = x at hcell hx hnext hts hfeed
          go_wp2_with (first
            | (go_at_call 16; refine (hfeed.out).mono ?_; rintro e w1 ⟨v1, rfl, hfd⟩; obtain ⟨b1, d1, rfl, _, _, hn2⟩ := hfd.own.shape)
            | (at_builtin; refine wpList_app elemR rfl (.tmp 39) (.tmp 42) rfl w.heap.size _ out R.2 b1 w1.heap.size d1 rfl rfl (hown.only hfd.only (apart_one hap)) hn2 ?_ ?_ ?_ ?_; (have := hfd.only.size; omega); (omega); (simp only [maxLen]; omega); intro v2 w2 hown2 ho2 hat2))
          go_roundw
          case rel => exact ⟨k + 1, by go_num, by omega, by rw [hts.out]; exact (hnext _ _ _ _).out hfd hown2 ho2⟩
          case measure => simp [intOf]; omega
        · have hkl : l1.take k = l1 := List.take_of_length_le (by omega)
          have hok := hok1.out k
          have hL := hlen1.out k
          rw [hkl] at hat hok hL
          clear hkl
          have hown := hat.own
          have hdec := hat.dec
          have hbel := hat.below
          have hap := hat.own.apart hat.dec (by decide)
          have hE := end_len (runF zero (l0 ++ l1)).1
          have hB := hbel.size
          have hT : Hid (decF (l0 ++ l1) = (runF zero (l0 ++ l1)).2 ++ (endF (runF zero (l0 ++ l1)).1).2) := rfl
          have hbb : Bytes (l0 ++ l1) := fun x hx => (List.mem_append.1 hx).elim (hb0 x) (hb1 x)
          have hstop := Lib.hid (stop_any _ w.heap.size wr hdec)
          clear hat hdec hok
          generalize (endF (runF zero (l0 ++ l1)).1) = R at hE hT hstop
          generalize (runF zero (l0 ++ l1)).2 = out at hown hL hT
          go_wp2_with fail
          refine hstop.out.mono ?_
          rintro e w1 ⟨v1, rfl, hfd⟩
          obtain ⟨b1, d1, rfl, _, _, hn2⟩ := hfd.own.shape
          have hs1 := hfd.only.size
          have hB1 := hbel.trans (hfd.only.below hB (by simp))
          have hown1 := hown.only hfd.only (apart_one hap)
          clear hown
          go_wp2_with (first
            | (with_reducible show wpList _ _ _ (⟨some 48, .call _, _, _, _, _⟩ :: _) _ _; go_must (refine wpList_app elemR rfl (.tmp 45) (.tmp 47) rfl w.heap.size u6 out R.2 b1 w1.heap.size d1 rfl rfl hown1 hn2 ?_ ?_ ?_ ?_; (omega); (omega); (simp only [maxLen]; omega); intro v2 w2 hown2 ho2 hat2; have hB2 := below_app0 hB1 hown1 (by omega) ho2; have hn02 := hn0.below hB2 (Nat.le_refl _); have hn12 := hn1.below hB2 (Nat.le_refl _)))
            | (with_reducible show wpList _ _ _ (⟨some 52, .call _, _, _, _, _⟩ :: _) _ _; go_must (refine wpList_app elemB rfl (.tmp 50) (.tmp 51) rfl w2.heap.size (.slice (some ⟨w2.heap.size, 0, none⟩) 0 0) [] l0 a0 w.heap.size c0 rfl rfl (own_empty w2 _ _) (hn02.alloc hB2.size _) ?_ ?_ ?_ ?_; (simp); (simp; omega); (simp [maxLen]; omega); intro v3 w3 hown3 ho3 hat3; have hB3 : Below w2.heap.size w2 w3 := (enc_below _ _).trans (ho3.below (by simp) (by simp [Value.ownBlock])); have hn13 := hn12.below hB3 hB2.size; rw [List.nil_append] at hown3))
            | (with_reducible show wpList _ _ _ (⟨some 54, .call _, _, _, _, _⟩ :: _) _ _; go_must (refine wpList_app elemB rfl (.tmp 52) (.tmp 53) rfl w2.heap.size v3 l0 l1 a1 w.heap.size c1 rfl rfl hown3 hn13 ?_ ?_ ?_ ?_; (have := hB3.size; omega); (omega); (simp only [maxLen]; omega); intro v4 w4 hown4 ho4 hat4)))
          obtain ⟨L, hL⟩ : ∃ L, L = l0 ++ l1 := ⟨_, rfl⟩
          rw [← hL] at hown4 hbb hT
          have hL' : L.length ≤ 2000 := by rw [hL]; simp; omega
          replace hL := Lib.hid hL
          have hB4 := below_app0 hB3 hown3 hB3.size ho4
          obtain ⟨b4, d4, rfl, _, _, hn4⟩ := hown4.shape
          have hdc := Lib.hid (decode_any L hbb b4 d4 w4 (by omega) hn4)
          obtain ⟨T, hTT⟩ : ∃ T, T = out ++ R.2 := ⟨_, rfl⟩
          rw [← hTT] at hown2 hT
          have hTl : T.length ≤ 2001 := by rw [hTT]; simp; omega
          replace hTT := Lib.hid hTT
          obtain ⟨b2, d2, rfl, _, _, hn2⟩ := hown2.shape
          refine hdc.out.mono ?_
          rintro e w5 ⟨v5, rfl, hown5, hb5⟩
          rw [hT.out] at hown5
          obtain ⟨b5, d5, rfl, _, _, hn5⟩ := hown5.shape
          have hB5 := below_next hB4 hb5
          have hsame := Lib.hid (same_yes T b2 b5 d2 d5 w5 w5.heap.size (by omega) ((hn2.below hB5 (Nat.le_refl _)).more hB5.size) hn5)
          have hB6 := below_next hB2 hB5
          clear hown1 hown2 hown3 hown4 hown5 hn2 hn4 hn5 hn02 hn12 hn13 ho2 ho3 ho4 hdc
          go_wp2_with (first
            | (go_at_call 10; refine (hsame.out).mono ?_; rintro e w6 ⟨rfl, hb6⟩)
            | (go_at_call 9; refine (known_any _).mono ?_; rintro e w7 ⟨rfl, hb7⟩))
          go_ret
          exact ⟨rfl, below_next (below_next hB6 hb6) hb7⟩

end Go.Proofs.Ytjafaicpnhdodaa.Utf
