/-
  The decoder's calls: take, Feed, End, Open, Copy, New; Decode.
-/
import Derived.Test.YtjafaicpnhdodaaUDec
namespace Go.Proofs.Ytjafaicpnhdodaa.Utf
open Go Go.RowKit Go.Proofs.Ytjafaicpnhdodaa.Com

theorem told_trans {w w1 w2 : World} {B d : Nat} {v v1 v2 : Value} {out : List Int} {R1 R2 : Dec × List Int} (h1 : Told w B d v out R1 v1 w1) (h2 : Told w1 B d v1 (out ++ R1.2) R2 v2 w2) : Told w B d v out (R2.1, R1.2 ++ R2.2) v2 w2 := by
  have hs := h1.only.size
  refine ⟨h2.dec, by rw [← List.append_assoc]; exact h2.own, h1.only.then h2.only (fun k hk => ?_), fun g hg => ?_⟩
  · rcases List.mem_cons.1 hk with rfl | hk
    · exact .inl (List.mem_cons_self ..)
    · rcases h1.lies k (by simpa using hk) with e | e
      · exact .inl (List.mem_cons_of_mem _ (by simpa using e))
      · exact .inr e
  · rcases h2.lies g hg with e | e
    · exact h1.lies g e
    · exact .inr (by omega)

set_option maxHeartbeats 1000000 in
theorem take_any (D : Dec) (hD : D.Ok) (x : Int) (hx : IsByte x) (d : Nat) (v : Value) (out : List Int) (B : Nat) (w : World) (hB : B ≤ w.heap.size) (hd : DecIn w d D) (hown : Own w B 21 .i32 v out) (hlen : out.length ≤ 1000000) :
    Calls Try.prog 21 #[.pointer (some ⟨d, 0, none⟩), .int .u8 x, v] w (Tells w B d v out (takeF D x)) := by
  obtain ⟨hx0, hx1⟩ := hx
  have c0 := hd.c0
  have c3 := hd.c3
  have c4 := hd.c4
  have hne : ¬ (0 < D.o ∧ D.lo ≤ x ∧ x ≤ D.hi) → Hid (takeF D x = ((beginF zero x).1, (endF D).2 ++ (beginF zero x).2)) := fun h => by
    show _ = _
    unfold takeF
    rw [if_neg h, end_ok hD]
  have hend := Lib.hid (end_any D d v out B w hB hd hown (by omega))
  have hz := Lib.hid (end_ok hD)
  have hel := end_len D
  by_cases ho : 0 < D.o
  · by_cases hlo : D.lo ≤ x
    · by_cases hhi : x ≤ D.hi
      · have hE : Hid (takeF D x = goOnF D x) := by show _ = _; unfold takeF; rw [if_pos ⟨ho, hlo, hhi⟩]
        have hgo := Lib.hid (goOn_any D hD x ho hlo hhi d v out B w hB hd hown (by omega))
        clear hne hend hz hel hD
        go_enter Try.func21, Try.ntmps21
        go_wp2_with ((go_at_call 27; refine (hgo.out).mono ?_; rintro e w1 ⟨v', rfl, ht⟩))
        go_ret
        rw [hE.out]
        exact ⟨v', rfl, ht⟩
      · have hE := hne (by omega)
        clear hne hD
        go_enter Try.func21, Try.ntmps21
        go_wp2_with (first
          | (go_at_call 22; refine (hend.out).mono ?_; rintro e w1 ⟨v1, rfl, ht1⟩; have hd1 := ht1.dec; rw [hz.out] at hd1; have hs1 := ht1.only.size)
          | (go_at_call 28; refine (begin_any x hx0 hx1 d v1 _ B w1 (by omega) hd1 ht1.own (by simp; omega)).mono ?_; rintro e w2 ⟨v2, rfl, ht2⟩))
        go_ret
        rw [hE.out]
        exact ⟨v2, rfl, told_trans ht1 ht2⟩
    · have hE := hne (by omega)
      clear hne hD
      go_enter Try.func21, Try.ntmps21
      go_wp2_with (first
        | (go_at_call 22; refine (hend.out).mono ?_; rintro e w1 ⟨v1, rfl, ht1⟩; have hd1 := ht1.dec; rw [hz.out] at hd1; have hs1 := ht1.only.size)
        | (go_at_call 28; refine (begin_any x hx0 hx1 d v1 _ B w1 (by omega) hd1 ht1.own (by simp; omega)).mono ?_; rintro e w2 ⟨v2, rfl, ht2⟩))
      go_ret
      rw [hE.out]
      exact ⟨v2, rfl, told_trans ht1 ht2⟩
  · have hE := hne (by omega)
    clear hne hD
    go_enter Try.func21, Try.ntmps21
    go_wp2_with (first
      | (go_at_call 22; refine (hend.out).mono ?_; rintro e w1 ⟨v1, rfl, ht1⟩; have hd1 := ht1.dec; rw [hz.out] at hd1; have hs1 := ht1.only.size)
      | (go_at_call 28; refine (begin_any x hx0 hx1 d v1 _ B w1 (by omega) hd1 ht1.own (by simp; omega)).mono ?_; rintro e w2 ⟨v2, rfl, ht2⟩))
    go_ret
    rw [hE.out]
    exact ⟨v2, rfl, told_trans ht1 ht2⟩

/-- What Feed and End leave: the decoder's block, and a list of its own. -/
structure Fed (w : World) (d : Nat) (R : Dec × List Int) (v' : Value) (w' : World) : Prop where
  dec : DecIn w' d R.1
  own : Own w' w.heap.size 21 .i32 v' R.2
  only : Only [d] w w'
def Feeds (w : World) (d : Nat) (R : Dec × List Int) (e : Ending) (w' : World) : Prop := ∃ v', e = .returned v' ∧ Fed w d R v' w'
theorem fed_of {w w' : World} {d : Nat} {R : Dec × List Int} {v' : Value} (h : Told w w.heap.size d (.slice none 0 0) [] R v' w') : Fed w d R v' w' :=
  ⟨h.dec, by simpa using h.own, by simpa [Value.ownBlock] using h.only⟩

set_option maxHeartbeats 400000 in
theorem feed_any (D : Dec) (hD : D.Ok) (x : Int) (hx : IsByte x) (d : Nat) (w : World) (hd : DecIn w d D) : Calls Try.prog 16 #[.pointer (some ⟨d, 0, none⟩), .int .u8 x] w (Feeds w d (takeF D x)) := by
  have ht := Lib.hid (take_any D hD x hx d (.slice none 0 0) [] w.heap.size w (Nat.le_refl _) hd (Own.nil _ _ _ _) (by simp))
  go_enter Try.func16, Try.ntmps16
  go_wp2_with ((go_at_call 21; refine (ht.out).mono ?_; rintro e w1 ⟨v', rfl, ht1⟩))
  go_ret
  exact ⟨v', rfl, fed_of ht1⟩
theorem feed_nil (x : Int) (w : World) : Calls Try.prog 16 #[.pointer none, .int .u8 x] w fun e w' => e = .returned (.slice none 0 0) ∧ w = w' := by
  go_enter Try.func16, Try.ntmps16
  go_wp2
  go_ret
  exact ⟨rfl, rfl⟩
set_option maxHeartbeats 400000 in
theorem stop_any (D : Dec) (d : Nat) (w : World) (hd : DecIn w d D) : Calls Try.prog 20 #[.pointer (some ⟨d, 0, none⟩)] w (Feeds w d (endF D)) := by
  have ht := Lib.hid (end_any D d (.slice none 0 0) [] w.heap.size w (Nat.le_refl _) hd (Own.nil _ _ _ _) (by simp))
  go_enter Try.func20, Try.ntmps20
  go_wp2_with ((go_at_call 22; refine (ht.out).mono ?_; rintro e w1 ⟨v', rfl, ht1⟩))
  go_ret
  exact ⟨v', rfl, fed_of ht1⟩
theorem stop_nil (w : World) : Calls Try.prog 20 #[.pointer none] w fun e w' => e = .returned (.slice none 0 0) ∧ w = w' := by
  go_enter Try.func20, Try.ntmps20
  go_wp2
  go_ret
  exact ⟨rfl, rfl⟩
theorem open_any (D : Dec) (d : Nat) (w : World) (hd : DecIn w d D) : Calls Try.prog 19 #[.pointer (some ⟨d, 0, none⟩)] w fun e w' => e = .returned (.int .i64 D.o) ∧ w = w' := by
  have c0 := hd.c0
  go_enter Try.func19, Try.ntmps19
  go_wp2
  go_ret
  exact ⟨rfl, rfl⟩
theorem open_nil (w : World) : Calls Try.prog 19 #[.pointer none] w fun e w' => e = .returned (.int .i64 0) ∧ w = w' := by
  go_enter Try.func19, Try.ntmps19
  go_wp2
  go_ret
  exact ⟨rfl, rfl⟩
theorem copy_nil (w : World) : Calls Try.prog 17 #[.pointer none] w fun e w' => e = .returned (.pointer none) ∧ w = w' := by
  go_enter Try.func17, Try.ntmps17
  go_wp2
  go_ret
  exact ⟨rfl, rfl⟩
theorem new_any (w : World) : Calls Try.prog 15 #[] w fun e w' => e = .returned (.pointer (some ⟨w.heap.size, 0, none⟩)) ∧ DecIn w' w.heap.size zero ∧ Only [] w w' := by
  go_enter Try.func15, Try.ntmps15
  go_wp2
  go_ret
  exact ⟨rfl, Block.made _ _ _, Only.alloc _ _ _⟩
theorem copy_any (D : Dec) (d : Nat) (w : World) (hd : DecIn w d D) : Calls Try.prog 17 #[.pointer (some ⟨d, 0, none⟩)] w fun e w' => e = .returned (.pointer (some ⟨w.heap.size, 0, none⟩)) ∧ DecIn w' w.heap.size D ∧ Only [] w w' := by
  have c0 := hd.c0
  have c1 := hd.c1
  have c2 := hd.c2
  have c3 := hd.c3
  have c4 := hd.c4
  go_enter Try.func17, Try.ntmps17
  go_wp2
  go_ret
  exact ⟨rfl, Block.made _ _ _, Only.alloc _ _ _⟩

/-- What Decode has told behind k bytes. -/
structure DecodeAt (w : World) (l : List Int) (v : Value) (k : Nat) (wr : World) : Prop where
  dec : DecIn wr w.heap.size (runF zero (l.take k)).1
  own : Own wr w.heap.size 21 .i32 v (runF zero (l.take k)).2
  below : Below w.heap.size w wr
theorem take_snoc {l : List Int} {k : Nat} (h : k < l.length) : l.take (k + 1) = l.take k ++ [l[k]] := by
  rw [List.take_succ_eq_append_getElem h]
theorem bytes_take {l : List Int} (h : Bytes l) (k : Nat) : Bytes (l.take k) := fun x hx => h x (List.mem_of_mem_take hx)
theorem decodeAt_next {w wr w1 : World} {l : List Int} {v v1 : Value} {k : Nat} (h : DecodeAt w l v k wr) (hk : k < l.length)
    (ht : Told wr w.heap.size w.heap.size v (runF zero (l.take k)).2 (takeF (runF zero (l.take k)).1 l[k]) v1 w1) : DecodeAt w l v1 (k + 1) w1 := by
  have e := run_snoc (l.take k) l[k] zero
  rw [← take_snoc hk] at e
  refine ⟨by rw [e]; exact ht.dec, by rw [e]; exact ht.own, h.below.trans (ht.only.below h.below.size (fun g hg => ?_))⟩
  rcases List.mem_cons.1 hg with rfl | hg
  · exact Nat.le_refl _
  · exact (h.own.lt g (by simpa using hg)).1

set_option maxHeartbeats 1000000 in
theorem decode_any (l : List Int) (hb : Bytes l) (ao : Option Addr) (c : Nat) (w : World) (hl : l.length ≤ 900000) (h : Nums w w.heap.size .u8 ao l) :
    Calls Try.prog 11 #[.slice ao l.length c] w (DecTold w l) := by
  have hlen := fun k => run_len (bytes_take hb k)
  replace hlen := Lib.hid hlen
  go_enter Try.func11, Try.ntmps11
  go_wp2
  go_loopw [4, 9] (fun v i wr => ∃ k : Nat, i = .int .i64 k ∧ k ≤ l.length ∧ DecodeAt w l v k wr) (fun _ i _ => l.length - (intOf i).toNat)
  case atStart => exact ⟨0, rfl, by omega, Block.made _ _ _, Own.nil _ _ _ _, (Below.refl _ _).alloc (Nat.le_refl _) _⟩
  case round =>
    obtain ⟨k, rfl, hk, hat⟩ := hrel
    have hB := hat.below.size
    have hlk := hlen.out k
    have hmin : (l.take k).length ≤ k := by simp; omega
    by_cases hlt : k < l.length
    · obtain ⟨ad, rfl, _, hcell⟩ := (h.below hat.below (Nat.le_refl _)).at hlt
      have ht := Lib.hid (take_any _ (run_ok _ zero_ok (bytes_take hb k)) l[k] (hb _ (List.getElem_mem hlt)) w.heap.size _ _ w.heap.size wr hB hat.dec hat.own (by omega))
      have hnext := fun v1 w1 => Lib.hid (decodeAt_next (v1 := v1) (w1 := w1) hat hlt)
      clear h hat hlk hmin
      generalize l[k] = x at hcell ht hnext
      go_wp2_with ((go_at_call 21; refine (ht.out).mono ?_; rintro e w1 ⟨v1, rfl, ht1⟩))
      go_roundw
      case rel => exact ⟨k + 1, by go_num, by omega, (hnext v1 w1).out ht1⟩
      case measure => simp [intOf]; omega
    · have hkl : k = l.length := by omega
      have hdec := hat.dec
      have hown := hat.own
      have hbel := hat.below
      have htk : l.take k = l := List.take_of_length_le (by omega)
      rw [htk] at hdec hown hlk
      have hE : Hid (decF l = (runF zero l).2 ++ (endF (runF zero l).1).2) := rfl
      have ht := Lib.hid (end_any _ w.heap.size _ _ w.heap.size wr hB hdec hown (by omega))
      have hl' : ¬ k < l.length := hlt
      clear h hat hlk hmin hkl hlt htk hdec
      go_wp2_with ((go_at_call 22; refine (ht.out).mono ?_; rintro e w1 ⟨v1, rfl, ht1⟩))
      go_ret
      refine ⟨v1, rfl, by rw [hE.out]; exact ht1.own, hbel.trans (ht1.only.below hB (fun g hg => ?_))⟩
      rcases List.mem_cons.1 hg with rfl | hg
      · exact Nat.le_refl _
      · exact (hown.lt g (by simpa using hg)).1

end Go.Proofs.Ytjafaicpnhdodaa.Utf
