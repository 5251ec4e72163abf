/-
  The law ParamsPlays.
-/
import Derived.Test.YtgpoboolonkmcaaPHeld
import Derived.Deep.RegionWith
namespace Go.Proofs.Ytgpoboolonkmcaa.Par
open Go Go.RowKit Go.Proofs.Ytgpoboolonkmcaa.Com

/-- The list and the document's. -/
structure Play (w : World) (d r : Nat) (v : Value) (A B : Lst) (wr : World) : Prop where
  list : ListIn wr d A
  ref : RefIn wr w.heap.size r v B
  below : Below w.heap.size w wr
  low : w.heap.size ≤ d
section
variable {w wr w' : World} {d r : Nat} {v : Value} {A B A' B' : Lst}
theorem Play.ne (h : Play w d r v A B wr) : d ≠ r := Block.apart h.list.blk h.ref.blk (by decide)
theorem Play.off (h : Play w d r v A B wr) : v.ownBlock ≠ some d := h.ref.own.apart h.list.blk (by decide)
/-- What turns none of them. -/
theorem Play.other {L : List Nat} (h : Play w d r v A B wr) (ho : Only L wr w') (hL : ∀ g ∈ L, w.heap.size ≤ g ∧ g ≠ d ∧ g ≠ r ∧ v.ownBlock ≠ some g) : Play w d r v A B w' :=
  ⟨h.list.only ho (fun hm => (hL _ hm).2.1 rfl), ⟨h.ref.blk.only ho (fun hm => (hL _ hm).2.2.1 rfl), h.ref.own.only ho (fun _ hg hm => (hL _ hm).2.2.2 hg), h.ref.low⟩, h.below.trans (ho.below h.below.size (fun _ hg => (hL _ hg).1)), h.low⟩
theorem Play.new (h : Play w d r v A B wr) (hb : Below wr.heap.size wr w') : Play w d r v A B w' := h.other (Only.of_below hb []) (by simp)
theorem Play.turn (h : Play w d r v A B wr) (hd : ListIn w' d A') (ho : Only [d] wr w') : Play w d r v A' B w' :=
  ⟨hd, ⟨h.ref.blk.only ho (by simpa using fun e => h.ne e.symm), h.ref.own.only ho (fun g hg hm => h.off (by simp at hm; rw [hg, hm])), h.ref.low⟩, below_on h.below ho h.low, h.low⟩
theorem Play.turnRef {v' : Value} (h : Play w d r v A B wr) (hs : RefStep wr w.heap.size r v B' v' w') : Play w d r v' A B' w' := by
  refine ⟨h.list.only hs.only (fun hm => ?_), hs.ref, h.below.trans (hs.only.below h.below.size (fun g hg => ?_)), h.low⟩
  · rcases List.mem_cons.1 hm with e | hm
    · exact h.ne e
    · exact h.off (by simpa using hm)
  · rcases List.mem_cons.1 hg with e | hg
    · rw [e]; exact h.ref.low
    · exact (h.ref.own.lt g (by simpa using hg)).1
/-- The list is another one, of new memory. -/
theorem Play.list2 (h : Play w d r v A B wr) {c : Nat} (hc : ListIn wr c A') (hl : w.heap.size ≤ c) : Play w c r v A' B wr := ⟨hc, h.ref, h.below, hl⟩
end
/-- The document's list begins anew. -/
theorem ref_new (w : World) (B : Nat) (hB : B ≤ w.heap.size) : RefIn (w.alloc (.cells #[.slice none 0 0, .bool false] 28)) B w.heap.size (.slice none 0 0) empty :=
  ⟨Block.made _ _ _, Own.nil _ _ _ _, hB⟩
theorem Play.ref2 {w wr : World} {d r : Nat} {v : Value} {A B : Lst} (h : Play w d r v A B wr) : Play w d wr.heap.size (.slice none 0 0) A empty (wr.alloc (.cells #[.slice none 0 0, .bool false] 28)) :=
  ⟨(h.new (below_new _ _)).list, ref_new wr _ h.below.size, (h.new (below_new _ _)).below, h.low⟩
/-- The row that was shown, and what is done to it. -/
structure Bump (wb : World) (B N : Nat) (v : Value) (wr : World) : Prop where
  ex : ∃ T : List Int, T.length = N ∧ Own wr B 3 .i64 v T
  only : Only v.ownBlock.toList wb wr

set_option maxRecDepth 100000 in
set_option maxHeartbeats 4000000 in
theorem lawPlays (l : List Int) (_hf : Fits .i64 l) (ao : Option Addr) (c : Nat) (_hc : l.length ≤ c) (hm : c ≤ maxLen) (i : Int) (_wi : (Lit.int .i64 i).wf = true) (none : Int) (_wn : (Lit.int .i64 none).wf = true) (w : World)
    (hn : Nums w w.heap.size .i64 ao l) :
    Calls Try.prog 3 #[.slice ao l.length c, .int .i64 i, .int .i64 none] w fun e w' => e = .returned (.bool true) ∧ Below w.heap.size w w' := by
  have h63 : l.length ≤ 9223372036854775807 := by simp only [maxLen] at hm; omega
  clear hm
  by_cases h0 : 300 < l.length
  · go_enter Try.func3, Try.ntmps3
    go_wp2_with ((go_at_call 7; refine (known_any _).mono ?_; rintro e w1 ⟨rfl, hb1⟩))
    go_ret
    exact ⟨rfl, hb1⟩
  have h0' : l.length ≤ 300 := by omega
  clear h0
  go_enter Try.func3, Try.ntmps3
  go_wp2_with fail
  refine (new_any w).mono ?_
  rintro e w1 ⟨rfl, hd1, ho1⟩
  have hlt1 := hd1.lt
  have hplay : Play w w.heap.size w1.heap.size (.slice .none 0 0) empty empty (w1.alloc (.cells #[.slice .none 0 0, .bool false] 28)) :=
    ⟨hd1.new (below_new _ _), ref_new w1 _ (Nat.le_of_lt hlt1), below_next ho1.nil (below_new _ _), Nat.le_refl _⟩
  clear hd1 ho1
  go_wp2_with fail
  go_loopw [7, 8, 23] (fun p q i wr => ∃ (k d r : Nat) (v : Value) (S : Lst), i = .int .i64 k ∧ p = .pointer (some ⟨d, 0, .none⟩) ∧ q = .pointer (some ⟨r, 0, .none⟩) ∧ k ≤ l.length ∧ S.Ok ∧ Play w d r v S S wr) (fun _ _ i _ => l.length - (intOf i).toNat)
  case atStart => exact ⟨0, _, _, _, empty, rfl, rfl, rfl, by omega, empty_ok, hplay⟩
  case round =>
    clear hplay hlt1
    obtain ⟨k, d, r, v, S, rfl, rfl, rfl, hk, hS, hat⟩ := hrel
    by_cases hlt : k < l.length
    · obtain ⟨ad, rfl, _, hcell⟩ := (hn.below hat.below (Nat.le_refl _)).at hlt
      generalize l[k] = x at hcell
      clear hn
      have hB := hat.below.size
      by_cases h10 : x = 10
      · subst h10
        go_wp2_with fail
        refine (next_any S hS.len d _ hat.list).mono ?_
        rintro e w2 ⟨⟨v2, rfl⟩, hd2, ho2⟩
        have hat2 := hat.turn hd2 ho2
        clear hat hd2 ho2
        go_wp2_with fail
        refine (refNext_any S hS.len w.heap.size r v w2 hat2.below.size hat2.ref).mono ?_
        rintro e w3 ⟨⟨v3, rfl⟩, v9, hs3⟩
        have hat9 := hat2.turnRef hs3
        clear hat2 hs3
        have hS9 := next_ok hS
        generalize nextF S = S9 at hat9 hS9
        have hl := hS9.len
        go_wp2_with fail
        refine (values_any S9 hl d _ hat9.list).mono ?_
        rintro e wv ⟨vv, rfl, hownv, hbv⟩
        have hatv := hat9.new hbv
        have hfresh : ∀ g, vv.ownBlock = some g → w.heap.size ≤ g ∧ g ≠ d ∧ g ≠ r ∧ v9.ownBlock ≠ some g := fun g hg => by
          have h1 := (hownv.lt g hg).1
          have h2 := hat9.list.lt
          have h3 := hat9.ref.blk.lt
          have h4 := hat9.below.size
          refine ⟨by omega, by omega, by omega, fun hv => ?_⟩
          have h5 := (hat9.ref.own.lt g hv).2
          omega
        obtain ⟨av, cv, rfl, _, _, hnv⟩ := hownv.shape
        obtain ⟨ar, cr, rfl, _, _, hnr⟩ := hatv.ref.own.shape
        have c0 := hatv.ref.c0
        have hlistv := hatv.list
        have hrefv := hatv.ref
        have hSame := fun m => Lib.hid (same_yes S9.n av ar cv cr (wv.drewN m) wv.heap.size (by omega) (hnv.kept fun _ _ => rfl) (hnr.kept fun _ _ => rfl))
        have hLen := fun m => Lib.hid (len_any S9 hl d (wv.drewN m) hlistv)
        have hAt := fun j m => Lib.hid (at_any S9 hl d j none (wv.drewN m) hlistv)
        have hRef := fun j m => Lib.hid (refAt_any S9 hl j none w.heap.size r _ (wv.drewN m) ⟨hrefv.blk, hrefv.own, hrefv.low⟩)
        have hown2 := hownv.lower hat9.below.size
        clear hnv hnr hlistv hrefv hat9 hbv hownv
        generalize hAF : atF S9.n = F at hAt hRef
        replace hAF := Lib.hid hAF
        have hS9' := Lib.hid hS9
        clear hS9
        generalize hN9 : S9.n.length = N at hl hSame hLen hown2 c0 hatv hRef hfresh
        have ww : IntKind.i64.wrap ((N : Int) - 1) = (N : Int) - 1 := IntWalk.i64_in _ (by omega)
        go_wp2_with fail
        go_quiet ((first
          | (go_at_call 16; exact Calls.quiet_of (hSame _).out)
          | (go_at_call 17; exact Calls.quiet_of (hLen _).out)
          | (go_at_call 18; exact Calls.quiet_of (hAt _ _).out)
          | (go_at_call 19; exact Calls.quiet_of_same (hRef _ _).out)))
        clear hSame hLen hAt hRef hAF ww c0
        go_wp2_with fail
        go_loopw [112] (fun j wr => ∃ m : Nat, j = .int .i64 m ∧ m ≤ N ∧ Bump wv w.heap.size N (.slice av N cv) wr) (fun j _ => N - (intOf j).toNat)
        case atStart => exact ⟨0, rfl, by omega, ⟨S9.n, hN9, hown2⟩, Only.drewN _ _ _⟩
        case round =>
          clear hown2
          obtain ⟨m, rfl, hm, ⟨T, hT, hown⟩, honly⟩ := hrel
          by_cases hltm : m < N
          · clear hatv hfresh hS9'
            obtain ⟨g, cap, e, _, hcells, hfree⟩ := own_form hown (by omega)
            injection e with e1 e2 e3
            subst e1
            subst e3
            clear e2
            have hcm := hcells m _ (List.getElem?_eq_getElem (by omega))
            have hfm := hfree m
            generalize T[m] = y at hcm
            clear hcells hfree
            go_wp2_with fail
            go_roundw
            case rel => exact ⟨m + 1, by go_num, by omega, ⟨T.set m _, by simpa using hT, own_stored hown hT.symm m _⟩, honly.trans (Only.setCell _ ⟨g, m, .none⟩ _)⟩
            case measure => simp [intOf]; omega
          · have hat10 := hatv.other honly (fun g hg => hfresh g (by simpa using hg))
            clear hatv hown honly hfresh
            go_wp2_with fail
            go_roundw
            case rel => exact ⟨k + 1, d, r, _, S9, by go_num, rfl, rfl, by omega, hS9'.out, hat10⟩
            case measure => simp [intOf]; omega
      have h10' : (x == 10) = false := beq_eq_false_iff_ne.2 h10
      clear h10
      by_cases h11 : x = 11
      · subst h11
        go_wp2_with fail
        refine (clear_any S hS.len d _ hat.list).mono ?_
        rintro e w2 ⟨⟨v2, rfl⟩, hd2, ho2⟩
        obtain ⟨v9, hat9⟩ : ∃ v9, Play w d w2.heap.size v9 empty empty (w2.alloc (.cells #[.slice .none 0 0, .bool false] 28)) := ⟨_, (hat.turn hd2 ho2).ref2⟩
        clear hat hd2 ho2
        have hS9 := empty_ok
        generalize empty = S9 at hat9 hS9
        have hl := hS9.len
        go_wp2_with fail
        refine (values_any S9 hl d _ hat9.list).mono ?_
        rintro e wv ⟨vv, rfl, hownv, hbv⟩
        have hatv := hat9.new hbv
        have hfresh : ∀ g, vv.ownBlock = some g → w.heap.size ≤ g ∧ g ≠ d ∧ g ≠ w2.heap.size ∧ v9.ownBlock ≠ some g := fun g hg => by
          have h1 := (hownv.lt g hg).1
          have h2 := hat9.list.lt
          have h3 := hat9.ref.blk.lt
          have h4 := hat9.below.size
          refine ⟨by omega, by omega, by omega, fun hv => ?_⟩
          have h5 := (hat9.ref.own.lt g hv).2
          omega
        obtain ⟨av, cv, rfl, _, _, hnv⟩ := hownv.shape
        obtain ⟨ar, cr, rfl, _, _, hnr⟩ := hatv.ref.own.shape
        have c0 := hatv.ref.c0
        have hlistv := hatv.list
        have hrefv := hatv.ref
        have hSame := fun m => Lib.hid (same_yes S9.n av ar cv cr (wv.drewN m) wv.heap.size (by omega) (hnv.kept fun _ _ => rfl) (hnr.kept fun _ _ => rfl))
        have hLen := fun m => Lib.hid (len_any S9 hl d (wv.drewN m) hlistv)
        have hAt := fun j m => Lib.hid (at_any S9 hl d j none (wv.drewN m) hlistv)
        have hRef := fun j m => Lib.hid (refAt_any S9 hl j none w.heap.size w2.heap.size _ (wv.drewN m) ⟨hrefv.blk, hrefv.own, hrefv.low⟩)
        have hown2 := hownv.lower hat9.below.size
        clear hnv hnr hlistv hrefv hat9 hbv hownv
        generalize hAF : atF S9.n = F at hAt hRef
        replace hAF := Lib.hid hAF
        have hS9' := Lib.hid hS9
        clear hS9
        generalize hN9 : S9.n.length = N at hl hSame hLen hown2 c0 hatv hRef hfresh
        have ww : IntKind.i64.wrap ((N : Int) - 1) = (N : Int) - 1 := IntWalk.i64_in _ (by omega)
        go_wp2_with fail
        go_quiet ((first
          | (go_at_call 16; exact Calls.quiet_of (hSame _).out)
          | (go_at_call 17; exact Calls.quiet_of (hLen _).out)
          | (go_at_call 18; exact Calls.quiet_of (hAt _ _).out)
          | (go_at_call 19; exact Calls.quiet_of_same (hRef _ _).out)))
        clear hSame hLen hAt hRef hAF ww c0
        go_wp2_with fail
        go_loopw [112] (fun j wr => ∃ m : Nat, j = .int .i64 m ∧ m ≤ N ∧ Bump wv w.heap.size N (.slice av N cv) wr) (fun j _ => N - (intOf j).toNat)
        case atStart => exact ⟨0, rfl, by omega, ⟨S9.n, hN9, hown2⟩, Only.drewN _ _ _⟩
        case round =>
          clear hown2
          obtain ⟨m, rfl, hm, ⟨T, hT, hown⟩, honly⟩ := hrel
          by_cases hltm : m < N
          · clear hatv hfresh hS9'
            obtain ⟨g, cap, e, _, hcells, hfree⟩ := own_form hown (by omega)
            injection e with e1 e2 e3
            subst e1
            subst e3
            clear e2
            have hcm := hcells m _ (List.getElem?_eq_getElem (by omega))
            have hfm := hfree m
            generalize T[m] = y at hcm
            clear hcells hfree
            go_wp2_with fail
            go_roundw
            case rel => exact ⟨m + 1, by go_num, by omega, ⟨T.set m _, by simpa using hT, own_stored hown hT.symm m _⟩, honly.trans (Only.setCell _ ⟨g, m, .none⟩ _)⟩
            case measure => simp [intOf]; omega
          · have hat10 := hatv.other honly (fun g hg => hfresh g (by simpa using hg))
            clear hatv hown honly hfresh
            go_wp2_with fail
            go_roundw
            case rel => exact ⟨k + 1, d, w2.heap.size, _, S9, by go_num, rfl, rfl, by omega, hS9'.out, hat10⟩
            case measure => simp [intOf]; omega
      have h11' : (x == 11) = false := beq_eq_false_iff_ne.2 h11
      clear h11
      by_cases h12 : x = 12
      · subst h12
        go_wp2_with fail
        have hcp := copy_any S hS.len d wr hat.list
        obtain ⟨cc, hcc⟩ : ∃ cc, cc = wr.heap.size := ⟨_, rfl⟩
        rw [← hcc] at hcp
        have hdl : d < cc := by rw [hcc]; exact hat.list.lt
        rw [← hcc] at hB
        clear hcc
        refine hcp.mono ?_
        rintro e w2 ⟨rfl, hc2, ho2⟩
        have hat2 := hat.new ho2.nil
        clear hat ho2 hcp
        go_wp2_with fail
        refine (digit_any S hS 7 d w2 hat2.list).mono ?_
        rintro e w3 ⟨⟨v3, rfl⟩, hd3, ho3⟩
        have hat3 := hat2.turn hd3 ho3
        have hc3 := hc2.only ho3 (by simp; omega)
        clear hat2 hd3 ho3 hc2
        go_wp2_with fail
        refine (next_any _ (digit_ok hS 7).len d w3 hat3.list).mono ?_
        rintro e w4 ⟨⟨v4, rfl⟩, hd4, ho4⟩
        have hat4 := hat3.turn hd4 ho4
        have hc4 := hc3.only ho4 (by simp; omega)
        have hat9 := hat4.list2 hc4 hB
        clear hat3 hd4 ho4 hc3 hc4 hat4 hdl
        have hS9 := hS
        generalize S = S9 at hat9 hS9
        have hl := hS9.len
        go_wp2_with fail
        refine (values_any S9 hl cc _ hat9.list).mono ?_
        rintro e wv ⟨vv, rfl, hownv, hbv⟩
        have hatv := hat9.new hbv
        have hfresh : ∀ g, vv.ownBlock = some g → w.heap.size ≤ g ∧ g ≠ cc ∧ g ≠ r ∧ v.ownBlock ≠ some g := fun g hg => by
          have h1 := (hownv.lt g hg).1
          have h2 := hat9.list.lt
          have h3 := hat9.ref.blk.lt
          have h4 := hat9.below.size
          refine ⟨by omega, by omega, by omega, fun hv => ?_⟩
          have h5 := (hat9.ref.own.lt g hv).2
          omega
        obtain ⟨av, cv, rfl, _, _, hnv⟩ := hownv.shape
        obtain ⟨ar, cr, rfl, _, _, hnr⟩ := hatv.ref.own.shape
        have c0 := hatv.ref.c0
        have hlistv := hatv.list
        have hrefv := hatv.ref
        have hSame := fun m => Lib.hid (same_yes S9.n av ar cv cr (wv.drewN m) wv.heap.size (by omega) (hnv.kept fun _ _ => rfl) (hnr.kept fun _ _ => rfl))
        have hLen := fun m => Lib.hid (len_any S9 hl cc (wv.drewN m) hlistv)
        have hAt := fun j m => Lib.hid (at_any S9 hl cc j none (wv.drewN m) hlistv)
        have hRef := fun j m => Lib.hid (refAt_any S9 hl j none w.heap.size r _ (wv.drewN m) ⟨hrefv.blk, hrefv.own, hrefv.low⟩)
        have hown2 := hownv.lower hat9.below.size
        clear hnv hnr hlistv hrefv hat9 hbv hownv
        generalize hAF : atF S9.n = F at hAt hRef
        replace hAF := Lib.hid hAF
        have hS9' := Lib.hid hS9
        clear hS9
        generalize hN9 : S9.n.length = N at hl hSame hLen hown2 c0 hatv hRef hfresh
        have ww : IntKind.i64.wrap ((N : Int) - 1) = (N : Int) - 1 := IntWalk.i64_in _ (by omega)
        go_wp2_with fail
        go_quiet ((first
          | (go_at_call 16; exact Calls.quiet_of (hSame _).out)
          | (go_at_call 17; exact Calls.quiet_of (hLen _).out)
          | (go_at_call 18; exact Calls.quiet_of (hAt _ _).out)
          | (go_at_call 19; exact Calls.quiet_of_same (hRef _ _).out)))
        clear hSame hLen hAt hRef hAF ww c0
        go_wp2_with fail
        go_loopw [112] (fun j wr => ∃ m : Nat, j = .int .i64 m ∧ m ≤ N ∧ Bump wv w.heap.size N (.slice av N cv) wr) (fun j _ => N - (intOf j).toNat)
        case atStart => exact ⟨0, rfl, by omega, ⟨S9.n, hN9, hown2⟩, Only.drewN _ _ _⟩
        case round =>
          clear hown2
          obtain ⟨m, rfl, hm, ⟨T, hT, hown⟩, honly⟩ := hrel
          by_cases hltm : m < N
          · clear hatv hfresh hS9'
            obtain ⟨g, cap, e, _, hcells, hfree⟩ := own_form hown (by omega)
            injection e with e1 e2 e3
            subst e1
            subst e3
            clear e2
            have hcm := hcells m _ (List.getElem?_eq_getElem (by omega))
            have hfm := hfree m
            generalize T[m] = y at hcm
            clear hcells hfree
            go_wp2_with fail
            go_roundw
            case rel => exact ⟨m + 1, by go_num, by omega, ⟨T.set m _, by simpa using hT, own_stored hown hT.symm m _⟩, honly.trans (Only.setCell _ ⟨g, m, .none⟩ _)⟩
            case measure => simp [intOf]; omega
          · have hat10 := hatv.other honly (fun g hg => hfresh g (by simpa using hg))
            clear hatv hown honly hfresh
            go_wp2_with fail
            go_roundw
            case rel => exact ⟨k + 1, cc, r, _, S9, by go_num, rfl, rfl, by omega, hS9'.out, hat10⟩
            case measure => simp [intOf]; omega
      · have h12' : (x == 12) = false := beq_eq_false_iff_ne.2 h12
        clear h12
        go_wp2_with fail
        refine (digit_any S hS x d _ hat.list).mono ?_
        rintro e w2 ⟨⟨v2, rfl⟩, hd2, ho2⟩
        have hat2 := hat.turn hd2 ho2
        clear hat hd2 ho2
        go_wp2_with fail
        refine (refDigit_any S hS x w.heap.size r v w2 hat2.below.size hat2.ref).mono ?_
        rintro e w3 ⟨⟨v3, rfl⟩, v9, hs3⟩
        have hat9 := hat2.turnRef hs3
        clear hat2 hs3
        have hS9 := digit_ok hS x
        generalize digitF S x = S9 at hat9 hS9
        have hl := hS9.len
        go_wp2_with fail
        refine (values_any S9 hl d _ hat9.list).mono ?_
        rintro e wv ⟨vv, rfl, hownv, hbv⟩
        have hatv := hat9.new hbv
        have hfresh : ∀ g, vv.ownBlock = some g → w.heap.size ≤ g ∧ g ≠ d ∧ g ≠ r ∧ v9.ownBlock ≠ some g := fun g hg => by
          have h1 := (hownv.lt g hg).1
          have h2 := hat9.list.lt
          have h3 := hat9.ref.blk.lt
          have h4 := hat9.below.size
          refine ⟨by omega, by omega, by omega, fun hv => ?_⟩
          have h5 := (hat9.ref.own.lt g hv).2
          omega
        obtain ⟨av, cv, rfl, _, _, hnv⟩ := hownv.shape
        obtain ⟨ar, cr, rfl, _, _, hnr⟩ := hatv.ref.own.shape
        have c0 := hatv.ref.c0
        have hlistv := hatv.list
        have hrefv := hatv.ref
        have hSame := fun m => Lib.hid (same_yes S9.n av ar cv cr (wv.drewN m) wv.heap.size (by omega) (hnv.kept fun _ _ => rfl) (hnr.kept fun _ _ => rfl))
        have hLen := fun m => Lib.hid (len_any S9 hl d (wv.drewN m) hlistv)
        have hAt := fun j m => Lib.hid (at_any S9 hl d j none (wv.drewN m) hlistv)
        have hRef := fun j m => Lib.hid (refAt_any S9 hl j none w.heap.size r _ (wv.drewN m) ⟨hrefv.blk, hrefv.own, hrefv.low⟩)
        have hown2 := hownv.lower hat9.below.size
        clear hnv hnr hlistv hrefv hat9 hbv hownv
        generalize hAF : atF S9.n = F at hAt hRef
        replace hAF := Lib.hid hAF
        have hS9' := Lib.hid hS9
        clear hS9
        generalize hN9 : S9.n.length = N at hl hSame hLen hown2 c0 hatv hRef hfresh
        have ww : IntKind.i64.wrap ((N : Int) - 1) = (N : Int) - 1 := IntWalk.i64_in _ (by omega)
        go_wp2_with fail
        go_quiet ((first
          | (go_at_call 16; exact Calls.quiet_of (hSame _).out)
          | (go_at_call 17; exact Calls.quiet_of (hLen _).out)
          | (go_at_call 18; exact Calls.quiet_of (hAt _ _).out)
          | (go_at_call 19; exact Calls.quiet_of_same (hRef _ _).out)))
        clear hSame hLen hAt hRef hAF ww c0
        go_wp2_with fail
        go_loopw [112] (fun j wr => ∃ m : Nat, j = .int .i64 m ∧ m ≤ N ∧ Bump wv w.heap.size N (.slice av N cv) wr) (fun j _ => N - (intOf j).toNat)
        case atStart => exact ⟨0, rfl, by omega, ⟨S9.n, hN9, hown2⟩, Only.drewN _ _ _⟩
        case round =>
          clear hown2
          obtain ⟨m, rfl, hm, ⟨T, hT, hown⟩, honly⟩ := hrel
          by_cases hltm : m < N
          · clear hatv hfresh hS9'
            obtain ⟨g, cap, e, _, hcells, hfree⟩ := own_form hown (by omega)
            injection e with e1 e2 e3
            subst e1
            subst e3
            clear e2
            have hcm := hcells m _ (List.getElem?_eq_getElem (by omega))
            have hfm := hfree m
            generalize T[m] = y at hcm
            clear hcells hfree
            go_wp2_with fail
            go_roundw
            case rel => exact ⟨m + 1, by go_num, by omega, ⟨T.set m _, by simpa using hT, own_stored hown hT.symm m _⟩, honly.trans (Only.setCell _ ⟨g, m, .none⟩ _)⟩
            case measure => simp [intOf]; omega
          · have hat10 := hatv.other honly (fun g hg => hfresh g (by simpa using hg))
            clear hatv hown honly hfresh
            go_wp2_with fail
            go_roundw
            case rel => exact ⟨k + 1, d, r, _, S9, by go_num, rfl, rfl, by omega, hS9'.out, hat10⟩
            case measure => simp [intOf]; omega
    · have hl := hS.len
      obtain ⟨ar, cr, rfl, _, _, _⟩ := hat.ref.own.shape
      have c0r := hat.ref.c0
      clear hn
      go_wp2_with fail
      go_region_with (first
        | (go_at_call 15; refine (values_any S hl d wr.drew hat.list).mono ?_; rintro e wv ⟨vv, rfl, hownv, hbv⟩; obtain ⟨av, cv, rfl, _, _, hnv⟩ := hownv.shape; have hatv := (hat.new ((Below.refl _ wr).drew)).new hbv; have c0 := hatv.ref.c0)
        | (go_at_call 16; refine (same_yes S.n av ar cv cr wv wv.heap.size (by omega) hnv (own_nums hatv.ref.own)).mono ?_; rintro e ws ⟨rfl, ns, rfl⟩; have hats := hatv.new (below_dr (Below.refl _ _) ns))
        | (go_at_call 7; refine (known_any _).mono ?_; rintro e wk ⟨rfl, hbk⟩))
      all_goals
        go_wp2
        go_ret
        exact ⟨rfl, below_next hats.below hbk⟩

end Go.Proofs.Ytgpoboolonkmcaa.Par
