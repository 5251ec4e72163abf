/-
  frontier: the law FrontierAppends.
-/
import Derived.Test.YtbibnnbmiefcgaaFSt
import Derived.Test.YtbibnnbmiefcgaaFArg
import Derived.Maps.RangeWalk
import Derived.Deep.LoopGhost
import Derived.Deep.CutRange
namespace Go.Proofs.Ytbibnnbmiefcgaa.Fro
open Go Go.RowKit Go.Proofs.Ytbibnnbmiefcgaa.Com

/-- What an event is, beside what it finds and leaves. -/
inductive Prof : Int → Bool → Bool → Bool → Bool → Int → Bool → Prop
  | echo (off bl fr) : Prof 1 off bl fr true 1 (off || !bl)
  | app (fr) : Prof 1 false true fr false 2 false
  | draw (fr) : Prof 1 false false fr false 3 true
  | draw2 (bl fr) : Prof 1 true bl fr false 3 true
  | join1 (off bl fr b) : Prof 2 off bl fr b 1 off
  | join2 (off bl fr b) : Prof 2 off bl fr b 2 off
  | join3 (off bl fr b) : Prof 2 off bl fr b 3 off
  | join (off bl fr b) : Prof 2 off bl fr b 3 off
  | straight (off bl fr b) : Prof 3 off bl fr b 0 (off && !fr)
  | reset (off bl fr b) : Prof 5 off bl fr b 0 false
  | on (k bl fr b) (h1 : (k == 1) = false) (h2 : (k == 2) = false) : Prof k false bl fr b 0 false
  | off (k off bl fr b) (h1 : (k == 1) = false) (h2 : (k == 2) = false) : Prof k off bl fr b 0 true
theorem prof {S : Fr} (hS : S.Ok) (e : Ev) (b : Bool) : Prof e.k S.off e.bl e.fr b (kindF S e b) (nextF S e b).off := by
  obtain ⟨k, ix, ln, cl, wd, r, bl, la, fr, wr⟩ := e
  obtain ⟨off, lst⟩ := S
  unfold Fr.Ok at hS
  unfold kindF nextF joinB printK
  dsimp only at *
  by_cases k1 : k = 1
  · subst k1
    cases b <;> cases off <;> cases bl <;> simp
    all_goals first | exact .app _ | exact .draw _ | exact .draw2 _ _ | exact .echo _ _ _
  by_cases k2 : k = 2
  · subst k2
    by_cases hl : (la && lst != 0) = true
    · rw [if_neg (by decide), if_pos rfl, if_pos hl, if_neg (by decide), if_pos rfl]
      have hne : lst ≠ 0 := by
        intro h
        subst h
        simp at hl
      have h3 : lst = 1 ∨ lst = 2 ∨ lst = 3 := by omega
      rcases h3 with rfl | rfl | rfl
      · exact .join1 _ _ _ _
      · exact .join2 _ _ _ _
      · exact .join3 _ _ _ _
    · rw [if_neg (by decide), if_pos rfl, if_neg hl, if_neg (by decide), if_pos rfl]
      exact .join _ _ _ _
  rw [if_neg k1, if_neg k2, if_neg k1, if_neg k2]
  by_cases k3 : k = 3
  · subst k3
    exact .straight _ _ _ _
  by_cases k4 : k = 4
  · subst k4
    exact .off 4 _ _ _ _ (by decide) (by decide)
  by_cases k5 : k = 5
  · subst k5
    exact .reset _ _ _ _
  rw [if_neg k3, if_neg k4, if_neg k5]
  have h1 : (k == 1) = false := by simpa using k1
  have h2 : (k == 2) = false := by simpa using k2
  cases off
  · exact .on _ _ _ _ h1 h2
  · exact .off _ _ _ _ _ h1 h2


set_option maxRecDepth 100000 in
set_option maxHeartbeats 8000000 in
theorem appends_law (l : List Ev) (hl : ∀ e ∈ l, e.Ok) (ao : Option Addr) (c : Nat) (_ : l.length ≤ c) (hm : c ≤ maxLen) (bs : List Bool) (bo : Option Addr) (bc : Nat) (_ : bs.length ≤ bc) (hbm : bc ≤ maxLen) (w : World) (hn : EvsAt w ao l) (hbn : BsAt w bo bs) :
    Calls Try.prog 3 #[.slice ao l.length c, .slice bo bs.length bc] w (Yes w) := by
  have hm0 := hm
  have hbm0 := hbm
  clear hm0 hm hbm hbm0
  obtain ⟨N, hN⟩ : ∃ N, N = l.length := ⟨_, rfl⟩
  obtain ⟨M, hM⟩ : ∃ M, M = bs.length := ⟨_, rfl⟩
  rw [← hN, ← hM]
  have hk := Lib.hid (fun wr => known_any wr)
  by_cases g1 : (300 : Int) < (N : Int)
  · go_enter Try.func3, Try.ntmps3
    go_wp2_with ((go_at_call 5; (with_reducible refine (hk.out _).mono ?_); rintro e w' ⟨rfl, hb⟩))
    go_ret
    exact ⟨rfl, hb⟩
  have hN' := Lib.hid hN
  have hM' := Lib.hid hM
  have hl' := Lib.hid hl
  have hn' := Lib.hid hn
  have hbn' := Lib.hid hbn
  have hNb : N ≤ 300 := by omega
  clear hN hM hl hn hbn
  have hNew := Lib.hid (new_st (Below.refl w.heap.size w))
  have hFeed : Hid (∀ d wr S e b, e.Ok → St w wr d S → Calls Try.prog 8 #[.pointer (some ⟨d, 0, none⟩), evV e, .bool b] wr fun x w' => ∃ K T, x = .returned (.int .u8 K) ∧ Hid (Prof e.k S.off e.bl e.fr b K T.off) ∧ Only [d] wr w' ∧ Hid (St w w' d T)) :=
    Lib.hid fun d wr S e b he h => (feed_st h e he b rfl rfl).mono fun _ _ ⟨h1, h2, h3⟩ => ⟨_, _, h1, Lib.hid (prof h.ok e b), h2, Lib.hid h3⟩
  have hOn : Hid (∀ d wr S, St w wr d S → Calls Try.prog 7 #[.pointer (some ⟨d, 0, none⟩)] wr fun x w' => x = .returned (.bool !S.off) ∧ wr = w') := Lib.hid fun d wr S h => on_any h.fb
  have hfin : Hid (∀ a b, Below w.heap.size w a → Below a.heap.size a b → Below w.heap.size w b) := Lib.hid fun a b h1 h2 => below_next h1 h2
  go_enter Try.func3, Try.ntmps3
  go_upto_region 4 with ((go_at_call 6; (with_reducible refine (hNew.out).mono ?_); rintro e w0 ⟨d, rfl, _, _, h⟩; have s0 := Lib.hid h; clear h hNew))
  go_wp2
  go_loopg [18] N (fun gg i wr => ∃ (k : Nat) (S : Fr), k + gg = N ∧ i = .int .i64 k ∧ Hid (St w wr d S))
  case atStart => exact ⟨0, Fr.new, by omega, rfl, s0⟩
  case round =>
    clear s0
    obtain ⟨k, S, hkN, rfl, hst⟩ := hrel
    cases gk with
    | succ gk =>
      have hlt : k < N := by omega
      have hx0 : k < l.length := by have := hN'.out; omega
      obtain ⟨ad, rfl, had, hld⟩ := (hn'.out.below hst.out.below) k _ (List.getElem?_eq_getElem hx0)
      have hok := Lib.hid (hl'.out _ (List.getElem_mem hx0))
      generalize l[k] = e at hld hok
      have hz := Lib.hid (Block.made wr 29 #[.int .u8 0, .int .u64 0, .int .i64 0, .int .i64 0, .bool false, .int .i32 0, .bool false, .bool false, .bool false, .bool false])
      replace hld := Lib.hid hld
      clear had hx0
      go_upto_region 7 with (first
        | (with_reducible show wpList _ _ _ (⟨some 22, .load _ (.tmp 21), _, _, _, _⟩ :: _) _ _; go_must (refine wpList_loadAt rfl 29 (.tmp 21) rfl (ad.add (k * 10)) rfl _ _ hld.out Try.underlying29 rfl (infoE _) ?_))
        | (with_reducible show wpList _ _ _ (⟨none, .store _ (.tmp 7) _, _, _, _, _⟩ :: _) _ _; go_must (refine wpList_storeAll rfl _ (.tmp 7) (.tmp 22) rfl hz.out (evL e).toArray rfl rfl (by simpa using infoE e) rfl (by simp [evL, Value.oneCell']) ?_); intro w3 hx3 ho3; go_frame))
      have hb3 : Below wr.heap.size wr w3 := below_on (below_new wr _) ho3 (Nat.le_refl _)
      have hst3 := Lib.hid (hst.out.next hb3)
      obtain ⟨g, hg⟩ : ∃ g, g = wr.heap.size := ⟨_, rfl⟩
      have hgd : Hid (g ≠ d) := Lib.hid (by have := hst.out.fb.lt; omega)
      rw [← hg] at hx3
      rw [← hg]
      have hL3 : Hid (∀ j v, (evL e)[j]? = some v → w3.cell? ((⟨g, 0, none⟩ : Addr).add j) = some v) := Lib.hid (fun i v hi => by rw [Addr.add_lit, Nat.zero_add]; exact hx3.cell i (by simpa using hi))
      replace hx3 := Lib.hid hx3
      clear hg hb3 ho3 hz hld hst
      go_cut [8] from 19 to 117 (fun s8 wx => (∃ bb, s8 = .bool bb) ∧ w3 = wx)
      case first =>
        by_cases hkM : k < M
        · have hb0 : k < bs.length := by have := hM'.out; omega
          obtain ⟨ad2, rfl, had2, hcb⟩ := (hbn'.out.below hst3.out.below) k _ (List.getElem?_eq_getElem hb0)
          generalize bs[k] = eb at hcb
          clear had2 hb0
          go_wp2_with fail
          go_meet
          exact ⟨⟨eb, rfl⟩, rfl⟩
        · go_wp2_with fail
          go_meet
          exact ⟨⟨false, rfl⟩, rfl⟩
      case rest =>
      obtain ⟨⟨eb, rfl⟩, rfl⟩ := hcut
      go_upto_region 10 with (first
        | (go_at_call 7; (with_reducible refine (hOn.out _ _ _ hst3.out).mono ?_); rintro x w' ⟨rfl, rfl⟩)
        | (with_reducible show wpList _ _ _ (⟨some 36, .load _ (.tmp 7), _, _, _, _⟩ :: _) _ _; go_must (refine wpList_loadAt rfl 29 (.tmp 7) rfl ⟨g, 0, none⟩ rfl _ _ hL3.out Try.underlying29 rfl (infoE _) ?_))
        | (go_at_call 8; refine (hFeed.out d _ S e _ hok.out hst3.out).mono ?_; rintro x w4 ⟨K, T, rfl, hP, ho4, hs4⟩))
      have hx4 := hx3.out.only ho4 (by simp; exact hgd.out)
      have c0 : w4.cell? ⟨g, 0, none⟩ = some (.int .u8 e.k) := hx4.cell 0 rfl
      have c6 : w4.cell? ⟨g, 6, none⟩ = some (.bool e.bl) := hx4.cell 6 rfl
      have c8 : w4.cell? ⟨g, 8, none⟩ = some (.bool e.fr) := hx4.cell 8 rfl
      have hOn4 := Lib.hid (hOn.out d w4 T hs4.out)
      have hP0 := hP.out
      clear hP hx4 hx3 ho4 hL3 hgd hst3 hFeed hOn hok
      generalize e.k = ek at hP0 c0
      generalize e.bl = bl at hP0 c6
      generalize e.fr = fr at hP0 c8
      generalize S.off = so at hP0 ⊢
      generalize hto : T.off = tn at hP0 hOn4
      replace hto := Lib.hid hto
      cases hP0 with
      | echo => cases so <;> cases bl <;> (as_aux_lemma =>
          go_wp2_with ((go_at_call 7; (with_reducible refine (hOn4.out).mono ?_); rintro x w' ⟨rfl, rfl⟩))
          go_roundg gk
          case measure => omega
          case rel => exact ⟨k + 1, T, by omega, by simp, hs4⟩)
      | app => (as_aux_lemma =>
          go_wp2_with ((go_at_call 7; (with_reducible refine (hOn4.out).mono ?_); rintro x w' ⟨rfl, rfl⟩))
          go_roundg gk
          case measure => omega
          case rel => exact ⟨k + 1, T, by omega, by simp, hs4⟩)
      | draw => (as_aux_lemma =>
          go_wp2_with ((go_at_call 7; (with_reducible refine (hOn4.out).mono ?_); rintro x w' ⟨rfl, rfl⟩))
          go_roundg gk
          case measure => omega
          case rel => exact ⟨k + 1, T, by omega, by simp, hs4⟩)
      | draw2 => (as_aux_lemma =>
          go_wp2_with ((go_at_call 7; (with_reducible refine (hOn4.out).mono ?_); rintro x w' ⟨rfl, rfl⟩))
          go_roundg gk
          case measure => omega
          case rel => exact ⟨k + 1, T, by omega, by simp, hs4⟩)
      | join1 => cases so <;> (as_aux_lemma =>
          go_wp2_with ((go_at_call 7; (with_reducible refine (hOn4.out).mono ?_); rintro x w' ⟨rfl, rfl⟩))
          go_roundg gk
          case measure => omega
          case rel => exact ⟨k + 1, T, by omega, by simp, hs4⟩)
      | join2 => cases so <;> (as_aux_lemma =>
          go_wp2_with ((go_at_call 7; (with_reducible refine (hOn4.out).mono ?_); rintro x w' ⟨rfl, rfl⟩))
          go_roundg gk
          case measure => omega
          case rel => exact ⟨k + 1, T, by omega, by simp, hs4⟩)
      | join3 => cases so <;> (as_aux_lemma =>
          go_wp2_with ((go_at_call 7; (with_reducible refine (hOn4.out).mono ?_); rintro x w' ⟨rfl, rfl⟩))
          go_roundg gk
          case measure => omega
          case rel => exact ⟨k + 1, T, by omega, by simp, hs4⟩)
      | join => cases so <;> (as_aux_lemma =>
          go_wp2_with ((go_at_call 7; (with_reducible refine (hOn4.out).mono ?_); rintro x w' ⟨rfl, rfl⟩))
          go_roundg gk
          case measure => omega
          case rel => exact ⟨k + 1, T, by omega, by simp, hs4⟩)
      | straight => cases so <;> cases fr <;> (as_aux_lemma =>
          go_wp2_with ((go_at_call 7; (with_reducible refine (hOn4.out).mono ?_); rintro x w' ⟨rfl, rfl⟩))
          go_roundg gk
          case measure => omega
          case rel => exact ⟨k + 1, T, by omega, by simp, hs4⟩)
      | reset => cases so <;> (as_aux_lemma =>
          go_wp2_with ((go_at_call 7; (with_reducible refine (hOn4.out).mono ?_); rintro x w' ⟨rfl, rfl⟩))
          go_roundg gk
          case measure => omega
          case rel => exact ⟨k + 1, T, by omega, by simp, hs4⟩)
      | on _ _ _ _ h1 h2 => (as_aux_lemma =>
          go_wp2_with ((go_at_call 7; (with_reducible refine (hOn4.out).mono ?_); rintro x w' ⟨rfl, rfl⟩))
          go_roundg gk
          case measure => omega
          case rel => exact ⟨k + 1, T, by omega, by simp, hs4⟩)
      | off _ _ _ _ _ h1 h2 => cases so <;> (as_aux_lemma =>
          go_wp2_with ((go_at_call 7; (with_reducible refine (hOn4.out).mono ?_); rintro x w' ⟨rfl, rfl⟩))
          go_roundg gk
          case measure => omega
          case rel => exact ⟨k + 1, T, by omega, by simp, hs4⟩)
    | zero =>
      obtain rfl : N = k := by omega
      have hfin := Lib.hid (fun w4 (hb : Below wr.heap.size wr w4) => below_next hst.out.below hb)
      clear hst
      go_wp2_with ((go_at_call 5; (with_reducible refine (hk.out _).mono ?_); rintro e w4 ⟨rfl, hb⟩; replace hb := Lib.hid (hfin.out w4 hb)))
      go_ret
      exact ⟨rfl, hb.out⟩
end Go.Proofs.Ytbibnnbmiefcgaa.Fro
