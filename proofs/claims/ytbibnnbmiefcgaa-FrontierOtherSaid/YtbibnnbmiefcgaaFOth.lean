/-
  frontier: the law FrontierOther.
-/
import Derived.Test.YtbibnnbmiefcgaaFSt
import Derived.Test.YtbibnnbmiefcgaaFArg
import Derived.Maps.RangeWalk
import Derived.Deep.CutBlock
import Derived.Deep.LoopGhost
namespace Go.Proofs.Ytbibnnbmiefcgaa.Fro
open Go Go.RowKit Go.Proofs.Ytbibnnbmiefcgaa.Com

/-- What keeps it off. -/
def stays (e : Ev) : Prop := e.k ≠ 5 ∧ (e.k = 3 → e.fr = false)
theorem off_stays {S : Fr} (h : S.off = true) {e : Ev} (hs : stays e) : (nextF S e false).off = true ∧ (e.k = 1 → kindF S e false = 3) := by
  obtain ⟨k, ix, ln, cl, wd, r, bl, la, fr, wr⟩ := e
  obtain ⟨off, lst⟩ := S
  unfold stays at hs
  unfold nextF kindF printK
  dsimp only at *
  subst h
  refine ⟨?_, fun h => by subst h; simp⟩
  repeat' split
  all_goals simp_all
theorem stays_no {e : Ev} (h : ¬ stays e) : e.k = 5 ∨ e.k = 3 ∧ e.fr = true := by
  unfold stays at h
  by_cases h5 : e.k = 5
  · exact .inl h5
  · refine .inr ⟨Classical.byContradiction fun h3 => h ⟨h5, fun h => absurd h h3⟩, ?_⟩
    cases hf : e.fr
    · exact absurd ⟨h5, fun _ => hf⟩ h
    · rfl
/-- Two frontiers that are on and off alike; with 'rs' they are the same. -/
def Like (rs : Bool) (S T : Fr) : Prop := S.off = T.off ∧ (rs = true → S = T)
theorem like_next {rs : Bool} {S T : Fr} (h : Like rs S T) (e : Ev) (he : rs = true ∨ e.k ≠ 2) : kindF S e false = kindF T e false ∧ Like rs (nextF S e false) (nextF T e false) := by
  obtain ⟨h1, h2⟩ := h
  by_cases hr : rs = true
  · obtain rfl := h2 hr
    exact ⟨rfl, rfl, fun _ => rfl⟩
  · have hk : e.k ≠ 2 := he.resolve_left hr
    obtain ⟨so, sl⟩ := S
    obtain ⟨to', tl⟩ := T
    dsimp only at h1
    subst h1
    unfold kindF nextF printK
    rw [if_neg hk, if_neg hk, if_neg hk, if_neg hk]
    refine ⟨rfl, ?_, fun h => absurd h hr⟩
    repeat' split
    all_goals rfl

theorem St.keep {w wr w' : World} {d g : Nat} {T : Fr} (h : St w wr g T) (ho : Only [d] wr w') (hg : g ≠ d) (hd : w.heap.size ≤ d) : St w w' g T :=
  ⟨h.fb.only ho (by simpa using hg), h.ok, h.below.trans (ho.below h.below.size (by simpa using hd)), h.low⟩
/-- Two frontiers and an event's block. -/
structure Duo (w wr : World) (b : Nat) (e : Ev) (d : Nat) (S : Fr) (g : Nat) (T : Fr) : Prop where
  fS : St w wr d S
  gT : St w wr g T
  dg : d ≠ g
  bd : b ≠ d
  bg : b ≠ g
  ev : Block wr b 29 (evL e).toArray
theorem Duo.cells {w wr : World} {b d g : Nat} {e : Ev} {S T : Fr} (h : Duo w wr b e d S g T) : wr.cell? ⟨b, 0, none⟩ = some (.int .u8 e.k) ∧ wr.cell? ⟨b, 1, none⟩ = some (.int .u64 e.ix) ∧ wr.cell? ⟨b, 2, none⟩ = some (.int .i64 e.ln) ∧ wr.cell? ⟨b, 3, none⟩ = some (.int .i64 e.cl) ∧ wr.cell? ⟨b, 4, none⟩ = some (.bool e.wd) ∧ wr.cell? ⟨b, 5, none⟩ = some (.int .i32 e.r) ∧ wr.cell? ⟨b, 6, none⟩ = some (.bool e.bl) ∧ wr.cell? ⟨b, 7, none⟩ = some (.bool e.la) ∧ wr.cell? ⟨b, 8, none⟩ = some (.bool e.fr) ∧ wr.cell? ⟨b, 9, none⟩ = some (.bool e.wr) :=
  ⟨h.ev.cell 0 rfl, h.ev.cell 1 rfl, h.ev.cell 2 rfl, h.ev.cell 3 rfl, h.ev.cell 4 rfl, h.ev.cell 5 rfl, h.ev.cell 6 rfl, h.ev.cell 7 rfl, h.ev.cell 8 rfl, h.ev.cell 9 rfl⟩
theorem Duo.drawn {w wr : World} {b d g : Nat} {e : Ev} {S T : Fr} (h : Duo w wr b e d S g T) : Duo w wr.drew b e d S g T :=
  ⟨h.fS.next (below_dr (Below.refl _ _) 1), h.gT.next (below_dr (Below.refl _ _) 1), h.dg, h.bd, h.bg, h.ev.only (only_drew [] _) (by simp)⟩
theorem Duo.one {w wr : World} {b d g : Nat} {e : Ev} {S T : Fr} (h : Duo w wr b e d S g T) (hk : e.Ok) {K : Int} (hK : kindF S e false = K) :
    Calls Try.prog 8 #[.pointer (some ⟨d, 0, none⟩), evV e, .bool false] wr fun x w' => x = .returned (.int .u8 K) ∧ Duo w w' b e d (nextF S e false) g T :=
  (feed_st h.fS e hk false hK rfl).mono fun _ _ ⟨h1, h2, h3⟩ => ⟨h1, h3, h.gT.keep h2 h.dg.symm h.fS.low, h.dg, h.bd, h.bg, h.ev.only h2 (by simpa using h.bd)⟩
theorem Duo.two {w wr : World} {b d g : Nat} {e : Ev} {S T : Fr} (h : Duo w wr b e d S g T) (hk : e.Ok) {K : Int} (hK : kindF T e false = K) :
    Calls Try.prog 8 #[.pointer (some ⟨g, 0, none⟩), evV e, .bool false] wr fun x w' => x = .returned (.int .u8 K) ∧ Duo w w' b e d S g (nextF T e false) :=
  (feed_st h.gT e hk false hK rfl).mono fun _ _ ⟨h1, h2, h3⟩ => ⟨h1, h.fS.keep h2 h.dg h.gT.low, h3, h.dg, h.bd, h.bg, h.ev.only h2 (by simpa using h.bg)⟩
theorem Duo.onS {w wr : World} {b d g : Nat} {e : Ev} {S T : Fr} (h : Duo w wr b e d S g T) {v : Bool} (hv : S.off = v) :
    Calls Try.prog 7 #[.pointer (some ⟨d, 0, none⟩)] wr fun x w' => x = .returned (.bool !v) ∧ wr = w' := by
  subst hv
  exact on_any h.fS.fb
theorem Duo.onT {w wr : World} {b d g : Nat} {e : Ev} {S T : Fr} (h : Duo w wr b e d S g T) {v : Bool} (hv : T.off = v) :
    Calls Try.prog 7 #[.pointer (some ⟨g, 0, none⟩)] wr fun x w' => x = .returned (.bool !v) ∧ wr = w' := by
  subst hv
  exact on_any h.gT.fb

set_option maxRecDepth 100000 in
set_option maxHeartbeats 8000000 in
theorem other_law (l : List Ev) (hl : ∀ e ∈ l, e.Ok) (ao : Option Addr) (c : Nat) (_ : l.length ≤ c) (hm : c ≤ maxLen) (m : List Ev) (hml : ∀ e ∈ m, e.Ok) (mo : Option Addr) (mc : Nat) (_ : m.length ≤ mc) (hmm : mc ≤ maxLen) (rs : Bool) (w : World) (hn : EvsAt w ao l) (hmn : EvsAt w mo m) :
    Calls Try.prog 4 #[.slice ao l.length c, .slice mo m.length mc, .bool rs] w (Yes w) := by
  have hm0 := hm
  have hbm0 := hmm
  clear hm0 hm hmm hbm0
  obtain ⟨N, hN⟩ : ∃ N, N = l.length := ⟨_, rfl⟩
  obtain ⟨M, hM⟩ : ∃ M, M = m.length := ⟨_, rfl⟩
  rw [← hN, ← hM]
  have hk := Lib.hid (fun wr => known_any wr)
  by_cases g1 : (200 : Int) < (N : Int)
  · go_enter Try.func4, Try.ntmps4
    go_wp2_with ((go_at_call 5; (with_reducible refine (hk.out _).mono ?_); rintro e w' ⟨rfl, hb⟩))
    go_ret
    exact ⟨rfl, hb⟩
  by_cases g2 : (200 : Int) < (M : Int)
  · go_enter Try.func4, Try.ntmps4
    go_wp2_with ((go_at_call 5; (with_reducible refine (hk.out _).mono ?_); rintro e w' ⟨rfl, hb⟩))
    go_ret
    exact ⟨rfl, hb⟩
  have hN' := Lib.hid hN
  have hM' := Lib.hid hM
  have hl' := Lib.hid hl
  have hml' := Lib.hid hml
  have hn' := Lib.hid hn
  have hmn' := Lib.hid hmn
  have hNb : N ≤ 200 := by omega
  have hMb : M ≤ 200 := by omega
  clear hN hM hl hn hml hmn
  have hNew := Lib.hid (new_st (Below.refl w.heap.size w))
  have hFeed : Hid (∀ d wr S e, e.Ok → St w wr d S → Calls Try.prog 8 #[.pointer (some ⟨d, 0, none⟩), evV e, .bool false] wr fun x w' => x = .returned (.int .u8 (kindF S e false)) ∧ Only [d] wr w' ∧ Hid (St w w' d (nextF S e false))) :=
    Lib.hid fun d wr S e he h => (feed_st h e he false rfl rfl).mono fun _ _ ⟨h1, h2, h3⟩ => ⟨h1, h2, Lib.hid h3⟩
  have hOn : Hid (∀ d wr S, St w wr d S → Calls Try.prog 7 #[.pointer (some ⟨d, 0, none⟩)] wr fun x w' => x = .returned (.bool !S.off) ∧ wr = w') := Lib.hid fun d wr S h => on_any h.fb
  have hfin : Hid (∀ a b, Below w.heap.size w a → Below a.heap.size a b → Below w.heap.size w b) := Lib.hid fun a b h1 h2 => below_next h1 h2
  go_enter Try.func4, Try.ntmps4
  go_upto_region 4 with ((go_at_call 6; (with_reducible refine (hNew.out).mono ?_); rintro e w0 ⟨d, rfl, _, _, h⟩; have s0 := Lib.hid h; clear h hNew))
  go_wp2
  go_loopw [30] (fun i wr => ∃ (k : Nat) (S : Fr), k ≤ N ∧ i = .int .i64 k ∧ Hid (St w wr d S)) (fun i _ => N - (intOf i).toNat)
  case atStart => exact ⟨0, Fr.new, Nat.zero_le _, rfl, s0⟩
  case round =>
    clear s0
    obtain ⟨k, S, hkN, rfl, hst⟩ := hrel
    by_cases hlt : k < N
    · have hx0 : k < l.length := by have := hN'.out; omega
      obtain ⟨ad, rfl, had, hld⟩ := (hn'.out.below hst.out.below) k _ (List.getElem?_eq_getElem hx0)
      have hok := Lib.hid (hl'.out _ (List.getElem_mem hx0))
      generalize l[k] = e at hld hok
      have hz := Lib.hid (Block.made wr 29 #[.int .u8 0, .int .u64 0, .int .i64 0, .int .i64 0, .bool false, .int .i32 0, .bool false, .bool false, .bool false, .bool false])
      replace hld := Lib.hid hld
      clear had hx0
      go_upto_region 7 with (first
        | (with_reducible show wpList _ _ _ (⟨some 33, .load _ (.tmp 32), _, _, _, _⟩ :: _) _ _; go_must (refine wpList_loadAt rfl 29 (.tmp 32) rfl (ad.add (k * 10)) rfl _ _ hld.out Try.underlying29 rfl (infoE _) ?_))
        | (with_reducible show wpList _ _ _ (⟨none, .store _ (.tmp 9) _, _, _, _, _⟩ :: _) _ _; go_must (refine wpList_storeAll rfl _ (.tmp 9) (.tmp 33) rfl hz.out (evL e).toArray rfl rfl (by simpa using infoE e) rfl (by simp [evL, Value.oneCell']) ?_); intro w3 hx3 ho3; go_frame))
      have hb3 : Below wr.heap.size wr w3 := below_on (below_new wr _) ho3 (Nat.le_refl _)
      have hst3 := Lib.hid (hst.out.next hb3)
      have hL3 : Hid (∀ j v, (evL e)[j]? = some v → w3.cell? ((⟨wr.heap.size, 0, none⟩ : Addr).add j) = some v) := Lib.hid (fun i v hi => by rw [Addr.add_lit, Nat.zero_add]; exact hx3.cell i (by simpa using hi))
      clear hx3 hb3 ho3 hz hld hst
      go_wp2_with (first
          | (with_reducible show wpList _ _ _ (⟨some 35, .load _ (.tmp 9), _, _, _, _⟩ :: _) _ _; go_must (refine wpList_loadAt rfl 29 (.tmp 9) rfl ⟨wr.heap.size, 0, none⟩ rfl _ _ hL3.out Try.underlying29 rfl (infoE _) ?_))
          | (go_at_call 8; refine (hFeed.out d _ S e hok.out hst3.out).mono ?_; rintro x w4 ⟨rfl, ho4, hs4⟩))
      go_roundw
      case rel => exact ⟨k + 1, _, by omega, by simp, hs4⟩
      case measure => simp [intOf]; omega
    · obtain rfl : N = k := by omega
      have hF1 := Lib.hid (hFeed.out d wr S otherE ⟨by decide, by decide⟩ hst.out)
      clear hst
      go_upto_block 2 with ((go_at_call 8; refine (hF1.out).mono ?_; rintro x w4 ⟨rfl, ho4, hs4⟩))
      have hoff : Hid ((nextF S otherE false).off = true) := Lib.hid rfl
      generalize nextF S otherE false = S0 at hs4 hoff
      clear hF1 ho4
      go_cut [11, 12] from 44 to 73 (fun _ _ wx => Hid (∃ S, St w wx d S))
      case first =>
        go_wp2_with fail
        go_loopg [43] M (fun g i wr => ∃ (k : Nat) (S : Fr), k + g = M ∧ i = .int .i64 k ∧ Hid (St w wr d S) ∧ Hid (S.off = true))
        case atStart => exact ⟨0, S0, by omega, rfl, hs4, hoff⟩
        case round =>
          clear hs4 hoff
          obtain ⟨k, S, hkM, rfl, hst, hoff⟩ := hrel
          cases gk with
          | zero =>
            obtain rfl : k = M := by omega
            go_wp2_with fail
            go_meet
            exact Lib.hid ⟨S, hst.out⟩
          | succ gk =>
            have hlt : k < M := by omega
            have hx0 : k < m.length := by have := hM'.out; omega
            obtain ⟨ad, rfl, had, hld⟩ := (hmn'.out.below hst.out.below) k _ (List.getElem?_eq_getElem hx0)
            have hok := Lib.hid (hml'.out _ (List.getElem_mem hx0))
            generalize m[k] = e at hld hok
            have hz := Lib.hid (Block.made wr 29 #[.int .u8 0, .int .u64 0, .int .i64 0, .int .i64 0, .bool false, .int .i32 0, .bool false, .bool false, .bool false, .bool false])
            replace hld := Lib.hid hld
            clear had hx0
            go_upto_region 13 with (first
              | (with_reducible show wpList _ _ _ (⟨some 46, .load _ (.tmp 45), _, _, _, _⟩ :: _) _ _; go_must (refine wpList_loadAt rfl 29 (.tmp 45) rfl (ad.add (k * 10)) rfl _ _ hld.out Try.underlying29 rfl (infoE _) ?_))
              | (with_reducible show wpList _ _ _ (⟨none, .store _ (.tmp 11) _, _, _, _, _⟩ :: _) _ _; go_must (refine wpList_storeAll rfl _ (.tmp 11) (.tmp 46) rfl hz.out (evL e).toArray rfl rfl (by simpa using infoE e) rfl (by simp [evL, Value.oneCell']) ?_); intro w3 hx3 ho3; go_frame))
            have hb3 : Below wr.heap.size wr w3 := below_on (below_new wr _) ho3 (Nat.le_refl _)
            clear ho3 hz hld
            have hst3 := Lib.hid (hst.out.next hb3)
            obtain ⟨b, hbe⟩ : ∃ b, b = wr.heap.size := ⟨_, rfl⟩
            rw [← hbe] at hx3
            rw [← hbe]
            have hbd : Hid (b ≠ d) := Lib.hid (by have := hst.out.fb.lt; omega)
            have hL3 : Hid (∀ j v, (evL e)[j]? = some v → w3.cell? ((⟨b, 0, none⟩ : Addr).add j) = some v) := Lib.hid (fun i v hi => by rw [Addr.add_lit, Nat.zero_add]; exact hx3.cell i (by simpa using hi))
            have c0 : w3.cell? ⟨b, 0, none⟩ = some (.int .u8 e.k) := hx3.cell 0 rfl
            have c8 : w3.cell? ⟨b, 8, none⟩ = some (.bool e.fr) := hx3.cell 8 rfl
            replace hx3 := Lib.hid hx3
            clear hbe hb3 hst
            by_cases hs : stays e
            · have hnx := Lib.hid (off_stays hoff.out hs)
              have hF3 : Hid (Calls Try.prog 8 #[.pointer (some ⟨d, 0, none⟩), evV e, .bool false] w3 fun x w' => x = .returned (.int .u8 (kindF S e false)) ∧ Hid (w'.cell? ⟨b, 0, none⟩ = some (.int .u8 e.k) ∧ Hid (St w w' d (nextF S e false)))) :=
                Lib.hid ((hFeed.out d w3 S e hok.out hst3.out).mono fun _ _ ⟨h1, h2, h3⟩ => ⟨h1, Lib.hid ⟨(hx3.out.only h2 (by simpa using hbd.out)).cell 0 rfl, h3⟩⟩)
              have hO : Hid (∀ w', St w w' d (nextF S e false) → Calls Try.prog 7 #[.pointer (some ⟨d, 0, none⟩)] w' fun x w'' => x = .returned (.bool false) ∧ w' = w'') := Lib.hid fun w' h => by
                have := hOn.out d w' _ h
                rw [hnx.out.1] at this
                exact this
              obtain ⟨h5, h3⟩ := hs
              have h5b : (e.k == 5) = false := by simpa using h5
              have hK := Lib.hid hnx.out.2
              clear h5 hx3 hbd hst3 hoff
              have hways : Hid ((e.k == 3) = false ∨ ((e.k == 3) = true ∧ e.fr = false)) := by
                by_cases h : e.k = 3
                · exact Lib.hid (.inr ⟨by simpa using h, h3 h⟩)
                · exact Lib.hid (.inl (by simpa using h))
              clear h3
              rcases hways.out with h3b | ⟨h3b, hfr⟩
              all_goals
                try rw [hfr] at c8
                go_upto_region 15 with (first
                  | (with_reducible show wpList _ _ _ (⟨some 60, .load _ (.tmp 11), _, _, _, _⟩ :: _) _ _; go_must (refine wpList_loadAt rfl 29 (.tmp 11) rfl ⟨b, 0, none⟩ rfl _ _ hL3.out Try.underlying29 rfl (infoE _) ?_))
                  | (go_at_call 8; refine (hF3.out).mono ?_; rintro x w4 ⟨rfl, hq⟩))
                clear c0 c8 hL3 hF3
                obtain ⟨c0, hs4⟩ := hq.out
                have hO4 := Lib.hid (hO.out w4 hs4.out)
                clear hq
                by_cases h1 : e.k = 1
                · have h1b : (e.k == 1) = true := by simpa using h1
                  rw [hK.out h1]
                  clear h1
                  go_wp2_with ((go_at_call 7; (with_reducible refine (hO4.out).mono ?_); rintro x w' ⟨rfl, rfl⟩))
                  go_roundg gk
                  case measure => omega
                  case rel => exact ⟨k + 1, _, by omega, by simp, hs4, Lib.hid hnx.out.1⟩
                · have h1b : (e.k == 1) = false := by simpa using h1
                  clear h1
                  go_wp2_with ((go_at_call 7; (with_reducible refine (hO4.out).mono ?_); rintro x w' ⟨rfl, rfl⟩))
                  go_roundg gk
                  case measure => omega
                  case rel => exact ⟨k + 1, _, by omega, by simp, hs4, Lib.hid hnx.out.1⟩
            · rcases stays_no hs with h5 | ⟨h3, hfr⟩
              · have h5b : (e.k == 5) = true := by simpa using h5
                clear hs h5
                go_wp2_with fail
                go_meet
                exact Lib.hid ⟨S, hst3.out⟩
              · have h5b : (e.k == 5) = false := by simp [h3]
                have h3b : (e.k == 3) = true := by simpa using h3
                rw [hfr] at c8
                clear hs h3
                go_wp2_with fail
                go_meet
                exact Lib.hid ⟨S, hst3.out⟩
      case rest =>
      obtain ⟨S, hst⟩ := hcut.out
      replace hst := Lib.hid hst
      clear hcut hs4 hoff
      obtain ⟨rs2, hrs⟩ : ∃ rs2, rs2 = rs := ⟨_, rfl⟩
      have hFr := Lib.hid (hFeed.out d wc S freshE ⟨by decide, by decide⟩ hst.out)
      have hRe := Lib.hid (hFeed.out d wc S resetE ⟨by decide, by decide⟩ hst.out)
      have hlk : Hid (rs2 = false → Like rs2 (nextF S freshE false) Fr.new) := Lib.hid fun h => ⟨by show (S.off && !true) = false; simp, fun h2 => by rw [h] at h2; cases h2⟩
      have hlk2 : Hid (Like rs2 (nextF S resetE false) Fr.new) := Lib.hid ⟨rfl, fun _ => rfl⟩
      have hNw : Hid (∀ wr, Below w.heap.size w wr → Calls Try.prog 6 #[] wr fun x w' => ∃ g, x = .returned (.pointer (some ⟨g, 0, none⟩)) ∧ wr.heap.size ≤ g ∧ Below wr.heap.size wr w' ∧ St w w' g Fr.new) := Lib.hid fun wr h => new_st h
      clear hst
      cases rs with
      | false =>
        go_upto_block 4 with (first
          | (go_at_call 8; refine (hFr.out).mono ?_; rintro x w5 ⟨rfl, ho5, hs5⟩; replace hlk := Lib.hid (hlk.out hrs); replace hrs := Lib.hid hrs; clear hlk2 hRe hFr ho5)
          | (go_at_call 6; (with_reducible refine (hNw.out _ hs5.out.below).mono ?_); rintro x w6 ⟨g, rfl, hg6, hb6, hs6⟩))
        have hgd : Hid (d ≠ g) := Lib.hid (by have := hs5.out.fb.lt; omega)
        have hs7 : Hid (St w w6 d (nextF S freshE false) ∧ St w w6 g Fr.new ∧ Like rs2 (nextF S freshE false) Fr.new) := Lib.hid ⟨hs5.out.next hb6, hs6, hlk.out⟩
        generalize nextF S freshE false = S7 at hs7
        clear hs5 hg6 hb6 hs6 hlk hNw
        go_cut [15] from 85 to 109 (fun _ wx => Hid (Below w.heap.size w wx))
        case first =>
          go_wp2_with fail
          go_loopg [84] M (fun gg i wr => ∃ (k : Nat) (S T : Fr), k + gg = M ∧ i = .int .i64 k ∧ Hid (St w wr d S ∧ St w wr g T ∧ Like rs2 S T))
          case atStart => exact ⟨0, S7, Fr.new, by omega, rfl, hs7⟩
          case round =>
            clear hs7
            obtain ⟨k, S, T, hkM, rfl, hst⟩ := hrel
            cases gk with
            | zero =>
              obtain rfl : k = M := by omega
              go_wp2_with fail
              go_meet
              exact Lib.hid hst.out.1.below
            | succ gk =>
              have hlt : k < M := by omega
              have hx0 : k < m.length := by have := hM'.out; omega
              obtain ⟨ad, rfl, had, hld⟩ := (hmn'.out.below hst.out.1.below) k _ (List.getElem?_eq_getElem hx0)
              have hok := Lib.hid (hml'.out _ (List.getElem_mem hx0))
              generalize m[k] = e at hld hok
              have hz := Lib.hid (Block.made wr 29 #[.int .u8 0, .int .u64 0, .int .i64 0, .int .i64 0, .bool false, .int .i32 0, .bool false, .bool false, .bool false, .bool false])
              replace hld := Lib.hid hld
              clear had hx0
              go_upto_region 25 with (first
                | (with_reducible show wpList _ _ _ (⟨some 87, .load _ (.tmp 86), _, _, _, _⟩ :: _) _ _; go_must (refine wpList_loadAt rfl 29 (.tmp 86) rfl (ad.add (k * 10)) rfl _ _ hld.out Try.underlying29 rfl (infoE _) ?_))
                | (with_reducible show wpList _ _ _ (⟨none, .store _ (.tmp 15) _, _, _, _, _⟩ :: _) _ _; go_must (refine wpList_storeAll rfl _ (.tmp 15) (.tmp 87) rfl hz.out (evL e).toArray rfl rfl (by simpa using infoE e) rfl (by simp [evL, Value.oneCell']) ?_); intro w3 hx3 ho3; go_frame))
              have hb3 : Below wr.heap.size wr w3 := below_on (below_new wr _) ho3 (Nat.le_refl _)
              clear ho3 hz hld
              obtain ⟨b, hbe⟩ : ∃ b, b = wr.heap.size := ⟨_, rfl⟩
              rw [← hbe] at hx3
              rw [← hbe]
              have hD : Duo w w3 b e d S g T := ⟨hst.out.1.next hb3, hst.out.2.1.next hb3, hgd.out, by have := hst.out.1.fb.lt; omega, by have := hst.out.2.1.fb.lt; omega, hx3⟩
              have c0 : w3.cell? ⟨b, 0, none⟩ = some (.int .u8 e.k) := hx3.cell 0 rfl
              have hlk := Lib.hid hst.out.2.2
              replace hD := Lib.hid hD
              clear hbe hb3 hst hx3

              by_cases h2 : e.k = 2
              · have h2b : (e.k == 2) = true := by simpa using h2
                go_wp2_with fail
                go_meet
                exact Lib.hid hD.out.fS.below
              · have h2b : (e.k == 2) = false := by simpa using h2
                have he : Hid (rs2 = true ∨ e.k ≠ 2) := Lib.hid (.inr h2)
                clear h2
                go_upto_region 26 with (fail)
                clear h2b c0
                have hkk := Lib.hid (like_next hlk.out e he.out)
                obtain ⟨K, hK⟩ : ∃ K, kindF S e false = K := ⟨_, rfl⟩
                have hK2 := Lib.hid (hkk.out.1.symm.trans hK)
                replace hK := Lib.hid hK
                obtain ⟨v, hv⟩ : ∃ v, (nextF S e false).off = v := ⟨_, rfl⟩
                have hv2 := Lib.hid (hkk.out.2.1.symm.trans hv)
                replace hv := Lib.hid hv
                clear hlk he
                go_cut [108] from 85 to 109 (fun s108 wx => s108 = .bool false ∧ Hid (Duo w wx b e d (nextF S e false) g (nextF T e false)))
                case first =>
                  obtain ⟨c0, c1, c2, c3, c4, c5, c6, c7, c8, c9⟩ := hD.out.cells
                  have hD0 := hD.out.drawn
                  go_region_held3 (fun w' => w'.cell? ⟨b, 0, none⟩ = some (.int .u8 e.k) ∧ w'.cell? ⟨b, 1, none⟩ = some (.int .u64 e.ix) ∧ w'.cell? ⟨b, 2, none⟩ = some (.int .i64 e.ln) ∧ w'.cell? ⟨b, 3, none⟩ = some (.int .i64 e.cl) ∧ w'.cell? ⟨b, 4, none⟩ = some (.bool e.wd) ∧ w'.cell? ⟨b, 5, none⟩ = some (.int .i32 e.r) ∧ w'.cell? ⟨b, 6, none⟩ = some (.bool e.bl) ∧ w'.cell? ⟨b, 7, none⟩ = some (.bool e.la) ∧ w'.cell? ⟨b, 8, none⟩ = some (.bool e.fr) ∧ w'.cell? ⟨b, 9, none⟩ = some (.bool e.wr))
                    (first | exact hD.out.cells | exact hD0.cells | exact hP.cells | exact hR.cells)
                    (first
                      | (go_at_call 8; (with_reducible refine (Duo.one hD0 hok.out hK.out).mono ?_); rintro x w5 ⟨rfl, hP⟩)
                      | (go_at_call 8; (with_reducible refine (Duo.two hP hok.out hK2.out).mono ?_); rintro x w6 ⟨rfl, hR⟩)
                      | (go_at_call 7; (with_reducible refine (Duo.onS hR hv.out).mono ?_); rintro x w' ⟨rfl, rfl⟩)
                      | (go_at_call 7; (with_reducible refine (Duo.onT hR hv2.out).mono ?_); rintro x w' ⟨rfl, rfl⟩))
                  all_goals clear c0 c1 c2 c3 c4 c5 c6 c7 c8 c9 hD0 hD
                  all_goals go_wp2_with fail
                  all_goals go_meet
                  all_goals exact ⟨rfl, Lib.hid hR⟩
                case rest =>
                obtain ⟨rfl, hR⟩ := hcut
                clear hD hK hK2 hv hv2
                go_wp2_with fail
                go_roundg gk
                case measure => omega
                case rel => exact ⟨k + 1, _, _, by omega, by simp, Lib.hid ⟨hR.out.fS, hR.out.gT, hkk.out.2⟩⟩
        case rest =>
          have hb8 := hcut.out
          clear hcut hs7
          have hz := Block.made wc 33 #[.bool false, .int .u8 0]
          have hb9 := below_next hb8 (below_new wc (.cells #[.bool false, .int .u8 0] 33))
          clear hb8
          go_upto_region 31 with (fail)
          generalize wc.alloc (.cells #[.bool false, .int .u8 0] 33) = w9 at hz hb9 ⊢
          have hf0 := Lib.hid (fun wr => feed_none wr ⟨1, 0, 0, 0, false, 0, true, false, false, false⟩ false)
          have ho0 := Lib.hid (fun wr => on_none wr)
          have hc0 := Lib.hid (fun wr => copy_none wr)
          have hz9 : Hid (∀ wr, Below w9.heap.size w9 wr → Calls Try.prog 7 #[.pointer (some ⟨wc.heap.size, 0, none⟩)] wr fun x w' => x = .returned (.bool true) ∧ wr = w') := Lib.hid fun wr h => on_any (S := Fr.new) (FB.below hz h)
          have hfi : Hid (∀ a b, Below w9.heap.size w9 a → Below a.heap.size a b → Below w.heap.size w b) := Lib.hid fun a b h1 h2 => below_next (below_next hb9 h1) h2
          clear hz hb9
          go_wp2_with (first
            | (go_at_call 8; refine (hf0.out _).mono ?_; rintro x w' ⟨rfl, hba⟩; replace hz9 := Lib.hid (hz9.out _ hba); replace hfi := Lib.hid (fun b => hfi.out _ b hba); clear hba)
            | (go_at_call 7; (with_reducible refine (ho0.out _).mono ?_); rintro x w' ⟨rfl, rfl⟩)
            | (go_at_call 9; (with_reducible refine (hc0.out _).mono ?_); rintro x w' ⟨rfl, rfl⟩)
            | (go_at_call 7; (with_reducible refine (hz9.out).mono ?_); rintro x w' ⟨rfl, rfl⟩)
            | (go_at_call 5; (with_reducible refine (hk.out _).mono ?_); rintro x w' ⟨rfl, hb⟩; replace hb := Lib.hid (hfi.out _ hb)))
          go_ret
          exact ⟨rfl, hb.out⟩
      | true =>
        go_upto_block 4 with (first
          | (go_at_call 8; refine (hRe.out).mono ?_; rintro x w5 ⟨rfl, ho5, hs5⟩; replace hlk := hlk2; replace hrs := Lib.hid hrs; clear hlk2 hRe hFr ho5)
          | (go_at_call 6; (with_reducible refine (hNw.out _ hs5.out.below).mono ?_); rintro x w6 ⟨g, rfl, hg6, hb6, hs6⟩))
        have hgd : Hid (d ≠ g) := Lib.hid (by have := hs5.out.fb.lt; omega)
        have hs7 : Hid (St w w6 d (nextF S resetE false) ∧ St w w6 g Fr.new ∧ Like rs2 (nextF S resetE false) Fr.new) := Lib.hid ⟨hs5.out.next hb6, hs6, hlk.out⟩
        generalize nextF S resetE false = S7 at hs7
        clear hs5 hg6 hb6 hs6 hlk hNw
        go_cut [15] from 85 to 109 (fun _ wx => Hid (Below w.heap.size w wx))
        case first =>
          go_wp2_with fail
          go_loopg [84] M (fun gg i wr => ∃ (k : Nat) (S T : Fr), k + gg = M ∧ i = .int .i64 k ∧ Hid (St w wr d S ∧ St w wr g T ∧ Like rs2 S T))
          case atStart => exact ⟨0, S7, Fr.new, by omega, rfl, hs7⟩
          case round =>
            clear hs7
            obtain ⟨k, S, T, hkM, rfl, hst⟩ := hrel
            cases gk with
            | zero =>
              obtain rfl : k = M := by omega
              go_wp2_with fail
              go_meet
              exact Lib.hid hst.out.1.below
            | succ gk =>
              have hlt : k < M := by omega
              have hx0 : k < m.length := by have := hM'.out; omega
              obtain ⟨ad, rfl, had, hld⟩ := (hmn'.out.below hst.out.1.below) k _ (List.getElem?_eq_getElem hx0)
              have hok := Lib.hid (hml'.out _ (List.getElem_mem hx0))
              generalize m[k] = e at hld hok
              have hz := Lib.hid (Block.made wr 29 #[.int .u8 0, .int .u64 0, .int .i64 0, .int .i64 0, .bool false, .int .i32 0, .bool false, .bool false, .bool false, .bool false])
              replace hld := Lib.hid hld
              clear had hx0
              go_upto_region 25 with (first
                | (with_reducible show wpList _ _ _ (⟨some 87, .load _ (.tmp 86), _, _, _, _⟩ :: _) _ _; go_must (refine wpList_loadAt rfl 29 (.tmp 86) rfl (ad.add (k * 10)) rfl _ _ hld.out Try.underlying29 rfl (infoE _) ?_))
                | (with_reducible show wpList _ _ _ (⟨none, .store _ (.tmp 15) _, _, _, _, _⟩ :: _) _ _; go_must (refine wpList_storeAll rfl _ (.tmp 15) (.tmp 87) rfl hz.out (evL e).toArray rfl rfl (by simpa using infoE e) rfl (by simp [evL, Value.oneCell']) ?_); intro w3 hx3 ho3; go_frame))
              have hb3 : Below wr.heap.size wr w3 := below_on (below_new wr _) ho3 (Nat.le_refl _)
              clear ho3 hz hld
              obtain ⟨b, hbe⟩ : ∃ b, b = wr.heap.size := ⟨_, rfl⟩
              rw [← hbe] at hx3
              rw [← hbe]
              have hD : Duo w w3 b e d S g T := ⟨hst.out.1.next hb3, hst.out.2.1.next hb3, hgd.out, by have := hst.out.1.fb.lt; omega, by have := hst.out.2.1.fb.lt; omega, hx3⟩
              have c0 : w3.cell? ⟨b, 0, none⟩ = some (.int .u8 e.k) := hx3.cell 0 rfl
              have hlk := Lib.hid hst.out.2.2
              replace hD := Lib.hid hD
              clear hbe hb3 hst hx3

              by_cases h2 : e.k = 2
              · have h2b : (e.k == 2) = true := by simpa using h2
                have he : Hid (rs2 = true ∨ e.k ≠ 2) := Lib.hid (.inl hrs.out)
                clear h2
                go_upto_region 26 with (fail)
                clear h2b c0
                have hkk := Lib.hid (like_next hlk.out e he.out)
                obtain ⟨K, hK⟩ : ∃ K, kindF S e false = K := ⟨_, rfl⟩
                have hK2 := Lib.hid (hkk.out.1.symm.trans hK)
                replace hK := Lib.hid hK
                obtain ⟨v, hv⟩ : ∃ v, (nextF S e false).off = v := ⟨_, rfl⟩
                have hv2 := Lib.hid (hkk.out.2.1.symm.trans hv)
                replace hv := Lib.hid hv
                clear hlk he
                go_cut [108] from 85 to 109 (fun s108 wx => s108 = .bool false ∧ Hid (Duo w wx b e d (nextF S e false) g (nextF T e false)))
                case first =>
                  obtain ⟨c0, c1, c2, c3, c4, c5, c6, c7, c8, c9⟩ := hD.out.cells
                  have hD0 := hD.out.drawn
                  go_region_held3 (fun w' => w'.cell? ⟨b, 0, none⟩ = some (.int .u8 e.k) ∧ w'.cell? ⟨b, 1, none⟩ = some (.int .u64 e.ix) ∧ w'.cell? ⟨b, 2, none⟩ = some (.int .i64 e.ln) ∧ w'.cell? ⟨b, 3, none⟩ = some (.int .i64 e.cl) ∧ w'.cell? ⟨b, 4, none⟩ = some (.bool e.wd) ∧ w'.cell? ⟨b, 5, none⟩ = some (.int .i32 e.r) ∧ w'.cell? ⟨b, 6, none⟩ = some (.bool e.bl) ∧ w'.cell? ⟨b, 7, none⟩ = some (.bool e.la) ∧ w'.cell? ⟨b, 8, none⟩ = some (.bool e.fr) ∧ w'.cell? ⟨b, 9, none⟩ = some (.bool e.wr))
                    (first | exact hD.out.cells | exact hD0.cells | exact hP.cells | exact hR.cells)
                    (first
                      | (go_at_call 8; (with_reducible refine (Duo.one hD0 hok.out hK.out).mono ?_); rintro x w5 ⟨rfl, hP⟩)
                      | (go_at_call 8; (with_reducible refine (Duo.two hP hok.out hK2.out).mono ?_); rintro x w6 ⟨rfl, hR⟩)
                      | (go_at_call 7; (with_reducible refine (Duo.onS hR hv.out).mono ?_); rintro x w' ⟨rfl, rfl⟩)
                      | (go_at_call 7; (with_reducible refine (Duo.onT hR hv2.out).mono ?_); rintro x w' ⟨rfl, rfl⟩))
                  all_goals clear c0 c1 c2 c3 c4 c5 c6 c7 c8 c9 hD0 hD
                  all_goals go_wp2_with fail
                  all_goals go_meet
                  all_goals exact ⟨rfl, Lib.hid hR⟩
                case rest =>
                obtain ⟨rfl, hR⟩ := hcut
                clear hD hK hK2 hv hv2
                go_wp2_with fail
                go_roundg gk
                case measure => omega
                case rel => exact ⟨k + 1, _, _, by omega, by simp, Lib.hid ⟨hR.out.fS, hR.out.gT, hkk.out.2⟩⟩
              · have h2b : (e.k == 2) = false := by simpa using h2
                have he : Hid (rs2 = true ∨ e.k ≠ 2) := Lib.hid (.inr h2)
                clear h2
                go_upto_region 26 with (fail)
                clear h2b c0
                have hkk := Lib.hid (like_next hlk.out e he.out)
                obtain ⟨K, hK⟩ : ∃ K, kindF S e false = K := ⟨_, rfl⟩
                have hK2 := Lib.hid (hkk.out.1.symm.trans hK)
                replace hK := Lib.hid hK
                obtain ⟨v, hv⟩ : ∃ v, (nextF S e false).off = v := ⟨_, rfl⟩
                have hv2 := Lib.hid (hkk.out.2.1.symm.trans hv)
                replace hv := Lib.hid hv
                clear hlk he
                go_cut [108] from 85 to 109 (fun s108 wx => s108 = .bool false ∧ Hid (Duo w wx b e d (nextF S e false) g (nextF T e false)))
                case first =>
                  obtain ⟨c0, c1, c2, c3, c4, c5, c6, c7, c8, c9⟩ := hD.out.cells
                  have hD0 := hD.out.drawn
                  go_region_held3 (fun w' => w'.cell? ⟨b, 0, none⟩ = some (.int .u8 e.k) ∧ w'.cell? ⟨b, 1, none⟩ = some (.int .u64 e.ix) ∧ w'.cell? ⟨b, 2, none⟩ = some (.int .i64 e.ln) ∧ w'.cell? ⟨b, 3, none⟩ = some (.int .i64 e.cl) ∧ w'.cell? ⟨b, 4, none⟩ = some (.bool e.wd) ∧ w'.cell? ⟨b, 5, none⟩ = some (.int .i32 e.r) ∧ w'.cell? ⟨b, 6, none⟩ = some (.bool e.bl) ∧ w'.cell? ⟨b, 7, none⟩ = some (.bool e.la) ∧ w'.cell? ⟨b, 8, none⟩ = some (.bool e.fr) ∧ w'.cell? ⟨b, 9, none⟩ = some (.bool e.wr))
                    (first | exact hD.out.cells | exact hD0.cells | exact hP.cells | exact hR.cells)
                    (first
                      | (go_at_call 8; (with_reducible refine (Duo.one hD0 hok.out hK.out).mono ?_); rintro x w5 ⟨rfl, hP⟩)
                      | (go_at_call 8; (with_reducible refine (Duo.two hP hok.out hK2.out).mono ?_); rintro x w6 ⟨rfl, hR⟩)
                      | (go_at_call 7; (with_reducible refine (Duo.onS hR hv.out).mono ?_); rintro x w' ⟨rfl, rfl⟩)
                      | (go_at_call 7; (with_reducible refine (Duo.onT hR hv2.out).mono ?_); rintro x w' ⟨rfl, rfl⟩))
                  all_goals clear c0 c1 c2 c3 c4 c5 c6 c7 c8 c9 hD0 hD
                  all_goals go_wp2_with fail
                  all_goals go_meet
                  all_goals exact ⟨rfl, Lib.hid hR⟩
                case rest =>
                obtain ⟨rfl, hR⟩ := hcut
                clear hD hK hK2 hv hv2
                go_wp2_with fail
                go_roundg gk
                case measure => omega
                case rel => exact ⟨k + 1, _, _, by omega, by simp, Lib.hid ⟨hR.out.fS, hR.out.gT, hkk.out.2⟩⟩
        case rest =>
          have hb8 := hcut.out
          clear hcut hs7
          have hz := Block.made wc 33 #[.bool false, .int .u8 0]
          have hb9 := below_next hb8 (below_new wc (.cells #[.bool false, .int .u8 0] 33))
          clear hb8
          go_upto_region 31 with (fail)
          generalize wc.alloc (.cells #[.bool false, .int .u8 0] 33) = w9 at hz hb9 ⊢
          have hf0 := Lib.hid (fun wr => feed_none wr ⟨1, 0, 0, 0, false, 0, true, false, false, false⟩ false)
          have ho0 := Lib.hid (fun wr => on_none wr)
          have hc0 := Lib.hid (fun wr => copy_none wr)
          have hz9 : Hid (∀ wr, Below w9.heap.size w9 wr → Calls Try.prog 7 #[.pointer (some ⟨wc.heap.size, 0, none⟩)] wr fun x w' => x = .returned (.bool true) ∧ wr = w') := Lib.hid fun wr h => on_any (S := Fr.new) (FB.below hz h)
          have hfi : Hid (∀ a b, Below w9.heap.size w9 a → Below a.heap.size a b → Below w.heap.size w b) := Lib.hid fun a b h1 h2 => below_next (below_next hb9 h1) h2
          clear hz hb9
          go_wp2_with (first
            | (go_at_call 8; refine (hf0.out _).mono ?_; rintro x w' ⟨rfl, hba⟩; replace hz9 := Lib.hid (hz9.out _ hba); replace hfi := Lib.hid (fun b => hfi.out _ b hba); clear hba)
            | (go_at_call 7; (with_reducible refine (ho0.out _).mono ?_); rintro x w' ⟨rfl, rfl⟩)
            | (go_at_call 9; (with_reducible refine (hc0.out _).mono ?_); rintro x w' ⟨rfl, rfl⟩)
            | (go_at_call 7; (with_reducible refine (hz9.out).mono ?_); rintro x w' ⟨rfl, rfl⟩)
            | (go_at_call 5; (with_reducible refine (hk.out _).mono ?_); rintro x w' ⟨rfl, hb⟩; replace hb := Lib.hid (hfi.out _ hb)))
          go_ret
          exact ⟨rfl, hb.out⟩
end Go.Proofs.Ytbibnnbmiefcgaa.Fro
