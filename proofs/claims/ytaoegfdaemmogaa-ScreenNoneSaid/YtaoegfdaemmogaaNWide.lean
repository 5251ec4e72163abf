/-
  screen: all rows get another size.
-/
import Derived.Test.YtaoegfdaemmogaaNRow
namespace Go.Proofs.Ytaoegfdaemmogaa.Scn
open Go Go.RowKit Go.Proofs.Ytaoegfdaemmogaa.Com Go.Proofs.Ytaoegfdaemmogaa.Rw Go.Proofs.Ytaoegfdaemmogaa.Lns
section
variable {B : Nat} {w w' : World} {x s nx most cols top bot n : Nat} {kp : Bool} {sv lv : Value} {xs : List Value} {R A C L : List En} {e e' : En} {S : Scr}
theorem LnX.elem (h : LnX B w x s nx most kp cols sv lv top bot n (fl lineC L) R) {i : Nat} (hn : n = L.length) (hi : i < L.length) : ∃ g c, lv = .slice (some ⟨g, 0, none⟩) n c ∧ w.cell? ⟨g, i * 2, none⟩ = some (.int .i64 L[i].id) ∧ w.cell? ⟨g, i * 2 + 1, none⟩ = some (.pointer (some ⟨L[i].d, 0, none⟩)) := by
  obtain ⟨g, cap, tail, rfl, hg, hb, hc, hm⟩ := own_block h.own (by omega)
  have e0 := fl_at lineC_length hi (show 0 < 2 by decide)
  have e1 := fl_at lineC_length hi (show 1 < 2 by decide)
  have hl : i * 2 + 1 < (fl lineC L).length := by rw [fl_length lineC_length]; omega
  refine ⟨g, cap, rfl, hb.cell _ ?_, hb.cell _ ?_⟩
  · rw [List.getElem?_toArray, List.getElem?_append_left (by omega)]; exact e0
  · rw [List.getElem?_toArray, List.getElem?_append_left hl]; exact e1
set_option maxRecDepth 100000 in
set_option maxHeartbeats 2000000 in
theorem widen_sc (h : SC B w x s S) (hl : S.L.length ≤ 1000) (m : Nat) (h1 : 1 ≤ m) (h2 : m ≤ 512) : Calls Try.prog 41 #[.pointer (some ⟨x, 0, none⟩), .int .i64 m] w (Did B w x s (wideS S m)) := by
  obtain ⟨sv, lv, L, R, h0, e1, e2⟩ := h
  have hll : L.length = S.L.length := by rw [← e1, vw_len]
  obtain ⟨m1, m2⟩ := h0.ln.setCols m
  have hM := h0.ln' m1 (m2.mono (by simp))
  have hf0 := h0.ln.frame (m2.mono (by simp))
  have c2 := h0.ln.cells.2.2.1
  have f2 := h0.ln.blk.free 2
  have c3 := hM.ln.cells.2.2.2.1
  obtain ⟨ao, c, hlv, hnc, _⟩ := h0.ln.shape
  rw [hlv] at c3
  replace hlv := Lib.hid hlv
  obtain ⟨n, hn⟩ : ∃ n, n = L.length := ⟨_, rfl⟩
  rw [← hn] at hM hll hlv c3
  have hn5 : n ≤ 1000 := by omega
  replace hn := Lib.hid hn
  replace hll := Lib.hid hll
  replace e1 := Lib.hid e1
  replace e2 := Lib.hid e2
  replace hM := Lib.hid hM
  replace hf0 := Lib.hid hf0
  clear h0 m1 m2 hnc
  go_enter Try.func41, Try.ntmps41
  go_wp2
  generalize w.setCell ⟨x, 2, none⟩ (.int .i64 m) = w0 at hM hf0 c3 ⊢
  go_loopw [15] (fun iv wr => ∃ j : Nat, j ≤ n ∧ iv = .int .i64 j ∧ Hid (∃ A, vw A = (vw (L.take j)).map (fun p => (p.1, resL p.2 m)) ∧ MidX B wr x s S.nx S.most S.kp m sv lv S.top S.bot n (fl lineC L) (A ++ L.drop j) R ∧ fl lineC A = fl lineC (L.take j) ∧ Fr B PT w wr)) (fun iv _ => n - (intOf iv).toNat)
  case atStart => exact ⟨0, Nat.zero_le _, rfl, Lib.hid ⟨[], rfl, hM.out, rfl, hf0.out⟩⟩
  case round =>
    obtain ⟨j, hj, rfl, hR⟩ := hrel
    obtain ⟨A, hvA, hMr, hfl, hfr⟩ := hR.out
    by_cases hlt : j < n
    · have hjI : (j : Int) < (n : Int) := by omega
      have hjL : j < L.length := by have := hn.out; omega
      obtain ⟨g, c', ee, q0, q1⟩ := hMr.ln.elem hn.out hjL
      rw [hlv.out] at ee
      simp only [Value.slice.injEq] at ee
      obtain ⟨rfl, _, rfl⟩ := ee
      have hdrop : L.drop j = L[j] :: L.drop (j + 1) := List.drop_eq_getElem_cons hjL
      have htake : L.take (j + 1) = L.take j ++ [L[j]] := by rw [List.take_add_one, List.getElem?_eq_getElem hjL]; rfl
      rw [hdrop] at hMr
      generalize L[j] = e0 at q0 q1 hMr hdrop htake
      have hbw : Below wr.heap.size wr (wr.alloc (.cells #[.int .i64 e0.id, .pointer (some ⟨e0.d, 0, none⟩)] 92)) := below_new wr _
      have hrr := res_row (hMr.below hbw) m h1 h2
      have hfin := fun w3 (e' : En) (g1 : e'.id = e0.id) (g2 : e'.d = e0.d) (g3 : e'.l = resL e0.l m) (g4 : MidX B w3 x s S.nx S.most S.kp m sv lv S.top S.bot n (fl lineC L) (A ++ e' :: L.drop (j + 1)) R) (g5 : Fr B PT (wr.alloc (.cells #[.int .i64 e0.id, .pointer (some ⟨e0.d, 0, none⟩)] 92)) w3) => (⟨A ++ [e'], by rw [htake]; simp only [vw, List.map_append, List.map_cons, List.map_nil, g1, g3] at hvA ⊢; rw [hvA], by rw [List.append_assoc]; exact g4, by rw [fl_app, fl_one, htake, fl_app, fl_one, hfl, lineC_eq g1 g2], hfr.trans ((Fr.of_below hbw).trans g5)⟩ : ∃ A, vw A = (vw (L.take (j + 1))).map (fun p => (p.1, resL p.2 m)) ∧ MidX B w3 x s S.nx S.most S.kp m sv lv S.top S.bot n (fl lineC L) (A ++ L.drop (j + 1)) R ∧ fl lineC A = fl lineC (L.take (j + 1)) ∧ Fr B PT w w3)
      replace hfin := Lib.hid hfin
      replace hrr := Lib.hid hrr
      clear hMr hfr hvA hfl hR hdrop htake hbw
      go_wp2_with (first
        | (go_at_call 64; (with_reducible refine hrr.out.mono ?_); rintro r w3 ⟨⟨v3, rfl⟩, e', g1, g2, g3, g4, g5⟩))
      have hres := Lib.hid (hfin.out _ e' g1 g2 g3 g4 g5)
      clear g1 g2 g3 g4 g5
      go_roundw
      case rel => exact ⟨j + 1, by omega, by go_num, hres⟩
      case measure => simp [intOf]; omega
    · obtain rfl : j = n := by omega
      have hno := hn.out
      subst hno
      rw [List.drop_length, List.append_nil] at hMr
      rw [List.take_length] at hvA hfl
      have hAl : A.length = L.length := by
        have := congrArg List.length hvA
        simpa [vw_len] using this
      have hres := Lib.hid (⟨⟨sv, lv, A, R, by rw [hfl, hAl]; exact hMr, by rw [hvA, e1.out]; rfl, e2.out⟩, hfr⟩ : SC B wr x s (wideS S m) ∧ Fr B PT w wr)
      clear hMr hvA hfl hfr hR
      go_wp2
      go_end0
      exact ⟨⟨_, rfl⟩, hres.out⟩
end
end Go.Proofs.Ytaoegfdaemmogaa.Scn
