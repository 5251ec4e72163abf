/-
  screen: one of its rows turns; margins; all rows get another size. screen: all rows get another size.
-/
import Derived.Test.YtaoegfdaemmogaaGreatNMove
namespace Go.Proofs.YtaoegfdaemmogaaGreat.Scn
open Go Go.RowKit Go.Proofs.YtaoegfdaemmogaaGreat.Com Go.Proofs.YtaoegfdaemmogaaGreat.Rw Go.Proofs.YtaoegfdaemmogaaGreat.Lns

theorem lineC_eq {e e' : En} (h1 : e'.id = e.id) (h2 : e'.d = e.d) : lineC e' = lineC e := by simp [lineC, h1, h2]
theorem fl_same {A C : List En} {e e' : En} (h1 : e'.id = e.id) (h2 : e'.d = e.d) : fl lineC (A ++ e' :: C) = fl lineC (A ++ e :: C) := by simp [fl, lineC_eq h1 h2]
section
variable {B : Nat} {w w' : World} {x s nx most cols top bot n : Nat} {kp : Bool} {sv lv : Value} {xs : List Value} {R A C : List En} {e e' : En} {S : Scr}
theorem MidX.row (h : MidX B w x s nx most kp cols sv lv top bot n xs (A ++ e :: C) R) {k : Nat} {t : TypeId} (ht : Typ w k t) (h1 : 86 ≠ t) (h2 : 94 ≠ t) (h3 : 109 ≠ t) (hB : B ≤ k) (htP : t ∈ PT)
    (ho : Only [k] w w') (ha : ∀ e2, e2 ∈ A ++ C ∨ e2 ∈ R → e2.d ≠ k ∧ e2.g ≠ k) (hr : RowG B w' e') (hd : e'.d = e.d) (hg : e'.g = e.g ∨ w.heap.size ≤ e'.g) :
    MidX B w' x s nx most kp cols sv lv top bot n xs (A ++ e' :: C) R ∧ Fr B PT w w' := by
  have hno : ∀ {j : Nat} {t' : TypeId}, Typ w j t' → t' ≠ t → j ∉ [k] := fun hj hn => not_in1 hj ht hn
  have hmem : ∀ e2, e2 ∈ A ++ C → e2 ∈ A ++ e :: C := fun e2 he => by
    rcases List.mem_append.1 he with he | he
    · exact List.mem_append_left _ he
    · exact List.mem_append_right _ (List.mem_cons_of_mem _ he)
  refine ⟨⟨h.ln.only ho (hno h.ln.typ h1) (hno h.ln.st.typ h2) (fun g hg => hno (h.ln.ltyp g hg).2.2 h3) (fun g hg => hno (h.ln.st.ptyp g hg).2.2 h3) (fun e2 he => by
    have := ha e2 (.inr he)
    exact ⟨by simpa using this.1, by simpa using this.2⟩), fun e2 he => ?_, ?_, ?_⟩, ?_⟩
  · rcases List.mem_append.1 he with he | he
    · have := ha e2 (.inl (List.mem_append_left _ he))
      exact (h.rows e2 (List.mem_append_left _ he)).only ho (by simpa using this.1) (by simpa using this.2)
    · rcases List.mem_cons.1 he with rfl | he
      · exact hr
      · have := ha e2 (.inl (List.mem_append_right _ he))
        exact (h.rows e2 (List.mem_append_right _ (List.mem_cons_of_mem _ he))).only ho (by simpa using this.1) (by simpa using this.2)
  · have := h.dd
    simpa [hd] using this
  · rcases hg with hg | hg
    · have := h.gg
      simpa [hg] using this
    · have h0 : ((A ++ (C ++ R)).map En.g).Nodup := h.gg.sublist (by
        rw [List.append_assoc, List.cons_append]
        exact (List.Sublist.append (List.Sublist.refl A) (List.sublist_cons_self e _)).map _)
      refine nodup_new En.g h0 (fun e2 he => ?_) hg (by rw [List.append_assoc, List.cons_append]; exact List.perm_middle)
      have : e2 ∈ (A ++ e :: C) ++ R := by
        rcases List.mem_append.1 he with he | he
        · exact List.mem_append_left _ (List.mem_append_left _ he)
        · rcases List.mem_append.1 he with he | he
          · exact List.mem_append_left _ (List.mem_append_right _ (List.mem_cons_of_mem _ he))
          · exact List.mem_append_right _ he
      exact (h.lts e2 this).2
  · exact Fr.of_only ho fun j hj _ => by
      obtain rfl : j = k := by simpa using hj
      exact ⟨hB, t, htP, ht⟩
/-- Of other rows, none lies where this one does. -/
theorem MidX.apartD (h : MidX B w x s nx most kp cols sv lv top bot n xs (A ++ e :: C) R) : ∀ e2, e2 ∈ A ++ C ∨ e2 ∈ R → e2.d ≠ e.d ∧ e2.g ≠ e.d := fun e2 he => by
  have hm : e2 ∈ A ++ (C ++ R) := by
    rcases he with he | he
    · rcases List.mem_append.1 he with he | he
      · exact List.mem_append_left _ he
      · exact List.mem_append_right _ (List.mem_append_left _ he)
    · exact List.mem_append_right _ (List.mem_append_right _ he)
  have hm2 : e2 ∈ (A ++ e :: C) ++ R := by
    rcases List.mem_append.1 hm with hm | hm
    · exact List.mem_append_left _ (List.mem_append_left _ hm)
    · rcases List.mem_append.1 hm with hm | hm
      · exact List.mem_append_left _ (List.mem_append_right _ (List.mem_cons_of_mem _ hm))
      · exact List.mem_append_right _ hm
  have hrow : RowG B w e2 := by
    rcases List.mem_append.1 hm2 with hm2 | hm2
    · exact h.rows e2 hm2
    · exact h.ln.st.2 e2 hm2
  have he' := h.rows e (by simp)
  refine ⟨fun hd => ?_, fun hg => absurd (Typ.inj hrow.typ.2 (hg ▸ he'.typ.1)) (by decide)⟩
  have hn : ((e :: (A ++ (C ++ R))).map En.d).Nodup := by
    have hp : List.Perm ((A ++ e :: C) ++ R) (e :: (A ++ (C ++ R))) := by rw [List.append_assoc, List.cons_append]; exact List.perm_middle
    exact (hp.map En.d).nodup_iff.1 h.dd
  rw [List.map_cons, List.nodup_cons] at hn
  exact hn.1 (List.mem_map.2 ⟨e2, hm, hd⟩)
theorem MidX.apartG (h : MidX B w x s nx most kp cols sv lv top bot n xs (A ++ e :: C) R) : ∀ e2, e2 ∈ A ++ C ∨ e2 ∈ R → e2.d ≠ e.g ∧ e2.g ≠ e.g := fun e2 he => by
  have hm : e2 ∈ A ++ (C ++ R) := by
    rcases he with he | he
    · rcases List.mem_append.1 he with he | he
      · exact List.mem_append_left _ he
      · exact List.mem_append_right _ (List.mem_append_left _ he)
    · exact List.mem_append_right _ (List.mem_append_right _ he)
  have hm2 : e2 ∈ (A ++ e :: C) ++ R := by
    rcases List.mem_append.1 hm with hm | hm
    · exact List.mem_append_left _ (List.mem_append_left _ hm)
    · rcases List.mem_append.1 hm with hm | hm
      · exact List.mem_append_left _ (List.mem_append_right _ (List.mem_cons_of_mem _ hm))
      · exact List.mem_append_right _ hm
  have hrow : RowG B w e2 := by
    rcases List.mem_append.1 hm2 with hm2 | hm2
    · exact h.rows e2 hm2
    · exact h.ln.st.2 e2 hm2
  have he' := h.rows e (by simp)
  refine ⟨fun hd => absurd (Typ.inj hrow.typ.1 (hd ▸ he'.typ.2)) (by decide), fun hg => ?_⟩
  have hn : ((e :: (A ++ (C ++ R))).map En.g).Nodup := by
    have hp : List.Perm ((A ++ e :: C) ++ R) (e :: (A ++ (C ++ R))) := by rw [List.append_assoc, List.cons_append]; exact List.perm_middle
    exact (hp.map En.g).nodup_iff.1 h.gg
  rw [List.map_cons, List.nodup_cons] at hn
  exact hn.1 (List.mem_map.2 ⟨e2, hm, hg⟩)
def ResLn (B : Nat) (w : World) (x s nx most : Nat) (kp : Bool) (cols : Nat) (sv lv : Value) (top bot n : Nat) (xs : List Value) (A C R : List En) (id : Int) (d : Nat) (l : List Cel) (r : Ending) (w' : World) : Prop :=
  (∃ v, r = .returned v) ∧ ∃ e', e'.id = id ∧ e'.d = d ∧ e'.l = l ∧ MidX B w' x s nx most kp cols sv lv top bot n xs (A ++ e' :: C) R ∧ Fr B PT w w'
theorem res_row (h : MidX B w x s nx most kp cols sv lv top bot n xs (A ++ e :: C) R) (m : Nat) (h1 : 1 ≤ m) (h2 : m ≤ 512) : Calls Tryz.prog 82 #[.pointer (some ⟨e.d, 0, none⟩), .int .i64 m] w (ResLn B w x s nx most kp cols sv lv top bot n xs A C R e.id e.d (resL e.l m)) := by
  have hr := h.rows e (by simp)
  have htd := hr.typ.1
  have hBd := hr.2.1
  obtain ⟨g1, g2, g3, n1, cap, tail, hx⟩ := hr
  refine (resize_yes hx g1.whole m h1 h2).mono ?_
  rintro r w' ⟨g, rfl, hx', ho, hg⟩
  have hgd : Rw.Good (resL e.l m) := by
    have := g1.res m
    unfold reL at this
    rw [if_pos (by omega)] at this
    exact this
  have hBg : B ≤ g := by have := hx.ptr.lt; omega
  exact ⟨⟨_, rfl⟩, ⟨e.id, e.d, g, e.dr, resL e.l m⟩, rfl, rfl, rfl, h.row htd (by decide) (by decide) (by decide) hBd (by simp [PT]) ho h.apartD ⟨hgd, hBd, hBg, _, _, _, hx'⟩ rfl (.inr hg)⟩
/-- A rune is put into a row. -/
theorem put_row (h : MidX B w x s nx most kp cols sv lv top bot n xs (A ++ e :: C) R) (col r : Int) (hc : -9223372036854775808 ≤ col ∧ col ≤ 9223372036854775807) (wide : Bool) (a : At) :
    Calls Tryz.prog 33 #[.pointer (some ⟨e.d, 0, none⟩), .int .i64 col, .int .i32 r, .bool wide, .agg #[.int .u32 a.f, .int .u32 a.b, .int .u16 a.g]] w fun y w' => y = .returned (.int .i64 (putV e.l col r wide a)) ∧ MidX B w' x s nx most kp cols sv lv top bot n xs (A ++ (⟨e.id, e.d, e.g, e.dr, putL e.l col r wide a⟩ : En) :: C) R ∧ Fr B PT w w' := by
  have hr := h.rows e (by simp)
  have htg := hr.typ.2
  have hBg := hr.2.2.1
  obtain ⟨g1, g2, g3, n1, cap, tail, hx⟩ := hr
  have hgd := g1.put col r wide a
  by_cases hok : putOk e.l col r wide a
  · have hok' := hok
    obtain ⟨k1, k2, k3⟩ := hok'
    obtain ⟨c, rfl⟩ : ∃ c : Nat, col = c := ⟨col.toNat, by omega⟩
    refine (put_yes hx g1.whole c r wide a k1 (by have := hx.len; omega)).mono ?_
    rintro y w' ⟨rfl, hx', ho⟩
    have hl : putL e.l c r wide a = setL e.l c (cellsPut r wide a) := by unfold putL; rw [if_pos hok]; rfl
    have hv : putV e.l c r wide a = 0 := by unfold putV; rw [if_pos hok]
    rw [hv]
    rw [hl] at hgd ⊢
    exact ⟨rfl, h.row htg (by decide) (by decide) (by decide) hBg (by simp [PT]) ho h.apartG ⟨hgd, g2, g3, _, _, _, hx'⟩ rfl (.inl rfl)⟩
  · have hl : putL e.l col r wide a = e.l := by unfold putL; rw [if_neg hok]
    have hv : putV e.l col r wide a = 2 := by unfold putV; rw [if_neg hok]
    rw [hl, hv]
    have hno : runeB r = false ∨ col < 0 ∨ (n1 : Int) ≤ col ∨ (wide = true ∧ (n1 : Int) ≤ col + 1) := by
      have hlen := hx.len
      unfold putOk at hok
      rcases hb : runeB r with _ | _
      · exact .inl rfl
      · right
        have : ¬ (0 ≤ col ∧ col + ((cellsPut r wide a).length : Int) ≤ (e.l.length : Int)) := fun hh => hok ⟨hb, hh.1, hh.2⟩
        cases wide
        · have h1 : (cellsPut r false a).length = 1 := rfl
          rw [h1] at this
          by_cases c0 : col < 0
          · exact .inl c0
          · exact .inr (.inl (by omega))
        · have h1 : (cellsPut r true a).length = 2 := rfl
          rw [h1] at this
          by_cases c0 : col < 0
          · exact .inl c0
          · exact .inr (.inr ⟨rfl, by omega⟩)
    refine (put_no hx col r hc wide a hno).mono ?_
    rintro y w' ⟨rfl, hx', ho⟩
    rw [hl] at hgd
    exact ⟨rfl, h.row htg (by decide) (by decide) (by decide) hBg (by simp [PT]) ho h.apartG ⟨hgd, g2, g3, _, _, _, hx'⟩ rfl (.inl rfl)⟩
/-- Another number of columns, other margins are told. -/
theorem LnX.setMarg (h : LnX B w x s nx most kp cols sv lv top bot n xs R) (t b : Nat) : LnX B ((w.setCell ⟨x, 4, none⟩ (.int .i64 t)).setCell ⟨x, 5, none⟩ (.int .i64 b)) x s nx most kp cols sv lv t b n xs R ∧ Only [x] w ((w.setCell ⟨x, 4, none⟩ (.int .i64 t)).setCell ⟨x, 5, none⟩ (.int .i64 b)) := by
  have ho : Only [x] w ((w.setCell ⟨x, 4, none⟩ (.int .i64 t)).setCell ⟨x, 5, none⟩ (.int .i64 b)) := (Only.setCell w ⟨x, 4, none⟩ _).trans (Only.setCell _ ⟨x, 5, none⟩ _)
  exact ⟨⟨(h.blk.set 4 _).set 5 _, owns_only h.own ho (fun g hg => not_in1 (h.ltyp g hg).2.2 h.typ (by decide)), h.store (ho.mono (by simp)), h.apart, h.lo, h.small⟩, ho⟩
theorem LnX.setCols (h : LnX B w x s nx most kp cols sv lv top bot n xs R) (c : Nat) : LnX B (w.setCell ⟨x, 2, none⟩ (.int .i64 c)) x s nx most kp c sv lv top bot n xs R ∧ Only [x] w (w.setCell ⟨x, 2, none⟩ (.int .i64 c)) := by
  have ho : Only [x] w (w.setCell ⟨x, 2, none⟩ (.int .i64 c)) := Only.setCell w ⟨x, 2, none⟩ _
  exact ⟨⟨h.blk.set 2 _, owns_only h.own ho (fun g hg => not_in1 (h.ltyp g hg).2.2 h.typ (by decide)), h.store (ho.mono (by simp)), h.apart, h.lo, h.small⟩, ho⟩
theorem SC.free (h : SC B w x s S) (i : Nat) : w.frozen? ⟨x, i, none⟩ = false := by
  obtain ⟨sv, lv, L, R, h1, h2, h3⟩ := h
  exact h1.ln.blk.free i
theorem SC.setMarg (h : SC B w x s S) (t b : Nat) : SC B ((w.setCell ⟨x, 4, none⟩ (.int .i64 t)).setCell ⟨x, 5, none⟩ (.int .i64 b)) x s { S with top := t, bot := b } ∧ Fr B PT w ((w.setCell ⟨x, 4, none⟩ (.int .i64 t)).setCell ⟨x, 5, none⟩ (.int .i64 b)) := by
  obtain ⟨sv, lv, L, R, h1, h2, h3⟩ := h
  obtain ⟨m1, m2⟩ := h1.ln.setMarg t b
  exact ⟨⟨sv, lv, L, R, h1.ln' m1 (m2.mono (by simp)), h2, h3⟩, h1.ln.frame (m2.mono (by simp))⟩
theorem marg_sc (h : SC B w x s S) (hl : 1 ≤ S.L.length) (h5 : S.L.length ≤ 512) : Calls Tryz.prog 59 #[.pointer (some ⟨x, 0, none⟩)] w (Did B w x s (margS S)) := by
  obtain ⟨_, _, _, ⟨ao, c, c3⟩, c4, c5⟩ := h.cells
  have f4 := h.free 4
  have f5 := h.free 5
  have hw : IntKind.i64.wrap ((S.L.length : Int) - 1) = ((S.L.length - 1 : Nat) : Int) := by
    rw [show (S.L.length : Int) - 1 = ((S.L.length - 1 : Nat) : Int) by omega]
    exact IntWalk.i64_in _ (by omega)
  have hs := h.setMarg 0 (S.L.length - 1)
  unfold margS
  rw [Int.natCast_zero] at hs
  have hres := Lib.hid hs
  generalize S.L.length - 1 = b at hw hres ⊢
  generalize S.L.length = n at c3 hw
  clear h hs
  go_enter Tryz.func59, Tryz.ntmps59
  go_wp2
  try go_region
  try go_wp2
  go_end0
  exact ⟨⟨_, rfl⟩, hres.out⟩
end
end Go.Proofs.YtaoegfdaemmogaaGreat.Scn
namespace Go.Proofs.YtaoegfdaemmogaaGreat.Scn
open Go Go.RowKit Go.Proofs.YtaoegfdaemmogaaGreat.Com Go.Proofs.YtaoegfdaemmogaaGreat.Rw Go.Proofs.YtaoegfdaemmogaaGreat.Lns
section
variable {B : Nat} {w w' : World} {x s nx most cols top bot n : Nat} {kp : Bool} {sv lv : Value} {xs : List Value} {R A C L : List En} {e e' : En} {S : Scr}
theorem LnX.elem (h : LnX B w x s nx most kp cols sv lv top bot n (fl lineC L) R) {i : Nat} (hn : n = L.length) (hi : i < L.length) : ∃ g c, lv = .slice (some ⟨g, 0, none⟩) n c ∧ w.cell? ⟨g, i * 2, none⟩ = some (.int .i64 L[i].id) ∧ w.cell? ⟨g, i * 2 + 1, none⟩ = some (.pointer (some ⟨L[i].d, 0, none⟩)) := by
  obtain ⟨g, cap, tail, rfl, hg, hb, hc, hm⟩ := own_block h.own (by omega)
  have e0 := fl_at lineC_length hi (show 0 < 2 by decide)
  have e1 := fl_at lineC_length hi (show 1 < 2 by decide)
  have hl : i * 2 + 1 < (fl lineC L).length := by rw [fl_length lineC_length]; omega
  refine ⟨g, cap, rfl, hb.cell _ ?_, hb.cell _ ?_⟩
  · rw [List.getElem?_toArray, List.getElem?_append_left (by omega)]; exact e0
  · rw [List.getElem?_toArray, List.getElem?_append_left hl]; exact e1
set_option maxRecDepth 100000 in
set_option maxHeartbeats 2000000 in
theorem widen_sc (h : SC B w x s S) (hl : S.L.length ≤ 1000) (m : Nat) (h1 : 1 ≤ m) (h2 : m ≤ 512) : Calls Tryz.prog 58 #[.pointer (some ⟨x, 0, none⟩), .int .i64 m] w (Did B w x s (wideS S m)) := by
  obtain ⟨sv, lv, L, R, h0, e1, e2⟩ := h
  have hll : L.length = S.L.length := by rw [← e1, vw_len]
  obtain ⟨m1, m2⟩ := h0.ln.setCols m
  have hM := h0.ln' m1 (m2.mono (by simp))
  have hf0 := h0.ln.frame (m2.mono (by simp))
  have c2 := h0.ln.cells.2.2.1
  have f2 := h0.ln.blk.free 2
  have c3 := hM.ln.cells.2.2.2.1
  obtain ⟨ao, c, hlv, hnc, _⟩ := h0.ln.shape
  rw [hlv] at c3
  replace hlv := Lib.hid hlv
  obtain ⟨n, hn⟩ : ∃ n, n = L.length := ⟨_, rfl⟩
  rw [← hn] at hM hll hlv c3
  have hn5 : n ≤ 1000 := by omega
  replace hn := Lib.hid hn
  replace hll := Lib.hid hll
  replace e1 := Lib.hid e1
  replace e2 := Lib.hid e2
  replace hM := Lib.hid hM
  replace hf0 := Lib.hid hf0
  clear h0 m1 m2 hnc
  go_enter Tryz.func58, Tryz.ntmps58
  go_wp2
  generalize w.setCell ⟨x, 2, none⟩ (.int .i64 m) = w0 at hM hf0 c3 ⊢
  go_loopw [15] (fun iv wr => ∃ j : Nat, j ≤ n ∧ iv = .int .i64 j ∧ Hid (∃ A, vw A = (vw (L.take j)).map (fun p => (p.1, resL p.2 m)) ∧ MidX B wr x s S.nx S.most S.kp m sv lv S.top S.bot n (fl lineC L) (A ++ L.drop j) R ∧ fl lineC A = fl lineC (L.take j) ∧ Fr B PT w wr)) (fun iv _ => n - (intOf iv).toNat)
  case atStart => exact ⟨0, Nat.zero_le _, rfl, Lib.hid ⟨[], rfl, hM.out, rfl, hf0.out⟩⟩
  case round =>
    obtain ⟨j, hj, rfl, hR⟩ := hrel
    obtain ⟨A, hvA, hMr, hfl, hfr⟩ := hR.out
    by_cases hlt : j < n
    · have hjI : (j : Int) < (n : Int) := by omega
      have hjL : j < L.length := by have := hn.out; omega
      obtain ⟨g, c', ee, q0, q1⟩ := hMr.ln.elem hn.out hjL
      rw [hlv.out] at ee
      simp only [Value.slice.injEq] at ee
      obtain ⟨rfl, _, rfl⟩ := ee
      have hdrop : L.drop j = L[j] :: L.drop (j + 1) := List.drop_eq_getElem_cons hjL
      have htake : L.take (j + 1) = L.take j ++ [L[j]] := by rw [List.take_add_one, List.getElem?_eq_getElem hjL]; rfl
      rw [hdrop] at hMr
      generalize L[j] = e0 at q0 q1 hMr hdrop htake
      have hbw : Below wr.heap.size wr (wr.alloc (.cells #[.int .i64 e0.id, .pointer (some ⟨e0.d, 0, none⟩)] 109)) := below_new wr _
      have hrr := res_row (hMr.below hbw) m h1 h2
      have hfin := fun w3 (e' : En) (g1 : e'.id = e0.id) (g2 : e'.d = e0.d) (g3 : e'.l = resL e0.l m) (g4 : MidX B w3 x s S.nx S.most S.kp m sv lv S.top S.bot n (fl lineC L) (A ++ e' :: L.drop (j + 1)) R) (g5 : Fr B PT (wr.alloc (.cells #[.int .i64 e0.id, .pointer (some ⟨e0.d, 0, none⟩)] 109)) w3) => (⟨A ++ [e'], by rw [htake]; simp only [vw, List.map_append, List.map_cons, List.map_nil, g1, g3] at hvA ⊢; rw [hvA], by rw [List.append_assoc]; exact g4, by rw [fl_app, fl_one, htake, fl_app, fl_one, hfl, lineC_eq g1 g2], hfr.trans ((Fr.of_below hbw).trans g5)⟩ : ∃ A, vw A = (vw (L.take (j + 1))).map (fun p => (p.1, resL p.2 m)) ∧ MidX B w3 x s S.nx S.most S.kp m sv lv S.top S.bot n (fl lineC L) (A ++ L.drop (j + 1)) R ∧ fl lineC A = fl lineC (L.take (j + 1)) ∧ Fr B PT w w3)
      replace hfin := Lib.hid hfin
      replace hrr := Lib.hid hrr
      clear hMr hfr hvA hfl hR hdrop htake hbw
      go_wp2_with (first
        | (go_at_call 82; (with_reducible refine hrr.out.mono ?_); rintro r w3 ⟨⟨v3, rfl⟩, e', g1, g2, g3, g4, g5⟩))
      have hres := Lib.hid (hfin.out _ e' g1 g2 g3 g4 g5)
      clear g1 g2 g3 g4 g5
      go_roundw
      case rel => exact ⟨j + 1, by omega, by go_num, hres⟩
      case measure => simp [intOf]; omega
    · obtain rfl : j = n := by omega
      have hno := hn.out
      subst hno
      rw [List.drop_length, List.append_nil] at hMr
      rw [List.take_length] at hvA hfl
      have hAl : A.length = L.length := by
        have := congrArg List.length hvA
        simpa [vw_len] using this
      have hres := Lib.hid (⟨⟨sv, lv, A, R, by rw [hfl, hAl]; exact hMr, by rw [hvA, e1.out]; rfl, e2.out⟩, hfr⟩ : SC B wr x s (wideS S m) ∧ Fr B PT w wr)
      clear hMr hvA hfl hfr hR
      go_wp2
      go_end0
      exact ⟨⟨_, rfl⟩, hres.out⟩
end
end Go.Proofs.YtaoegfdaemmogaaGreat.Scn
