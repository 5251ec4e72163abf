/-
  screen: the reference's SetMargins and New. screen: the reference's New. screen: ids stay apart, and in order. screen: each call, whole: what it answers and what it leaves, on both sides.
-/
import Derived.Test.YtaoegfdaemmogaaGreatNRdo
import Derived.Test.YtaoegfdaemmogaaGreatNDoes
import Derived.Test.YtaoegfdaemmogaaGreatNNew
import Derived.Test.YtaoegfdaemmogaaGreatNArg
namespace Go.Proofs.YtaoegfdaemmogaaGreat.Scn
open Go Go.RowKit Go.Proofs.YtaoegfdaemmogaaGreat.Com Go.Proofs.YtaoegfdaemmogaaGreat.Rw Go.Proofs.YtaoegfdaemmogaaGreat.Lns
section
variable {B : Nat} {w w' : World} {r q : Nat} {S : Scr}
theorem RC.setMarg (h : RC B w r q S) (t b : Nat) : RC B ((w.setCell ⟨r, 4, none⟩ (.int .i64 t)).setCell ⟨r, 5, none⟩ (.int .i64 b)) r q { S with top := t, bot := b } ∧ Fr B RT w ((w.setCell ⟨r, 4, none⟩ (.int .i64 t)).setCell ⟨r, 5, none⟩ (.int .i64 b)) := by
  obtain ⟨rv, lv, L, R, h, h2, h3⟩ := h
  have ho : Only [r] w ((w.setCell ⟨r, 4, none⟩ (.int .i64 t)).setCell ⟨r, 5, none⟩ (.int .i64 b)) := (Only.setCell w ⟨r, 4, none⟩ _).trans (Only.setCell _ ⟨r, 5, none⟩ _)
  have hr : ∀ k ∈ [r], Typ w k 63 := fun k hk => by
    obtain rfl : k = r := by simpa using hk
    exact h.typ
  have hrf : ∀ {d l}, RefIn B w d l → RefIn B _ d l := fun hh => RefIn.other hh ho hr (by decide) (by decide) (by decide)
  exact ⟨⟨rv, lv, L, R, ⟨(h.blk.set 4 (.int .i64 t)).set 5 (.int .i64 b), owns_only h.own ho (fun g hg => not_in1 (owns_typ h.own g hg) h.typ (by decide)), h.st.other ho hr (by decide) (by decide) (by decide) (by decide) (by decide), h.apart, fun e he => ⟨hrf (h.refs e he).1, (h.refs e he).2⟩, h.dd, h.lo, h.small⟩, h2, h3⟩, h.rfr ho⟩
theorem RC.cell3 (h : RC B w r q S) : ∃ ao c, w.cell? ⟨r, 3, none⟩ = some (.slice ao S.L.length c) := by
  obtain ⟨rv, lv, L, R, h, h2, h3⟩ := h
  obtain ⟨ao, c, e, _⟩ := owns_shape h.own
  have := h.cells.2.2.2.1
  rw [e, show L.length = S.L.length by rw [← h2, vw_len]] at this
  exact ⟨ao, c, this⟩
theorem RC.free (h : RC B w r q S) (i : Nat) : w.frozen? ⟨r, i, none⟩ = false := by
  obtain ⟨rv, lv, L, R, h, h2, h3⟩ := h
  exact h.blk.free i
set_option maxHeartbeats 1000000 in
theorem rsetm_no (h : RC B w r q S) (h5 : S.L.length ≤ 512) (t b : Int) (hno : ¬ okMarg S t b) : Calls Tryz.prog 30 #[.pointer (some ⟨r, 0, none⟩), .int .i64 t, .int .i64 b] w fun e w' => e = .returned (.int .i64 2) ∧ w = w' := by
  obtain ⟨ao, c, c3⟩ := h.cell3
  unfold okMarg at hno
  generalize S.L.length = n at c3 h5 hno
  have hw : IntKind.i64.wrap ((n : Int) - 1) = (n : Int) - 1 := IntWalk.i64_in _ (by omega)
  have hn2 := hno
  replace hno := Lib.hid hno
  clear h hn2
  go_enter Tryz.func30, Tryz.ntmps30
  go_wp2
  all_goals (first
    | (exfalso; have := hno.out; omega)
    | (exfalso; have := hno.out; simp at *; omega)
    | (go_ret; exact ⟨rfl, rfl⟩))
set_option maxHeartbeats 1000000 in
theorem rsetm_yes (h : RC B w r q S) (h5 : S.L.length ≤ 512) (t b : Nat) (hok : okMarg S t b) : Calls Tryz.prog 30 #[.pointer (some ⟨r, 0, none⟩), .int .i64 t, .int .i64 b] w (RDidV B w r q { S with top := t, bot := b } 0) := by
  obtain ⟨ao, c, c3⟩ := h.cell3
  obtain ⟨_, c4, c5⟩ := h.cells
  have f4 := h.free 4
  have f5 := h.free 5
  have hres := Lib.hid (h.setMarg t b)
  generalize ({ S with top := t, bot := b } : Scr) = S' at hres ⊢
  unfold okMarg at hok
  generalize S.L.length = n at c3 h5 hok
  have hw : IntKind.i64.wrap ((n : Int) - 1) = (n : Int) - 1 := IntWalk.i64_in _ (by omega)
  replace hok := Lib.hid hok
  clear h
  go_enter Tryz.func30, Tryz.ntmps30
  go_wp2
  all_goals (first
    | (exfalso; have := hok.out; omega)
    | (exfalso; have := hok.out; simp at *; omega)
    | (go_ret; have hr := hres.out; exact ⟨rfl, hr⟩)
    | (go_ret; have hr := hres.out; have q1 : (t : Int) = 0 := by omega
       have q2 : (b : Int) = (n : Int) - 1 := by omega
       rw [q1, q2] at hr; exact ⟨rfl, hr⟩)
    | (go_ret; have hr := hres.out; have q1 : (t : Int) = 0 := by omega
       rw [q1] at hr; exact ⟨rfl, hr⟩)
    | (go_ret; have hr := hres.out
       have q2 : (b : Int) = (n : Int) - 1 := by omega
       rw [q2] at hr; exact ⟨rfl, hr⟩))
end
end Go.Proofs.YtaoegfdaemmogaaGreat.Scn
namespace Go.Proofs.YtaoegfdaemmogaaGreat.Scn
open Go Go.RowKit Go.Proofs.YtaoegfdaemmogaaGreat.Com Go.Proofs.YtaoegfdaemmogaaGreat.Rw Go.Proofs.YtaoegfdaemmogaaGreat.Lns
section
variable {B : Nat} {w w' : World} {r q nx most cols top bot n : Nat} {kp : Bool} {rv lv v : Value} {xs : List Value} {L R O : List En}
/-- Its lines are another list. -/
theorem RmX.relist (h : RmX B w r q nx most kp cols rv lv top bot n xs L R) {B' : Nat} (hB : B ≤ B') (hown : w.ownsRow B' 71 2 v O.length (fl rlineC O)) (hap : ∀ g, v.ownBlock = some g → ¬ Hits rv g) (hs : O.Sublist L) (hn : O.length ≤ 1000) :
    RmX B (w.setCell ⟨r, 3, none⟩ v) r q nx most kp cols rv v top bot O.length (fl rlineC O) O R ∧ Fr B RT w (w.setCell ⟨r, 3, none⟩ v) := by
  have ho : Only [r] w (w.setCell ⟨r, 3, none⟩ v) := Only.setCell w ⟨r, 3, none⟩ _
  have hr : ∀ k ∈ [r], Typ w k 63 := fun k hk => by
    obtain rfl : k = r := by simpa using hk
    exact h.typ
  have hrf : ∀ {d l}, RefIn B w d l → RefIn B (w.setCell ⟨r, 3, none⟩ v) d l := fun hh => RefIn.other hh ho hr (by decide) (by decide) (by decide)
  refine ⟨⟨h.blk.set 3 v, ?_, h.st.other ho hr (by decide) (by decide) (by decide) (by decide) (by decide), hap, fun e he => ?_, ?_, h.lo, hn⟩, h.rfr ho⟩
  · exact owns_lower (owns_only hown ho (fun g hg => not_in1 (owns_typ hown g hg) h.typ (by decide))) hB
  · have := h.refs e (hs.subset he)
    exact ⟨hrf this.1, this.2⟩
  · exact h.dd.sublist ((List.Sublist.append hs (List.Sublist.refl R)).map _)
set_option maxHeartbeats 2000000 in
theorem rnew_yes (h : RX B w q nx most rv R) (hd : (R.map En.dr).Nodup) (rows : Nat) (hr1 : 1 ≤ rows) (hr5 : rows ≤ 512) (hc1 : 1 ≤ cols) (hc5 : cols ≤ 512) (hnx : nx + 512 ≤ 1000000) :
    Calls Tryz.prog 9 #[.int .i64 rows, .int .i64 cols, .pointer (some ⟨q, 0, none⟩), .bool kp] w fun e w' => e = .returned (.pointer (some ⟨w.heap.size, 0, none⟩)) ∧ RC B w' w.heap.size q (newS nx most rows cols kp (vw R)) ∧ Fr B RT w w' := by
  obtain ⟨bt, hbt⟩ : ∃ bt, bt = rows - 1 := ⟨_, rfl⟩
  have hw : IntKind.i64.wrap ((rows : Int) - 1) = (bt : Int) := by rw [show (rows : Int) - 1 = (bt : Int) by omega]; exact IntWalk.i64_in _ (by omega)
  have hBw : B ≤ w.heap.size := Nat.le_trans h.lo (Nat.le_of_lt h.blk.lt)
  have hb := below_new w (.cells #[.pointer (some ⟨q, 0, none⟩), .bool kp, .int .i64 cols, .slice none 0 0, .int .i64 0, .int .i64 bt] 63)
  have hM : RmX B (w.alloc (.cells #[.pointer (some ⟨q, 0, none⟩), .bool kp, .int .i64 cols, .slice none 0 0, .int .i64 0, .int .i64 bt] 63)) w.heap.size q nx most kp cols rv (.slice none 0 0) 0 bt 0 [] [] R :=
    ⟨Block.made w _ _, World.ownsRow_nil _ _ _ _, h.below hb, fun g hg => (by cases hg), by simp, by simpa using hd, hBw, by simp⟩
  have hh := fun g hg => (hM.st.hit g hg).2.1
  have hfr := rfresh_sc hM rows (by omega) (by omega) hc1 hc5 zeroAt
  have hfr' : Calls Tryz.prog 24 #[.pointer (some ⟨w.heap.size, 0, none⟩), .int .i64 rows, .agg #[.int .u32 0, .int .u32 0, .int .u16 0]] (w.alloc (.cells #[.pointer (some ⟨q, 0, none⟩), .bool kp, .int .i64 cols, .slice none 0 0, .int .i64 0, .int .i64 bt] 63)) (RFresh B (w.alloc (.cells #[.pointer (some ⟨q, 0, none⟩), .bool kp, .int .i64 cols, .slice none 0 0, .int .i64 0, .int .i64 bt] 63)) w.heap.size q nx most kp cols rv (.slice none 0 0) 0 bt 0 [] [] R rows zeroAt) := hfr
  have hfin : Hid (∀ v F w6, w6.ownsRow (w.alloc (.cells #[.pointer (some ⟨q, 0, none⟩), .bool kp, .int .i64 cols, .slice none 0 0, .int .i64 0, .int .i64 bt] 63)).heap.size 71 2 v rows (fl rlineC F) → vw F = freshS nx cols rows zeroAt → RmX B w6 w.heap.size q (nx + rows) most kp cols rv (.slice none 0 0) 0 bt 0 [] (F ++ []) R → Only [q] (w.alloc (.cells #[.pointer (some ⟨q, 0, none⟩), .bool kp, .int .i64 cols, .slice none 0 0, .int .i64 0, .int .i64 bt] 63)) w6 →
      RC B (w6.setCell ⟨w.heap.size, 3, none⟩ v) w.heap.size q (newS nx most rows cols kp (vw R)) ∧ Fr B RT w (w6.setCell ⟨w.heap.size, 3, none⟩ v)) := Lib.hid (fun v F w6 g1 g2 g3 g4 => by
    have hl : F.length = rows := by rw [← vw_len, g2, freshS_len]
    obtain ⟨m1, m2⟩ := g3.relist (O := F) (v := v) (B' := (w.alloc (.cells #[.pointer (some ⟨q, 0, none⟩), .bool kp, .int .i64 cols, .slice none 0 0, .int .i64 0, .int .i64 bt] 63)).heap.size) (Nat.le_trans hBw hb.size) (by rw [hl]; exact g1) (fun g hg hx => by
      have := (World.ownsRow.lt g1 g hg).1
      have := hh g hx
      omega) (by simp) (by omega)
    refine ⟨⟨rv, v, F, R, ?_, by rw [g2, newS_L], rfl⟩, ((Fr.of_below hb).trans (hM.qfr g4)).trans m2⟩
    have e : (newS nx most rows cols kp (vw R)).bot = bt := by
      show (newS nx most rows cols kp (vw R)).L.length - 1 = bt
      rw [newS_L, freshS_len, hbt]
    rw [e]
    exact m1)
  have k9 := hM.blk.cell 0 rfl
  clear hfr h hM hh hd
  replace hbt := Lib.hid hbt
  replace hb := Lib.hid hb
  replace hfr' := Lib.hid hfr'
  go_enter Tryz.func9, Tryz.ntmps9
  go_wp2_with (first
    | (go_at_call 24; (with_reducible refine hfr'.out.mono ?_); rintro r' w6 ⟨v, F, rfl, hown, hvF, hMr, ho⟩; obtain ⟨c0, c1, c2, c3, c4, c5⟩ := hMr.cells; have f3 := hMr.blk.free 3; have hres := Lib.hid (hfin.out _ _ _ hown hvF hMr ho); obtain ⟨ao, cp, rfl, _⟩ := owns_shape hown; clear hown hvF hMr ho))
  go_ret
  exact ⟨rfl, hres.out⟩
end
end Go.Proofs.YtaoegfdaemmogaaGreat.Scn
namespace Go.Proofs.YtaoegfdaemmogaaGreat.Scn
open Go Go.RowKit Go.Proofs.YtaoegfdaemmogaaGreat.Com Go.Proofs.YtaoegfdaemmogaaGreat.Rw Go.Proofs.YtaoegfdaemmogaaGreat.Lns
/-- No id twice; all are known; no more are kept than may be. -/
structure Inv (S : Scr) : Prop where
  dd : (idsL (S.L ++ S.R)).Nodup
  old : ∀ p ∈ S.L ++ S.R, 1 ≤ p.1 ∧ p.1 < S.nx
  most : S.R.length ≤ S.most
  pos : 1 ≤ S.nx
theorem idsL_app (A C : List Ln) : idsL (A ++ C) = idsL A ++ idsL C := List.map_append
theorem pushL_sub {α : Type} (most : Nat) (R : List α) (x : α) : (pushL most R x).Sublist (R ++ [x]) := by
  unfold pushL
  split
  · exact List.drop_sublist _ _
  · exact List.Sublist.refl _
theorem pushes_sub (most : Nat) (R ls : List Ln) : (pushes most R ls).Sublist (R ++ ls) := by
  induction ls generalizing R with
  | nil => simp [pushes]
  | cons x ls ih =>
    have h := (ih (pushL most R x)).trans (List.Sublist.append (pushL_sub most R x) (List.Sublist.refl ls))
    rw [List.append_assoc, List.singleton_append] at h
    exact h
theorem pushes_le {most : Nat} {R : List Ln} (h : R.length ≤ most) (ls : List Ln) : (pushes most R ls).length ≤ most := by
  induction ls generalizing R with
  | nil => exact h
  | cons x ls ih => exact ih (pushL_le h x)
theorem freshS_dd (nx cols m : Nat) (a : At) : (idsL (freshS nx cols m a)).Nodup := by
  unfold List.Nodup idsL freshS
  rw [List.map_map, List.pairwise_map]
  refine List.Pairwise.imp ?_ List.pairwise_lt_range
  intro i j hij
  show (nx : Int) + (i : Int) ≠ (nx : Int) + (j : Int)
  omega
theorem insA_perm {α : Type} (A F : List α) (i : Nat) : List.Perm (insA A i F) (F ++ A) := by
  unfold insA
  rw [← List.append_assoc]
  refine (List.Perm.append_right _ List.perm_append_comm).trans ?_
  rw [List.append_assoc, List.take_append_drop]
theorem outA_perm {α : Type} (A : List α) (f k : Nat) : List.Perm (outA A f k ++ (A.drop f).take k) A := by
  unfold outA
  rw [List.append_assoc]
  conv => rhs; rw [← List.take_append_drop f A]
  refine List.Perm.append_left _ ?_
  conv => rhs; rw [← List.take_append_drop k (A.drop f)]
  rw [List.drop_drop]
  exact List.perm_append_comm
theorem chg_R_sub (S : Scr) (f k i m : Nat) (a : At) (push : Bool) : (chg S f k i m a push).R.Sublist (S.R ++ (S.L.drop f).take k) := by
  cases push
  · exact List.sublist_append_left _ _
  · exact pushes_sub _ _ _
/-- All lines together: a part of what was there, and the fresh ones. -/
theorem chg_all (S : Scr) (f k i m : Nat) (a : At) (push : Bool) : ∃ M, List.Perm M (freshS S.nx S.cols m a ++ (S.L ++ S.R)) ∧ ((chg S f k i m a push).L ++ (chg S f k i m a push).R).Sublist M := by
  refine ⟨(chg S f k i m a push).L ++ (S.R ++ (S.L.drop f).take k), ?_, List.Sublist.append (List.Sublist.refl _) (chg_R_sub S f k i m a push)⟩
  have h1 : List.Perm ((chg S f k i m a push).L ++ (S.R ++ (S.L.drop f).take k)) (freshS S.nx S.cols m a ++ (S.L ++ S.R)) := by
    rw [chg_L]
    refine (List.Perm.append_right _ (insA_perm _ _ _)).trans ?_
    rw [List.append_assoc]
    refine List.Perm.append_left _ ?_
    refine (List.Perm.append_left _ List.perm_append_comm).trans ?_
    rw [← List.append_assoc]
    exact List.Perm.append_right _ (outA_perm _ _ _)
  exact h1
theorem chg_inv {S : Scr} (h : Inv S) (f k i m : Nat) (a : At) (push : Bool) : Inv (chg S f k i m a push) := by
  obtain ⟨M, hM, hs⟩ := chg_all S f k i m a push
  refine ⟨?_, fun p hp => ?_, ?_, Nat.le_trans h.pos (Nat.le_add_right _ _)⟩
  · have hd : (idsL (freshS S.nx S.cols m a ++ (S.L ++ S.R))).Nodup := by
      rw [idsL_app, List.nodup_append]
      refine ⟨freshS_dd _ _ _ _, h.dd, fun x hx y hy => ?_⟩
      obtain ⟨p, hp, rfl⟩ := List.mem_map.1 hx
      obtain ⟨q, hq, rfl⟩ := List.mem_map.1 hy
      have h1 := freshS_mem hp
      have h2 := h.old q hq
      show p.1 ≠ q.1
      omega
    have h3 : (idsL M).Nodup := ((hM.map _).nodup_iff).2 hd
    exact h3.sublist (hs.map _)
  · have hm : p ∈ freshS S.nx S.cols m a ++ (S.L ++ S.R) := hM.subset (hs.subset hp)
    rcases List.mem_append.1 hm with hm | hm
    · have := freshS_mem hm
      have := h.pos
      exact ⟨by omega, by show p.1 < ((S.nx + m : Nat) : Int); omega⟩
    · have := h.old p hm
      exact ⟨this.1, by show p.1 < ((S.nx + m : Nat) : Int); omega⟩
  · cases push
    · exact h.most
    · exact pushes_le h.most _
theorem idsL_wide (S : Scr) (c : Nat) : idsL (wideS S c).L = idsL S.L := by simp [idsL, wideS, List.map_map, Function.comp_def]
theorem wide_inv {S : Scr} (h : Inv S) (c : Nat) : Inv (wideS S c) := by
  have e : idsL ((wideS S c).L ++ (wideS S c).R) = idsL (S.L ++ S.R) := by
    rw [idsL_app, idsL_wide, idsL_app]
    rfl
  refine ⟨by rw [e]; exact h.dd, fun p hp => ?_, h.most, h.pos⟩
  have hp2 : p.1 ∈ idsL (S.L ++ S.R) := by
    rw [← e]
    exact List.mem_map.2 ⟨p, hp, rfl⟩
  obtain ⟨q, hq, e2⟩ := List.mem_map.1 hp2
  have := h.old q hq
  rw [e2] at this
  exact this
theorem marg_inv {S : Scr} (h : Inv S) : Inv (margS S) := ⟨h.dd, h.old, h.most, h.pos⟩
theorem res_inv {S : Scr} (h : Inv S) (rows cols y : Nat) : Inv (resS S rows cols y) := marg_inv (wide_inv (chg_inv (chg_inv h _ _ _ _ _ _) _ _ _ _ _ _) _)
theorem put_ids {S : Scr} (i : Nat) (l : List Cel) : idsL (putAt S i l).L = idsL S.L := by
  show ((S.L.modify i fun p => (p.1, l)).map (·.1)) = S.L.map (·.1)
  refine List.ext_getElem (by simp) fun j h1 h2 => ?_
  simp only [List.getElem_map, List.getElem_modify]
  split <;> rfl
/-- The old ids that are still there stand as they stood. -/
theorem chg_flt {S : Scr} {n0 : Nat} (h : n0 ≤ S.nx) (f k i m : Nat) (a : At) (push : Bool) : ((idsL (chg S f k i m a push).L).filter fun x => decide (x < (n0 : Int))).Sublist ((idsL S.L).filter fun x => decide (x < (n0 : Int))) := by
  have e : idsL (chg S f k i m a push).L = insA (outA (idsL S.L) f k) i (idsL (freshS S.nx S.cols m a)) := by
    rw [chg_L]
    unfold idsL
    rw [insA_map, outA_map]
  have hF : (idsL (freshS S.nx S.cols m a)).filter (fun x => decide (x < (n0 : Int))) = [] := by
    rw [List.filter_eq_nil_iff]
    intro x hx
    obtain ⟨p, hp, rfl⟩ := List.mem_map.1 hx
    have := freshS_mem hp
    simp
    omega
  rw [e]
  unfold insA
  rw [List.filter_append, List.filter_append, hF, List.nil_append, ← List.filter_append, List.take_append_drop]
  exact (outA_sub _ _ _).filter _
theorem res_flt {S : Scr} {n0 : Nat} (h : n0 ≤ S.nx) (rows cols y : Nat) : ((idsL (resS S rows cols y).L).filter fun x => decide (x < (n0 : Int))).Sublist ((idsL S.L).filter fun x => decide (x < (n0 : Int))) := by
  have e : idsL (resS S rows cols y).L = idsL (resB (resA S rows y) rows).L := idsL_wide (resB (resA S rows y) rows) cols
  rw [e]
  exact (chg_flt (S := resA S rows y) (by show n0 ≤ S.nx + 0; omega) _ _ _ _ _ _).trans (chg_flt h _ _ _ _ _ _)
theorem new_inv {nx most rows cols : Nat} {kp : Bool} (hn : 1 ≤ nx) : Inv (newS nx most rows cols kp []) :=
  marg_inv (chg_inv (S := { nx := nx, most := most, kp := kp, cols := cols, top := 0, bot := 0, L := [], R := [] }) ⟨by simp [idsL], by simp, by simp, hn⟩ _ _ _ _ _ _)
end Go.Proofs.YtaoegfdaemmogaaGreat.Scn
namespace Go.Proofs.YtaoegfdaemmogaaGreat.Scn
open Go Go.RowKit Go.Proofs.YtaoegfdaemmogaaGreat.Com Go.Proofs.YtaoegfdaemmogaaGreat.Rw Go.Proofs.YtaoegfdaemmogaaGreat.Lns
def isIn (S : Scr) (i : Int) : Prop := (S.top : Int) ≤ i ∧ i ≤ S.bot
instance (S : Scr) (i : Int) : Decidable (isIn S i) := by unfold isIn; infer_instance
def upK (S : Scr) (n : Int) (a : At) : Scr := upS S S.top n a (S.kp && decide (S.top = 0))
def insK (S : Scr) (i n : Int) (a : At) : Scr := if isIn S i then downS S i.toNat n a else S
def delK (S : Scr) (i n : Int) (a : At) : Scr := if isIn S i then upS S i.toNat n a false else S
def inA (S : Scr) (i : Int) : Int := if isIn S i then 0 else 2
def mgK (S : Scr) (t b : Int) : Scr := if okMarg S t b then { S with top := t.toNat, bot := b.toNat } else S
def mgA (S : Scr) (t b : Int) : Int := if okMarg S t b then 0 else 2
/-- What the calls of the kinds 1 to 5 leave. -/
def doS (S : Scr) (o : Opr) : Scr :=
  if o.kind = 1 then upK S o.n o.a else if o.kind = 2 then downS S S.top o.n o.a else if o.kind = 3 then insK S o.at' o.n o.a else if o.kind = 4 then delK S o.at' o.n o.a else if o.kind = 5 then mgK S o.at' o.n else S
theorem okMarg_nat {S : Scr} {t b : Int} (hF : Fit S) (h : okMarg S t b) : 0 ≤ t ∧ 0 ≤ b ∧ t.toNat ≤ b.toNat ∧ b.toNat < S.L.length := by
  have := hF.len
  unfold okMarg at h
  omega
theorem mg_fit {S : Scr} (hF : Fit S) (t b : Int) : Fit (mgK S t b) := by
  unfold mgK
  split
  · rename_i h
    have := okMarg_nat hF h
    exact ⟨hF.len, hF.len5, this.2.2.2, this.2.2.1, hF.c1, hF.c5, hF.wid, hF.ids, hF.pos⟩
  · exact hF
theorem doS_fit {S : Scr} (hF : Fit S) (o : Opr) : Fit (doS S o) := by
  unfold doS
  repeat' split
  · exact hF.up hF.top _ _ _
  · exact hF.down hF.top _ _
  · unfold insK
    split
    · rename_i h
      unfold isIn at h
      exact hF.down (by omega) _ _
    · exact hF
  · unfold delK
    split
    · rename_i h
      unfold isIn at h
      exact hF.up (by omega) _ _ _
    · exact hF
  · exact mg_fit hF _ _
  · exact hF
theorem doS_inv {S : Scr} (h : Inv S) (o : Opr) : Inv (doS S o) := by
  unfold doS
  repeat' split
  · exact chg_inv h _ _ _ _ _ _
  · exact chg_inv h _ _ _ _ _ _
  · unfold insK
    split
    · exact chg_inv h _ _ _ _ _ _
    · exact h
  · unfold delK
    split
    · exact chg_inv h _ _ _ _ _ _
    · exact h
  · unfold mgK
    split
    · exact ⟨h.dd, h.old, h.most, h.pos⟩
    · exact h
  · exact h
theorem doS_flt {S : Scr} (o : Opr) : ((idsL (doS S o).L).filter fun x => decide (x < (S.nx : Int))).Sublist ((idsL S.L).filter fun x => decide (x < (S.nx : Int))) := by
  have hr : ((idsL S.L).filter fun x => decide (x < (S.nx : Int))).Sublist ((idsL S.L).filter fun x => decide (x < (S.nx : Int))) := List.Sublist.refl _
  unfold doS
  repeat' split
  · exact chg_flt (Nat.le_refl _) _ _ _ _ _ _
  · exact chg_flt (Nat.le_refl _) _ _ _ _ _ _
  · unfold insK
    split
    · exact chg_flt (Nat.le_refl _) _ _ _ _ _ _
    · exact hr
  · unfold delK
    split
    · exact chg_flt (Nat.le_refl _) _ _ _ _ _ _
    · exact hr
  · unfold mgK
    split
    · exact hr
    · exact hr
  · exact hr
section
variable {B : Nat} {w w' : World} {x s r q : Nat} {S : Scr}
theorem RC.fr {B' : Nat} {ts : List TypeId} (h : RC B w r q S) (hf : Fr B' ts w w') (hn : NoRT ts) : RC B w' r q S := by
  obtain ⟨rv, lv, L, R, h1, h2, h3⟩ := h
  exact ⟨rv, lv, L, R, h1.fr hf hn, h2, h3⟩
theorem noPT : NoRT PT := by
  unfold NoRT RT PT
  decide
theorem noRT : NoPT RT := by
  unfold NoPT RT PT
  decide
theorem kp_no {S : Scr} (hk : ¬ (S.kp = true ∧ S.top = 0)) : (S.kp && decide (S.top = 0)) = false ∧ (S.kp = false ∨ S.top ≠ 0) := by
  cases h : S.kp
  · simp
  · have : S.top ≠ 0 := fun e => hk ⟨h, e⟩
    simp [this]
theorem pUp_K (h : SC B w x s S) (hF : Fit S) (n : Int) (hnx : S.nx + 512 ≤ 1000000) (a : At) : Calls Tryz.prog 13 #[.pointer (some ⟨x, 0, none⟩), .int .i64 n, .agg #[.int .u32 a.f, .int .u32 a.b, .int .u16 a.g]] w (DidV B w x s (upK S n a) 0) := by
  unfold upK
  by_cases hk : S.kp = true ∧ S.top = 0
  · rw [show (S.kp && decide (S.top = 0)) = true by simp [hk.1, hk.2]]
    exact Up_keep h hF n hnx a hk
  · rw [(kp_no hk).1]
    exact Up_forget h hF n hnx a (kp_no hk).2
theorem pIns_K (h : SC B w x s S) (hF : Fit S) (i n : Int) (hnx : S.nx + 512 ≤ 1000000) (a : At) : Calls Tryz.prog 27 #[.pointer (some ⟨x, 0, none⟩), .int .i64 i, .int .i64 n, .agg #[.int .u32 a.f, .int .u32 a.b, .int .u16 a.g]] w (DidV B w x s (insK S i n a) (inA S i)) := by
  unfold insK inA
  by_cases hi : isIn S i
  · rw [if_pos hi, if_pos hi]
    unfold isIn at hi
    obtain ⟨k, rfl⟩ : ∃ k : Nat, i = k := ⟨i.toNat, by omega⟩
    exact ins_yes h hF k n (by omega) (by omega) hnx a
  · rw [if_neg hi, if_neg hi]
    exact ins_no h hF i n hi a
theorem pDel_K (h : SC B w x s S) (hF : Fit S) (i n : Int) (hnx : S.nx + 512 ≤ 1000000) (a : At) : Calls Tryz.prog 20 #[.pointer (some ⟨x, 0, none⟩), .int .i64 i, .int .i64 n, .agg #[.int .u32 a.f, .int .u32 a.b, .int .u16 a.g]] w (DidV B w x s (delK S i n a) (inA S i)) := by
  unfold delK inA
  by_cases hi : isIn S i
  · rw [if_pos hi, if_pos hi]
    unfold isIn at hi
    obtain ⟨k, rfl⟩ : ∃ k : Nat, i = k := ⟨i.toNat, by omega⟩
    exact del_yes h hF k n (by omega) (by omega) hnx a
  · rw [if_neg hi, if_neg hi]
    exact del_no h hF i n hi a
theorem pMg_K (h : SC B w x s S) (hF : Fit S) (t b : Int) : Calls Tryz.prog 18 #[.pointer (some ⟨x, 0, none⟩), .int .i64 t, .int .i64 b] w (DidV B w x s (mgK S t b) (mgA S t b)) := by
  unfold mgK mgA
  by_cases hm : okMarg S t b
  · rw [if_pos hm, if_pos hm]
    have hn := okMarg_nat hF hm
    obtain ⟨k1, rfl⟩ : ∃ k : Nat, t = k := ⟨t.toNat, by omega⟩
    obtain ⟨k2, rfl⟩ : ∃ k : Nat, b = k := ⟨b.toNat, by omega⟩
    exact setm_yes h hF k1 k2 hm
  · rw [if_neg hm, if_neg hm]
    refine (setm_no h hF t b hm).mono ?_
    rintro e w' ⟨rfl, rfl⟩
    exact ⟨rfl, h, Fr.refl _ _ _⟩
theorem rUp_K (h : RC B w r q S) (hF : Fit S) (n : Int) (hnx : S.nx + 512 ≤ 1000000) (hRm : S.R.length ≤ S.most) (hmo : S.most ≤ 10000) (a : At) : Calls Tryz.prog 25 #[.pointer (some ⟨r, 0, none⟩), .int .i64 n, .agg #[.int .u32 a.f, .int .u32 a.b, .int .u16 a.g]] w (RDidS B w r q (upK S n a)) := by
  unfold upK
  by_cases hk : S.kp = true ∧ S.top = 0
  · rw [show (S.kp && decide (S.top = 0)) = true by simp [hk.1, hk.2]]
    exact rUp_keep h hF n hnx hRm hmo a hk
  · rw [(kp_no hk).1]
    exact rUp_forget h hF n hnx a (kp_no hk).2
theorem rIns_K (h : RC B w r q S) (hF : Fit S) (i n : Int) (hnx : S.nx + 512 ≤ 1000000) (a : At) : Calls Tryz.prog 28 #[.pointer (some ⟨r, 0, none⟩), .int .i64 i, .int .i64 n, .agg #[.int .u32 a.f, .int .u32 a.b, .int .u16 a.g]] w (RDidV B w r q (insK S i n a) (inA S i)) := by
  unfold insK inA
  by_cases hi : isIn S i
  · rw [if_pos hi, if_pos hi]
    unfold isIn at hi
    obtain ⟨k, rfl⟩ : ∃ k : Nat, i = k := ⟨i.toNat, by omega⟩
    exact rins_yes h hF k n (by omega) (by omega) hnx a
  · rw [if_neg hi, if_neg hi]
    exact rins_no h i n hi a
theorem rDel_K (h : RC B w r q S) (hF : Fit S) (i n : Int) (hnx : S.nx + 512 ≤ 1000000) (a : At) : Calls Tryz.prog 29 #[.pointer (some ⟨r, 0, none⟩), .int .i64 i, .int .i64 n, .agg #[.int .u32 a.f, .int .u32 a.b, .int .u16 a.g]] w (RDidV B w r q (delK S i n a) (inA S i)) := by
  unfold delK inA
  by_cases hi : isIn S i
  · rw [if_pos hi, if_pos hi]
    unfold isIn at hi
    obtain ⟨k, rfl⟩ : ∃ k : Nat, i = k := ⟨i.toNat, by omega⟩
    exact rdel_yes h hF k n (by omega) (by omega) hnx a
  · rw [if_neg hi, if_neg hi]
    exact rdel_no h i n hi a
theorem rMg_K (h : RC B w r q S) (hF : Fit S) (t b : Int) : Calls Tryz.prog 30 #[.pointer (some ⟨r, 0, none⟩), .int .i64 t, .int .i64 b] w (RDidV B w r q (mgK S t b) (mgA S t b)) := by
  unfold mgK mgA
  by_cases hm : okMarg S t b
  · rw [if_pos hm, if_pos hm]
    have hn := okMarg_nat hF hm
    obtain ⟨k1, rfl⟩ : ∃ k : Nat, t = k := ⟨t.toNat, by omega⟩
    obtain ⟨k2, rfl⟩ : ∃ k : Nat, b = k := ⟨b.toNat, by omega⟩
    exact rsetm_yes h hF.len5 k1 k2 hm
  · rw [if_neg hm, if_neg hm]
    refine (rsetm_no h hF.len5 t b hm).mono ?_
    rintro e w' ⟨rfl, rfl⟩
    exact ⟨rfl, h, Fr.refl _ _ _⟩
end
end Go.Proofs.YtaoegfdaemmogaaGreat.Scn
