/-
  screen: ids stay apart, and in order.
-/
import Derived.Test.YtaoegfdaemmogaaNNew
namespace Go.Proofs.Ytaoegfdaemmogaa.Scn
open Go Go.RowKit Go.Proofs.Ytaoegfdaemmogaa.Com Go.Proofs.Ytaoegfdaemmogaa.Rw Go.Proofs.Ytaoegfdaemmogaa.Lns
/-- No id twice; all are known; no more are kept than may be. -/
structure Inv (S : Scr) : Prop where
  dd : (idsL (S.L ++ S.R)).Nodup
  old : ∀ p ∈ S.L ++ S.R, 1 ≤ p.1 ∧ p.1 < S.nx
  most : S.R.length ≤ S.most
  pos : 1 ≤ S.nx
theorem idsL_app (A C : List Ln) : idsL (A ++ C) = idsL A ++ idsL C := List.map_append
theorem pushL_sub {α : Type} (most : Nat) (R : List α) (x : α) : (pushL most R x).Sublist (R ++ [x]) := by
  unfold pushL
  split
  · exact List.drop_sublist _ _
  · exact List.Sublist.refl _
theorem pushes_sub (most : Nat) (R ls : List Ln) : (pushes most R ls).Sublist (R ++ ls) := by
  induction ls generalizing R with
  | nil => simp [pushes]
  | cons x ls ih =>
    have h := (ih (pushL most R x)).trans (List.Sublist.append (pushL_sub most R x) (List.Sublist.refl ls))
    rw [List.append_assoc, List.singleton_append] at h
    exact h
theorem pushes_le {most : Nat} {R : List Ln} (h : R.length ≤ most) (ls : List Ln) : (pushes most R ls).length ≤ most := by
  induction ls generalizing R with
  | nil => exact h
  | cons x ls ih => exact ih (pushL_le h x)
theorem freshS_dd (nx cols m : Nat) (a : At) : (idsL (freshS nx cols m a)).Nodup := by
  unfold List.Nodup idsL freshS
  rw [List.map_map, List.pairwise_map]
  refine List.Pairwise.imp ?_ List.pairwise_lt_range
  intro i j hij
  show (nx : Int) + (i : Int) ≠ (nx : Int) + (j : Int)
  omega
theorem insA_perm {α : Type} (A F : List α) (i : Nat) : List.Perm (insA A i F) (F ++ A) := by
  unfold insA
  rw [← List.append_assoc]
  refine (List.Perm.append_right _ List.perm_append_comm).trans ?_
  rw [List.append_assoc, List.take_append_drop]
theorem outA_perm {α : Type} (A : List α) (f k : Nat) : List.Perm (outA A f k ++ (A.drop f).take k) A := by
  unfold outA
  rw [List.append_assoc]
  conv => rhs; rw [← List.take_append_drop f A]
  refine List.Perm.append_left _ ?_
  conv => rhs; rw [← List.take_append_drop k (A.drop f)]
  rw [List.drop_drop]
  exact List.perm_append_comm
theorem chg_R_sub (S : Scr) (f k i m : Nat) (a : At) (push : Bool) : (chg S f k i m a push).R.Sublist (S.R ++ (S.L.drop f).take k) := by
  cases push
  · exact List.sublist_append_left _ _
  · exact pushes_sub _ _ _
/-- All lines together: a part of what was there, and the fresh ones. -/
theorem chg_all (S : Scr) (f k i m : Nat) (a : At) (push : Bool) : ∃ M, List.Perm M (freshS S.nx S.cols m a ++ (S.L ++ S.R)) ∧ ((chg S f k i m a push).L ++ (chg S f k i m a push).R).Sublist M := by
  refine ⟨(chg S f k i m a push).L ++ (S.R ++ (S.L.drop f).take k), ?_, List.Sublist.append (List.Sublist.refl _) (chg_R_sub S f k i m a push)⟩
  have h1 : List.Perm ((chg S f k i m a push).L ++ (S.R ++ (S.L.drop f).take k)) (freshS S.nx S.cols m a ++ (S.L ++ S.R)) := by
    rw [chg_L]
    refine (List.Perm.append_right _ (insA_perm _ _ _)).trans ?_
    rw [List.append_assoc]
    refine List.Perm.append_left _ ?_
    refine (List.Perm.append_left _ List.perm_append_comm).trans ?_
    rw [← List.append_assoc]
    exact List.Perm.append_right _ (outA_perm _ _ _)
  exact h1
theorem chg_inv {S : Scr} (h : Inv S) (f k i m : Nat) (a : At) (push : Bool) : Inv (chg S f k i m a push) := by
  obtain ⟨M, hM, hs⟩ := chg_all S f k i m a push
  refine ⟨?_, fun p hp => ?_, ?_, Nat.le_trans h.pos (Nat.le_add_right _ _)⟩
  · have hd : (idsL (freshS S.nx S.cols m a ++ (S.L ++ S.R))).Nodup := by
      rw [idsL_app, List.nodup_append]
      refine ⟨freshS_dd _ _ _ _, h.dd, fun x hx y hy => ?_⟩
      obtain ⟨p, hp, rfl⟩ := List.mem_map.1 hx
      obtain ⟨q, hq, rfl⟩ := List.mem_map.1 hy
      have h1 := freshS_mem hp
      have h2 := h.old q hq
      show p.1 ≠ q.1
      omega
    have h3 : (idsL M).Nodup := ((hM.map _).nodup_iff).2 hd
    exact h3.sublist (hs.map _)
  · have hm : p ∈ freshS S.nx S.cols m a ++ (S.L ++ S.R) := hM.subset (hs.subset hp)
    rcases List.mem_append.1 hm with hm | hm
    · have := freshS_mem hm
      have := h.pos
      exact ⟨by omega, by show p.1 < ((S.nx + m : Nat) : Int); omega⟩
    · have := h.old p hm
      exact ⟨this.1, by show p.1 < ((S.nx + m : Nat) : Int); omega⟩
  · cases push
    · exact h.most
    · exact pushes_le h.most _
theorem idsL_wide (S : Scr) (c : Nat) : idsL (wideS S c).L = idsL S.L := by simp [idsL, wideS, List.map_map, Function.comp_def]
theorem wide_inv {S : Scr} (h : Inv S) (c : Nat) : Inv (wideS S c) := by
  have e : idsL ((wideS S c).L ++ (wideS S c).R) = idsL (S.L ++ S.R) := by
    rw [idsL_app, idsL_wide, idsL_app]
    rfl
  refine ⟨by rw [e]; exact h.dd, fun p hp => ?_, h.most, h.pos⟩
  have hp2 : p.1 ∈ idsL (S.L ++ S.R) := by
    rw [← e]
    exact List.mem_map.2 ⟨p, hp, rfl⟩
  obtain ⟨q, hq, e2⟩ := List.mem_map.1 hp2
  have := h.old q hq
  rw [e2] at this
  exact this
theorem marg_inv {S : Scr} (h : Inv S) : Inv (margS S) := ⟨h.dd, h.old, h.most, h.pos⟩
theorem res_inv {S : Scr} (h : Inv S) (rows cols y : Nat) : Inv (resS S rows cols y) := marg_inv (wide_inv (chg_inv (chg_inv h _ _ _ _ _ _) _ _ _ _ _ _) _)
theorem put_ids {S : Scr} (i : Nat) (l : List Cel) : idsL (putAt S i l).L = idsL S.L := by
  show ((S.L.modify i fun p => (p.1, l)).map (·.1)) = S.L.map (·.1)
  refine List.ext_getElem (by simp) fun j h1 h2 => ?_
  simp only [List.getElem_map, List.getElem_modify]
  split <;> rfl
/-- The old ids that are still there stand as they stood. -/
theorem chg_flt {S : Scr} {n0 : Nat} (h : n0 ≤ S.nx) (f k i m : Nat) (a : At) (push : Bool) : ((idsL (chg S f k i m a push).L).filter fun x => decide (x < (n0 : Int))).Sublist ((idsL S.L).filter fun x => decide (x < (n0 : Int))) := by
  have e : idsL (chg S f k i m a push).L = insA (outA (idsL S.L) f k) i (idsL (freshS S.nx S.cols m a)) := by
    rw [chg_L]
    unfold idsL
    rw [insA_map, outA_map]
  have hF : (idsL (freshS S.nx S.cols m a)).filter (fun x => decide (x < (n0 : Int))) = [] := by
    rw [List.filter_eq_nil_iff]
    intro x hx
    obtain ⟨p, hp, rfl⟩ := List.mem_map.1 hx
    have := freshS_mem hp
    simp
    omega
  rw [e]
  unfold insA
  rw [List.filter_append, List.filter_append, hF, List.nil_append, ← List.filter_append, List.take_append_drop]
  exact (outA_sub _ _ _).filter _
theorem res_flt {S : Scr} {n0 : Nat} (h : n0 ≤ S.nx) (rows cols y : Nat) : ((idsL (resS S rows cols y).L).filter fun x => decide (x < (n0 : Int))).Sublist ((idsL S.L).filter fun x => decide (x < (n0 : Int))) := by
  have e : idsL (resS S rows cols y).L = idsL (resB (resA S rows y) rows).L := idsL_wide (resB (resA S rows y) rows) cols
  rw [e]
  exact (chg_flt (S := resA S rows y) (by show n0 ≤ S.nx + 0; omega) _ _ _ _ _ _).trans (chg_flt h _ _ _ _ _ _)
theorem new_inv {nx most rows cols : Nat} {kp : Bool} (hn : 1 ≤ nx) : Inv (newS nx most rows cols kp []) :=
  marg_inv (chg_inv (S := { nx := nx, most := most, kp := kp, cols := cols, top := 0, bot := 0, L := [], R := [] }) ⟨by simp [idsL], by simp, by simp, hn⟩ _ _ _ _ _ _)
end Go.Proofs.Ytaoegfdaemmogaa.Scn
