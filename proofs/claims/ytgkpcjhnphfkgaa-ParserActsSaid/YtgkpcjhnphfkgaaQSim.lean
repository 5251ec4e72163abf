/-
  The plain machine: where the sequence does not matter; which acts are told.
-/
import Derived.Test.YtgkpcjhnphfkgaaQMath
namespace Go.Proofs.Ytgkpcjhnphfkgaa.Prs
open Go.Proofs.Ytgkpcjhnphfkgaa.Par

/-- Alike but for a sequence that the state does not look at. -/
structure Sim (S T : PS) : Prop where
  st : S.st = T.st
  text : S.text = T.text
  sq : S.sq = T.sq ∨ S.st = 0 ∨ S.st = 6 ∨ 10 ≤ S.st
theorem Sim.refl (S : PS) : Sim S S := ⟨rfl, rfl, .inl rfl⟩
theorem Sim.leadA {S T : PS} (h : Sim S T) : leadA S = leadA T := by
  unfold Prs.leadA
  rw [h.st, h.text]
/-- To a state that does not look at it, or where it begins anew. -/
theorem Sim.lead {S T : PS} (h : Sim S T) {s : Int} (hs : s = 0 ∨ s = 1 ∨ s = 3 ∨ s = 6 ∨ s = 7 ∨ 10 ≤ s) : (leadF S s).1 = (leadF T s).1 ∧ Sim (leadF S s).2 (leadF T s).2 := by
  refine ⟨h.leadA, ?_, ?_, ?_⟩
  · rfl
  · simp only [leadF, leadS]
    rw [h.st, h.text]
  · simp only [leadF, leadS]
    by_cases hq : s = 1 ∨ s = 3 ∨ s = 7
    · left; rw [if_pos hq, if_pos hq]
    · right; omega
theorem Sim.execLead {S T : PS} (h : Sim S T) (r : Int) : (execLeadF S r).1 = (execLeadF T r).1 ∧ Sim (execLeadF S r).2 (execLeadF T r).2 := by
  refine ⟨?_, (h.lead (s := 0) (.inl rfl)).2⟩
  simp only [execLeadF]
  rw [h.leadA]
theorem Sim.stay {S T : PS} (h : Sim S T) (l : List Act) : ((l, S) : Stp).1 = ((l, T) : Stp).1 ∧ Sim ((l, S) : Stp).2 ((l, T) : Stp).2 := ⟨rfl, h⟩
theorem Sim.osc {S T : PS} (h : Sim S T) (r : Int) : (oscF S r).1 = (oscF T r).1 ∧ Sim (oscF S r).2 (oscF T r).2 := by
  refine ⟨rfl, ?_⟩
  simp only [oscF]
  rw [h.text]
  split
  · exact ⟨h.st, rfl, h.sq⟩
  · exact h
theorem sim_feed {S T : PS} (h : Sim S T) (r : Int) : (feedF S r).1 = (feedF T r).1 ∧ Sim (feedF S r).2 (feedF T r).2 := by
  by_cases hq : S.sq = T.sq
  · have : S = T := by
      obtain ⟨a, b, c⟩ := S
      obtain ⟨a', b', c'⟩ := T
      have h1 := h.st
      have h2 := h.text
      simp only at h1 h2 hq
      subst h1; subst h2; subst hq
      rfl
    subst this
    exact ⟨rfl, Sim.refl _⟩
  have hst : S.st = 0 ∨ S.st = 6 ∨ 10 ≤ S.st := h.sq.resolve_left hq
  unfold feedF feedN
  generalize normF r = r
  split
  · exact h.execLead r
  split
  · exact h.lead (by omega)
  split
  · unfold controlF
    rw [← h.st]
    split
    · exact h.stay _
    split
    · exact h.lead (by omega)
    · exact h.stay _
  split
  · unfold stepF
    rw [← h.st]
    split
    · exact h.stay _
    split
    · omega
    split
    · omega
    split
    · omega
    split
    · omega
    split
    · omega
    split
    · unfold csiIgnF
      split
      · exact h.stay _
      · exact h.lead (by omega)
    split
    · exact h.osc r
    · exact h.stay _
  split
  · exact h.stay _
  split
  · unfold upperF
    split
    · exact h.lead (by omega)
    split
    · exact h.lead (by omega)
    split
    · exact h.lead (by omega)
    split
    · exact h.lead (by omega)
    split
    · exact h.lead (by omega)
    · exact h.execLead r
  · unfold beyondF
    rw [← h.st]
    split
    · exact h.stay _
    split
    · exact h.osc r
    · exact h.stay _
/-- Behind a CAN. -/
theorem can_sim {S : PS} (h : S.Ok) : Sim (feedF S 24).2 start ∧ (feedF S 24).2.st = 0 := by
  have e : (feedF S 24).2 = leadS S 0 := rfl
  rw [e]
  refine ⟨⟨rfl, ?_, .inr (.inl rfl)⟩, rfl⟩
  simp only [leadS, start]
  split
  · rfl
  · exact h.out (by assumption)

/-! Which acts are told. -/
inductive Told : Act → Prop
  | print (x : Int) (h : 32 ≤ x ∧ (x < 127 ∨ 160 ≤ x)) : Told (printA x)
  | exec (x : Int) : Told (execA x)
  | esc (i : List Int) (f : Int) (h : i.length ≤ 2) : Told ⟨3, 0, 0, [], i, f, []⟩
  | csi (k p f : Int) (n i : List Int) (hk : k = 4 ∨ k = 6) (hn : n.length ≤ 32) (h : i.length ≤ 2) : Told ⟨k, 0, p, n, i, f, []⟩
  | osc (t : List Int) (h : t.length ≤ 1024) : Told (oscA t)
def All (l : List Act) : Prop := ∀ a ∈ l, Told a
theorem All.nil : All [] := fun _ h => by cases h
theorem All.one {a : Act} (h : Told a) : All [a] := fun b hb => by simp at hb; subst hb; exact h
theorem All.app {l m : List Act} (h : All l) (g : All m) : All (l ++ m) := fun a ha => (List.mem_append.1 ha).elim (h a) (g a)
theorem lead_all {S : PS} (h : S.text.length ≤ 1024) : All (leadA S) := by
  unfold leadA
  split
  · exact All.one (.osc _ h)
  · exact All.nil
theorem inter_len (q : Sq) : q.inter.length ≤ 2 := by
  unfold Sq.inter
  simp
  omega
theorem acts_all {q : Sq} (hq : q.num.n.length ≤ 32) (k r : Int) (hk : (k = 3 ∧ q.pr = 0 ∧ q.num.n = []) ∨ k = 4 ∨ k = 6) : All (q.acts k r) := by
  unfold Sq.acts
  split
  · exact All.nil
  · refine All.one ?_
    rcases hk with ⟨rfl, h1, h2⟩ | hk
    · rw [h1, h2]; exact .esc _ _ (inter_len q)
    · exact .csi _ _ _ _ _ hk hq (inter_len q)
theorem finish_all {S : PS} (h : S.Ok) (k r s : Int) (hs : s = 0 ∨ s = 10) (hk : (k = 3 ∧ S.sq.pr = 0 ∧ S.sq.num.n = []) ∨ k = 4 ∨ k = 6) : All (finishF S k r s).1 := by
  have e : (leadS S s).sq = S.sq := by simp only [leadS]; rw [if_neg (by omega)]
  unfold finishF
  rw [e]
  exact (lead_all h.text).app (acts_all h.sq.num.len k r hk)
theorem escInter_all {S : PS} (h : S.Ok) (hs : S.st = 1 ∨ S.st = 2) (r : Int) : All (escInterF S r).1 := by
  unfold escInterF
  split
  · exact lead_all (S := S.take r) h.text
  · exact finish_all h _ _ _ (by omega) (.inl ⟨rfl, h.esc hs⟩)
theorem inter_all {S : PS} (h : S.Ok) (r : Int) : All (interF S r).1 := by
  unfold interF
  split
  · exact lead_all (S := S.take r) h.text
  split
  · exact lead_all h.text
  · refine finish_all h _ _ _ ?_ (.inr ?_)
    · unfold cEnd; split <;> simp
    · unfold cAct; split <;> simp
theorem param_all {S : PS} (h : S.Ok) (r : Int) : All (paramF S r).1 := by
  unfold paramF
  split
  · exact lead_all (S := S.num _) h.text
  split
  · exact lead_all (S := S.num _) h.text
  · exact inter_all h r
theorem entry_all {S : PS} (h : S.Ok) (r : Int) : All (entryF S r).1 := by
  unfold entryF
  split
  · exact lead_all (S := S.priv _) h.text
  · exact param_all h r
theorem execLead_all {S : PS} (h : S.Ok) (r : Int) : All (execLeadF S r).1 := (lead_all h.text).app (All.one (.exec r))
theorem feed_all {S : PS} (h : S.Ok) (r : Int) : All (feedF S r).1 := by
  have hl : ∀ s, All (leadF S s).1 := fun s => lead_all h.text
  unfold feedF feedN
  generalize normF r = r
  split
  · exact execLead_all h r
  split
  · exact hl _
  split
  · unfold controlF
    split
    · exact All.one (.exec r)
    split
    · exact hl _
    · exact All.nil
  split
  · unfold stepF
    split
    · exact All.one (.print r (by omega))
    split
    · unfold escapeF
      repeat' split
      all_goals first | exact hl _ | exact escInter_all h (by omega) r
    split
    · exact escInter_all h (by omega) r
    split
    · exact entry_all h r
    split
    · exact param_all h r
    split
    · exact inter_all h r
    split
    · unfold csiIgnF
      split
      · exact All.nil
      · exact hl _
    split
    · exact All.nil
    · exact All.nil
  split
  · exact All.nil
  split
  · unfold upperF
    repeat' split
    all_goals first | exact hl _ | exact execLead_all h r
  · unfold beyondF
    split
    · exact All.one (.print r (by omega))
    split
    · exact All.nil
    · exact All.nil
theorem ground_print {S : PS} (hs : S.st = 0) {r : Int} (h0 : 160 ≤ r) (h1 : r ≤ 1114111) : (feedF S r).1 = [printA r] := by
  have e : normF r = r := if_neg (by omega)
  unfold feedF feedN beyondF
  rw [e]
  rw [if_neg (by omega), if_neg (by omega), if_neg (by omega), if_neg (by omega), if_neg (by omega), if_neg (by omega), if_pos hs]
  rfl

end Go.Proofs.Ytgkpcjhnphfkgaa.Prs
