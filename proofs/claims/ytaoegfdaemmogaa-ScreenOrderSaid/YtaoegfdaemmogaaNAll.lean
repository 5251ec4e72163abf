/-
  screen: each call, whole: what it answers and what it leaves, on both sides.
-/
import Derived.Test.YtaoegfdaemmogaaNRnw
import Derived.Test.YtaoegfdaemmogaaNInv
import Derived.Test.YtaoegfdaemmogaaNTame
namespace Go.Proofs.Ytaoegfdaemmogaa.Scn
open Go Go.RowKit Go.Proofs.Ytaoegfdaemmogaa.Com Go.Proofs.Ytaoegfdaemmogaa.Rw Go.Proofs.Ytaoegfdaemmogaa.Lns
def isIn (S : Scr) (i : Int) : Prop := (S.top : Int) ≤ i ∧ i ≤ S.bot
instance (S : Scr) (i : Int) : Decidable (isIn S i) := by unfold isIn; infer_instance
def upK (S : Scr) (n : Int) (a : At) : Scr := upS S S.top n a (S.kp && decide (S.top = 0))
def insK (S : Scr) (i n : Int) (a : At) : Scr := if isIn S i then downS S i.toNat n a else S
def delK (S : Scr) (i n : Int) (a : At) : Scr := if isIn S i then upS S i.toNat n a false else S
def inA (S : Scr) (i : Int) : Int := if isIn S i then 0 else 2
def mgK (S : Scr) (t b : Int) : Scr := if okMarg S t b then { S with top := t.toNat, bot := b.toNat } else S
def mgA (S : Scr) (t b : Int) : Int := if okMarg S t b then 0 else 2
/-- What the calls of the kinds 1 to 5 leave. -/
def doS (S : Scr) (o : Opr) : Scr :=
  if o.kind = 1 then upK S o.n o.a else if o.kind = 2 then downS S S.top o.n o.a else if o.kind = 3 then insK S o.at' o.n o.a else if o.kind = 4 then delK S o.at' o.n o.a else if o.kind = 5 then mgK S o.at' o.n else S
theorem okMarg_nat {S : Scr} {t b : Int} (hF : Fit S) (h : okMarg S t b) : 0 ≤ t ∧ 0 ≤ b ∧ t.toNat ≤ b.toNat ∧ b.toNat < S.L.length := by
  have := hF.len
  unfold okMarg at h
  omega
theorem mg_fit {S : Scr} (hF : Fit S) (t b : Int) : Fit (mgK S t b) := by
  unfold mgK
  split
  · rename_i h
    have := okMarg_nat hF h
    exact ⟨hF.len, hF.len5, this.2.2.2, this.2.2.1, hF.c1, hF.c5, hF.wid, hF.ids, hF.pos⟩
  · exact hF
theorem doS_fit {S : Scr} (hF : Fit S) (o : Opr) : Fit (doS S o) := by
  unfold doS
  repeat' split
  · exact hF.up hF.top _ _ _
  · exact hF.down hF.top _ _
  · unfold insK
    split
    · rename_i h
      unfold isIn at h
      exact hF.down (by omega) _ _
    · exact hF
  · unfold delK
    split
    · rename_i h
      unfold isIn at h
      exact hF.up (by omega) _ _ _
    · exact hF
  · exact mg_fit hF _ _
  · exact hF
theorem doS_inv {S : Scr} (h : Inv S) (o : Opr) : Inv (doS S o) := by
  unfold doS
  repeat' split
  · exact chg_inv h _ _ _ _ _ _
  · exact chg_inv h _ _ _ _ _ _
  · unfold insK
    split
    · exact chg_inv h _ _ _ _ _ _
    · exact h
  · unfold delK
    split
    · exact chg_inv h _ _ _ _ _ _
    · exact h
  · unfold mgK
    split
    · exact ⟨h.dd, h.old, h.most, h.pos⟩
    · exact h
  · exact h
theorem doS_flt {S : Scr} (o : Opr) : ((idsL (doS S o).L).filter fun x => decide (x < (S.nx : Int))).Sublist ((idsL S.L).filter fun x => decide (x < (S.nx : Int))) := by
  have hr : ((idsL S.L).filter fun x => decide (x < (S.nx : Int))).Sublist ((idsL S.L).filter fun x => decide (x < (S.nx : Int))) := List.Sublist.refl _
  unfold doS
  repeat' split
  · exact chg_flt (Nat.le_refl _) _ _ _ _ _ _
  · exact chg_flt (Nat.le_refl _) _ _ _ _ _ _
  · unfold insK
    split
    · exact chg_flt (Nat.le_refl _) _ _ _ _ _ _
    · exact hr
  · unfold delK
    split
    · exact chg_flt (Nat.le_refl _) _ _ _ _ _ _
    · exact hr
  · unfold mgK
    split
    · exact hr
    · exact hr
  · exact hr
section
variable {B : Nat} {w w' : World} {x s r q : Nat} {S : Scr}
theorem RC.fr {B' : Nat} {ts : List TypeId} (h : RC B w r q S) (hf : Fr B' ts w w') (hn : NoRT ts) : RC B w' r q S := by
  obtain ⟨rv, lv, L, R, h1, h2, h3⟩ := h
  exact ⟨rv, lv, L, R, h1.fr hf hn, h2, h3⟩
theorem noPT : NoRT PT := by
  unfold NoRT RT PT
  decide
theorem noRT : NoPT RT := by
  unfold NoPT RT PT
  decide
theorem kp_no {S : Scr} (hk : ¬ (S.kp = true ∧ S.top = 0)) : (S.kp && decide (S.top = 0)) = false ∧ (S.kp = false ∨ S.top ≠ 0) := by
  cases h : S.kp
  · simp
  · have : S.top ≠ 0 := fun e => hk ⟨h, e⟩
    simp [this]
theorem pUp_K (h : SC B w x s S) (hF : Fit S) (n : Int) (hnx : S.nx + 512 ≤ 1000000) (a : At) : Calls Try.prog 23 #[.pointer (some ⟨x, 0, none⟩), .int .i64 n, .agg #[.int .u32 a.f, .int .u32 a.b, .int .u16 a.g]] w (DidV B w x s (upK S n a) 0) := by
  unfold upK
  by_cases hk : S.kp = true ∧ S.top = 0
  · rw [show (S.kp && decide (S.top = 0)) = true by simp [hk.1, hk.2]]
    exact Up_keep h hF n hnx a hk
  · rw [(kp_no hk).1]
    exact Up_forget h hF n hnx a (kp_no hk).2
theorem pIns_K (h : SC B w x s S) (hF : Fit S) (i n : Int) (hnx : S.nx + 512 ≤ 1000000) (a : At) : Calls Try.prog 27 #[.pointer (some ⟨x, 0, none⟩), .int .i64 i, .int .i64 n, .agg #[.int .u32 a.f, .int .u32 a.b, .int .u16 a.g]] w (DidV B w x s (insK S i n a) (inA S i)) := by
  unfold insK inA
  by_cases hi : isIn S i
  · rw [if_pos hi, if_pos hi]
    unfold isIn at hi
    obtain ⟨k, rfl⟩ : ∃ k : Nat, i = k := ⟨i.toNat, by omega⟩
    exact ins_yes h hF k n (by omega) (by omega) hnx a
  · rw [if_neg hi, if_neg hi]
    exact ins_no h hF i n hi a
theorem pDel_K (h : SC B w x s S) (hF : Fit S) (i n : Int) (hnx : S.nx + 512 ≤ 1000000) (a : At) : Calls Try.prog 28 #[.pointer (some ⟨x, 0, none⟩), .int .i64 i, .int .i64 n, .agg #[.int .u32 a.f, .int .u32 a.b, .int .u16 a.g]] w (DidV B w x s (delK S i n a) (inA S i)) := by
  unfold delK inA
  by_cases hi : isIn S i
  · rw [if_pos hi, if_pos hi]
    unfold isIn at hi
    obtain ⟨k, rfl⟩ : ∃ k : Nat, i = k := ⟨i.toNat, by omega⟩
    exact del_yes h hF k n (by omega) (by omega) hnx a
  · rw [if_neg hi, if_neg hi]
    exact del_no h hF i n hi a
theorem pMg_K (h : SC B w x s S) (hF : Fit S) (t b : Int) : Calls Try.prog 21 #[.pointer (some ⟨x, 0, none⟩), .int .i64 t, .int .i64 b] w (DidV B w x s (mgK S t b) (mgA S t b)) := by
  unfold mgK mgA
  by_cases hm : okMarg S t b
  · rw [if_pos hm, if_pos hm]
    have hn := okMarg_nat hF hm
    obtain ⟨k1, rfl⟩ : ∃ k : Nat, t = k := ⟨t.toNat, by omega⟩
    obtain ⟨k2, rfl⟩ : ∃ k : Nat, b = k := ⟨b.toNat, by omega⟩
    exact setm_yes h hF k1 k2 hm
  · rw [if_neg hm, if_neg hm]
    refine (setm_no h hF t b hm).mono ?_
    rintro e w' ⟨rfl, rfl⟩
    exact ⟨rfl, h, Fr.refl _ _ _⟩
theorem rUp_K (h : RC B w r q S) (hF : Fit S) (n : Int) (hnx : S.nx + 512 ≤ 1000000) (hRm : S.R.length ≤ S.most) (hmo : S.most ≤ 10000) (a : At) : Calls Try.prog 43 #[.pointer (some ⟨r, 0, none⟩), .int .i64 n, .agg #[.int .u32 a.f, .int .u32 a.b, .int .u16 a.g]] w (RDidS B w r q (upK S n a)) := by
  unfold upK
  by_cases hk : S.kp = true ∧ S.top = 0
  · rw [show (S.kp && decide (S.top = 0)) = true by simp [hk.1, hk.2]]
    exact rUp_keep h hF n hnx hRm hmo a hk
  · rw [(kp_no hk).1]
    exact rUp_forget h hF n hnx a (kp_no hk).2
theorem rIns_K (h : RC B w r q S) (hF : Fit S) (i n : Int) (hnx : S.nx + 512 ≤ 1000000) (a : At) : Calls Try.prog 45 #[.pointer (some ⟨r, 0, none⟩), .int .i64 i, .int .i64 n, .agg #[.int .u32 a.f, .int .u32 a.b, .int .u16 a.g]] w (RDidV B w r q (insK S i n a) (inA S i)) := by
  unfold insK inA
  by_cases hi : isIn S i
  · rw [if_pos hi, if_pos hi]
    unfold isIn at hi
    obtain ⟨k, rfl⟩ : ∃ k : Nat, i = k := ⟨i.toNat, by omega⟩
    exact rins_yes h hF k n (by omega) (by omega) hnx a
  · rw [if_neg hi, if_neg hi]
    exact rins_no h i n hi a
theorem rDel_K (h : RC B w r q S) (hF : Fit S) (i n : Int) (hnx : S.nx + 512 ≤ 1000000) (a : At) : Calls Try.prog 46 #[.pointer (some ⟨r, 0, none⟩), .int .i64 i, .int .i64 n, .agg #[.int .u32 a.f, .int .u32 a.b, .int .u16 a.g]] w (RDidV B w r q (delK S i n a) (inA S i)) := by
  unfold delK inA
  by_cases hi : isIn S i
  · rw [if_pos hi, if_pos hi]
    unfold isIn at hi
    obtain ⟨k, rfl⟩ : ∃ k : Nat, i = k := ⟨i.toNat, by omega⟩
    exact rdel_yes h hF k n (by omega) (by omega) hnx a
  · rw [if_neg hi, if_neg hi]
    exact rdel_no h i n hi a
theorem rMg_K (h : RC B w r q S) (hF : Fit S) (t b : Int) : Calls Try.prog 47 #[.pointer (some ⟨r, 0, none⟩), .int .i64 t, .int .i64 b] w (RDidV B w r q (mgK S t b) (mgA S t b)) := by
  unfold mgK mgA
  by_cases hm : okMarg S t b
  · rw [if_pos hm, if_pos hm]
    have hn := okMarg_nat hF hm
    obtain ⟨k1, rfl⟩ : ∃ k : Nat, t = k := ⟨t.toNat, by omega⟩
    obtain ⟨k2, rfl⟩ : ∃ k : Nat, b = k := ⟨b.toNat, by omega⟩
    exact rsetm_yes h hF.len5 k1 k2 hm
  · rw [if_neg hm, if_neg hm]
    refine (rsetm_no h hF.len5 t b hm).mono ?_
    rintro e w' ⟨rfl, rfl⟩
    exact ⟨rfl, h, Fr.refl _ _ _⟩
end
end Go.Proofs.Ytaoegfdaemmogaa.Scn
