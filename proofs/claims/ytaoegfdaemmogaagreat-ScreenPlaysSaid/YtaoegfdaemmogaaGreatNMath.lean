/-
  screen: plain: what a screen shows, and what each call makes of it.
-/
import Derived.Test.YtaoegfdaemmogaaGreatLPush
namespace Go.Proofs.YtaoegfdaemmogaaGreat.Scn
open Go Go.Proofs.YtaoegfdaemmogaaGreat.Rw Go.Proofs.YtaoegfdaemmogaaGreat.Lns

/-- A line: its id, its cells. -/
abbrev Ln := Int × List Cel
structure Scr where
  nx : Nat
  most : Nat
  kp : Bool
  cols : Nat
  top : Nat
  bot : Nat
  L : List Ln
  R : List Ln
def vw (L : List En) : List Ln := L.map fun e => (e.id, e.l)
theorem vw_len (L : List En) : (vw L).length = L.length := List.length_map _
def freshS (nx cols m : Nat) (a : At) : List Ln := (List.range m).map fun (j : Nat) => ((nx : Int) + (j : Int), freshL cols a)
theorem freshS_len (nx cols m : Nat) (a : At) : (freshS nx cols m a).length = m := by simp [freshS]
theorem freshS_succ (nx cols m : Nat) (a : At) : freshS nx cols (m + 1) a = freshS nx cols m a ++ [((nx : Int) + (m : Int), freshL cols a)] := by simp [freshS, List.range_succ]
section
variable {α β : Type}
def outA (A : List α) (f k : Nat) : List α := A.take f ++ A.drop (f + k)
def insA (A : List α) (i : Nat) (F : List α) : List α := A.take i ++ (F ++ A.drop i)
theorem outA_len (A : List α) {f k : Nat} (h : f + k ≤ A.length) : (outA A f k).length = A.length - k := by simp [outA]; omega
theorem insA_len (A : List α) (i : Nat) (F : List α) : (insA A i F).length = A.length + F.length := by simp [insA]; omega
theorem outA_map (g : α → β) (A : List α) (f k : Nat) : (outA A f k).map g = outA (A.map g) f k := by simp [outA, List.map_take, List.map_drop]
theorem insA_map (g : α → β) (A : List α) (i : Nat) (F : List α) : (insA A i F).map g = insA (A.map g) i (F.map g) := by simp [insA, List.map_take, List.map_drop]
theorem outA_mem {A : List α} {f k : Nat} {x : α} (h : x ∈ outA A f k) : x ∈ A := by
  rcases List.mem_append.1 h with h | h
  · exact List.mem_of_mem_take h
  · exact List.mem_of_mem_drop h
theorem outA_sub (A : List α) (f k : Nat) : (outA A f k).Sublist A := by
  have : A = A.take f ++ A.drop f := (List.take_append_drop f A).symm
  conv => rhs; rw [this]
  refine List.Sublist.append (List.Sublist.refl _) ?_
  rw [← List.drop_drop]
  exact List.drop_sublist _ _
theorem outA_0 (A : List α) (f : Nat) : outA A f 0 = A := by simp [outA]
theorem insA_0 (A : List α) (i : Nat) : insA A i [] = A := by simp [insA]
end
def pushes (most : Nat) (R ls : List Ln) : List Ln := ls.foldl (pushL most) R
theorem pushes_snoc (most : Nat) (R ls : List Ln) (x : Ln) : pushes most R (ls ++ [x]) = pushL most (pushes most R ls) x := by simp [pushes]
/-- k lines from the f-th on go; then m fresh ones come from the i-th on. -/
def chg (S : Scr) (f k i m : Nat) (a : At) (push : Bool) : Scr :=
  { S with nx := S.nx + m, L := insA (outA S.L f k) i (freshS S.nx S.cols m a), R := if push then pushes S.most S.R ((S.L.drop f).take k) else S.R }
def upS (S : Scr) (frm : Nat) (n : Int) (a : At) (push : Bool) : Scr :=
  chg S frm (heldF n (S.bot + 1 - frm)) (S.bot + 1 - heldF n (S.bot + 1 - frm)) (heldF n (S.bot + 1 - frm)) a push
def downS (S : Scr) (to : Nat) (n : Int) (a : At) : Scr :=
  chg S (S.bot + 1 - heldF n (S.bot + 1 - to)) (heldF n (S.bot + 1 - to)) to (heldF n (S.bot + 1 - to)) a false
def wideS (S : Scr) (cols : Nat) : Scr := { S with cols := cols, L := S.L.map fun p => (p.1, resL p.2 cols) }
def margS (S : Scr) : Scr := { S with top := 0, bot := S.L.length - 1 }
def resA (S : Scr) (rows y : Nat) : Scr := chg S 0 (y - (rows - 1)) 0 0 zeroAt S.kp
def resB (S : Scr) (rows : Nat) : Scr := chg S (min rows S.L.length) (S.L.length - min rows S.L.length) (min rows S.L.length) (rows - min rows S.L.length) zeroAt false
def resS (S : Scr) (rows cols y : Nat) : Scr := margS (wideS (resB (resA S rows y) rows) cols)
def putAt (S : Scr) (i : Nat) (l : List Cel) : Scr := { S with L := S.L.modify i fun p => (p.1, l) }
/-- The first place that has the id, or -1. -/
def firstF (L : List Int) (x : Int) : Int := match L.findIdx? (· == x) with | some i => i | none => -1

/-- What a screen always keeps. -/
structure Fit (S : Scr) : Prop where
  len : 1 ≤ S.L.length
  len5 : S.L.length ≤ 512
  bot : S.bot < S.L.length
  top : S.top ≤ S.bot
  c1 : 1 ≤ S.cols
  c5 : S.cols ≤ 512
  wid : ∀ p ∈ S.L, p.2.length = S.cols
  ids : ∀ p ∈ S.L, 1 ≤ p.1 ∧ p.1 < S.nx
  pos : 1 ≤ S.nx
def idsL (L : List Ln) : List Int := L.map (·.1)
def idAt (L : List Ln) (i : Int) : Int := if 0 ≤ i ∧ i < L.length then ((L[i.toNat]?).map (·.1)).getD 0 else 0
theorem idAt_in {L : List Ln} {i : Nat} (h : i < L.length) : idAt L i = L[i].1 := by
  unfold idAt
  rw [if_pos (by omega)]
  simp [h]
theorem freshS_mem {nx cols m : Nat} {a : At} {p : Ln} (h : p ∈ freshS nx cols m a) : p.2.length = cols ∧ (nx : Int) ≤ p.1 ∧ p.1 < (nx : Int) + (m : Int) := by
  obtain ⟨j, hj, rfl⟩ := List.mem_map.1 h
  have := List.mem_range.1 hj
  exact ⟨freshL_len _ _, by show (nx : Int) ≤ (nx : Int) + (j : Int); omega, by show (nx : Int) + (j : Int) < _; omega⟩
theorem chg_L {S : Scr} {f k i m : Nat} {a : At} {push : Bool} : (chg S f k i m a push).L = insA (outA S.L f k) i (freshS S.nx S.cols m a) := rfl
theorem chg_len {S : Scr} {f k i m : Nat} {a : At} {push : Bool} (h : f + k ≤ S.L.length) : (chg S f k i m a push).L.length = S.L.length - k + m := by
  rw [chg_L, insA_len, outA_len _ h, freshS_len]
theorem chg_mem {S : Scr} {f k i m : Nat} {a : At} {push : Bool} {p : Ln} (h : p ∈ (chg S f k i m a push).L) : p ∈ S.L ∨ p ∈ freshS S.nx S.cols m a := by
  rw [chg_L] at h
  rcases List.mem_append.1 h with h | h
  · exact .inl (outA_mem (List.mem_of_mem_take h))
  · rcases List.mem_append.1 h with h | h
    · exact .inr h
    · exact .inl (outA_mem (List.mem_of_mem_drop h))
theorem chg_wid {S : Scr} (hF : ∀ p ∈ S.L, p.2.length = S.cols) {f k i m : Nat} {a : At} {push : Bool} : ∀ p ∈ (chg S f k i m a push).L, p.2.length = S.cols := fun p hp => by
  rcases chg_mem hp with hp | hp
  · exact hF p hp
  · exact (freshS_mem hp).1
theorem chg_ids {S : Scr} (hF : ∀ p ∈ S.L, 1 ≤ p.1 ∧ p.1 < S.nx) (hp1 : 1 ≤ S.nx) {f k i m : Nat} {a : At} {push : Bool} : ∀ p ∈ (chg S f k i m a push).L, 1 ≤ p.1 ∧ p.1 < ((S.nx + m : Nat) : Int) := fun p hp => by
  rcases chg_mem hp with hp | hp
  · have := hF p hp
    omega
  · have := freshS_mem hp
    omega
theorem held_leN (n : Int) (m : Nat) : heldF n m ≤ m := Nat.min_le_right _ _
/-- As many come as go: all fits as before. -/
theorem Fit.chg {S : Scr} (h : Fit S) {f k i : Nat} (hf : f + k ≤ S.L.length) (a : At) (push : Bool) : Fit (Scn.chg S f k i k a push) := by
  have hl := chg_len (S := S) (i := i) (m := k) (a := a) (push := push) hf
  have h1 := h.bot
  have h2 := h.len
  have h3 := h.len5
  refine ⟨by rw [hl]; omega, by rw [hl]; omega, ?_, h.top, h.c1, h.c5, chg_wid h.wid, chg_ids h.ids h.pos, Nat.le_trans h.pos (Nat.le_add_right _ _)⟩
  rw [hl]
  show S.bot < _
  omega
theorem Fit.up {S : Scr} (h : Fit S) {frm : Nat} (hf : frm ≤ S.bot) (n : Int) (a : At) (push : Bool) : Fit (upS S frm n a push) :=
  h.chg (by have := held_leN n (S.bot + 1 - frm); have := h.bot; omega) a push
theorem Fit.down {S : Scr} (h : Fit S) {to : Nat} (hf : to ≤ S.bot) (n : Int) (a : At) : Fit (downS S to n a) :=
  h.chg (by have := held_leN n (S.bot + 1 - to); have := h.bot; omega) a false
end Go.Proofs.YtaoegfdaemmogaaGreat.Scn
