/-
  A range over a method's value ('for x := range x.all { .. }'): the loop's record, one round, and the statement; for the fence that lets all in.
-/
import Derived.RangeFuncNested
import Derived.RangeFuncBound
import Derived.RangeFuncCalls
import Derived.RangeFuncLeaves
import Derived.Test.YtkaeicaidomghaaMem3
namespace Go.Proofs.Ytkaeicaidomghaa.Tpd
open Go Go.RowKit
variable {P : Program} {n : Nat}

/-- The record of a loop of the activation a of fn, whose deferred calls' block is D. -/
def recOf (fn : FuncId) (a : Go.Act) (ps : Array Tmp) (assign body : Code) (D : Nat) (st : LoopState) (pe : Option Code) : Loop :=
  { state := st, pending := pe, fn := fn, tmps := a.tmps, params := ps, assign := assign, body := body, defers := D }
/-- A loop under way: its record lies behind its deferred calls' block, which is empty. -/
def Way (D : Nat) (L : Loop) (W : World) : Prop := W.heap[D + 1]? = some (.loop L) ∧ W.heap[D]? = some (.deferred (some []))
theorem Way.lt {D : Nat} {L : Loop} {W : World} (h : Way D L W) : D + 1 < W.heap.size := (Array.getElem?_eq_some_iff.1 h.1).1
theorem Way.put {D : Nat} {L : Loop} {W : World} (h : Way D L W) (L' : Loop) : Way D L' (W.putObj (D + 1) (.loop L')) :=
  ⟨World.putObj_heap_same h.lt, (World.putObj_heap_other (by omega)).trans h.2⟩
theorem Way.keep {D : Nat} {L : Loop} {W W' : World} (h : Way D L W) (hk : KeepsFrom D W W') : Way D L W' :=
  ⟨hk.same _ _ (by omega) h.1 rfl, hk.same _ _ (Nat.le_refl _) h.2 rfl⟩
theorem Way.grow {D : Nat} {L : Loop} {W W' : World} (h : Way D L W) (hg : W.grownBy W' none) : Way D L W' :=
  ⟨(hg.block _ (Array.getElem?_eq_some_iff.1 h.1).1 (by simp)).trans h.1, (hg.block _ (Array.getElem?_eq_some_iff.1 h.2).1 (by simp)).trans h.2⟩
theorem Way.begun (w : World) (L : Loop) : Way w.heap.size L ((w.alloc (.deferred (some []))).alloc (.loop L)) := by
  have h := World.alloc_heap_new (w.alloc (.deferred (some []))) (.loop L)
  rw [World.size_alloc] at h
  exact ⟨h, (Below.heap_alloc _ _ _ (by simp)).trans (World.alloc_heap_new w _)⟩

/-- What an iterator promises that is a method's value: rv is its receiver. -/
def Hands {α : Type} (n : Nat) (P : Program) (g : Nat) (rv : Array Value) (encs : α → Array Value) (Kp : World → World → Prop) (S Sp : List α → Prop) (ok : List α → α → Prop) (w : World) : Prop :=
  ∀ (l : Nat) (J Jx : List α → World → Prop) (W : World), Below w.heap.size w W → (∀ pre A B, J pre A → A.grownBy B none → J pre B) → (∀ pre A B, Jx pre A → A.grownBy B none → Jx pre B) →
    (∀ pre x A, J pre A → ok pre x → YieldAt .wide (n - 1) P l (encs x) A fun e B => (e = .returned (.bool true) ∧ J (pre ++ [x]) B ∧ Kp A B) ∨ (e = .returned (.bool false) ∧ Jx (pre ++ [x]) B)) →
    J [] W → CallsIn .wide n P g (rv ++ #[.func (.yield l) #[] #[]]) W fun e B => (∃ v, e = .returned v) ∧ ((∃ xs, S xs ∧ J xs B) ∨ (∃ pre, Sp pre ∧ Jx pre B))

section law
variable {α : Type} {g : Operand} {ps : Array Tmp} {assign body : Code} {Q : Exit → Go.Act → World → Prop} {a : Go.Act} {w : World}
/-- One round, by the walks of what it assigns and of its body. -/
theorem one_round {fn : FuncId} {D : Nat} {args : Array Value} {W : World} {Kp : World → World → Prop} {I : List α → World → Prop} {Ix : Code → List α → World → Prop} {xs : List α} {A1 : Go.Act → World → Prop}
    (hw : Way D (recOf fn a ps assign body D .ready none) W) (hps : args.size = ps.size)
    (hKt : ∀ {A B C : World}, Kp A B → Kp B C → Kp A C) (hKb : ∀ (W : World) (l : Nat) (o o' : Obj), D ≤ l → W.heap[l]? = some o → o.isCells = false → o.isWalk = false → Kp W (W.putObj l o'))
    (hI : ∀ xs, OwnFrom D (fun (_ : Unit) W => I xs W)) (hIx : ∀ c xs, OwnFrom D (fun (_ : Unit) W => Ix c xs W)) (hA : ∀ a1, OwnFrom D (fun (_ : Unit) W => A1 a1 W))
    (hassign : assign.wpIn (Fence.wide.inRound (D + 1)) n P (Exit.then (fun a1 W1 => A1 a1 W1 ∧ KeepsFrom D W W1 ∧ Kp W W1) (fun _ _ _ => False)) { tmps := (ps.zip args).foldl (fun t (p, v) => t.setIfInBounds p v) a.tmps, defers := [] } W)
    (hbody : ∀ a1 W0, A1 a1 W0 → body.wpIn (Fence.wide.inRound (D + 1)) n P (ownPostG D Kp I Ix xs W0) a1 W0) :
    YieldAt .wide n P (D + 1) args W fun e B => (e = .returned (.bool true) ∧ (I xs B ∧ Way D (recOf fn a ps assign body D .ready none) B) ∧ Kp W B) ∨
      (e = .returned (.bool false) ∧ ∃ c, Ix c xs B ∧ Way D (recOf fn a ps assign body D .done (some c)) B) := by
  refine ⟨fn, _, assign, body, run_yield hw.1 hps, roundIn_of_wpIn trivial (wpIn_mono hassign ?_)⟩
  rintro e1 a1 W1 hp1
  cases e1 with
  | ret => exact hp1.elim
  | exit id => exact hp1.elim
  | goto t => exact hp1.elim
  | panic ch => exact hp1.elim
  | outgrown => exact hp1.elim
  | normal =>
    obtain ⟨ha1, hf1, hp1⟩ := (hp1 : A1 a1 W1 ∧ KeepsFrom D W W1 ∧ Kp W W1)
    have hw1 := hw.keep hf1
    refine ⟨_, run_beginRound hw1.1 rfl, ?_⟩
    have h2 := hw1.put (recOf fn a ps assign body D .busy none)
    have hk2 : Kp W (W1.putObj (D + 1) (.loop (recOf fn a ps assign body D .busy none))) := hKt hp1 (hKb _ _ _ _ (by omega) hw1.1 rfl rfl)
    have away : ∀ (c : Code) (W3 : World), KeepsFrom D (W1.putObj (D + 1) (.loop (recOf fn a ps assign body D .busy none))) W3 → Ix c xs W3 → ∃ v B, (Instr.endRound (D + 1) (some c)).run P W3 = .ok v B ∧
        ((Ending.returned v = .returned (.bool true) ∧ (I xs B ∧ Way D (recOf fn a ps assign body D .ready none) B) ∧ Kp W B) ∨ (Ending.returned v = .returned (.bool false) ∧ ∃ c, Ix c xs B ∧ Way D (recOf fn a ps assign body D .done (some c)) B)) := fun c W3 hk hi =>
      ⟨_, _, run_endRound (some c) (h2.keep hk).1, .inr ⟨rfl, c, (hIx c xs).putObj (s := ()) _ hi (by omega) (h2.keep hk).1 rfl, (h2.keep hk).put _⟩⟩
    refine wpIn_mono (hbody a1 _ ((hA a1).putObj (s := ()) _ ha1 (by omega) hw1.1 rfl)) ?_
    rintro e a3 W3 hp
    cases e with
    | normal =>
      obtain ⟨hk, hkp, hi⟩ := hp
      have h3 := h2.keep hk
      exact ⟨_, _, run_endRound none h3.1, .inl ⟨rfl, ⟨(hI xs).putObj (s := ()) _ hi (by omega) h3.1 rfl, h3.put _⟩, hKt (hKt hk2 hkp) (hKb _ _ _ _ (by omega) h3.1 rfl rfl)⟩⟩
    | ret => exact away _ W3 hp.1 hp.2
    | exit id => exact away _ W3 hp.1 hp.2
    | goto t => exact away _ W3 hp.1 hp.2
    | panic ch => exact hp.elim
    | outgrown => exact hp.elim

/-- The statement. -/
theorem range_meth {gf : Nat} {rv : Array Value} (hg : a.eval g = .func (.func gf) rv #[]) (eg : ∀ args w, (callFunc gf args).run P w = .ok (.enter gf args) w)
    {encs : α → Array Value} {Kp : World → World → Prop} {S Sp : List α → Prop} {ok : List α → α → Prop} (hseq : Hands (n - 1) P gf rv encs Kp S Sp ok w) (hps : ∀ x, (encs x).size = ps.size)
    (hKt : ∀ {A B C : World}, Kp A B → Kp B C → Kp A C) (hKb : ∀ (W : World) (l : Nat) (o o' : Obj), w.heap.size ≤ l → W.heap[l]? = some o → o.isCells = false → o.isWalk = false → Kp W (W.putObj l o'))
    (I : List α → World → Prop) (Ix : Code → List α → World → Prop) (hI : ∀ xs, OwnFrom w.heap.size (fun (_ : Unit) W => I xs W)) (hIx : ∀ c xs, OwnFrom w.heap.size (fun (_ : Unit) W => Ix c xs W)) (h0 : I [] w)
    (A1 : List α → α → Go.Act → World → Prop) (hA : ∀ pre x a1, OwnFrom w.heap.size (fun (_ : Unit) W => A1 pre x a1 W))
    (hassign : ∀ (l : Nat) (pre : List α) (x : α) (W : World), I pre W → assign.wpIn (Fence.wide.inRound l) (n - 1 - 1) P (Exit.then (fun a1 W1 => A1 pre x a1 W1 ∧ KeepsFrom w.heap.size W W1 ∧ Kp W W1) (fun _ _ _ => False)) { tmps := (ps.zip (encs x)).foldl (fun t (p, v) => t.setIfInBounds p v) a.tmps, defers := [] } W)
    (hbody : ∀ (l : Nat) (pre : List α) (x : α) (a1 : Go.Act) (W : World), A1 pre x a1 W → ok pre x → body.wpIn (Fence.wide.inRound l) (n - 1 - 1) P (ownPostG w.heap.size Kp I Ix (pre ++ [x]) W) a1 W)
    (hdone : ∀ (xs : List α) (W : World), S xs → I xs W → W.heap[w.heap.size]? = some (.deferred (some [])) → Q .normal { a with defers := { target := .collected w.heap.size, args := #[] } :: a.defers } W)
    (hstop : ∀ (c : Code) (pre : List α) (W : World), Sp pre → Ix c pre W → W.heap[w.heap.size]? = some (.deferred (some [])) → c.wpIn .wide n P Q { a with defers := { target := .collected w.heap.size, args := #[] } :: a.defers } W) :
    (Code.rangeFunc g ps assign body).wpIn .wide n P Q a w := by
  refine wpIn_rangeFunc ?_
  intro fn _
  have hb := Way.begun w (recOf fn a ps assign body w.heap.size .ready none)
  have he := run_enterLoop_outer (P := P) (w := w) fn a.tmps ps assign body
  change _ = Result.ok _ ((w.alloc (.deferred (some []))).alloc (.loop (recOf fn a ps assign body w.heap.size .ready none))) at he
  have hi1 : I [] ((w.alloc (.deferred (some []))).alloc (.loop (recOf fn a ps assign body w.heap.size .ready none))) := (hI []).alloc (s := ()) _ ((hI []).alloc (s := ()) _ h0)
  have hbel : Below w.heap.size w ((w.alloc (.deferred (some []))).alloc (.loop (recOf fn a ps assign body w.heap.size .ready none))) := ((Below.refl _ w).alloc (Nat.le_refl _) _).alloc (by simp) _
  generalize (w.alloc (.deferred (some []))).alloc (.loop (recOf fn a ps assign body w.heap.size .ready none)) = W1 at hb he hi1 hbel
  refine ⟨w.heap.size + 1, [{ target := .collected w.heap.size, args := #[] }], W1, { target := .fn (.func gf) #[], args := rv ++ #[.func (.yield (w.heap.size + 1)) #[] #[]] }, W1, gf,
    rv ++ #[.func (.yield (w.heap.size + 1)) #[] #[]], W1, he, ?_, fun _ _ => trivial, ?_, (fun h => by cases h), ?_⟩
  · simp only [resolve, hg]
    simp [go_sem]
  · simp [invoke, go_sem, eg]
  refine (hseq (w.heap.size + 1) (fun pre W => I pre W ∧ Way w.heap.size (recOf fn a ps assign body w.heap.size .ready none) W)
    (fun pre W => ∃ c, Ix c pre W ∧ Way w.heap.size (recOf fn a ps assign body w.heap.size .done (some c)) W) W1 hbel
    (fun pre A B h hg' => ⟨hI pre () A B none h.1 hg' (fun r e => by cases e), h.2.grow hg'⟩) (fun pre A B h hg' => by
      obtain ⟨c, h1, h2⟩ := h
      exact ⟨c, hIx c pre () A B none h1 hg' (fun r e => by cases e), h2.grow hg'⟩) ?_ ⟨hi1, hb⟩).mono ?_
  · rintro pre x W ⟨hi, hw⟩ hlen
    exact one_round hw (hps x) hKt hKb hI hIx (hA pre x) (hassign _ pre x W hi) (fun a1 W0 h1 => hbody _ pre x a1 W0 h1 hlen)
  · rintro e W2 ⟨⟨v, rfl⟩, ⟨xs, hS, hi, hw⟩ | ⟨pre, hSp, c, hi, hw⟩⟩
    · exact ⟨none, _, run_endLoop hw.1 (by simp [recOf]), hdone xs _ hS ((hI xs).putObj (s := ()) _ hi (by omega) hw.1 rfl) ((hw.put _).2)⟩
    · exact ⟨some c, _, run_endLoop hw.1 (by simp [recOf]), hstop c pre _ hSp ((hIx c pre).putObj (s := ()) _ hi (by omega) hw.1 rfl) ((hw.put _).2)⟩
end law
end Go.Proofs.Ytkaeicaidomghaa.Tpd
