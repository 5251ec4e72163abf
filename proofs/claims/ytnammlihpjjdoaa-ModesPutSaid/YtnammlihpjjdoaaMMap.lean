/-
  modes: a map whose entries are known one by one, keyed by a bool and a number: what is put into it, what a look-up finds.
-/
import Derived.Test.YtnammlihpjjdoaaProg
import Derived.Test.YtnammlihpjjdoaaMMath
import Derived.Test.YtnammlihpjjdoaaCom
import Derived.Test.YtnammlihpjjdoaaMem
import Derived.Maps.Own
import Derived.DeepKeys4
import Derived.Carry
namespace Go.Proofs.Ytnammlihpjjdoaa.Mds
open Go Go.RowKit Go.Proofs.Ytnammlihpjjdoaa.Com
open Go.Maps (Keyed)
open Go.ChangeMaps (setBlock heap_setBlock_same heap_setBlock_other)

theorem laidOut : laidOutB Try.prog = true := by kernel_rfl
theorem rowK : 44 < Try.prog.types.size := of_decide_eq_true (by kernel_rfl)
theorem wideK : (match Try.prog.underlying 44 with | some (.array _ _) | some (.struct _) => true | _ => false) = true := by kernel_rfl
theorem lawK : Keyed Try.prog 44 := Keyed.of_law (deep_law_laid laidOut (m := 2) (by omega) rowK (by kernel_rfl) wideK)
theorem keyK : Try.prog.keyType 44 = true := by kernel_rfl

theorem cK : Try.prog.cellsOf 44 = 2 := by kernel_rfl
theorem cB : Try.prog.cellsOf 4 = 1 := by kernel_rfl
theorem cI : Try.prog.cellsOf 3 = 1 := by kernel_rfl
/-- A key. -/
def kv (p : Bool) (n : Int) : Value := .agg #[.bool p, .int .i64 n]
theorem kv_inj {p q : Bool} {n k : Int} (h : kv p n = kv q k) : p = q ∧ n = k := by
  unfold kv at h
  simpa using h
theorem key_lits (p : Bool) {n : Int} (hw : (Lit.int .i64 n).wf = true) (D : Nat) : Try.prog.keyLits (D + 1 + 1) 44 [.bool p, .int .i64 n] = some [.bool p, .int .i64 n] := by
  simp [Program.keyLits, Try.underlying44, Try.underlying4, Try.underlying3, hw, cK, cB, cI]
theorem key_formed (p : Bool) (n : Int) : Value.formed Try.prog 44 (kv p n) = true := by
  simp [Value.formed, kv, Try.underlying44, cK]
theorem key_of (p : Bool) {n : Int} (hw : (Lit.int .i64 n).wf = true) : ∃ l, keyOf Try.prog 44 (kv p n) = some l := by
  obtain ⟨D, hD⟩ : ∃ D, Try.prog.types.size + 1 = D + 1 + 1 := ⟨Try.prog.types.size - 1, by have := rowK; omega⟩
  have hf := key_formed p n
  have hl := key_lits p hw D
  rw [← hD] at hl
  refine ⟨.string (keyBytes [.bool p, .int .i64 n]), ?_⟩
  unfold keyOf
  rw [Try.underlying44]
  dsimp only
  rw [keyK, hf, if_pos (by rfl)]
  have e : (kv p n).cells.toList = [.bool p, .int .i64 n] := rfl
  rw [e, hl]
  rfl

/-- An entry: its key, the function that is put there. -/
structure En where
  p : Bool
  n : Int
  f : Nat
def ents : Nat → List En → List MapEntry
  | _, [] => []
  | i, e :: r => ⟨kv e.p e.n, .func (.func e.f) #[] #[], i⟩ :: ents (i + 1) r
theorem ents_snoc (i : Nat) (l : List En) (e : En) : ents i (l ++ [e]) = ents i l ++ [⟨kv e.p e.n, .func (.func e.f) #[] #[], i + l.length⟩] := by
  induction l generalizing i with
  | nil => rfl
  | cons x r ih =>
    simp only [List.cons_append, ents, ih, List.length_cons]
    rw [Nat.add_right_comm, Nat.add_assoc]
theorem ents_mem {i : Nat} {l : List En} {y : MapEntry} (h : y ∈ ents i l) : ∃ e ∈ l, y.key = kv e.p e.n ∧ y.val = .func (.func e.f) #[] #[] := by
  induction l generalizing i with
  | nil => simp [ents] at h
  | cons x r ih =>
    rcases List.mem_cons.1 h with rfl | h
    · exact ⟨x, List.mem_cons_self, rfl, rfl⟩
    · obtain ⟨e, he, h2⟩ := ih h
      exact ⟨e, List.mem_cons_of_mem _ he, h2⟩
theorem mem_ents {i : Nat} {l : List En} {e : En} (h : e ∈ l) : ∃ y ∈ ents i l, y.key = kv e.p e.n := by
  induction l generalizing i with
  | nil => simp at h
  | cons x r ih =>
    rcases List.mem_cons.1 h with rfl | h
    · exact ⟨_, List.mem_cons_self, rfl⟩
    · obtain ⟨y, hy, h2⟩ := ih (i := i + 1) h
      exact ⟨y, List.mem_cons_of_mem _ hy, h2⟩

/-- Block b is the map of these entries. -/
def Mp (w : World) (b : Nat) (l : List En) : Prop := w.heap[b]? = some (.map (ents 0 l).toArray l.length)
def Fine (l : List En) : Prop := ∀ e ∈ l, (Lit.int .i64 e.n).wf = true
theorem Mp.lt {w : World} {b : Nat} {l : List En} (h : Mp w b l) : b < w.heap.size := (Array.getElem?_eq_some_iff.1 h).1
theorem Mp.made (w : World) : Mp (w.alloc (.map #[] 0)) w.heap.size [] := heap_alloc_new w _
theorem Mp.only {L : List Nat} {w w' : World} {b : Nat} {l : List En} (h : Mp w b l) (ho : Only L w w') (hb : b ∉ L) : Mp w' b l := (ho.block b h.lt hb).trans h
theorem keys_of {l : List En} (hl : Fine l) : ∀ y ∈ (ents 0 l).toArray.toList, ∃ k, keyOf Try.prog 44 y.key = some k := by
  intro y hy
  obtain ⟨e, he, hk, -⟩ := ents_mem (by simpa using hy)
  rw [hk]
  exact key_of e.p (hl e he)

/-- A new key is put into it. -/
theorem put_new {w : World} {b : Nat} {l : List En} (h : Mp w b l) (hl : Fine l) (p : Bool) (n : Int) (hw : (Lit.int .i64 n).wf = true) (f : Nat) (hne : ∀ e ∈ l, ¬ (e.p = p ∧ e.n = n)) :
    ∃ w', (Instr.mapUpdate 41 (.map (some b)) (kv p n) (.func (.func f) #[] #[])).run Try.prog w = .ok () w' ∧ Mp w' b (l ++ [⟨p, n, f⟩]) ∧ Only [b] w w' := by
  have hb : w.heap[b]? = some (.map (ents 0 l).toArray l.length) := h
  obtain ⟨k, hk⟩ := key_of p hw
  refine ⟨setBlock w b (.map ((ents 0 l).toArray.push ⟨kv p n, .func (.func f) #[] #[], l.length⟩) (l.length + 1)), ?_, ?_, ?_⟩
  · rcases lawK.find w hk (ents 0 l).toArray.toList (keys_of hl) with ⟨h1, -⟩ | ⟨j, e0, h1, h2, h3⟩
    · have h1' : (Instr.findKey 44 (kv p n) (ents 0 l)).run Try.prog w = .ok none w := by simpa using h1
      simp [Instr.mapUpdate, run_underlying Try.underlying41, MapKept.run_getObj_map hb, lawK.check w false hk, h1', MapKept.run_setObj_map _ hb, Result.andThen, setBlock]
    · exfalso
      obtain ⟨e, he, hke, -⟩ := ents_mem (by simpa using List.mem_of_getElem? h2)
      obtain ⟨q1, q2⟩ := kv_inj (hke.symm.trans h3)
      exact hne e he ⟨q1, q2⟩
  · have := heap_setBlock_same hb (.map ((ents 0 l).toArray.push ⟨kv p n, .func (.func f) #[] #[], l.length⟩) (l.length + 1))
    unfold Mp
    rw [this, ents_snoc]
    simp
  · exact ⟨rfl, rfl, rfl, by simp [setBlock], fun i _ hi => heap_setBlock_other hb _ (by simpa using hi)⟩

/-- What a look-up finds: an entry at that key; or there is none. -/
theorem look_any {w : World} {b : Nat} {l : List En} (h : Mp w b l) (hl : Fine l) (p : Bool) {n : Int} (hw : (Lit.int .i64 n).wf = true) :
    ((Instr.lookup 41 (.map (some b)) (kv p n) true).run Try.prog w = .ok (.tuple #[.nilFunc, .bool false]) w ∧ ∀ e ∈ l, ¬ (e.p = p ∧ e.n = n)) ∨
    ∃ e ∈ l, e.p = p ∧ e.n = n ∧ (Instr.lookup 41 (.map (some b)) (kv p n) true).run Try.prog w = .ok (.tuple #[.func (.func e.f) #[] #[], .bool true]) w := by
  have hb : w.heap[b]? = some (.map (ents 0 l).toArray l.length) := h
  obtain ⟨k, hk⟩ := key_of p hw
  have hz : (zeroValue 39).run Try.prog w = .ok .nilFunc w := by exact Try.zeroValue39 w
  rcases lawK.find w hk (ents 0 l).toArray.toList (keys_of hl) with ⟨h1, h2⟩ | ⟨j, e0, h1, h2, h3⟩
  · have h1' : (Instr.findKey 44 (kv p n) (ents 0 l)).run Try.prog w = .ok none w := by simpa using h1
    refine .inl ⟨by simp [Instr.lookup, run_underlying Try.underlying41, MapKept.run_getObj_map hb, lawK.check w _ hk, h1', hz, Result.andThen], ?_⟩
    rintro e he ⟨rfl, rfl⟩
    obtain ⟨y, hy, hky⟩ := mem_ents (i := 0) he
    exact h2 y (by simpa using hy) hky
  · have h1' : (Instr.findKey 44 (kv p n) (ents 0 l)).run Try.prog w = .ok (some (j, e0.val)) w := by simpa using h1
    obtain ⟨e, he, hke, hv⟩ := ents_mem (by simpa using List.mem_of_getElem? h2)
    obtain ⟨q1, q2⟩ := kv_inj (hke.symm.trans h3)
    refine .inr ⟨e, he, q1, q2, ?_⟩
    rw [← hv]
    simp [Instr.lookup, run_underlying Try.underlying41, MapKept.run_getObj_map hb, lawK.check w _ hk, h1', Result.andThen]

end Go.Proofs.Ytnammlihpjjdoaa.Mds
