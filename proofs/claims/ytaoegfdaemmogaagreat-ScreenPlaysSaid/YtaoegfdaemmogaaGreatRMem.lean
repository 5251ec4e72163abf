/-
  row: memory: rows of structs as one list of cells, the program's row, what a call leaves of other blocks, copy and load of structs.
-/
import Derived.Test.YtaoegfdaemmogaaGreatMem3
import Derived.Test.YtaoegfdaemmogaaGreatRMath
import Derived.Test.YtaoegfdaemmogaaGreatChecked
import Derived.Laws.CopyOwn
import Derived.WalkLawsBesides
import Derived.LoopTactic
import Derived.IntWalk
import Derived.Outline
import Derived.Deep.QuietTactic
import Derived.BigQuiet
import Derived.Deep.DeepMust
import Derived.Deep.RegionLaw
import Derived.Deep.RegionHeld3
namespace Go.Proofs.YtaoegfdaemmogaaGreat.Rw
open Go Go.RowKit Go.Proofs.YtaoegfdaemmogaaGreat.Com

/-! Lists of cells, flat. -/
def fl {α : Type} (f : α → List Value) (l : List α) : List Value := (l.map f).flatten
section
variable {α : Type} {f : α → List Value} {s : Nat}
theorem fl_nil : fl f [] = [] := rfl
theorem fl_one (a : α) : fl f [a] = f a := by simp [fl]
theorem fl_app (l m : List α) : fl f (l ++ m) = fl f l ++ fl f m := by simp [fl]
theorem fl_length (hs : ∀ a, (f a).length = s) (l : List α) : (fl f l).length = l.length * s := by
  unfold fl
  induction l with
  | nil => simp
  | cons a l ih => simp only [List.map_cons, List.flatten_cons, List.length_append, ih, hs, List.length_cons, Nat.add_mul]; omega
theorem fl_take (hs : ∀ a, (f a).length = s) (l : List α) (k : Nat) (hk : k ≤ l.length) : (fl f l).take (k * s) = fl f (l.take k) := by
  have e : fl f l = fl f (l.take k) ++ fl f (l.drop k) := by rw [← fl_app, List.take_append_drop]
  have hl : (fl f (l.take k)).length = k * s := by rw [fl_length hs, List.length_take, Nat.min_eq_left hk]
  rw [e, ← hl, List.take_left]
theorem fl_drop (hs : ∀ a, (f a).length = s) (l : List α) (k : Nat) (hk : k ≤ l.length) : (fl f l).drop (k * s) = fl f (l.drop k) := by
  have e : fl f l = fl f (l.take k) ++ fl f (l.drop k) := by rw [← fl_app, List.take_append_drop]
  have hl : (fl f (l.take k)).length = k * s := by rw [fl_length hs, List.length_take, Nat.min_eq_left hk]
  rw [e, ← hl, List.drop_left]
theorem fl_at (hs : ∀ a, (f a).length = s) {l : List α} {i j : Nat} (hi : i < l.length) (hj : j < s) : (fl f l)[i * s + j]? = (f l[i])[j]? := by
  have e : fl f l = fl f (l.take i) ++ (f l[i] ++ fl f (l.drop (i + 1))) := by
    rw [← fl_one (f := f) l[i], ← fl_app, ← fl_app, List.singleton_append, ← List.drop_eq_getElem_cons hi, List.take_append_drop]
  have hl : (fl f (l.take i)).length = i * s := by rw [fl_length hs, List.length_take, Nat.min_eq_left (by omega)]
  rw [e, List.getElem?_append_right (by omega), hl, Nat.add_sub_cancel_left, List.getElem?_append_left (by rw [hs]; exact hj)]
theorem fl_splice (hs : ∀ a, (f a).length = s) (l cs : List α) (tail : List Value) (k : Nat) (hk : k + cs.length ≤ l.length) : splice (fl f l ++ tail) (k * s) (fl f cs) = fl f (splice l k cs) ++ tail := by
  have h1 := fl_take hs l k (by omega)
  have h2 := fl_drop hs l (k + cs.length) hk
  have hl := fl_length hs l
  have hle : (k + cs.length) * s ≤ l.length * s := Nat.mul_le_mul_right s hk
  have hke : k * s ≤ l.length * s := Nat.mul_le_mul_right s (by omega)
  unfold splice
  rw [fl_length hs cs, ← Nat.add_mul, List.take_append_of_le_length (by omega), List.drop_append_of_le_length (by omega), h1, h2, fl_app, fl_app]
  simp only [List.append_assoc]
end
theorem splice_set {α : Type} (l : List α) (i : Nat) (a : α) (h : i < l.length) : splice l i [a] = l.set i a := by
  unfold splice
  rw [List.set_eq_take_append_cons_drop, if_pos h]
  rfl

/-! A cell of the program's, and an outer one. -/
def pad4 (m : List Int) : List Int := (m ++ [0, 0, 0, 0]).take 4
def attV (a : At) : List Value := [.int .u32 a.f, .int .u32 a.b, .int .u16 a.g]
def cellC (c : Cel) : List Value := .int .i32 c.r :: ((pad4 c.m).map (Value.int .i32) ++ (.int .u8 c.m.length :: .int .u8 c.wide :: attV c.a))
theorem pad4_length (m : List Int) : (pad4 m).length = 4 := by simp [pad4]
theorem cellC_length (c : Cel) : (cellC c).length = 10 := by simp [cellC, pad4_length, attV]
theorem cellC_0 (c : Cel) : (cellC c)[0]? = some (.int .i32 c.r) := rfl
theorem cellC_hi (c : Cel) (j : Nat) : (cellC c)[5 + j]? = (Value.int .u8 c.m.length :: .int .u8 c.wide :: attV c.a)[j]? := by
  unfold cellC
  rw [show 5 + j = (4 + j) + 1 by omega, List.getElem?_cons_succ, List.getElem?_append_right (by simp [pad4_length]), List.length_map, pad4_length]
  congr 1
  omega
theorem cellC_one (c : Cel) : ∀ v ∈ cellC c, v.oneCell' = true := by
  intro v hv
  simp only [cellC, attV, List.mem_cons, List.mem_append, List.mem_map, List.not_mem_nil, or_false] at hv
  rcases hv with rfl | ⟨x, _, rfl⟩ | rfl | rfl | rfl | rfl | rfl <;> rfl
theorem fl_one' {α : Type} {f : α → List Value} (h : ∀ a, ∀ v ∈ f a, v.oneCell' = true) (l : List α) : ∀ v ∈ fl f l, v.oneCell' = true := by
  intro v hv
  simp only [fl, List.mem_flatten, List.mem_map] at hv
  obtain ⟨_, ⟨a, _, rfl⟩, hv⟩ := hv
  exact h a v hv

/-- What lies at d: a row; its cells lie in block g. -/
structure RowX (w : World) (d g n cap : Nat) (tail : List Value) (l : List Cel) : Prop where
  ptr : Block w d 122 #[.slice (some ⟨g, 0, none⟩) n cap]
  row : Block w g 114 (fl cellC l ++ tail).toArray
  len : l.length = n
  le : n ≤ cap
  cap : cap ≤ maxLen
  pos : 0 < n
  small : n ≤ 512
section
variable {w w' : World} {d g n cap : Nat} {tail : List Value} {l : List Cel}
theorem RowX.slice (h : RowX w d g n cap tail l) : w.cell? ⟨d, 0, none⟩ = some (.slice (some ⟨g, 0, none⟩) n cap) := h.ptr.cell 0 rfl
theorem RowX.at' (h : RowX w d g n cap tail l) {i j : Nat} (hi : i < l.length) (hj : j < 10) {v : Value} (hv : (cellC l[i])[j]? = some v) : w.cell? ⟨g, i * 10 + j, none⟩ = some v := by
  refine h.row.cell _ ?_
  have e := fl_at cellC_length hi hj
  have hlt : i * 10 + j < (fl cellC l).length := by
    rw [fl_length cellC_length]
    have : (i + 1) * 10 ≤ l.length * 10 := Nat.mul_le_mul_right _ hi
    omega
  simp only [List.getElem?_toArray]
  rw [List.getElem?_append_left hlt, e, hv]
theorem RowX.wide (h : RowX w d g n cap tail l) {i : Nat} (hi : i < l.length) : w.cell? ⟨g, i * 10 + 6, none⟩ = some (.int .u8 l[i].wide) := h.at' hi (by omega) (cellC_hi _ 1)
theorem RowX.count (h : RowX w d g n cap tail l) {i : Nat} (hi : i < l.length) : w.cell? ⟨g, i * 10 + 5, none⟩ = some (.int .u8 l[i].m.length) := h.at' hi (by omega) (cellC_hi _ 0)
theorem RowX.fg (h : RowX w d g n cap tail l) {i : Nat} (hi : i < l.length) : w.cell? ⟨g, i * 10 + 7, none⟩ = some (.int .u32 l[i].a.f) := h.at' hi (by omega) (cellC_hi _ 2)
theorem RowX.bg (h : RowX w d g n cap tail l) {i : Nat} (hi : i < l.length) : w.cell? ⟨g, i * 10 + 8, none⟩ = some (.int .u32 l[i].a.b) := h.at' hi (by omega) (cellC_hi _ 3)
theorem RowX.gg (h : RowX w d g n cap tail l) {i : Nat} (hi : i < l.length) : w.cell? ⟨g, i * 10 + 9, none⟩ = some (.int .u16 l[i].a.g) := h.at' hi (by omega) (cellC_hi _ 4)
theorem RowX.ne (h : RowX w d g n cap tail l) : d ≠ g := Block.apart h.ptr h.row (by decide)
theorem RowX.kept {L : List Nat} (h : RowX w d g n cap tail l) (ho : Only L w w') (hd : d ∉ L) (hg : g ∉ L) : RowX w' d g n cap tail l := ⟨h.ptr.only ho hd, h.row.only ho hg, h.len, h.le, h.cap, h.pos, h.small⟩
theorem RowX.below (h : RowX w d g n cap tail l) (hb : Below w.heap.size w w') : RowX w' d g n cap tail l := h.kept (Only.of_below hb []) (by simp) (by simp)
theorem RowX.drawn (h : RowX w d g n cap tail l) : RowX w.drew d g n cap tail l := h.kept (Only.drewN [] w 1) (by simp) (by simp)
/-- The block with the cells is turned. -/
theorem RowX.turned {l' : List Cel} (h : RowX w d g n cap tail l) (ho : Only [g] w w') (hr : Block w' g 114 (fl cellC l' ++ tail).toArray) (hl : l'.length = l.length) : RowX w' d g n cap tail l' :=
  ⟨h.ptr.only ho (by simpa using h.ne), hr, hl.trans h.len, h.le, h.cap, h.pos, h.small⟩
end

/-! What a call leaves of the other blocks: old ones whose type is not among ts, or that lie below B, stay. -/
def Typ (w : World) (k : Nat) (t : TypeId) : Prop := ∃ cs fz, w.heap[k]? = some (.cells cs t fz)
theorem Block.typ {w : World} {g : Nat} {t : TypeId} {cs : Array Value} (h : Block w g t cs) : Typ w g t := ⟨cs, _, h⟩
theorem Typ.inj {w : World} {k : Nat} {t t' : TypeId} (h : Typ w k t) (h' : Typ w k t') : t = t' := by
  obtain ⟨cs, fz, h⟩ := h
  obtain ⟨cs', fz', h'⟩ := h'
  rw [h] at h'
  simp only [Option.some.injEq, Obj.cells.injEq] at h'
  exact h'.2.1
structure Fr (B : Nat) (ts : List TypeId) (w w' : World) : Prop where
  os : w'.os = w.os
  tape : w'.tape = w.tape
  output : w'.output = w.output
  size : w.heap.size ≤ w'.heap.size
  block : ∀ k, k < w.heap.size → (k < B ∨ ∀ t ∈ ts, ¬ Typ w k t) → w'.heap[k]? = w.heap[k]?
theorem Fr.refl (B : Nat) (ts : List TypeId) (w : World) : Fr B ts w w := ⟨rfl, rfl, rfl, Nat.le_refl _, fun _ _ _ => rfl⟩
theorem Fr.trans {B : Nat} {ts : List TypeId} {a b c : World} (h : Fr B ts a b) (g : Fr B ts b c) : Fr B ts a c :=
  ⟨g.os.trans h.os, g.tape.trans h.tape, g.output.trans h.output, Nat.le_trans h.size g.size, fun k hk hn => by
    have e := h.block k hk hn
    refine (g.block k (Nat.lt_of_lt_of_le hk h.size) (hn.imp id fun hn t ht hT => hn t ht ?_)).trans e
    obtain ⟨cs, fz, hT⟩ := hT
    exact ⟨cs, fz, e ▸ hT⟩⟩
theorem Fr.mono {B : Nat} {ts ts' : List TypeId} {a b : World} (h : Fr B ts a b) (hs : ∀ t ∈ ts, t ∈ ts') : Fr B ts' a b :=
  ⟨h.os, h.tape, h.output, h.size, fun k hk hn => h.block k hk (hn.imp id fun hn t ht => hn t (hs t ht))⟩
theorem Fr.of_below {B : Nat} {ts : List TypeId} {a b : World} (h : Below a.heap.size a b) : Fr B ts a b := ⟨h.os, h.tape, h.output, h.size, fun k hk _ => h.block k hk⟩
theorem Fr.below {B : Nat} {ts : List TypeId} {a b : World} (h : Fr B ts a b) (hB : B ≤ a.heap.size) : Below B a b := ⟨h.os, h.tape, h.output, h.size, fun k hk => h.block k (by omega) (.inl hk)⟩
theorem Fr.of_only {B : Nat} {ts : List TypeId} {L : List Nat} {a b : World} (h : Only L a b) (hL : ∀ k ∈ L, k < a.heap.size → B ≤ k ∧ ∃ t ∈ ts, Typ a k t) : Fr B ts a b :=
  ⟨h.os, h.tape, h.output, h.size, fun k hk hn => h.block k hk fun hm => by
    obtain ⟨h1, t, ht, hT⟩ := hL k hm hk
    rcases hn with hn | hn
    · omega
    · exact hn t ht hT⟩
theorem Block.fr {B : Nat} {ts : List TypeId} {a b : World} {g : Nat} {t : TypeId} {cs : Array Value} (h : Block a g t cs) (hf : Fr B ts a b) (ht : t ∉ ts ∨ g < B) : Block b g t cs :=
  (hf.block g h.lt (ht.symm.imp id fun ht t' ht' hT => ht (by rw [Typ.inj (Block.typ h) hT]; exact ht'))).trans h
theorem Fr.old {B : Nat} {ts : List TypeId} {a b : World} (h : Fr B ts a b) {g : Nat} (hB : B ≤ a.heap.size) (hg : g < B) : b.heap[g]? = a.heap[g]? := h.block g (by omega) (.inl hg)

/-! Copies of structs, and loads. -/
section
variable {P : Program}
theorem run_copyN (w : World) (dT sT ty elem : TypeId) (s g off dLen dCap sLen sCap : Nat) (ad : Addr) (cur : List Value) (t : TypeId) (cs : List Value) (hu : P.underlying dT = some (.slice elem)) (hs : (P.info? elem).map (·.size) = some s)
    (hg : Block w g t cur.toArray) (hn : cs.length = Nat.min sLen dLen * s) (hsrc : ∀ j v, cs[j]? = some v → w.cell? (ad.add j) = some v) (hfit : off + cs.length ≤ cur.length) (h1 : ∀ v ∈ cs, v.oneCell' = true) :
    (Builtin.copy_ #[dT, sT] ty #[.slice (some ⟨g, off, none⟩) dLen dCap, .slice (some ad) sLen sCap]).run P w = .ok (goInt (Nat.min sLen dLen)) (w.setRow g (splice cur off cs).toArray) := by
  have hl := run_loadCells_list (P := P) w ad cs hsrc
  have hst := run_storeCells_at P g off t cs 0 cur.toArray w hg (by simpa using hfit) h1
  cases hq : P.info? elem with
  | none => simp [hq] at hs
  | some i =>
    have hi : i.size = s := by simpa [hq] using hs
    simp only [Nat.add_zero] at hst
    simp [Builtin.copy_, run_underlying hu, Builtin.lenOf, Builtin.firstCells, sizeOf, typeInfo, hq, hi, ← hn, hl, hst, splice]
theorem run_copy0 (w : World) (dT sT ty elem : TypeId) (dp sp : Option Addr) (dLen dCap sLen sCap : Nat) (hu : P.underlying dT = some (.slice elem)) (hs : ∃ s, (P.info? elem).map (·.size) = some s) (hn : Nat.min sLen dLen = 0) :
    (Builtin.copy_ #[dT, sT] ty #[.slice dp dLen dCap, .slice sp sLen sCap]).run P w = .ok (goInt 0) w := by
  obtain ⟨s, hs⟩ := hs
  cases hq : P.info? elem with
  | none => simp [hq] at hs
  | some i =>
    have hl : ∀ ad, (loadCells ad 0).run P w = .ok #[] w := fun ad => run_loadCells_list (P := P) w ad [] (fun j v hj => by simp at hj)
    rcases sp with _ | sp <;> rcases dp with _ | dp <;> simp [Builtin.copy_, run_underlying hu, Builtin.lenOf, Builtin.firstCells, sizeOf, typeInfo, hq, hn, hl, storeCells]

theorem wp_copyN {o : Oper} {a : Act} {w : World} {K : Act → World → Prop} {Q : Exit → Act → World → Prop} (d x : Operand) (dT sT : TypeId)
    (ho : o.op = .call { callee := .builtin .copy, args := #[d, x], argTypes := #[dT, sT] }) (elem : TypeId) (s : Nat) (hu : P.underlying dT = some (.slice elem)) (hs : (P.info? elem).map (·.size) = some s)
    (dp sp : Option Addr) (dLen dCap sLen sCap : Nat) (hd : a.eval d = .slice dp dLen dCap) (hx : a.eval x = .slice sp sLen sCap)
    (g off : Nat) (cur : List Value) (t : TypeId) (hg : Block w g t cur.toArray) (cs : List Value) (hn : cs.length = min sLen dLen * s)
    (hpos : 0 < sLen → 0 < dLen → dp = some ⟨g, off, none⟩ ∧ ∃ ad, sp = some ad ∧ ∀ j v, cs[j]? = some v → w.cell? (ad.add j) = some v)
    (hfit : off + cs.length ≤ cur.length) (h1 : ∀ v ∈ cs, v.oneCell' = true)
    (h : ∀ w', Hid (Block w' g t (splice cur off cs).toArray) → Only [g] w w' → K (a.put o.dst (goInt (min sLen dLen : Nat))) w') : o.wp P a w K Q := by
  unfold Oper.wp
  change cs.length = Nat.min sLen dLen * s at hn
  change ∀ w', Hid (Block w' g t (splice cur off cs).toArray) → Only [g] w w' → K (a.put o.dst (goInt (Nat.min sLen dLen))) w' at h
  by_cases h0 : Nat.min sLen dLen = 0
  · have hrun := run_copy0 (P := P) w dT sT o.type elem dp sp dLen dCap sLen sCap hu ⟨s, hs⟩ h0
    simp [execOp, ho, resolve, invoke, builtin, hd, hx, hrun, Result.andThen]
    rw [h0] at hn h
    obtain rfl : cs = [] := List.eq_nil_of_length_eq_zero (by simpa using hn)
    exact h w (Lib.hid (by simpa [splice] using hg)) (Only.refl _ _)
  · obtain ⟨rfl, ad, rfl, hsrc⟩ := hpos (Nat.pos_of_ne_zero fun e => h0 (by rw [e]; exact Nat.zero_min _)) (Nat.pos_of_ne_zero fun e => h0 (by rw [e]; exact Nat.min_zero _))
    have hrun := run_copyN (P := P) w dT sT o.type elem s g off dLen dCap sLen sCap ad cur t cs hu hs hg hn hsrc hfit h1
    simp only [execOp, ho, resolve, invoke, builtin, List.map_toArray, List.map_cons, List.map_nil, hd, hx, Sem.run_bind, hrun, Result.andThen_ok, Sem.run_pure]
    exact h _ (setRow_heap w g _ _ t _ hg) (only_setRow w g _)
theorem wpList_copyN {o : Oper} {ops : Array Oper} {rest : List Oper} {a : Act} {w : World} {Q : Exit → Act → World → Prop} (hgd : o.guard = none) (d x : Operand) (dT sT : TypeId)
    (ho : o.op = .call { callee := .builtin .copy, args := #[d, x], argTypes := #[dT, sT] }) (elem : TypeId) (s : Nat) (hu : P.underlying dT = some (.slice elem)) (hs : (P.info? elem).map (·.size) = some s)
    (dp sp : Option Addr) (dLen dCap sLen sCap : Nat) (hd : a.eval d = .slice dp dLen dCap) (hx : a.eval x = .slice sp sLen sCap)
    (g off : Nat) (cur : List Value) (t : TypeId) (hg : Block w g t cur.toArray) (cs : List Value) (hn : cs.length = min sLen dLen * s)
    (hpos : 0 < sLen → 0 < dLen → dp = some ⟨g, off, none⟩ ∧ ∃ ad, sp = some ad ∧ ∀ j v, cs[j]? = some v → w.cell? (ad.add j) = some v)
    (hfit : off + cs.length ≤ cur.length) (h1 : ∀ v ∈ cs, v.oneCell' = true)
    (h : ∀ w', Hid (Block w' g t (splice cur off cs).toArray) → Only [g] w w' → wpList P ops Q rest (a.put o.dst (goInt (min sLen dLen : Nat))) w') : wpList P ops Q (o :: rest) a w :=
  wpList_plain hgd fun _ hK => wp_copyN d x dT sT ho elem s hu hs dp sp dLen dCap sLen sCap hd hx g off cur t hg cs hn hpos hfit h1 fun w' h2 h3 => hK _ _ (h w' h2 h3)
theorem step_copyN {ops : Array Oper} {o : Oper} {a : Act} {w : World} {K : Act → World → Prop} {Q : Exit → Act → World → Prop} {E : Prop} (hgd : o.guard = none) (d x : Operand) (dT sT : TypeId)
    (ho : o.op = .call { callee := .builtin .copy, args := #[d, x], argTypes := #[dT, sT] }) (elem : TypeId) (s : Nat) (hu : P.underlying dT = some (.slice elem)) (hs : (P.info? elem).map (·.size) = some s)
    (dp sp : Option Addr) (dLen dCap sLen sCap : Nat) (hd : a.eval d = .slice dp dLen dCap) (hx : a.eval x = .slice sp sLen sCap)
    (g off : Nat) (cur : List Value) (t : TypeId) (hg : Block w g t cur.toArray) (cs : List Value) (hn : cs.length = min sLen dLen * s)
    (hpos : 0 < sLen → 0 < dLen → dp = some ⟨g, off, none⟩ ∧ ∃ ad, sp = some ad ∧ ∀ j v, cs[j]? = some v → w.cell? (ad.add j) = some v)
    (hfit : off + cs.length ≤ cur.length) (h1 : ∀ v ∈ cs, v.oneCell' = true)
    (h : ∀ w', Hid (Block w' g t (splice cur off cs).toArray) → Only [g] w w' → K (a.put o.dst (goInt (min sLen dLen : Nat))) w') :
    if Region.wanted o (yielded ops a.tmps) = true then Oper.wp P o a w K Q else E := by
  rw [if_pos (by simp [Region.wanted, hgd])]
  exact wp_copyN d x dT sT ho elem s hu hs dp sp dLen dCap sLen sCap hd hx g off cur t hg cs hn hpos hfit h1 h

/-- A struct is loaded from where its cells are. -/
theorem run_loadVar_at (w : World) (ty : TypeId) (ad : Addr) (cs : List Value) (d : TypeDesc) (hc : ∀ j v, cs[j]? = some v → w.cell? (ad.add j) = some v)
    (hu : P.underlying ty = some d) (hd : (match d with | .struct _ | .array _ _ => true | _ => false) = true) (hi : (P.info? ty).map (·.size) = some cs.length) : (loadVar ty ad).run P w = .ok (.agg cs.toArray) w := by
  have hl := run_loadCells_list (P := P) w ad cs hc
  have hagg : (isAgg ty).run P w = .ok true w := by
    unfold isAgg
    rw [Sem.run_bind, run_underlying hu w]
    cases d <;> simp_all
  cases hq : P.info? ty with
  | none => simp [hq] at hi
  | some i =>
    have hs : i.size = cs.length := by simpa [hq] using hi
    simp [loadVar, Sem.run_bind, hagg, sizeOf, typeInfo, hq, hs, hl]
theorem wpList_loadAt {o : Oper} {ops : Array Oper} {rest : List Oper} {a : Act} {w : World} {Q : Exit → Act → World → Prop} (hw : Region.wanted o (yielded ops a.tmps) = true) (ty : TypeId) (x : Operand) (ho : o.op = .load ty x) (ad : Addr) (hx : a.eval x = .pointer (some ad))
    (cs : List Value) (d : TypeDesc) (hc : ∀ j v, cs[j]? = some v → w.cell? (ad.add j) = some v) (hu : P.underlying ty = some d) (hd : (match d with | .struct _ | .array _ _ => true | _ => false) = true) (hi : (P.info? ty).map (·.size) = some cs.length)
    (h : wpList P ops Q rest (a.put o.dst (.agg cs.toArray)) w) : wpList P ops Q (o :: rest) a w :=
  wpList_wanted hw fun _ hK => by
    unfold Oper.wp execOp
    simp only [ho, hx, Instr.loadAt, Instr.sureAddr, Sem.run_bind, Sem.run_pure, Result.andThen_ok, run_loadVar_at w ty ad cs d hc hu hd hi]
    exact hK _ _ h
/-- A struct is stored. -/
theorem wp_storeN {o : Oper} {a : Act} {w : World} {K : Act → World → Prop} {Q : Exit → Act → World → Prop} (ty : TypeId) (x y : Operand) (ho : o.op = .store ty x y)
    {g i : Nat} {t : TypeId} {cur : List Value} (hb : Block w g t cur.toArray) (vs : List Value) (hx : a.eval x = .pointer (some ⟨g, i, none⟩)) (hy : a.eval y = .agg vs.toArray) (hi : i + vs.length ≤ cur.length) (hinfo : (P.info? ty).map (·.size) = some vs.length) (h1 : ∀ v ∈ vs, v.oneCell' = true)
    (h : ∀ w', Hid (Block w' g t (splice cur i vs).toArray) → Only [g] w w' → K (a.put o.dst undef) w') : o.wp P a w K Q := by
  have hrun := run_storeCells_at P g i t vs 0 cur.toArray w hb (by simpa using hi) h1
  cases hq : P.info? ty with
  | none => simp [hq] at hinfo
  | some j =>
    have hs : j.size = vs.length := by simpa [hq] using hinfo
    have hc : (Value.agg vs.toArray).cells = vs.toArray := rfl
    simp only [Nat.add_zero] at hrun
    unfold Oper.wp execOp
    simp [ho, hx, hy, Instr.storeAt, Instr.sureAddr, Sem.run_bind, Sem.run_pure, storeVar, sizeOf, typeInfo, hq, hc, hs, hrun]
    exact h _ (Lib.hid (by simpa [splice, Block] using setRow_heap w g _ _ t _ hb)) (only_setRow w g _)
theorem wpList_storeN {o : Oper} {ops : Array Oper} {rest : List Oper} {a : Act} {w : World} {Q : Exit → Act → World → Prop} (hgd : o.guard = none) (ty : TypeId) (x y : Operand) (ho : o.op = .store ty x y)
    {g i : Nat} {t : TypeId} {cur : List Value} (hb : Block w g t cur.toArray) (vs : List Value) (hx : a.eval x = .pointer (some ⟨g, i, none⟩)) (hy : a.eval y = .agg vs.toArray) (hi : i + vs.length ≤ cur.length) (hinfo : (P.info? ty).map (·.size) = some vs.length) (h1 : ∀ v ∈ vs, v.oneCell' = true)
    (h : ∀ w', Hid (Block w' g t (splice cur i vs).toArray) → Only [g] w w' → wpList P ops Q rest (a.put o.dst undef) w') : wpList P ops Q (o :: rest) a w :=
  wpList_plain hgd fun _ hK => wp_storeN ty x y ho hb vs hx hy hi hinfo h1 fun w' h2 h3 => hK _ _ (h w' h2 h3)
theorem step_storeN {o : Oper} {ops : Array Oper} {a : Act} {w : World} {K : Act → World → Prop} {Q : Exit → Act → World → Prop} {E : Prop} (hgd : o.guard = none) (ty : TypeId) (x y : Operand) (ho : o.op = .store ty x y)
    {g i : Nat} {t : TypeId} {cur : List Value} (hb : Block w g t cur.toArray) (vs : List Value) (hx : a.eval x = .pointer (some ⟨g, i, none⟩)) (hy : a.eval y = .agg vs.toArray) (hi : i + vs.length ≤ cur.length) (hinfo : (P.info? ty).map (·.size) = some vs.length) (h1 : ∀ v ∈ vs, v.oneCell' = true)
    (h : ∀ w', Hid (Block w' g t (splice cur i vs).toArray) → Only [g] w w' → K (a.put o.dst undef) w') :
    if Region.wanted o (yielded ops a.tmps) = true then Oper.wp P o a w K Q else E := by
  rw [if_pos (by simp [Region.wanted, hgd])]
  exact wp_storeN ty x y ho hb vs hx hy hi hinfo h1 h
end

end Go.Proofs.YtaoegfdaemmogaaGreat.Rw
