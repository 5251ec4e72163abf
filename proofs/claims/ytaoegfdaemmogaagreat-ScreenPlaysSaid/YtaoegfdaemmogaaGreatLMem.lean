/-
  lines: plain lists: a ring as a list, what a push leaves, the last place of a number. lines: memory: a line, a store whose scrollback lies in a ring.
-/
import Derived.Laws.CopyOwn
import Derived.Test.YtaoegfdaemmogaaGreatRDoM
import Derived.Test.YtaoegfdaemmogaaGreatRCopy
import Derived.Test.YtaoegfdaemmogaaGreatMem3
namespace Go.Proofs.YtaoegfdaemmogaaGreat.Lns
open Go
section
variable {α β : Type}

/-- The ring's places, from the oldest one on. -/
def lg (P : List α) (o : Nat) : List α := P.drop o ++ P.take o
theorem lg_0 (P : List α) : lg P 0 = P := by simp [lg]
theorem lg_len (P : List α) (o : Nat) : (lg P o).length = P.length := by simp [lg]; omega
theorem lg_at (P : List α) {o i : Nat} (ho : o < P.length) (hi : i < P.length) : (lg P o)[i]? = P[(o + i) % P.length]? := by
  unfold lg
  by_cases h : o + i < P.length
  · rw [List.getElem?_append_left (by simp; omega), List.getElem?_drop, Nat.mod_eq_of_lt h]
  · rw [List.getElem?_append_right (by simp; omega), List.length_drop, List.getElem?_take, if_pos (by omega), Nat.mod_eq_sub_mod (by omega), Nat.mod_eq_of_lt (by omega)]
    congr 1
    omega
theorem lg_put (P : List α) {o : Nat} (ho : o < P.length) (x : α) : lg (P.set o x) ((o + 1) % P.length) = (lg P o ++ [x]).drop 1 := by
  unfold lg
  have hd : P.drop o = P[o] :: P.drop (o + 1) := List.drop_eq_getElem_cons ho
  have hset : P.set o x = P.take o ++ x :: P.drop (o + 1) := by rw [List.set_eq_take_append_cons_drop, if_pos ho]
  have hl : (P.take o).length = o := by simp; omega
  by_cases h : o + 1 < P.length
  · rw [Nat.mod_eq_of_lt h, hset, hd]
    simp only [List.cons_append, List.drop_succ_cons, List.drop_zero]
    rw [List.drop_append, List.drop_eq_nil_of_le (by omega), hl, show o + 1 - o = 1 by omega, List.take_append, List.take_of_length_le (by omega), hl, show o + 1 - o = 1 by omega]
    simp
  · have h1 : P.length = o + 1 := by omega
    rw [show (o + 1) % P.length = 0 from by rw [h1]; exact Nat.mod_self _, hset, hd, List.drop_eq_nil_of_le (show P.length ≤ o + 1 by omega)]
    simp

/-- What a push leaves. -/
def pushL (most : Nat) (L : List α) (x : α) : List α := if most < L.length + 1 then (L ++ [x]).drop 1 else L ++ [x]
theorem pushL_le {most : Nat} {L : List α} (h : L.length ≤ most) (x : α) : (pushL most L x).length ≤ most := by
  unfold pushL
  split
  · simp; omega
  · simp; omega
theorem pushL_mem {most : Nat} {L : List α} {x e : α} (h : e ∈ pushL most L x) : e ∈ L ∨ e = x := by
  unfold pushL at h
  split at h
  · simpa using List.mem_of_mem_drop h
  · simpa using h
theorem pushL_map (f : α → β) (most : Nat) (L : List α) (x : α) : (pushL most L x).map f = pushL most (L.map f) (f x) := by
  unfold pushL
  rw [List.length_map]
  split <;> simp

/-- The last place below k that has the number, or -1. -/
def findTo [DecidableEq α] (L : List α) (x : α) : Nat → Int
  | 0 => -1
  | k + 1 => if L[k]? = some x then k else findTo L x k
theorem findTo_succ [DecidableEq α] (L : List α) (x : α) (k : Nat) : findTo L x (k + 1) = if L[k]? = some x then (k : Int) else findTo L x k := rfl
def findF [DecidableEq α] (L : List α) (x : α) : Int := findTo L x L.length
theorem findTo_range [DecidableEq α] (L : List α) (x : α) (k : Nat) : -1 ≤ findTo L x k ∧ findTo L x k < k := by
  induction k with
  | zero => simp [findTo]
  | succ k ih =>
    unfold findTo
    split <;> omega
theorem findTo_none [DecidableEq α] {L : List α} {x : α} {k : Nat} (h : ∀ i, i < k → L[i]? ≠ some x) : findTo L x k = -1 := by
  induction k with
  | zero => rfl
  | succ k ih =>
    unfold findTo
    rw [if_neg (h k (by omega))]
    exact ih fun i hi => h i (by omega)
theorem findTo_at [DecidableEq α] {L : List α} {x : α} {k j : Nat} (hj : j < k) (h : L[j]? = some x) (hn : ∀ i, j < i → i < k → L[i]? ≠ some x) : findTo L x k = j := by
  induction k with
  | zero => omega
  | succ k ih =>
    unfold findTo
    by_cases e : j = k
    · subst e; rw [if_pos h]
    · rw [if_neg (hn k (by omega) (by omega))]
      exact ih (by omega) fun i h1 h2 => hn i h1 (by omega)
end
end Go.Proofs.YtaoegfdaemmogaaGreat.Lns
namespace Go.Proofs.YtaoegfdaemmogaaGreat.Lns
open Go Go.RowKit Go.Proofs.YtaoegfdaemmogaaGreat.Com Go.Proofs.YtaoegfdaemmogaaGreat.Rw

/-- A line: its id, the program's row at d (its cells at g), the reference's row at dr, the cells. -/
structure En where
  id : Int
  d : Nat
  g : Nat
  dr : Nat
  l : List Cel
def lineC (e : En) : List Value := [.int .i64 e.id, .pointer (some ⟨e.d, 0, none⟩)]
def rlineC (e : En) : List Value := [.int .i64 e.id, .pointer (some ⟨e.dr, 0, none⟩)]
theorem lineC_length (e : En) : (lineC e).length = 2 := rfl
theorem rlineC_length (e : En) : (rlineC e).length = 2 := rfl
theorem lineC_one (e : En) : ∀ v ∈ lineC e, v.oneCell' = true := by
  intro v hv
  simp only [lineC, List.mem_cons, List.not_mem_nil, or_false] at hv
  rcases hv with rfl | rfl <;> rfl
theorem rlineC_one (e : En) : ∀ v ∈ rlineC e, v.oneCell' = true := by
  intro v hv
  simp only [rlineC, List.mem_cons, List.not_mem_nil, or_false] at hv
  rcases hv with rfl | rfl <;> rfl

theorem not_in1 {w : World} {k j : Nat} {t t' : TypeId} (h : Typ w k t) (h' : Typ w j t') (ht : t ≠ t') : k ∉ [j] := by
  intro hm
  obtain rfl : k = j := by simpa using hm
  exact ht (Typ.inj h h')
theorem owns_typ {w : World} {B : Nat} {e : TypeId} {s n : Nat} {v : Value} {xs : List Value} (h : w.ownsRow B e s v n xs) : ∀ g, v.ownBlock = some g → Typ w g e := by
  intro g hg
  rcases h.2 with ⟨rfl, _⟩ | ⟨x, cap, cur, rfl, _, hh, _⟩
  · cases hg
  · obtain rfl : x = g := by simpa [Value.ownBlock] using hg
    exact ⟨cur, _, hh⟩
theorem not_inO {w : World} {k B : Nat} {t e : TypeId} {s n : Nat} {v : Value} {xs : List Value} (h : Typ w k t) (h' : w.ownsRow B e s v n xs) (ht : t ≠ e) : k ∉ v.ownBlock.toList := by
  intro hm
  exact ht (Typ.inj h (owns_typ h' k (by simpa using hm)))
theorem owns_only {w w' : World} {L : List Nat} {B : Nat} {e : TypeId} {s n : Nat} {v : Value} {xs : List Value} (h : w.ownsRow B e s v n xs) (ho : Only L w w') (hn : ∀ g, v.ownBlock = some g → g ∉ L) : w'.ownsRow B e s v n xs := by
  refine ⟨h.1, ?_⟩
  rcases h.2 with h2 | ⟨g, cap, cur, rfl, hg, hh, r⟩
  · exact .inl h2
  · exact .inr ⟨g, cap, cur, rfl, hg, (ho.block g (lt_of_block hh) (hn g rfl)).trans hh, r⟩
theorem owns_shape {w : World} {B : Nat} {e : TypeId} {s n : Nat} {v : Value} {xs : List Value} (h : w.ownsRow B e s v n xs) : ∃ ao c, v = .slice ao n c ∧ n ≤ c ∧ c ≤ maxLen := by
  rcases h.2 with ⟨rfl, h0⟩ | ⟨g, cap, cur, rfl, _, _, hc, hm, _⟩
  · exact ⟨none, 0, by rw [h0], by omega, by unfold maxLen; omega⟩
  · exact ⟨_, cap, rfl, hc, hm⟩

theorem infoL : (Tryz.prog.info? 109).map (·.size) = some 2 := by kernel_rfl
theorem infoRL : (Tryz.prog.info? 71).map (·.size) = some 2 := by kernel_rfl
theorem infoH : (Tryz.prog.info? 80).map (·.size) = some 2 := by kernel_rfl
theorem block2 {w : World} {g : Nat} {t : TypeId} {a b : Value} (h : Block w g t #[a, b]) (u v : Value) : Block ((w.setCell ⟨g, 0, none⟩ u).setCell ⟨g, 1, none⟩ v) g t #[u, v] := (h.set 0 u).set 1 v
theorem load_row {P : Program} {w : World} {g : Nat} {t ty : TypeId} {cs : Array Value} {d : TypeDesc} (h : Block w g t cs) (hu : P.underlying ty = some d) (hd : (match d with | .struct _ | .array _ _ => true | _ => false) = true) (hi : (P.info? ty).map (·.size) = some cs.size) : (loadVar ty ⟨g, 0, none⟩).run P w = .ok (.agg cs) w :=
  Com.run_loadVar_at w ty ⟨g, 0, none⟩ cs.toList _ (fun j u hj => by rw [Addr.add_lit, Nat.zero_add]; exact h.cell j (by simpa using hj)) hu hd (by simpa using hi)
theorem results_cell_tmpG {P : Program} {fn : Func} {p q : Tmp} {ty t : TypeId} {d : TypeDesc} (h : fn.results = #[.cell p ty, .tmp q]) (tmps : Array Value) (w : World) (g : Nat) (cs : Array Value)
    (hp : tmps.getD p undef = .pointer (some ⟨g, 0, none⟩)) (hg : Block w g t cs) (hu : P.underlying ty = some d) (hd : (match d with | .struct _ | .array _ _ => true | _ => false) = true) (hi : (P.info? ty).map (·.size) = some cs.size) :
    (results fn tmps).run P w = .ok (.tuple #[.agg cs, tmps.getD q undef]) w := by
  have hp' : tmps[p]?.getD undef = .pointer (some ⟨g, 0, none⟩) := by simpa using hp
  simp [results, h, hp', asAddr, load_row hg hu hd hi]

theorem fieldL (i : Int) (v : Value) (w : World) : (Instr.field 109 (.agg #[.int .i64 i, v]) 0).run Tryz.prog w = .ok (.int .i64 i) w := by
  kernel_rfl

/-- The program's row of a line. -/
def RowG (B : Nat) (w : World) (e : En) : Prop := Rw.Good e.l ∧ B ≤ e.d ∧ B ≤ e.g ∧ ∃ n cap tail, RowX w e.d e.g n cap tail e.l
theorem RowG.typ {B : Nat} {w : World} {e : En} (h : RowG B w e) : Typ w e.d 122 ∧ Typ w e.g 114 := by
  obtain ⟨_, _, _, n, cap, tail, hx⟩ := h
  exact ⟨Block.typ hx.ptr, Block.typ hx.row⟩
theorem RowG.only {B : Nat} {w w' : World} {e : En} {L : List Nat} (h : RowG B w e) (ho : Only L w w') (hd : e.d ∉ L) (hg : e.g ∉ L) : RowG B w' e := by
  obtain ⟨h1, h2, h3, n, cap, tail, hx⟩ := h
  exact ⟨h1, h2, h3, n, cap, tail, hx.kept ho hd hg⟩
theorem RowG.below {B : Nat} {w w' : World} {e : En} (h : RowG B w e) (hb : Below w.heap.size w w') : RowG B w' e := h.only (Only.of_below hb []) (by simp) (by simp)

/-- A store: its next id, its cap, the slice of its places. -/
structure SX0 (B : Nat) (w : World) (s nx most : Nat) (sv : Value) (o : Nat) (P : List En) : Prop where
  blk : Block w s 94 #[.int .i64 nx, .int .i64 most, sv, .int .i64 o]
  own : w.ownsRow B 109 2 sv P.length (fl lineC P)
  le : P.length ≤ most
  old : P.length < most → o = 0
  olt : o < P.length ∨ o = 0
  most : most ≤ 10000
  pos : 0 < nx
  small : nx ≤ 1000000
  lo : B ≤ s
def SX (B : Nat) (w : World) (s nx most : Nat) (sv : Value) (R : List En) : Prop := (∃ o P, SX0 B w s nx most sv o P ∧ lg P o = R) ∧ ∀ e ∈ R, RowG B w e
section
variable {B : Nat} {w w' : World} {s nx most o : Nat} {sv : Value} {P R : List En} {L : List Nat}
theorem SX0.cells (h : SX0 B w s nx most sv o P) : w.cell? ⟨s, 0, none⟩ = some (.int .i64 nx) ∧ w.cell? ⟨s, 1, none⟩ = some (.int .i64 most) ∧ w.cell? ⟨s, 2, none⟩ = some sv ∧ w.cell? ⟨s, 3, none⟩ = some (.int .i64 o) :=
  ⟨h.blk.cell 0 rfl, h.blk.cell 1 rfl, h.blk.cell 2 rfl, h.blk.cell 3 rfl⟩
theorem SX0.only (h : SX0 B w s nx most sv o P) (ho : Only L w w') (hs : s ∉ L) (hp : ∀ g, sv.ownBlock = some g → g ∉ L) : SX0 B w' s nx most sv o P :=
  ⟨h.blk.only ho hs, owns_only h.own ho hp, h.le, h.old, h.olt, h.most, h.pos, h.small, h.lo⟩
theorem SX.only (h : SX B w s nx most sv R) (ho : Only L w w') (hs : s ∉ L) (hp : ∀ g, sv.ownBlock = some g → g ∉ L) (hr : ∀ e ∈ R, e.d ∉ L ∧ e.g ∉ L) : SX B w' s nx most sv R := by
  obtain ⟨⟨o, P, h0, hR⟩, hg⟩ := h
  exact ⟨⟨o, P, h0.only ho hs hp, hR⟩, fun e he => (hg e he).only ho (hr e he).1 (hr e he).2⟩
theorem SX.below (h : SX B w s nx most sv R) (hb : Below w.heap.size w w') : SX B w' s nx most sv R := h.only (Only.of_below hb []) (by simp) (by simp) (by simp)
theorem SX.typ (h : SX B w s nx most sv R) : Typ w s 94 := by
  obtain ⟨⟨o, P, h0, hR⟩, hg⟩ := h
  exact Block.typ h0.blk
theorem SX.ptyp (h : SX B w s nx most sv R) : ∀ g, sv.ownBlock = some g → B ≤ g ∧ g < w.heap.size ∧ Typ w g 109 := by
  obtain ⟨⟨o, P, h0, hR⟩, hg⟩ := h
  intro g hx
  have := World.ownsRow.lt h0.own g hx
  exact ⟨this.1, this.2, owns_typ h0.own g hx⟩
/-- A block of another type turns. -/
theorem SX.other (h : SX B w s nx most sv R) {k : Nat} {t : TypeId} (ho : Only [k] w w') (ht : Typ w k t) (h1 : 94 ≠ t) (h2 : 109 ≠ t) (h3 : 122 ≠ t) (h4 : 114 ≠ t) : SX B w' s nx most sv R :=
  h.only ho (not_in1 h.typ ht h1) (fun g hg => not_in1 (h.ptyp g hg).2.2 ht h2) (fun e he => ⟨not_in1 (h.2 e he).typ.1 ht h3, not_in1 (h.2 e he).typ.2 ht h4⟩)
theorem SX0.len (h : SX0 B w s nx most sv o P) : ∃ ao c, sv = .slice ao P.length c ∧ P.length ≤ c ∧ c ≤ maxLen := owns_shape h.own
/-- The i-th place. -/
theorem SX0.place (h : SX0 B w s nx most sv o P) {i : Nat} (hi : i < P.length) : ∃ g c, sv = .slice (some ⟨g, 0, none⟩) P.length c ∧ P.length ≤ c ∧ c ≤ maxLen ∧ w.cell? ⟨g, i * 2, none⟩ = some (.int .i64 P[i].id) ∧ w.cell? ⟨g, i * 2 + 1, none⟩ = some (.pointer (some ⟨P[i].d, 0, none⟩)) := by
  obtain ⟨g, cap, tail, rfl, hg, hb, hc, hm⟩ := own_block h.own (by omega)
  have e0 := fl_at lineC_length hi (show 0 < 2 by decide)
  have e1 := fl_at lineC_length hi (show 1 < 2 by decide)
  have hl : i * 2 + 1 < (fl lineC P).length := by rw [fl_length lineC_length]; omega
  refine ⟨g, cap, rfl, hc, hm, hb.cell _ ?_, hb.cell _ ?_⟩
  · rw [List.getElem?_toArray, List.getElem?_append_left (by omega)]; exact e0
  · rw [List.getElem?_toArray, List.getElem?_append_left hl]; exact e1
theorem SX0.drew (h : SX0 B w s nx most sv o P) (q : Nat) : SX0 B (w.drewN q) s nx most sv o P := h.only (Only.drewN [] w q) (by simp) (by simp)
end
end Go.Proofs.YtaoegfdaemmogaaGreat.Lns
