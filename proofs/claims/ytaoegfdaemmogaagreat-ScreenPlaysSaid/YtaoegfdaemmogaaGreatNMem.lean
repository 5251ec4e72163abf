/-
  screen: two laws of memory: append of so many zero elements; clear of a slice of structs. screen: memory: a screen's block, its lines' cells, its store; all that is known of a screen.
-/
import Derived.Test.YtaoegfdaemmogaaGreatRCopy
import Derived.Test.YtaoegfdaemmogaaGreatNMath
namespace Go.Proofs.YtaoegfdaemmogaaGreat.Scn
open Go Go.RowKit Go.Proofs.YtaoegfdaemmogaaGreat.Com Go.Proofs.YtaoegfdaemmogaaGreat.Rw
section
variable {P : Program}

theorem zero_one {z : Value} (hp : 0 < z.cells.size) (hz1 : ∀ v ∈ z.cells.toList, v.oneCell' = true) (k : Nat) : ∀ u ∈ (Builtin.zeroCells z.cells k).toList, u.oneCell' = true := by
  intro u hu
  simp only [Builtin.zeroCells, Array.toList_map, List.mem_map] at hu
  obtain ⟨j, _, rfl⟩ := hu
  have hlt : j % z.cells.size < z.cells.size := Nat.mod_lt _ hp
  rw [getElem!_pos z.cells (j % z.cells.size) hlt]
  exact hz1 _ (by simp)
/-- append(s, make([]T, k)...): zero elements behind, in place or in a new array. -/
theorem run_appZ {t tI e : TypeId} {z : Value} {size : Nat} (E : ElemN P t e z size) (hI : P.underlying tI = some (.int .i64)) (hz1 : ∀ v ∈ z.cells.toList, v.oneCell' = true) (w : World) (ty : TypeId) (B : Nat) (v : Value) (n : Nat) (xs : List Value) (h : w.ownsRow B e size v n xs) (k : Nat) (hB : B ≤ w.heap.size) (hx : n + k ≤ 100000) :
    ∃ v' w' J, (Builtin.append_ #[t, tI] ty #[v, .int .i64 k]).run P w = .ok v' w' ∧ J.length = k * size ∧ (∀ u ∈ J, u.oneCell' = true) ∧ w'.ownsRow B e size v' (n + k) (xs ++ J) ∧ Only v.ownBlock.toList w w' ∧ (v'.ownBlock = v.ownBlock ∨ v'.ownBlock = some w.heap.size) := by
  obtain ⟨i, hi, hzr, hs, hb⟩ := E.info
  have hpos := E.pos
  have hz := E.cells
  have hk0 : ¬ ((k : Int) < 0) := by omega
  have hwr : IntKind.i64.wrap (k : Int) = (k : Int) := IntWalk.i64_in _ (by omega)
  have hai : ∀ (y : Int) w, (asIntOf (.int .i64 y)).run P w = .ok (.i64, y) w := fun _ _ => rfl
  have hw0 : IntKind.i64.wrap 0 = 0 := IntWalk.i64_in _ (by omega)
  have hby : ¬ ((281474976710656 : Int) < (k : Int) * (i.bytes : Int)) := by
    have : k * i.bytes ≤ 100000 * 100 := Nat.mul_le_mul (by omega) hb
    have h2 : ((k * i.bytes : Nat) : Int) ≤ ((100000 * 100 : Nat) : Int) := Int.ofNat_le.2 this
    rw [Int.natCast_mul] at h2
    omega
  have hzs : (Builtin.zeroCells z.cells k).toList.length = k * size := by rw [Array.length_toList, size_zeroCells, hz]
  have hzl := zero_one (by omega) hz1 k
  have hlen : (xs ++ (Builtin.zeroCells z.cells k).toList).length = (n + k) * size := by rw [List.length_append, h.1, hzs, Nat.add_mul]
  have hmx : n + k ≤ maxLen := by unfold maxLen; omega
  have grown : ∀ (old : Nat), old < n + k → ∀ (L : List Nat),
      (w.drew.alloc (.cells (xs.toArray ++ Builtin.zeroCells z.cells k ++ Builtin.zeroCells z.cells (grownCap w (n + k) old e - (n + k))) e)).ownsRow B e size
        (.slice (some ⟨w.heap.size, 0, none⟩) (n + k) (grownCap w (n + k) old e)) (n + k) (xs ++ (Builtin.zeroCells z.cells k).toList) ∧
      Only L w (w.drew.alloc (.cells (xs.toArray ++ Builtin.zeroCells z.cells k ++ Builtin.zeroCells z.cells (grownCap w (n + k) old e - (n + k))) e)) := by
    intro old ho L
    have hge := grownCap_ge w (n + k) old e
    have hcm : grownCap w (n + k) old e ≤ maxLen := grownCap_le_maxLen w (n + k) old e hmx
    refine ⟨⟨hlen, .inr ⟨w.heap.size, _, _, rfl, hB, heap_alloc_new w.drew _, hge, hcm, ?_, ?_⟩⟩, ⟨rfl, rfl, rfl, by simp, fun q hq _ => Below.heap_alloc w.drew _ _ (by simpa using hq)⟩⟩
    · simp only [Array.size_append, List.size_toArray, size_zeroCells, hz, h.1, ← Nat.add_mul]
      congr 1
      omega
    · simp only [Array.toList_append, List.append_assoc]
      rw [← List.append_assoc, ← hlen]
      exact List.take_left
  have hfits : ∀ cap, cap < n + k → ¬ (281474976710656 < Builtin.nextslicecap (n + k) cap * i.bytes) := fun cap hc => by
    have h1 : (n + k) * i.bytes ≤ 100000 * 100 := Nat.mul_le_mul (by omega) hb
    have := growslice_fits (bytes := i.bytes) hc (by omega)
    omega
  rcases h.2 with ⟨rfl, rfl⟩ | ⟨g, cap, cur, rfl, hbg, hg, hnc, hcm, hcs, htake⟩
  · have hx0 : xs = [] := List.eq_nil_of_length_eq_zero (by simpa using h.1)
    subst hx0
    by_cases hm : k = 0
    · subst hm
      refine ⟨.slice none 0 0, w, [], ?_, by simp, by simp, World.ownsRow_nil w B e size, Only.refl _ _, .inl rfl⟩
      simp [Builtin.append_, run_underlying E.slice, run_underlying hI, sizeOf, typeInfo, hi, asInt, hai, hw0]
    · have hgr := grown 0 (by omega) (Value.slice none 0 0).ownBlock.toList
      have hf := hfits 0 (by omega)
      have h63 : ¬ ((9223372036854775807 : Int) < (k : Int)) := by omega
      simp only [Nat.zero_add, List.nil_append, Array.empty_append] at hgr hf ⊢
      refine ⟨_, _, _, ?_, hzs, hzl, hgr.1, hgr.2, .inr rfl⟩
      have hne : ¬ k * size = 0 := by rw [Nat.mul_eq_zero]; omega
      simp [Builtin.append_, run_underlying E.slice, run_underlying hI, sizeOf, typeInfo, zeroValue, hi, hzr, asInt, hai, hwr, hk0, hby, hm, h63, hf, hs, hne, Question.forced, run_firstCells_none, newRow, grownCap]
  · by_cases hroom : n + k ≤ cap
    · have hfit : n * size + (Builtin.zeroCells z.cells k).toList.length ≤ cur.size := by rw [hzs, hcs, ← Nat.add_mul]; exact Nat.mul_le_mul_right _ hroom
      have hst := run_storeCells_at P g (n * size) e (Builtin.zeroCells z.cells k).toList 0 cur w hg (by simpa using hfit) hzl
      simp only [Nat.add_zero] at hst
      have hrun : (Builtin.append_ #[t, tI] ty #[.slice (some ⟨g, 0, none⟩) n cap, .int .i64 k]).run P w = .ok (.slice (some ⟨g, 0, none⟩) (n + k) cap) (w.setRow g (cur.toList.take (n * size) ++ (Builtin.zeroCells z.cells k).toList ++ cur.toList.drop (n * size + (Builtin.zeroCells z.cells k).toList.length)).toArray) := by
        by_cases hk : k * size = 0
        · have hz0 : Builtin.zeroCells z.cells k = #[] := by
            apply Array.eq_empty_of_size_eq_zero
            rw [size_zeroCells, hz, hk]
          rw [hz0] at hst ⊢
          simp [Builtin.append_, run_underlying E.slice, run_underlying hI, sizeOf, typeInfo, hi, asInt, hai, hwr, hk0, hby, hs, hk, hroom, Addr.add_lit]
          have hst' := hst
          simp at hst'
          simp [hst']
        · simp [Builtin.append_, run_underlying E.slice, run_underlying hI, sizeOf, typeInfo, zeroValue, hi, hzr, asInt, hai, hwr, hk0, hby, hs, hk, hroom, Addr.add_lit, hst]
      refine ⟨_, _, _, hrun, hzs, hzl, ⟨hlen, .inr ⟨g, cap, _, rfl, hbg, setRow_heap w g cur _ e _ hg, hroom, hcm, ?_, ?_⟩⟩, only_setRow w g _, .inl rfl⟩
      · simp only [List.size_toArray, List.length_append, List.length_take, List.length_drop]
        rw [Array.length_toList] at hfit ⊢
        rw [Array.length_toList, hcs] at *
        omega
      · rw [htake, ← hlen]
        exact List.take_left
    · have holds : ∀ j u, xs[j]? = some u → w.cell? ((⟨g, 0, none⟩ : Addr).add j) = some u := h.cells (g := g) rfl
      have hgr := grown cap (by omega) (Value.slice (some ⟨g, 0, none⟩) n cap).ownBlock.toList
      have hf := hfits cap (by omega)
      have h63 : ¬ ((9223372036854775807 : Int) < (n : Int) + (k : Int)) := by omega
      have hfo := run_firstCells_some (P := P) w.drew size n ⟨g, 0, none⟩ n cap xs h.1 (by simpa using holds)
      refine ⟨_, _, _, ?_, hzs, hzl, hgr.1, hgr.2, .inr rfl⟩
      by_cases hk : k * size = 0
      · exfalso
        have : k = 0 := by rcases Nat.mul_eq_zero.1 hk with h | h <;> omega
        omega
      · simp [Builtin.append_, run_underlying E.slice, run_underlying hI, sizeOf, typeInfo, zeroValue, hi, hzr, asInt, hai, hwr, hk0, hby, hs, hk, hroom, h63, hf, hfo, Question.forced, newRow, grownCap]
theorem wp_appZ {t tI e : TypeId} {z : Value} {size : Nat} (E : ElemN P t e z size) (hI : P.underlying tI = some (.int .i64)) (hz1 : ∀ v ∈ z.cells.toList, v.oneCell' = true) {w : World} {o : Oper} {a : Act} {K : Act → World → Prop} {Q : Exit → Act → World → Prop} (s x : Operand)
    (ho : o.op = .call { callee := .builtin .append, args := #[s, x], argTypes := #[t, tI] })
    (B : Nat) (v : Value) (n : Nat) (xs : List Value) (k : Nat) (hs : a.eval s = v) (hxe : a.eval x = .int .i64 k) (h : w.ownsRow B e size v n xs) (hB : B ≤ w.heap.size) (hx : n + k ≤ 100000)
    (hK : ∀ v' w' J, J.length = k * size → (∀ u ∈ J, u.oneCell' = true) → w'.ownsRow B e size v' (n + k) (xs ++ J) → Only v.ownBlock.toList w w' → (v'.ownBlock = v.ownBlock ∨ v'.ownBlock = some w.heap.size) → K (a.put o.dst v') w') : o.wp P a w K Q := by
  obtain ⟨v', w', J, hr, h2, h3, h4, h5, h6⟩ := run_appZ E hI hz1 w o.type B v n xs h k hB hx
  unfold Oper.wp execOp
  simp only [ho, resolve, invoke, builtin, Sem.run_bind, Sem.run_pure, Result.andThen_ok, List.map_toArray, List.map_cons, List.map_nil, hs, hxe, hr]
  exact hK v' w' J h2 h3 h4 h5 h6
theorem step_appZ {t tI e : TypeId} {z : Value} {size : Nat} (E : ElemN P t e z size) (hI : P.underlying tI = some (.int .i64)) (hz1 : ∀ v ∈ z.cells.toList, v.oneCell' = true) {w : World} {ops : Array Oper} {o : Oper} {a : Act} {K : Act → World → Prop} {Q : Exit → Act → World → Prop} {F : Prop} (hw : Region.wanted o (yielded ops a.tmps) = true) (s x : Operand)
    (ho : o.op = .call { callee := .builtin .append, args := #[s, x], argTypes := #[t, tI] })
    (B : Nat) (v : Value) (n : Nat) (xs : List Value) (k : Nat) (hs : a.eval s = v) (hxe : a.eval x = .int .i64 k) (h : w.ownsRow B e size v n xs) (hB : B ≤ w.heap.size) (hx : n + k ≤ 100000)
    (hK : ∀ v' w' J, J.length = k * size → (∀ u ∈ J, u.oneCell' = true) → w'.ownsRow B e size v' (n + k) (xs ++ J) → Only v.ownBlock.toList w w' → (v'.ownBlock = v.ownBlock ∨ v'.ownBlock = some w.heap.size) → K (a.put o.dst v') w') :
    if Region.wanted o (yielded ops a.tmps) = true then Oper.wp P o a w K Q else F := by
  rw [if_pos hw]
  exact wp_appZ E hI hz1 s x ho B v n xs k hs hxe h hB hx hK

/-- clear(s): zero elements, in place. -/
theorem wp_clearN {t e : TypeId} {z : Value} {size : Nat} (E : ElemN P t e z size) (hz1 : ∀ v ∈ z.cells.toList, v.oneCell' = true) {w : World} {o : Oper} {a : Act} {K : Act → World → Prop} {Q : Exit → Act → World → Prop} (x : Operand)
    (ho : o.op = .call { callee := .builtin .clear, args := #[x], argTypes := #[t] }) (sp : Option Addr) (k c : Nat) (hx : a.eval x = .slice sp k c)
    (g off : Nat) (cur : List Value) (tt : TypeId) (hg : Block w g tt cur.toArray) (hpos : 0 < k → sp = some ⟨g, off, none⟩) (hfit : off + k * size ≤ cur.length)
    (h : ∀ w' J, J.length = k * size → Hid (Block w' g tt (splice cur off J).toArray) → Only [g] w w' → K (a.put o.dst (.tuple #[])) w') : o.wp P a w K Q := by
  obtain ⟨i, hi, hzr, hs, hb⟩ := E.info
  have hp := E.pos
  have hz := E.cells
  by_cases hk : k = 0
  · subst hk
    have hrun : (Builtin.clear_ #[t] o.type #[.slice sp 0 c]).run P w = .ok (.tuple #[]) w := by
      rcases sp with _ | sp <;> simp [Builtin.clear_, run_underlying E.slice]
    unfold Oper.wp execOp
    simp only [ho, resolve, invoke, builtin, Sem.run_bind, Sem.run_pure, Result.andThen_ok, List.map_toArray, List.map_cons, List.map_nil, hx, hrun]
    exact h w [] (by simp) (Lib.hid (by simpa [splice] using hg)) (Only.refl _ _)
  · obtain rfl := hpos (by omega)
    have hzs : (Builtin.zeroCells z.cells k).toList.length = k * size := by rw [Array.length_toList, size_zeroCells, hz]
    have hst := run_storeCells_at P g off tt (Builtin.zeroCells z.cells k).toList 0 cur.toArray w hg (by simpa [hzs] using hfit) (zero_one (by omega) hz1 k)
    simp only [Nat.add_zero] at hst
    obtain ⟨m, rfl⟩ : ∃ m, k = m + 1 := ⟨k - 1, by omega⟩
    have hrun : (Builtin.clear_ #[t] o.type #[.slice (some ⟨g, off, none⟩) (m + 1) c]).run P w = .ok (.tuple #[]) (w.setRow g (splice cur off (Builtin.zeroCells z.cells (m + 1)).toList).toArray) := by
      simp [Builtin.clear_, run_underlying E.slice, zeroValue, typeInfo, hi, hzr, hst, splice]
    unfold Oper.wp execOp
    simp only [ho, resolve, invoke, builtin, Sem.run_bind, Sem.run_pure, Result.andThen_ok, List.map_toArray, List.map_cons, List.map_nil, hx, hrun]
    exact h _ _ hzs (Lib.hid (setRow_heap w g _ _ tt _ hg)) (only_setRow w g _)
theorem wpList_clearN {t e : TypeId} {z : Value} {size : Nat} (E : ElemN P t e z size) (hz1 : ∀ v ∈ z.cells.toList, v.oneCell' = true) {w : World} {o : Oper} {ops : Array Oper} {rest : List Oper} {a : Act} {Q : Exit → Act → World → Prop} (hgd : o.guard = none) (x : Operand)
    (ho : o.op = .call { callee := .builtin .clear, args := #[x], argTypes := #[t] }) (sp : Option Addr) (k c : Nat) (hx : a.eval x = .slice sp k c)
    (g off : Nat) (cur : List Value) (tt : TypeId) (hg : Block w g tt cur.toArray) (hpos : 0 < k → sp = some ⟨g, off, none⟩) (hfit : off + k * size ≤ cur.length)
    (h : ∀ w' J, J.length = k * size → Hid (Block w' g tt (splice cur off J).toArray) → Only [g] w w' → wpList P ops Q rest (a.put o.dst (.tuple #[])) w') : wpList P ops Q (o :: rest) a w :=
  wpList_plain hgd fun _ hK => wp_clearN E hz1 x ho sp k c hx g off cur tt hg hpos hfit fun w' J h1 h2 h3 => hK _ _ (h w' J h1 h2 h3)
end
end Go.Proofs.YtaoegfdaemmogaaGreat.Scn
namespace Go.Proofs.YtaoegfdaemmogaaGreat.Scn
open Go Go.RowKit Go.Proofs.YtaoegfdaemmogaaGreat.Com Go.Proofs.YtaoegfdaemmogaaGreat.Rw Go.Proofs.YtaoegfdaemmogaaGreat.Lns

/-- The types that a call on a screen may turn. -/
def PT : List TypeId := [86, 94, 109, 122, 114]
def NoPT (ts : List TypeId) : Prop := ∀ t ∈ PT, t ∉ ts
theorem Typ.frm {B : Nat} {ts : List TypeId} {w w' : World} {k : Nat} {t : TypeId} (h : Typ w k t) (hf : Fr B ts w w') (ht : t ∉ ts) : Typ w' k t := by
  obtain ⟨cs, fz, h⟩ := h
  refine ⟨cs, fz, (hf.block k (lt_of_block' h) (.inr fun t' ht' hT => ht ?_)).trans h⟩
  rw [Typ.inj ⟨cs, fz, h⟩ hT]
  exact ht'
theorem owns_fr {B' : Nat} {ts : List TypeId} {w w' : World} {B : Nat} {e : TypeId} {s n : Nat} {v : Value} {xs : List Value} (h : w.ownsRow B e s v n xs) (hf : Fr B' ts w w') (ht : e ∉ ts) : w'.ownsRow B e s v n xs := by
  refine ⟨h.1, ?_⟩
  rcases h.2 with h2 | ⟨g, cap, cur, rfl, hg, hh, r⟩
  · exact .inl h2
  · exact .inr ⟨g, cap, cur, rfl, hg, (hf.block g (lt_of_block hh) (.inr fun t' ht' hT => ht (by rw [Typ.inj (w := w) ⟨cur, _, hh⟩ hT]; exact ht'))).trans hh, r⟩
theorem rowG_fr {B' : Nat} {ts : List TypeId} {B : Nat} {w w' : World} {e : En} (h : RowG B w e) (hf : Fr B' ts w w') (hn : NoPT ts) : RowG B w' e := by
  obtain ⟨h1, h2, h3, n, cap, tail, hx⟩ := h
  exact ⟨h1, h2, h3, n, cap, tail, ⟨Block.fr hx.ptr hf (.inl (hn _ (by simp [PT]))), Block.fr hx.row hf (.inl (hn _ (by simp [PT]))), hx.len, hx.le, hx.cap, hx.pos, hx.small⟩⟩
theorem sx_fr {B' : Nat} {ts : List TypeId} {B : Nat} {w w' : World} {s nx most : Nat} {sv : Value} {R : List En} (h : SX B w s nx most sv R) (hf : Fr B' ts w w') (hn : NoPT ts) : SX B w' s nx most sv R := by
  obtain ⟨⟨o, P, h0, hR⟩, hg⟩ := h
  exact ⟨⟨o, P, ⟨Block.fr h0.blk hf (.inl (hn _ (by simp [PT]))), owns_fr h0.own hf (hn _ (by simp [PT])), h0.le, h0.old, h0.olt, h0.most, h0.pos, h0.small, h0.lo⟩, hR⟩, fun e he => rowG_fr (hg e he) hf hn⟩

/-- A screen at x: its store at s; its lines' cells are xs. -/
structure LnX (B : Nat) (w : World) (x s nx most : Nat) (kp : Bool) (cols : Nat) (sv lv : Value) (top bot n : Nat) (xs : List Value) (R : List En) : Prop where
  blk : Block w x 86 #[.pointer (some ⟨s, 0, none⟩), .bool kp, .int .i64 cols, lv, .int .i64 top, .int .i64 bot]
  own : w.ownsRow B 109 2 lv n xs
  st : SX B w s nx most sv R
  apart : ∀ g, lv.ownBlock = some g → sv.ownBlock ≠ some g
  lo : B ≤ x
  small : n ≤ 1000
section
variable {B : Nat} {w w' : World} {x s nx most cols top bot n : Nat} {kp : Bool} {sv lv : Value} {xs : List Value} {R : List En} {L : List Nat}
theorem LnX.cells (h : LnX B w x s nx most kp cols sv lv top bot n xs R) : w.cell? ⟨x, 0, none⟩ = some (.pointer (some ⟨s, 0, none⟩)) ∧ w.cell? ⟨x, 1, none⟩ = some (.bool kp) ∧ w.cell? ⟨x, 2, none⟩ = some (.int .i64 cols) ∧ w.cell? ⟨x, 3, none⟩ = some lv ∧ w.cell? ⟨x, 4, none⟩ = some (.int .i64 top) ∧ w.cell? ⟨x, 5, none⟩ = some (.int .i64 bot) :=
  ⟨h.blk.cell 0 rfl, h.blk.cell 1 rfl, h.blk.cell 2 rfl, h.blk.cell 3 rfl, h.blk.cell 4 rfl, h.blk.cell 5 rfl⟩
theorem LnX.only (h : LnX B w x s nx most kp cols sv lv top bot n xs R) (ho : Only L w w') (hx : x ∉ L) (hs : s ∉ L) (hl : ∀ g, lv.ownBlock = some g → g ∉ L) (hp : ∀ g, sv.ownBlock = some g → g ∉ L) (hr : ∀ e ∈ R, e.d ∉ L ∧ e.g ∉ L) : LnX B w' x s nx most kp cols sv lv top bot n xs R :=
  ⟨h.blk.only ho hx, owns_only h.own ho hl, h.st.only ho hs hp hr, h.apart, h.lo, h.small⟩
theorem LnX.below (h : LnX B w x s nx most kp cols sv lv top bot n xs R) (hb : Below w.heap.size w w') : LnX B w' x s nx most kp cols sv lv top bot n xs R := h.only (Only.of_below hb []) (by simp) (by simp) (by simp) (by simp) (by simp)
theorem LnX.drawn (h : LnX B w x s nx most kp cols sv lv top bot n xs R) (q : Nat) : LnX B (w.drewN q) x s nx most kp cols sv lv top bot n xs R := h.below (below_dr (Below.refl _ _) q)
theorem LnX.fr {B' : Nat} {ts : List TypeId} (h : LnX B w x s nx most kp cols sv lv top bot n xs R) (hf : Fr B' ts w w') (hn : NoPT ts) : LnX B w' x s nx most kp cols sv lv top bot n xs R :=
  ⟨Block.fr h.blk hf (.inl (hn _ (by simp [PT]))), owns_fr h.own hf (hn _ (by simp [PT])), sx_fr h.st hf hn, h.apart, h.lo, h.small⟩
theorem LnX.typ (h : LnX B w x s nx most kp cols sv lv top bot n xs R) : Typ w x 86 := Block.typ h.blk
theorem LnX.ltyp (h : LnX B w x s nx most kp cols sv lv top bot n xs R) : ∀ g, lv.ownBlock = some g → B ≤ g ∧ g < w.heap.size ∧ Typ w g 109 := fun g hg => ⟨(World.ownsRow.lt h.own g hg).1, (World.ownsRow.lt h.own g hg).2, owns_typ h.own g hg⟩
theorem LnX.shape (h : LnX B w x s nx most kp cols sv lv top bot n xs R) : ∃ ao c, lv = .slice ao n c ∧ n ≤ c ∧ c ≤ maxLen := owns_shape h.own
/-- The screen's own block, and its lines, turn: the store stays. -/
theorem LnX.store (h : LnX B w x s nx most kp cols sv lv top bot n xs R) (ho : Only (x :: lv.ownBlock.toList) w w') : SX B w' s nx most sv R := by
  have hno : ∀ {k : Nat} {t : TypeId}, Typ w k t → 86 ≠ t → 109 ≠ t → k ∉ x :: lv.ownBlock.toList := fun {k t} ht n1 n2 hm => by
    rcases List.mem_cons.1 hm with rfl | hm
    · exact n1 (Typ.inj h.typ ht)
    · exact n2 (Typ.inj (h.ltyp k (by simpa using hm)).2.2 ht)
  refine h.st.only ho (hno h.st.typ (by decide) (by decide)) (fun g hg hm => ?_) (fun e he => ⟨hno (h.st.2 e he).typ.1 (by decide) (by decide), hno (h.st.2 e he).typ.2 (by decide) (by decide)⟩)
  rcases List.mem_cons.1 hm with rfl | hm
  · exact absurd (Typ.inj h.typ (h.st.ptyp g hg).2.2) (by decide)
  · exact h.apart g (by simpa using hm) hg
/-- What turns is of the screen's types. -/
theorem LnX.frame (h : LnX B w x s nx most kp cols sv lv top bot n xs R) (ho : Only (x :: lv.ownBlock.toList) w w') : Fr B PT w w' :=
  Fr.of_only ho fun k hk _ => by
    rcases List.mem_cons.1 hk with rfl | hm
    · exact ⟨h.lo, _, by simp [PT], h.typ⟩
    · have := h.ltyp k (by simpa using hm)
      exact ⟨this.1, _, by simp [PT], this.2.2⟩
/-- The screen's slice of lines is another one. -/
theorem LnX.setL (h : LnX B w x s nx most kp cols sv lv top bot n xs R) {lv' : Value} {n' : Nat} {xs' : List Value} {w1 : World} (h1 : w1.ownsRow B 109 2 lv' n' xs') (ho : Only lv.ownBlock.toList w w1) (hl : lv'.ownBlock = lv.ownBlock ∨ ∃ g, lv'.ownBlock = some g ∧ w.heap.size ≤ g) (hn : n' ≤ 1000) :
    LnX B (w1.setCell ⟨x, 3, none⟩ lv') x s nx most kp cols sv lv' top bot n' xs' R ∧ Only (x :: lv.ownBlock.toList) w (w1.setCell ⟨x, 3, none⟩ lv') := by
  have hxl : x ∉ lv.ownBlock.toList := fun hm => absurd (Typ.inj h.typ (h.ltyp x (by simpa using hm)).2.2) (by decide)
  have hb1 := h.blk.only ho hxl
  have ho2 : Only [x] w1 (w1.setCell ⟨x, 3, none⟩ lv') := Only.setCell w1 ⟨x, 3, none⟩ _
  have hO : Only (x :: lv.ownBlock.toList) w (w1.setCell ⟨x, 3, none⟩ lv') := (ho.mono (by simp +contextual)).trans (ho2.mono (by simp))
  refine ⟨⟨hb1.set 3 lv', owns_only h1 ho2 (fun g hg => not_in1 (owns_typ h1 g hg) (Block.typ hb1) (by decide)), h.store hO, ?_, h.lo, hn⟩, hO⟩
  intro g hg hs
  rcases hl with hl | ⟨g', hl, hge⟩
  · exact h.apart g (hl ▸ hg) hs
  · have h2 := (h.st.ptyp g hs).2.1
    rw [hl] at hg
    cases hg
    omega
end
end Go.Proofs.YtaoegfdaemmogaaGreat.Scn
