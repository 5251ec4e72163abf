/-
  keys: rows of bytes that the call owns, also where a conversion has put the run time's mark behind the last cell.
-/
import Derived.Test.YtkmedfffmalbgaaDoorMem
import Derived.Test.YtkmedfffmalbgaaDoorMem2
import Derived.Lib.AppendStr
import Derived.Laws.IdiomStrings
namespace Go.Proofs.YtkmedfffmalbgaaDoor.Kys
open Go Go.RowKit Go.Proofs.YtkmedfffmalbgaaDoor.Com

/-- Bytes that the call owns; of the row's cells none is frozen. -/
def Row (w : World) (B : Nat) (e : TypeId) (v : Value) (l : List Int) : Prop :=
  (v = .slice none 0 0 ∧ l = []) ∨
  ∃ g cap cur fz, v = .slice (some ⟨g, 0, none⟩) l.length cap ∧ B ≤ g ∧ w.heap[g]? = some (.cells cur e fz) ∧ (fz.1 < fz.2 → cur.size ≤ fz.1) ∧ l.length ≤ cap ∧ cap ≤ maxLen ∧ cur.size = cap ∧ cur.toList.take l.length = l.map (Value.int .u8)
section
variable {w w' : World} {B B' : Nat} {e : TypeId} {v : Value} {l : List Int}
theorem Row.nil (w : World) (B : Nat) (e : TypeId) : Row w B e (.slice none 0 0) [] := .inl ⟨rfl, rfl⟩
theorem Row.own (h : Own w B e .u8 v l) : Row w B e v l := by
  rcases h.2 with ⟨rfl, hn⟩ | ⟨g, cap, cur, rfl, hb, hg, h1, h2, h3, h4⟩
  · exact .inl ⟨rfl, List.eq_nil_of_length_eq_zero hn⟩
  · exact .inr ⟨g, cap, cur, (0, 0), rfl, hb, hg, by simp, h1, h2, by simpa using h3, by simpa using h4⟩
theorem Row.lt (h : Row w B e v l) : ∀ g, v.ownBlock = some g → B ≤ g ∧ g < w.heap.size := by
  intro k hk
  rcases h with ⟨rfl, _⟩ | ⟨g, cap, cur, fz, rfl, hb, hg, _⟩
  · simp [Value.ownBlock] at hk
  · simp [Value.ownBlock] at hk
    subst hk
    exact ⟨hb, lt_of_block' hg⟩
theorem Row.only {L : List Nat} (h : Row w B e v l) (ho : Only L w w') (hn : ∀ g, v.ownBlock = some g → g ∉ L) : Row w' B e v l := by
  rcases h with h | ⟨g, cap, cur, fz, rfl, hb, hg, r⟩
  · exact .inl h
  · exact .inr ⟨g, cap, cur, fz, rfl, hb, (ho.block g (lt_of_block' hg) (hn g rfl)).trans hg, r⟩
theorem Row.below (h : Row w B e v l) (hb : Below w.heap.size w w') : Row w' B e v l := h.only (Only.of_below hb []) (by simp)
theorem Row.alloc (h : Row w B e v l) (o : Obj) : Row (w.alloc o) B e v l := h.only (Only.alloc [] w o) (by simp)
theorem Row.lower (h : Row w B e v l) (hB : B' ≤ B) : Row w B' e v l := by
  rcases h with h | ⟨g, cap, cur, fz, rfl, hb, r⟩
  · exact .inl h
  · exact .inr ⟨g, cap, cur, fz, rfl, by omega, r⟩
theorem Row.cells (h : Row w B e v l) {g : Nat} (hg : v.ownBlock = some g) {i : Nat} {x : Int} (hx : l[i]? = some x) : w.cell? ⟨g, i, none⟩ = some (.int .u8 x) := by
  rcases h with ⟨rfl, _⟩ | ⟨k, cap, cur, fz, rfl, _, hh, _, _, _, _, ht⟩
  · simp [Value.ownBlock] at hg
  · simp [Value.ownBlock] at hg
    subst hg
    rw [cell_of_row w k i cur e fz hh]
    have h1 : (cur.toList.take l.length)[i]? = some (.int .u8 x) := by rw [ht, List.getElem?_map, hx]; rfl
    rw [List.getElem?_take] at h1
    split at h1
    · simpa using h1
    · cases h1
theorem Row.shape (h : Row w B e v l) : ∃ ao cap, v = .slice ao l.length cap ∧ l.length ≤ cap ∧ cap ≤ maxLen ∧ Nums w w.heap.size .u8 ao l := by
  have hc := fun g (hg : v.ownBlock = some g) => fun i x (hx : l[i]? = some x) => h.cells hg hx
  rcases h with ⟨rfl, rfl⟩ | ⟨g, cap, cur, fz, rfl, _, hh, _, hn, hm, _⟩
  · exact ⟨none, 0, rfl, Nat.le_refl _, by simp [maxLen], Nums.nil _ _ _ _⟩
  · refine ⟨_, cap, rfl, hn, hm, fun i x hx => ⟨_, rfl, lt_of_block' hh, ?_⟩⟩
    rw [Addr.add_lit, Nat.zero_add]
    exact hc g rfl i x hx
/-- A block of another element type is another block. -/
theorem Row.apart (h : Row w B e v l) {g : Nat} {t : TypeId} {cs : Array Value} (hb : Block w g t cs) (ht : e ≠ t) : v.ownBlock ≠ some g := by
  intro hv
  rcases h with ⟨rfl, _⟩ | ⟨k, cap, cur, fz, rfl, _, hh, _⟩
  · simp [Value.ownBlock] at hv
  · simp [Value.ownBlock] at hv
    subst hv
    unfold Block at hb
    rw [hb] at hh
    simp only [Option.some.injEq, Obj.cells.injEq] at hh
    exact ht hh.2.1.symm
/-- What an append leaves, seen from below the row. -/
theorem row_below {w0 : World} (hb : Below B w0 w) (h : Row w B e v l) (hB : B ≤ w.heap.size) (ho : Only v.ownBlock.toList w w') : Below B w0 w' :=
  hb.trans (ho.below hB fun k hk => by
    have : v.ownBlock = some k := by simpa using hk
    exact (h.lt k this).1)
/-- A literal's own array. -/
theorem Row.lit (w : World) (B : Nat) (e : TypeId) (l : List Int) (hB : B ≤ w.heap.size) (hm : l.length ≤ maxLen) :
    Row (w.alloc (.cells (l.map (Value.int .u8)).toArray e)) B e (.slice (some ⟨w.heap.size, 0, none⟩) l.length l.length) l := Row.own (Own.lit w B e .u8 l hB hm)
end

/-- Values stored one behind the other into cells of which none is frozen. -/
theorem row_store (P : Program) (e : TypeId) (g : Nat) (fz : Nat × Nat) : ∀ (vs : List Value) (w : World) (o i : Nat) (cur : Array Value), w.heap[g]? = some (.cells cur e fz) → (fz.1 < fz.2 → cur.size ≤ fz.1) → o + i + vs.length ≤ cur.size → (∀ v ∈ vs, v.oneCell' = true) →
    ∃ w' cur', (storeCells ⟨g, o, none⟩ vs i).run P w = .ok () w' ∧ w'.heap[g]? = some (.cells cur' e fz) ∧ cur'.size = cur.size ∧ cur'.toList.take (o + i + vs.length) = cur.toList.take (o + i) ++ vs ∧ Only [g] w w'
  | [], w, o, i, cur, hg, _, _, _ => ⟨w, cur, rfl, hg, rfl, by simp, Only.refl _ _⟩
  | v :: vs, w, o, i, cur, hg, hf, hl, h1 => by
    simp only [List.length_cons] at hl
    have hlt : o + i < cur.size := by omega
    have hfr : w.frozen? ⟨g, o + i, none⟩ = false := by
      simp only [World.frozen?, hg, Bool.and_eq_false_iff, decide_eq_false_iff_not]
      omega
    have hs : (store ((⟨g, o, none⟩ : Addr).add i) v).run P w = .ok () (w.setRow g (cur.setIfInBounds (o + i) v)) := by
      rw [Addr.add_lit, run_store P w _ v _ (h1 v (by simp)), cell_of_row w g (o + i) cur e fz hg]
      simp [hlt, hfr, setCell_eq_setRow w g (o + i) cur e fz v hg]
    obtain ⟨w', cur', hr, hg', hs', ht', ho'⟩ := row_store P e g fz vs (w.setRow g (cur.setIfInBounds (o + i) v)) o (i + 1) (cur.setIfInBounds (o + i) v) (setRow_heap w g cur _ e _ hg) (by simpa using hf) (by simp; omega) (fun x hx => h1 x (by simp [hx]))
    refine ⟨w', cur', ?_, hg', by simpa using hs', ?_, (only_setRow w g _).trans ho'⟩
    · simp only [storeCells, Sem.run_bind, hs, Result.andThen_ok, hr]
    · have e1 : o + i + (v :: vs).length = o + (i + 1) + vs.length := by simp; omega
      rw [e1, ht', Array.toList_setIfInBounds, show o + (i + 1) = o + i + 1 from rfl, List.take_succ_eq_append_getElem (by simpa using hlt), List.take_set_of_le (Nat.le_refl _)]
      simp

/-- append of numbers that a slice shows, onto such a row. -/
theorem run_appR {P : Program} {t e : TypeId} (E : Elem P t e .u8 1) (w : World) (ty : TypeId) (B : Nat) (v : Value) (l m : List Int) (ao : Option Addr) (B' c : Nat)
    (h : Row w B e v l) (hm : Nums w B' .u8 ao m) (hB : B ≤ w.heap.size) (hn : l.length + m.length ≤ 140737488355328) :
    ∃ v' w', (Builtin.append_ #[t, t] ty #[v, .slice ao m.length c]).run P w = .ok v' w' ∧ Row w' B e v' (l ++ m) ∧ Only v.ownBlock.toList w w' := by
  rcases h with ⟨rfl, rfl⟩ | ⟨g, cap, cur, fz, rfl, hb, hg, hf, h1, h2, h3, h4⟩
  · obtain ⟨v', w', hr, h2, h3, _⟩ := run_app E w ty B (.slice none 0 0) [] m ao B' c (Own.nil w B e .u8) hm hB (by simpa using hn) (by simp [maxLen]; simp at hn; omega)
    exact ⟨v', w', hr, Row.own h2, h3⟩
  · obtain ⟨i, hi, hz, hs, hby⟩ := E.info
    rcases ao with _ | ad
    · have hm0 : m = [] := by
        rcases m with _ | ⟨x, m⟩
        · rfl
        · obtain ⟨ad, h', _⟩ := hm 0 x rfl
          cases h'
      subst hm0
      refine ⟨_, w, ?_, .inr ⟨g, cap, cur, fz, by rw [List.append_nil], hb, hg, hf, by simpa using h1, h2, h3, by simpa using h4⟩, Only.refl _ _⟩
      simp [Builtin.append_, run_underlying E.slice, sizeOf, typeInfo, hi, Builtin.lenOf, Builtin.firstCells, h1, storeCells]
    · have hnews : ∀ j u, (m.map (Value.int .u8))[j]? = some u → w.cell? (ad.add j) = some u := fun j u hu => by
        rw [List.getElem?_map] at hu
        rcases hx' : m[j]? with _ | x
        · rw [hx'] at hu; cases hu
        · rw [hx'] at hu
          obtain ⟨ad', e', _, hc⟩ := hm j x hx'
          cases e'
          cases hu
          exact hc
      by_cases hroom : l.length + m.length ≤ cap
      · have hfc := run_firstCells_some (P := P) w i.size m.length ad m.length c (m.map (Value.int .u8)) (by simp [hs]) hnews
        obtain ⟨w', cur', hr, hg', hs', ht', ho'⟩ := row_store P e g fz (m.map (Value.int .u8)) w l.length 0 cur hg hf (by simp; omega) (fun u hu => by
          obtain ⟨x, _, rfl⟩ := List.mem_map.1 hu
          rfl)
        rw [hs] at hfc
        refine ⟨.slice (some ⟨g, 0, none⟩) (l.length + m.length) cap, w', ?_, .inr ⟨g, cap, cur', fz, by rw [List.length_append], hb, hg', by rw [hs']; exact hf, by simpa using hroom, h2, hs'.trans h3, ?_⟩, ho'⟩
        · simp [Builtin.append_, run_underlying E.slice, sizeOf, typeInfo, hi, Builtin.lenOf, hroom, hfc, Addr.add_lit, hs, hr]
        · have := ht'
          simp only [Nat.add_zero, List.length_map] at this
          rw [List.length_append, this, h4, List.map_append]
      · have holds : ∀ j u, (l.map (Value.int .u8))[j]? = some u → w.cell? ((⟨g, 0, none⟩ : Addr).add j) = some u := fun j u hu => by
          rw [List.getElem?_map] at hu
          rcases hx' : l[j]? with _ | x
          · rw [hx'] at hu; cases hu
          · rw [hx'] at hu
            cases hu
            rw [Addr.add_lit, Nat.zero_add]
            exact (show Row w B e (.slice (some ⟨g, 0, none⟩) l.length cap) l from .inr ⟨g, cap, cur, fz, rfl, hb, hg, hf, h1, h2, h3, h4⟩).cells rfl hx'
        have hr := run_append_grow (P := P) w t ty e i (.int .u8 0) E.slice hi hz ⟨g, 0, none⟩ l.length cap (l.map (Value.int .u8)) (by simp [hs]) holds ad m.length c (m.map (Value.int .u8)) (by simp [hs]) hnews (by omega) (by omega) (by rw [hby]; exact growslice_fits (by omega) (by omega))
        have hge := grownCap_ge w (l.length + m.length) cap e
        have hcm := grownCap_le_maxLen w (l.length + m.length) cap e (by unfold maxLen; omega)
        have hz1 : (Value.int IntKind.u8 0).cells.size = 1 := rfl
        refine ⟨_, _, hr, .inr ⟨w.heap.size, _, _, (0, 0), by rw [List.length_append], hB, heap_alloc_new w.drew _, by simp, by simpa using hge, hcm, ?_, ?_⟩, ⟨rfl, rfl, rfl, by simp, fun k hk _ => Below.heap_alloc _ _ _ (by simpa using hk)⟩⟩
        · simp only [Array.size_append, List.size_toArray, List.length_map, size_zeroCells, hz1]
          omega
        · have e1 : (l ++ m).length = (l.map (Value.int .u8) ++ m.map (Value.int .u8)).length := by simp
          rw [e1, List.map_append]
          simp only [Array.toList_append]
          exact List.take_left

theorem wpList_appR {P : Program} {t e : TypeId} (E : Elem P t e .u8 1) {w : World} {ops : Array Oper} {rest : List Oper} {o : Oper} {a : Act} {Q : Exit → Act → World → Prop} (hgd : Region.wanted o (yielded ops a.tmps) = true) (s x : Operand)
    (ho : o.op = .call { callee := .builtin .append, args := #[s, x], argTypes := #[t, t] })
    (B : Nat) (v : Value) (l m : List Int) (ao : Option Addr) (B' c : Nat) (hs : a.eval s = v) (hxe : a.eval x = .slice ao m.length c)
    (h : Row w B e v l) (hm : Nums w B' .u8 ao m) (hB : B ≤ w.heap.size) (hn : l.length + m.length ≤ 140737488355328)
    (hK : ∀ v' w', Row w' B e v' (l ++ m) → Only v.ownBlock.toList w w' → wpList P ops Q rest (a.put o.dst v') w') : wpList P ops Q (o :: rest) a w :=
  wpList_wanted hgd fun _ hK' => by
    obtain ⟨v', w', hr, h2, h3⟩ := run_appR E w o.type B v l m ao B' c h hm hB hn
    unfold Oper.wp execOp
    simp only [ho, resolve, invoke, builtin, Sem.run_bind, Sem.run_pure, Result.andThen_ok, List.map_toArray, List.map_cons, List.map_nil, hs, hxe, hr]
    exact hK' _ _ (hK v' w' h2 h3)

/-- append of a string's bytes onto such a row. -/
theorem run_appS {P : Program} {t u e : TypeId} (E : Elem P t e .u8 1) (hu : P.underlying u = some .string) (w : World) (ty : TypeId) (B : Nat) (v : Value) (l m : List Int) (s : ByteArray) (hsm : Lib.strCells s = m.map (Value.int .u8))
    (h : Row w B e v l) (hB : B ≤ w.heap.size) (hn : l.length + m.length ≤ 140737488355328) :
    ∃ v' w', (Builtin.append_ #[t, u] ty #[v, .string s]).run P w = .ok v' w' ∧ Row w' B e v' (l ++ m) ∧ Only v.ownBlock.toList w w' := by
  have hss : s.size = m.length := by
    have := congrArg List.length hsm
    rwa [Lib.strCells_length, List.length_map] at this
  obtain ⟨i, hi, hz, hs, hby⟩ := E.info
  rcases h with ⟨rfl, rfl⟩ | ⟨g, cap, cur, fz, rfl, hb, hg, hf, h1, h2, h3, h4⟩
  · obtain ⟨v', w', hr, h2, h3, _⟩ := Lib.run_append_own_string (P := P) w B t u ty e i E.slice hu hi hz hs hby (.slice none 0 0) 0 [] (World.ownsRow_nil _ _ _ _) s (by simp at hn; unfold maxLen; omega) (by simp at hn; omega) hB
    refine ⟨v', w', hr, Row.own ?_, Only.grown h3⟩
    unfold Own
    rw [List.nil_append, Nat.zero_add, hsm, hss] at h2
    simpa using h2
  · by_cases hroom : l.length + s.size ≤ cap
    · have hfc := Lib.run_firstCells_string (P := P) w i.size s
      obtain ⟨w', cur', hr, hg', hs', ht', ho'⟩ := row_store P e g fz (m.map (Value.int .u8)) w l.length 0 cur hg hf (by simp; omega) (fun u hu => by
        obtain ⟨x, _, rfl⟩ := List.mem_map.1 hu
        rfl)
      rw [← hsm] at hr
      rw [hs] at hfc
      refine ⟨.slice (some ⟨g, 0, none⟩) (l.length + s.size) cap, w', ?_, .inr ⟨g, cap, cur', fz, by rw [List.length_append, hss], hb, hg', by rw [hs']; exact hf, by simp; omega, h2, hs'.trans h3, ?_⟩, ho'⟩
      · simp [Builtin.append_, run_underlying E.slice, run_underlying hu, sizeOf, typeInfo, hi, Builtin.lenOf, hroom, hfc, Addr.add_lit, hs, hr]
      · have := ht'
        simp only [Nat.add_zero, List.length_map] at this
        rw [List.length_append, this, h4, List.map_append]
    · have holds : ∀ j u, (l.map (Value.int .u8))[j]? = some u → w.cell? ((⟨g, 0, none⟩ : Addr).add j) = some u := fun j u hu => by
        rw [List.getElem?_map] at hu
        rcases hx' : l[j]? with _ | x
        · rw [hx'] at hu; cases hu
        · rw [hx'] at hu
          cases hu
          rw [Addr.add_lit, Nat.zero_add]
          exact (show Row w B e (.slice (some ⟨g, 0, none⟩) l.length cap) l from .inr ⟨g, cap, cur, fz, rfl, hb, hg, hf, h1, h2, h3, h4⟩).cells rfl hx'
      have hr := Lib.run_append_grow_string (P := P) w t u ty e i (.int .u8 0) E.slice hu hi hz ⟨g, 0, none⟩ l.length cap (l.map (Value.int .u8)) (by simp [hs]) holds s (by omega) (by omega) (by rw [hby]; exact growslice_fits (by omega) (by omega))
      have hge := grownCap_ge w (l.length + s.size) cap e
      have hcm := grownCap_le_maxLen w (l.length + s.size) cap e (by unfold maxLen; omega)
      have hz1 : (Value.int IntKind.u8 0).cells.size = 1 := rfl
      refine ⟨_, _, hr, .inr ⟨w.heap.size, _, _, (0, 0), by rw [List.length_append, hss], hB, heap_alloc_new w.drew _, by simp, by simp; omega, hcm, ?_, ?_⟩, ⟨rfl, rfl, rfl, by simp, fun k hk _ => Below.heap_alloc _ _ _ (by simpa using hk)⟩⟩
      · simp only [Array.size_append, List.size_toArray, List.length_map, size_zeroCells, hz1, hsm]
        omega
      · have e1 : (l ++ m).length = (l.map (Value.int .u8) ++ m.map (Value.int .u8)).length := by simp
        rw [e1, List.map_append, hsm]
        simp only [Array.toList_append]
        exact List.take_left
theorem wpList_appS {P : Program} {t u e : TypeId} (E : Elem P t e .u8 1) (hu : P.underlying u = some .string) {w : World} {ops : Array Oper} {rest : List Oper} {o : Oper} {a : Act} {Q : Exit → Act → World → Prop} (hgd : Region.wanted o (yielded ops a.tmps) = true) (s x : Operand)
    (ho : o.op = .call { callee := .builtin .append, args := #[s, x], argTypes := #[t, u] })
    (B : Nat) (v : Value) (l m : List Int) (b : ByteArray) (hsm : Lib.strCells b = m.map (Value.int .u8)) (hs : a.eval s = v) (hxe : a.eval x = .string b)
    (h : Row w B e v l) (hB : B ≤ w.heap.size) (hn : l.length + m.length ≤ 140737488355328)
    (hK : ∀ v' w', Row w' B e v' (l ++ m) → Only v.ownBlock.toList w w' → wpList P ops Q rest (a.put o.dst v') w') : wpList P ops Q (o :: rest) a w :=
  wpList_wanted hgd fun _ hK' => by
    obtain ⟨v', w', hr, h2, h3⟩ := run_appS E hu w o.type B v l m b hsm h hB hn
    unfold Oper.wp execOp
    simp only [ho, resolve, invoke, builtin, Sem.run_bind, Sem.run_pure, Result.andThen_ok, List.map_toArray, List.map_cons, List.map_nil, hs, hxe, hr]
    exact hK' _ _ (hK v' w' h2 h3)

/-- A string's bytes as a new row. -/
theorem row_made (w : World) (B : Nat) (e : TypeId) (b : ByteArray) (m : List Int) (hsm : Lib.strCells b = m.map (Value.int .u8)) (cap : Nat) (hc : b.size ≤ cap) (hm : cap ≤ maxLen) (hB : B ≤ w.heap.size) :
    Row (w.drew.alloc (.cells (bytesRow b cap) e ((bytesRow b cap).size, (bytesRow b cap).size + 1))) B e (.slice (some ⟨w.heap.size, 0, none⟩) b.size cap) m := by
  have hss : b.size = m.length := by
    have := congrArg List.length hsm
    rwa [Lib.strCells_length, List.length_map] at this
  have hsz : (bytesRow b cap).size = cap := by
    have : b.data.size = b.size := rfl
    unfold bytesRow
    simp only [Array.size_append, Array.size_map, Array.size_replicate]
    omega
  refine .inr ⟨w.heap.size, cap, bytesRow b cap, _, by rw [hss], hB, heap_alloc_new w.drew _, fun _ => Nat.le_refl _, by omega, hm, hsz, ?_⟩
  unfold bytesRow
  have e1 : (b.data.map (fun b => Value.int .u8 b.toNat)).toList = m.map (Value.int .u8) := by
    rw [← hsm]
    simp [Lib.strCells]
  rw [Array.toList_append, e1]
  have e2 : m.length = (m.map (Value.int .u8)).length := by simp
  rw [e2]
  exact List.take_left
theorem wpList_bytes {P : Program} {src dst e : TypeId} (hs : P.underlying src = some .string) (hd : P.underlying dst = some (.slice e)) (he : P.underlying e = some (.int .u8)) {w : World} {ops : Array Oper} {rest : List Oper} {o : Oper} {a : Act} {Q : Exit → Act → World → Prop} (hgd : Region.wanted o (yielded ops a.tmps) = true)
    (x : Operand) (ho : o.op = .convert src dst x) (B : Nat) (b : ByteArray) (m : List Int) (hsm : Lib.strCells b = m.map (Value.int .u8)) (hxe : a.eval x = .string b) (hB : B ≤ w.heap.size) (hm : m.length ≤ 140737488355328)
    (hK : ∀ v' w', Row w' B e v' m → Below w.heap.size w w' → wpList P ops Q rest (a.put o.dst v') w') : wpList P ops Q (o :: rest) a w :=
  wpList_wanted hgd fun _ hK' => by
    have hss : b.size = m.length := by
      have := congrArg List.length hsm
      rwa [Lib.strCells_length, List.length_map] at this
    have hr := run_bytes_of_string (P := P) w src dst e b hs hd he
    unfold Oper.wp execOp
    simp only [ho, hxe, Sem.run_bind, hr, Result.andThen_ok]
    refine hK' _ _ (hK _ _ (row_made w B e b m hsm _ ?_ ?_ hB) ⟨rfl, rfl, rfl, by simp, fun k hk => Below.heap_alloc _ _ _ (by simpa using hk)⟩)
    · exact grownCap_ge w b.size 0 e
    · exact grownCap_le_maxLen w b.size 0 e (by unfold maxLen; omega)

end Go.Proofs.YtkmedfffmalbgaaDoor.Kys
