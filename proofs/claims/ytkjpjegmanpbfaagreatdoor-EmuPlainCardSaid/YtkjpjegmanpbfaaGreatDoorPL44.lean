/- Part 44 of the proof that the card of EmuPlain holds. -/
import Derived.Test.YtkjpjegmanpbfaaGreatDoorPL43
import Derived.Orders
import Derived.Test.YtkjpjegmanpbfaaGreatDoorPL42
import Derived.Test.YtkjpjegmanpbfaaGreatDoorPL33
set_option maxHeartbeats 16000000
set_option maxRecDepth 100000
namespace Go.Proofs.YtkjpjegmanpbfaaGreatDoor.Emu
open Go Go.Proofs.YtkjpjegmanpbfaaGreatDoor.Rw Go.Proofs.YtkjpjegmanpbfaaGreatDoor.Scn
def celP (x : Int) : Cel := ⟨x, [], 0, zeroAt⟩
def rowOf (xs : List Int) (cols : Nat) : List Cel := xs.map celP ++ List.replicate (cols - xs.length) (celP 32)
theorem rowOf_len {xs : List Int} {cols : Nat} (h : xs.length ≤ cols) : (rowOf xs cols).length = cols := by simp [rowOf]; omega
theorem flat_whole {l : List Cel} (h : ∀ c ∈ l, c.wide = 0) : Whole l := by
 have hW : ∀ i, W l i = 0 := fun i => by
  unfold W
  cases hc : l[i]? with
  | none => rfl
  | some c => exact h c (List.mem_of_getElem? hc)
 exact (whole_iff l).2 ⟨by rw [hW]; decide, fun i => by rw [hW, hW]; decide⟩
theorem rowOf_flat {xs : List Int} {cols : Nat} : ∀ c ∈ rowOf xs cols, c.wide = 0 := fun c hc => by
 rcases List.mem_append.1 hc with h | h
 ·obtain ⟨x, _, rfl⟩ := List.mem_map.1 h
  rfl
 ·rw [List.eq_of_mem_replicate h]
  rfl
theorem fresh_row (cols : Nat) : Lns.freshL cols zeroAt = rowOf [] cols := by
 have e : List.replicate cols (clr zeroAt) = rowOf [] cols := by
  show _ = List.replicate (cols - 0) (celP 32)
  rw [Nat.sub_zero]
  rfl
 unfold Lns.freshL eraL eraseL
 split
 ·unfold setL
  have e2 : splice (List.replicate cols (clr zeroAt)) (heldF 0 (List.replicate cols (clr zeroAt)).length) (List.replicate (heldF (cols : Int) (List.replicate cols (clr zeroAt)).length - heldF 0 (List.replicate cols (clr zeroAt)).length) (clr zeroAt)) = rowOf [] cols := by
   rw [List.length_replicate, show heldF 0 cols = 0 from rfl, show heldF (cols : Int) cols = cols by unfold heldF; simp]
   unfold splice
   simp [e]
  rw [e2]
  exact mendAll_whole (flat_whole rowOf_flat)
 ·exact e
theorem put_row {xs : List Int} {cols : Nat} (h : xs.length < cols) {x : Int} (hx : 97 ≤ x ∧ x ≤ 122) : putL (rowOf xs cols) (xs.length : Nat) x false zeroAt = rowOf (xs ++ [x]) cols := by
 have hl := rowOf_len (Nat.le_of_lt h)
 have hok : putOk (rowOf xs cols) (xs.length : Nat) x false zeroAt := by
  refine ⟨?_, by omega, ?_⟩
  ·unfold runeB
   simp only [Bool.and_eq_true, Bool.or_eq_true, decide_eq_true_eq]
   omega
  ·rw [hl]
   show ((xs.length : Nat) : Int) + 1 ≤ cols
   omega
 unfold putL
 rw [if_pos hok]
 unfold setL
 have e : splice (rowOf xs cols) ((xs.length : Nat) : Int).toNat (cellsPut x false zeroAt) = rowOf (xs ++ [x]) cols := by
  rw [Int.toNat_natCast]
  show splice _ _ [celP x] = _
  unfold splice rowOf
  rw [List.take_left' (by simp), List.drop_append, List.drop_eq_nil_of_le (by simp), List.nil_append]
  simp only [List.map_append, List.map_cons, List.map_nil, List.length_map, List.length_cons, List.length_nil, List.length_append, List.drop_replicate, List.append_assoc, List.cons_append, List.nil_append]
  rw [show cols - xs.length - (xs.length + (0 + 1) - xs.length) = cols - (xs.length + (0 + 1)) by omega]
 rw [e]
 exact mendAll_whole (flat_whole rowOf_flat)
def chunk (l : List Int) (cols i : Nat) : List Int := (l.drop (i * cols)).take cols
theorem chunk_len (l : List Int) (cols i : Nat) : (chunk l cols i).length ≤ cols := by simp [chunk]; omega
structure PlM (rows cols : Nat) (l : List Int) (k : Nat) (T : Ter) : Prop where
 fm : T.m = Mds.start
 fp : T.p = pen0
 oth : T.other = none
 most : T.most = 1000
 top : T.main.top = 0
 bot : T.main.bot = rows - 1
 fcols : T.main.cols = cols
 flen : T.main.L.length = rows
 all : (T.R ++ T.main.L).map (·.2) = (List.range (T.R.length + rows)).map fun i => rowOf (chunk (l.take k) cols i) cols
 frow : T.c.row < rows
 last : T.R ≠ [] → T.c.row = rows - 1
 cnt : k = (T.R.length + T.c.row) * cols + (if T.c.pend then cols else T.c.col)
 fcol : T.c.col < cols
 fpend : T.c.pend = true → T.c.col = cols - 1
 prints : T.prints = k
 few : T.R.length ≤ k
structure PlI (rows cols : Nat) (l : List Int) (k : Nat) (T : Ter) : Prop extends PlM rows cols l k T where
 nz : (if T.c.pend then cols else T.c.col) = 0 → k = 0
section
variable {rows cols k : Nat} {l : List Int} {T : Ter}
theorem PlM.vis (h : PlM rows cols l k T) : T.vis = T.main.scr T.nx 1000 true T.R := by
 unfold Ter.vis Ter.sh
 rw [h.oth, h.most]
 rfl
theorem PlM.visL (h : PlM rows cols l k T) : T.vis.L = T.main.L := by rw [h.vis]; rfl
theorem held_in {c n : Nat} (h : c < n) : heldN (c : Int) n = c := by unfold heldN; omega
theorem PlM.feed (h : PlM rows cols l k T) (hk : k ≤ 900) (hp : T.c.pend = true) (h1 : 1 ≤ rows) (hc1 : 1 ≤ cols) : PlM rows cols l k (Emu.feed (setCol T 0)) ∧ (Emu.feed (setCol T 0)).c.pend = false ∧ (Emu.feed (setCol T 0)).c.col = 0 := by
 have hv : (setCol T 0).vis = T.main.scr T.nx 1000 true T.R := h.vis
 have hcnt := h.cnt
 rw [if_pos hp] at hcnt
 have hrow := h.frow
 unfold Emu.feed
 by_cases hb : T.c.row = rows - 1
 ·have hb' : (setCol T 0).c.row = (setCol T 0).vis.bot := by rw [hv]; show T.c.row = T.main.bot; rw [h.bot]; exact hb
  rw [if_pos hb', hv]
  have hh : heldF 1 (T.main.bot + 1 - T.main.top) = 1 := by rw [h.bot, h.top]; unfold heldF; omega
  have hup : upT (T.main.scr T.nx 1000 true T.R) 1 (setCol T 0).p.a = ⟨T.nx + 1, 1000, true, T.main.cols, T.main.top, T.main.bot, T.main.L.drop 1 ++ [((T.nx : Int), rowOf [] cols)], T.R ++ T.main.L.take 1⟩ := by
   unfold upT upS
   show Scn.chg (T.main.scr T.nx 1000 true T.R) T.main.top (heldF 1 (T.main.bot + 1 - T.main.top)) (T.main.bot + 1 - heldF 1 (T.main.bot + 1 - T.main.top)) (heldF 1 (T.main.bot + 1 - T.main.top)) T.p.a (true && decide (T.main.top = 0)) = _
   rw [hh, h.top, h.fp]
   unfold Scn.chg
   have e1 : insA (outA T.main.L 0 1) (T.main.bot + 1 - 1) (freshS T.nx T.main.cols 1 pen0.a) = T.main.L.drop 1 ++ [((T.nx : Int), rowOf [] cols)] := by
    unfold insA outA freshS
    have hd : (T.main.L.drop (0 + 1)).length = T.main.bot + 1 - 1 := by rw [List.length_drop, h.flen, h.bot]; omega
    rw [List.take_zero, List.nil_append, List.take_of_length_le (Nat.le_of_eq hd), List.drop_eq_nil_of_le (Nat.le_of_eq hd), List.append_nil, h.fcols]
    simp only [List.range_one, List.map_cons, List.map_nil]
    rw [show pen0.a = zeroAt from rfl, fresh_row, show (T.nx : Int) + ((0 : Nat) : Int) = T.nx by omega]
   have e2 : pushes 1000 T.R ((T.main.L.drop 0).take 1) = T.R ++ T.main.L.take 1 := by
    rw [List.drop_zero]
    match hL : T.main.L with
    | [] => have := h.flen; rw [hL] at this; simp at this; omega
    | x :: L =>
     show Lns.pushL 1000 T.R x = _
     unfold Lns.pushL
     rw [if_neg (by have := h.few; omega)]
     rfl
   simp only [Sh.scr, e1, e2]
   simp [h.top]
  rw [hup]
  have hput : (setCol T 0).putVis ⟨T.nx + 1, 1000, true, T.main.cols, T.main.top, T.main.bot, T.main.L.drop 1 ++ [((T.nx : Int), rowOf [] cols)], T.R ++ T.main.L.take 1⟩ = { setCol T 0 with nx := T.nx + 1, R := T.R ++ T.main.L.take 1, main := { T.main with L := T.main.L.drop 1 ++ [((T.nx : Int), rowOf [] cols)] }, other := none } := by
   unfold Ter.putVis
   rw [show (setCol T 0).other = none from h.oth]
   rfl
  rw [hput]
  have hlen1 : (T.main.L.take 1).length = 1 := by rw [List.length_take, h.flen]; omega
  have hlen2 : (T.main.L.drop 1 ++ [((T.nx : Int), rowOf [] cols)]).length = rows := by rw [List.length_append, List.length_drop, h.flen, List.length_singleton]; omega
  have hpl : (place { setCol T 0 with nx := T.nx + 1, R := T.R ++ T.main.L.take 1, main := { T.main with L := T.main.L.drop 1 ++ [((T.nx : Int), rowOf [] cols)] }, other := none } (setCol T 0).c.row (setCol T 0).c.col).c = ⟨T.c.row, 0, false⟩ := by
   have e : ({ setCol T 0 with nx := T.nx + 1, R := T.R ++ T.main.L.take 1, main := { T.main with L := T.main.L.drop 1 ++ [((T.nx : Int), rowOf [] cols)] }, other := none } : Ter).vis = ⟨T.nx + 1, T.most, true, T.main.cols, T.main.top, T.main.bot, T.main.L.drop 1 ++ [((T.nx : Int), rowOf [] cols)], T.R ++ T.main.L.take 1⟩ := by
    rfl
   unfold place
   rw [e]
   show Cur.mk (heldN T.c.row _) (heldN ((0 : Nat) : Int) _) false = _
   rw [hlen2, held_in hrow, held_in (by show 0 < T.main.cols; rw [h.fcols]; exact hc1)]
  refine ⟨⟨h.fm, h.fp, rfl, h.most, h.top, h.bot, h.fcols, hlen2, ?_, ?_, fun _ => ?_, ?_, ?_, ?_, h.prints, ?_⟩, ?_, ?_⟩
  ·show ((T.R ++ T.main.L.take 1) ++ (T.main.L.drop 1 ++ [((T.nx : Int), rowOf [] cols)])).map (·.2) = (List.range ((T.R ++ T.main.L.take 1).length + rows)).map _
   rw [List.length_append, hlen1, show T.R.length + 1 + rows = (T.R.length + rows) + 1 by omega, List.range_succ, List.map_append (l₁ := List.range (T.R.length + rows)), ← h.all]
   have e3 : (T.R ++ T.main.L.take 1) ++ (T.main.L.drop 1 ++ [((T.nx : Int), rowOf [] cols)]) = (T.R ++ T.main.L) ++ [((T.nx : Int), rowOf [] cols)] := by
    rw [List.append_assoc, ← List.append_assoc (T.main.L.take 1), List.take_append_drop, List.append_assoc]
   rw [e3, List.map_append]
   congr 1
   simp only [List.map_cons, List.map_nil]
   congr 2
   unfold chunk
   rw [List.drop_eq_nil_of_le]
   ·simp
   ·have : (T.R.length + rows) * cols = (T.R.length + T.c.row) * cols + cols := by rw [hb, ← Nat.succ_mul]; congr 1; omega
    rw [List.length_take, this]
    omega
  ·rw [hpl]; exact hrow
  ·rw [hpl]; exact hb
  ·rw [hpl]
   show k = ((T.R ++ T.main.L.take 1).length + T.c.row) * cols + 0
   rw [List.length_append, hlen1, hcnt, Nat.add_zero, ← Nat.succ_mul]
   congr 1
   omega
  ·rw [hpl]; exact hc1
  ·rw [hpl]; intro h9; cases h9
  ·show (T.R ++ T.main.L.take 1).length ≤ k
   rw [List.length_append, hlen1, hcnt]
   have h5 : T.R.length * 1 ≤ T.R.length * cols := Nat.mul_le_mul_left _ hc1
   rw [Nat.add_mul]
   omega
  ·rw [hpl]
  ·rw [hpl]
 ·have hb' : ¬ (setCol T 0).c.row = (setCol T 0).vis.bot := by rw [hv]; show ¬ T.c.row = T.main.bot; rw [h.bot]; exact hb
  rw [if_neg hb']
  have hR : T.R = [] := Classical.byContradiction fun hn => hb (h.last hn)
  have hpl : (place (setCol T 0) ((setCol T 0).c.row + 1) (setCol T 0).c.col).c = ⟨T.c.row + 1, 0, false⟩ := by
   unfold place
   rw [hv]
   show Cur.mk (heldN ((T.c.row : Int) + 1) T.main.L.length) (heldN ((0 : Nat) : Int) T.main.cols) false = _
   rw [h.flen, h.fcols, held_in hc1, show ((T.c.row : Int) + 1) = ((T.c.row + 1 : Nat) : Int) by omega, held_in (by omega)]
  refine ⟨⟨h.fm, h.fp, h.oth, h.most, h.top, h.bot, h.fcols, h.flen, h.all, (by rw [hpl]; show T.c.row + 1 < rows; omega), fun hn => absurd hR hn, ?_, (by rw [hpl]; exact hc1), (by rw [hpl]; intro h9; cases h9), h.prints, h.few⟩, by rw [hpl], by rw [hpl]⟩
  rw [hpl]
  show k = (T.R.length + (T.c.row + 1)) * cols + 0
  rw [hcnt, Nat.add_zero, ← Nat.succ_mul]
  congr 1
theorem chunk_next {l : List Int} {k cols i : Nat} (hk : k < l.length) : chunk (l.take (k + 1)) cols i = if i * cols ≤ k ∧ k < (i + 1) * cols then chunk (l.take k) cols i ++ [l[k]] else chunk (l.take k) cols i := by
 have e : l.take (k + 1) = l.take k ++ [l[k]] := by rw [List.take_add_one, List.getElem?_eq_getElem hk]; rfl
 have hl : (l.take k).length = k := by rw [List.length_take]; omega
 unfold chunk
 rw [e, List.drop_append, hl]
 by_cases h1 : i * cols ≤ k
 ·rw [show i * cols - k = 0 by omega, List.drop_zero, List.take_append, List.length_drop, hl]
  by_cases h2 : k < (i + 1) * cols
  ·rw [if_pos ⟨h1, h2⟩]
   congr 1
   rw [List.take_of_length_le]
   rw [Nat.succ_mul] at h2
   simp
   omega
  ·rw [if_neg (fun h => h2 h.2)]
   rw [Nat.succ_mul] at h2
   rw [show cols - (k - i * cols) = 0 by omega]
   simp
 ·rw [if_neg (fun h => h1 h.1), @List.drop_eq_nil_of_le _ [l[k]] _ (by simp; omega), List.append_nil]
theorem PlM.line (h : PlM rows cols l k T) : Emu.line T = rowOf (chunk (l.take k) cols (T.R.length + T.c.row)) cols := by
 have e := congrArg (·[T.R.length + T.c.row]?) h.all
 have hr := h.frow
 simp only [List.getElem?_map, List.getElem?_range (show T.R.length + T.c.row < T.R.length + rows by omega)] at e
 rw [List.getElem?_append_right (by omega), show T.R.length + T.c.row - T.R.length = T.c.row by omega, List.getElem?_eq_getElem (by rw [h.flen]; exact hr)] at e
 simp only [Option.map_some, Option.some.injEq] at e
 unfold Emu.line
 rw [h.visL, List.getElem?_eq_getElem (by rw [h.flen]; exact hr)]
 exact e
theorem PlM.chunk_len (h : PlM rows cols l k T) (hp : T.c.pend = false) (hk : k ≤ l.length) : (chunk (l.take k) cols (T.R.length + T.c.row)).length = T.c.col := by
 have hc := h.cnt
 rw [hp] at hc
 have hl := h.fcol
 unfold chunk
 rw [List.length_take, List.length_drop, List.length_take]
 simp only [Bool.false_eq_true, if_false] at hc
 omega
theorem PlM.tell (h : PlM rows cols l k T) (e : Ev) : PlM rows cols l k (Emu.tell T e) := ⟨h.fm, h.fp, h.oth, h.most, h.top, h.bot, h.fcols, h.flen, h.all, h.frow, h.last, h.cnt, h.fcol, h.fpend, h.prints, h.few⟩
theorem PlM.put (h : PlM rows cols l k T) (hp : T.c.pend = false) (hk : k < l.length) (hx : 97 ≤ l[k] ∧ l[k] ≤ 122) : PlI rows cols l (k + 1) (putT T l[k] 1) := by
 have hcl := h.chunk_len hp (Nat.le_of_lt hk)
 have hli := h.line
 have hr := h.frow
 have hco := h.fcol
 have hcnt := h.cnt
 rw [hp] at hcnt
 simp only [Bool.false_eq_true, if_false] at hcnt
 have hpc : putCells T l[k] 1 = rowOf (chunk (l.take k) cols (T.R.length + T.c.row) ++ [l[k]]) cols := by
  unfold putCells
  rw [h.fm, h.fp, hli]
  show putL (rowOf (chunk (l.take k) cols (T.R.length + T.c.row)) cols) (T.c.col : Nat) l[k] false zeroAt = _
  rw [← hcl]
  exact put_row (by rw [hcl]; exact hco) hx
 have hput : Emu.putLine T (putCells T l[k] 1) = { T with main := { T.main with L := T.main.L.modify T.c.row fun p => (p.1, rowOf (chunk (l.take k) cols (T.R.length + T.c.row) ++ [l[k]]) cols) }, other := none } := by
  unfold Emu.putLine
  rw [hpc, h.vis]
  unfold Ter.putVis
  rw [h.oth]
  rfl
 have hpl : (putT T l[k] 1).c = ⟨T.c.row, if T.c.col + 1 < cols then T.c.col + 1 else cols - 1, decide (¬ T.c.col + 1 < cols)⟩ := by
  unfold putT behind place
  rw [hput]
  show Cur.mk (heldN T.c.row (List.length (T.main.L.modify T.c.row _))) (heldN ((T.c.col + 1 : Nat) : Int) T.main.cols) (T.m.a4 && decide (heldN ((T.c.col + 1 : Nat) : Int) T.main.cols < T.c.col + 1)) = _
  rw [List.length_modify, h.flen, held_in hr, h.fcols, h.fm]
  have e : heldN ((T.c.col + 1 : Nat) : Int) cols = if T.c.col + 1 < cols then T.c.col + 1 else cols - 1 := by
   unfold heldN
   split <;> omega
  rw [e]
  congr 1
  show (true && _) = _
  rw [Bool.true_and]
  by_cases hh : T.c.col + 1 < cols
  ·rw [if_pos hh]
   simp [hh]
  ·rw [if_neg hh]
   simp [hh]
   omega
 have hfix : ∀ (X : Ter), X = Emu.putLine T (putCells T l[k] 1) → (putT T l[k] 1).R = X.R ∧ (putT T l[k] 1).main = X.main ∧ (putT T l[k] 1).m = X.m ∧ (putT T l[k] 1).p = X.p ∧ (putT T l[k] 1).other = X.other ∧ (putT T l[k] 1).most = X.most ∧ (putT T l[k] 1).prints = X.prints + 1 := fun X hX => by
  subst hX
  exact ⟨rfl, rfl, rfl, rfl, rfl, rfl, rfl⟩
 obtain ⟨fR, fM, fm, fp, fo, fs, fq⟩ := hfix _ hput.symm
 simp only at fR fM fm fp fo fs fq
 refine ⟨⟨fm.trans h.fm, fp.trans h.fp, fo, fs.trans h.most, by rw [fM]; exact h.top, by rw [fM]; exact h.bot, by rw [fM]; exact h.fcols, by rw [fM]; show List.length (List.modify _ _ _) = _; rw [List.length_modify]; exact h.flen, ?_, by rw [hpl]; exact hr, fun hn => ?_, ?_, ?_, fun hq => ?_, by rw [fq, h.prints], by rw [fR]; have := h.few; omega⟩, fun hz => ?_⟩
 ·rw [fR, fM]
  show (T.R ++ T.main.L.modify T.c.row fun p => (p.1, rowOf (chunk (l.take k) cols (T.R.length + T.c.row) ++ [l[k]]) cols)).map (·.2) = _
  apply List.ext_getElem?
  intro i
  have e := congrArg (·[i]?) h.all
  simp only [List.getElem?_map] at e ⊢
  rcases Nat.lt_or_ge i (T.R.length + rows) with hi | hi
  ·rw [List.getElem?_range hi] at e ⊢
   simp only [Option.map_some] at e ⊢
   rw [chunk_next hk]
   rcases Nat.lt_or_ge i T.R.length with h1 | h1
   ·rw [List.getElem?_append_left h1] at e ⊢
    rw [e, if_neg]
    intro hh
    have := Nat.mul_le_mul_right cols (show i + 1 ≤ T.R.length + T.c.row by omega)
    omega
   ·rw [List.getElem?_append_right h1] at e ⊢
    rw [List.getElem?_modify]
    have hil : i - T.R.length < T.main.L.length := by rw [h.flen]; omega
    rw [List.getElem?_eq_getElem hil] at e ⊢
    simp only [Option.map_eq_map, Option.map_some, Option.some.injEq] at e ⊢
    by_cases hy : T.c.row = i - T.R.length
    ·rw [if_pos hy, if_pos]
     ·have hi' : T.R.length + T.c.row = i := by omega
      show rowOf (chunk (l.take k) cols (T.R.length + T.c.row) ++ [l[k]]) cols = _
      rw [hi']
     ·have hi' : i = T.R.length + T.c.row := by omega
      rw [hi', Nat.succ_mul]
      omega
    ·rw [if_neg hy, if_neg]
     ·exact e
     ·intro hh
      rcases Nat.lt_or_ge i (T.R.length + T.c.row) with h3 | h3
      ·have := Nat.mul_le_mul_right cols (show i + 1 ≤ T.R.length + T.c.row by omega)
       omega
      ·have h4 := Nat.mul_le_mul_right cols (show T.R.length + T.c.row + 1 ≤ i by omega)
       rw [Nat.succ_mul] at h4
       omega
  ·rw [List.getElem?_eq_none (by rw [List.length_append, List.length_modify, h.flen]; exact hi), List.getElem?_eq_none (by simpa using hi)]
   rfl
 ·rw [hpl]
  rw [fR] at hn
  exact h.last hn
 ·rw [hpl, fR]
  by_cases hh : T.c.col + 1 < cols
  ·simp only [hh, not_true, decide_false, Bool.false_eq_true, if_false, if_true]
   omega
  ·simp only [hh, not_false_iff, decide_true, if_true]
   omega
 ·rw [hpl]
  show (if T.c.col + 1 < cols then T.c.col + 1 else cols - 1) < cols
  split <;> omega
 ·rw [hpl] at hq ⊢
  simp only [decide_eq_true_eq] at hq
  show (if T.c.col + 1 < cols then T.c.col + 1 else cols - 1) = cols - 1
  rw [if_neg hq]
 ·rw [hpl] at hz
  exfalso
  by_cases hh : T.c.col + 1 < cols
  ·simp [hh] at hz
  ·simp [hh] at hz
   omega
theorem PlI.print (h : PlI rows cols l k T) (hk : k < l.length) (hk9 : k ≤ 900) (hx : 97 ≤ l[k] ∧ l[k] ≤ 122) (h1 : 1 ≤ rows) (hc1 : 1 ≤ cols) : PlI rows cols l (k + 1) (doT T (prA l[k])) := by
 have e0 : doT T (prA l[k]) = printT T l[k] := by unfold doT; rw [if_pos (show (prA l[k]).kind = 1 from rfl)]; rfl
 have e1 : Cht.charsetF (if T.p.wh then T.p.g1 else T.p.g0) l[k] = l[k] := by rw [h.fp]; rfl
 have e2 : Cht.widthF l[k] = 1 := by
  have := Cht.charset_width 0 l[k] (by omega) (by omega)
  rwa [show Cht.charsetF 0 l[k] = l[k] from rfl] at this
 have hcv : T.vis.cols = cols := by rw [h.vis]; exact h.fcols
 have e3 : tight T 1 = false := by
  unfold tight
  rw [hcv]
  have := h.fcol
  exact decide_eq_false (by omega)
 have e4 : printT T l[k] = putT (makeWay T 1) l[k] 1 := by
  unfold printT
  simp only [e1, e2, hcv]
  rw [if_neg (by decide), if_neg (by omega)]
  rfl
 rw [e0, e4]
 unfold makeWay
 rw [e3, Bool.or_false, h.fm]
 cases hp : T.c.pend with
 | true =>
  simp only [show (Mds.start).a4 = true from rfl, Bool.and_true, if_true]
  obtain ⟨g, g1, g2⟩ := h.toPlM.feed hk9 hp h1 hc1
  exact (g.tell _).put g1 hk hx
 | false =>
  simp only [Bool.and_false, Bool.false_eq_true, if_false]
  exact h.toPlM.put hp hk hx
theorem PlI.new (h1 : 1 ≤ rows) (hc1 : 1 ≤ cols) (l : List Int) : PlI rows cols l 0 (newT rows cols 1000) := by
 refine ⟨⟨rfl, rfl, rfl, rfl, rfl, rfl, rfl, freshS_len _ _ _ _, ?_, h1, fun hn => absurd rfl hn, ?_, hc1, fun hp => (by cases hp), rfl, Nat.le_refl _⟩, fun _ => rfl⟩
 ·show (freshS 1 cols rows zeroAt).map (·.2) = (List.range (0 + rows)).map _
  rw [Nat.zero_add]
  unfold freshS
  rw [List.map_map]
  apply List.map_congr_left
  intro i _
  show Lns.freshL cols zeroAt = _
  rw [fresh_row]
  simp [chunk]
 ·show 0 = (0 + 0) * cols + 0
  omega
def lets (r : List Cel) : List Int := (r.filter fun c => c.r != 32).map (·.r)
theorem lets_row {xs : List Int} {cols : Nat} (h : ∀ x ∈ xs, 97 ≤ x ∧ x ≤ 122) : lets (rowOf xs cols) = xs := by
 unfold lets rowOf
 rw [List.filter_append, List.map_append]
 have e1 : ((xs.map celP).filter fun c => c.r != 32) = xs.map celP := by
  rw [List.filter_eq_self]
  intro c hc
  obtain ⟨x, hx, rfl⟩ := List.mem_map.1 hc
  have := h x hx
  show (x != 32) = true
  simp only [bne_iff_ne, ne_eq]
  omega
 have e2 : ((List.replicate (cols - xs.length) (celP 32)).filter fun c => c.r != 32) = [] := by
  rw [List.filter_eq_nil_iff]
  intro c hc
  rw [List.eq_of_mem_replicate hc]
  decide
 rw [e1, e2, List.map_map]
 simp only [List.map_nil, List.append_nil]
 exact (List.map_congr_left fun x _ => rfl).trans (List.map_id xs)
theorem chunks_all (l : List Int) (cols : Nat) (N : Nat) : ((List.range N).map fun i => chunk l cols i).flatten = l.take (N * cols) := by
 induction N with
 | zero => simp
 | succ N ih =>
  rw [List.range_succ, List.map_append, List.flatten_append, ih]
  simp only [List.map_cons, List.map_nil, List.flatten_cons, List.flatten_nil, List.append_nil]
  unfold chunk
  rw [Nat.succ_mul, List.take_add]
theorem PlI.told (h : PlI rows cols l k T) (hk : k = l.length) (hl : ∀ x ∈ l, 97 ≤ x ∧ x ≤ 122) (h1 : 1 ≤ rows) (hc1 : 1 ≤ cols) :
  ((T.R.map (·.2) ++ T.vis.L.map (·.2)).map lets).flatten = l ∧ T.R.length + T.vis.L.length = max rows (max ((k + cols - 1) / cols) 1) ∧ T.prints = k := by
 have hr := h.frow
 have hcnt := h.cnt
 have hc := h.fcol
 rw [h.visL]
 refine ⟨?_, ?_, h.prints⟩
 ·rw [← List.map_append, h.all, List.map_map]
  have e : (lets ∘ fun i => rowOf (chunk (l.take k) cols i) cols) = fun i => chunk (l.take k) cols i := by
   funext i
   show lets (rowOf _ _) = _
   refine lets_row fun x hx => hl x ?_
   exact List.mem_of_mem_take (List.mem_of_mem_drop (List.mem_of_mem_take hx))
  rw [e, chunks_all, List.take_take, hk]
  rw [List.take_of_length_le]
  have h3 : k ≤ (T.R.length + rows) * cols := by
   have h4 := Nat.mul_le_mul_right cols (show T.R.length + T.c.row + 1 ≤ T.R.length + rows by omega)
   rw [Nat.succ_mul] at h4
   have h5 : (if T.c.pend = true then cols else T.c.col) ≤ cols := by split <;> omega
   omega
  omega
 ·rw [h.flen]
  have hN : T.R.length + rows = max rows (T.R.length + T.c.row + 1) := by
   by_cases hR : T.R = []
   ·rw [hR]
    simp only [List.length_nil]
    omega
   ·have := h.last hR
    omega
  rw [hN]
  congr 1
  have hnz := h.nz
  have hz : (if T.c.pend = true then cols else T.c.col) ≤ cols := by split <;> omega
  generalize (if T.c.pend = true then cols else T.c.col) = z at hcnt hnz hz
  by_cases hz0 : z = 0
  ·have hk0 := hnz hz0
   rw [hk0]
   have h6 : (T.R.length + T.c.row) = 0 := by
    rw [hk0, hz0] at hcnt
    have : (T.R.length + T.c.row) * cols = 0 := by omega
    rcases Nat.mul_eq_zero.1 this with h7 | h7
    ·exact h7
    ·omega
   rw [h6, Nat.zero_add, Nat.div_eq_of_lt (by omega)]
   omega
  ·have e : (k + cols - 1) / cols = T.R.length + T.c.row + 1 := by
    rw [hcnt]
    rw [show (T.R.length + T.c.row) * cols + z + cols - 1 = (z - 1) + (T.R.length + T.c.row + 1) * cols by rw [Nat.succ_mul]; omega, Nat.add_mul_div_right _ _ (by omega), Nat.div_eq_of_lt (by omega)]
    omega
   rw [e]
   omega
end
end Go.Proofs.YtkjpjegmanpbfaaGreatDoor.Emu
namespace Go.Proofs.YtkjpjegmanpbfaaGreatDoor.Emu
open Go Go.RowKit Go.Proofs.YtkjpjegmanpbfaaGreatDoor.Com Go.Proofs.YtkjpjegmanpbfaaGreatDoor.Rw Go.Proofs.YtkjpjegmanpbfaaGreatDoor.Lns Go.Proofs.YtkjpjegmanpbfaaGreatDoor.Scn
section
variable {w w' : World}
def base0 (most : Nat) : Ter := ⟨Mds.none0, cur0, pen0, 1, most, [], ⟨0, 0, 0, [], sav0⟩, none, 0, fun _ => false, 0, ev0, [], []⟩
def termZ (s : Nat) : Array Value := #[.bool false, .bool false, .bool false, .bool false, .bool false, .bool false, .bool false, .bool false, .int .i64 0, .int .i64 0, .bool false, .int .u32 0, .int .u32 0, .int .u16 0, .int .u8 0, .int .u8 0, .int .i64 0, .pointer (some ⟨s, 0, none⟩), .pointer none, .pointer none, .pointer none, .int .u64 0,
 .int .u8 0, .int .u64 0, .int .i64 0, .int .i64 0, .bool false, .int .i32 0, .bool false, .bool false, .bool false, .bool false, .slice none 0 0, .slice none 0 0]
theorem termZ_eq (s most : Nat) : termZ s = terB (base0 most) s (.pointer none) (.pointer none) (.pointer none) (.slice none 0 0) (.slice none 0 0) := by kernel_rfl
def Newly (w : World) (T : Ter) (e : Ending) (w' : World) : Prop := ∃ d t, e = .returned (.tuple #[.pointer (some ⟨d, 0, none⟩), .int .i64 0]) ∧ w.heap.size ≤ d ∧ Block w' d 30 #[.pointer (some ⟨t, 0, none⟩)] ∧ TM (fun k => w.heap.size ≤ k) w' t T ∧ Below w.heap.size w w'
theorem sx_zero {B s nx most : Nat} {sv : Value} {R : List En} (h : SX B w s nx most sv R) : SX 0 w s nx most sv R := by
 obtain ⟨⟨o, P, h0, hR⟩, hg⟩ := h
 refine ⟨⟨o, P, ⟨h0.blk, ⟨h0.own.1, ?_⟩, h0.le, h0.old, h0.olt, h0.most, h0.pos, h0.small, Nat.zero_le _⟩, hR⟩, fun e he => ?_⟩
 ·rcases h0.own.2 with h2 | ⟨g, cap, cur, e, _, r⟩
  ·exact .inl h2
  ·exact .inr ⟨g, cap, cur, e, Nat.zero_le _, r⟩
 ·obtain ⟨g1, _, _, g4⟩ := hg e he
  exact ⟨g1, Nat.zero_le _, Nat.zero_le _, g4⟩
theorem tnew_yes (hT : Tbl w) (rows cols most : Nat) (hr1 : 1 ≤ rows) (hr5 : rows ≤ 512) (hc1 : 1 ≤ cols) (hc5 : cols ≤ 512) (hm : most ≤ 10000) : Calls Tryz.prog 18 #[.int .i64 rows, .int .i64 cols, .int .i64 most] w (Newly w (newT rows cols most)) := by
 have hln := Lib.hid (new_yes most hm w)
 have hbg : Hid (∀ w1, SX w.heap.size w1 w.heap.size 1 most (.slice none 0 0) [] → Below w.heap.size w w1 → Calls Tryz.prog 31 #[.pointer (some ⟨w1.heap.size, 0, none⟩), .int .i64 rows, .int .i64 cols] (w1.alloc (.cells (termZ w.heap.size) 88)) fun e w' => e = .returned (.int .i64 0) ∧ TM (fun k => w.heap.size ≤ k) w' w1.heap.size (newT rows cols most) ∧ Below w.heap.size w w') := Lib.hid fun w1 hs hb => by
  have hba := below_new w1 (.cells (termZ w.heap.size) 88)
  have hb2 := below_next hb hba
  have hbl := Block.made w1 88 (termZ w.heap.size)
  rw [termZ_eq w.heap.size most] at hbl
  have hsz := hb.size
  have h6 := hT.1
  have hbare : Bare (fun k => w.heap.size ≤ k) (w1.alloc (.cells (termZ w.heap.size) 88)) w1.heap.size (base0 most) w.heap.size (.slice none 0 0) (.slice none 0 0) (.pointer none) (.pointer none) (.pointer none) :=
   ⟨by rw [termZ_eq w.heap.size most]; exact hbl, World.ownsRow_nil _ _ _ _, Kys.Row.nil _ _ _, hsz, fun g hg => (by cases hg), fun g hg => (by cases hg), fun k hk => Nat.le_trans hb2.size hk, fun k hk hz => (by omega), hT.below hb2⟩
  have hsto : Sto (fun k => w.heap.size ≤ k) (w1.alloc (.cells (termZ w.heap.size) 88)) w.heap.size 1 most (.slice none 0 0) [] :=
   ⟨(sx_zero hs).below hba, ⟨Nat.le_refl _, fun g hg => (by cases hg), fun e he => (by cases he), fun k hk => Nat.le_trans hb2.size hk⟩, by simp, by simp⟩
  refine (begin_any (T := base0 most) hbare hsto rows cols hr1 hr5 hc1 hc5 (by show 1 + 512 ≤ 1000000; omega)).mono fun e w' ⟨he, h1, hf⟩ => ⟨he, h1, ?_⟩
  exact ⟨hf.os.trans hb2.os, hf.tape.trans hb2.tape, hf.output.trans hb2.output, Nat.le_trans hb2.size hf.size, fun k hk => (hf.block k (Nat.lt_of_lt_of_le hk hb2.size) (.inl (by omega))).trans (hb2.block k hk)⟩
 simp only [termZ] at hbg
 generalize newT rows cols most = T at hbg ⊢
 clear hT
 go_enter Tryz.func18, Tryz.ntmps18
 go_wp2_with (first
  | (go_at_call 30; (with_reducible refine (hln.out).mono ?_); rintro e w1 ⟨rfl, hs, hb1⟩)
  | (go_at_call 31; (with_reducible refine (hbg.out _ hs hb1).mono ?_); rintro e w3 ⟨rfl, h3, hb3⟩))
 have hb4 := below_new w3 (.cells #[.pointer (some ⟨w1.heap.size, 0, none⟩)] 30)
 go_ret2
 exact ⟨_, _, rfl, hb3.size, Block.made w3 30 #[.pointer (some ⟨w1.heap.size, 0, none⟩)], h3.below hb4, below_next hb3 hb4⟩
end
structure TV (Z : Zn) (w : World) (d t : Nat) (T : Ter) : Prop where
 blk : Block w d 30 #[.pointer (some ⟨t, 0, none⟩)]
 tm : TM Z w t T
section
variable {Z : Zn} {w w' : World} {d t : Nat} {T : Ter} {x : AcT} {pa ia ta : Option Addr} {pn pc ic tn tc : Nat}
theorem TV.below (h : TV Z w d t T) (hb : Below w.heap.size w w') : TV Z w' d t T := ⟨Block.only h.blk (Only.of_below hb []) (by simp), h.tm.below hb⟩
theorem TV.turn {T' : Ter} (h : TV Z w d t T) (h1 : TM Z w' t T') (hf : Scn.Fr Z TT w w') : TV Z w' d t T' := ⟨Scn.Block.fr h.blk hf (.inl (by decide)), h1⟩
theorem isMade_yes (h : TV Z w d t T) : Calls Tryz.prog 24 #[.pointer (some ⟨d, 0, none⟩)] w fun e w' => e = .returned (.bool true) ∧ w = w' := by
 have c0 := h.blk.cell 0 (v := .pointer (some ⟨t, 0, none⟩)) rfl
 clear h
 go_enter Tryz.func24, Tryz.ntmps24
 go_wp2
 go_ret
 exact ⟨rfl, rfl⟩
theorem tdo_any (h : TV Z w d t T) (ok : Ok T) (hw : Wf x) (hR : Roomy T x) (hp : NA Z w (.slice pa pn pc) x.params) (hra : RA Z w ia x.inter) : Calls Tryz.prog 9 #[.pointer (some ⟨d, 0, none⟩), .agg #[.int .u8 x.kind, .int .i32 x.r, .int .i32 x.priv, .slice pa pn pc, .slice ia x.inter.length ic, .int .i32 x.fin, .slice ta tn tc]] w fun e w' => e = .returned (.int .i64 0) ∧ TV Z w' d t (doT T x) ∧ Scn.Fr Z TT w w' := by
 have hbn := below_new w (.cells #[.int .u8 x.kind, .int .i32 x.r, .int .i32 x.priv, .slice pa pn pc, .slice ia x.inter.length ic, .int .i32 x.fin, .slice ta tn tc] 25)
 have hbx := Block.made w 25 #[.int .u8 x.kind, .int .i32 x.r, .int .i32 x.priv, .slice pa pn pc, .slice ia x.inter.length ic, .int .i32 x.fin, .slice ta tn tc]
 have hm := Lib.hid (isMade_yes (h.below hbn))
 have hdo := Lib.hid (fun w1 (hb : Below w.heap.size w w1) => do_any (pa := pa) (pn := pn) (pc := pc) (ia := ia) (ic := ic) (ta := ta) (tn := tn) (tc := tc) (h.below hb).tm ok hw hR (hp.below hb) (hra.below hb))
 have hcd := Lib.hid (fun w1 (hb : Below w.heap.size w w1) => (h.below hb).blk.cell 0 (v := .pointer (some ⟨t, 0, none⟩)) rfl)
 have hend := Lib.hid (fun w1 w2 (hb : Below w.heap.size w w1) (h2 : TM Z w2 t (doT T x)) (hf : Scn.Fr Z TT w1 w2) => (⟨(h.below hb).turn h2 hf, (Scn.Fr.of_below hb).trans hf⟩ : TV Z w2 d t (doT T x) ∧ Scn.Fr Z TT w w2))
 generalize doT T x = T2 at hdo hend ⊢
 generalize x.inter.length = im at *
 generalize x.fin = f at *
 generalize x.r = r at *
 generalize x.priv = pr at *
 generalize x.kind = k at *
 clear h ok hw hR hp hra
 go_enter Tryz.func9, Tryz.ntmps9
 go_upto_region 1 with (fail)
 generalize w.alloc (.cells #[.int .u8 k, .int .i32 r, .int .i32 pr, .slice pa pn pc, .slice ia im ic, .int .i32 f, .slice ta tn tc] 25) = w0 at hbn hbx hm ⊢
 have hxk := fun k' : Eqt.Ext w0 => Block.only hbx (Only.of_below k'.below []) (by simp)
 have x0 := fun k' : Eqt.Ext w0 => (hxk k').cell 0 (v := .int .u8 k) rfl
 have x1 := fun k' : Eqt.Ext w0 => (hxk k').cell 1 (v := .int .i32 r) rfl
 have x2 := fun k' : Eqt.Ext w0 => (hxk k').cell 2 (v := .int .i32 pr) rfl
 have x3 := fun k' : Eqt.Ext w0 => (hxk k').cell 3 (v := .slice pa pn pc) rfl
 have x4 := fun k' : Eqt.Ext w0 => (hxk k').cell 4 (v := .slice ia im ic) rfl
 have x5 := fun k' : Eqt.Ext w0 => (hxk k').cell 5 (v := .int .i32 f) rfl
 have x6 := fun k' : Eqt.Ext w0 => (hxk k').cell 6 (v := .slice ta tn tc) rfl
 have cd := fun k' : Eqt.Ext w0 => hcd.out _ (below_next hbn k'.below)
 clear hbx hxk
 go_wp2_with ((go_at_call 24; (with_reducible refine (hm.out).mono ?_); rintro e w1 ⟨rfl, rfl⟩))
 refine Eqt.region_ext_tail 5 (by kernel_rfl) (by kernel_rfl) ?_
 simp only [List.take_succ_cons, List.take_zero, List.drop_succ_cons, List.drop_zero]
 repeat (go_big_quiet_step (fail))
 refine wpQuiet_nil ?_
 intro w9 hw9
 obtain ⟨k9, rfl⟩ := hw9
 have hb9 := k9.below
 generalize k9.w = w9 at hb9 ⊢
 have hb := below_next hbn hb9
 go_wp2_with ((go_at_call 25; (with_reducible refine (hdo.out _ hb).mono ?_); rintro e w3 ⟨⟨v3, rfl⟩, h3, hf3⟩))
 go_ret
 exact ⟨rfl, hend.out _ _ hb h3 hf3⟩
theorem tprints_any (h : TV Z w d t T) : Calls Tryz.prog 17 #[.pointer (some ⟨d, 0, none⟩)] w fun e w' => e = .returned (.int .u64 T.prints) ∧ w = w' := by
 have hm := Lib.hid (isMade_yes h)
 have c0 := h.blk.cell 0 (v := .pointer (some ⟨t, 0, none⟩)) rfl
 obtain ⟨P, hT⟩ := h.tm
 have c21 := hT.c21
 clear h hT
 go_enter Tryz.func17, Tryz.ntmps17
 go_wp2_with ((go_at_call 24; (with_reducible refine (hm.out).mono ?_); rintro e w1 ⟨rfl, rfl⟩))
 go_ret
 exact ⟨rfl, rfl⟩
end
end Go.Proofs.YtkjpjegmanpbfaaGreatDoor.Emu
