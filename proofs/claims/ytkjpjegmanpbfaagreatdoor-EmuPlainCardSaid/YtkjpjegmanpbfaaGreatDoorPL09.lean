/- Part 9 of the proof that the card of EmuPlain holds. -/
import Derived.Test.YtkjpjegmanpbfaaGreatDoorPL08
set_option maxHeartbeats 16000000
set_option maxRecDepth 100000
namespace Go.Proofs.YtkjpjegmanpbfaaGreatDoor.Scn
open Go Go.RowKit Go.Proofs.YtkjpjegmanpbfaaGreatDoor.Com Go.Proofs.YtkjpjegmanpbfaaGreatDoor.Rw Go.Proofs.YtkjpjegmanpbfaaGreatDoor.Lns
def PT : List TypeId := [142, 119, 151, 154, 157]
def NoPT (ts : List TypeId) : Prop := ∀ t ∈ PT, t ∉ ts
abbrev Zn := Nat → Prop
structure Fr (B : Zn) (ts : List TypeId) (w w' : World) : Prop where
 os : w'.os = w.os
 tape : w'.tape = w.tape
 output : w'.output = w.output
 size : w.heap.size ≤ w'.heap.size
 block : ∀ k, k < w.heap.size → (¬ B k ∨ ∀ t ∈ ts, ¬ Typ w k t) → w'.heap[k]? = w.heap[k]?
theorem Fr.refl (B : Zn) (ts : List TypeId) (w : World) : Fr B ts w w := ⟨rfl, rfl, rfl, Nat.le_refl _, fun _ _ _ => rfl⟩
theorem Fr.trans {B : Zn} {ts : List TypeId} {a b c : World} (h : Fr B ts a b) (g : Fr B ts b c) : Fr B ts a c :=
 ⟨g.os.trans h.os, g.tape.trans h.tape, g.output.trans h.output, Nat.le_trans h.size g.size, fun k hk hn => by
  have e := h.block k hk hn
  refine (g.block k (Nat.lt_of_lt_of_le hk h.size) (hn.imp id fun hn t ht hT => hn t ht ?_)).trans e
  obtain ⟨cs, fz, hT⟩ := hT
  exact ⟨cs, fz, e ▸ hT⟩⟩
theorem Fr.mono {B : Zn} {ts ts' : List TypeId} {a b : World} (h : Fr B ts a b) (hs : ∀ t ∈ ts, t ∈ ts') : Fr B ts' a b :=
 ⟨h.os, h.tape, h.output, h.size, fun k hk hn => h.block k hk (hn.imp id fun hn t ht => hn t (hs t ht))⟩
theorem Fr.zone {B B' : Zn} {ts : List TypeId} {a b : World} (h : Fr B ts a b) (hB : ∀ k, B k → B' k) : Fr B' ts a b :=
 ⟨h.os, h.tape, h.output, h.size, fun k hk hn => h.block k hk (hn.imp (fun hn hb => hn (hB k hb)) id)⟩
theorem Fr.of_below {B : Zn} {ts : List TypeId} {a b : World} (h : Below a.heap.size a b) : Fr B ts a b := ⟨h.os, h.tape, h.output, h.size, fun k hk _ => h.block k hk⟩
theorem Fr.of_only {B : Zn} {ts : List TypeId} {L : List Nat} {a b : World} (h : Only L a b) (hL : ∀ k ∈ L, k < a.heap.size → B k ∧ ∃ t ∈ ts, Typ a k t) : Fr B ts a b :=
 ⟨h.os, h.tape, h.output, h.size, fun k hk hn => h.block k hk fun hm => by
  obtain ⟨h1, t, ht, hT⟩ := hL k hm hk
  rcases hn with hn | hn
  ·exact hn h1
  ·exact hn t ht hT⟩
theorem Block.fr {B : Zn} {ts : List TypeId} {a b : World} {g : Nat} {t : TypeId} {cs : Array Value} (h : Block a g t cs) (hf : Fr B ts a b) (ht : t ∉ ts ∨ ¬ B g) : Block b g t cs :=
 (hf.block g h.lt (ht.symm.imp id fun ht t' ht' hT => ht (by rw [Typ.inj (Block.typ h) hT]; exact ht'))).trans h
theorem owns_fr {B' : Zn} {ts : List TypeId} {w w' : World} {B : Nat} {e : TypeId} {s n : Nat} {v : Value} {xs : List Value} (h : w.ownsRow B e s v n xs) (hf : Fr B' ts w w') (ht : e ∉ ts) : w'.ownsRow B e s v n xs := by
 refine ⟨h.1, ?_⟩
 rcases h.2 with h2 | ⟨g, cap, cur, rfl, hg, hh, r⟩
 ·exact .inl h2
 ·exact .inr ⟨g, cap, cur, rfl, hg, (hf.block g (lt_of_block hh) (.inr fun t' ht' hT => ht (by rw [Typ.inj (w := w) ⟨cur, _, hh⟩ hT]; exact ht'))).trans hh, r⟩
theorem rowG_fr {B' : Zn} {ts : List TypeId} {w w' : World} {e : En} (h : RowG 0 w e) (hf : Fr B' ts w w') (hn : NoPT ts) : RowG 0 w' e := by
 obtain ⟨h1, h2, h3, n, cap, tail, hx⟩ := h
 exact ⟨h1, h2, h3, n, cap, tail, ⟨Block.fr hx.ptr hf (.inl (hn _ (by simp [PT]))), Block.fr hx.row hf (.inl (hn _ (by simp [PT]))), hx.len, hx.le, hx.cap, hx.pos, hx.small⟩⟩
theorem sx_fr {B' : Zn} {ts : List TypeId} {w w' : World} {s nx most : Nat} {sv : Value} {R : List En} (h : SX 0 w s nx most sv R) (hf : Fr B' ts w w') (hn : NoPT ts) : SX 0 w' s nx most sv R := by
 obtain ⟨⟨o, P, h0, hR⟩, hg⟩ := h
 exact ⟨⟨o, P, ⟨Block.fr h0.blk hf (.inl (hn _ (by simp [PT]))), owns_fr h0.own hf (hn _ (by simp [PT])), h0.le, h0.old, h0.olt, h0.most, h0.pos, h0.small, h0.lo⟩, hR⟩, fun e he => rowG_fr (hg e he) hf hn⟩
structure LoX (B : Zn) (w : World) (x s : Nat) (sv lv : Value) (R : List En) : Prop where
 x : B x
 s : B s
 l : ∀ g, lv.ownBlock = some g → B g
 p : ∀ g, sv.ownBlock = some g → B g
 r : ∀ e ∈ R, B e.d ∧ B e.g
 up : ∀ k, w.heap.size ≤ k → B k
theorem LoX.grow {B : Zn} {w w' : World} {x s : Nat} {sv lv : Value} {R : List En} (h : LoX B w x s sv lv R) (hs : w.heap.size ≤ w'.heap.size) : LoX B w' x s sv lv R :=
 ⟨h.x, h.s, h.l, h.p, h.r, fun k hk => h.up k (Nat.le_trans hs hk)⟩
theorem LoX.lines {B : Zn} {w w' : World} {x s : Nat} {sv lv lv' : Value} {R : List En} (h : LoX B w x s sv lv R) (hs : w.heap.size ≤ w'.heap.size) (hl : lv'.ownBlock = lv.ownBlock ∨ ∃ g, lv'.ownBlock = some g ∧ w.heap.size ≤ g) : LoX B w' x s sv lv' R :=
 ⟨h.x, h.s, fun g hg => by
  rcases hl with hl | ⟨g', hl, hge⟩
  ·exact h.l g (hl ▸ hg)
  ·rw [hl] at hg
   cases hg
   exact h.up _ hge, h.p, h.r, fun k hk => h.up k (Nat.le_trans hs hk)⟩
theorem LoX.store {B : Zn} {w w' : World} {x s : Nat} {sv sv' lv : Value} {R R' : List En} (h : LoX B w x s sv lv R) (hs : w.heap.size ≤ w'.heap.size) (hl : sv'.ownBlock = sv.ownBlock ∨ ∃ g, sv'.ownBlock = some g ∧ w.heap.size ≤ g) (hr : ∀ e ∈ R', B e.d ∧ B e.g) : LoX B w' x s sv' lv R' :=
 ⟨h.x, h.s, h.l, fun g hg => by
  rcases hl with hl | ⟨g', hl, hge⟩
  ·exact h.p g (hl ▸ hg)
  ·rw [hl] at hg
   cases hg
   exact h.up _ hge, hr, fun k hk => h.up k (Nat.le_trans hs hk)⟩
structure LnX (B : Zn) (w : World) (x s nx most : Nat) (kp : Bool) (cols : Nat) (sv lv : Value) (top bot n : Nat) (xs : List Value) (R : List En) : Prop where
 blk : Block w x 142 #[.pointer (some ⟨s, 0, none⟩), .bool kp, .int .i64 cols, lv, .int .i64 top, .int .i64 bot]
 own : w.ownsRow 0 151 2 lv n xs
 st : SX 0 w s nx most sv R
 apart : ∀ g, lv.ownBlock = some g → sv.ownBlock ≠ some g
 lo : LoX B w x s sv lv R
 small : n ≤ 1000
section
variable {B : Zn} {w w' : World} {x s nx most cols top bot n : Nat} {kp : Bool} {sv lv : Value} {xs : List Value} {R : List En} {L : List Nat}
theorem LnX.cells (h : LnX B w x s nx most kp cols sv lv top bot n xs R) : w.cell? ⟨x, 0, none⟩ = some (.pointer (some ⟨s, 0, none⟩)) ∧ w.cell? ⟨x, 1, none⟩ = some (.bool kp) ∧ w.cell? ⟨x, 2, none⟩ = some (.int .i64 cols) ∧ w.cell? ⟨x, 3, none⟩ = some lv ∧ w.cell? ⟨x, 4, none⟩ = some (.int .i64 top) ∧ w.cell? ⟨x, 5, none⟩ = some (.int .i64 bot) :=
 ⟨h.blk.cell 0 rfl, h.blk.cell 1 rfl, h.blk.cell 2 rfl, h.blk.cell 3 rfl, h.blk.cell 4 rfl, h.blk.cell 5 rfl⟩
theorem LnX.only (h : LnX B w x s nx most kp cols sv lv top bot n xs R) (ho : Only L w w') (hx : x ∉ L) (hs : s ∉ L) (hl : ∀ g, lv.ownBlock = some g → g ∉ L) (hp : ∀ g, sv.ownBlock = some g → g ∉ L) (hr : ∀ e ∈ R, e.d ∉ L ∧ e.g ∉ L) : LnX B w' x s nx most kp cols sv lv top bot n xs R :=
 ⟨h.blk.only ho hx, owns_only h.own ho hl, h.st.only ho hs hp hr, h.apart, h.lo.grow ho.size, h.small⟩
theorem LnX.below (h : LnX B w x s nx most kp cols sv lv top bot n xs R) (hb : Below w.heap.size w w') : LnX B w' x s nx most kp cols sv lv top bot n xs R := h.only (Only.of_below hb []) (by simp) (by simp) (by simp) (by simp) (by simp)
theorem LnX.fr {B' : Zn} {ts : List TypeId} (h : LnX B w x s nx most kp cols sv lv top bot n xs R) (hf : Fr B' ts w w') (hn : NoPT ts) : LnX B w' x s nx most kp cols sv lv top bot n xs R :=
 ⟨Block.fr h.blk hf (.inl (hn _ (by simp [PT]))), owns_fr h.own hf (hn _ (by simp [PT])), sx_fr h.st hf hn, h.apart, h.lo.grow hf.size, h.small⟩
theorem LnX.typ (h : LnX B w x s nx most kp cols sv lv top bot n xs R) : Typ w x 142 := Block.typ h.blk
theorem LnX.ltyp (h : LnX B w x s nx most kp cols sv lv top bot n xs R) : ∀ g, lv.ownBlock = some g → B g ∧ g < w.heap.size ∧ Typ w g 151 := fun g hg => ⟨h.lo.l g hg, (World.ownsRow.lt h.own g hg).2, owns_typ h.own g hg⟩
theorem LnX.shape (h : LnX B w x s nx most kp cols sv lv top bot n xs R) : ∃ ao c, lv = .slice ao n c ∧ n ≤ c ∧ c ≤ maxLen := owns_shape h.own
theorem LnX.store (h : LnX B w x s nx most kp cols sv lv top bot n xs R) (ho : Only (x :: lv.ownBlock.toList) w w') : SX 0 w' s nx most sv R := by
 have hno : ∀ {k : Nat} {t : TypeId}, Typ w k t → 142 ≠ t → 151 ≠ t → k ∉ x :: lv.ownBlock.toList := fun {k t} ht n1 n2 hm => by
  rcases List.mem_cons.1 hm with rfl | hm
  ·exact n1 (Typ.inj h.typ ht)
  ·exact n2 (Typ.inj (h.ltyp k (by simpa using hm)).2.2 ht)
 refine h.st.only ho (hno h.st.typ (by decide) (by decide)) (fun g hg hm => ?_) (fun e he => ⟨hno (h.st.2 e he).typ.1 (by decide) (by decide), hno (h.st.2 e he).typ.2 (by decide) (by decide)⟩)
 rcases List.mem_cons.1 hm with rfl | hm
 ·exact absurd (Typ.inj h.typ (h.st.ptyp g hg).2.2) (by decide)
 ·exact h.apart g (by simpa using hm) hg
theorem LnX.frame (h : LnX B w x s nx most kp cols sv lv top bot n xs R) (ho : Only (x :: lv.ownBlock.toList) w w') : Fr B PT w w' :=
 Fr.of_only ho fun k hk _ => by
  rcases List.mem_cons.1 hk with rfl | hm
  ·exact ⟨h.lo.x, _, by simp [PT], h.typ⟩
  ·have := h.ltyp k (by simpa using hm)
   exact ⟨this.1, _, by simp [PT], this.2.2⟩
theorem LnX.setL (h : LnX B w x s nx most kp cols sv lv top bot n xs R) {lv' : Value} {n' : Nat} {xs' : List Value} {w1 : World} (h1 : w1.ownsRow 0 151 2 lv' n' xs') (ho : Only lv.ownBlock.toList w w1) (hl : lv'.ownBlock = lv.ownBlock ∨ ∃ g, lv'.ownBlock = some g ∧ w.heap.size ≤ g) (hn : n' ≤ 1000) :
  LnX B (w1.setCell ⟨x, 3, none⟩ lv') x s nx most kp cols sv lv' top bot n' xs' R ∧ Only (x :: lv.ownBlock.toList) w (w1.setCell ⟨x, 3, none⟩ lv') := by
 have hxl : x ∉ lv.ownBlock.toList := fun hm => absurd (Typ.inj h.typ (h.ltyp x (by simpa using hm)).2.2) (by decide)
 have hb1 := h.blk.only ho hxl
 have ho2 : Only [x] w1 (w1.setCell ⟨x, 3, none⟩ lv') := Only.setCell w1 ⟨x, 3, none⟩ _
 have hO : Only (x :: lv.ownBlock.toList) w (w1.setCell ⟨x, 3, none⟩ lv') := (ho.mono (by simp +contextual)).trans (ho2.mono (by simp))
 refine ⟨⟨hb1.set 3 lv', owns_only h1 ho2 (fun g hg => not_in1 (owns_typ h1 g hg) (Block.typ hb1) (by decide)), h.store hO, ?_, h.lo.lines hO.size hl, hn⟩, hO⟩
 intro g hg hs
 rcases hl with hl | ⟨g', hl, hge⟩
 ·exact h.apart g (hl ▸ hg) hs
 ·have h2 := (h.st.ptyp g hs).2.1
  rw [hl] at hg
  cases hg
  omega
end
theorem zone : ∀ v ∈ (Value.agg #[.int .i64 0, .pointer none]).cells.toList, v.oneCell' = true := by
 intro v hv
 simp only [Value.cells, List.mem_cons, List.not_mem_nil, or_false] at hv
 rcases hv with rfl | rfl <;> rfl
theorem infoL1 : (Tryz.prog.info? 151).map (·.size) = some 2 := by kernel_rfl
def OneL (xs : List Value) : Prop := ∀ v ∈ xs, v.oneCell' = true
theorem end_any (f k e : Nat) (he : e = f + k) (h5 : e ≤ 100000) (w : World) : Calls Tryz.prog 147 #[.agg #[.int .i64 f, .int .i64 k]] w fun r w' => r = .returned (.int .i64 e) ∧ Below w.heap.size w w' := by
 have hw : IntKind.i64.wrap ((f : Int) + (k : Int)) = (e : Int) := by rw [he, Int.natCast_add]; exact IntWalk.i64_in _ (by omega)
 have hb := below_new w (.cells #[.int .i64 f, .int .i64 k] 138)
 clear he
 go_enter Tryz.func147, Tryz.ntmps147
 go_wp2
 go_ret
 exact ⟨rfl, hb⟩
theorem close_own {w : World} {g n cap f k m : Nat} {xs tail J : List Value} (hn : n = m + k) (hf : f + k ≤ n) (hc : n ≤ cap) (hcm : cap ≤ maxLen) (hx : xs.length = n * 2) (hl : (xs ++ tail).length = cap * 2) (hJ : J.length = k * 2)
  (hb : Block w g 151 (splice (splice (xs ++ tail) (f * 2) (xs.drop ((f + k) * 2))) (m * 2) J).toArray) : w.ownsRow 0 151 2 (.slice (some ⟨g, 0, none⟩) m cap) m (outA xs (f * 2) (k * 2)) := by
 have hD : (xs.drop ((f + k) * 2)).length = n * 2 - (f + k) * 2 := by rw [List.length_drop, hx]
 have h1 : (splice (xs ++ tail) (f * 2) (xs.drop ((f + k) * 2))).length = cap * 2 := by rw [length_splice _ _ _ (by rw [hD, hl]; omega), hl]
 have ho : (outA xs (f * 2) (k * 2)).length = m * 2 := by rw [outA_len _ (by omega), hx]; omega
 refine ⟨ho, .inr ⟨g, cap, _, rfl, Nat.zero_le _, hb, by omega, hcm, ?_, ?_⟩⟩
 ·rw [List.size_toArray, length_splice _ _ _ (by rw [h1, hJ]; omega), h1]
 ·show (splice (splice (xs ++ tail) (f * 2) (xs.drop ((f + k) * 2))) (m * 2) J).take (m * 2) = _
  have e1 : (splice (splice (xs ++ tail) (f * 2) (xs.drop ((f + k) * 2))) (m * 2) J).take (m * 2) = (splice (xs ++ tail) (f * 2) (xs.drop ((f + k) * 2))).take (m * 2) := by
   generalize splice (xs ++ tail) (f * 2) (xs.drop ((f + k) * 2)) = Z at h1 ⊢
   unfold splice
   rw [List.take_append_of_le_length (by rw [List.length_take]; omega), List.take_take, Nat.min_self]
  rw [e1]
  unfold splice outA
  rw [show (xs ++ tail).take (f * 2) = xs.take (f * 2) from List.take_append_of_le_length (by omega), ← List.append_assoc, List.take_append_of_le_length (by rw [List.length_append, List.length_take, hD]; omega), List.take_of_length_le (by rw [List.length_append, List.length_take, hD]; omega), Nat.add_mul]
theorem step_copy0 {P : Program} {ops : Array Oper} {o : Oper} {a : Go.Act} {w : World} {K : Go.Act → World → Prop} {Q : Exit → Go.Act → World → Prop} {E : Prop} (hgd : o.guard = none) (d x : Operand) (dT sT : TypeId)
  (ho : o.op = .call { callee := .builtin .copy, args := #[d, x], argTypes := #[dT, sT] }) (elem : TypeId) (hu : P.underlying dT = some (.slice elem)) (hs : ∃ s, (P.info? elem).map (·.size) = some s)
  (dp sp : Option Addr) (dLen dCap sLen sCap : Nat) (hd : a.eval d = .slice dp dLen dCap) (hx : a.eval x = .slice sp sLen sCap) (hn : Nat.min sLen dLen = 0)
  (h : K (a.put o.dst (goInt 0)) w) :
  if Region.wanted o (yielded ops a.tmps) = true then Oper.wp P o a w K Q else E := by
 rw [if_pos (by simp [Region.wanted, hgd])]
 unfold Oper.wp
 have hrun := run_copy0 (P := P) w dT sT o.type elem dp sp dLen dCap sLen sCap hu hs hn
 simp [execOp, ho, resolve, invoke, builtin, hd, hx, hrun, Result.andThen]
 exact h
theorem wpList_clear0 {P : Program} {ops : Array Oper} {rest : List Oper} {o : Oper} {a : Go.Act} {w : World} {Q : Exit → Go.Act → World → Prop} (hgd : o.guard = none) (x : Operand) (t e : TypeId)
  (ho : o.op = .call { callee := .builtin .clear, args := #[x], argTypes := #[t] }) (hu : P.underlying t = some (.slice e)) (sp : Option Addr) (c : Nat) (hx : a.eval x = .slice sp 0 c) (h : wpList P ops Q rest (a.put o.dst (.tuple #[])) w) : wpList P ops Q (o :: rest) a w :=
 wpList_plain hgd fun _ hK => by
  have hrun : (Builtin.clear_ #[t] o.type #[.slice sp 0 c]).run P w = .ok (.tuple #[]) w := by
   rcases sp with _ | sp <;> simp [Builtin.clear_, run_underlying hu]
  unfold Oper.wp execOp
  simp only [ho, resolve, invoke, builtin, Sem.run_bind, Sem.run_pure, Result.andThen_ok, List.map_toArray, List.map_cons, List.map_nil, hx, hrun]
  exact hK _ _ h
section
variable {B : Zn} {w w' : World} {x s nx most cols top bot n : Nat} {kp : Bool} {sv lv : Value} {xs : List Value} {R : List En} {L : List Nat}
def LnDone (B : Zn) (w : World) (x s nx most : Nat) (kp : Bool) (cols : Nat) (sv lv : Value) (top bot n : Nat) (P : List Value → Prop) (R : List En) (e : Ending) (w' : World) : Prop :=
 (∃ v, e = .returned v) ∧ ∃ lv' xs', LnX B w' x s nx most kp cols sv lv' top bot n xs' R ∧ P xs' ∧ Only (x :: lv.ownBlock.toList) w w'
theorem closeUp_none (h : LnX B w x s nx most kp cols sv (.slice none 0 0) top bot 0 [] R) : Calls Tryz.prog 148 #[.pointer (some ⟨x, 0, none⟩), .agg #[.int .i64 0, .int .i64 0]] w (LnDone B w x s nx most kp cols sv (.slice none 0 0) top bot 0 (fun xs => xs = []) R) := by
 have hbn := below_new w (.cells #[.int .i64 0, .int .i64 0] 138)
 have hws : ∀ w1, Below w.heap.size w w1 → LnX B w1 x s nx most kp cols sv (.slice none 0 0) top bot 0 [] R := fun w1 hb => h.below hb
 have hend : ∀ w, Calls Tryz.prog 147 #[.agg #[.int .i64 0, .int .i64 0]] w fun r w' => r = .returned (.int .i64 0) ∧ Below w.heap.size w w' := fun w => end_any 0 0 0 rfl (by omega) w
 have hxlt := h.blk.lt
 have hbx := Block.made w 138 #[.int .i64 0, .int .i64 0]
 obtain ⟨_, _, _, c3, _, _⟩ := (h.below hbn).cells
 obtain ⟨bx, hbxe⟩ : ∃ bx, bx = w.heap.size := ⟨_, rfl⟩
 rw [← hbxe] at hbx
 replace hend := Lib.hid hend
 replace hws := Lib.hid hws
 replace hbn := Lib.hid hbn
 clear h
 go_enter Tryz.func148, Tryz.ntmps148
 go_wp2
 go_quiet (fail)
 go_wp2
 have hb0 := hbx.only (Only.drewN [] _ nq) (by simp)
 have hl0 := below_dr hbn.out nq
 clear hbx c3
 generalize (w.alloc (.cells #[.int .i64 0, .int .i64 0] 138)).drewN nq = w0 at hb0 hl0 ⊢
 rw [← hbxe]
 replace hbxe := Lib.hid hbxe
 have hS := fun w' (hb : Below w0.heap.size w0 w') => And.intro ((hb0.only (Only.of_below hb []) (by simp)).cell 0 rfl) (And.intro ((hb0.only (Only.of_below hb []) (by simp)).cell 1 rfl) (hws.out _ (below_next hl0 hb)).cells.2.2.2.1)
 have c0 := hS w0 (Below.refl _ _)
 have c1 := hS w0.drew (below_dr (Below.refl _ _) 1)
 have hd0 : Below w0.heap.size w0 w0.drew := below_dr (Below.refl _ _) 1
 replace hS := Lib.hid hS
 replace hl0 := Lib.hid hl0
 replace hd0 := Lib.hid hd0
 obtain ⟨a0, a1, a2⟩ := c0
 clear hb0
 go_region_held3 (fun w' => w'.cell? ⟨bx, 0, none⟩ = some (.int .i64 0) ∧ w'.cell? ⟨bx, 1, none⟩ = some (.int .i64 0) ∧ w'.cell? ⟨x, 3, none⟩ = some (.slice none 0 0))
  (first | exact ⟨a0, a1, a2⟩ | exact c1 | exact hS.out _ hb2.out | go_keep)
  (first
   | (go_at_call 147; (with_reducible refine (hend.out _).mono ?_); rintro e w2 ⟨rfl, hb2'⟩; have hb2 := Lib.hid (below_next hd0.out hb2'))
   | (refine step_copy0 rfl (.tmp 19) (.tmp 26) 115 115 rfl 151 Tryz.underlying115 ⟨2, infoL1⟩ _ _ _ _ _ _ rfl rfl (by rfl) ?_))
 have hws2 := hws.out _ (below_next hl0.out hb2.out)
 have c3 := hws2.cells.2.2.2.1
 have f3 := hws2.blk.free 3
 have hres := Lib.hid (hws2.setL (lv' := .slice none 0 0) (n' := 0) (xs' := []) (World.ownsRow_nil _ _ _ _) (Only.refl _ _) (.inl rfl) (by omega))
 have hbf := Lib.hid (below_next hl0.out hb2.out)
 clear hws2 hend c1 a0 a1 a2
 go_wp2_with (with_reducible show wpList _ _ _ (⟨none, .call _, _, _, _, _⟩ :: _) _ _; go_must (refine wpList_clear0 rfl (.tmp 33) 115 151 rfl Tryz.underlying115 none 0 rfl ?_))
 go_end0
 exact ⟨⟨_, rfl⟩, _, [], hres.out.1, rfl, (Only.of_below hbf.out _).trans hres.out.2⟩
theorem closeUp_some {g cap f k e m : Nat} {tail : List Value} (h : LnX B w x s nx most kp cols sv (.slice (some ⟨g, 0, none⟩) n cap) top bot n xs R) (hbg : Block w g 151 (xs ++ tail).toArray) (hcl : (xs ++ tail).length = cap * 2) (hone : OneL xs) (he : e = f + k) (hm : n = m + k) (hf : e ≤ n) :
  Calls Tryz.prog 148 #[.pointer (some ⟨x, 0, none⟩), .agg #[.int .i64 f, .int .i64 k]] w (LnDone B w x s nx most kp cols sv (.slice (some ⟨g, 0, none⟩) n cap) top bot m (fun xs' => xs' = outA xs (f * 2) (k * 2)) R) := by
 have hbn := below_new w (.cells #[.int .i64 f, .int .i64 k] 138)
 have hn5 := h.small
 have hcc0 : n ≤ cap ∧ cap ≤ maxLen := by
  obtain ⟨_, c', ee, hle, hcm⟩ := h.shape
  simp only [Value.slice.injEq] at ee
  obtain ⟨_, _, rfl⟩ := ee
  exact ⟨hle, hcm⟩
 obtain ⟨hle, hcm⟩ := hcc0
 have hxl := h.own.1
 have hend := fun w => end_any f k e he (by omega) w
 have hbx := Block.made w 138 #[.int .i64 f, .int .i64 k]
 obtain ⟨_, _, _, c3, _, _⟩ := (h.below hbn).cells
 have hws : ∀ w1, Below w.heap.size w w1 → LnX B w1 x s nx most kp cols sv (.slice (some ⟨g, 0, none⟩) n cap) top bot n xs R ∧ Block w1 g 151 (xs ++ tail).toArray := fun w1 hb => ⟨h.below hb, hbg.only (Only.of_below hb []) (by simp)⟩
 have hxg : x ≠ g := fun ee => absurd (Typ.inj h.typ (ee ▸ (h.ltyp g rfl).2.2)) (by decide)
 have hglt := hbg.lt
 obtain ⟨bx, hbxe⟩ : ∃ bx, bx = w.heap.size := ⟨_, rfl⟩
 rw [← hbxe] at hbx
 have hwr : IntKind.i64.wrap ((n : Int) - (k : Int)) = (m : Int) := by rw [hm, Int.natCast_add, Int.add_sub_cancel]; exact IntWalk.i64_in _ (by omega)
 have hmn0 : m ≤ n := by omega
 have hm' := Lib.hid hm
 have he' := Lib.hid he
 clear hm he
 replace hend := Lib.hid hend
 replace hws := Lib.hid hws
 replace hbn := Lib.hid hbn
 clear h hbg
 go_enter Tryz.func148, Tryz.ntmps148
 go_wp2
 go_quiet (fail)
 go_wp2
 have hb0 := hbx.only (Only.drewN [] _ nq) (by simp)
 have hl0 := below_dr hbn.out nq
 clear hbx c3
 generalize (w.alloc (.cells #[.int .i64 f, .int .i64 k] 138)).drewN nq = w0 at hb0 hl0 ⊢
 rw [← hbxe]
 replace hbxe := Lib.hid hbxe
 have hm := hm'.out
 have he := he'.out
 have hd0 : Below w0.heap.size w0 w0.drew := below_dr (Below.refl _ _) 1
 have hS := fun w' (hb : Below w0.heap.size w0 w') => And.intro ((hb0.only (Only.of_below hb []) (by simp)).cell 0 rfl) (And.intro ((hb0.only (Only.of_below hb []) (by simp)).cell 1 rfl) (hws.out _ (below_next hl0 hb)).1.cells.2.2.2.1)
 have hbG := fun w' (hb : Below w0.heap.size w0 w') => (hws.out _ (below_next hl0 hb)).2
 have hpart := fun w' (hb : Below w0.heap.size w0 w') => (fun j v hj => by
  rw [Addr.add_lit]
  refine (hbG w' hb).cell _ ?_
  rw [List.getElem?_drop] at hj
  have hlt := (List.getElem?_eq_some_iff.1 hj).1
  rw [List.getElem?_toArray, List.getElem?_append_left hlt]
  exact hj : ∀ j v, (xs.drop (e * 2))[j]? = some v → w'.cell? ((⟨g, e * 2, none⟩ : Addr).add j) = some v)
 have c0 := hS w0 (Below.refl _ _)
 have c1 := hS w0.drew hd0
 have hbxg : bx ≠ g := by have := hbxe.out; omega
 have hKS := fun w1 w' (hb : Below w0.heap.size w0 w1) (ho : Only [g] w1 w') => (⟨((hb0.only (Only.of_below hb []) (by simp)).only ho (by simpa using hbxg)).cell 0 rfl, ((hb0.only (Only.of_below hb []) (by simp)).only ho (by simpa using hbxg)).cell 1 rfl, ((hws.out _ (below_next hl0 hb)).1.blk.only ho (by simpa using hxg)).cell 3 rfl⟩ : w'.cell? ⟨bx, 0, none⟩ = some (.int .i64 f) ∧ w'.cell? ⟨bx, 1, none⟩ = some (.int .i64 k) ∧ w'.cell? ⟨x, 3, none⟩ = some (.slice (some ⟨g, 0, none⟩) n cap))
 have hX : (xs.drop (e * 2)).length = (n - e) * 2 := by rw [List.length_drop, hxl]; omega
 have hone' : ∀ v ∈ xs.drop (e * 2), v.oneCell' = true := fun v hv => hone v (List.mem_of_mem_drop hv)
 obtain ⟨X, hXX⟩ : ∃ X, X = xs.drop (e * 2) := ⟨_, rfl⟩
 obtain ⟨cur, hcc⟩ : ∃ cur, cur = xs ++ tail := ⟨_, rfl⟩
 rw [← hXX] at hpart hX hone'
 rw [← hcc] at hbG hcl
 have hfe : f ≤ e := by omega
 have hkn : f ≤ n := by omega
 have hmn : m ≤ n := by omega
 have hk' : k = n - m := by omega
 have hfI : (f : Int) ≤ (n : Int) := by omega
 have heI : (e : Int) ≤ (n : Int) := by omega
 have hmI : (m : Int) ≤ (n : Int) := by omega
 have hfc : f ≤ cap := by omega
 have hec : e ≤ cap := by omega
 have hmc : m ≤ cap := by omega
 obtain ⟨ad1, had1⟩ : ∃ ad1, (if cap = f then (some ⟨g, 0, none⟩ : Option Addr) else some ⟨g, f * 2, none⟩) = ad1 := ⟨_, rfl⟩
 obtain ⟨ad2, had2⟩ : ∃ ad2, (if cap = e then (some ⟨g, 0, none⟩ : Option Addr) else some ⟨g, e * 2, none⟩) = ad2 := ⟨_, rfl⟩
 obtain ⟨ad3, had3⟩ : ∃ ad3, (if cap = m then (some ⟨g, 0, none⟩ : Option Addr) else some ⟨g, m * 2, none⟩) = ad3 := ⟨_, rfl⟩
 have hd1 : Hid (0 < n - f → ad1 = some ⟨g, f * 2, none⟩) := Lib.hid fun h0 => by rw [← had1]; exact if_neg (by omega)
 have hd2 : Hid (0 < n - e → ad2 = some ⟨g, e * 2, none⟩) := Lib.hid fun h0 => by rw [← had2]; exact if_neg (by omega)
 have hd3 : Hid (0 < n - m → ad3 = some ⟨g, m * 2, none⟩) := Lib.hid fun h0 => by rw [← had3]; exact if_neg (by omega)
 have hfit : Hid (f * 2 + X.length ≤ cur.length) := Lib.hid (by rw [hX, hcl]; omega)
 have hfit2 : Hid (m * 2 + (n - m) * 2 ≤ cap * 2) := Lib.hid (by omega)
 have hmin : Hid (X.length = min (n - e) (n - f) * 2) := Lib.hid (by rw [hX]; congr 1; omega)
 have hsl : Hid ((splice cur (f * 2) X).length = cap * 2) := Lib.hid (by rw [length_splice _ _ _ (by rw [hX, hcl]; omega), hcl])
 have hfin := fun (w1 : World) (J : List Value) (hJ : J.length = (n - m) * 2) (hb : Block w1 g 151 (splice (splice cur (f * 2) X) (m * 2) J).toArray) => close_own (w := w1) (f := f) (tail := tail) (J := J) hm (by omega) hle hcm hxl (by rw [← hcc]; exact hcl) (by rw [hk']; exact hJ) (by rw [← he, ← hcc, ← hXX]; exact hb)
 replace hfin := Lib.hid hfin
 replace hX := Lib.hid hX
 replace hpart := Lib.hid hpart
 replace hone' := Lib.hid hone'
 replace hbG := Lib.hid hbG
 replace hKS := Lib.hid hKS
 replace hS := Lib.hid hS
 replace hl0 := Lib.hid hl0
 replace hd0 := Lib.hid hd0
 replace hXX := Lib.hid hXX
 replace hcc := Lib.hid hcc
 replace hm := Lib.hid hm
 replace hk' := Lib.hid hk'
 replace he := Lib.hid he
 replace hxl := Lib.hid hxl
 replace hcl := Lib.hid hcl
 obtain ⟨a0, a1, a2⟩ := c0
 clear hb0
 go_region_held3 (fun w' => w'.cell? ⟨bx, 0, none⟩ = some (.int .i64 f) ∧ w'.cell? ⟨bx, 1, none⟩ = some (.int .i64 k) ∧ w'.cell? ⟨x, 3, none⟩ = some (.slice (some ⟨g, 0, none⟩) n cap))
  (first | exact ⟨a0, a1, a2⟩ | exact c1 | exact hS.out _ hb2.out | exact hKS.out _ _ hb2.out ho3 | go_keep)
  (first
   | (go_at_call 147; (with_reducible refine (hend.out _).mono ?_); rintro e w2 ⟨rfl, hb2'⟩; have hb2 := Lib.hid (below_next hd0.out hb2'))
   | (refine step_copyN rfl (.tmp 19) (.tmp 26) 115 115 rfl 151 2 Tryz.underlying115 infoL1 _ _ _ _ _ _ rfl rfl g (f * 2) cur 151 (hbG.out _ hb2.out) X hmin.out (fun h1 h2 => ⟨hd1.out h2, _, hd2.out h1, hpart.out _ hb2.out⟩) hfit.out hone'.out ?_; intro w3 hb3 ho3))
 have hws0 := (hws.out _ hl0.out).1
 have ho03 : Only [g] w0 w3 := ((Only.of_below hb2.out _).trans ho3)
 have c3 := (hKS.out _ _ hb2.out ho3).2.2
 have hb3' := hb3.out
 have hsl' := hsl.out
 have hbd : Hid (Block w3 x _ _) := Lib.hid (hws0.blk.only ho03 (by simpa using hxg))
 replace hws0 := Lib.hid hws0
 replace ho03 := Lib.hid ho03
 clear hKS hS hpart hbG hend c1 a0 a1 a2 ho3 hb3 hfI heI hfc hec had1 had2 hd1 hd2 hwr
 go_wp2_with (with_reducible show wpList _ _ _ (⟨none, .call _, _, _, _, _⟩ :: _) _ _; go_must (refine wpList_clearN elemL zone rfl (.tmp 33) rfl ad3 (n - m) (cap - m) rfl g (m * 2) (splice cur (f * 2) X) 151 hb3' hd3.out (by rw [hsl']; exact hfit2.out) ?_); intro w4 J hJ hb4 ho4; have hbd4 := hbd.out.only ho4 (by simpa using hxg); have c4 := hbd4.cell 3 rfl; have f4 := hbd4.free 3)
 have hown := hfin.out _ J hJ hb4.out
 have hres := Lib.hid (hws0.out.setL (lv' := .slice (some ⟨g, 0, none⟩) m cap) (n' := m) hown (ho03.out.trans ho4) (.inl rfl) (by omega))
 go_end0
 exact ⟨⟨_, rfl⟩, _, _, hres.out.1, rfl, (Only.of_below hl0.out _).trans hres.out.2⟩
end
end Go.Proofs.YtkjpjegmanpbfaaGreatDoor.Scn
