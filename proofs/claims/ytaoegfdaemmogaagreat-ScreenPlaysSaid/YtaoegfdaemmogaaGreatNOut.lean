/-
  screen: lines are closed up over a span.
-/
import Derived.Test.YtaoegfdaemmogaaGreatNMem
namespace Go.Proofs.YtaoegfdaemmogaaGreat.Scn
open Go Go.RowKit Go.Proofs.YtaoegfdaemmogaaGreat.Com Go.Proofs.YtaoegfdaemmogaaGreat.Rw Go.Proofs.YtaoegfdaemmogaaGreat.Lns

theorem elemL' : ElemN Tryz.prog 84 109 (.agg #[.int .i64 0, .pointer none]) 2 := elemL
theorem zone : ∀ v ∈ (Value.agg #[.int .i64 0, .pointer none]).cells.toList, v.oneCell' = true := by
  intro v hv
  simp only [Value.cells, List.mem_cons, List.not_mem_nil, or_false] at hv
  rcases hv with rfl | rfl <;> rfl
theorem infoL1 : (Tryz.prog.info? 109).map (·.size) = some 2 := by kernel_rfl
/-- The lines' cells are such as a struct of one's own may hold. -/
def OneL (xs : List Value) : Prop := ∀ v ∈ xs, v.oneCell' = true

theorem end_any (f k e : Nat) (he : e = f + k) (h5 : e ≤ 100000) (w : World) : Calls Tryz.prog 78 #[.agg #[.int .i64 f, .int .i64 k]] w fun r w' => r = .returned (.int .i64 e) ∧ Below w.heap.size w w' := by
  have hw : IntKind.i64.wrap ((f : Int) + (k : Int)) = (e : Int) := by rw [he, Int.natCast_add]; exact IntWalk.i64_in _ (by omega)
  have hb := below_new w (.cells #[.int .i64 f, .int .i64 k] 99)
  clear he
  go_enter Tryz.func78, Tryz.ntmps78
  go_wp2
  go_ret
  exact ⟨rfl, hb⟩
theorem close_own {B : Nat} {w : World} {g n cap f k m : Nat} {xs tail J : List Value} (hB : B ≤ g) (hn : n = m + k) (hf : f + k ≤ n) (hc : n ≤ cap) (hcm : cap ≤ maxLen) (hx : xs.length = n * 2) (hl : (xs ++ tail).length = cap * 2) (hJ : J.length = k * 2)
    (hb : Block w g 109 (splice (splice (xs ++ tail) (f * 2) (xs.drop ((f + k) * 2))) (m * 2) J).toArray) : w.ownsRow B 109 2 (.slice (some ⟨g, 0, none⟩) m cap) m (outA xs (f * 2) (k * 2)) := by
  have hD : (xs.drop ((f + k) * 2)).length = n * 2 - (f + k) * 2 := by rw [List.length_drop, hx]
  have h1 : (splice (xs ++ tail) (f * 2) (xs.drop ((f + k) * 2))).length = cap * 2 := by rw [length_splice _ _ _ (by rw [hD, hl]; omega), hl]
  have ho : (outA xs (f * 2) (k * 2)).length = m * 2 := by rw [outA_len _ (by omega), hx]; omega
  refine ⟨ho, .inr ⟨g, cap, _, rfl, hB, hb, by omega, hcm, ?_, ?_⟩⟩
  · rw [List.size_toArray, length_splice _ _ _ (by rw [h1, hJ]; omega), h1]
  · show (splice (splice (xs ++ tail) (f * 2) (xs.drop ((f + k) * 2))) (m * 2) J).take (m * 2) = _
    have e1 : (splice (splice (xs ++ tail) (f * 2) (xs.drop ((f + k) * 2))) (m * 2) J).take (m * 2) = (splice (xs ++ tail) (f * 2) (xs.drop ((f + k) * 2))).take (m * 2) := by
      generalize splice (xs ++ tail) (f * 2) (xs.drop ((f + k) * 2)) = Z at h1 ⊢
      unfold splice
      rw [List.take_append_of_le_length (by rw [List.length_take]; omega), List.take_take, Nat.min_self]
    rw [e1]
    unfold splice outA
    rw [show (xs ++ tail).take (f * 2) = xs.take (f * 2) from List.take_append_of_le_length (by omega), ← List.append_assoc, List.take_append_of_le_length (by rw [List.length_append, List.length_take, hD]; omega), List.take_of_length_le (by rw [List.length_append, List.length_take, hD]; omega), Nat.add_mul]
/-- copy of no elements. -/
theorem step_copy0 {P : Program} {ops : Array Oper} {o : Oper} {a : Go.Act} {w : World} {K : Go.Act → World → Prop} {Q : Exit → Go.Act → World → Prop} {E : Prop} (hgd : o.guard = none) (d x : Operand) (dT sT : TypeId)
    (ho : o.op = .call { callee := .builtin .copy, args := #[d, x], argTypes := #[dT, sT] }) (elem : TypeId) (hu : P.underlying dT = some (.slice elem)) (hs : ∃ s, (P.info? elem).map (·.size) = some s)
    (dp sp : Option Addr) (dLen dCap sLen sCap : Nat) (hd : a.eval d = .slice dp dLen dCap) (hx : a.eval x = .slice sp sLen sCap) (hn : Nat.min sLen dLen = 0)
    (h : K (a.put o.dst (goInt 0)) w) :
    if Region.wanted o (yielded ops a.tmps) = true then Oper.wp P o a w K Q else E := by
  rw [if_pos (by simp [Region.wanted, hgd])]
  unfold Oper.wp
  have hrun := run_copy0 (P := P) w dT sT o.type elem dp sp dLen dCap sLen sCap hu hs hn
  simp [execOp, ho, resolve, invoke, builtin, hd, hx, hrun, Result.andThen]
  exact h
theorem wpList_clear0 {P : Program} {ops : Array Oper} {rest : List Oper} {o : Oper} {a : Go.Act} {w : World} {Q : Exit → Go.Act → World → Prop} (hgd : o.guard = none) (x : Operand) (t e : TypeId)
    (ho : o.op = .call { callee := .builtin .clear, args := #[x], argTypes := #[t] }) (hu : P.underlying t = some (.slice e)) (sp : Option Addr) (c : Nat) (hx : a.eval x = .slice sp 0 c) (h : wpList P ops Q rest (a.put o.dst (.tuple #[])) w) : wpList P ops Q (o :: rest) a w :=
  wpList_plain hgd fun _ hK => by
    have hrun : (Builtin.clear_ #[t] o.type #[.slice sp 0 c]).run P w = .ok (.tuple #[]) w := by
      rcases sp with _ | sp <;> simp [Builtin.clear_, run_underlying hu]
    unfold Oper.wp execOp
    simp only [ho, resolve, invoke, builtin, Sem.run_bind, Sem.run_pure, Result.andThen_ok, List.map_toArray, List.map_cons, List.map_nil, hx, hrun]
    exact hK _ _ h
section
variable {B : Nat} {w w' : World} {x s nx most cols top bot n : Nat} {kp : Bool} {sv lv : Value} {xs : List Value} {R : List En} {L : List Nat}

/-- What is left where some lines have gone (or come). -/
def LnDone (B : Nat) (w : World) (x s nx most : Nat) (kp : Bool) (cols : Nat) (sv lv : Value) (top bot n : Nat) (P : List Value → Prop) (R : List En) (e : Ending) (w' : World) : Prop :=
  (∃ v, e = .returned v) ∧ ∃ lv' xs', LnX B w' x s nx most kp cols sv lv' top bot n xs' R ∧ P xs' ∧ Only (x :: lv.ownBlock.toList) w w'

set_option maxRecDepth 100000 in
set_option maxHeartbeats 2000000 in
theorem closeUp_none (h : LnX B w x s nx most kp cols sv (.slice none 0 0) top bot 0 [] R) : Calls Tryz.prog 79 #[.pointer (some ⟨x, 0, none⟩), .agg #[.int .i64 0, .int .i64 0]] w (LnDone B w x s nx most kp cols sv (.slice none 0 0) top bot 0 (fun xs => xs = []) R) := by
  have hbn := below_new w (.cells #[.int .i64 0, .int .i64 0] 99)
  have hws : ∀ w1, Below w.heap.size w w1 → LnX B w1 x s nx most kp cols sv (.slice none 0 0) top bot 0 [] R := fun w1 hb => h.below hb
  have hend : ∀ w, Calls Tryz.prog 78 #[.agg #[.int .i64 0, .int .i64 0]] w fun r w' => r = .returned (.int .i64 0) ∧ Below w.heap.size w w' := fun w => end_any 0 0 0 rfl (by omega) w
  have hxlt := h.blk.lt
  have hbx := Block.made w 99 #[.int .i64 0, .int .i64 0]
  obtain ⟨_, _, _, c3, _, _⟩ := (h.below hbn).cells
  obtain ⟨bx, hbxe⟩ : ∃ bx, bx = w.heap.size := ⟨_, rfl⟩
  rw [← hbxe] at hbx
  replace hend := Lib.hid hend
  replace hws := Lib.hid hws
  replace hbn := Lib.hid hbn
  clear h
  go_enter Tryz.func79, Tryz.ntmps79
  go_wp2
  go_quiet (fail)
  go_wp2
  have hb0 := hbx.only (Only.drewN [] _ nq) (by simp)
  have hl0 := below_dr hbn.out nq
  clear hbx c3
  generalize (w.alloc (.cells #[.int .i64 0, .int .i64 0] 99)).drewN nq = w0 at hb0 hl0 ⊢
  rw [← hbxe]
  replace hbxe := Lib.hid hbxe
  have hS := fun w' (hb : Below w0.heap.size w0 w') => And.intro ((hb0.only (Only.of_below hb []) (by simp)).cell 0 rfl) (And.intro ((hb0.only (Only.of_below hb []) (by simp)).cell 1 rfl) (hws.out _ (below_next hl0 hb)).cells.2.2.2.1)
  have c0 := hS w0 (Below.refl _ _)
  have c1 := hS w0.drew (below_dr (Below.refl _ _) 1)
  have hd0 : Below w0.heap.size w0 w0.drew := below_dr (Below.refl _ _) 1
  replace hS := Lib.hid hS
  replace hl0 := Lib.hid hl0
  replace hd0 := Lib.hid hd0
  obtain ⟨a0, a1, a2⟩ := c0
  clear hb0
  go_region_held3 (fun w' => w'.cell? ⟨bx, 0, none⟩ = some (.int .i64 0) ∧ w'.cell? ⟨bx, 1, none⟩ = some (.int .i64 0) ∧ w'.cell? ⟨x, 3, none⟩ = some (.slice none 0 0))
    (first | exact ⟨a0, a1, a2⟩ | exact c1 | exact hS.out _ hb2.out | go_keep)
    (first
      | (go_at_call 78; (with_reducible refine (hend.out _).mono ?_); rintro e w2 ⟨rfl, hb2'⟩; have hb2 := Lib.hid (below_next hd0.out hb2'))
      | (refine step_copy0 rfl (.tmp 19) (.tmp 26) 84 84 rfl 109 Tryz.underlying84 ⟨2, infoL1⟩ _ _ _ _ _ _ rfl rfl (by rfl) ?_))
  have hws2 := hws.out _ (below_next hl0.out hb2.out)
  have c3 := hws2.cells.2.2.2.1
  have f3 := hws2.blk.free 3
  have hres := Lib.hid (hws2.setL (lv' := .slice none 0 0) (n' := 0) (xs' := []) (World.ownsRow_nil _ _ _ _) (Only.refl _ _) (.inl rfl) (by omega))
  have hbf := Lib.hid (below_next hl0.out hb2.out)
  clear hws2 hend c1 a0 a1 a2
  go_wp2_with (with_reducible show wpList _ _ _ (⟨none, .call _, _, _, _, _⟩ :: _) _ _; go_must (refine wpList_clear0 rfl (.tmp 33) 84 109 rfl Tryz.underlying84 none 0 rfl ?_))
  go_end0
  exact ⟨⟨_, rfl⟩, _, [], hres.out.1, rfl, (Only.of_below hbf.out _).trans hres.out.2⟩

set_option maxRecDepth 100000 in
set_option maxHeartbeats 4000000 in
theorem closeUp_some {g cap f k e m : Nat} {tail : List Value} (h : LnX B w x s nx most kp cols sv (.slice (some ⟨g, 0, none⟩) n cap) top bot n xs R) (hbg : Block w g 109 (xs ++ tail).toArray) (hcl : (xs ++ tail).length = cap * 2) (hone : OneL xs) (he : e = f + k) (hm : n = m + k) (hf : e ≤ n) :
    Calls Tryz.prog 79 #[.pointer (some ⟨x, 0, none⟩), .agg #[.int .i64 f, .int .i64 k]] w (LnDone B w x s nx most kp cols sv (.slice (some ⟨g, 0, none⟩) n cap) top bot m (fun xs' => xs' = outA xs (f * 2) (k * 2)) R) := by
  have hbn := below_new w (.cells #[.int .i64 f, .int .i64 k] 99)
  have hn5 := h.small
  have hgB := (h.ltyp g rfl).1
  have hcc0 : n ≤ cap ∧ cap ≤ maxLen := by
    obtain ⟨_, c', ee, hle, hcm⟩ := h.shape
    simp only [Value.slice.injEq] at ee
    obtain ⟨_, _, rfl⟩ := ee
    exact ⟨hle, hcm⟩
  obtain ⟨hle, hcm⟩ := hcc0
  have hxl := h.own.1
  have hend := fun w => end_any f k e he (by omega) w
  have hbx := Block.made w 99 #[.int .i64 f, .int .i64 k]
  obtain ⟨_, _, _, c3, _, _⟩ := (h.below hbn).cells
  have hws : ∀ w1, Below w.heap.size w w1 → LnX B w1 x s nx most kp cols sv (.slice (some ⟨g, 0, none⟩) n cap) top bot n xs R ∧ Block w1 g 109 (xs ++ tail).toArray := fun w1 hb => ⟨h.below hb, hbg.only (Only.of_below hb []) (by simp)⟩
  have hxg : x ≠ g := fun ee => absurd (Typ.inj h.typ (ee ▸ (h.ltyp g rfl).2.2)) (by decide)
  have hglt := hbg.lt
  obtain ⟨bx, hbxe⟩ : ∃ bx, bx = w.heap.size := ⟨_, rfl⟩
  rw [← hbxe] at hbx
  have hwr : IntKind.i64.wrap ((n : Int) - (k : Int)) = (m : Int) := by rw [hm, Int.natCast_add, Int.add_sub_cancel]; exact IntWalk.i64_in _ (by omega)
  have hmn0 : m ≤ n := by omega
  have hm' := Lib.hid hm
  have he' := Lib.hid he
  clear hm he
  replace hend := Lib.hid hend
  replace hws := Lib.hid hws
  replace hbn := Lib.hid hbn
  clear h hbg
  go_enter Tryz.func79, Tryz.ntmps79
  go_wp2
  go_quiet (fail)
  go_wp2
  have hb0 := hbx.only (Only.drewN [] _ nq) (by simp)
  have hl0 := below_dr hbn.out nq
  clear hbx c3
  generalize (w.alloc (.cells #[.int .i64 f, .int .i64 k] 99)).drewN nq = w0 at hb0 hl0 ⊢
  rw [← hbxe]
  replace hbxe := Lib.hid hbxe
  have hm := hm'.out
  have he := he'.out
  have hd0 : Below w0.heap.size w0 w0.drew := below_dr (Below.refl _ _) 1
  have hS := fun w' (hb : Below w0.heap.size w0 w') => And.intro ((hb0.only (Only.of_below hb []) (by simp)).cell 0 rfl) (And.intro ((hb0.only (Only.of_below hb []) (by simp)).cell 1 rfl) (hws.out _ (below_next hl0 hb)).1.cells.2.2.2.1)
  have hbG := fun w' (hb : Below w0.heap.size w0 w') => (hws.out _ (below_next hl0 hb)).2
  have hpart := fun w' (hb : Below w0.heap.size w0 w') => (fun j v hj => by
    rw [Addr.add_lit]
    refine (hbG w' hb).cell _ ?_
    rw [List.getElem?_drop] at hj
    have hlt := (List.getElem?_eq_some_iff.1 hj).1
    rw [List.getElem?_toArray, List.getElem?_append_left hlt]
    exact hj : ∀ j v, (xs.drop (e * 2))[j]? = some v → w'.cell? ((⟨g, e * 2, none⟩ : Addr).add j) = some v)
  have c0 := hS w0 (Below.refl _ _)
  have c1 := hS w0.drew hd0
  have hbxg : bx ≠ g := by have := hbxe.out; omega
  have hKS := fun w1 w' (hb : Below w0.heap.size w0 w1) (ho : Only [g] w1 w') => (⟨((hb0.only (Only.of_below hb []) (by simp)).only ho (by simpa using hbxg)).cell 0 rfl, ((hb0.only (Only.of_below hb []) (by simp)).only ho (by simpa using hbxg)).cell 1 rfl, ((hws.out _ (below_next hl0 hb)).1.blk.only ho (by simpa using hxg)).cell 3 rfl⟩ : w'.cell? ⟨bx, 0, none⟩ = some (.int .i64 f) ∧ w'.cell? ⟨bx, 1, none⟩ = some (.int .i64 k) ∧ w'.cell? ⟨x, 3, none⟩ = some (.slice (some ⟨g, 0, none⟩) n cap))
  have hX : (xs.drop (e * 2)).length = (n - e) * 2 := by rw [List.length_drop, hxl]; omega
  have hone' : ∀ v ∈ xs.drop (e * 2), v.oneCell' = true := fun v hv => hone v (List.mem_of_mem_drop hv)
  obtain ⟨X, hXX⟩ : ∃ X, X = xs.drop (e * 2) := ⟨_, rfl⟩
  obtain ⟨cur, hcc⟩ : ∃ cur, cur = xs ++ tail := ⟨_, rfl⟩
  rw [← hXX] at hpart hX hone'
  rw [← hcc] at hbG hcl
  have hfe : f ≤ e := by omega
  have hkn : f ≤ n := by omega
  have hmn : m ≤ n := by omega
  have hk' : k = n - m := by omega
  have hfI : (f : Int) ≤ (n : Int) := by omega
  have heI : (e : Int) ≤ (n : Int) := by omega
  have hmI : (m : Int) ≤ (n : Int) := by omega
  have hfc : f ≤ cap := by omega
  have hec : e ≤ cap := by omega
  have hmc : m ≤ cap := by omega
  obtain ⟨ad1, had1⟩ : ∃ ad1, (if cap = f then (some ⟨g, 0, none⟩ : Option Addr) else some ⟨g, f * 2, none⟩) = ad1 := ⟨_, rfl⟩
  obtain ⟨ad2, had2⟩ : ∃ ad2, (if cap = e then (some ⟨g, 0, none⟩ : Option Addr) else some ⟨g, e * 2, none⟩) = ad2 := ⟨_, rfl⟩
  obtain ⟨ad3, had3⟩ : ∃ ad3, (if cap = m then (some ⟨g, 0, none⟩ : Option Addr) else some ⟨g, m * 2, none⟩) = ad3 := ⟨_, rfl⟩
  have hd1 : Hid (0 < n - f → ad1 = some ⟨g, f * 2, none⟩) := Lib.hid fun h0 => by rw [← had1]; exact if_neg (by omega)
  have hd2 : Hid (0 < n - e → ad2 = some ⟨g, e * 2, none⟩) := Lib.hid fun h0 => by rw [← had2]; exact if_neg (by omega)
  have hd3 : Hid (0 < n - m → ad3 = some ⟨g, m * 2, none⟩) := Lib.hid fun h0 => by rw [← had3]; exact if_neg (by omega)
  have hfit : Hid (f * 2 + X.length ≤ cur.length) := Lib.hid (by rw [hX, hcl]; omega)
  have hfit2 : Hid (m * 2 + (n - m) * 2 ≤ cap * 2) := Lib.hid (by omega)
  have hmin : Hid (X.length = min (n - e) (n - f) * 2) := Lib.hid (by rw [hX]; congr 1; omega)
  have hsl : Hid ((splice cur (f * 2) X).length = cap * 2) := Lib.hid (by rw [length_splice _ _ _ (by rw [hX, hcl]; omega), hcl])
  have hfin := fun (w1 : World) (J : List Value) (hJ : J.length = (n - m) * 2) (hb : Block w1 g 109 (splice (splice cur (f * 2) X) (m * 2) J).toArray) => close_own (B := B) (w := w1) (f := f) (tail := tail) (J := J) hgB hm (by omega) hle hcm hxl (by rw [← hcc]; exact hcl) (by rw [hk']; exact hJ) (by rw [← he, ← hcc, ← hXX]; exact hb)
  replace hfin := Lib.hid hfin
  replace hX := Lib.hid hX
  replace hpart := Lib.hid hpart
  replace hone' := Lib.hid hone'
  replace hbG := Lib.hid hbG
  replace hKS := Lib.hid hKS
  replace hS := Lib.hid hS
  replace hl0 := Lib.hid hl0
  replace hd0 := Lib.hid hd0
  replace hXX := Lib.hid hXX
  replace hcc := Lib.hid hcc
  replace hm := Lib.hid hm
  replace hk' := Lib.hid hk'
  replace he := Lib.hid he
  replace hxl := Lib.hid hxl
  replace hcl := Lib.hid hcl
  obtain ⟨a0, a1, a2⟩ := c0
  clear hb0
  go_region_held3 (fun w' => w'.cell? ⟨bx, 0, none⟩ = some (.int .i64 f) ∧ w'.cell? ⟨bx, 1, none⟩ = some (.int .i64 k) ∧ w'.cell? ⟨x, 3, none⟩ = some (.slice (some ⟨g, 0, none⟩) n cap))
    (first | exact ⟨a0, a1, a2⟩ | exact c1 | exact hS.out _ hb2.out | exact hKS.out _ _ hb2.out ho3 | go_keep)
    (first
      | (go_at_call 78; (with_reducible refine (hend.out _).mono ?_); rintro e w2 ⟨rfl, hb2'⟩; have hb2 := Lib.hid (below_next hd0.out hb2'))
      | (refine step_copyN rfl (.tmp 19) (.tmp 26) 84 84 rfl 109 2 Tryz.underlying84 infoL1 _ _ _ _ _ _ rfl rfl g (f * 2) cur 109 (hbG.out _ hb2.out) X hmin.out (fun h1 h2 => ⟨hd1.out h2, _, hd2.out h1, hpart.out _ hb2.out⟩) hfit.out hone'.out ?_; intro w3 hb3 ho3))
  have hws0 := (hws.out _ hl0.out).1
  have ho03 : Only [g] w0 w3 := ((Only.of_below hb2.out _).trans ho3)
  have c3 := (hKS.out _ _ hb2.out ho3).2.2
  have hb3' := hb3.out
  have hsl' := hsl.out
  have hbd : Hid (Block w3 x _ _) := Lib.hid (hws0.blk.only ho03 (by simpa using hxg))
  replace hws0 := Lib.hid hws0
  replace ho03 := Lib.hid ho03
  clear hKS hS hpart hbG hend c1 a0 a1 a2 ho3 hb3 hfI heI hfc hec had1 had2 hd1 hd2 hwr
  go_wp2_with (with_reducible show wpList _ _ _ (⟨none, .call _, _, _, _, _⟩ :: _) _ _; go_must (refine wpList_clearN elemL zone rfl (.tmp 33) rfl ad3 (n - m) (cap - m) rfl g (m * 2) (splice cur (f * 2) X) 109 hb3' hd3.out (by rw [hsl']; exact hfit2.out) ?_); intro w4 J hJ hb4 ho4; have hbd4 := hbd.out.only ho4 (by simpa using hxg); have c4 := hbd4.cell 3 rfl; have f4 := hbd4.free 3)
  have hown := hfin.out _ J hJ hb4.out
  have hres := Lib.hid (hws0.out.setL (lv' := .slice (some ⟨g, 0, none⟩) m cap) (n' := m) hown (ho03.out.trans ho4) (.inl rfl) (by omega))
  go_end0
  exact ⟨⟨_, rfl⟩, _, _, hres.out.1, rfl, (Only.of_below hl0.out _).trans hres.out.2⟩
end
end Go.Proofs.YtaoegfdaemmogaaGreat.Scn
