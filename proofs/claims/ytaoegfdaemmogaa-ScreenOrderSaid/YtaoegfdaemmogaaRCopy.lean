/-
  row: append of structs; Copy; Cell.
-/
import Derived.Test.YtaoegfdaemmogaaRCells
import Derived.WalkSpells
namespace Go.Proofs.Ytaoegfdaemmogaa.Rw
open Go Go.RowKit Go.Proofs.Ytaoegfdaemmogaa.Com

/-- What append asks of a slice of structs. -/
structure ElemN (P : Program) (t e : TypeId) (z : Value) (size : Nat) : Prop where
  slice : P.underlying t = some (.slice e)
  info : ∃ i, P.info? e = some i ∧ i.zero = some z ∧ i.size = size ∧ i.bytes ≤ 100
  cells : z.cells.size = size
  pos : 0 < size
section
variable {P : Program} {t e : TypeId} {z : Value} {size : Nat}
theorem wp_appN (E : ElemN P t e z size) {w : World} {o : Oper} {a : Go.Act} {K : Go.Act → World → Prop} {Q : Exit → Go.Act → World → Prop} (s x : Operand)
    (ho : o.op = .call { callee := .builtin .append, args := #[s, x], argTypes := #[t, t] })
    (B : Nat) (v : Value) (n : Nat) (xs : List Value) (ad : Addr) (m c : Nat) (news : List Value) (hs : a.eval s = v) (hxe : a.eval x = .slice (some ad) m c)
    (h : w.ownsRow B e size v n xs) (hl : news.length = m * size) (hnews : ∀ j u, news[j]? = some u → w.cell? (ad.add j) = some u) (h1 : ∀ u ∈ news, u.oneCell' = true) (hB : B ≤ w.heap.size) (hx : n + m ≤ 100000)
    (hK : ∀ v' w', w'.ownsRow B e size v' (n + m) (xs ++ news) → Only v.ownBlock.toList w w' → (v'.ownBlock = v.ownBlock ∨ v'.ownBlock = some w.heap.size) → K (a.put o.dst v') w') : o.wp P a w K Q := by
  obtain ⟨i, hi, hz, hsz, hb⟩ := E.info
  have hby : (n + m) * i.bytes ≤ 100000 * 100 := Nat.mul_le_mul hx hb
  obtain ⟨v', w', hr, h2, h3, _, h5⟩ := run_append_own_at (P := P) w B t o.type e i z size i.bytes E.slice hi hz hsz rfl E.cells E.pos v n xs h ad m c news hl hnews h1 (by unfold maxLen; omega) (by omega) hB
  unfold Oper.wp execOp
  simp only [ho, resolve, invoke, builtin, Sem.run_bind, Sem.run_pure, Result.andThen_ok, List.map_toArray, List.map_cons, List.map_nil, hs, hxe, hr]
  exact hK v' w' h2 (Only.grown h3) h5
theorem wpList_appN (E : ElemN P t e z size) {w : World} {ops : Array Oper} {rest : List Oper} {o : Oper} {a : Go.Act} {Q : Exit → Go.Act → World → Prop} (hgd : Region.wanted o (yielded ops a.tmps) = true) (s x : Operand)
    (ho : o.op = .call { callee := .builtin .append, args := #[s, x], argTypes := #[t, t] })
    (B : Nat) (v : Value) (n : Nat) (xs : List Value) (ad : Addr) (m c : Nat) (news : List Value) (hs : a.eval s = v) (hxe : a.eval x = .slice (some ad) m c)
    (h : w.ownsRow B e size v n xs) (hl : news.length = m * size) (hnews : ∀ j u, news[j]? = some u → w.cell? (ad.add j) = some u) (h1 : ∀ u ∈ news, u.oneCell' = true) (hB : B ≤ w.heap.size) (hx : n + m ≤ 100000)
    (hK : ∀ v' w', w'.ownsRow B e size v' (n + m) (xs ++ news) → Only v.ownBlock.toList w w' → (v'.ownBlock = v.ownBlock ∨ v'.ownBlock = some w.heap.size) → wpList P ops Q rest (a.put o.dst v') w') : wpList P ops Q (o :: rest) a w :=
  wpList_wanted hgd fun _ hK' => wp_appN E s x ho B v n xs ad m c news hs hxe h hl hnews h1 hB hx fun v' w' h1 h2 h3 => hK' _ _ (hK v' w' h1 h2 h3)
end
theorem elemC : ElemN Try.prog 93 113 (.agg (cellC zeroCel).toArray) 10 := by
  have h : (Try.prog.info? 113).map (fun i => (i.zero, i.size, decide (i.bytes ≤ 100))) = some (some (.agg (cellC zeroCel).toArray), 10, true) := by kernel_rfl
  refine ⟨Try.underlying93, ?_, rfl, by omega⟩
  cases hq : Try.prog.info? 113 with
  | none => simp [hq] at h
  | some i =>
    simp only [hq, Option.map_some, Option.some.injEq, Prod.mk.injEq, decide_eq_true_eq] at h
    exact ⟨i, rfl, h.1, h.2.1, h.2.2⟩
theorem elemA : ElemN Try.prog 114 119 (.agg (apiP zp).toArray) 6 := by
  have h := info48z
  refine ⟨Try.underlying114, ?_, rfl, by omega⟩
  cases hq : Try.prog.info? 119 with
  | none => simp [hq] at h
  | some i =>
    simp only [hq, Option.map_some, Option.some.injEq, Prod.mk.injEq, decide_eq_true_eq] at h
    exact ⟨i, rfl, h.1, h.2.1, h.2.2⟩
theorem own_block {w : World} {B : Nat} {e : TypeId} {s n : Nat} {v : Value} {xs : List Value} (h : w.ownsRow B e s v n xs) (hn : 0 < n) : ∃ g cap tail, v = .slice (some ⟨g, 0, none⟩) n cap ∧ B ≤ g ∧ Block w g e (xs ++ tail).toArray ∧ n ≤ cap ∧ cap ≤ maxLen := by
  rcases h.2 with ⟨_, h0⟩ | ⟨g, cap, cur, rfl, hg, hh, hc, hm, _, ht⟩
  · omega
  · refine ⟨g, cap, cur.toList.drop (n * s), rfl, hg, ?_, hc, hm⟩
    rw [← ht, List.take_append_drop]
    exact hh
def CloneDone (w : World) (n : Nat) (l : List Cel) (e : Ending) (w' : World) : Prop := ∃ g cap tail, e = .returned (.slice (some ⟨g, 0, none⟩) n cap) ∧ Block w' g 113 (fl cellC l ++ tail).toArray ∧ n ≤ cap ∧ cap ≤ maxLen ∧ Below w.heap.size w w' ∧ w.heap.size ≤ g
set_option maxHeartbeats 1000000 in
theorem clone_any {w : World} {d g n cap : Nat} {tail : List Value} {l : List Cel} (h : RowX w d g n cap tail l) :
    Calls Try.prog 99 #[.slice (some ⟨g, 0, none⟩) n cap] w (CloneDone w n l) := by
  have hn := h.pos
  have hn5 := h.small
  have hll := h.len
  have hnil : ∀ W, (binOp .eql 93 (.slice (some ⟨g, 0, none⟩) n cap) (.slice none 0 0)).run Try.prog W = .ok (.bool false) W := fun W => Lib.run_eql_slice_nil W _ _ (some ⟨g, 0, none⟩) n cap 0 0 Try.underlying93
  have hown : (w.alloc (.cells #[] 113)).ownsRow w.heap.size 113 10 (.slice (some ⟨w.heap.size, 0, none⟩) 0 0) 0 [] := by
    have := World.ownsRow_lit (e := 113) (base := w.heap.size) (size := 10) w #[] 0 (Nat.le_refl _) (by simp [maxLen]) (by simp)
    simpa using this
  have hnews : ∀ j u, (fl cellC l)[j]? = some u → (w.alloc (.cells #[] 113)).cell? ((⟨g, 0, none⟩ : Addr).add j) = some u := by
    intro j u hj
    have := ((h.below (below_new w (.cells #[] 113))).part 0 l.length (by omega)) j u
    rw [List.drop_zero, List.take_length] at this
    exact this hj
  have hlen : (fl cellC l).length = n * 10 := by rw [fl_length cellC_length, hll]
  have hone := fl_one' cellC_one l
  replace hown := Lib.hid hown
  replace hnews := Lib.hid hnews
  replace hlen := Lib.hid hlen
  replace hone := Lib.hid hone
  clear h hll
  go_enter Try.func99, Try.ntmps99
  go_wp2_with (first
    | (with_reducible show wpList _ _ _ (⟨some 7, .call _, _, _, _, _⟩ :: _) _ _; go_must (refine wpList_appN elemC rfl (.tmp 5) (.tmp 6) rfl w.heap.size (.slice (some ⟨w.heap.size, 0, none⟩) 0 0) 0 [] ⟨g, 0, none⟩ n cap (fl cellC l) rfl rfl hown.out hlen.out hnews.out hone.out (by simp) (by omega) ?_); intro v2 w2 hown2 ho2 hat2))
  go_ret
  rw [Nat.zero_add, List.nil_append] at hown2
  obtain ⟨g2, cap2, tail2, rfl, hg2, hb2, hc2, hm2⟩ := own_block hown2 hn
  exact ⟨g2, cap2, tail2, rfl, hb2, hc2, hm2, ((Below.refl _ _).alloc (Nat.le_refl _) _).trans (ho2.below (by simp) (by simp [Value.ownBlock])), hg2⟩
def CopyDone (w : World) (n : Nat) (l : List Cel) (e : Ending) (w' : World) : Prop := ∃ d g cap tail, e = .returned (.pointer (some ⟨d, 0, none⟩)) ∧ RowX w' d g n cap tail l ∧ Below w.heap.size w w' ∧ w.heap.size ≤ d ∧ w.heap.size ≤ g
set_option maxHeartbeats 1000000 in
theorem copy_any {w : World} {d g n cap : Nat} {tail : List Value} {l : List Cel} (h : RowX w d g n cap tail l) :
    Calls Try.prog 95 #[.pointer (some ⟨d, 0, none⟩)] w (CopyDone w n l) := by
  have hn := h.pos
  have hn5 := h.small
  have hll := Lib.hid h.len
  have hn0 : ((n : Int) == 0) = false := beq_eq_false_iff_ne.2 (by omega)
  have hlen := Lib.hid (len_any h)
  have hc := h.slice
  have hcl := Lib.hid (clone_any h)
  clear h
  go_enter Try.func95, Try.ntmps95
  go_wp2_with (first
    | (go_at_call 18; (with_reducible refine (hlen.out).mono ?_); rintro e w' ⟨rfl, rfl⟩)
    | (go_at_call 99; (with_reducible refine (hcl.out).mono ?_); rintro e w1 ⟨g1, cap1, tail1, rfl, hb1, hle1, hm1, hbel1, hg1⟩))
  go_ret
  exact ⟨w1.heap.size, g1, cap1, tail1, rfl, ⟨Block.made w1 _ _, hb1.alloc _, hll.out, hle1, hm1, hn, hn5⟩, hbel1.alloc hbel1.size _, hbel1.size, hg1⟩
theorem copy_nil (w : World) : Calls Try.prog 95 #[.pointer none] w fun e w' => e = .returned (.pointer none) ∧ w = w' := by
  go_enter Try.func95, Try.ntmps95
  go_wp2_with ((go_at_call 18; (with_reducible refine (len_nil _).mono ?_); rintro e w' ⟨rfl, rfl⟩))
  go_ret
  exact ⟨rfl, rfl⟩
theorem copy_zero {w : World} {d : Nat} (h : w.cell? ⟨d, 0, none⟩ = some (.slice none 0 0)) : Calls Try.prog 95 #[.pointer (some ⟨d, 0, none⟩)] w fun e w' => e = .returned (.pointer none) ∧ w = w' := by
  have hl := Lib.hid (len_zero h)
  go_enter Try.func95, Try.ntmps95
  go_wp2_with ((go_at_call 18; (with_reducible refine (hl.out).mono ?_); rintro e w' ⟨rfl, rfl⟩))
  go_ret
  exact ⟨rfl, rfl⟩

/-! Cell. -/
theorem load_api {w : World} {g : Nat} {c : Cel} {v : Value} (h : Block w g 119 (apiC c v).toArray) : (loadVar 119 ⟨g, 0, none⟩).run Try.prog w = .ok (.agg (apiC c v).toArray) w :=
  run_loadVar_at w 119 ⟨g, 0, none⟩ (apiC c v) _ (fun j u hj => by rw [Addr.add_lit, Nat.zero_add]; exact h.cell j (by simpa using hj)) Try.underlying119 rfl (info48' c v)
theorem results_cell_tmp {fn : Func} {p q : Tmp} (h : fn.results = #[.cell p 119, .tmp q]) (tmps : Array Value) (w : World) (g : Nat) (c : Cel) (v : Value)
    (hp : tmps.getD p undef = .pointer (some ⟨g, 0, none⟩)) (hg : Block w g 119 (apiC c v).toArray) :
    (results fn tmps).run Try.prog w = .ok (.tuple #[.agg (apiC c v).toArray, tmps.getD q undef]) w := by
  have hp' : tmps[p]?.getD undef = .pointer (some ⟨g, 0, none⟩) := by simpa using hp
  simp [results, h, hp', asAddr, load_api hg]
def CellNo (w : World) (x : Int) (e : Ending) (w' : World) : Prop := e = .returned (.tuple #[.agg (apiC zeroCel (.slice none 0 0)).toArray, .int .i64 x]) ∧ Below w.heap.size w w'
theorem fresh_api (w : World) : Block (w.alloc (.cells #[.int .i32 0, .slice none 0 0, .int .u8 0, .int .u32 0, .int .u32 0, .int .u16 0] 119)) w.heap.size 119 (apiC zeroCel (.slice none 0 0)).toArray := Block.made w _ _
theorem stored_api {w1 : World} {b : Nat} {c c' : Cel} {v v' : Value} (hr : Block w1 b 119 (splice (apiC c v) 0 (apiC c' v')).toArray) : Block w1 b 119 (apiC c' v').toArray := by
  simpa [splice, apiC, attV] using hr
theorem below_fresh {w w1 : World} {o : Obj} (ho1 : Only [w.heap.size] (w.alloc o) w1) : Below w.heap.size w w1 := (below_new _ _).trans (ho1.below (by simp) (by simp))
section
variable {w : World} {d g n cap : Nat} {tail : List Value} {l : List Cel}
def CellYes (w : World) (c : Cel) (e : Ending) (w' : World) : Prop := ∃ v, e = .returned (.tuple #[.agg (apiC c v).toArray, .int .i64 0]) ∧ Own w' w.heap.size 21 .i32 v c.m ∧ Below w.heap.size w w'
end
end Go.Proofs.Ytaoegfdaemmogaa.Rw
