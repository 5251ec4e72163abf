/-
  screen: a call, an attribute as an argument; many calls. screen: which inputs are looked at.
-/
import Derived.Test.YtaoegfdaemmogaaGreatRows
import Derived.Test.YtaoegfdaemmogaaGreatLMem
import Derived.ProofKit
import Derived.LaidMore
import Derived.OpenShut
import Derived.Stop.Joined
import Derived.Deep.Strs
import Derived.Deep.Slices
import Derived.Test.YtaoegfdaemmogaaGreatNMath
namespace Go.Proofs.YtaoegfdaemmogaaGreat.Scn
open Go Go.ChangeShapes Go.WideShapes Go.ChangeAt Go.RowKit Go.Deep Go.Proofs.YtaoegfdaemmogaaGreat.Com Go.Proofs.YtaoegfdaemmogaaGreat.Rw Go.Proofs.YtaoegfdaemmogaaGreat.Lns

/-- A call that is told. -/
structure Opr where
  kind : Int
  at' : Int
  n : Int
  cols : Int
  r : Int
  wide : Bool
  a : At
def opV (o : Opr) : List Value := .int .i64 o.kind :: .int .i64 o.at' :: .int .i64 o.n :: .int .i64 o.cols :: .int .i32 o.r :: .bool o.wide :: attV o.a
theorem own : ownKnob Tryz.prog.godebug = none := by kernel_rfl
theorem laidOut : laidOutB Tryz.prog = true := by kernel_rfl
theorem cInt : Tryz.prog.cellsOf 3 = 1 := by kernel_rfl
theorem cI32 : Tryz.prog.cellsOf 21 = 1 := by kernel_rfl
theorem cU32 : Tryz.prog.cellsOf 34 = 1 := by kernel_rfl
theorem cU16 : Tryz.prog.cellsOf 35 = 1 := by kernel_rfl
theorem cAtt : Tryz.prog.cellsOf 37 = 3 := by kernel_rfl
theorem cBool : Tryz.prog.cellsOf 4 = 1 := by kernel_rfl
theorem cOp : Tryz.prog.cellsOf 39 = 9 := by kernel_rfl

def AtOk (a : At) : Prop := (Lit.int .u32 a.f).wf = true ∧ (Lit.int .u32 a.b).wf = true ∧ (Lit.int .u16 a.g).wf = true
def Opr.Ok (o : Opr) : Prop := (Lit.int .i64 o.kind).wf = true ∧ (Lit.int .i64 o.at').wf = true ∧ (Lit.int .i64 o.n).wf = true ∧ (Lit.int .i64 o.cols).wf = true ∧ (Lit.int .i32 o.r).wf = true ∧ AtOk o.a
section
variable {H : Type} {enc : TypeId × Value → H} {W : World} {base : Nat} {spare : Nat → Bool} {held : Bool}
theorem trod_att {fuel : Nat} {cs : List Value} {x : DataW H × List MemPlace} (h : DataW.trod enc Tryz.prog W base spare held fuel 37 cs = some x) : ∃ a : At, cs = attV a ∧ AtOk a := by
  obtain ⟨y0, y1, y2, m', hy, hl, e0, e1, e2⟩ := trod_struct3 Tryz.underlying37 h
  rw [cU32] at e0 e1
  rw [cU16] at e2
  rw [cAtt] at hl
  obtain ⟨z0, q0, rfl, w0⟩ := DataW.trod_int Tryz.underlying34 e0
  obtain ⟨z1, q1, rfl, w1⟩ := DataW.trod_int Tryz.underlying34 e1
  obtain ⟨z2, q2, rfl, w2⟩ := DataW.trod_int Tryz.underlying35 e2
  match cs, hl with
  | [x, y, z], _ =>
    simp at q0 q1 q2
    subst q0
    subst q1
    subst q2
    exact ⟨⟨z0, z1, z2⟩, rfl, w0, w1, w2⟩
set_option maxRecDepth 100000 in
theorem trod_op {fuel : Nat} {cs : List Value} {x : DataW H × List MemPlace} (h : DataW.trod enc Tryz.prog W base spare held fuel 39 cs = some x) : ∃ o : Opr, cs = opV o ∧ o.Ok := by
  obtain ⟨xs, n, _, hx, hl, hlen, hf⟩ := DataW.trod_struct Tryz.underlying39 h
  rw [cOp] at hl
  have f0 : DataW.trod enc Tryz.prog W base spare held n 3 ((cs.drop 0).take (Tryz.prog.cellsOf 3)) = xs[0]? := hf 0 _ rfl
  have f1 : DataW.trod enc Tryz.prog W base spare held n 3 ((cs.drop 1).take (Tryz.prog.cellsOf 3)) = xs[1]? := hf 1 _ rfl
  have f2 : DataW.trod enc Tryz.prog W base spare held n 3 ((cs.drop 2).take (Tryz.prog.cellsOf 3)) = xs[2]? := hf 2 _ rfl
  have f3 : DataW.trod enc Tryz.prog W base spare held n 3 ((cs.drop 3).take (Tryz.prog.cellsOf 3)) = xs[3]? := hf 3 _ rfl
  have f4 : DataW.trod enc Tryz.prog W base spare held n 21 ((cs.drop 4).take (Tryz.prog.cellsOf 21)) = xs[4]? := hf 4 _ rfl
  have f5 : DataW.trod enc Tryz.prog W base spare held n 4 ((cs.drop 5).take (Tryz.prog.cellsOf 4)) = xs[5]? := hf 5 _ rfl
  have f6 : DataW.trod enc Tryz.prog W base spare held n 37 ((cs.drop 6).take (Tryz.prog.cellsOf 37)) = xs[6]? := hf 6 _ rfl
  rw [cInt] at f0 f1 f2 f3
  rw [cI32] at f4
  rw [cBool] at f5
  rw [cAtt] at f6
  match xs, hlen with
  | [y0, y1, y2, y3, y4, y5, y6], _ =>
    obtain ⟨z0, q0, _, w0⟩ := DataW.trod_int Tryz.underlying3 f0
    obtain ⟨z1, q1, _, w1⟩ := DataW.trod_int Tryz.underlying3 f1
    obtain ⟨z2, q2, _, w2⟩ := DataW.trod_int Tryz.underlying3 f2
    obtain ⟨z3, q3, _, w3⟩ := DataW.trod_int Tryz.underlying3 f3
    obtain ⟨z4, q4, _, w4⟩ := DataW.trod_int Tryz.underlying21 f4
    obtain ⟨z5, q5, _⟩ := DataW.trod_bool Tryz.underlying4 f5
    obtain ⟨a, q6, ha⟩ := trod_att f6
    match cs, hl with
    | [c0, c1, c2, c3, c4, c5, c6, c7, c8], _ =>
      simp at q0 q1 q2 q3 q4 q5
      simp [attV] at q6
      obtain ⟨q6, q7, q8⟩ := q6
      subst q0 q1 q2 q3 q4 q5 q6 q7 q8
      exact ⟨⟨z0, z1, z2, z3, z4, z5, a⟩, rfl, w0, w1, w2, w3, w4, ha⟩
set_option maxRecDepth 100000 in
theorem open_att {r : Reach} {b0 : Nat} {v : Value} {d : DataW H} {p : List MemPlace} (hv : Value.okWide Tryz.prog W r b0 37 v) (h : DataW.Trod enc Tryz.prog W base spare held 37 v d p) : ∃ a : At, v = .agg (attV a).toArray ∧ AtOk a := by
  obtain ⟨cs, rfl, _⟩ := okWide_struct Tryz.underlying37 hv
  obtain ⟨fuel, hf⟩ := h
  obtain ⟨o, ho, hk⟩ := trod_att hf
  refine ⟨o, ?_, hk⟩
  have : cs.toList = attV o := ho
  rw [← this]
set_option maxRecDepth 100000 in
theorem open_op {r : Reach} {b0 : Nat} {v : Value} {d : DataW H} {p : List MemPlace} (hv : Value.okWide Tryz.prog W r b0 39 v) (h : DataW.Trod enc Tryz.prog W base spare held 39 v d p) : ∃ o : Opr, v = .agg (opV o).toArray ∧ o.Ok := by
  obtain ⟨cs, rfl, _⟩ := okWide_struct Tryz.underlying39 hv
  obtain ⟨fuel, hf⟩ := h
  obtain ⟨o, ho, hk⟩ := trod_op hf
  refine ⟨o, ?_, hk⟩
  have : cs.toList = opV o := ho
  rw [← this]
end
/-- The calls lie there, one behind the other. -/
def OpsAt (w : World) (ao : Option Addr) (os : List Opr) : Prop := ∀ i o, os[i]? = some o → ∃ ad, ao = some ad ∧ ad.block < w.heap.size ∧ ∀ j v, (opV o)[j]? = some v → w.cell? ((ad.add (i * 9)).add j) = some v
theorem opV_length (o : Opr) : (opV o).length = 9 := rfl
instance : Inhabited Opr := ⟨⟨0, 0, 0, 0, 0, false, ⟨0, 0, 0⟩⟩⟩
theorem ops_in {H : Type} {enc : TypeId × Value → H} {W : World} {a : Option Addr} {n c : Nat} {d : DataW H} {p : List MemPlace}
    (h : DataW.Trod enc Tryz.prog W 0 (fun _ => true) true 22 (.slice a n c) d p) : ∃ l : List Opr, l.length = n ∧ l.length ≤ c ∧ c ≤ maxLen ∧ OpsAt W a l ∧ ∀ o ∈ l, o.Ok := by
  obtain ⟨fuel, hf⟩ := h
  rcases open_slice Tryz.underlying22 hf with ⟨hcs, _⟩ | ⟨x, l, cp, m, k, D, Pl, hcs, _, hl, hm, hmm, _, hx⟩
  · simp [Value.cells] at hcs
    obtain ⟨rfl, rfl, rfl⟩ := hcs
    exact ⟨[], rfl, Nat.le_refl _, by simp [maxLen], fun i o h => by simp at h, by simp⟩
  · simp [Value.cells] at hcs
    obtain ⟨rfl, rfl, rfl⟩ := hcs
    simp only [if_true] at hmm
    subst hmm
    rw [cOp] at hx
    obtain ⟨V, hV⟩ := choose_lt (α := Opr) (n := n) (p := fun i o => W.cells? 0 (x.add (i * 9)) 9 = some (opV o) ∧ o.Ok) (fun i hi => by
      obtain ⟨cs', h1, h2⟩ := hx i (by omega)
      obtain ⟨o, rfl, hk⟩ := trod_op h2
      exact ⟨o, h1, hk⟩)
    refine ⟨(List.range n).map V, by simp, by simpa using hl, hm, fun i o hi => ?_, fun o ho => ?_⟩
    · obtain ⟨hin, rfl⟩ : i < n ∧ V i = o := by
        rw [List.getElem?_map] at hi
        rcases Nat.lt_or_ge i n with hh | hh
        · rw [List.getElem?_range hh] at hi
          exact ⟨hh, by simpa using hi⟩
        · rw [List.getElem?_eq_none (by simpa using hh)] at hi
          simp at hi
      obtain ⟨h1, _⟩ := hV i hin
      obtain ⟨_, _, hcell⟩ := World.cells?_some h1
      refine ⟨x, rfl, ?_, fun j v hv => ?_⟩
      · have h0 := hcell 0 (by omega)
        rw [show (opV (V i))[0]? = some (.int .i64 (V i).kind) from rfl] at h0
        have hlt := World.block_lt_of_cell? _ _ h0
        rw [ChangeShapes.block_add, ChangeShapes.block_add] at hlt
        exact hlt
      · have hj : j < 9 := by
          have := (List.getElem?_eq_some_iff.1 hv).1
          rwa [opV_length] at this
        rw [hcell j hj]
        exact hv
    · obtain ⟨i, hi, rfl⟩ := List.mem_map.1 ho
      exact (hV i (List.mem_range.1 hi)).2
theorem OpsAt.below {w w' : World} {ao : Option Addr} {os : List Opr} (h : OpsAt w ao os) (hb : Below w.heap.size w w') : OpsAt w' ao os := fun i o hi => by
  obtain ⟨ad, rfl, hlt, hc⟩ := h i o hi
  refine ⟨ad, rfl, Nat.lt_of_lt_of_le hlt hb.size, fun j v hv => ?_⟩
  exact (World.cell?_of_block (w := w) (hb.block _ (by rw [ChangeShapes.block_add, ChangeShapes.block_add]; exact hlt))).trans (hc j v hv)
end Go.Proofs.YtaoegfdaemmogaaGreat.Scn
namespace Go.Proofs.YtaoegfdaemmogaaGreat.Scn
open Go Go.RowKit Go.Proofs.YtaoegfdaemmogaaGreat.Com Go.Proofs.YtaoegfdaemmogaaGreat.Rw Go.Proofs.YtaoegfdaemmogaaGreat.Lns
def Tame (rows cols most : Int) (l : List Opr) : Prop := (rows ≤ 12 ∧ cols ≤ 20 ∧ most ≤ 20 ∧ 0 ≤ most ∧ l.length ≤ 60) ∧ ∀ o ∈ l, o.kind = 6 → o.n ≤ 12 ∧ o.cols ≤ 20
def SaysT (e : Ending) (T : Prop) : Prop := ∃ b, e = .returned (.bool b) ∧ (b = true → T)
set_option maxRecDepth 100000 in
set_option maxHeartbeats 2000000 in
theorem tame_any {w : World} {a : Option Addr} {c : Nat} {l : List Opr} (h : OpsAt w a l) (rows cols most : Int) : Calls Tryz.prog 4 #[.int .i64 rows, .int .i64 cols, .int .i64 most, .slice a l.length c] w fun e w' => SaysT e (Tame rows cols most l) ∧ w' = w := by
  obtain ⟨N, hN⟩ : ∃ N, l.length = N := ⟨_, rfl⟩
  rw [hN]
  by_cases hP : rows ≤ 12 ∧ cols ≤ 20 ∧ most ≤ 20 ∧ 0 ≤ most ∧ N ≤ 60
  · obtain ⟨p1, p2, p3, p4, p5⟩ := hP
    have hT : (∀ i (hi : i < l.length), i < N → l[i].kind = 6 → l[i].n ≤ 12 ∧ l[i].cols ≤ 20) → Tame rows cols most l := fun hh => ⟨⟨p1, p2, p3, p4, by rw [hN]; exact p5⟩, fun o ho => by
      obtain ⟨i, hi, rfl⟩ := List.mem_iff_getElem.1 ho
      exact hh i hi (by omega)⟩
    have hat := fun i (hi : i < l.length) => h i l[i] (List.getElem?_eq_getElem hi)
    have d1 : decide ((12 : Int) < rows) = false := decide_eq_false (by omega)
    have d2 : decide ((20 : Int) < cols) = false := decide_eq_false (by omega)
    have d3 : decide ((20 : Int) < most) = false := decide_eq_false (by omega)
    have d4 : decide (most < (0 : Int)) = false := decide_eq_false (by omega)
    have d5 : decide ((60 : Int) < (N : Int)) = false := decide_eq_false (by omega)
    generalize Tame rows cols most l = T at hT ⊢
    replace hT := Lib.hid hT
    replace hat := Lib.hid hat
    replace hN := Lib.hid hN
    clear h
    go_enter Tryz.func4, Tryz.ntmps4
    go_wp2
    any_goals (first | (exfalso; omega) | skip)
    go_loopw [31] (fun iv wr => ∃ j : Nat, j ≤ N ∧ iv = .int .i64 j ∧ Hid (∀ i (hi : i < l.length), i < j → l[i].kind = 6 → l[i].n ≤ 12 ∧ l[i].cols ≤ 20) ∧ Hid (wr = w)) (fun iv _ => N - (intOf iv).toNat)
    case atStart => exact ⟨0, Nat.zero_le _, rfl, Lib.hid (fun i hi h => absurd h (Nat.not_lt_zero _)), Lib.hid rfl⟩
    case round =>
      obtain ⟨j, hj, rfl, hR, hW⟩ := hrel
      by_cases hlt : j < N
      · have hjI : (j : Int) < (N : Int) := by omega
        have hj1 : j < l.length := by rw [hN.out]; exact hlt
        obtain ⟨ad, rfl, _, hc⟩ := hat.out j hj1
        have hW2 := hW.out
        subst hW2
        have q0 := hc 0 _ rfl
        have q2 := hc 2 _ rfl
        have q3 := hc 3 _ rfl
        have hnext : (l[j].kind = 6 → l[j].n ≤ 12 ∧ l[j].cols ≤ 20) → Hid (∀ i (hi : i < l.length), i < j + 1 → l[i].kind = 6 → l[i].n ≤ 12 ∧ l[i].cols ≤ 20) := fun hx => Lib.hid (fun i hi h => by
          rcases Nat.lt_or_ge i j with h2 | h2
          · exact hR.out i hi h2
          · obtain rfl : i = j := by omega
            exact hx)
        generalize l[j] = o at q0 q2 q3 hnext
        obtain ⟨kind, at', n, co, ru, wide, at2⟩ := o
        simp only at hnext q0 q2 q3
        rw [Com.add_add, Nat.add_zero] at q0
        have q2' : wr.cell? ⟨(ad.add (j * 9)).block, (ad.add (j * 9)).off + 2, none⟩ = some (.int .i64 n) := q2
        have q3' : wr.cell? ⟨(ad.add (j * 9)).block, (ad.add (j * 9)).off + 3, none⟩ = some (.int .i64 co) := q3
        clear hc hR
        by_cases hk : kind = 6
        · have hke : (kind == 6) = true := by simp [hk]
          by_cases hn : (12 : Int) < n
          · have e1 := decide_eq_true hn
            clear hnext
            go_wp2
            go_ret
            exact ⟨⟨false, rfl, by simp⟩, rfl⟩
          · have e1 : decide ((12 : Int) < n) = false := decide_eq_false hn
            by_cases hc : (20 : Int) < co
            · have e2 := decide_eq_true hc
              clear hnext
              go_wp2
              go_ret
              exact ⟨⟨false, rfl, by simp⟩, rfl⟩
            · have e2 : decide ((20 : Int) < co) = false := decide_eq_false hc
              have hR2 := hnext (fun _ => ⟨by omega, by omega⟩)
              clear hnext
              go_wp2
              go_roundw
              case rel => exact ⟨j + 1, by omega, by go_num, hR2, (by first | exact Lib.hid rfl | exact Lib.hid trivial)⟩
              case measure => simp [intOf]; omega
        · have hke : (kind == 6) = false := by simp [hk]
          have hR2 := hnext (fun h => absurd h hk)
          clear hnext
          go_wp2
          go_roundw
          case rel => exact ⟨j + 1, by omega, by go_num, hR2, (by first | exact Lib.hid rfl | exact Lib.hid trivial)⟩
          case measure => simp [intOf]; omega
      · obtain rfl : j = N := by omega
        have hz := Lib.hid (hT.out hR.out)
        have hW2 := hW.out
        subst hW2
        go_wp2
        go_ret
        exact ⟨⟨true, rfl, fun _ => hz.out⟩, rfl⟩
  · clear h
    replace hN := Lib.hid hN
    go_enter Tryz.func4, Tryz.ntmps4
    go_wp2
    all_goals (first | (exfalso; omega) | (go_ret; exact ⟨⟨false, rfl, fun h => (by cases h)⟩, rfl⟩))
end Go.Proofs.YtaoegfdaemmogaaGreat.Scn
