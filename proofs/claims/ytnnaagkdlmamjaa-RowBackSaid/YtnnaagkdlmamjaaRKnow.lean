/-
  row: the law's own known answers.
-/
import Derived.Test.YtnnaagkdlmamjaaRCopy
import Derived.Test.YtnnaagkdlmamjaaRBlank
import Derived.Laws.Cover4
namespace Go.Proofs.Ytnnaagkdlmamjaa.Rw
open Go Go.RowKit Go.Proofs.Ytnnaagkdlmamjaa.Com

/-! The text of a row. -/
def addCh (s : ByteArray) (c : Cel) : ByteArray := if c.wide = 2 then s ++ ⟨#[46]⟩ else s ++ Utf8.encode c.r
def textF (l : List Cel) : ByteArray := l.foldl addCh ⟨#[]⟩
theorem textF_snoc {l : List Cel} {k : Nat} (h : k < l.length) : textF (l.take (k + 1)) = addCh (textF (l.take k)) l[k] := by
  unfold textF
  rw [List.take_add_one, List.getElem?_eq_getElem h, List.foldl_append]
  rfl
theorem textF_size (l : List Cel) : (textF l).size ≤ 4 * l.length := by
  have h : ∀ (l : List Cel) (s : ByteArray), (l.foldl addCh s).size ≤ s.size + 4 * l.length := by
    intro l
    induction l with
    | nil => intro s; simp
    | cons c l ih =>
      intro s
      have h1 := ih (addCh s c)
      have h2 : (addCh s c).size ≤ s.size + 4 := by
        unfold addCh
        split
        · rw [ByteArray.size_append]; show s.size + 1 ≤ _; omega
        · rw [ByteArray.size_append]; have := encode_size_le c.r; omega
      simp only [List.foldl_cons, List.length_cons]
      omega
  have := h l ⟨#[]⟩
  have e : (⟨#[]⟩ : ByteArray).size = 0 := rfl
  unfold textF
  omega
/-- The cells of the place i of a row that was handed out, as a load meets them. -/
theorem Api.load {B : Nat} {w : World} {g n cap : Nat} {ps : List (Cel × Value)} (h : Api B w (.slice (some ⟨g, 0, none⟩) n cap) ps) {i : Nat} (hi : i < ps.length) : ∀ j v, (apiP ps[i])[j]? = some v → w.cell? ((⟨g, i * 6, none⟩ : Addr).add j) = some v := by
  intro j v hj
  have hj6 := (List.getElem?_eq_some_iff.1 hj).1
  rw [apiP_length] at hj6
  have e := fl_at apiP_length hi hj6
  rw [hj] at e
  have hlt : i * 6 + j < ps.length * 6 := by omega
  rcases h.own.2 with ⟨h0, _⟩ | ⟨g', cap', cur, e', _, hg, _, _, _, ht⟩
  · cases h0
  · simp only [Value.slice.injEq, Option.some.injEq, Addr.mk.injEq, and_true] at e'
    obtain ⟨rfl, rfl, rfl⟩ := e'
    rw [Addr.add_lit, cell_of_row w g _ cur _ (0, 0) hg]
    rw [← ht, List.getElem?_take, if_pos hlt] at e
    simpa using e
theorem Api.lt {B : Nat} {w : World} {v : Value} {ps : List (Cel × Value)} (h : Api B w v ps) : ∀ g, v.ownBlock = some g → B ≤ g ∧ g < w.heap.size := World.ownsRow.lt h.own

set_option maxRecDepth 100000 in
set_option maxHeartbeats 4000000 in
theorem runes_any {w : World} {d g n cap : Nat} {tail : List Value} {l : List Cel} (h : RowX w d g n cap tail l) (h4 : ∀ c ∈ l, c.m.length ≤ 4) :
    Calls Try.prog 31 #[.pointer (some ⟨d, 0, none⟩)] w fun e w' => e = .returned (.string (textF l)) ∧ Below w.heap.size w w' := by
  have hn5 := h.small
  have hll := h.len
  have hcs := Lib.hid (cells_any h h4)
  clear h
  go_enter Try.func31, Try.ntmps31
  go_wp2_with ((go_at_call 17; (with_reducible refine (hcs.out).mono ?_); rintro e w1 ⟨g2, ps, rfl, hA, hmap, hb1, hg2⟩))
  have hpl : ps.length = n := by
    have := congrArg List.length hmap
    simpa [hll] using this
  replace hA := Lib.hid hA
  replace hb1 := Lib.hid hb1
  replace hmap := Lib.hid hmap
  replace hpl := Lib.hid hpl
  replace hll := Lib.hid hll
  clear hcs
  go_loopw [3, 9] (fun s i wr => ∃ k : Nat, k ≤ n ∧ i = .int .i64 k ∧ s = .string (textF (l.take k)) ∧ Hid (Api w.heap.size wr (.slice (some ⟨g2, 0, none⟩) n n) ps ∧ Below w.heap.size w wr)) (fun _ i _ => n - (intOf i).toNat)
  case atStart => exact ⟨0, Nat.zero_le _, rfl, rfl, Lib.hid ⟨hA.out, hb1.out⟩⟩
  case round =>
    obtain ⟨k, hk, rfl, rfl, hR⟩ := hrel
    obtain ⟨hR, hB⟩ := hR.out
    by_cases hlt : k < n
    · have hkl : k < l.length := by rw [hll.out]; exact hlt
      have hkp : k < ps.length := by rw [hpl.out]; exact hlt
      have hld := hR.load hkp
      have hpk : ps[k].1 = l[k] := by
        have := hmap.out
        subst this
        simp
      have hE := textF_snoc hkl
      have hsz : (textF (l.take k)).size ≤ 2048 := by
        have := textF_size (l.take k)
        have e : (l.take k).length ≤ 512 := by simp; omega
        omega
      have hv1 := Own.one (hR.comb _ (List.getElem_mem hkp))
      rw [← hpk] at hE
      have hnx : ∀ w', Below wr.heap.size wr w' → Api w.heap.size w' (.slice (some ⟨g2, 0, none⟩) n n) ps ∧ Below w.heap.size w w' := fun w' hb => ⟨hR.below hb, below_next hB hb⟩
      generalize ps[k] = q at hld hE hv1
      obtain ⟨⟨r, m, wd, ⟨af, ab, ag⟩⟩, v⟩ := q
      simp only at hE hv1
      unfold addCh at hE
      simp only at hE
      have hP : apiP (⟨r, m, wd, ⟨af, ab, ag⟩⟩, v) = [.int .i32 r, v, .int .u8 wd, .int .u32 af, .int .u32 ab, .int .u16 ag] := rfl
      have hz := Block.made wr 48 #[.int .i32 0, .slice none 0 0, .int .u8 0, .int .u32 0, .int .u32 0, .int .u16 0]
      have hinf : (Try.prog.info? 48).map (·.size) = some [Value.int .i32 r, v, .int .u8 wd, .int .u32 af, .int .u32 ab, .int .u16 ag].length := info48
      have hone : ∀ u ∈ [Value.int .i32 r, v, .int .u8 wd, .int .u32 af, .int .u32 ab, .int .u16 ag], u.oneCell' = true := apiC_one (c := ⟨r, m, wd, ⟨af, ab, ag⟩⟩) hv1
      rw [hP] at hld
      have hen := encode_size_le r
      have hs1 : ¬ (9223372036854775807 < ((textF (l.take k)).size : Int) + 1) := by omega
      have hs2 : ¬ (9223372036854775807 < ((textF (l.take k)).size : Int) + ((Utf8.encode r).size : Int)) := by omega
      generalize textF (l.take k) = s at hE hsz hs1 hs2
      replace hld := Lib.hid hld
      replace hz := Lib.hid hz
      replace hinf := Lib.hid hinf
      replace hone := Lib.hid hone
      replace hnx := Lib.hid hnx
      clear hP hR hB hpk hA hb1
      by_cases h2 : wd = 2
      · subst h2
        rw [if_pos rfl] at hE
        replace hE := Lib.hid hE
        go_wp2_with (first
          | (with_reducible show wpList _ _ _ (⟨some 12, .load _ (.tmp 11), _, _, _, _⟩ :: _) _ _; go_must (refine wpList_loadAt rfl 48 (.tmp 11) rfl ⟨g2, k * 6, none⟩ rfl _ _ hld.out Try.underlying48 rfl hinf.out ?_))
          | (with_reducible show wpList _ _ _ (⟨none, .store _ (.tmp 5) _, _, _, _, _⟩ :: _) _ _; go_must (refine wpList_storeN rfl 48 (.tmp 5) (.tmp 12) rfl (g := wr.heap.size) (i := 0) hz.out [.int .i32 r, v, .int .u8 2, .int .u32 af, .int .u32 ab, .int .u16 ag] rfl rfl (by simp) (hinf.out) (hone.out) ?_); intro w3 hr3 ho3; have hb3 := hr3.out.cell 2 (by simp [splice]; rfl); have hb0 := hr3.out.cell 0 (by simp [splice]; rfl)))
        have hn3 := Lib.hid (hnx.out w3 (below_fresh ho3))
        clear hr3 ho3 hb3 hb0
        go_roundw
        case rel => exact ⟨k + 1, by omega, by go_num, by rw [hE.out], hn3⟩
        case measure => simp [intOf]; omega
      · rw [if_neg h2] at hE
        have h2' : (wd == 2) = false := by simpa using h2
        replace hE := Lib.hid hE
        go_wp2_with (first
          | (with_reducible show wpList _ _ _ (⟨some 12, .load _ (.tmp 11), _, _, _, _⟩ :: _) _ _; go_must (refine wpList_loadAt rfl 48 (.tmp 11) rfl ⟨g2, k * 6, none⟩ rfl _ _ hld.out Try.underlying48 rfl hinf.out ?_))
          | (with_reducible show wpList _ _ _ (⟨none, .store _ (.tmp 5) _, _, _, _, _⟩ :: _) _ _; go_must (refine wpList_storeN rfl 48 (.tmp 5) (.tmp 12) rfl (g := wr.heap.size) (i := 0) hz.out [.int .i32 r, v, .int .u8 wd, .int .u32 af, .int .u32 ab, .int .u16 ag] rfl rfl (by simp) (hinf.out) (hone.out) ?_); intro w3 hr3 ho3; have hb3 := hr3.out.cell 2 (by simp [splice]; rfl); have hb0 := hr3.out.cell 0 (by simp [splice]; rfl)))
        have hn3 := Lib.hid (hnx.out w3 (below_fresh ho3))
        clear hr3 ho3 hb3 hb0
        go_roundw
        case rel => exact ⟨k + 1, by omega, by go_num, by rw [hE.out], hn3⟩
        case measure => simp [intOf]; omega
    · obtain rfl : k = n := by omega
      have ht : l.take k = l := List.take_of_length_le (by rw [hll.out]; exact Nat.le_refl _)
      rw [ht]
      replace hB := Lib.hid hB
      clear hR ht hA hb1
      go_wp2
      go_ret
      exact ⟨rfl, hB.out⟩

/-! a, a wide rune, b. -/
def bl : Cel := ⟨32, [], 0, ⟨0, 0, 0⟩⟩
def ce (x : Int) : Cel := ⟨x, [], 0, ⟨0, 0, 0⟩⟩
def fourL : List Cel := [ce 97, ⟨19968, [], 1, ⟨0, 0, 0⟩⟩, ⟨0, [], 2, ⟨0, 0, 0⟩⟩, ce 98]
theorem four1 : setL (List.replicate 4 (clr zeroAt)) 0 (cellsPut 97 false zeroAt) = [ce 97, bl, bl, bl] := by rfl
theorem four2 : setL [ce 97, bl, bl, bl] 1 (cellsPut 19968 true zeroAt) = [ce 97, ⟨19968, [], 1, ⟨0, 0, 0⟩⟩, ⟨0, [], 2, ⟨0, 0, 0⟩⟩, bl] := by rfl
theorem four3 : setL [ce 97, ⟨19968, [], 1, ⟨0, 0, 0⟩⟩, ⟨0, [], 2, ⟨0, 0, 0⟩⟩, bl] 3 (cellsPut 98 false zeroAt) = fourL := by rfl
theorem whole_four : Whole fourL := by rw [← four3]; exact whole_setL _ _ _
theorem k0 : setL fourL 2 (cellsPut 120 false zeroAt) = [ce 97, bl, ce 120, ce 98] := by rfl
theorem k1 : insL fourL 2 1 zeroAt = [ce 97, bl, bl, bl] := by rfl
theorem k2 : delL fourL 0 1 zeroAt = [⟨19968, [], 1, ⟨0, 0, 0⟩⟩, ⟨0, [], 2, ⟨0, 0, 0⟩⟩, ce 98, bl] := by rfl
theorem k3 : eraseL fourL 0 2 zeroAt = [bl, bl, bl, ce 98] := by rfl
def FourDone (w : World) (e : Ending) (w' : World) : Prop := ∃ d g, e = .returned (.tuple #[.pointer (some ⟨d, 0, none⟩), .bool true]) ∧ RowX w' d g 4 4 [] fourL ∧ Below w.heap.size w w' ∧ w.heap.size ≤ d ∧ w.heap.size ≤ g
set_option maxHeartbeats 2000000 in
theorem four_any (w : World) : Calls Try.prog 30 #[] w (FourDone w) := by
  have hnew : Hid (Calls Try.prog 7 #[.int .i64 4] w (NewDone w 4)) := Lib.hid (new_yes 4 (by omega) (by omega) w)
  go_enter Try.func30, Try.ntmps30
  go_wp2_with ((go_at_call 7; (with_reducible refine (hnew.out).mono ?_); rintro e w1 ⟨d, g, rfl, hR1, hb1, hd, hg⟩))
  have hp1 := put_yes hR1 (whole_clr 4 zeroAt) 0 97 false zeroAt rfl (by decide)
  rw [four1] at hp1
  refine hp1.mono ?_
  rintro e w2 ⟨rfl, hR2, ho2⟩
  have hp2 := put_yes hR2 (by rw [← four1]; exact whole_setL _ _ _) 1 19968 true zeroAt rfl (by decide)
  rw [four2] at hp2
  go_wp2_with fail
  refine hp2.mono ?_
  rintro e w3 ⟨rfl, hR3, ho3⟩
  have hp3 := put_yes hR3 (by rw [← four2]; exact whole_setL _ _ _) 3 98 false zeroAt rfl (by decide)
  rw [four3] at hp3
  go_wp2_with fail
  refine hp3.mono ?_
  rintro e w4 ⟨rfl, hR4, ho4⟩
  have hres : Hid (FourDone w (.returned (.tuple #[.pointer (some ⟨d, 0, none⟩), .bool true])) w4) := Lib.hid ⟨d, g, rfl, hR4, hb1.trans (((ho2.trans ho3).trans ho4).below hb1.size (by simpa using hg)), hd, hg⟩
  clear hp1 hp2 hp3 hR1 hR2 hR3 hR4 ho2 ho3 ho4
  go_wp2_with fail
  go_ret2
  exact hres.out

theorem m_four : ∀ c ∈ fourL, c.m.length ≤ 4 := by decide
def txt (l : List Cel) : Value := .string (textF l)
theorem t0 : textF [ce 97, bl, ce 120, ce 98] = ⟨#[97, 32, 120, 98]⟩ := by kernel_rfl
theorem t1 : textF [ce 97, bl, bl, bl] = ⟨#[97, 32, 32, 32]⟩ := by kernel_rfl
theorem t2 : textF [⟨19968, [], 1, ⟨0, 0, 0⟩⟩, ⟨0, [], 2, ⟨0, 0, 0⟩⟩, ce 98, bl] = ⟨#[228, 184, 128, 46, 98, 32]⟩ := by kernel_rfl
theorem t3 : textF [bl, bl, bl, ce 98] = ⟨#[32, 32, 32, 98]⟩ := by kernel_rfl
def Ran (w : World) (d g : Nat) (l : List Cel) (e : Ending) (w' : World) : Prop := (∃ v, e = .returned v) ∧ RowX w' d g 4 4 [] l ∧ Only [g] w w'
theorem r0 {w : World} {d g : Nat} (h : RowX w d g 4 4 [] fourL) : Calls Try.prog 14 #[.pointer (some ⟨d, 0, none⟩), .int .i64 2, .int .i32 120, .bool false, .agg #[.int .u32 0, .int .u32 0, .int .u16 0]] w (Ran w d g [ce 97, bl, ce 120, ce 98]) := by
  have := put_yes h whole_four 2 120 false zeroAt rfl (by decide)
  rw [k0] at this
  exact this.mono fun e w' ⟨he, h1, h2⟩ => ⟨⟨_, he⟩, h1, h2⟩
theorem r1 {w : World} {d g : Nat} (h : RowX w d g 4 4 [] fourL) : Calls Try.prog 19 #[.pointer (some ⟨d, 0, none⟩), .int .i64 2, .int .i64 1, .agg #[.int .u32 0, .int .u32 0, .int .u16 0]] w (Ran w d g [ce 97, bl, bl, bl]) := by
  have := insert_any h whole_four 2 1 zeroAt
  rw [show insL fourL (heldF 2 4) (heldF 1 (4 - heldF 2 4)) zeroAt = [ce 97, bl, bl, bl] from k1] at this
  exact this.mono fun e w' ⟨he, h1, h2⟩ => ⟨⟨_, he⟩, h1, h2⟩
theorem r2 {w : World} {d g : Nat} (h : RowX w d g 4 4 [] fourL) : Calls Try.prog 20 #[.pointer (some ⟨d, 0, none⟩), .int .i64 0, .int .i64 1, .agg #[.int .u32 0, .int .u32 0, .int .u16 0]] w (Ran w d g [⟨19968, [], 1, ⟨0, 0, 0⟩⟩, ⟨0, [], 2, ⟨0, 0, 0⟩⟩, ce 98, bl]) := by
  have := delete_any h whole_four 0 1 zeroAt
  rw [show delL fourL (heldF 0 4) (heldF 1 (4 - heldF 0 4)) zeroAt = [⟨19968, [], 1, ⟨0, 0, 0⟩⟩, ⟨0, [], 2, ⟨0, 0, 0⟩⟩, ce 98, bl] from k2] at this
  exact this.mono fun e w' ⟨he, h1, h2⟩ => ⟨⟨_, he⟩, h1, h2⟩
theorem r3 {w : World} {d g : Nat} (h : RowX w d g 4 4 [] fourL) : Calls Try.prog 13 #[.pointer (some ⟨d, 0, none⟩), .int .i64 0, .int .i64 2, .agg #[.int .u32 0, .int .u32 0, .int .u16 0]] w (Ran w d g [bl, bl, bl, ce 98]) := by
  have := erase_any h whole_four 0 2 zeroAt
  rw [show eraseL fourL (heldF 0 4) (heldF 2 4) zeroAt = [bl, bl, bl, ce 98] from k3] at this
  exact this.mono fun e w' ⟨he, h1, h2⟩ => ⟨⟨_, he⟩, h1, h2⟩
theorem runes_of {w : World} {d g : Nat} {l : List Cel} {s : ByteArray} (h : RowX w d g 4 4 [] l) (h4 : ∀ c ∈ l, c.m.length ≤ 4) (hs : textF l = s) : Calls Try.prog 31 #[.pointer (some ⟨d, 0, none⟩)] w fun e w' => e = .returned (.string s) ∧ Below w.heap.size w w' := by
  rw [← hs]
  exact runes_any h h4
/-- An element of an array that lies in a slot. -/
theorem wpList_idx {P : Program} {ops : Array Oper} {rest : List Oper} {o : Oper} {a : Go.Act} {w : World} {Q : Exit → Go.Act → World → Prop} (hgd : o.guard = none) {t : TypeId} {u j v : Value} (h : ∀ w, (Instr.index t u j).run P w = .ok v w) (x i : Operand) (ho : o.op = .index t x i) (hx : a.eval x = u) (hj : a.eval i = j)
    (hK : wpList P ops Q rest (a.put o.dst v) w) : wpList P ops Q (o :: rest) a w :=
  wpList_plain hgd fun _ hK' => by
    unfold Oper.wp execOp
    simp only [ho, hx, hj, Sem.run_bind, h, Sem.run_pure, Result.andThen_ok]
    exact hK' _ _ hK
def wantV : Value := .agg #[.string ⟨#[97, 32, 120, 98]⟩, .string ⟨#[97, 32, 32, 32]⟩, .string ⟨#[228, 184, 128, 46, 98, 32]⟩, .string ⟨#[32, 32, 32, 98]⟩]
theorem i0 (w : World) : (Instr.index 64 wantV (.int .i64 0)).run Try.prog w = .ok (.string ⟨#[97, 32, 120, 98]⟩) w := by kernel_rfl
theorem i1 (w : World) : (Instr.index 64 wantV (.int .i64 1)).run Try.prog w = .ok (.string ⟨#[97, 32, 32, 32]⟩) w := by kernel_rfl
theorem i2 (w : World) : (Instr.index 64 wantV (.int .i64 2)).run Try.prog w = .ok (.string ⟨#[228, 184, 128, 46, 98, 32]⟩) w := by kernel_rfl
theorem i3 (w : World) : (Instr.index 64 wantV (.int .i64 3)).run Try.prog w = .ok (.string ⟨#[32, 32, 32, 98]⟩) w := by kernel_rfl
set_option maxRecDepth 100000 in
set_option maxHeartbeats 4000000 in
theorem known_any (w : World) : Calls Try.prog 9 #[] w fun e w' => e = .returned (.bool true) ∧ Below w.heap.size w w' := by
  go_enter Try.func9, Try.ntmps9
  go_wp2
  go_loopw [6] (fun i wr => ∃ k : Int, 0 ≤ k ∧ k ≤ 4 ∧ i = .int .i64 k ∧ Hid (Below w.heap.size w wr)) (fun i _ => (4 - intOf i).toNat)
  case atStart => exact ⟨0, by omega, by omega, rfl, Lib.hid (Below.refl _ _)⟩
  case round =>
    obtain ⟨k, hk0, hk4, rfl, hB⟩ := hrel
    have hcase : k = 0 ∨ k = 1 ∨ k = 2 ∨ k = 3 ∨ k = 4 := by omega
    rcases hcase with rfl | rfl | rfl | rfl | rfl
    · go_wp2_with (with_reducible show wpList _ _ _ (⟨some 9, .index _ _ _, _, _, _, _⟩ :: _) _ _; go_must (refine wpList_idx rfl i0 (.tmp 5) (.tmp 6) rfl rfl rfl ?_))
      refine (four_any wr).mono ?_
      rintro e w1 ⟨d, g, rfl, hR1, hb1, hd1, hg1⟩
      go_wp2_with fail
      refine (r0 hR1).mono ?_
      rintro e w2 ⟨⟨v2, rfl⟩, hR2, ho2⟩
      go_wp2_with fail
      refine (runes_of hR2 (by decide) t0).mono ?_
      rintro e w3 ⟨rfl, hb3⟩
      have hb : Below w.heap.size w w3 := below_next (below_next hB.out (hb1.trans (ho2.below hb1.size (by simpa using hg1)))) hb3
      replace hb := Lib.hid hb
      clear hR1 hb1 hd1 hg1 hR2 ho2 hb3
      go_wp2
      go_roundw
      case rel => exact ⟨1, by omega, by omega, rfl, hb⟩
      case measure => simp [intOf]
    · go_wp2_with (with_reducible show wpList _ _ _ (⟨some 9, .index _ _ _, _, _, _, _⟩ :: _) _ _; go_must (refine wpList_idx rfl i1 (.tmp 5) (.tmp 6) rfl rfl rfl ?_))
      refine (four_any wr).mono ?_
      rintro e w1 ⟨d, g, rfl, hR1, hb1, hd1, hg1⟩
      go_wp2_with fail
      refine (r1 hR1).mono ?_
      rintro e w2 ⟨⟨v2, rfl⟩, hR2, ho2⟩
      go_wp2_with fail
      refine (runes_of hR2 (by decide) t1).mono ?_
      rintro e w3 ⟨rfl, hb3⟩
      have hb : Below w.heap.size w w3 := below_next (below_next hB.out (hb1.trans (ho2.below hb1.size (by simpa using hg1)))) hb3
      replace hb := Lib.hid hb
      clear hR1 hb1 hd1 hg1 hR2 ho2 hb3
      go_wp2
      go_roundw
      case rel => exact ⟨2, by omega, by omega, rfl, hb⟩
      case measure => simp [intOf]
    · go_wp2_with (with_reducible show wpList _ _ _ (⟨some 9, .index _ _ _, _, _, _, _⟩ :: _) _ _; go_must (refine wpList_idx rfl i2 (.tmp 5) (.tmp 6) rfl rfl rfl ?_))
      refine (four_any wr).mono ?_
      rintro e w1 ⟨d, g, rfl, hR1, hb1, hd1, hg1⟩
      go_wp2_with fail
      refine (r2 hR1).mono ?_
      rintro e w2 ⟨⟨v2, rfl⟩, hR2, ho2⟩
      go_wp2_with fail
      refine (runes_of hR2 (by decide) t2).mono ?_
      rintro e w3 ⟨rfl, hb3⟩
      have hb : Below w.heap.size w w3 := below_next (below_next hB.out (hb1.trans (ho2.below hb1.size (by simpa using hg1)))) hb3
      replace hb := Lib.hid hb
      clear hR1 hb1 hd1 hg1 hR2 ho2 hb3
      go_wp2
      go_roundw
      case rel => exact ⟨3, by omega, by omega, rfl, hb⟩
      case measure => simp [intOf]
    · go_wp2_with (with_reducible show wpList _ _ _ (⟨some 9, .index _ _ _, _, _, _, _⟩ :: _) _ _; go_must (refine wpList_idx rfl i3 (.tmp 5) (.tmp 6) rfl rfl rfl ?_))
      refine (four_any wr).mono ?_
      rintro e w1 ⟨d, g, rfl, hR1, hb1, hd1, hg1⟩
      go_wp2_with fail
      refine (r3 hR1).mono ?_
      rintro e w2 ⟨⟨v2, rfl⟩, hR2, ho2⟩
      go_wp2_with fail
      refine (runes_of hR2 (by decide) t3).mono ?_
      rintro e w3 ⟨rfl, hb3⟩
      have hb : Below w.heap.size w w3 := below_next (below_next hB.out (hb1.trans (ho2.below hb1.size (by simpa using hg1)))) hb3
      replace hb := Lib.hid hb
      clear hR1 hb1 hd1 hg1 hR2 ho2 hb3
      go_wp2
      go_roundw
      case rel => exact ⟨4, by omega, by omega, rfl, hb⟩
      case measure => simp [intOf]
    · go_wp2
      go_ret
      exact ⟨rfl, hB.out⟩
end Go.Proofs.Ytnnaagkdlmamjaa.Rw
