/-
  lines: the reference's Copy of a row.
-/
import Derived.Test.YtaoegfdaemmogaaGreatRRNew
import Derived.Test.YtaoegfdaemmogaaGreatLPush
import Derived.Test.YtaoegfdaemmogaaGreatLRef2
namespace Go.Proofs.YtaoegfdaemmogaaGreat.Lns
open Go Go.RowKit Go.Proofs.YtaoegfdaemmogaaGreat.Com Go.Proofs.YtaoegfdaemmogaaGreat.Rw

structure CpSt (w wr : World) (k : Nat) (lv : Value) (ps qs : List (Cel × Value)) : Prop where
  box : Block wr w.heap.size 78 #[lv]
  own : wr.ownsRow (w.heap.size + 1) 117 6 lv k (fl apiP qs)
  comb : ∀ q ∈ qs, Own wr w.heap.size 21 .i32 q.2 q.1.m
  len : qs.length = k
  cel : cels qs = (cels ps).take k
  below : Below w.heap.size w wr
theorem CpSt.start (w : World) (ps : List (Cel × Value)) : CpSt w (w.alloc (.cells #[.slice none 0 0] 78)) 0 (.slice none 0 0) ps [] :=
  ⟨Block.made w _ _, World.ownsRow_nil _ _ _ _, by simp, rfl, by simp [cels], below_new _ _⟩
theorem CpSt.below' {w wr w' : World} {k : Nat} {lv : Value} {ps qs : List (Cel × Value)} (h : CpSt w wr k lv ps qs) (hb : Below wr.heap.size wr w') : CpSt w w' k lv ps qs :=
  ⟨h.box.only (Only.of_below hb []) (by simp), owns_only h.own (Only.of_below hb []) (by simp), fun q hq => (h.comb q hq).only (Only.of_below hb []) (by simp), h.len, h.cel, below_next h.below hb⟩
theorem CpSt.next {w w2 w3 : World} {k : Nat} {lv lv1 : Value} {ps qs : List (Cel × Value)} (h : CpSt w w2 k lv ps qs) (hk : k < ps.length) {v : Value} (hq : Own w2 w.heap.size 21 .i32 v ps[k].1.m)
    (hl : w3.ownsRow (w.heap.size + 1) 117 6 lv1 (k + 1) (fl apiP qs ++ apiC ps[k].1 v)) (ho : Only lv.ownBlock.toList w2 w3) :
    CpSt w (w3.setCell ⟨w.heap.size, 0, none⟩ lv1) (k + 1) lv1 ps (qs ++ [(ps[k].1, v)]) := by
  have hlt := World.ownsRow.lt h.own
  have hb3 := h.box.only ho (not_inO (Block.typ h.box) h.own (by decide))
  have ho4 : Only [w.heap.size] w3 (w3.setCell ⟨w.heap.size, 0, none⟩ lv1) := Only.setCell w3 ⟨w.heap.size, 0, none⟩ _
  have hcomb : ∀ {v : Value} {m : List Int}, Own w2 w.heap.size 21 .i32 v m → Own (w3.setCell ⟨w.heap.size, 0, none⟩ lv1) w.heap.size 21 .i32 v m := fun {v m} hv => by
    have h3 := hv.only ho (fun g hg => not_inO (Own.typ hv hg) h.own (by decide))
    exact h3.only ho4 (fun g hg => not_in1 (Own.typ h3 hg) (Block.typ hb3) (by decide))
  refine ⟨hb3.set 0 lv1, ?_, ?_, by rw [List.length_append, h.len]; rfl, ?_, ?_⟩
  · rw [fl_app, fl_one]
    exact owns_only hl ho4 (fun g hg => not_in1 (owns_typ hl g hg) (Block.typ hb3) (by decide))
  · intro q hm
    rcases List.mem_append.1 hm with hm | hm
    · exact hcomb (h.comb q hm)
    · obtain rfl : q = (ps[k].1, v) := by simpa using hm
      exact hcomb hq
  · have e : cels (qs ++ [(ps[k].1, v)]) = cels qs ++ [ps[k].1] := by simp [cels]
    rw [e, h.cel]
    have hk' : k < (cels ps).length := by rw [cels_length]; exact hk
    rw [List.take_succ_eq_append_getElem hk']
    simp [cels]
  · have h3 : Below w.heap.size w w3 := h.below.trans (ho.below h.below.size (fun x hx => by
      have := (hlt x (by simpa using hx)).1
      omega))
    exact h3.trans (ho4.below h3.size (by simp))
theorem CpSt.done {w wr : World} {n : Nat} {lv : Value} {ps qs : List (Cel × Value)} (h : CpSt w wr n lv ps qs) (hn : ps.length = n) (h0 : 0 < n) (h5 : n ≤ 512) : RefIn w.heap.size wr w.heap.size (cels ps) := by
  obtain ⟨g, cap, tail, rfl, hg, hb, hc, hm, ht⟩ := own_block' h.own h0
  refine ⟨g, n, cap, qs, ⟨h.box, ⟨?_, h.comb⟩, h.len, h0, h5, hc, hm, Nat.le_refl _⟩, ?_⟩
  · rw [h.len]
    exact owns_lower h.own (by omega)
  · rw [h.cel, List.take_of_length_le (by rw [cels_length]; omega)]

set_option maxRecDepth 100000 in
set_option maxHeartbeats 8000000 in
theorem rcopy_any {B : Nat} {w : World} {d gv n cap : Nat} {ps : List (Cel × Value)} (h : RefX B w d gv n cap ps) (h4 : ∀ p ∈ ps, p.1.m.length ≤ 4) :
    Calls Tryz.prog 86 #[.pointer (some ⟨d, 0, none⟩)] w fun e w' => e = .returned (.pointer (some ⟨w.heap.size, 0, none⟩)) ∧ RefIn w.heap.size w' w.heap.size (cels ps) ∧ Below w.heap.size w w' := by
  have hn0 := h.pos
  have hn5 := h.small
  have hlen := h.len
  have h0 := Lib.hid (CpSt.start w ps)
  replace h := Lib.hid h
  replace h4 := Lib.hid h4
  go_enter Tryz.func86, Tryz.ntmps86
  go_wp2
  go_loopw [4] (fun i wr => ∃ (k : Nat) (lv : Value) (qs : List (Cel × Value)), k ≤ n ∧ i = .int .i64 k ∧ Hid (CpSt w wr k lv ps qs)) (fun i _ => n - (intOf i).toNat)
  case atStart => exact ⟨0, _, _, Nat.zero_le _, rfl, h0⟩
  case round =>
    obtain ⟨k, lv, qs, hk, rfl, hR⟩ := hrel
    have hR := hR.out
    clear h0
    obtain ⟨ao, c0, rfl, _⟩ := owns_shape hR.own
    have hX := h.out.below hR.below
    have hs := hX.slice
    by_cases hlt : k < n
    · have hkp : k < ps.length := by omega
      have hki : (k : Int) < (n : Int) := by omega
      have hbel : Below wr.heap.size wr wr.drew := below_dr (Below.refl _ _) 1
      have hcm := (hX.below hbel).api.comb _ (List.getElem_mem hkp)
      have hcl := hX.cells hkp
      have how := own_any ps[k].1 ps[k].2 wr.drew hcm (h4.out _ (List.getElem_mem hkp))
      have hnx := fun w2 w3 (v : Value) (hb : Below wr.heap.size wr w2) (hq : Own w2 w.heap.size 21 .i32 v ps[k].1.m) => fun lv1 => (hR.below' hb).next (w3 := w3) (lv1 := lv1) hkp hq
      have hcb := fun w' (hb : Below wr.heap.size wr w') => (hR.below' hb).box
      have hco := fun w' (hb : Below wr.heap.size wr w') => (hR.below' hb).own
      have hv1 := Own.one hcm
      generalize ps[k] = q at how hcl hcm hv1 hnx
      obtain ⟨⟨r, m, wd, ⟨af, ab, ag⟩⟩, v⟩ := q
      have hC : ∀ v, (apiC ⟨r, m, wd, ⟨af, ab, ag⟩⟩ v).toArray = #[.int .i32 r, v, .int .u8 wd, .int .u32 af, .int .u32 ab, .int .u16 ag] := fun _ => rfl
      have hc0 := hR.box.cell 0 rfl
      have hRb := hR.below
      simp only at how hcl hcm hv1 hnx
      unfold OwnC at how
      simp only [hC] at how
      obtain ⟨q0, q1, q2, q3, q4, q5⟩ := hcl
      replace how := Lib.hid how
      replace hnx := Lib.hid hnx
      replace hcb := Lib.hid hcb
      replace hco := Lib.hid hco
      replace hbel := Lib.hid hbel
      replace hX := Lib.hid hX
      replace hRb := Lib.hid hRb
      replace hC := Lib.hid hC
      clear hR hcm
      go_wp2
      go_region_law (first
        | (go_simp; go_at_call 97; (with_reducible refine how.out.mono ?_); rintro e w2 ⟨v2, rfl, how2, hb2'⟩; have hb2 := below_next hbel.out hb2'; have kb2 := hcb.out _ hb2; have kc2 : w2.cell? ⟨w.heap.size, 0, none⟩ = some (.slice ao k c0) := kb2.cell 0 rfl; have hal := below_next hb2 (below_new w2 (.cells #[.int .i32 r, v2, .int .u8 wd, .int .u32 af, .int .u32 ab, .int .u16 ag] 117)); have kb3 := hcb.out _ hal; have kc3 : (w2.alloc (.cells #[.int .i32 r, v2, .int .u8 wd, .int .u32 af, .int .u32 ab, .int .u16 ag] 117)).cell? ⟨w.heap.size, 0, none⟩ = some (.slice ao k c0) := kb3.cell 0 rfl; have ko3 := hco.out _ hal; have kl3 := lit_at w2 (apiC ⟨r, m, wd, ⟨af, ab, ag⟩⟩ v2); have k13 := apiC_one (c := ⟨r, m, wd, ⟨af, ab, ag⟩⟩) (Own.one how2); have ksz := hal.size)
        | (refine step_appN elemA rfl (.tmp 20) (.tmp 29) rfl (w.heap.size + 1) (.slice ao k c0) k (fl apiP qs) ⟨w2.heap.size, 0, none⟩ 1 1 (apiC ⟨r, m, wd, ⟨af, ab, ag⟩⟩ v2) rfl rfl ko3 rfl kl3 k13 (by have := hRb.out.size; have := kb3.lt; simp at *; omega) (by omega) ?_; intro lv1 w4 hl4 ho4 hat4; have kb4 := kb3.only ho4 (not_inO (Block.typ kb3) ko3 (by decide)); have kc4 : w4.cell? ⟨w.heap.size, 0, none⟩ = some (.slice ao k c0) := kb4.cell 0 rfl; have kf4 := kb4.free 0; obtain ⟨a4, c4, rfl, _⟩ := owns_shape hl4))
      all_goals
        have hq := Own.lower (how2.alloc (.cells #[.int .i32 r, v2, .int .u8 wd, .int .u32 af, .int .u32 ab, .int .u16 ag] 117)) (show w.heap.size ≤ wr.drew.heap.size from hRb.out.size)
        have hN := Lib.hid (hnx.out _ w4 v2 hal hq _ hl4 ho4)
        clear hal hq hl4 ho4 hat4 kb4 kc4 kf4 kb3 kc3 ko3 kl3 k13 ksz kb2 kc2 hb2 hb2' how2 hc0 q0 q1 q2 q3 q4 q5
        go_wp2
        go_roundw
        case rel => exact ⟨k + 1, _, _, by omega, by go_num, hN⟩
        case measure => simp [intOf]; omega
    · obtain rfl : k = n := by omega
      have hD := Lib.hid (hR.done hlen hn0 hn5)
      have hB := Lib.hid hR.below
      clear hR
      go_wp2
      go_ret
      exact ⟨rfl, hD.out, hB.out⟩
end Go.Proofs.YtaoegfdaemmogaaGreat.Lns

namespace Go.Proofs.YtaoegfdaemmogaaGreat.Lns
open Go Go.RowKit Go.Proofs.YtaoegfdaemmogaaGreat.Com Go.Proofs.YtaoegfdaemmogaaGreat.Rw

theorem wpList_appM {P : Program} {t e : TypeId} {z : Value} {size : Nat} (E : ElemN P t e z size) {w : World} {ops : Array Oper} {rest : List Oper} {o : Oper} {a : Go.Act} {Q : Exit → Go.Act → World → Prop} (hgd : o.guard = none) (s x : Operand)
    (ho : o.op = .call { callee := .builtin .append, args := #[s, x], argTypes := #[t, t] })
    (B : Nat) (v : Value) (n : Nat) (xs : List Value) (ao : Option Addr) (m c : Nat) (news : List Value) (hs : a.eval s = v) (hxe : a.eval x = .slice ao m c)
    (h : w.ownsRow B e size v n xs) (hl : news.length = m * size) (hnone : ao = none → m = 0 ∧ c = 0) (hnews : ∀ ad, ao = some ad → ∀ j u, news[j]? = some u → w.cell? (ad.add j) = some u) (h1 : ∀ u ∈ news, u.oneCell' = true) (hB : B ≤ w.heap.size) (hx : n + m ≤ 100000)
    (hK : ∀ v' w', w'.ownsRow B e size v' (n + m) (xs ++ news) → Only v.ownBlock.toList w w' → (v'.ownBlock = v.ownBlock ∨ v'.ownBlock = some w.heap.size) → wpList P ops Q rest (a.put o.dst v') w') : wpList P ops Q (o :: rest) a w := by
  cases ao with
  | some ad => exact wpList_appN E (by simp [Region.wanted, hgd]) s x ho B v n xs ad m c news hs hxe h hl (hnews ad rfl) h1 hB hx hK
  | none =>
    obtain ⟨rfl, rfl⟩ := hnone rfl
    obtain rfl : news = [] := List.eq_nil_of_length_eq_zero (by simpa using hl)
    obtain ⟨i, hi, hz, hsz, hb⟩ := E.info
    refine wpList_plain hgd fun _ hK' => ?_
    have hrun := run_append_owned_none (P := P) w B t o.type e i size E.slice hi v n xs h
    unfold Oper.wp
    simp [execOp, ho, resolve, invoke, builtin, hs, hxe, hrun, Result.andThen]
    exact hK' _ _ (hK v w (by simpa using h) (Only.refl _ _) (.inl rfl))
theorem elemRL : ElemN Tryz.prog 59 71 (.agg #[.int .i64 0, .pointer none]) 2 := by
  have h : (Tryz.prog.info? 71).map (fun i => (i.zero, i.size, decide (i.bytes ≤ 100))) = some (some (.agg #[.int .i64 0, .pointer none]), 2, true) := by kernel_rfl
  refine ⟨Tryz.underlying59, ?_, rfl, by omega⟩
  cases hq : Tryz.prog.info? 71 with
  | none => simp [hq] at h
  | some i =>
    simp only [hq, Option.map_some, Option.some.injEq, Prod.mk.injEq, decide_eq_true_eq] at h
    exact ⟨i, rfl, h.1, h.2.1, h.2.2⟩
theorem info32 : (Tryz.prog.info? 59).map (·.size) = some 1 := by kernel_rfl
section
variable {B : Nat} {w w' : World} {r nx most : Nat} {lv : Value} {R : List En} {L : List Nat}
theorem RL.news (h : RL B w lv R) : ∃ ao c, lv = .slice ao R.length c ∧ (ao = none → R.length = 0 ∧ c = 0) ∧ (∀ ad, ao = some ad → ∀ j u, (fl rlineC R)[j]? = some u → w.cell? (ad.add j) = some u) ∧ c ≤ maxLen := by
  rcases h with ⟨rfl, rfl⟩ | ⟨g, off, c, rfl, hc, hm, _, _, _, hv⟩
  · exact ⟨none, 0, rfl, fun _ => ⟨rfl, rfl⟩, by simp, by unfold maxLen; omega⟩
  · refine ⟨_, c, rfl, by simp, fun ad e j u hj => ?_, hm⟩
    obtain rfl := Option.some.inj e
    rw [Addr.add_lit]
    exact hv j u hj
/-- It is told of its own rows alone. -/
theorem RefIn.pos {B : Nat} {w : World} {d : Nat} {l : List Cel} (h : RefIn B w d l) : ∃ g n c, 0 < n ∧ w.cell? ⟨d, 0, none⟩ = some (.slice (some ⟨g, 0, none⟩) n c) := by
  obtain ⟨gv, n, cap, ps, hx, he⟩ := h
  exact ⟨gv, n, cap, hx.pos, hx.slice⟩
theorem rpush_no (h : RX B w r nx most lv R) (id : Int) (hid : id < 1 ∨ (nx : Int) ≤ id) {B' dr : Nat} {l : List Cel} (hr : RefIn B' w dr l) : Calls Tryz.prog 64 #[.pointer (some ⟨r, 0, none⟩), .int .i64 id, .pointer (some ⟨dr, 0, none⟩)] w fun e w' => e = .returned (.int .i64 2) ∧ w = w' := by
  obtain ⟨h0, h1, h2⟩ := h.cells
  obtain ⟨g, n, c, hp, hs⟩ := RefIn.pos hr
  have hn0 : ((n : Int) == 0) = false := beq_eq_false_iff_ne.2 (by omega)
  clear h hr
  by_cases h3 : id < 1
  · clear hid
    go_enter Tryz.func64, Tryz.ntmps64
    go_wp2
    go_ret
    exact ⟨rfl, rfl⟩
  · have h3' := decide_eq_false h3
    have h4 : (nx : Int) ≤ id := by omega
    clear hid
    go_enter Tryz.func64, Tryz.ntmps64
    go_wp2
    go_ret
    exact ⟨rfl, rfl⟩
theorem rcopy_in {B' dr : Nat} {l : List Cel} (hr : RefIn B' w dr l) (hgd : Rw.Good l) : Calls Tryz.prog 86 #[.pointer (some ⟨dr, 0, none⟩)] w fun e w' => e = .returned (.pointer (some ⟨w.heap.size, 0, none⟩)) ∧ RefIn w.heap.size w' w.heap.size l ∧ Below w.heap.size w w' := by
  obtain ⟨gv, n, cap, ps, hx, rfl⟩ := hr
  exact rcopy_any hx (fun p hp => (hgd.cell p.1 (List.mem_map_of_mem hp)).four)
def RPushDone (B : Nat) (w : World) (r nx most : Nat) (R : List En) (id : Int) (l : List Cel) (e : Ending) (w' : World) : Prop :=
  ∃ lv' dr', e = .returned (.int .i64 0) ∧ RX B w' r nx most lv' (pushL most R ⟨id, 0, 0, dr', l⟩) ∧ w.heap.size ≤ dr' ∧ Only [r] w w' ∧ ∀ g, Hits lv' g → w.heap.size ≤ g
/-- Behind the second append. -/
structure RPSt (B : Nat) (w w4 : World) (r nx most : Nat) (R : List En) (e0 : En) (g c : Nat) : Prop where
  blk : Block w4 r 61 #[.int .i64 nx, .int .i64 most, .slice (some ⟨g, 0, none⟩) (R.length + 1) c]
  own : w4.ownsRow w.heap.size 71 2 (.slice (some ⟨g, 0, none⟩) (R.length + 1) c) (R.length + 1) (fl rlineC (R ++ [e0]))
  ref : ∀ e ∈ R ++ [e0], RefIn B w4 e.dr e.l
  only : Only [r] w w4
  lo : B ≤ r
  rlt : r < w.heap.size
  small : nx ≤ 1000000
theorem RPSt.drawn {e0 : En} {w4 : World} {g c : Nat} (h : RPSt B w w4 r nx most R e0 g c) (q : Nat) : RPSt B w (w4.drewN q) r nx most R e0 g c := by
  have ho := Only.drewN [] w4 q
  exact ⟨h.blk.only ho (by simp), owns_only h.own ho (by simp), fun e he => RefIn.below (h.ref e he) (below_dr (Below.refl _ _) q), h.only.trans (Only.drewN _ _ _), h.lo, h.rlt, h.small⟩
theorem RPSt.more {e0 : En} {w4 : World} {g c : Nat} (h : RPSt B w w4 r nx most R e0 g c) (hle : ¬ most < R.length + 1) {id : Int} {l : List Cel} {dr : Nat} (he : e0 = ⟨id, 0, 0, dr, l⟩) (hdr : w.heap.size ≤ dr) : RPushDone B w r nx most R id l (.returned (.int .i64 0)) w4 := by
  subst he
  have hlt := World.ownsRow.lt h.own g rfl
  have hlen : (R ++ [(⟨id, 0, 0, dr, l⟩ : En)]).length = R.length + 1 := by simp
  obtain ⟨ao, c', e1, hc, hm⟩ := owns_shape h.own
  simp only [Value.slice.injEq] at e1
  obtain ⟨rfl, _, rfl⟩ := e1
  have hpu : pushL most R ⟨id, 0, 0, dr, l⟩ = R ++ [⟨id, 0, 0, dr, l⟩] := by unfold pushL; rw [if_neg hle]
  refine ⟨.slice (some ⟨g, 0, none⟩) (R.length + 1) c, dr, rfl, ?_, hdr, h.only, ?_⟩
  · rw [hpu]
    have hnews := own_news h.own
    have hB : B ≤ g := Nat.le_trans h.lo (by have := h.rlt; omega)
    refine ⟨h.blk, .inr ⟨g, 0, c, by rw [hlen], by rw [hlen]; exact hc, hm, hB, owns_typ h.own g rfl, hlt.2, fun j v hj => ?_⟩, h.ref, h.lo, h.small⟩
    have := hnews j v hj
    rwa [Addr.add_lit] at this
  · rintro g' ⟨off, n, c2, e⟩
    simp only [Value.slice.injEq, Option.some.injEq, Addr.mk.injEq] at e
    obtain ⟨⟨rfl, _⟩, _⟩ := e
    exact hlt.1
theorem RPSt.less {e0 : En} {w4 : World} {g c : Nat} (h : RPSt B w w4 r nx most R e0 g c) (hle : most < R.length + 1) {id : Int} {l : List Cel} {dr : Nat} (he : e0 = ⟨id, 0, 0, dr, l⟩) (hdr : w.heap.size ≤ dr) (off c' : Nat) (ho : R.length = 0 ∨ off = 2) (hc' : c' + 1 = c) :
    RPushDone B w r nx most R id l (.returned (.int .i64 0)) (w4.setCell ⟨r, 2, none⟩ (.slice (some ⟨g, off, none⟩) R.length c')) := by
  subst he
  have hlt := World.ownsRow.lt h.own g rfl
  have hg := owns_typ h.own g rfl
  obtain ⟨ao, c2, e1, hc, hm⟩ := owns_shape h.own
  simp only [Value.slice.injEq] at e1
  obtain ⟨rfl, _, rfl⟩ := e1
  have hpu : pushL most R ⟨id, 0, 0, dr, l⟩ = (R ++ [(⟨id, 0, 0, dr, l⟩ : En)]).drop 1 := by unfold pushL; rw [if_pos hle]
  have hlen : ((R ++ [(⟨id, 0, 0, dr, l⟩ : En)]).drop 1).length = R.length := by simp
  have ho4 : Only [r] w4 (w4.setCell ⟨r, 2, none⟩ (.slice (some ⟨g, off, none⟩) R.length c')) := Only.setCell w4 ⟨r, 2, none⟩ _
  have ht4 : ∀ k ∈ [r], Typ w4 k 61 := fun k hk => by
    obtain rfl : k = r := by simpa using hk
    exact Block.typ h.blk
  have hgr : g ∉ [r] := not_in1 hg (Block.typ h.blk) (by decide)
  refine ⟨.slice (some ⟨g, off, none⟩) R.length c', dr, rfl, ?_, hdr, h.only.trans ho4, ?_⟩
  · rw [hpu]
    have hnews := own_news h.own
    have hB : B ≤ g := Nat.le_trans h.lo (by have := h.rlt; omega)
    have hrow : RL B w4 (.slice (some ⟨g, off, none⟩) R.length c') ((R ++ [(⟨id, 0, 0, dr, l⟩ : En)]).drop 1) := .inr ⟨g, off, c', by rw [hlen], by rw [hlen]; omega, by omega, hB, hg, hlt.2, fun j v hj => by
      have hd := fl_drop rlineC_length (R ++ [(⟨id, 0, 0, dr, l⟩ : En)]) 1 (by simp)
      rw [← hd, List.getElem?_drop] at hj
      have hoff : off = 2 := by
        rcases ho with ho | ho
        · exfalso
          have hx := (List.getElem?_eq_some_iff.1 hj).1
          rw [fl_length rlineC_length, List.length_append, List.length_singleton, ho] at hx
          omega
        · exact ho
      subst hoff
      have := hnews _ v hj
      rw [Addr.add_lit, Nat.zero_add] at this
      exact this⟩
    exact ⟨h.blk.set 2 _, hrow.only ho4 (fun g' hg' hm' => by
      obtain ⟨o2, n2, c3, e⟩ := hg'
      simp only [Value.slice.injEq, Option.some.injEq, Addr.mk.injEq] at e
      obtain ⟨⟨rfl, _⟩, _⟩ := e
      exact hgr hm'), fun e he => RefIn.other (h.ref e (List.mem_of_mem_drop he)) ho4 ht4 (by decide) (by decide) (by decide), h.lo, h.small⟩
  · rintro g' ⟨o2, n2, c3, e⟩
    simp only [Value.slice.injEq, Option.some.injEq, Addr.mk.injEq] at e
    obtain ⟨⟨rfl, _⟩, _⟩ := e
    exact hlt.1
theorem one_line (id : Int) (d : Nat) : ∀ v ∈ [Value.int .i64 id, .pointer (some ⟨d, 0, none⟩)], v.oneCell' = true := rlineC_one ⟨id, 0, 0, d, []⟩
theorem push_mid {w1 w2 : World} {v1 : Value} {l : List Cel} (hb1 : Below w.heap.size w w1) (hown1 : w1.ownsRow w.heap.size 71 2 v1 R.length (fl rlineC R)) (hb2 : Below w1.heap.size w1 w2) (hr2 : RefIn w1.heap.size w2 w1.heap.size l) (id : Int) :
    Below w.heap.size w (w2.alloc (.cells #[.int .i64 id, .pointer (some ⟨w1.heap.size, 0, none⟩)] 71)) ∧
    (w2.alloc (.cells #[.int .i64 id, .pointer (some ⟨w1.heap.size, 0, none⟩)] 71)).ownsRow w.heap.size 71 2 v1 R.length (fl rlineC R) ∧
    RefIn w1.heap.size (w2.alloc (.cells #[.int .i64 id, .pointer (some ⟨w1.heap.size, 0, none⟩)] 71)) w1.heap.size l ∧
    (∀ j u, [Value.int .i64 id, .pointer (some ⟨w1.heap.size, 0, none⟩)][j]? = some u → (w2.alloc (.cells #[.int .i64 id, .pointer (some ⟨w1.heap.size, 0, none⟩)] 71)).cell? ((⟨w2.heap.size, 0, none⟩ : Addr).add j) = some u) ∧
    ∀ (L : List Nat) w3, L = v1.ownBlock.toList → Only L (w2.alloc (.cells #[.int .i64 id, .pointer (some ⟨w1.heap.size, 0, none⟩)] 71)) w3 → Below w.heap.size w w3 ∧ RefIn w1.heap.size w3 w1.heap.size l := by
  have hbn := below_new w2 (.cells #[.int .i64 id, .pointer (some ⟨w1.heap.size, 0, none⟩)] 71)
  have hbW := below_next (below_next hb1 hb2) hbn
  have hoW := owns_only hown1 (Only.of_below (below_next hb2 hbn) []) (by simp)
  have hrW := RefIn.below hr2 hbn
  refine ⟨hbW, hoW, hrW, fun j u hj => ?_, fun L w3 hL ho => ?_⟩
  · rw [Addr.add_lit, Nat.zero_add]
    exact (Block.made w2 71 #[.int .i64 id, .pointer (some ⟨w1.heap.size, 0, none⟩)]).cell j (by simpa using hj)
  · subst hL
    refine ⟨hbW.trans (ho.below hbW.size fun k hk => (World.ownsRow.lt hoW k (by simpa using hk)).1), RefIn.other hrW ho (fun k hk => owns_typ hoW k (by simpa using hk)) (by decide) (by decide) (by decide)⟩
set_option maxRecDepth 100000 in
set_option maxHeartbeats 4000000 in
theorem rpush_yes (h : RX B w r nx most lv R) (h5 : R.length ≤ 10000) (id : Int) (hid : 1 ≤ id ∧ id < nx) {B' dr : Nat} {l : List Cel} (hr : RefIn B' w dr l) (hgd : Rw.Good l) : Calls Tryz.prog 64 #[.pointer (some ⟨r, 0, none⟩), .int .i64 id, .pointer (some ⟨dr, 0, none⟩)] w (RPushDone B w r nx most R id l) := by
  obtain ⟨h0, h1, h2⟩ := h.cells
  obtain ⟨g0, n0, c0, hp, hs⟩ := RefIn.pos hr
  have hn0 : ((n0 : Int) == 0) = false := beq_eq_false_iff_ne.2 (by omega)
  have hi1 : decide (id < 1) = false := decide_eq_false (by omega)
  have hi2 : decide ((nx : Int) ≤ id) = false := decide_eq_false (by omega)
  have hba := below_new w (.cells #[] 71)
  have hA := h.below hba
  obtain ⟨ao, c, rfl, hnone, hnews, hcm⟩ := hA.row.news
  have hown0 : (w.alloc (.cells #[] 71)).ownsRow w.heap.size 71 2 (.slice (some ⟨w.heap.size, 0, none⟩) 0 0) 0 [] := by
    have := World.ownsRow_lit (e := 71) (base := w.heap.size) (size := 2) w #[] 0 (Nat.le_refl _) (by simp [maxLen]) (by simp)
    simpa using this
  have hk2 : (w.alloc (.cells #[] 71)).cell? ⟨r, 2, none⟩ = some (.slice ao R.length c) := hA.cells.2.2
  have hlen : (fl rlineC R).length = R.length * 2 := by rw [fl_length rlineC_length]
  have hone := fl_one' rlineC_one R
  have hcp := fun w' (hb : Below w.heap.size w w') => rcopy_in (RefIn.below hr hb) hgd
  have hRW := fun w' (hb : Below w.heap.size w w') => h.below hb
  have hrlt := h.blk.lt
  have hlo := h.lo
  have hsm := h.small
  obtain ⟨n, hn⟩ : ∃ n, R.length = n := ⟨_, rfl⟩
  rw [hn] at h5 h2 hnone hk2 hlen
  replace hnone := Lib.hid hnone
  replace hnews := Lib.hid hnews
  replace hown0 := Lib.hid hown0
  replace hlen := Lib.hid hlen
  replace hone := Lib.hid hone
  replace hcp := Lib.hid hcp
  replace hRW := Lib.hid hRW
  replace hba := Lib.hid hba
  replace hn := Lib.hid hn
  clear h hA hr hid
  go_enter Tryz.func64, Tryz.ntmps64
  go_wp2_with (first
    | (with_reducible show wpList _ _ _ (⟨some 35, .call _, _, _, _, _⟩ :: _) _ _; go_must (refine wpList_appM elemRL rfl (.tmp 30) (.tmp 34) rfl w.heap.size (.slice (some ⟨w.heap.size, 0, none⟩) 0 0) 0 [] ao n c (fl rlineC R) rfl rfl hown0.out hlen.out hnone.out hnews.out hone.out (by simp) (by omega) ?_); intro v1 w1 hown1 ho1 hat1; rw [Nat.zero_add, List.nil_append, ← hn.out] at hown1; have hb1 : Below w.heap.size w w1 := hba.out.trans (ho1.below (by simp) (by simp [Value.ownBlock])); have hc1 := hcp.out _ hb1)
    | (go_at_call 86; (with_reducible refine (hc1).mono ?_); rintro e w2 ⟨rfl, hr2, hb2⟩; obtain ⟨hbW, hownW, hrW, hlnW, hb3W⟩ := push_mid hb1 hown1 hb2 hr2 id; have hoW := one_line id w1.heap.size)
    | (with_reducible show wpList _ _ _ (⟨some 41, .call _, _, _, _, _⟩ :: _) _ _; go_must (refine wpList_appN elemRL rfl (.tmp 35) (.tmp 40) rfl w.heap.size v1 n (fl rlineC R) ⟨w2.heap.size, 0, none⟩ 1 1 [.int .i64 id, .pointer (some ⟨w1.heap.size, 0, none⟩)] rfl rfl (by rw [← hn.out]; exact hownW) rfl hlnW hoW (by have := hbW.size; simp at *; omega) (by omega) ?_); intro v3 w3 hown3 ho3 hat3; obtain ⟨hb3, hr3⟩ := hb3W _ _ rfl ho3; have hR3 := hRW.out _ hb3; obtain ⟨g3, c3, tail3, rfl, hg3, hbk3, hle3, hm3⟩ := own_block hown3 (by omega))
    | (with_reducible show wpList _ _ _ (⟨none, .store _ (.tmp 43) _, _, _, _, _⟩ :: _) _ _; go_must (refine wpList_store1 rfl _ (.tmp 43) (.tmp 41) rfl hR3.blk (.slice _ _ _) rfl rfl (by simp) (by exact info32) rfl ?_); intro w4 hb4 ho4))
  have ht4 : ∀ k ∈ [r], Typ w3 k 61 := fun k hk => by
    obtain rfl : k = r := by simpa using hk
    exact Block.typ hR3.blk
  have hP : RPSt B w w4 r nx most R ⟨id, 0, 0, w1.heap.size, l⟩ g3 c3 := by
    refine ⟨by rw [hn.out]; simpa using hb4, ?_, ?_, (Only.of_below hb3 [r]).trans ho4, hlo, hrlt, hsm⟩
    · rw [hn.out, fl_app, fl_one]
      exact owns_only hown3 ho4 (fun g hg => not_in1 (owns_typ hown3 g hg) (Block.typ hR3.blk) (by decide))
    · intro e he
      rcases List.mem_append.1 he with he | he
      · exact RefIn.other (hR3.ref e he) ho4 ht4 (by decide) (by decide) (by decide)
      · obtain rfl : e = ⟨id, 0, 0, w1.heap.size, l⟩ := by simpa using he
        exact RefIn.lower (RefIn.other hr3 ho4 ht4 (by decide) (by decide) (by decide)) (by have := hb1.size; omega)
  have hd1 : w.heap.size ≤ w1.heap.size := hb1.size
  have k1 : w4.cell? ⟨r, 1, none⟩ = some (.int .i64 most) := hP.blk.cell 1 rfl
  have k2 : w4.cell? ⟨r, 2, none⟩ = some (.slice (some ⟨g3, 0, none⟩) (n + 1) c3) := by rw [← hn.out]; exact hP.blk.cell 2 rfl
  have kf := hP.blk.free 2
  replace hP := Lib.hid (fun q => (hP.drawn q))
  clear hb4 ho4 hR3 hr3 hb3 hown3 ho3 hat3 hbk3 hbW hownW hrW hlnW hb3W hoW hr2 hb2 hc1 hown1 ho1 hat1 hb1 ht4 hk2 h2 hs h1 h0
  by_cases hov : most < n + 1
  · have hovI : (most : Int) < (n : Int) + 1 := by omega
    by_cases hc1 : c3 = 1
    · subst hc1
      go_quiet (fail)
      go_wp2
      go_ret
      have hR0 : R.length = 0 := by have := hn.out; omega
      have hF := (hP.out nq).less (by rw [hn.out]; exact hov) rfl hd1 0 0 (.inl hR0) rfl
      rw [hR0] at hF
      exact hF
    · go_quiet (fail)
      go_wp2
      go_ret
      have hF := (hP.out nq).less (by rw [hn.out]; exact hov) rfl hd1 2 (c3 - 1) (.inr rfl) (by omega)
      rw [hn.out] at hF
      exact hF
  · have hovI : ¬ (most : Int) < (n : Int) + 1 := by omega
    go_quiet (fail)
    go_wp2
    go_ret
    exact (hP.out _).more (by rw [hn.out]; exact hov) rfl hd1
end
end Go.Proofs.YtaoegfdaemmogaaGreat.Lns
