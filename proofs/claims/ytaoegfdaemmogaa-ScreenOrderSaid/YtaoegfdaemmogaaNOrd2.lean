/-
  screen: what is kept of a list stands in its order. screen: ScreenOrder's walk (under way: the loop over the calls is open). screen: what is looked at behind each call of ScreenOrder.
-/
import Derived.Test.YtaoegfdaemmogaaNAll
import Derived.Test.YtaoegfdaemmogaaNDo
import Derived.Test.YtaoegfdaemmogaaNPl
import Derived.Test.YtaoegfdaemmogaaNTame
import Derived.Test.YtaoegfdaemmogaaNKn0
namespace Go.Proofs.Ytaoegfdaemmogaa.Scn
open Go Go.RowKit Go.Proofs.Ytaoegfdaemmogaa.Com Go.Proofs.Ytaoegfdaemmogaa.Rw Go.Proofs.Ytaoegfdaemmogaa.Lns
section
variable {l was now : List Int} {x y : Int} {p : Int → Bool}
theorem pair_of_lt {i j : Nat} (h : i < j) (hj : j < l.length) : [l[i]'(by omega), l[j]].Sublist l := by
  have h1 : l[j] ∈ l.drop (i + 1) := by
    rw [List.mem_iff_getElem]
    exact ⟨j - (i + 1), by rw [List.length_drop]; omega, by rw [List.getElem_drop]; congr 1; omega⟩
  have h2 : (l[i]'(by omega) :: [l[j]]).Sublist (l[i]'(by omega) :: l.drop (i + 1)) := List.Sublist.cons_cons _ (List.singleton_sublist.2 h1)
  rw [List.getElem_cons_drop (h := by omega)] at h2
  exact h2.trans (List.drop_sublist _ _)
theorem pair_idx (h : [x, y].Sublist l) : ∃ a b, ∃ (hab : a < b) (hb : b < l.length), l[a]'(by omega) = x ∧ l[b] = y := by
  induction l with
  | nil => cases h
  | cons z l ih =>
    cases h with
    | cons _ h =>
      obtain ⟨a, b, hab, hb, h1, h2⟩ := ih h
      exact ⟨a + 1, b + 1, by omega, by simp; omega, by simpa using h1, by simpa using h2⟩
    | cons_cons _ h =>
      obtain ⟨b, hb, e⟩ := List.mem_iff_getElem.1 (List.singleton_sublist.1 h)
      exact ⟨0, b + 1, by omega, by simp; omega, rfl, by simpa using e⟩
theorem nodup_idx (hd : l.Nodup) {a b : Nat} (ha : a < l.length) (hb : b < l.length) (h : l[a] = l[b]) : a = b := by
  rcases Nat.lt_trichotomy a b with hl | hl | hl
  · exact absurd h ((List.pairwise_iff_getElem.1 hd) a b ha hb hl)
  · exact hl
  · exact absurd h.symm ((List.pairwise_iff_getElem.1 hd) b a hb ha hl)
theorem order_kept (hd : was.Nodup) (hs : (now.filter p).Sublist was) (hp : ∀ x ∈ was, p x = true) {i j k m : Nat} (hij : i < j) (hj : j < now.length) (hk : k < was.length) (hm : m < was.length) (h1 : was[k] = now[i]'(by omega)) (h2 : was[m] = now[j]) : k < m := by
  have h3 := (pair_of_lt hij hj).filter p
  have e1 : p (now[i]'(by omega)) = true := by rw [← h1]; exact hp _ (List.getElem_mem hk)
  have e2 : p now[j] = true := by rw [← h2]; exact hp _ (List.getElem_mem hm)
  rw [List.filter_cons_of_pos e1, List.filter_cons_of_pos e2, List.filter_nil] at h3
  obtain ⟨a, b, hab, hb, q1, q2⟩ := pair_idx (h3.trans hs)
  have r1 := nodup_idx hd (by omega) hk (q1.trans h1.symm)
  have r2 := nodup_idx hd hb hm (q2.trans h2.symm)
  omega
theorem old_there (hs : (now.filter p).Sublist was) {i : Nat} (hi : i < now.length) (h : p now[i] = true) : now[i] ∈ was := hs.subset (List.mem_filter.2 ⟨List.getElem_mem hi, h⟩)
end
end Go.Proofs.Ytaoegfdaemmogaa.Scn
namespace Go.Proofs.Ytaoegfdaemmogaa.Scn
open Go Go.RowKit Go.Proofs.Ytaoegfdaemmogaa.Com Go.Proofs.Ytaoegfdaemmogaa.Rw Go.Proofs.Ytaoegfdaemmogaa.Lns
set_option maxRecDepth 100000 in
set_option maxHeartbeats 4000000 in
theorem order_no (rows cols most : Int) (kp : Bool) (os : List Opr) (ao : Option Addr) (c : Nat) (W : World) (hn : OpsAt W ao os) (hno : ¬ ((1 ≤ rows ∧ rows ≤ 512) ∧ (1 ≤ cols ∧ cols ≤ 512) ∧ 0 ≤ most ∧ most ≤ 10000)) :
    Calls Try.prog 3 #[.int .i64 rows, .int .i64 cols, .int .i64 most, .bool kp, .slice ao os.length c] W fun e W' => e = .returned (.bool true) ∧ Below W.heap.size W W' := by
  have ht := Lib.hid (tame_any (c := c) hn rows cols most)
  have hk := Lib.hid (fun w => known_any w)
  have hm := Lib.hid (fun w => made_no rows cols most kp hno w)
  generalize os.length = N at ht ⊢
  clear hn hno
  go_enter Try.func3, Try.ntmps3
  go_wp2_with (first
    | (go_at_call 6; (with_reducible refine ht.out.mono ?_); rintro r' w' ⟨⟨b, rfl, hT⟩, rfl⟩; clear hT)
    | (go_at_call 8; (with_reducible refine (hm.out _).mono ?_); rintro r' w2 ⟨q, rfl, hb2⟩)
    | (go_at_call 7; (with_reducible refine (hk.out _).mono ?_); rintro r' w3 ⟨rfl, hb3⟩))
  all_goals
    go_ret
    first
      | exact ⟨rfl, hb3⟩
      | exact ⟨rfl, below_next hb2 hb3⟩
end Go.Proofs.Ytaoegfdaemmogaa.Scn
namespace Go.Proofs.Ytaoegfdaemmogaa.Scn
open Go Go.RowKit Go.Proofs.Ytaoegfdaemmogaa.Com Go.Proofs.Ytaoegfdaemmogaa.Rw Go.Proofs.Ytaoegfdaemmogaa.Lns
theorem idsl_len (L : List Ln) : (idsL L).length = L.length := List.length_map _
theorem owno_fr {w w' : World} {B B' : Nat} {ts : List TypeId} {k : IntKind} {e : TypeId} {v : Value} {l : List Int} (h : Own w B e k v l) (hf : Fr B' ts w w') (ht : e ∉ ts) : Own w' B e k v l := owns_fr h hf ht
theorem owno_below {w w' : World} {B : Nat} {k : IntKind} {e : TypeId} {v : Value} {l : List Int} (h : Own w B e k v l) (hb : Below w.heap.size w w') : Own w' B e k v l := owno_fr h (Fr.of_below (B := 0) (ts := []) hb) (by simp)
theorem op_info (o : Opr) : (Try.prog.info? 38).map (·.size) = some (opV o).length := by
  rw [opV_length]
  kernel_rfl
/-- What a call leaves of two screens. -/
structure Aft (S S' Z Z' : Scr) (rows cols : Nat) : Prop where
  fS : Fit S'
  fZ : Fit Z'
  iS : Inv S'
  iZ : Inv Z'
  rows : S'.L.length = rows
  cols : S'.cols = cols
  nS : S'.nx ≤ S.nx + 600
  nZ : Z'.nx ≤ Z.nx + 600
  mZ : Z'.most = Z.most
  flt : ((idsL S'.L).filter fun x => decide (x < (S.nx : Int))).Sublist ((idsL S.L).filter fun x => decide (x < (S.nx : Int)))
theorem chg_same {S : Scr} {f k i : Nat} {a : At} {push : Bool} (hf : f + k ≤ S.L.length) (hk : k ≤ 512) : (chg S f k i k a push).L.length = S.L.length ∧ (chg S f k i k a push).cols = S.cols ∧ (chg S f k i k a push).nx ≤ S.nx + 600 ∧ (chg S f k i k a push).most = S.most := by
  refine ⟨?_, rfl, ?_, rfl⟩
  · rw [chg_len hf]; omega
  · show S.nx + k ≤ _; omega
theorem up_same {S : Scr} (hF : Fit S) {frm : Nat} (hf : frm ≤ S.bot) (n : Int) (a : At) (push : Bool) : (upS S frm n a push).L.length = S.L.length ∧ (upS S frm n a push).cols = S.cols ∧ (upS S frm n a push).nx ≤ S.nx + 600 ∧ (upS S frm n a push).most = S.most := by
  have := held_leN n (S.bot + 1 - frm)
  have := hF.bot
  have := hF.len5
  exact chg_same (by omega) (by omega)
theorem down_same {S : Scr} (hF : Fit S) {frm : Nat} (hf : frm ≤ S.bot) (n : Int) (a : At) : (downS S frm n a).L.length = S.L.length ∧ (downS S frm n a).cols = S.cols ∧ (downS S frm n a).nx ≤ S.nx + 600 ∧ (downS S frm n a).most = S.most := by
  have := held_leN n (S.bot + 1 - frm)
  have := hF.bot
  have := hF.len5
  exact chg_same (by omega) (by omega)
theorem doS_same {S : Scr} (hF : Fit S) (o : Opr) : (doS S o).L.length = S.L.length ∧ (doS S o).cols = S.cols ∧ (doS S o).nx ≤ S.nx + 600 ∧ (doS S o).most = S.most := by
  have hr : S.L.length = S.L.length ∧ S.cols = S.cols ∧ S.nx ≤ S.nx + 600 ∧ S.most = S.most := ⟨rfl, rfl, by omega, rfl⟩
  unfold doS
  repeat' split
  · exact up_same hF hF.top _ _ _
  · exact down_same hF hF.top _ _
  · unfold insK
    split
    · rename_i h
      unfold isIn at h
      exact down_same hF (by omega) _ _
    · exact hr
  · unfold delK
    split
    · rename_i h
      unfold isIn at h
      exact up_same hF (by omega) _ _ _
    · exact hr
  · unfold mgK
    split
    · exact hr
    · exact hr
  · exact hr
section
variable {S Z : Scr}
theorem Aft.do' (hF : Fit S) (hG : Fit Z) (hI : Inv S) (hJ : Inv Z) (o : Opr) : Aft S (doS S o) Z (doS Z o) S.L.length S.cols := by
  obtain ⟨a1, a2, a3, a4⟩ := doS_same hF o
  obtain ⟨b1, b2, b3, b4⟩ := doS_same hG o
  exact ⟨doS_fit hF o, doS_fit hG o, doS_inv hI o, doS_inv hJ o, a1, a2, a3, b3, b4, doS_flt o⟩
theorem Aft.stay (hF : Fit S) (hG : Fit Z) (hI : Inv S) (hJ : Inv Z) : Aft S S Z Z S.L.length S.cols :=
  ⟨hF, hG, hI, hJ, rfl, rfl, by omega, by omega, rfl, List.Sublist.refl _⟩
theorem Aft.res (hF : Fit S) (hG : Fit Z) (hI : Inv S) (hJ : Inv Z) {rows cols y : Nat} (hr1 : 1 ≤ rows) (hr5 : rows ≤ 512) (hc1 : 1 ≤ cols) (hc5 : cols ≤ 512) (hy : y < S.L.length) : Aft S (resS S rows cols y) Z Z rows cols := by
  obtain ⟨h1, h2⟩ := hF.res hr1 hr5 hc1 hc5 hy
  refine ⟨h1, hG, res_inv hI _ _ _, hJ, h2, rfl, ?_, by omega, rfl, res_flt (Nat.le_refl _) _ _ _⟩
  show S.nx + 0 + (rows - min rows _) ≤ _
  omega
end
section
variable {B : Nat} {w w' : World} {x s r q : Nat} {S Z : Scr}
/-- do, of any kind but 6 and 7. -/
def DoAny (B : Nat) (w : World) (x s r q : Nat) (S Z : Scr) (o : Opr) (e : Ending) (w' : World) : Prop := ∃ y, DoDone B w x s r q (doS S o) (doS Z o) y e w'
theorem do_any (h : SC B w x s S) (g : RC B w r q Z) (hF : Fit S) (hG : Fit Z) (hnx : S.nx + 512 ≤ 1000000) (hnz : Z.nx + 512 ≤ 1000000) (hRm : Z.R.length ≤ Z.most) (hmo : Z.most ≤ 10000) (o : Opr) (h6 : o.kind ≠ 6) (h7 : o.kind ≠ 7) :
    Calls Try.prog 14 #[.pointer (some ⟨x, 0, none⟩), .pointer (some ⟨r, 0, none⟩), .agg (opV o).toArray] w (DoAny B w x s r q S Z o) := by
  have hm : ∀ {y e w'}, DoDone B w x s r q (doS S o) (doS Z o) y e w' → DoAny B w x s r q S Z o e w' := fun h => ⟨_, h⟩
  by_cases h1 : o.kind = 1
  · exact (do_1 h g hF hG hnx hnz hRm hmo o h1).mono fun _ _ => hm
  by_cases h2 : o.kind = 2
  · exact (do_2 h g hF hG hnx hnz o h2).mono fun _ _ => hm
  by_cases h3 : o.kind = 3
  · exact (do_3 h g hF hG hnx hnz o h3).mono fun _ _ => hm
  by_cases h4 : o.kind = 4
  · exact (do_4 h g hF hG hnx hnz o h4).mono fun _ _ => hm
  by_cases h5 : o.kind = 5
  · exact (do_5 h g hF hG o h5).mono fun _ _ => hm
  exact (do_else h g o ⟨h1, h2, h3, h4, h5, h6, h7⟩).mono fun _ _ => hm
theorem rowlen_sc {i d : Nat} (h : RowAt B w x s S i d) (hF : Fit S) : Calls Try.prog 18 #[.pointer (some ⟨d, 0, none⟩)] w fun e w' => e = .returned (.int .i64 S.cols) ∧ w = w' := by
  obtain ⟨sv, lv, L, R, h1, h2, h3, e, he, rfl⟩ := h
  have hm := List.mem_of_getElem? he
  obtain ⟨_, _, _, n, cap, tail, hx⟩ := h1.rows e hm
  have hc := hF.wid (e.id, e.l) (by rw [← h2]; exact List.mem_map.2 ⟨e, hm, rfl⟩)
  have hn := hx.len
  have h4 := Rw.len_any hx
  rw [show n = S.cols by rw [← hn]; exact hc] at h4
  exact h4
/-- A row that is there: its pointer; its length is the columns. -/
def RowDone (w : World) (n : Nat) (e : Ending) (w' : World) : Prop := ∃ d, e = .returned (.pointer (some ⟨d, 0, none⟩)) ∧ w = w' ∧ Calls Try.prog 18 #[.pointer (some ⟨d, 0, none⟩)] w fun e w' => e = .returned (.int .i64 n) ∧ w = w'
theorem row_done (h : SC B w x s S) (hF : Fit S) {i : Nat} (hi : i < S.L.length) : Calls Try.prog 17 #[.pointer (some ⟨x, 0, none⟩), .int .i64 i] w (RowDone w S.cols) := by
  refine (row_yes h hF.len i hi).mono ?_
  rintro e w' ⟨⟨d, rfl, hd⟩, rfl⟩
  exact ⟨d, rfl, rfl, rowlen_sc hd hF⟩
end
section
variable {S : Scr}
theorem ids_at {i : Nat} (hi : i < (idsL S.L).length) : ∃ p ∈ S.L, (idsL S.L)[i] = p.1 := by
  have h2 : i < S.L.length := by rwa [idsl_len] at hi
  exact ⟨S.L[i], List.getElem_mem h2, by simp [idsL]⟩
theorem inv_L (h : Inv S) : (idsL S.L).Nodup := by
  have := h.dd
  rw [idsL_app, List.nodup_append] at this
  exact this.1
theorem ids_first (h : Inv S) {i : Nat} (hi : i < (idsL S.L).length) : firstF (idsL S.L) (idsL S.L)[i] = i :=
  first_at hi rfl fun j hj e => by
    have := nodup_idx (inv_L h) (by omega) hi e
    omega
theorem ids_lt (h : Inv S) {i : Nat} (hi : i < (idsL S.L).length) : (idsL S.L)[i] < (S.nx : Int) := by
  obtain ⟨p, hp, e⟩ := ids_at hi
  rw [e]
  exact (h.old p (List.mem_append_left _ hp)).2
theorem ids_notR (h : Inv S) {i : Nat} (hi : i < (idsL S.L).length) : findF (idsL S.R) (idsL S.L)[i] = -1 :=
  findTo_none fun j _ e => by
    have hd := h.dd
    rw [idsL_app, List.nodup_append] at hd
    exact hd.2.2 _ (List.getElem_mem hi) _ (List.mem_of_getElem? e) rfl
theorem first_in {L : List Int} {y : Int} (h : y ∈ L) : 0 ≤ firstF L y := by
  unfold firstF
  cases he : L.findIdx? (· == y) with
  | some i => simp
  | none =>
    rw [List.findIdx?_eq_none_iff] at he
    have := he y h
    simp at this
/-- No place of an id that is still to come lies below at. -/
def NoLess (was now : List Int) (i : Nat) (at' : Int) : Prop := ∀ j, i ≤ j → ∀ (hj : j < now.length) m (hm : m < was.length), was[m] = now[j] → at' ≤ m
/-- What is asked of the ids behind a call. -/
structure Ord (was now : List Int) (n0 : Nat) : Prop where
  hit : ∀ (i k : Nat) (at' : Int) (hi : i < now.length) (hk : k < was.length), NoLess was now i at' → was[k] = now[i] → at' ≤ k ∧ NoLess was now i k
  old : ∀ (i : Nat) (hi : i < now.length), now[i] < (n0 : Int) → 0 ≤ firstF was now[i]
theorem NoLess.start (was now : List Int) : NoLess was now 0 (-1) := fun j _ _ m _ _ => by omega
theorem NoLess.next {was now : List Int} {i : Nat} {at' : Int} (h : NoLess was now i at') : NoLess was now (i + 1) at' := fun j hj => h j (by omega)
theorem ord_of {S' : Scr} (hI : Inv S) (hflt : ((idsL S'.L).filter fun x => decide (x < (S.nx : Int))).Sublist ((idsL S.L).filter fun x => decide (x < (S.nx : Int)))) : Ord (idsL S.L) (idsL S'.L) S.nx := by
  have hall : ∀ x ∈ idsL S.L, decide (x < (S.nx : Int)) = true := fun x hx => by
    obtain ⟨i, hi, rfl⟩ := List.mem_iff_getElem.1 hx
    exact decide_eq_true (ids_lt hI hi)
  have hs : ((idsL S'.L).filter fun x => decide (x < (S.nx : Int))).Sublist (idsL S.L) := hflt.trans List.filter_sublist
  refine ⟨fun i k at' hi hk hn he => ⟨hn i (Nat.le_refl _) hi k hk he, fun j hj hjl m hm e => ?_⟩, fun i hi hlt => first_in (old_there hs hi (decide_eq_true hlt))⟩
  rcases Nat.lt_or_ge i j with hlt | hge
  · have := order_kept (inv_L hI) hs hall hlt hjl hk hm he e
    omega
  · obtain rfl : i = j := by omega
    have := nodup_idx (inv_L hI) hm hk (e.trans he.symm)
    omega
/-- What is looked at behind a call: each id where it stands, its row, no id in the scrollback. -/
structure Look (w7 : World) (x s : Nat) (nw : List Int) (cols nxt : Nat) : Prop where
  find : ∀ wr, Below w7.heap.size w7 wr → ∀ i (hi : i < nw.length), Calls Try.prog 16 #[.pointer (some ⟨x, 0, none⟩), .int .i64 nw[i]] wr fun e w' => e = .returned (.int .i64 i) ∧ wr = w'
  row : ∀ wr, Below w7.heap.size w7 wr → ∀ i, i < nw.length → Calls Try.prog 17 #[.pointer (some ⟨x, 0, none⟩), .int .i64 i] wr (RowDone wr cols)
  next : ∀ wr, Below w7.heap.size w7 wr → Calls Try.prog 12 #[.pointer (some ⟨s, 0, none⟩)] wr fun e w' => e = .returned (.int .i64 nxt) ∧ wr = w'
  none : ∀ wr, Below w7.heap.size w7 wr → ∀ i (hi : i < nw.length), Calls Try.prog 19 #[.pointer (some ⟨s, 0, none⟩), .int .i64 nw[i]] wr fun e w' => e = .returned (.int .i64 (-1)) ∧ Below wr.heap.size wr w'
  lt : ∀ i (hi : i < nw.length), nw[i] < (nxt : Int)
theorem look_of {B : Nat} {w : World} {x s : Nat} (h : SC B w x s S) (hF : Fit S) (hI : Inv S) : Look w x s (idsL S.L) S.cols S.nx := by
  refine ⟨fun wr hb i hi => ?_, fun wr hb i hi => ?_, fun wr hb => nx_sc (h.below hb), fun wr hb i hi => ?_, fun i hi => ids_lt hI hi⟩
  · have := sfind_sc (h.below hb) hF (idsL S.L)[i]
    rwa [ids_first hI hi] at this
  · exact row_done (h.below hb) hF (by rwa [idsl_len] at hi)
  · have := stfind_sc (h.below hb) (idsL S.L)[i]
    rwa [ids_notR hI hi] at this
end
end Go.Proofs.Ytaoegfdaemmogaa.Scn
