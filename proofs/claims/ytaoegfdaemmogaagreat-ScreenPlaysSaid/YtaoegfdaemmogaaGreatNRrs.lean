/-
  screen: one of the reference's rows turns. screen: what is kept of a list stands in its order. screen: the reference's Find. screen: the reference's Resize: plain, and what its steps leave.
-/
import Derived.Test.YtaoegfdaemmogaaGreatNAll
import Derived.Test.YtaoegfdaemmogaaGreatRRPutn
import Derived.Test.YtaoegfdaemmogaaGreatRRPutw
import Derived.Test.YtaoegfdaemmogaaGreatRRJoin
namespace Go.Proofs.YtaoegfdaemmogaaGreat.Scn
open Go Go.RowKit Go.Proofs.YtaoegfdaemmogaaGreat.Com Go.Proofs.YtaoegfdaemmogaaGreat.Rw Go.Proofs.YtaoegfdaemmogaaGreat.Lns
theorem rlineC_eq {e e' : En} (h1 : e'.id = e.id) (h2 : e'.dr = e.dr) : rlineC e' = rlineC e := by simp [rlineC, h1, h2]
theorem rfl_same {A C : List En} {e e' : En} (h1 : e'.id = e.id) (h2 : e'.dr = e.dr) : fl rlineC (A ++ e' :: C) = fl rlineC (A ++ e :: C) := by simp [fl, rlineC_eq h1 h2]
section
variable {B : Nat} {w w' : World} {r q nx most cols top bot n : Nat} {kp : Bool} {rv lv : Value} {xs : List Value} {R A C : List En} {e : En}
theorem RmX.apart1 (h : RmX B w r q nx most kp cols rv lv top bot n xs (A ++ e :: C) R) : ∀ e2, e2 ∈ A ++ C ∨ e2 ∈ R → e2.dr ≠ e.dr := fun e2 he hd => by
  have hm : e2 ∈ A ++ (C ++ R) := by
    rcases he with he | he
    · rcases List.mem_append.1 he with he | he
      · exact List.mem_append_left _ he
      · exact List.mem_append_right _ (List.mem_append_left _ he)
    · exact List.mem_append_right _ (List.mem_append_right _ he)
  have hn : ((e :: (A ++ (C ++ R))).map En.dr).Nodup := by
    have hp : List.Perm ((A ++ e :: C) ++ R) (e :: (A ++ (C ++ R))) := by rw [List.append_assoc, List.cons_append]; exact List.perm_middle
    exact (hp.map En.dr).nodup_iff.1 h.dd
  rw [List.map_cons, List.nodup_cons] at hn
  exact hn.1 (List.mem_map.2 ⟨e2, hm, hd⟩)
theorem RmX.row (h : RmX B w r q nx most kp cols rv lv top bot n xs (A ++ e :: C) R) {l' : List Cel} (hr : RefIn B w' e.dr l') (hg : Rw.Good l') (ho : Only [e.dr] w w') :
    RmX B w' r q nx most kp cols rv lv top bot n xs (A ++ (⟨e.id, e.d, e.g, e.dr, l'⟩ : En) :: C) R ∧ Fr B RT w w' := by
  have ht := RefIn.typ (h.refs e (by simp)).1
  have hno : ∀ {j : Nat} {t' : TypeId}, Typ w j t' → t' ≠ 78 → j ∉ [e.dr] := fun hj hn => not_in1 hj ht.1 hn
  have hap := h.apart1
  have hR : ∀ {d l}, RefIn B w d l → d ≠ e.dr → RefIn B w' d l := fun hh hd => RefIn.apart hh ho ht.1 hd
  refine ⟨⟨h.blk.only ho (hno h.typ (by decide)), owns_only h.own ho (fun g hg => hno (h.ltyp g hg).2.2 (by decide)), h.st.only ho (hno (Block.typ h.st.blk) (by decide)) (fun g hg => hno (h.st.hit g hg).2.2 (by decide)) (fun e2 he => hR (h.st.ref e2 he) (hap e2 (.inr he))), h.apart, fun e2 he => ?_, ?_, h.lo, h.small⟩, ?_⟩
  · rcases List.mem_append.1 he with he | he
    · have := h.refs e2 (List.mem_append_left _ he)
      exact ⟨hR this.1 (hap e2 (.inl (List.mem_append_left _ he))), this.2⟩
    · rcases List.mem_cons.1 he with rfl | he
      · exact ⟨hr, hg⟩
      · have := h.refs e2 (List.mem_append_right _ (List.mem_cons_of_mem _ he))
        exact ⟨hR this.1 (hap e2 (.inl (List.mem_append_right _ he))), this.2⟩
  · have := h.dd
    simpa using this
  · exact Fr.of_only ho fun j hj _ => by
      obtain rfl : j = e.dr := by simpa using hj
      exact ⟨ht.2.2, _, by simp [RT], ht.1⟩
def RRowDone (B : Nat) (w : World) (r q nx most : Nat) (kp : Bool) (cols : Nat) (rv lv : Value) (top bot n : Nat) (xs : List Value) (A : List En) (e : En) (C R : List En) (l : List Cel) (y : Int) (z : Ending) (w' : World) : Prop :=
  z = .returned (.int .i64 y) ∧ RmX B w' r q nx most kp cols rv lv top bot n xs (A ++ (⟨e.id, e.d, e.g, e.dr, l⟩ : En) :: C) R ∧ Fr B RT w w'
theorem rres_row (h : RmX B w r q nx most kp cols rv lv top bot n xs (A ++ e :: C) R) (m : Nat) (h1 : 1 ≤ m) (h2 : m ≤ 512) : Calls Tryz.prog 65 #[.pointer (some ⟨e.dr, 0, none⟩), .int .i64 m] w (RRowDone B w r q nx most kp cols rv lv top bot n xs A e C R (resL e.l m) 0) := by
  obtain ⟨⟨gv, n1, cap, ps, hx, he⟩, g1⟩ := h.refs e (by simp)
  refine (rresize_yes hx (he ▸ g1.whole) m h1 h2).mono ?_
  rintro z w' ⟨rfl, _, hr, ho⟩
  have hgd : Rw.Good (resL e.l m) := by
    have := g1.res m
    unfold reL at this
    rw [if_pos (by omega)] at this
    exact this
  rw [he] at hr
  exact ⟨rfl, h.row hr hgd ho⟩
theorem rput_row (h : RmX B w r q nx most kp cols rv lv top bot n xs (A ++ e :: C) R) (col x : Int) (hc : -9223372036854775808 ≤ col ∧ col ≤ 9223372036854775807) (wide : Bool) (a : At) :
    Calls Tryz.prog 34 #[.pointer (some ⟨e.dr, 0, none⟩), .int .i64 col, .int .i32 x, .bool wide, .agg #[.int .u32 a.f, .int .u32 a.b, .int .u16 a.g]] w (RRowDone B w r q nx most kp cols rv lv top bot n xs A e C R (putL e.l col x wide a) (putV e.l col x wide a)) := by
  obtain ⟨⟨gv, n1, cap, ps, hx, he⟩, g1⟩ := h.refs e (by simp)
  have hln : e.l.length = n1 := by rw [← he, cels_length, hx.len]
  have hgd := g1.put col x wide a
  by_cases hk : putOk e.l col x wide a
  · unfold putL putV at *
    rw [if_pos hk] at hgd
    rw [if_pos hk, if_pos hk]
    obtain ⟨h1, h0, h2⟩ := hk
    obtain ⟨c, rfl⟩ := Int.eq_ofNat_of_zero_le h0
    rw [hln] at h2
    cases wide
    · refine (rputn_any hx (he ▸ g1.whole) c x a h1 (by simp [cellsPut] at h2; omega)).mono ?_
      rintro z w' ⟨rfl, _, hr, hf⟩
      rw [he] at hr
      exact ⟨rfl, h.row hr hgd hf⟩
    · refine (rputw_any hx (he ▸ g1.whole) c x a h1 (by simp [cellsPut] at h2; omega)).mono ?_
      rintro z w' ⟨rfl, _, hr, hf⟩
      rw [he] at hr
      exact ⟨rfl, h.row hr hgd hf⟩
  · unfold putL putV at *
    rw [if_neg hk] at hgd
    rw [if_neg hk, if_neg hk]
    refine (rput_no hx col x hc wide a ?_).mono ?_
    · unfold putOk at hk
      rw [hln] at hk
      by_cases q1 : runeB x = true
      · by_cases q2 : 0 ≤ col
        · right; right
          cases wide
          · rw [show ((cellsPut x false a).length : Int) = 1 from rfl] at hk
            left; exact Int.not_lt.1 fun q => hk ⟨q1, q2, by omega⟩
          · rw [show ((cellsPut x true a).length : Int) = 2 from rfl] at hk
            right; exact ⟨rfl, Int.not_lt.1 fun q => hk ⟨q1, q2, by omega⟩⟩
        · right; left; omega
      · left; simpa using q1
    · rintro z w' ⟨rfl, hb⟩
      exact ⟨rfl, h.below hb, Fr.of_below hb⟩
end
end Go.Proofs.YtaoegfdaemmogaaGreat.Scn
namespace Go.Proofs.YtaoegfdaemmogaaGreat.Scn
open Go Go.RowKit Go.Proofs.YtaoegfdaemmogaaGreat.Com Go.Proofs.YtaoegfdaemmogaaGreat.Rw Go.Proofs.YtaoegfdaemmogaaGreat.Lns
section
variable {l was now : List Int} {x y : Int} {p : Int → Bool}
theorem pair_of_lt {i j : Nat} (h : i < j) (hj : j < l.length) : [l[i]'(by omega), l[j]].Sublist l := by
  have h1 : l[j] ∈ l.drop (i + 1) := by
    rw [List.mem_iff_getElem]
    exact ⟨j - (i + 1), by rw [List.length_drop]; omega, by rw [List.getElem_drop]; congr 1; omega⟩
  have h2 : (l[i]'(by omega) :: [l[j]]).Sublist (l[i]'(by omega) :: l.drop (i + 1)) := List.Sublist.cons_cons _ (List.singleton_sublist.2 h1)
  rw [List.getElem_cons_drop (h := by omega)] at h2
  exact h2.trans (List.drop_sublist _ _)
theorem pair_idx (h : [x, y].Sublist l) : ∃ a b, ∃ (hab : a < b) (hb : b < l.length), l[a]'(by omega) = x ∧ l[b] = y := by
  induction l with
  | nil => cases h
  | cons z l ih =>
    cases h with
    | cons _ h =>
      obtain ⟨a, b, hab, hb, h1, h2⟩ := ih h
      exact ⟨a + 1, b + 1, by omega, by simp; omega, by simpa using h1, by simpa using h2⟩
    | cons_cons _ h =>
      obtain ⟨b, hb, e⟩ := List.mem_iff_getElem.1 (List.singleton_sublist.1 h)
      exact ⟨0, b + 1, by omega, by simp; omega, rfl, by simpa using e⟩
theorem nodup_idx (hd : l.Nodup) {a b : Nat} (ha : a < l.length) (hb : b < l.length) (h : l[a] = l[b]) : a = b := by
  rcases Nat.lt_trichotomy a b with hl | hl | hl
  · exact absurd h ((List.pairwise_iff_getElem.1 hd) a b ha hb hl)
  · exact hl
  · exact absurd h.symm ((List.pairwise_iff_getElem.1 hd) b a hb ha hl)
theorem order_kept (hd : was.Nodup) (hs : (now.filter p).Sublist was) (hp : ∀ x ∈ was, p x = true) {i j k m : Nat} (hij : i < j) (hj : j < now.length) (hk : k < was.length) (hm : m < was.length) (h1 : was[k] = now[i]'(by omega)) (h2 : was[m] = now[j]) : k < m := by
  have h3 := (pair_of_lt hij hj).filter p
  have e1 : p (now[i]'(by omega)) = true := by rw [← h1]; exact hp _ (List.getElem_mem hk)
  have e2 : p now[j] = true := by rw [← h2]; exact hp _ (List.getElem_mem hm)
  rw [List.filter_cons_of_pos e1, List.filter_cons_of_pos e2, List.filter_nil] at h3
  obtain ⟨a, b, hab, hb, q1, q2⟩ := pair_idx (h3.trans hs)
  have r1 := nodup_idx hd (by omega) hk (q1.trans h1.symm)
  have r2 := nodup_idx hd hb hm (q2.trans h2.symm)
  omega
theorem old_there (hs : (now.filter p).Sublist was) {i : Nat} (hi : i < now.length) (h : p now[i] = true) : now[i] ∈ was := hs.subset (List.mem_filter.2 ⟨List.getElem_mem hi, h⟩)
end
end Go.Proofs.YtaoegfdaemmogaaGreat.Scn
namespace Go.Proofs.YtaoegfdaemmogaaGreat.Scn
open Go Go.RowKit Go.Proofs.YtaoegfdaemmogaaGreat.Com Go.Proofs.YtaoegfdaemmogaaGreat.Rw Go.Proofs.YtaoegfdaemmogaaGreat.Lns
section
variable {B : Nat} {w w' : World} {r q nx most cols top bot n : Nat} {kp : Bool} {rv lv : Value} {L L' R : List En} {S : Scr}
theorem RmX.elem (h : RmX B w r q nx most kp cols rv lv top bot n (fl rlineC L) L' R) {i : Nat} (hn : n = L.length) (hi : i < L.length) : ∃ g c, lv = .slice (some ⟨g, 0, none⟩) n c ∧ w.cell? ⟨g, i * 2, none⟩ = some (.int .i64 L[i].id) ∧ w.cell? ⟨g, i * 2 + 1, none⟩ = some (.pointer (some ⟨L[i].dr, 0, none⟩)) ∧ n ≤ c ∧ c ≤ maxLen := by
  obtain ⟨g, cap, tail, rfl, hg, hb, hc, hm⟩ := own_block h.own (by omega)
  have e0 := fl_at rlineC_length hi (show 0 < 2 by decide)
  have e1 := fl_at rlineC_length hi (show 1 < 2 by decide)
  have e2 : i * 2 + 1 < (fl rlineC L).length := by rw [fl_length rlineC_length]; omega
  refine ⟨g, cap, rfl, hb.cell _ ?_, hb.cell _ ?_, hc, hm⟩
  · rw [List.getElem?_toArray, List.getElem?_append_left (by omega)]; exact e0
  · rw [List.getElem?_toArray, List.getElem?_append_left e2]; exact e1
theorem RC.elem (h : RC B w r q S) {i : Nat} (hi : i < S.L.length) : ∃ g c d, w.cell? ⟨r, 3, none⟩ = some (.slice (some ⟨g, 0, none⟩) S.L.length c) ∧ w.cell? ⟨g, i * 2, none⟩ = some (.int .i64 S.L[i].1) ∧ w.cell? ⟨g, i * 2 + 1, none⟩ = some (.pointer (some ⟨d, 0, none⟩)) := by
  obtain ⟨rv, lv, L, R, h1, h2, h3⟩ := h
  have hl : L.length = S.L.length := by rw [← h2, vw_len]
  have hiL : i < L.length := by omega
  have hc := h1.cells.2.2.2.1
  obtain ⟨g, c, rfl, q0, q1, _⟩ := h1.elem rfl hiL
  rw [hl] at hc
  refine ⟨g, c, _, hc, ?_, q1⟩
  rw [q0]
  simp only [← h2, vw, List.getElem_map]
theorem RC.slice (h : RC B w r q S) : ∃ ao c, w.cell? ⟨r, 3, none⟩ = some (.slice ao S.L.length c) ∧ S.L.length ≤ c ∧ c ≤ maxLen := by
  obtain ⟨rv, lv, L, R, h1, h2, h3⟩ := h
  have hl : L.length = S.L.length := by rw [← h2, vw_len]
  have hc := h1.cells.2.2.2.1
  rcases h1.own.2 with ⟨rfl, h0⟩ | ⟨g, cap, cur, rfl, hg, hh, hcc, hm, _⟩
  · rw [hl] at h0
    rw [h0]
    exact ⟨none, 0, hc, Nat.le_refl _, by unfold maxLen; omega⟩
  · rw [hl] at hc hcc
    exact ⟨_, cap, hc, hcc, hm⟩
set_option maxRecDepth 100000 in
set_option maxHeartbeats 1000000 in
theorem rfind_sc (h : RC B w r q S) (hl5 : S.L.length ≤ 512) (id : Int) : Calls Tryz.prog 39 #[.pointer (some ⟨r, 0, none⟩), .int .i64 id] w fun e w' => e = .returned (.int .i64 (firstF (idsL S.L) id)) ∧ w = w' := by
  have hel := fun i (hi : i < S.L.length) => h.elem hi
  obtain ⟨ao, c, c3, _⟩ := h.slice
  have hid : ∀ i (hi : i < S.L.length), (idsL S.L)[i]'(by simpa [idsL] using hi) = S.L[i].1 := fun i hi => by simp [idsL]
  have hil : (idsL S.L).length = S.L.length := by simp [idsL]
  obtain ⟨n, hn⟩ : ∃ n, S.L.length = n := ⟨_, rfl⟩
  rw [hn] at hl5 c3
  replace hel := Lib.hid hel
  replace hid := Lib.hid hid
  replace hil := Lib.hid hil
  replace hn := Lib.hid hn
  clear h
  go_enter Tryz.func39, Tryz.ntmps39
  go_wp2
  go_loopw [5] (fun iv wr => wr = w ∧ ∃ j : Nat, j ≤ n ∧ iv = .int .i64 j ∧ Hid (∀ i (hi : i < S.L.length), i < j → S.L[i].1 ≠ id)) (fun iv _ => n - (intOf iv).toNat)
  case atStart => exact ⟨rfl, 0, Nat.zero_le _, rfl, Lib.hid (fun i hi h0 => absurd h0 (by omega))⟩
  case round =>
    obtain ⟨rfl, j, hj, rfl, hR⟩ := hrel
    by_cases hlt : j < n
    · have hjI : (j : Int) < (n : Int) := by omega
      have hjL : j < S.L.length := by rw [hn.out]; exact hlt
      obtain ⟨g, c', d, c3', q0, q1⟩ := hel.out j hjL
      rw [hn.out] at c3'
      obtain ⟨y, hy⟩ : ∃ y, y = S.L[j].1 := ⟨_, rfl⟩
      rw [← hy] at q0
      clear q1
      clear c3
      by_cases he : y = id
      · have hres := Lib.hid (first_at (L := idsL S.L) (k := j) (y := id) (by rw [hil.out]; exact hjL) (by rw [hid.out j hjL, ← hy]; exact he) (fun i hi => by rw [hid.out i (by omega)]; exact hR.out i (by omega) hi))
        have he' : (y == id) = true := beq_iff_eq.2 he
        clear hy
        subst he
        go_wp2
        go_ret
        exact ⟨ret_int hres.out.symm, rfl⟩
      · have hres := Lib.hid (fun i (hi : i < S.L.length) (h0 : i < j + 1) => (by
          by_cases c : i = j
          · subst c; rw [← hy]; exact he
          · exact hR.out i hi (by omega) : S.L[i].1 ≠ id))
        have he' : (y == id) = false := beq_eq_false_iff_ne.2 he
        clear hy he
        go_wp2
        go_roundw
        case rel => exact ⟨trivial, j + 1, by omega, by go_num, hres⟩
        case measure => simp [intOf]; omega
    · obtain rfl : j = n := by omega
      have hres := Lib.hid (first_none (L := idsL S.L) (y := id) (fun i hi => by
        have hi' : i < S.L.length := by rw [← hil.out]; exact hi
        rw [hid.out i hi']
        exact hR.out i hi' (by rw [← hn.out]; exact hi')))
      go_wp2
      go_ret
      exact ⟨ret_int hres.out.symm, rfl⟩
end
end Go.Proofs.YtaoegfdaemmogaaGreat.Scn
namespace Go.Proofs.YtaoegfdaemmogaaGreat.Scn
open Go Go.RowKit Go.Proofs.YtaoegfdaemmogaaGreat.Com Go.Proofs.YtaoegfdaemmogaaGreat.Rw Go.Proofs.YtaoegfdaemmogaaGreat.Lns
theorem res_rep (c m : Nat) : resL (List.replicate c (clr zeroAt)) m = List.replicate m (clr zeroAt) := by
  unfold resL resX
  rw [List.take_replicate, List.length_replicate, List.replicate_append_replicate, show min m c + (m - c) = m by omega]
  exact mendAll_whole (good_new m).whole
theorem fresh_rep (c : Nat) : freshL c zeroAt = List.replicate c (clr zeroAt) := by
  unfold freshL eraL
  rw [List.length_replicate, show heldF 0 c = 0 by unfold heldF; omega, show heldF (c : Int) c = c by unfold heldF; omega]
  unfold eraseL
  split
  · unfold setL
    have e : splice (List.replicate c (clr zeroAt)) 0 (List.replicate (c - 0) (clr zeroAt)) = List.replicate c (clr zeroAt) := by
      refine List.ext_getElem (by rw [length_splice _ _ _ (by simp)]) fun i h1 h2 => ?_
      simp [splice]
    rw [e]
    exact mendAll_whole (good_new c).whole
  · rfl
theorem freshS_wide (nx c k m : Nat) : (freshS nx c k zeroAt).map (fun p => (p.1, resL p.2 m)) = freshS nx m k zeroAt := by
  unfold freshS
  rw [List.map_map]
  refine List.map_congr_left fun j _ => ?_
  show ((nx : Int) + (j : Int), resL (freshL c zeroAt) m) = ((nx : Int) + (j : Int), freshL m zeroAt)
  rw [fresh_rep, fresh_rep, res_rep]
/-- k lines from the top on are gone. -/
def cutS (S : Scr) (k : Nat) : Scr := { S with L := S.L.drop k, R := if S.kp then pushes S.most S.R (S.L.take k) else S.R }
/-- The first m lines, i of them of another length. -/
def wideTo (S : Scr) (i cols : Nat) : Scr := { S with L := (S.L.take i).map (fun p => (p.1, resL p.2 cols)) ++ S.L.drop i }
def endS (S : Scr) (rows cols : Nat) : Scr := { S with nx := S.nx + (rows - S.L.length), cols := cols, top := 0, bot := rows - 1, L := S.L ++ freshS S.nx cols (rows - S.L.length) zeroAt }
theorem resA_cut (S : Scr) (rows y : Nat) : resA S rows y = cutS S (y - (rows - 1)) := by
  unfold resA chg cutS
  have e : insA (outA S.L 0 (y - (rows - 1))) 0 (freshS S.nx S.cols 0 zeroAt) = S.L.drop (y - (rows - 1)) := by simp [insA, outA, freshS]
  rw [e, List.drop_zero, Nat.add_zero]
/-- The document's Resize, step by step. -/
theorem resS_steps (S : Scr) (rows cols y : Nat) {C T : Scr} (hC : C = cutS S (y - (rows - 1))) (hT : T = { C with L := C.L.take rows }) : resS S rows cols y = endS (wideTo T T.L.length cols) rows cols := by
  unfold resS
  rw [resA_cut, ← hC]
  have hTl : T.L.length = min rows C.L.length := by rw [hT]; exact List.length_take
  have hm : T.L = C.L.take (min rows C.L.length) := by
    rw [hT]
    show C.L.take rows = _
    rw [Nat.min_def]
    split
    · rfl
    · rw [List.take_of_length_le (by omega), List.take_of_length_le (Nat.le_refl _)]
  have hB : (resB C rows).L = T.L ++ freshS C.nx C.cols (rows - T.L.length) zeroAt := by
    unfold resB
    rw [chg_L, hTl, hm]
    unfold insA outA
    rw [List.drop_eq_nil_of_le (by omega), List.append_nil, List.take_take, Nat.min_self, List.drop_eq_nil_of_le (by rw [List.length_take]; omega), List.append_nil]
  have hw : (wideTo T T.L.length cols).L = T.L.map fun p => (p.1, resL p.2 cols) := by
    show (T.L.take T.L.length).map _ ++ T.L.drop T.L.length = _
    rw [List.take_length, List.drop_length, List.append_nil]
  have hwl : (wideTo T T.L.length cols).L.length = T.L.length := by rw [hw, List.length_map]
  have hL : (wideS (resB C rows) cols).L = T.L.map (fun p => (p.1, resL p.2 cols)) ++ freshS C.nx cols (rows - T.L.length) zeroAt := by
    show (resB C rows).L.map _ = _
    rw [hB, List.map_append, freshS_wide]
  have hLl : (wideS (resB C rows) cols).L.length = rows := by
    rw [hL, List.length_append, List.length_map, freshS_len]
    omega
  unfold margS endS
  rw [hLl, hwl, hL, hw]
  have hnx : (wideTo T T.L.length cols).nx = C.nx := by rw [hT]; rfl
  have hmo : (wideTo T T.L.length cols).most = C.most := by rw [hT]; rfl
  have hkp : (wideTo T T.L.length cols).kp = C.kp := by rw [hT]; rfl
  have hR : (wideTo T T.L.length cols).R = C.R := by rw [hT]; rfl
  rw [hnx, hmo, hkp, hR, hTl]
  rfl
theorem cutS_0 (S : Scr) : cutS S 0 = S := by
  unfold cutS
  rw [List.drop_zero, List.take_zero]
  cases S with
  | mk nx most kp cols top bot L R => cases kp <;> simp [pushes]
theorem cutS_succ (S : Scr) {k : Nat} (hk : k < S.L.length) : (cutS S (k + 1)).L = (cutS S k).L.drop 1 ∧ (cutS S (k + 1)).R = (if S.kp then pushL S.most (cutS S k).R S.L[k] else (cutS S k).R) := by
  refine ⟨by show S.L.drop (k + 1) = (S.L.drop k).drop 1; rw [List.drop_drop], ?_⟩
  show (if S.kp = true then pushes S.most S.R (S.L.take (k + 1)) else S.R) = (if S.kp then pushL S.most (if S.kp = true then pushes S.most S.R (S.L.take k) else S.R) S.L[k] else (if S.kp = true then pushes S.most S.R (S.L.take k) else S.R))
  cases S.kp
  · rfl
  · simp only [if_true]
    rw [List.take_add_one, List.getElem?_eq_getElem hk]
    exact pushes_snoc _ _ _ _
section
variable {B : Nat} {w w1 w' : World} {r q nx most cols top bot n : Nat} {kp : Bool} {rv lv : Value} {xs : List Value} {L R : List En} {S : Scr}
/-- Other lines are stored. -/
theorem RmX.swap (h : RmX B w r q nx most kp cols rv lv top bot n xs L R) {B' : Nat} (hB : B ≤ B') (hh : ∀ g, Hits rv g → g < B') {v1 : Value} {m : Nat} {M : List En} (hown : w.ownsRow B' 71 2 v1 m (fl rlineC M)) (hm : m = M.length) (hm5 : m ≤ 1000) (hs : ∃ L0, List.Perm M L0 ∧ L0.Sublist L) :
    RmX B (w.setCell ⟨r, 3, none⟩ v1) r q nx most kp cols rv v1 top bot M.length (fl rlineC M) M R ∧ Fr B RT w (w.setCell ⟨r, 3, none⟩ v1) := by
  have ho : Only [r] w (w.setCell ⟨r, 3, none⟩ v1) := Only.setCell w ⟨r, 3, none⟩ _
  have hr : ∀ k ∈ [r], Typ w k 63 := fun k hk => by
    obtain rfl : k = r := by simpa using hk
    exact h.typ
  have hrf : ∀ {d l}, RefIn B w d l → RefIn B (w.setCell ⟨r, 3, none⟩ v1) d l := fun hh => RefIn.other hh ho hr (by decide) (by decide) (by decide)
  obtain ⟨L0, hp, hs⟩ := hs
  refine ⟨⟨h.blk.set 3 v1, ?_, h.st.other ho hr (by decide) (by decide) (by decide) (by decide) (by decide), fun g hg hq => ?_, fun e he => ?_, ?_, h.lo, by omega⟩, h.rfr ho⟩
  · have h1 := owns_only hown ho (fun g hg => not_in1 (owns_typ hown g hg) h.typ (by decide))
    rw [hm] at h1
    exact owns_lower h1 hB
  · have := hh g hq
    have := (World.ownsRow.lt hown g hg).1
    omega
  · have := h.refs e (hs.subset (hp.subset he))
    exact ⟨hrf this.1, this.2⟩
  · rw [((hp.append_right R).map En.dr).nodup_iff]
    exact h.dd.sublist ((List.Sublist.append hs (List.Sublist.refl R)).map _)
/-- A piece of the lines, as append is told of it. -/
theorem RmX.piece (h : RmX B w r q nx most kp cols rv lv top bot L.length (fl rlineC L) L R) {g cap : Nat} (hlv : lv = .slice (some ⟨g, 0, none⟩) L.length cap) (lo hi : Nat) (h1 : lo ≤ hi) (h2 : hi ≤ L.length) {ad : Option Addr} (had : (if cap = lo then (some ⟨g, 0, none⟩ : Option Addr) else some ⟨g, lo * 2, none⟩) = ad) :
    (fl rlineC ((L.drop lo).take (hi - lo))).length = (hi - lo) * 2 ∧ (ad = none → hi - lo = 0 ∧ cap - lo = 0) ∧ ∀ d, ad = some d → ∀ j u, (fl rlineC ((L.drop lo).take (hi - lo)))[j]? = some u → w.cell? (d.add j) = some u := by
  have hl : (fl rlineC ((L.drop lo).take (hi - lo))).length = (hi - lo) * 2 := by rw [fl_length rlineC_length, List.length_take, List.length_drop]; omega
  have hne : ad ≠ none := by rw [← had]; split <;> simp
  refine ⟨hl, fun e => absurd e hne, fun d hd j u hj => ?_⟩
  have hjl := (List.getElem?_eq_some_iff.1 hj).1
  obtain ⟨g', cap', tail, e, hg, hb, hc, hm⟩ := own_block h.own (by omega)
  rw [hlv] at e
  simp only [Value.slice.injEq, Option.some.injEq, Addr.mk.injEq] at e
  obtain ⟨⟨rfl, _⟩, _, rfl⟩ := e
  rw [if_neg (by omega)] at had
  rw [hd] at had
  obtain rfl := Option.some.inj had
  rw [Addr.add_lit]
  refine hb.cell _ ?_
  rw [← fl_take rlineC_length _ _ (by rw [List.length_drop]; omega), ← fl_drop rlineC_length _ _ (by omega), List.getElem?_take_of_lt (by omega), List.getElem?_drop] at hj
  have hlt := (List.getElem?_eq_some_iff.1 hj).1
  rw [List.getElem?_toArray, List.getElem?_append_left hlt]
  exact hj
theorem empty_row (w : World) : (w.alloc (.cells #[] 71)).ownsRow w.heap.size 71 2 (.slice (some ⟨w.heap.size, 0, none⟩) 0 0) 0 [] := by
  have := World.ownsRow_lit (e := 71) (base := w.heap.size) (size := 2) w #[] 0 (Nat.le_refl _) (by simp [maxLen]) (by simp)
  simpa using this
/-- The screen's block turns. -/
theorem RmX.turn (h : RmX B w r q nx most kp cols rv lv top bot n xs L R) (ho : Only [r] w w') {cols' top' bot' : Nat} (hb : Block w' r 63 #[.pointer (some ⟨q, 0, none⟩), .bool kp, .int .i64 cols', lv, .int .i64 top', .int .i64 bot']) :
    RmX B w' r q nx most kp cols' rv lv top' bot' n xs L R ∧ Fr B RT w w' := by
  have hr : ∀ k ∈ [r], Typ w k 63 := fun k hk => by
    obtain rfl : k = r := by simpa using hk
    exact h.typ
  have hrf : ∀ {d l}, RefIn B w d l → RefIn B w' d l := fun hh => RefIn.other hh ho hr (by decide) (by decide) (by decide)
  exact ⟨⟨hb, owns_only h.own ho (fun g hg => not_in1 (h.ltyp g hg).2.2 h.typ (by decide)), h.st.other ho hr (by decide) (by decide) (by decide) (by decide) (by decide), h.apart, fun e he => ⟨hrf (h.refs e he).1, (h.refs e he).2⟩, h.dd, h.lo, h.small⟩, h.rfr ho⟩
theorem RC.setCols (h : RC B w r q S) (c : Nat) : RC B (w.setCell ⟨r, 2, none⟩ (.int .i64 c)) r q { S with cols := c } ∧ Fr B RT w (w.setCell ⟨r, 2, none⟩ (.int .i64 c)) := by
  obtain ⟨rv, lv, L, R, h1, h2, h3⟩ := h
  obtain ⟨m1, m2⟩ := h1.turn (Only.setCell w ⟨r, 2, none⟩ _) (h1.blk.set 2 (.int .i64 c))
  exact ⟨⟨rv, lv, L, R, m1, h2, h3⟩, m2⟩
theorem split_at {α : Type} (L : List α) {i : Nat} (hi : i < L.length) : L = L.take i ++ L[i] :: L.drop (i + 1) := by
  rw [List.getElem_cons_drop, List.take_append_drop]
theorem vw_set {L : List En} {i : Nat} (hi : i < L.length) (e : En) : vw (L.take i ++ e :: L.drop (i + 1)) = (vw L).set i (e.id, e.l) := by
  rw [List.set_eq_take_append_cons_drop, if_pos (by rw [vw_len]; exact hi)]
  simp [vw, List.map_take, List.map_drop]
/-- One of the rows turns. -/
theorem rres_at (h : RC B w r q S) {i : Nat} (hi : i < S.L.length) (m : Nat) (h1 : 1 ≤ m) (h2 : m ≤ 512) : ∃ g c d, w.cell? ⟨r, 3, none⟩ = some (.slice (some ⟨g, 0, none⟩) S.L.length c) ∧ w.cell? ⟨g, i * 2 + 1, none⟩ = some (.pointer (some ⟨d, 0, none⟩)) ∧
    Calls Tryz.prog 65 #[.pointer (some ⟨d, 0, none⟩), .int .i64 m] w fun z w' => z = .returned (.int .i64 0) ∧ RC B w' r q { S with L := S.L.set i (S.L[i].1, resL S.L[i].2 m) } ∧ Fr B RT w w' := by
  obtain ⟨rv, lv, L, R, g1, g2, g3⟩ := h
  have hl : L.length = S.L.length := by rw [← g2, vw_len]
  have hiL : i < L.length := by omega
  have hc := g1.cells.2.2.2.1
  obtain ⟨g, c, rfl, q0, q1, _⟩ := g1.elem rfl hiL
  rw [hl] at hc
  have hsp := split_at L hiL
  have g1' : RmX B w r q S.nx S.most S.kp S.cols rv (.slice (some ⟨g, 0, none⟩) L.length c) S.top S.bot L.length (fl rlineC L) (L.take i ++ L[i] :: L.drop (i + 1)) R := by rw [← hsp]; exact g1
  have hat : S.L[i] = (L[i].id, L[i].l) := by simp only [← g2, vw, List.getElem_map]
  refine ⟨g, c, _, hc, q1, (rres_row g1' m h1 h2).mono ?_⟩
  rintro z w' ⟨rfl, hx, hf⟩
  refine ⟨rfl, ⟨rv, .slice (some ⟨g, 0, none⟩) L.length c, L.take i ++ (⟨L[i].id, L[i].d, L[i].g, L[i].dr, resL L[i].l m⟩ : En) :: L.drop (i + 1), R, ?_, ?_, g3⟩, hf⟩
  · have e1 : (L.take i ++ (⟨L[i].id, L[i].d, L[i].g, L[i].dr, resL L[i].l m⟩ : En) :: L.drop (i + 1)).length = L.length := by
      rw [List.length_append, List.length_cons, List.length_take, List.length_drop]
      omega
    have e2 : fl rlineC (L.take i ++ (⟨L[i].id, L[i].d, L[i].g, L[i].dr, resL L[i].l m⟩ : En) :: L.drop (i + 1)) = fl rlineC L := by
      conv => rhs; rw [hsp]
      exact rfl_same rfl rfl
    rw [e1, e2]
    exact hx
  · rw [vw_set hiL, g2, hat]
theorem wideTo_len (T : Scr) (i m : Nat) : (wideTo T i m).L.length = T.L.length := by
  show ((T.L.take i).map _ ++ T.L.drop i).length = _
  rw [List.length_append, List.length_map, List.length_take, List.length_drop]
  omega
theorem wideTo_succ (T : Scr) {i m : Nat} (hi : i < T.L.length) : ∃ h : i < (wideTo T i m).L.length, { wideTo T i m with L := (wideTo T i m).L.set i ((wideTo T i m).L[i].1, resL (wideTo T i m).L[i].2 m) } = wideTo T (i + 1) m := by
  have hl : ((T.L.take i).map fun p => (p.1, resL p.2 m)).length = i := by rw [List.length_map, List.length_take]; omega
  refine ⟨by rw [wideTo_len]; exact hi, ?_⟩
  have e0 : (wideTo T i m).L[i]'(by rw [wideTo_len]; exact hi) = T.L[i] := by
    have e : (wideTo T i m).L[i]? = some T.L[i] := by
      show ((T.L.take i).map (fun p => (p.1, resL p.2 m)) ++ T.L.drop i)[i]? = _
      rw [List.getElem?_append_right (by omega), hl, Nat.sub_self, List.getElem?_drop, Nat.add_zero, List.getElem?_eq_getElem hi]
    exact (List.getElem?_eq_some_iff.1 e).2
  rw [e0]
  show ({ wideTo T i m with L := _ } : Scr) = { T with L := _ }
  have e1 : (wideTo T i m).L.set i (T.L[i].1, resL T.L[i].2 m) = (T.L.take (i + 1)).map (fun p => (p.1, resL p.2 m)) ++ T.L.drop (i + 1) := by
    show ((T.L.take i).map (fun p => (p.1, resL p.2 m)) ++ T.L.drop i).set i _ = _
    rw [List.set_append_right _ _ (by omega), hl, Nat.sub_self, List.take_add_one, List.getElem?_eq_getElem hi, List.map_append, ← List.getElem_cons_drop (h := hi), List.set_cons_zero]
    simp
  rw [e1]
  rfl
/-- Fresh lines are put behind those that are there, and stored. -/
theorem fresh_end (hM : RmX B w r q nx most kp cols rv lv top bot L.length (fl rlineC L) L R) {v1 : Value} (hb1 : Below w.heap.size w w1) (hown1 : w1.ownsRow w.heap.size 71 2 v1 L.length (fl rlineC L)) {m : Nat} (hm5 : L.length + m ≤ 1000) {a : At} {e : Ending} {w3 : World} (hF : RFresh B w1 r q nx most kp cols rv lv top bot L.length (fl rlineC L) L R m a e w3) :
    ∃ v3 F, e = .returned v3 ∧ vw F = freshS nx cols m a ∧ w3.ownsRow w.heap.size 71 2 v1 L.length (fl rlineC L) ∧ w3.ownsRow w1.heap.size 71 2 v3 m (fl rlineC F) ∧ F.length = m ∧ w3.cell? ⟨r, 3, none⟩ = some lv ∧ w.heap.size ≤ w3.heap.size ∧
      ∀ v4 w4, w4.ownsRow w.heap.size 71 2 v4 (L.length + m) (fl rlineC L ++ fl rlineC F) → Only v1.ownBlock.toList w3 w4 → (w4.cell? ⟨r, 3, none⟩ = some lv ∧ w4.frozen? ⟨r, 3, none⟩ = false) ∧ RmX B (w4.setCell ⟨r, 3, none⟩ v4) r q (nx + m) most kp cols rv v4 top bot (L ++ F).length (fl rlineC (L ++ F)) (L ++ F) R ∧ Fr B RT w (w4.setCell ⟨r, 3, none⟩ v4) := by
  obtain ⟨v3, F, rfl, h1, h2, h3, h4⟩ := hF
  have hBw : B ≤ w.heap.size := Nat.le_trans hM.lo (Nat.le_of_lt hM.blk.lt)
  have hFl : F.length = m := by rw [← vw_len, h2, freshS_len]
  have hq := Block.typ (hM.below hb1).st.blk
  have hown3 := owns_only hown1 h4 (fun g hg => not_in1 (owns_typ hown1 g hg) hq (by decide))
  have hs3 : w.heap.size ≤ w3.heap.size := Nat.le_trans hb1.size h4.size
  refine ⟨v3, F, rfl, h2, hown3, h1, hFl, h3.cells.2.2.2.1, hs3, fun v4 w4 hown4 ho4 => ?_⟩
  have hK : ∀ k ∈ v1.ownBlock.toList, w.heap.size ≤ k ∧ Typ w3 k 71 := fun k hk => ⟨(World.ownsRow.lt hown3 k (by simpa using hk)).1, owns_typ hown3 k (by simpa using hk)⟩
  have hX4 := h3.aside (N := w.heap.size) ho4 hK (fun g hg => (hM.ltyp g hg).2.1) (fun g hg => (hM.st.hit g hg).2.1)
  have e4 : fl rlineC L ++ fl rlineC F = fl rlineC (L ++ F) := by simp [fl]
  rw [e4] at hown4
  obtain ⟨m1, m2⟩ := hX4.swap (B' := w.heap.size) hBw (fun g hg => (hM.st.hit g hg).2.1) hown4 (by rw [List.length_append, hFl]) hm5 ⟨F ++ L, List.perm_append_comm, List.Sublist.refl _⟩
  refine ⟨⟨hX4.cells.2.2.2.1, hX4.blk.free 3⟩, m1, ?_⟩
  refine ((Fr.of_below hb1).trans ((hM.below hb1).qfr h4)).trans (Fr.trans ?_ m2)
  exact Fr.of_only ho4 fun k hk _ => ⟨Nat.le_trans hBw (hK k hk).1, _, by simp [RT], (hK k hk).2⟩
/-- The first line goes: what the append is told, and what is there behind it. -/
theorem drop_step (hX : RmX B w r q nx most kp cols rv lv top bot L.length (fl rlineC L) L R) {g cap : Nat} (hlv : lv = .slice (some ⟨g, 0, none⟩) L.length cap) (h1 : 1 ≤ L.length) :
    (w.alloc (.cells #[] 71)).cell? ⟨r, 3, none⟩ = some lv ∧ (w.alloc (.cells #[] 71)).ownsRow w.heap.size 71 2 (.slice (some ⟨w.heap.size, 0, none⟩) 0 0) 0 [] ∧ (fl rlineC (L.drop 1)).length = (L.length - 1) * 2 ∧
      (∀ d, (if cap = 1 then (some ⟨g, 0, none⟩ : Option Addr) else some ⟨g, 2, none⟩) = some d → ∀ j u, (fl rlineC (L.drop 1))[j]? = some u → (w.alloc (.cells #[] 71)).cell? (d.add j) = some u) ∧
      ∀ v1 w1, Only (Value.slice (some ⟨w.heap.size, 0, none⟩) 0 0).ownBlock.toList (w.alloc (.cells #[] 71)) w1 → w1.ownsRow w.heap.size 71 2 v1 (L.length - 1) (fl rlineC (L.drop 1)) → (w1.cell? ⟨r, 3, none⟩ = some lv ∧ w1.frozen? ⟨r, 3, none⟩ = false) ∧ RmX B (w1.setCell ⟨r, 3, none⟩ v1) r q nx most kp cols rv v1 top bot (L.drop 1).length (fl rlineC (L.drop 1)) (L.drop 1) R ∧ Fr B RT w (w1.setCell ⟨r, 3, none⟩ v1) := by
  have hba := below_new w (.cells #[] 71)
  have hA := hX.below hba
  have hp := (hA.piece (g := g) (cap := cap) hlv 1 L.length h1 (Nat.le_refl _) rfl)
  have e1 : (L.drop 1).take (L.length - 1) = L.drop 1 := List.take_of_length_le (by rw [List.length_drop]; omega)
  rw [e1] at hp
  refine ⟨hA.cells.2.2.2.1, empty_row w, hp.1, fun d hd j u hj => hp.2.2 d (by rw [← hd]) j u hj, fun v1 w1 ho hown => ?_⟩
  have hb1 : Below w.heap.size w w1 := hba.trans (ho.below (by simp) (by simp [Value.ownBlock]))
  have hX1 := hX.below hb1
  obtain ⟨a, b⟩ := hX1.swap (B' := w.heap.size) (Nat.le_trans hX.lo (Nat.le_of_lt hX.blk.lt)) (fun g hg => (hX.st.hit g hg).2.1) hown (by rw [List.length_drop]) (by have := hX.small; omega) ⟨L.drop 1, List.Perm.refl _, List.drop_sublist _ _⟩
  exact ⟨⟨hX1.cells.2.2.2.1, hX1.blk.free 3⟩, a, (Fr.of_below hb1).trans b⟩
end
end Go.Proofs.YtaoegfdaemmogaaGreat.Scn
