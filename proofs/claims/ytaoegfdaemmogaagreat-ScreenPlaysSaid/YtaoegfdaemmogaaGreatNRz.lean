/-
  screen: the reference's Resize.
-/
import Derived.Test.YtaoegfdaemmogaaGreatNRrs
import Derived.Test.YtaoegfdaemmogaaGreatNKn0
import Derived.Deep.LoopGhost
import Derived.Deep.CutRange
namespace Go.Proofs.YtaoegfdaemmogaaGreat.Scn
open Go Go.RowKit Go.Proofs.YtaoegfdaemmogaaGreat.Com Go.Proofs.YtaoegfdaemmogaaGreat.Rw Go.Proofs.YtaoegfdaemmogaaGreat.Lns
theorem step_appM {P : Program} {t e : TypeId} {z : Value} {size : Nat} (E : ElemN P t e z size) {w : World} {ops : Array Oper} {o : Oper} {a : Go.Act} {K : Go.Act → World → Prop} {Q : Exit → Go.Act → World → Prop} {F : Prop} (hw : Region.wanted o (yielded ops a.tmps) = true) (s x : Operand)
    (ho : o.op = .call { callee := .builtin .append, args := #[s, x], argTypes := #[t, t] })
    (B : Nat) (v : Value) (n : Nat) (xs : List Value) (ao : Option Addr) (m c : Nat) (news : List Value) (hs : a.eval s = v) (hxe : a.eval x = .slice ao m c)
    (h : w.ownsRow B e size v n xs) (hl : news.length = m * size) (hnone : ao = none → m = 0 ∧ c = 0) (hnews : ∀ ad, ao = some ad → ∀ j u, news[j]? = some u → w.cell? (ad.add j) = some u) (h1 : ∀ u ∈ news, u.oneCell' = true) (hB : B ≤ w.heap.size) (hx : n + m ≤ 100000)
    (hK : ∀ v' w', w'.ownsRow B e size v' (n + m) (xs ++ news) → Only v.ownBlock.toList w w' → (v'.ownBlock = v.ownBlock ∨ v'.ownBlock = some w.heap.size) → K (a.put o.dst v') w') :
    if Region.wanted o (yielded ops a.tmps) = true then Oper.wp P o a w K Q else F := by
  cases ao with
  | some ad => exact step_appN E hw s x ho B v n xs ad m c news hs hxe h hl (hnews ad rfl) h1 hB hx hK
  | none =>
    obtain ⟨rfl, rfl⟩ := hnone rfl
    obtain rfl : news = [] := List.eq_nil_of_length_eq_zero (by simpa using hl)
    obtain ⟨i, hi, hz, hsz, hb⟩ := E.info
    rw [if_pos hw]
    have hrun := run_append_owned_none (P := P) w B t o.type e i size E.slice hi v n xs h
    unfold Oper.wp
    simp [execOp, ho, resolve, invoke, builtin, hs, hxe, hrun, Result.andThen]
    exact hK v w (by simpa using h) (Only.refl _ _) (.inl rfl)
section
variable {B : Nat} {w w1 w' : World} {r q nx most cols top bot n : Nat} {kp : Bool} {rv lv : Value} {xs : List Value} {L R : List En} {S : Scr}
theorem rcount_any (x : Int) (w : World) : Calls Tryz.prog 7 #[.int .i64 x] w fun e w' => e = .returned (.bool (decide (1 ≤ x ∧ x ≤ 512))) ∧ w = w' := by
  exact (may_any x w).mono fun e w' ⟨h1, h2⟩ => ⟨h1, h2⟩
theorem rresS_no (h : RC B w r q S) (rows cols y : Int) (hno : ¬ ((1 ≤ rows ∧ rows ≤ 512) ∧ (1 ≤ cols ∧ cols ≤ 512) ∧ 0 ≤ y ∧ y < S.L.length)) :
    Calls Tryz.prog 31 #[.pointer (some ⟨r, 0, none⟩), .int .i64 rows, .int .i64 cols, .int .i64 y] w fun e w' => e = .returned (.tuple #[.int .i64 0, .int .i64 2]) ∧ w = w' := by
  have h1 := fun w => rcount_any rows w
  have h2 := fun w => rcount_any cols w
  obtain ⟨ao, c, c3, _⟩ := h.slice
  generalize S.L.length = n at c3 hno
  clear h
  by_cases q1 : 1 ≤ rows ∧ rows ≤ 512
  · simp only [decide_eq_true q1] at h1
    by_cases q2 : 1 ≤ cols ∧ cols ≤ 512
    · simp only [decide_eq_true q2] at h2
      replace h1 := Lib.hid h1
      replace h2 := Lib.hid h2
      by_cases q3 : y < 0
      · have e3 := decide_eq_true q3
        clear hno
        go_enter Tryz.func31, Tryz.ntmps31
        go_wp2_with (first
          | (go_at_call 7; (with_reducible refine (h1.out _).mono ?_); rintro e w' ⟨rfl, rfl⟩)
          | (go_at_call 7; (with_reducible refine (h2.out _).mono ?_); rintro e w' ⟨rfl, rfl⟩))
        go_ret2
        exact ⟨rfl, rfl⟩
      · have e3 := decide_eq_false q3
        have e4 : decide ((n : Int) ≤ y) = true := decide_eq_true (by omega)
        clear hno
        go_enter Tryz.func31, Tryz.ntmps31
        go_wp2_with (first
          | (go_at_call 7; (with_reducible refine (h1.out _).mono ?_); rintro e w' ⟨rfl, rfl⟩)
          | (go_at_call 7; (with_reducible refine (h2.out _).mono ?_); rintro e w' ⟨rfl, rfl⟩))
        go_ret2
        exact ⟨rfl, rfl⟩
    · simp only [decide_eq_false q2] at h2
      replace h1 := Lib.hid h1
      replace h2 := Lib.hid h2
      clear hno
      go_enter Tryz.func31, Tryz.ntmps31
      go_wp2_with (first
        | (go_at_call 7; (with_reducible refine (h1.out _).mono ?_); rintro e w' ⟨rfl, rfl⟩)
        | (go_at_call 7; (with_reducible refine (h2.out _).mono ?_); rintro e w' ⟨rfl, rfl⟩))
      go_ret2
      exact ⟨rfl, rfl⟩
  · simp only [decide_eq_false q1] at h1
    replace h1 := Lib.hid h1
    clear hno h2
    go_enter Tryz.func31, Tryz.ntmps31
    go_wp2_with (first
      | (go_at_call 7; (with_reducible refine (h1.out _).mono ?_); rintro e w' ⟨rfl, rfl⟩))
    go_ret2
    exact ⟨rfl, rfl⟩
theorem RC.cell2 (h : RC B w r q S) : w.cell? ⟨r, 2, none⟩ = some (.int .i64 S.cols) := by
  obtain ⟨rv, lv, L, R, h1, h2, h3⟩ := h
  exact h1.cells.2.2.1
theorem rswap (hX : RmX B w r q nx most kp cols rv lv top bot n xs L R) {v1 : Value} {m : Nat} {M : List En} (hb1 : Below w.heap.size w w1) (hown1 : w1.ownsRow w.heap.size 71 2 v1 m (fl rlineC M)) (hm : m = M.length) (hm5 : m ≤ 1000) (hs : ∃ L0, List.Perm M L0 ∧ L0.Sublist L) :
    RmX B (w1.setCell ⟨r, 3, none⟩ v1) r q nx most kp cols rv v1 top bot M.length (fl rlineC M) M R ∧ Fr B RT w (w1.setCell ⟨r, 3, none⟩ v1) := by
  have hX1 := hX.below hb1
  obtain ⟨a, b⟩ := hX1.swap (B' := w.heap.size) (Nat.le_trans hX.lo (Nat.le_of_lt hX.blk.lt)) (fun g hg => (hX.st.hit g hg).2.1) hown1 hm hm5 hs
  exact ⟨a, (Fr.of_below hb1).trans b⟩
theorem cut_first (hI : Inv S) {y k : Nat} (hy : y < S.L.length) (hk : k ≤ y) : firstF (idsL (cutS S k).L) S.L[y].1 = ((y - k : Nat) : Int) := by
  have hl : (idsL (cutS S k).L).length = S.L.length - k := by unfold idsL; rw [List.length_map]; exact List.length_drop
  have hget : ∀ i (hi : i < (idsL (cutS S k).L).length), (idsL (cutS S k).L)[i] = (S.L[k + i]'(by omega)).1 := fun i hi => by
    have e : (idsL (cutS S k).L)[i]? = some (S.L[k + i]'(by omega)).1 := by
      show ((S.L.drop k).map (·.1))[i]? = _
      rw [List.getElem?_map, List.getElem?_drop, List.getElem?_eq_getElem (by omega)]
      rfl
    exact (List.getElem?_eq_some_iff.1 e).2
  have hd : (idsL S.L).Nodup := by
    have := hI.dd
    rw [idsL_app, List.nodup_append] at this
    exact this.1
  have hne : ∀ i j (hi : i < S.L.length) (hj : j < S.L.length), S.L[i].1 = S.L[j].1 → i = j := fun i j hi hj e => nodup_idx hd (by simpa [idsL] using hi) (by simpa [idsL] using hj) (by simpa [idsL] using e)
  refine first_at (k := y - k) (by omega) ?_ fun i hi e => ?_
  · rw [hget (y - k) (by omega)]
    congr 2
    omega
  · rw [hget i (by omega)] at e
    have := hne _ _ _ hy e
    omega
theorem res_first (hI : Inv S) {rows cols y : Nat} (hr1 : 1 ≤ rows) (hy : y < S.L.length) : firstF (idsL (resS S rows cols y).L) S.L[y].1 = ((y - (y - (rows - 1)) : Nat) : Int) := by
  have hd : (idsL (resS S rows cols y).L).Nodup := by
    have := (res_inv hI rows cols y).dd
    rw [idsL_app, List.nodup_append] at this
    exact this.1
  have hat : (idsL (resS S rows cols y).L)[y - (y - (rows - 1))]? = some S.L[y].1 := by
    rw [resS_steps S rows cols y rfl rfl]
    show (idsL ((wideTo _ _ cols).L ++ freshS _ _ _ _))[_]? = _
    have hw : idsL (wideTo ({ cutS S (y - (rows - 1)) with L := (cutS S (y - (rows - 1))).L.take rows } : Scr) ((cutS S (y - (rows - 1))).L.take rows).length cols).L = idsL ((S.L.drop (y - (rows - 1))).take rows) := by
      show idsL ((((S.L.drop (y - (rows - 1))).take rows).take ((S.L.drop (y - (rows - 1))).take rows).length).map _ ++ ((S.L.drop (y - (rows - 1))).take rows).drop ((S.L.drop (y - (rows - 1))).take rows).length) = _
      rw [List.take_length, List.drop_length, List.append_nil]
      unfold idsL
      rw [List.map_map]
      rfl
    rw [idsL_app, List.getElem?_append_left, hw]
    · unfold idsL
      rw [List.getElem?_map, List.getElem?_take_of_lt (by omega), List.getElem?_drop, show y - (rows - 1) + (y - (y - (rows - 1))) = y by omega, List.getElem?_eq_getElem hy]
      rfl
    · rw [hw]
      unfold idsL
      rw [List.length_map, List.length_take, List.length_drop]
      omega
  obtain ⟨hlt, e⟩ := List.getElem?_eq_some_iff.1 hat
  exact first_at hlt e fun i hi e2 => by
    have := nodup_idx hd (by omega) hlt (e2.trans e.symm)
    omega
end
section
variable {B : Nat} {w w1 w' : World} {r q nx most cols top bot n : Nat} {kp : Bool} {rv lv : Value} {xs : List Value} {L R : List En} {S : Scr}
set_option maxRecDepth 100000 in
set_option maxHeartbeats 8000000 in
theorem rresS_yes (h : RC B w r q S) (hF : Fit S) (hI : Inv S) (rows cols y : Nat) (hr1 : 1 ≤ rows) (hr5 : rows ≤ 512) (hc1 : 1 ≤ cols) (hc5 : cols ≤ 512) (hy : y < S.L.length) (hnx : S.nx + 512 ≤ 1000000) (hmo : S.most ≤ 10000) :
    Calls Tryz.prog 31 #[.pointer (some ⟨r, 0, none⟩), .int .i64 rows, .int .i64 cols, .int .i64 y] w fun e w' => e = .returned (.tuple #[.int .i64 ((y - (y - (rows - 1)) : Nat) : Int), .int .i64 0]) ∧ RC B w' r q (resS S rows cols y) ∧ Fr B RT w w' := by
  have h1 := fun w => rcount_any rows w
  rw [decide_eq_true (by omega)] at h1
  have h2 := fun w => rcount_any cols w
  rw [decide_eq_true (by omega)] at h2
  have hl5 := hF.len5
  obtain ⟨g0, cp0, d0, e3, e4, _⟩ := h.elem hy
  obtain ⟨K, hK⟩ : ∃ K, K = y - (rows - 1) := ⟨_, rfl⟩
  have hcf := fun k (hk : k ≤ y) => cut_first hI hy hk
  have hst := fun k (hk : k < S.L.length) => cutS_succ S hk
  have hres := fun C T hC hT => resS_steps S rows cols y (C := C) (T := T) hC hT
  have hlen := fun k => (List.length_drop : (S.L.drop k).length = S.L.length - k)
  have hfnd := fun wr k (hr : RC B wr r q (cutS S k)) (hk : k ≤ y) => rfind_sc hr (by show (S.L.drop k).length ≤ 512; rw [hlen]; omega) S.L[y].1
  have hL0 := fun k (hk : k < S.L.length) => (show ((cutS S k).L[0]? = some S.L[k]) by show (S.L.drop k)[0]? = _; rw [List.getElem?_drop]; simp [hk])
  have hids := fun k (hk : k < S.L.length) => hF.ids _ (List.getElem_mem hk)
  have hRm : ∀ k, (cutS S k).R.length ≤ S.most := fun k => by
    show (if S.kp then pushes S.most S.R (S.L.take k) else S.R).length ≤ _
    split
    · exact pushes_le hI.most _
    · exact hI.most
  have hfe := res_first (cols := cols) hI hr1 hy
  have hrl := Lib.hid (hF.res hr1 hr5 hc1 hc5 hy).2
  rw [← hK] at hfe ⊢
  have hKy : K ≤ y := by omega
  have hKr : y - K < rows := by omega
  have hKc : ∀ k, k < K → rows ≤ y - k := fun k hk => by omega
  obtain ⟨id, hid⟩ : ∃ id, id = S.L[y].1 := ⟨_, rfl⟩
  rw [← hid] at e4 hfe
  have hcf2 := fun k (hk : k ≤ y) => (hid ▸ hcf k hk : firstF (idsL (cutS S k).L) id = _)
  have hfnd2 := fun wr k (hr : RC B wr r q (cutS S k)) (hk : k ≤ y) => by
    have := hfnd wr k hr hk
    rw [hcf k hk, ← hid] at this
    exact this
  obtain ⟨n, hn⟩ : ∃ n, n = S.L.length := ⟨_, rfl⟩
  rw [← hn] at e3 hy hl5
  have hstart : Hid (RC B w r q (cutS S 0) ∧ Fr B RT w w) := Lib.hid ⟨by rw [cutS_0]; exact h, Fr.refl _ _ _⟩
  replace h1 := Lib.hid h1
  replace h2 := Lib.hid h2
  replace hst := Lib.hid hst
  replace hres := Lib.hid hres
  replace hlen := Lib.hid hlen
  replace hfnd2 := Lib.hid hfnd2
  replace hL0 := Lib.hid hL0
  replace hids := Lib.hid hids
  replace hRm := Lib.hid hRm
  replace hfe := Lib.hid hfe
  replace hKc := Lib.hid hKc
  replace hn := Lib.hid hn
  replace hK := Lib.hid hK
  have hyI : (y : Int) < (n : Int) := by omega
  have hy0 : decide ((y : Int) < 0) = false := decide_eq_false (by omega)
  have hny : decide (n ≤ y) = false := decide_eq_false (by omega)
  clear h hF hI hcf hcf2 hfnd hid
  go_enter Tryz.func31, Tryz.ntmps31
  go_wp2_with (first
    | (go_at_call 7; (with_reducible refine (h1.out _).mono ?_); rintro e w' ⟨rfl, rfl⟩)
    | (go_at_call 7; (with_reducible refine (h2.out _).mono ?_); rintro e w' ⟨rfl, rfl⟩))
  go_loopg [41] K (fun gg _ wr => ∃ k, k + gg = K ∧ Hid (RC B wr r q (cutS S k) ∧ Fr B RT w wr))
  case atStart => exact ⟨0, by omega, hstart⟩
  case round =>
    obtain ⟨k, hk, hR⟩ := hrel
    obtain ⟨hRC, hfr⟩ := hR.out
    clear hR
    have hky : k ≤ y := by omega
    obtain ⟨ao, cp, c3, _⟩ := hRC.slice
    have hln : (cutS S k).L.length = n - k := by have := hlen.out k; rw [hn.out]; exact this
    rw [hln] at c3
    have hfn := Lib.hid (hfnd2.out wr k hRC hky)
    cases gk with
    | zero =>
      obtain rfl : k = K := by omega
      have hle : decide (rows ≤ y - k) = false := decide_eq_false (by omega)
      go_upto_region 4 with (fail)
      go_cut [54] from 41 to 87 (fun s54 wx => s54 = .bool false ∧ wr = wx)
      case first =>
        by_cases hlt : rows < n - k
        · have d1 := decide_eq_true hlt
          go_wp2_with (first
            | (go_at_call 39; (with_reducible refine hfn.out.mono ?_); rintro e w' ⟨rfl, rfl⟩))
          go_meet
          exact ⟨rfl, by first | rfl | trivial⟩
        · have d1 := decide_eq_false hlt
          go_wp2_with fail
          go_meet
          exact ⟨rfl, rfl⟩
      case rest =>
      obtain ⟨rfl, rfl⟩ := hcut
      obtain ⟨T, hT⟩ : ∃ T : Scr, T = { cutS S k with L := (cutS S k).L.take rows } := ⟨_, rfl⟩
      go_upto_if 94 with (fail)
      go_cut [94] from 94 to 105 (fun _ wx => Hid (RC B wx r q T ∧ Fr B RT w wx))
      case first =>
        by_cases hlt : rows < n - k
        · have d1 := decide_eq_true hlt
          obtain ⟨rv, lv, L, R, h1, h2, h3⟩ := hRC
          have hLl : L.length = n - k := by rw [← hln, ← h2, vw_len]
          obtain ⟨g, cap, tail, hlv, hg, hbg, hcap, hcm⟩ := own_block h1.own (by omega)
          rw [hLl] at hlv
          have hba := below_new wr (.cells #[] 71)
          have c3A : (wr.alloc (.cells #[] 71)).cell? ⟨r, 3, none⟩ = some lv := (h1.below hba).cells.2.2.2.1
          have hown0 := Lib.hid (empty_row wr)
          have hMl : (L.take rows).length = rows := by rw [List.length_take]; omega
          have hnews : ∀ d, some (⟨g, 0, none⟩ : Addr) = some d → ∀ j u, (fl rlineC (L.take rows))[j]? = some u → (wr.alloc (.cells #[] 71)).cell? (d.add j) = some u := by
            have hp := ((h1.below hba).piece (g := g) (cap := cap) (by rw [hlv, hLl]) 0 rows (by omega) (by omega) rfl).2.2
            intro d hd j u hj
            exact hp d (by rw [← hd]; split <;> simp) j u (by simpa using hj)
          have hfl : (fl rlineC (L.take rows)).length = rows * 2 := by rw [fl_length rlineC_length, hMl]
          have hfin : Hid (∀ v1 w1, Below wr.heap.size wr w1 → w1.ownsRow wr.heap.size 71 2 v1 rows (fl rlineC (L.take rows)) → RC B (w1.setCell ⟨r, 3, none⟩ v1) r q T ∧ Fr B RT w (w1.setCell ⟨r, 3, none⟩ v1)) := Lib.hid (fun v1 w1 hb1 hown1 => by
            obtain ⟨m1, m2⟩ := rswap h1 hb1 hown1 hMl.symm (by omega) ⟨L.take rows, List.Perm.refl _, List.take_sublist _ _⟩
            refine ⟨?_, hfr.trans m2⟩
            rw [hT]
            exact ⟨_, _, _, _, m1, by rw [vw_take, h2], h3⟩)
          have hfree : Hid (∀ w1, Below wr.heap.size wr w1 → w1.frozen? ⟨r, 3, none⟩ = false ∧ w1.cell? ⟨r, 3, none⟩ = some lv) := Lib.hid (fun w1 hb1 => ⟨(h1.below hb1).blk.free 3, (h1.below hb1).cells.2.2.2.1⟩)
          replace hba := Lib.hid hba
          replace hnews := Lib.hid hnews
          replace hfl := Lib.hid hfl
          have hone := Lib.hid (fl_one' rlineC_one (L.take rows))
          rw [hlv] at c3A
          have hi1 : (rows : Int) ≤ (cap : Int) := by omega
          clear h1 h2 h3 hlv hg hbg hLl hMl
          go_wp2_with (first
            | (with_reducible show wpList _ _ _ (⟨some 103, .call _, _, _, _, _⟩ :: _) _ _; go_must (refine wpList_appM elemRL rfl (.tmp 96) (.tmp 102) rfl wr.heap.size (.slice (some ⟨wr.heap.size, 0, none⟩) 0 0) 0 [] (some ⟨g, 0, none⟩) rows cap (fl rlineC (L.take rows)) rfl rfl hown0.out hfl.out (by simp) hnews.out hone.out (by simp) (by omega) ?_); intro v1 w1 hown1 ho1 _; rw [Nat.zero_add, List.nil_append] at hown1; have hb1 : Below wr.heap.size wr w1 := hba.out.trans (ho1.below (by simp) (by simp [Value.ownBlock])); obtain ⟨f3, k3⟩ := hfree.out _ hb1; have hres := Lib.hid (hfin.out _ _ hb1 hown1); obtain ⟨a1, cc1, rfl, _⟩ := owns_shape hown1))
          go_meet
          exact hres
        · have d1 := decide_eq_false hlt
          have hfin : Hid (RC B wr r q T ∧ Fr B RT w wr) := Lib.hid ⟨by
            have : T = cutS S k := by rw [hT, List.take_of_length_le (by omega)]
            rw [this]; exact hRC, hfr⟩
          go_wp2_with fail
          go_meet
          exact hfin
      case rest =>
      have hTl : T.L.length ≤ rows := by rw [hT]; show ((cutS S k).L.take rows).length ≤ rows; rw [List.length_take]; omega
      have hTm : T.most = S.most ∧ T.nx = S.nx := by rw [hT]; exact ⟨rfl, rfl⟩
      have hrs := hres.out (cutS S k) T (by rw [← hK.out]) hT
      obtain ⟨hRT, hfT⟩ := hcut.out
      have hwl := fun i => wideTo_len T i cols
      have hws := fun i (hi : i < T.L.length) => wideTo_succ T (i := i) (m := cols) hi
      obtain ⟨tl, htl⟩ : ∃ tl, tl = T.L.length := ⟨_, rfl⟩
      rw [← htl] at hTl hrs
      have hst0 : Hid (RC B wc r q (wideTo T 0 cols) ∧ Fr B RT w wc) := Lib.hid ⟨hRT, hfT⟩
      have hstp : Hid (∀ wr i, i < tl → RC B wr r q (wideTo T i cols) → ∃ g c d, wr.cell? ⟨r, 3, none⟩ = some (.slice (some ⟨g, 0, none⟩) tl c) ∧ wr.cell? ⟨g, i * 2 + 1, none⟩ = some (.pointer (some ⟨d, 0, none⟩)) ∧
          Calls Tryz.prog 65 #[.pointer (some ⟨d, 0, none⟩), .int .i64 cols] wr fun z w' => z = .returned (.int .i64 0) ∧ RC B w' r q (wideTo T (i + 1) cols) ∧ Fr B RT wr w') := Lib.hid (fun wr i hi h => by
        obtain ⟨hi2, e⟩ := hws i (by omega)
        have := rres_at h hi2 cols hc1 hc5
        rw [e, hwl, ← htl] at this
        exact this)
      have hsl : Hid (∀ wr i, RC B wr r q (wideTo T i cols) → ∃ ao c, wr.cell? ⟨r, 3, none⟩ = some (.slice ao tl c)) := Lib.hid (fun wr i h => by
        obtain ⟨ao, c, h3, _⟩ := h.slice
        rw [hwl, ← htl] at h3
        exact ⟨ao, c, h3⟩)
      replace hrs := Lib.hid hrs
      replace hwl := Lib.hid hwl
      replace hTm := Lib.hid hTm
      replace htl := Lib.hid htl
      replace hT := Lib.hid hT
      clear hws hRT hfT hcut hRC hfr c3 hln hfn hle hst hres hfnd2 hL0 hids hRm hKc
      go_wp2_with fail
      go_loopw [11] (fun iv wr => ∃ i : Nat, i ≤ tl ∧ iv = .int .i64 i ∧ Hid (RC B wr r q (wideTo T i cols) ∧ Fr B RT w wr)) (fun iv _ => tl - (intOf iv).toNat)
      case atStart => exact ⟨0, Nat.zero_le _, rfl, hst0⟩
      case round =>
        obtain ⟨i, hi, rfl, hR⟩ := hrel
        clear hst0
        obtain ⟨hRC, hfr⟩ := hR.out
        clear hR
        by_cases hlt : i < tl
        · obtain ⟨g, c, d, c3, q1, hcl⟩ := hstp.out wr i hlt hRC
          have hiI : (i : Int) < (tl : Int) := by omega
          replace hcl := Lib.hid hcl
          clear hRC
          go_wp2_with (first
            | (go_at_call 65; (with_reducible refine hcl.out.mono ?_); rintro z w6 ⟨rfl, hR6, hf6⟩))
          have hres := Lib.hid (And.intro hR6 (hfr.trans hf6))
          clear hR6 hf6 hcl c3 q1
          go_roundw
          case rel => exact ⟨i + 1, by omega, by go_num, hres⟩
          case measure => simp [intOf]; omega
        · obtain rfl : i = tl := by omega
          obtain ⟨ao, c, c3⟩ := hsl.out wr i hRC
          have f2 := hRC.free 2
          have k2 := RC.cell2 hRC
          obtain ⟨hC, hfC⟩ := hRC.setCols cols
          have hfr2 := hfr.trans hfC
          go_upto_region 15 with (fail)
          generalize wr.setCell ⟨r, 2, none⟩ (.int .i64 cols) = w9 at hC hfr2 ⊢
          clear c3 f2 k2 hfC hRC hfr hsl hstp
          obtain ⟨rv, lv, L, R, h1, h2, h3⟩ := hC
          have hLl : L.length = i := by rw [← vw_len, h2]; show (wideTo T i cols).L.length = i; rw [hwl.out, ← htl.out]
          have hM1 : T.most = S.most := hTm.out.1
          have hM2 : T.nx = S.nx := hTm.out.2
          obtain ⟨ao, c, rfl, hnone, hnews⟩ := owns_news h1.own
          have k3 := h1.cells.2.2.2.1
          have hdr : Below w9.heap.size w9 w9.drew := below_dr (Below.refl _ _) 1
          have hw : IntKind.i64.wrap ((rows : Int) - (i : Int)) = ((rows - i : Nat) : Int) := by rw [show (rows : Int) - (i : Int) = ((rows - i : Nat) : Int) by omega]; exact IntWalk.i64_in _ (by omega)
          have hUn : (wideTo T i cols).nx = S.nx := hM2
          have hfr9 := fun w1 (hb : Below w9.heap.size w9 w1) => rfresh_sc (h1.below hb) (rows - i) (by omega) (by rw [hUn]; omega) hc1 hc5 zeroAt
          have hend := fun w1 v1 hb1 hown1 e w3 hF => fresh_end (w1 := w1) (v1 := v1) (m := rows - i) (a := zeroAt) (e := e) (w3 := w3) h1 hb1 hown1 (by omega) hF
          have hbA1 : Below w9.heap.size w9 (w9.alloc (.cells #[] 71)).drew := below_dr (below_new w9 _) 1
          have hbA2 : Below w9.heap.size w9 (w9.drew.alloc (.cells #[] 71)) := below_next hdr (below_new w9.drew _)
          have hoA1 : (w9.alloc (.cells #[] 71)).drew.ownsRow w9.heap.size 71 2 (.slice (some ⟨w9.heap.size, 0, none⟩) 0 0) 0 [] := owns_only (empty_row w9) (Only.drewN [] _ 1) (by simp)
          have hoA2 : (w9.drew.alloc (.cells #[] 71)).ownsRow w9.heap.size 71 2 (.slice (some ⟨w9.heap.size, 0, none⟩) 0 0) 0 [] := empty_row w9.drew
          have hkA := fun w' (hb : Below w9.heap.size w9 w') => (h1.below hb).cells.2.2.2.1
          have hnA : ∀ w', Below w9.heap.size w9 w' → ∀ d, ao = some d → ∀ j u, (fl rlineC L)[j]? = some u → w'.cell? (d.add j) = some u := fun w' hb d hd j u hj => by
            obtain ⟨ao2, c2, e2, _, hn2⟩ := owns_news (h1.below hb).own
            simp only [Value.slice.injEq] at e2
            exact hn2 d (by rw [← e2.1]; exact hd) j u hj
          have hlLl : (fl rlineC L).length = i * 2 := by rw [fl_length rlineC_length, hLl]
          have hone := fl_one' rlineC_one L
          have hcall : Hid (∀ w1 v1, Below w9.heap.size w9 w1 → w1.ownsRow w9.heap.size 71 2 v1 i (fl rlineC L) → Calls Tryz.prog 24 #[.pointer (some ⟨r, 0, none⟩), .int .i64 ((rows - i : Nat) : Int), .agg #[.int .u32 0, .int .u32 0, .int .u16 0]] w1 (fun e w3 => ∃ v3 F, e = .returned v3 ∧ w3.ownsRow w9.heap.size 71 2 v1 i (fl rlineC L) ∧ w3.ownsRow w1.heap.size 71 2 v3 (rows - i) (fl rlineC F) ∧ F.length = rows - i ∧ w3.cell? ⟨r, 3, none⟩ = some (.slice ao i c) ∧ w9.heap.size ≤ w3.heap.size ∧
              ∀ v4 w4, w4.ownsRow w9.heap.size 71 2 v4 (i + (rows - i)) (fl rlineC L ++ fl rlineC F) → Only v1.ownBlock.toList w3 w4 → (w4.cell? ⟨r, 3, none⟩ = some (.slice ao i c) ∧ w4.frozen? ⟨r, 3, none⟩ = false) ∧ RC B (w4.setCell ⟨r, 3, none⟩ v4) r q { wideTo T i cols with nx := S.nx + (rows - i), cols := cols, L := (wideTo T i cols).L ++ freshS S.nx cols (rows - i) zeroAt } ∧ Fr B RT w (w4.setCell ⟨r, 3, none⟩ v4))) := Lib.hid (fun w1 v1 hb1 hown1 => by
            refine (hfr9 w1 hb1).mono fun e w3 hF => ?_
            obtain ⟨v3, F, e1, e2, e3, e4, e5, e6, e7, e8⟩ := hend w1 v1 hb1 (by rw [hLl]; exact hown1) e w3 hF
            rw [hLl] at e3 e6 e8
            refine ⟨v3, F, e1, e3, e4, e5, e6, e7, fun v4 w4 g1 g2 => ?_⟩
            obtain ⟨k1, k2, k4⟩ := e8 v4 w4 g1 g2
            refine ⟨k1, ⟨rv, v4, L ++ F, R, ?_, ?_, h3⟩, hfr2.trans k4⟩
            · rw [hUn] at k2
              exact k2
            · rw [vw_app, h2, e2]
              show _ ++ freshS (wideTo T i cols).nx cols (rows - i) zeroAt = _
              rw [hUn])
          rw [hLl] at hnone k3 hkA
          replace hnone := Lib.hid hnone
          replace hkA := Lib.hid hkA
          replace hnA := Lib.hid hnA
          replace hlLl := Lib.hid hlLl
          replace hone := Lib.hid hone
          replace hoA1 := Lib.hid hoA1
          replace hoA2 := Lib.hid hoA2
          replace hbA1 := Lib.hid hbA1
          replace hbA2 := Lib.hid hbA2
          replace hdr := Lib.hid hdr
          replace hLl := Lib.hid hLl
          clear h1 h2 h3 hnews hfr9 hend hM1 hM2 hUn hfr2
          have kd := hkA.out _ hdr.out
          have ka1 := hkA.out _ hbA1.out
          have ka2 := hkA.out _ hbA2.out
          go_cut [148] from 129 to 148 (fun _ wx => Hid (RC B wx r q { wideTo T i cols with nx := S.nx + (rows - i), cols := cols, L := (wideTo T i cols).L ++ freshS S.nx cols (rows - i) zeroAt } ∧ Fr B RT w wx))
          case first =>
            obtain ⟨rm, hrm⟩ : ∃ rm, rm = rows - i := ⟨_, rfl⟩
            rw [← hrm] at hw hcall
            have hrm5 : rm ≤ 512 := by omega
            replace hrm := Lib.hid hrm
            go_region_law
              (first
                | (refine step_appM elemRL rfl (.tmp 130) (.tmp 134) rfl w9.heap.size (.slice (some ⟨w9.heap.size, 0, none⟩) 0 0) 0 [] ao i c (fl rlineC L) rfl rfl hoA1.out hlLl.out hnone.out (hnA.out _ hbA1.out) hone.out (by simp) (by omega) ?_; intro v1 w1 hown1 ho1 _; rw [Nat.zero_add, List.nil_append] at hown1; have hb1 := Lib.hid (hbA1.out.trans (ho1.below (by simp) (by simp [Value.ownBlock]))); have kz1 := hkA.out _ hb1.out; have hc1 := Lib.hid (hcall.out _ _ hb1.out hown1); obtain ⟨a1, cc1, rfl, _⟩ := owns_shape hown1; clear hown1 ho1)
                | (refine step_appM elemRL rfl (.tmp 130) (.tmp 134) rfl w9.heap.size (.slice (some ⟨w9.heap.size, 0, none⟩) 0 0) 0 [] ao i c (fl rlineC L) rfl rfl hoA2.out hlLl.out hnone.out (hnA.out _ hbA2.out) hone.out (by simp) (by omega) ?_; intro v1 w1 hown1 ho1 _; rw [Nat.zero_add, List.nil_append] at hown1; have hb1 := Lib.hid (hbA2.out.trans (ho1.below (by simp) (by simp [Value.ownBlock]))); have kz1 := hkA.out _ hb1.out; have hc1 := Lib.hid (hcall.out _ _ hb1.out hown1); obtain ⟨a1, cc1, rfl, _⟩ := owns_shape hown1; clear hown1 ho1)
                | (go_simp; go_at_call 24; (with_reducible refine hc1.out.mono ?_); rintro e w3 ⟨v3, F, rfl, hw1, hw3, hFl, kz3, hsz3, hst3⟩; obtain ⟨a3, cc3, rfl, hnn3, hnews3⟩ := owns_news hw3; have hlF : Hid ((fl rlineC F).length = rm * 2) := Lib.hid (by rw [fl_length rlineC_length, hFl]); have hoF := Lib.hid (fl_one' rlineC_one F); replace hw1 := Lib.hid hw1; replace hst3 := Lib.hid hst3; replace hnn3 := Lib.hid hnn3; replace hnews3 := Lib.hid hnews3; clear hw3 hFl)
                | (refine step_appM elemRL rfl (.tmp 135) (.tmp 145) rfl w9.heap.size (.slice a1 i cc1) i (fl rlineC L) a3 rm cc3 (fl rlineC F) rfl rfl hw1.out hlF.out hnn3.out hnews3.out hoF.out hsz3 (by omega) ?_; intro v4 w4 hown4 ho4 _; obtain ⟨⟨kz4, f4⟩, hRC4, hfr4⟩ := hst3.out _ _ hown4 ho4; obtain ⟨a4, cc4, rfl, _⟩ := owns_shape hown4; replace hRC4 := Lib.hid hRC4; replace hfr4 := Lib.hid hfr4; clear hown4 ho4))
            all_goals
              go_wp2_with fail
              go_meet
              obtain rfl := hrm.out
              exact Lib.hid ⟨hRC4.out, hfr4.out⟩
          case rest =>
          obtain ⟨hV, hfV⟩ := hcut.out
          clear hcut k3 kd ka1 ka2 hkA hnA hcall hoA1 hoA2 hbA1 hbA2 hdr hone hlLl hnone
          have hVl : Hid ({ ({ wideTo T i cols with nx := S.nx + (rows - i), cols := cols, L := (wideTo T i cols).L ++ freshS S.nx cols (rows - i) zeroAt } : Scr) with top := 0, bot := rows - 1 } = resS S rows cols y) := Lib.hid (by
            rw [hrs.out]
            unfold endS
            rw [hwl.out, ← htl.out, show (wideTo T i cols).nx = S.nx from hTm.out.2])
          obtain ⟨_, k4, k5⟩ := hV.cells
          have f4 := hV.free 4
          have f5 := hV.free 5
          obtain ⟨hV2, hfV2⟩ := hV.setMarg 0 (rows - 1)
          rw [hVl.out, Int.natCast_zero] at hV2
          rw [Int.natCast_zero] at hfV2
          have hw5 : IntKind.i64.wrap ((rows : Int) - 1) = ((rows - 1 : Nat) : Int) := by rw [show (rows : Int) - 1 = ((rows - 1 : Nat) : Int) by omega]; exact IntWalk.i64_in _ (by omega)
          have hfd := rfind_sc hV2 (by rw [show (resS S rows cols y).L.length = rows from hrl.out]; omega) id
          rw [hfe.out] at hfd
          have hres := Lib.hid (And.intro hV2 (hfV.trans hfV2))
          replace hfd := Lib.hid hfd
          clear hV hV2 hfV hfV2
          go_wp2_with (first
            | (go_at_call 39; (with_reducible refine hfd.out.mono ?_); rintro e w' ⟨rfl, rfl⟩))
          go_ret2
          exact ⟨rfl, hres.out⟩
    | succ gg =>
      have hkK : k < K := by omega
      have hle : decide (rows ≤ y - k) = true := decide_eq_true (hKc.out k hkK)
      have hd1 : decide (rows < n - k) = true := decide_eq_true (by have := hKc.out k hkK; omega)
      have hkn : k < S.L.length := by rw [← hn.out]; omega
      obtain ⟨kc1, _, _⟩ := hRC.cells
      have kc1' : wr.cell? ⟨r, 1, none⟩ = some (.bool S.kp) := kc1
      obtain ⟨hsL, hsR⟩ := hst.out k hkn
      have hRl := hRm.out k
      have hat := hL0.out k hkn
      have hidk := hids.out k hkn
      obtain ⟨rv, lv, L, R, h1, h2, h3⟩ := hRC
      have hLl : L.length = n - k := by rw [← hln, ← h2, vw_len]
      obtain ⟨g, cap, tail, hlv, hg, hbg, hcap, hcm⟩ := own_block h1.own (by omega)
      rw [hlv] at h1
      have hL1 : 1 ≤ L.length := by omega
      have h0 : 0 < L.length := by omega
      have hpair : (L[0].id, L[0].l) = S.L[k] := by
        rw [← h2] at hat
        have e : (vw L)[0]? = some (L[0].id, L[0].l) := by simp [vw, h0]
        exact Option.some.inj (e.symm.trans hat)
      have hin := h1.refs L[0] (List.getElem_mem h0)
      have hid0 : 1 ≤ L[0].id ∧ L[0].id < (S.nx : Int) := by
        have e : L[0].id = S.L[k].1 := congrArg Prod.fst hpair
        rw [e]
        exact hidk
      have hRn : R.length ≤ 10000 := by rw [← vw_len, h3]; omega
      have hS0 : ∀ X rv' R', RmX B X r q S.nx S.most S.kp S.cols rv' (.slice (some ⟨g, 0, none⟩) L.length cap) S.top S.bot L.length (fl rlineC L) L R' → X.cell? ⟨r, 0, none⟩ = some (.pointer (some ⟨q, 0, none⟩)) ∧ X.cell? ⟨r, 3, none⟩ = some (.slice (some ⟨g, 0, none⟩) (n - k) cap) ∧ X.cell? ⟨g, 0, none⟩ = some (.int .i64 L[0].id) ∧ X.cell? ⟨g, 1, none⟩ = some (.pointer (some ⟨L[0].dr, 0, none⟩)) := fun X rv' R' hX => by
        obtain ⟨c0, _, _, c3, _, _⟩ := hX.cells
        have hcl := World.ownsRow.cells hX.own (g := g) rfl
        have k0 := hcl 0 _ (by have := fl_at rlineC_length h0 (show 0 < 2 by omega); simpa [rlineC] using this)
        have k1 := hcl 1 _ (by have := fl_at rlineC_length h0 (show 1 < 2 by omega); simpa [rlineC] using this)
        rw [Addr.add_lit, Nat.zero_add] at k0 k1
        rw [hLl] at c3
        exact ⟨c0, c3, k0, k1⟩
      have hsev : Hid (∀ X rv' R', RmX B X r q S.nx S.most S.kp S.cols rv' (.slice (some ⟨g, 0, none⟩) L.length cap) S.top S.bot L.length (fl rlineC L) L R' → vw R' = (cutS S (k + 1)).R → Fr B RT w X →
          (X.alloc (.cells #[] 71)).cell? ⟨r, 3, none⟩ = some (.slice (some ⟨g, 0, none⟩) (n - k) cap) ∧ (X.alloc (.cells #[] 71)).ownsRow X.heap.size 71 2 (.slice (some ⟨X.heap.size, 0, none⟩) 0 0) 0 [] ∧ (fl rlineC (L.drop 1)).length = (n - k - 1) * 2 ∧
            (∀ d, (if cap = 1 then (some ⟨g, 0, none⟩ : Option Addr) else some ⟨g, 2, none⟩) = some d → ∀ j u, (fl rlineC (L.drop 1))[j]? = some u → (X.alloc (.cells #[] 71)).cell? (d.add j) = some u) ∧
            ∀ v1 w1, Only (Value.slice (some ⟨X.heap.size, 0, none⟩) 0 0).ownBlock.toList (X.alloc (.cells #[] 71)) w1 → w1.ownsRow X.heap.size 71 2 v1 (n - k - 1) (fl rlineC (L.drop 1)) → (w1.cell? ⟨r, 3, none⟩ = some (.slice (some ⟨g, 0, none⟩) (n - k) cap) ∧ w1.frozen? ⟨r, 3, none⟩ = false) ∧ RC B (w1.setCell ⟨r, 3, none⟩ v1) r q (cutS S (k + 1)) ∧ Fr B RT w (w1.setCell ⟨r, 3, none⟩ v1)) := Lib.hid (fun X rv' R' hX hR hf => by
        have hd := drop_step hX (g := g) (cap := cap) rfl hL1
        obtain ⟨a1, a2, a3, a4, a5⟩ := hd
        rw [hLl] at a1 a3 a5
        refine ⟨a1, a2, a3, a4, fun v1 w1 g1 g2 => ?_⟩
        obtain ⟨b1, b2, b3⟩ := a5 v1 w1 g1 g2
        exact ⟨b1, ⟨rv', v1, L.drop 1, R', b2, by rw [vw_drop, h2, hsL], hR⟩, hf.trans b3⟩)
      have hone := Lib.hid (fl_one' rlineC_one (L.drop 1))
      obtain ⟨nk, hnk⟩ : ∃ nk, nk = n - k := ⟨_, rfl⟩
      rw [← hnk] at hd1 hS0 hsev c3
      have hnk1 : 1 ≤ nk := by omega
      have hnk5 : nk ≤ 512 := by omega
      have i00 : 0 < nk := by omega
      have i0 : (0 : Int) < (nk : Int) := by omega
      have hnkc : nk ≤ cap := by omega
      have i1 : (1 : Int) ≤ (nk : Int) := by omega
      have i2 : (nk : Int) ≤ (cap : Int) := by omega
      have i3 : 1 ≤ cap := by omega
      by_cases hkp : S.kp = true
      · rw [hkp] at kc1'
        have hdr : Below wr.heap.size wr wr.drew := below_dr (Below.refl _ _) 1
        have hMd := h1.below hdr
        have hpu := Lib.hid (rpush_yes hMd.st hRn L[0].id hid0 (RefIn.below hin.1 hdr) hin.2)
        obtain ⟨p0, p1, p2, p3⟩ := hS0 _ _ _ h1
        have hcd := hS0 _ _ _ hMd
        have hfin : Hid (∀ x w6, RPushDone B wr.drew q S.nx S.most R L[0].id L[0].l x w6 → ∃ rv' R', RmX B w6 r q S.nx S.most S.kp S.cols rv' (.slice (some ⟨g, 0, none⟩) L.length cap) S.top S.bot L.length (fl rlineC L) L R' ∧ vw R' = (cutS S (k + 1)).R ∧ Fr B RT w w6 ∧ w6.cell? ⟨r, 0, none⟩ = some (.pointer (some ⟨q, 0, none⟩)) ∧ w6.cell? ⟨r, 3, none⟩ = some (.slice (some ⟨g, 0, none⟩) nk cap) ∧ w6.cell? ⟨g, 0, none⟩ = some (.int .i64 L[0].id) ∧ w6.cell? ⟨g, 1, none⟩ = some (.pointer (some ⟨L[0].dr, 0, none⟩))) := Lib.hid (fun x w6 hp => by
          obtain ⟨rv', R', g1, g2, g3⟩ := hMd.push hp
          refine ⟨rv', R', g1, ?_, (hfr.trans (Fr.of_below hdr)).trans (hMd.qfr g3), hS0 _ _ _ g1⟩
          rw [g2, h3, hsR, hkp, hpair]
          rfl)
        generalize L[0].id = id1 at hpu p2 hcd hfin
        generalize L[0].dr = dr1 at hpu p3 hcd hfin
        replace hnk := Lib.hid hnk
        replace hdr := Lib.hid hdr
        clear c3 hS0 hin h1 h2 h3 hlv hg hbg hsL hsR hat hLl hpair kc1 hkp hMd hfr hid0
        go_wp2_with (first
          | (go_at_call 39; (with_reducible refine hfn.out.mono ?_); rintro e w' ⟨rfl, rfl⟩))
        go_region_held3 (fun w' => w'.cell? ⟨r, 0, none⟩ = some (.pointer (some ⟨q, 0, none⟩)) ∧ w'.cell? ⟨r, 3, none⟩ = some (.slice (some ⟨g, 0, none⟩) nk cap) ∧ w'.cell? ⟨g, 0, none⟩ = some (.int .i64 id1) ∧ w'.cell? ⟨g, 1, none⟩ = some (.pointer (some ⟨dr1, 0, none⟩)))
          (first | exact ⟨p0, p1, p2, p3⟩ | exact hcd | exact hz)
          (first
            | (go_at_call 64; (with_reducible refine hpu.out.mono ?_); rintro r' w6 hpd; obtain ⟨rv', R', hX6, hR6, hf6, hz⟩ := hfin.out _ _ hpd; obtain ⟨_, _, hre, _⟩ := hpd; subst hre; obtain ⟨s1, s2, s3, s4, s5⟩ := hsev.out w6 rv' R' hX6 hR6 hf6; replace s2 := Lib.hid s2; replace s3 := Lib.hid s3; replace s4 := Lib.hid s4; replace s5 := Lib.hid s5; clear hX6 hR6 hf6))
        have c63 := hz.2.1
        clear hfin hsev hpu hcd p0 p1 p2 p3 hz
        go_wp2_with (first
          | (with_reducible show wpList _ _ _ (⟨some 85, .call _, _, _, _, _⟩ :: _) _ _; go_must (refine wpList_appM elemRL rfl (.tmp 79) (.tmp 84) rfl w6.heap.size (.slice (some ⟨w6.heap.size, 0, none⟩) 0 0) 0 [] (if cap = 1 then (some ⟨g, 0, none⟩ : Option Addr) else some ⟨g, 2, none⟩) (nk - 1) (cap - 1) (fl rlineC (L.drop 1)) rfl rfl s2.out s3.out (by split <;> simp) s4.out hone.out (by simp) (by omega) ?_); intro v1 w1 hown1 ho1 _; rw [Nat.zero_add, List.nil_append] at hown1; obtain ⟨⟨kz, fz⟩, hRC1, hfr1⟩ := s5.out _ _ ho1 hown1; have hres := Lib.hid (And.intro hRC1 hfr1); obtain ⟨a1, cc1, rfl, _⟩ := owns_shape hown1; generalize (if cap = 1 then (some ⟨g, 0, none⟩ : Option Addr) else some ⟨g, 2, none⟩) = ad2; clear hRC1 hfr1 hown1 ho1))
        go_roundg gg
        case measure => omega
        case rel => exact ⟨k + 1, by omega, hres⟩
      · have hkf : S.kp = false := by simpa using hkp
        rw [hkf] at kc1'
        obtain ⟨s1, s2, s3, s4, s5⟩ := hsev.out wr rv R h1 (by rw [h3, hsR, hkf]; rfl) hfr
        have c3' := (hS0 _ _ _ h1).2.1
        replace s3 := Lib.hid s3
        replace s4 := Lib.hid s4
        replace s5 := Lib.hid s5
        replace s2 := Lib.hid s2
        replace hnk := Lib.hid hnk
        clear c3 hsev hS0 hin h1 h2 h3 hlv hg hbg hsL hsR hat hLl hpair kc1 hkf hkp
        go_wp2_with (first
          | (go_at_call 39; (with_reducible refine hfn.out.mono ?_); rintro e w' ⟨rfl, rfl⟩)
          | (with_reducible show wpList _ _ _ (⟨some 85, .call _, _, _, _, _⟩ :: _) _ _; go_must (refine wpList_appM elemRL rfl (.tmp 79) (.tmp 84) rfl wr.heap.size (.slice (some ⟨wr.heap.size, 0, none⟩) 0 0) 0 [] (if cap = 1 then (some ⟨g, 0, none⟩ : Option Addr) else some ⟨g, 2, none⟩) (nk - 1) (cap - 1) (fl rlineC (L.drop 1)) rfl rfl s2.out s3.out (by split <;> simp) s4.out hone.out (by simp) (by omega) ?_); intro v1 w1 hown1 ho1 _; rw [Nat.zero_add, List.nil_append] at hown1; obtain ⟨⟨kz, fz⟩, hRC1, hfr1⟩ := s5.out _ _ ho1 hown1; have hres := Lib.hid (And.intro hRC1 hfr1); obtain ⟨a1, cc1, rfl, _⟩ := owns_shape hown1; generalize (if cap = 1 then (some ⟨g, 0, none⟩ : Option Addr) else some ⟨g, 2, none⟩) = ad2; clear hRC1 hfr1 hown1 ho1))
        go_roundg gg
        case measure => omega
        case rel => exact ⟨k + 1, by omega, hres⟩
end
end Go.Proofs.YtaoegfdaemmogaaGreat.Scn
