/-
  screen: the reference's SetMargins and New. screen: the reference's New.
-/
import Derived.Test.YtaoegfdaemmogaaNRdo
import Derived.Test.YtaoegfdaemmogaaNDoes
import Derived.Test.YtaoegfdaemmogaaNNew
namespace Go.Proofs.Ytaoegfdaemmogaa.Scn
open Go Go.RowKit Go.Proofs.Ytaoegfdaemmogaa.Com Go.Proofs.Ytaoegfdaemmogaa.Rw Go.Proofs.Ytaoegfdaemmogaa.Lns
section
variable {B : Nat} {w w' : World} {r q : Nat} {S : Scr}
theorem RC.setMarg (h : RC B w r q S) (t b : Nat) : RC B ((w.setCell ⟨r, 4, none⟩ (.int .i64 t)).setCell ⟨r, 5, none⟩ (.int .i64 b)) r q { S with top := t, bot := b } ∧ Fr B RT w ((w.setCell ⟨r, 4, none⟩ (.int .i64 t)).setCell ⟨r, 5, none⟩ (.int .i64 b)) := by
  obtain ⟨rv, lv, L, R, h, h2, h3⟩ := h
  have ho : Only [r] w ((w.setCell ⟨r, 4, none⟩ (.int .i64 t)).setCell ⟨r, 5, none⟩ (.int .i64 b)) := (Only.setCell w ⟨r, 4, none⟩ _).trans (Only.setCell _ ⟨r, 5, none⟩ _)
  have hr : ∀ k ∈ [r], Typ w k 69 := fun k hk => by
    obtain rfl : k = r := by simpa using hk
    exact h.typ
  have hrf : ∀ {d l}, RefIn B w d l → RefIn B _ d l := fun hh => RefIn.other hh ho hr (by decide) (by decide) (by decide)
  exact ⟨⟨rv, lv, L, R, ⟨(h.blk.set 4 (.int .i64 t)).set 5 (.int .i64 b), owns_only h.own ho (fun g hg => not_in1 (owns_typ h.own g hg) h.typ (by decide)), h.st.other ho hr (by decide) (by decide) (by decide) (by decide) (by decide), h.apart, fun e he => ⟨hrf (h.refs e he).1, (h.refs e he).2⟩, h.dd, h.lo, h.small⟩, h2, h3⟩, h.rfr ho⟩
theorem RC.cell3 (h : RC B w r q S) : ∃ ao c, w.cell? ⟨r, 3, none⟩ = some (.slice ao S.L.length c) := by
  obtain ⟨rv, lv, L, R, h, h2, h3⟩ := h
  obtain ⟨ao, c, e, _⟩ := owns_shape h.own
  have := h.cells.2.2.2.1
  rw [e, show L.length = S.L.length by rw [← h2, vw_len]] at this
  exact ⟨ao, c, this⟩
theorem RC.free (h : RC B w r q S) (i : Nat) : w.frozen? ⟨r, i, none⟩ = false := by
  obtain ⟨rv, lv, L, R, h, h2, h3⟩ := h
  exact h.blk.free i
set_option maxHeartbeats 1000000 in
theorem rsetm_no (h : RC B w r q S) (h5 : S.L.length ≤ 512) (t b : Int) (hno : ¬ okMarg S t b) : Calls Try.prog 47 #[.pointer (some ⟨r, 0, none⟩), .int .i64 t, .int .i64 b] w fun e w' => e = .returned (.int .i64 2) ∧ w = w' := by
  obtain ⟨ao, c, c3⟩ := h.cell3
  unfold okMarg at hno
  generalize S.L.length = n at c3 h5 hno
  have hw : IntKind.i64.wrap ((n : Int) - 1) = (n : Int) - 1 := IntWalk.i64_in _ (by omega)
  have hn2 := hno
  replace hno := Lib.hid hno
  clear h hn2
  go_enter Try.func47, Try.ntmps47
  go_wp2
  all_goals (first
    | (exfalso; have := hno.out; omega)
    | (exfalso; have := hno.out; simp at *; omega)
    | (go_ret; exact ⟨rfl, rfl⟩))
set_option maxHeartbeats 1000000 in
theorem rsetm_yes (h : RC B w r q S) (h5 : S.L.length ≤ 512) (t b : Nat) (hok : okMarg S t b) : Calls Try.prog 47 #[.pointer (some ⟨r, 0, none⟩), .int .i64 t, .int .i64 b] w (RDidV B w r q { S with top := t, bot := b } 0) := by
  obtain ⟨ao, c, c3⟩ := h.cell3
  obtain ⟨_, c4, c5⟩ := h.cells
  have f4 := h.free 4
  have f5 := h.free 5
  have hres := Lib.hid (h.setMarg t b)
  generalize ({ S with top := t, bot := b } : Scr) = S' at hres ⊢
  unfold okMarg at hok
  generalize S.L.length = n at c3 h5 hok
  have hw : IntKind.i64.wrap ((n : Int) - 1) = (n : Int) - 1 := IntWalk.i64_in _ (by omega)
  replace hok := Lib.hid hok
  clear h
  go_enter Try.func47, Try.ntmps47
  go_wp2
  all_goals (first
    | (exfalso; have := hok.out; omega)
    | (exfalso; have := hok.out; simp at *; omega)
    | (go_ret; have hr := hres.out; exact ⟨rfl, hr⟩)
    | (go_ret; have hr := hres.out; have q1 : (t : Int) = 0 := by omega
       have q2 : (b : Int) = (n : Int) - 1 := by omega
       rw [q1, q2] at hr; exact ⟨rfl, hr⟩)
    | (go_ret; have hr := hres.out; have q1 : (t : Int) = 0 := by omega
       rw [q1] at hr; exact ⟨rfl, hr⟩)
    | (go_ret; have hr := hres.out
       have q2 : (b : Int) = (n : Int) - 1 := by omega
       rw [q2] at hr; exact ⟨rfl, hr⟩))
end
end Go.Proofs.Ytaoegfdaemmogaa.Scn
namespace Go.Proofs.Ytaoegfdaemmogaa.Scn
open Go Go.RowKit Go.Proofs.Ytaoegfdaemmogaa.Com Go.Proofs.Ytaoegfdaemmogaa.Rw Go.Proofs.Ytaoegfdaemmogaa.Lns
section
variable {B : Nat} {w w' : World} {r q nx most cols top bot n : Nat} {kp : Bool} {rv lv v : Value} {xs : List Value} {L R O : List En}
/-- Its lines are another list. -/
theorem RmX.relist (h : RmX B w r q nx most kp cols rv lv top bot n xs L R) {B' : Nat} (hB : B ≤ B') (hown : w.ownsRow B' 90 2 v O.length (fl rlineC O)) (hap : ∀ g, v.ownBlock = some g → ¬ Hits rv g) (hs : O.Sublist L) (hn : O.length ≤ 1000) :
    RmX B (w.setCell ⟨r, 3, none⟩ v) r q nx most kp cols rv v top bot O.length (fl rlineC O) O R ∧ Fr B RT w (w.setCell ⟨r, 3, none⟩ v) := by
  have ho : Only [r] w (w.setCell ⟨r, 3, none⟩ v) := Only.setCell w ⟨r, 3, none⟩ _
  have hr : ∀ k ∈ [r], Typ w k 69 := fun k hk => by
    obtain rfl : k = r := by simpa using hk
    exact h.typ
  have hrf : ∀ {d l}, RefIn B w d l → RefIn B (w.setCell ⟨r, 3, none⟩ v) d l := fun hh => RefIn.other hh ho hr (by decide) (by decide) (by decide)
  refine ⟨⟨h.blk.set 3 v, ?_, h.st.other ho hr (by decide) (by decide) (by decide) (by decide) (by decide), hap, fun e he => ?_, ?_, h.lo, hn⟩, h.rfr ho⟩
  · exact owns_lower (owns_only hown ho (fun g hg => not_in1 (owns_typ hown g hg) h.typ (by decide))) hB
  · have := h.refs e (hs.subset he)
    exact ⟨hrf this.1, this.2⟩
  · exact h.dd.sublist ((List.Sublist.append hs (List.Sublist.refl R)).map _)
set_option maxHeartbeats 2000000 in
theorem rnew_yes (h : RX B w q nx most rv R) (hd : (R.map En.dr).Nodup) (rows : Nat) (hr1 : 1 ≤ rows) (hr5 : rows ≤ 512) (hc1 : 1 ≤ cols) (hc5 : cols ≤ 512) (hnx : nx + 512 ≤ 1000000) :
    Calls Try.prog 9 #[.int .i64 rows, .int .i64 cols, .pointer (some ⟨q, 0, none⟩), .bool kp] w fun e w' => e = .returned (.pointer (some ⟨w.heap.size, 0, none⟩)) ∧ RC B w' w.heap.size q (newS nx most rows cols kp (vw R)) ∧ Fr B RT w w' := by
  obtain ⟨bt, hbt⟩ : ∃ bt, bt = rows - 1 := ⟨_, rfl⟩
  have hw : IntKind.i64.wrap ((rows : Int) - 1) = (bt : Int) := by rw [show (rows : Int) - 1 = (bt : Int) by omega]; exact IntWalk.i64_in _ (by omega)
  have hBw : B ≤ w.heap.size := Nat.le_trans h.lo (Nat.le_of_lt h.blk.lt)
  have hb := below_new w (.cells #[.pointer (some ⟨q, 0, none⟩), .bool kp, .int .i64 cols, .slice none 0 0, .int .i64 0, .int .i64 bt] 69)
  have hM : RmX B (w.alloc (.cells #[.pointer (some ⟨q, 0, none⟩), .bool kp, .int .i64 cols, .slice none 0 0, .int .i64 0, .int .i64 bt] 69)) w.heap.size q nx most kp cols rv (.slice none 0 0) 0 bt 0 [] [] R :=
    ⟨Block.made w _ _, World.ownsRow_nil _ _ _ _, h.below hb, fun g hg => (by cases hg), by simp, by simpa using hd, hBw, by simp⟩
  have hh := fun g hg => (hM.st.hit g hg).2.1
  have hfr := rfresh_sc hM rows (by omega) (by omega) hc1 hc5 zeroAt
  have hfr' : Calls Try.prog 33 #[.pointer (some ⟨w.heap.size, 0, none⟩), .int .i64 rows, .agg #[.int .u32 0, .int .u32 0, .int .u16 0]] (w.alloc (.cells #[.pointer (some ⟨q, 0, none⟩), .bool kp, .int .i64 cols, .slice none 0 0, .int .i64 0, .int .i64 bt] 69)) (RFresh B (w.alloc (.cells #[.pointer (some ⟨q, 0, none⟩), .bool kp, .int .i64 cols, .slice none 0 0, .int .i64 0, .int .i64 bt] 69)) w.heap.size q nx most kp cols rv (.slice none 0 0) 0 bt 0 [] [] R rows zeroAt) := hfr
  have hfin : Hid (∀ v F w6, w6.ownsRow (w.alloc (.cells #[.pointer (some ⟨q, 0, none⟩), .bool kp, .int .i64 cols, .slice none 0 0, .int .i64 0, .int .i64 bt] 69)).heap.size 90 2 v rows (fl rlineC F) → vw F = freshS nx cols rows zeroAt → RmX B w6 w.heap.size q (nx + rows) most kp cols rv (.slice none 0 0) 0 bt 0 [] (F ++ []) R → Only [q] (w.alloc (.cells #[.pointer (some ⟨q, 0, none⟩), .bool kp, .int .i64 cols, .slice none 0 0, .int .i64 0, .int .i64 bt] 69)) w6 →
      RC B (w6.setCell ⟨w.heap.size, 3, none⟩ v) w.heap.size q (newS nx most rows cols kp (vw R)) ∧ Fr B RT w (w6.setCell ⟨w.heap.size, 3, none⟩ v)) := Lib.hid (fun v F w6 g1 g2 g3 g4 => by
    have hl : F.length = rows := by rw [← vw_len, g2, freshS_len]
    obtain ⟨m1, m2⟩ := g3.relist (O := F) (v := v) (B' := (w.alloc (.cells #[.pointer (some ⟨q, 0, none⟩), .bool kp, .int .i64 cols, .slice none 0 0, .int .i64 0, .int .i64 bt] 69)).heap.size) (Nat.le_trans hBw hb.size) (by rw [hl]; exact g1) (fun g hg hx => by
      have := (World.ownsRow.lt g1 g hg).1
      have := hh g hx
      omega) (by simp) (by omega)
    refine ⟨⟨rv, v, F, R, ?_, by rw [g2, newS_L], rfl⟩, ((Fr.of_below hb).trans (hM.qfr g4)).trans m2⟩
    have e : (newS nx most rows cols kp (vw R)).bot = bt := by
      show (newS nx most rows cols kp (vw R)).L.length - 1 = bt
      rw [newS_L, freshS_len, hbt]
    rw [e]
    exact m1)
  have k9 := hM.blk.cell 0 rfl
  clear hfr h hM hh hd
  replace hbt := Lib.hid hbt
  replace hb := Lib.hid hb
  replace hfr' := Lib.hid hfr'
  go_enter Try.func9, Try.ntmps9
  go_wp2_with (first
    | (go_at_call 33; (with_reducible refine hfr'.out.mono ?_); rintro r' w6 ⟨v, F, rfl, hown, hvF, hMr, ho⟩; obtain ⟨c0, c1, c2, c3, c4, c5⟩ := hMr.cells; have f3 := hMr.blk.free 3; have hres := Lib.hid (hfin.out _ _ _ hown hvF hMr ho); obtain ⟨ao, cp, rfl, _⟩ := owns_shape hown; clear hown hvF hMr ho))
  go_ret
  exact ⟨rfl, hres.out⟩
end
end Go.Proofs.Ytaoegfdaemmogaa.Scn
