/-
  screen: the reference's up and down. screen: the reference's down.
-/
import Derived.Test.YtaoegfdaemmogaaGreatNRu
namespace Go.Proofs.YtaoegfdaemmogaaGreat.Scn
open Go Go.RowKit Go.Proofs.YtaoegfdaemmogaaGreat.Com Go.Proofs.YtaoegfdaemmogaaGreat.Rw Go.Proofs.YtaoegfdaemmogaaGreat.Lns
theorem owns_news {w : World} {B : Nat} {e : TypeId} {s n : Nat} {v : Value} {xs : List Value} (h : w.ownsRow B e s v n xs) : ∃ ao c, v = .slice ao n c ∧ (ao = none → n = 0 ∧ c = 0) ∧ ∀ d, ao = some d → ∀ j u, xs[j]? = some u → w.cell? (d.add j) = some u := by
  have hc := fun g hg => World.ownsRow.cells h (g := g) hg
  rcases h.2 with ⟨rfl, hn⟩ | ⟨g, cap, cur, rfl, _⟩
  · exact ⟨none, 0, by rw [hn], fun _ => ⟨hn, rfl⟩, by simp⟩
  · refine ⟨_, cap, rfl, by simp, fun d hd j u hj => ?_⟩
    obtain rfl := Option.some.inj hd
    exact hc g rfl j u hj
section
variable {B : Nat} {w w' : World} {r q nx most cols top bot : Nat} {kp : Bool} {rv lv : Value} {L R : List En}
theorem vw_take (L : List En) (k : Nat) : vw (L.take k) = (vw L).take k := List.map_take
theorem vw_drop (L : List En) (k : Nat) : vw (L.drop k) = (vw L).drop k := List.map_drop
theorem vw_app (L M : List En) : vw (L ++ M) = vw L ++ vw M := List.map_append
theorem sub_up {α : Type} (L : List α) {f e b : Nat} (h1 : f ≤ e) (h2 : e ≤ b) (m : Nat) : (((L.drop 0).take (f - 0) ++ (L.drop e).take (b - e)) ++ (L.drop b).take m).Sublist L := by
  rw [List.drop_zero, Nat.sub_zero, List.append_assoc]
  conv => rhs; rw [← List.take_append_drop f L]
  refine List.Sublist.append (List.Sublist.refl _) ?_
  have h3 : (L.drop e).Sublist (L.drop f) := by
    rw [show e = f + (e - f) by omega, ← List.drop_drop]
    exact List.drop_sublist _ _
  refine List.Sublist.trans ?_ h3
  conv => rhs; rw [← List.take_append_drop (b - e) (L.drop e)]
  refine List.Sublist.append (List.Sublist.refl _) ?_
  rw [List.drop_drop, show e + (b - e) = b by omega]
  exact List.take_sublist _ _
theorem perm_up {α : Type} (A F C : List α) : List.Perm ((A ++ F) ++ C) (F ++ (A ++ C)) := by
  rw [← List.append_assoc F]
  exact List.Perm.append_right C List.perm_append_comm
theorem UpSt.wpApp {wr : World} {bx n : Nat} {a : At} {xs : List Value} {v : Value} {O : List En} {ops : Array Oper} {rest : List Oper} {o : Oper} {act : Go.Act} {Q : Exit → Go.Act → World → Prop} (hgd : o.guard = none) (s x : Operand)
    (ho : o.op = .call { callee := .builtin .append, args := #[s, x], argTypes := #[59, 59] })
    (h : UpSt B w wr bx a r q nx most kp cols rv lv top bot n xs L R v O) (ao : Option Addr) (m c l : Nat) (M : List En) (hl : O.length = l) (hs : act.eval s = v) (hxe : act.eval x = .slice ao m c) (hm : M.length = m) (hnone : ao = none → m = 0 ∧ c = 0)
    (hnews : ∀ ad, ao = some ad → ∀ j u, (fl rlineC M)[j]? = some u → wr.cell? (ad.add j) = some u) (hx : l + m ≤ 100000)
    (hK : ∀ v' w1, Hid (UpSt B w w1 bx a r q nx most kp cols rv lv top bot n xs L R v' (O ++ M)) → (∃ ao' c', v' = .slice ao' (l + m) c') →
      (w1.cell? ⟨r, 0, none⟩ = some (.pointer (some ⟨q, 0, none⟩)) ∧ w1.cell? ⟨r, 1, none⟩ = some (.bool kp) ∧ w1.cell? ⟨r, 2, none⟩ = some (.int .i64 cols) ∧ w1.cell? ⟨r, 3, none⟩ = some lv ∧ w1.cell? ⟨r, 4, none⟩ = some (.int .i64 top) ∧ w1.cell? ⟨r, 5, none⟩ = some (.int .i64 bot)) →
      (w1.cell? ⟨bx, 0, none⟩ = some (.int .u32 a.f) ∧ w1.cell? ⟨bx, 1, none⟩ = some (.int .u32 a.b) ∧ w1.cell? ⟨bx, 2, none⟩ = some (.int .u16 a.g)) → Hid (Only v.ownBlock.toList wr w1) → wpList Tryz.prog ops Q rest (act.put o.dst v') w1) : wpList Tryz.prog ops Q (o :: rest) act wr := by
  refine wpList_appM elemRL hgd s x ho w.heap.size v l (fl rlineC O) ao m c (fl rlineC M) hs hxe (hl ▸ h.own) (by rw [fl_length rlineC_length, hm]) hnone hnews (fl_one' rlineC_one M) h.only.size (by omega) fun v' w1 hown1 ho1 hat1 => ?_
  have h1 := h.app (k := m) (M := M) (by rw [hl]; exact hown1) hm.symm ho1 hat1
  obtain ⟨ao', c', e, _⟩ := owns_shape hown1
  exact hK v' w1 (Lib.hid h1) ⟨ao', c', e⟩ h1.m.cells ⟨h1.box.cell 0 rfl, h1.box.cell 1 rfl, h1.box.cell 2 rfl⟩ (Lib.hid ho1)

set_option pp.deepTerms true in
set_option maxRecDepth 100000 in
set_option maxHeartbeats 8000000 in
theorem rup_forget (h : RmX B w r q nx most kp cols rv lv top bot L.length (fl rlineC L) L R) (f to : Nat) (n : Int) (hf : f ≤ to + 1) (ht : to < L.length) (h5 : L.length ≤ 512) (hnx : nx + 512 ≤ 1000000) (hc1 : 1 ≤ cols) (hc5 : cols ≤ 512) (a : At) :
    Calls Tryz.prog 62 #[.pointer (some ⟨r, 0, none⟩), .int .i64 f, .int .i64 to, .int .i64 n, .agg #[.int .u32 a.f, .int .u32 a.b, .int .u16 a.g], .bool false] w fun e w' => (∃ v, e = .returned v) ∧ RDid B w r q (nx + heldF n (to + 1 - f)) most kp cols top bot (insA (outA (vw L) f (heldF n (to + 1 - f))) (to + 1 - heldF n (to + 1 - f)) (freshS nx cols (heldF n (to + 1 - f)) a)) (vw R) w' := by
  have hkl := held_leN n (to + 1 - f)
  have hhe := fun w => rheld_any n f to hf (by omega) w
  generalize heldF n (to + 1 - f) = k at hkl hhe ⊢
  have hb1 := below_new w (.cells #[.int .u32 a.f, .int .u32 a.b, .int .u16 a.g] 37)
  have hbx := Block.made w 37 #[.int .u32 a.f, .int .u32 a.b, .int .u16 a.g]
  obtain ⟨g, cap, tail, hlv, hg, hbg, hcap, hcm⟩ := own_block h.own (by omega)
  have hSt : UpSt B w (w.alloc (.cells #[.int .u32 a.f, .int .u32 a.b, .int .u16 a.g] 37)) w.heap.size a r q nx most kp cols rv lv top bot L.length (fl rlineC L) L R (.slice none 0 0) [] :=
    ⟨h.below hb1, World.ownsRow_nil _ _ _ _, by simp [Value.ownBlock], fun g hg => (h.ltyp g hg).2.1, Only.of_below hb1 _, hbx, by have := h.st.blk.lt; omega, Nat.le_trans h.lo (Nat.le_of_lt h.blk.lt), Block.typ h.st.blk⟩
  have hfr := fun w' nx' rv' L' R' (hs : RmX B w' r q nx' most kp cols rv' lv top bot L.length (fl rlineC L) L' R') (hx : nx' + k ≤ 1000000) => rfresh_sc hs k (by omega) hx hc1 hc5 a
  obtain ⟨bx, hbxe⟩ : ∃ bx, bx = w.heap.size := ⟨_, rfl⟩
  rw [← hbxe] at hSt
  have hLl : (fl rlineC L).length = L.length * 2 := fl_length rlineC_length L
  obtain ⟨N, hN⟩ : ∃ N, N = L.length := ⟨_, rfl⟩
  obtain ⟨e, he⟩ : ∃ e, e = f + k := ⟨_, rfl⟩
  obtain ⟨b, hb⟩ : ∃ b, b = to + 1 := ⟨_, rfl⟩
  rw [← hb] at hkl ⊢
  rw [← hN] at hcap hlv h5 ht hLl hSt hfr
  have hw1 : IntKind.i64.wrap ((f : Int) + (k : Int)) = (e : Int) := by rw [show (f : Int) + (k : Int) = (e : Int) by omega]; exact IntWalk.i64_in _ (by omega)
  have hw2 : IntKind.i64.wrap ((to : Int) + 1) = (b : Int) := by rw [show (to : Int) + 1 = (b : Int) by omega]; exact IntWalk.i64_in _ (by omega)
  have hf1 : f ≤ b := by omega
  have hf1' : f ≤ e := by omega
  have he1 : e ≤ b := by omega
  have hb2 : b ≤ N := by omega
  have hfb : f + k ≤ b := by omega
  have hNL : Hid (N = L.length) := Lib.hid hN
  have i1 : (f : Int) ≤ (cap : Int) := by omega
  have i2 : (e : Int) ≤ (b : Int) := by omega
  have i3 : (b : Int) ≤ (cap : Int) := by omega
  have i4 : (b : Int) ≤ (N : Int) := by omega
  have i5 : f ≤ cap := by omega
  have i6 : b ≤ cap := by omega
  have hone := fun M => fl_one' rlineC_one (M : List En)
  have hvfs := fun nx k a => (freshS_len nx cols k a)
  obtain ⟨af, ab, ag⟩ := a
  simp only at hb1 hfr hSt ⊢
  subst hlv
  have hpc := fun wr nx' rv' L' R' v O lo hi ad (hs : UpSt B w wr bx ⟨af, ab, ag⟩ r q nx' most kp cols rv' (.slice (some ⟨g, 0, none⟩) N cap) top bot N (fl rlineC L) L' R' v O) (g1 : lo ≤ hi) (g2 : hi ≤ N) had => hs.piece (L := L) (lo := lo) (hi := hi) (ad := ad) rfl g1 (by omega) had
  replace hhe := Lib.hid hhe
  replace hfr := Lib.hid hfr
  replace hbxe := Lib.hid hbxe
  replace he := Lib.hid he
  replace hb := Lib.hid hb
  replace hone := Lib.hid hone
  have hSt0 := hSt
  obtain ⟨c0, c1, c2, c3, c4, c5⟩ := hSt.m.cells
  have hp1 := hpc _ _ _ _ _ _ _ 0 f _ hSt (Nat.zero_le f) (by omega) rfl
  replace hpc := Lib.hid hpc
  have hq1 : Hid (∀ ad, (some ⟨g, 0, none⟩ : Option Addr) = some ad → ∀ j u, (fl rlineC ((L.drop 0).take (f - 0)))[j]? = some u → (w.alloc (.cells #[.int .u32 af, .int .u32 ab, .int .u16 ag] 37)).cell? (ad.add j) = some u) := Lib.hid (fun ad e => hp1.2.2 ad (by rw [← e]; simp))
  replace hp1 := Lib.hid hp1
  replace hSt := Lib.hid hSt
  clear h hg hbg hcap hcm hLl hb1 hSt0 hbx tail hN
  have hBw := hSt.out.hB
  go_enter Tryz.func62, Tryz.ntmps62
  go_wp2_with (first
    | (go_at_call 85; (with_reducible refine (hhe.out _).mono ?_); rintro r' w6 ⟨rfl, rfl⟩)
    | (with_reducible show wpList _ _ _ (⟨some 25, .call _, _, _, _, _⟩ :: _) _ _; go_must (refine hSt.out.wpApp rfl (.tmp 18) (.tmp 24) rfl (some ⟨g, 0, none⟩) f cap 0 ((L.drop 0).take (f - 0)) rfl rfl rfl (by have := hp1.out.1; rw [fl_length rlineC_length] at this; omega) (by simp) hq1.out (by omega) ?_); rintro v1 w1 hSt1 ⟨ao1, cp1, rfl⟩ ⟨c0, c1, c2, c3, c4, c5⟩ ⟨b0, b1, b2⟩ -; rw [Nat.zero_add, List.nil_append] at hSt1; rw [Nat.zero_add]))
  clear hhe hp1 hq1 hSt
  have hn1 : Hid (((L.drop 0).take (f - 0)).length = f) := Lib.hid (by have := hNL.out; rw [List.length_take, List.length_drop]; omega)
  have hn2 : Hid (((L.drop e).take (b - e)).length = b - e) := Lib.hid (by have := hNL.out; rw [List.length_take, List.length_drop]; omega)
  have hn3 : Hid (((L.drop b).take (N - b)).length = N - b) := Lib.hid (by have := hNL.out; rw [List.length_take, List.length_drop]; omega)
  have hp2 := (hpc.out _ _ _ _ _ _ _ e b _ hSt1.out he1 hb2 rfl)
  replace hp2 := Lib.hid hp2
  rw [← hbxe.out]
  refine wp_loop_rounds 1 ?_
  rw [rounds_succ]
  by_cases hlt : (f : Int) < (e : Int)
  · go_wp2_with (first
      | (with_reducible show wpList _ _ _ (⟨some 69, .call _, _, _, _, _⟩ :: _) _ _; go_must (refine hSt1.out.wpApp rfl (.tmp 58) (.tmp 68) rfl (if cap = e then (some ⟨g, 0, none⟩ : Option Addr) else some ⟨g, e * 2, none⟩) (b - e) (cap - e) f ((L.drop e).take (b - e)) hn1.out rfl rfl hn2.out hp2.out.2.1 hp2.out.2.2 (by omega) ?_); rintro v2 w2 hSt2 ⟨ao2, cp2, rfl⟩ ⟨c0, c1, c2, c3, c4, c5⟩ ⟨b0, b1, b2⟩ -; generalize (if cap = e then (some ⟨g, 0, none⟩ : Option Addr) else some ⟨g, e * 2, none⟩) = ad2)
      | (go_at_call 24; (with_reducible refine (hfr.out _ _ _ _ _ hSt2.out.m (by omega)).mono ?_); rintro r' w3 ⟨v3, F, rfl, hown3, hvF, hM3, ho3⟩; have hSt3 := hSt2.out.turn hM3 ho3 (.inl rfl); obtain ⟨ao3, cp3, rfl, hz3, hnews3⟩ := owns_news hown3; obtain ⟨c0, c1, c2, c3, c4, c5⟩ := hSt3.m.cells; replace hSt3 := Lib.hid hSt3; replace hz3 := Lib.hid hz3; replace hnews3 := Lib.hid hnews3; replace hvF := Lib.hid hvF; clear hM3 ho3 hown3; have hFl : Hid (F.length = k) := Lib.hid (by rw [← vw_len, hvF.out, hvfs]))
      | (with_reducible show wpList _ _ _ (⟨some 75, .call _, _, _, _, _⟩ :: _) _ _; go_must (refine hSt3.out.wpApp rfl (.tmp 70) (.tmp 74) rfl ao3 k cp3 (f + (b - e)) F (by rw [List.length_append, hn1.out, hn2.out]) rfl rfl hFl.out hz3.out hnews3.out (by omega) ?_); rintro v4 w4 hSt4 ⟨ao4, cp4, rfl⟩ ⟨c0, c1, c2, c3, c4, c5⟩ ⟨b0, b1, b2⟩ -; have hp3 := Lib.hid (hpc.out _ _ _ _ _ _ _ b N _ hSt4.out hb2 (Nat.le_refl _) rfl))
      | (with_reducible show wpList _ _ _ (⟨some 85, .call _, _, _, _, _⟩ :: _) _ _; go_must (refine hSt4.out.wpApp rfl (.tmp 77) (.tmp 84) rfl (if cap = b then (some ⟨g, 0, none⟩ : Option Addr) else some ⟨g, b * 2, none⟩) (N - b) (cap - b) (f + (b - e) + k) ((L.drop b).take (N - b)) (by rw [List.length_append, List.length_append, hn1.out, hn2.out, hFl.out]) rfl rfl hn3.out hp3.out.2.1 hp3.out.2.2 (by omega) ?_); rintro v5 w5 hSt5 ⟨ao5, cp5, rfl⟩ ⟨c0, c1, c2, c3, c4, c5⟩ ⟨b0, b1, b2⟩ -; have f3 := hSt5.out.m.blk.free 3; generalize (if cap = b then (some ⟨g, 0, none⟩ : Option Addr) else some ⟨g, b * 2, none⟩) = ad3))
    go_end0
    have hx := he.out
    have hNl := hNL.out
    refine ⟨⟨_, rfl⟩, hSt5.out.done ⟨_, perm_up _ _ _, List.Sublist.append (List.Sublist.refl _) (sub_up L hf1' he1 _)⟩ (by rw [List.length_append, List.length_append, List.length_append, hn1.out, hn2.out, hn3.out, hFl.out]; omega) ?_ rfl⟩
    rw [vw_app, vw_app, vw_app, vw_take, vw_take, vw_take, vw_drop, vw_drop, vw_drop, hvF.out, hx, hNl, ← vw_len L]
    exact built (vw L) _ hfb (by rw [vw_len]; omega)
  · go_wp2_with (first
      | (with_reducible show wpList _ _ _ (⟨some 69, .call _, _, _, _, _⟩ :: _) _ _; go_must (refine hSt1.out.wpApp rfl (.tmp 58) (.tmp 68) rfl (if cap = e then (some ⟨g, 0, none⟩ : Option Addr) else some ⟨g, e * 2, none⟩) (b - e) (cap - e) f ((L.drop e).take (b - e)) hn1.out rfl rfl hn2.out hp2.out.2.1 hp2.out.2.2 (by omega) ?_); rintro v2 w2 hSt2 ⟨ao2, cp2, rfl⟩ ⟨c0, c1, c2, c3, c4, c5⟩ ⟨b0, b1, b2⟩ -; generalize (if cap = e then (some ⟨g, 0, none⟩ : Option Addr) else some ⟨g, e * 2, none⟩) = ad2)
      | (go_at_call 24; (with_reducible refine (hfr.out _ _ _ _ _ hSt2.out.m (by omega)).mono ?_); rintro r' w3 ⟨v3, F, rfl, hown3, hvF, hM3, ho3⟩; have hSt3 := hSt2.out.turn hM3 ho3 (.inl rfl); obtain ⟨ao3, cp3, rfl, hz3, hnews3⟩ := owns_news hown3; obtain ⟨c0, c1, c2, c3, c4, c5⟩ := hSt3.m.cells; replace hSt3 := Lib.hid hSt3; replace hz3 := Lib.hid hz3; replace hnews3 := Lib.hid hnews3; replace hvF := Lib.hid hvF; clear hM3 ho3 hown3; have hFl : Hid (F.length = k) := Lib.hid (by rw [← vw_len, hvF.out, hvfs]))
      | (with_reducible show wpList _ _ _ (⟨some 75, .call _, _, _, _, _⟩ :: _) _ _; go_must (refine hSt3.out.wpApp rfl (.tmp 70) (.tmp 74) rfl ao3 k cp3 (f + (b - e)) F (by rw [List.length_append, hn1.out, hn2.out]) rfl rfl hFl.out hz3.out hnews3.out (by omega) ?_); rintro v4 w4 hSt4 ⟨ao4, cp4, rfl⟩ ⟨c0, c1, c2, c3, c4, c5⟩ ⟨b0, b1, b2⟩ -; have hp3 := Lib.hid (hpc.out _ _ _ _ _ _ _ b N _ hSt4.out hb2 (Nat.le_refl _) rfl))
      | (with_reducible show wpList _ _ _ (⟨some 85, .call _, _, _, _, _⟩ :: _) _ _; go_must (refine hSt4.out.wpApp rfl (.tmp 77) (.tmp 84) rfl (if cap = b then (some ⟨g, 0, none⟩ : Option Addr) else some ⟨g, b * 2, none⟩) (N - b) (cap - b) (f + (b - e) + k) ((L.drop b).take (N - b)) (by rw [List.length_append, List.length_append, hn1.out, hn2.out, hFl.out]) rfl rfl hn3.out hp3.out.2.1 hp3.out.2.2 (by omega) ?_); rintro v5 w5 hSt5 ⟨ao5, cp5, rfl⟩ ⟨c0, c1, c2, c3, c4, c5⟩ ⟨b0, b1, b2⟩ -; have f3 := hSt5.out.m.blk.free 3; generalize (if cap = b then (some ⟨g, 0, none⟩ : Option Addr) else some ⟨g, b * 2, none⟩) = ad3))
    go_end0
    have hx := he.out
    have hNl := hNL.out
    refine ⟨⟨_, rfl⟩, hSt5.out.done ⟨_, perm_up _ _ _, List.Sublist.append (List.Sublist.refl _) (sub_up L hf1' he1 _)⟩ (by rw [List.length_append, List.length_append, List.length_append, hn1.out, hn2.out, hn3.out, hFl.out]; omega) ?_ rfl⟩
    rw [vw_app, vw_app, vw_app, vw_take, vw_take, vw_take, vw_drop, vw_drop, vw_drop, hvF.out, hx, hNl, ← vw_len L]
    exact built (vw L) _ hfb (by rw [vw_len]; omega)
end
end Go.Proofs.YtaoegfdaemmogaaGreat.Scn
namespace Go.Proofs.YtaoegfdaemmogaaGreat.Scn
open Go Go.RowKit Go.Proofs.YtaoegfdaemmogaaGreat.Com Go.Proofs.YtaoegfdaemmogaaGreat.Rw Go.Proofs.YtaoegfdaemmogaaGreat.Lns
theorem sub_dn {α : Type} (L : List α) {f c b : Nat} (h1 : f ≤ c) (h2 : c ≤ b) (m : Nat) : (((L.drop 0).take (f - 0) ++ (L.drop f).take (c - f)) ++ (L.drop b).take m).Sublist L := by
  rw [List.drop_zero, Nat.sub_zero, List.append_assoc]
  conv => rhs; rw [← List.take_append_drop f L]
  refine List.Sublist.append (List.Sublist.refl _) ?_
  conv => rhs; rw [← List.take_append_drop (c - f) (L.drop f)]
  refine List.Sublist.append (List.Sublist.refl _) ?_
  rw [List.drop_drop, show f + (c - f) = c by omega]
  refine List.Sublist.trans (List.take_sublist _ _) ?_
  rw [show b = c + (b - c) by omega, ← List.drop_drop]
  exact List.drop_sublist _ _
theorem perm_dn {α : Type} (X F Y Z : List α) : List.Perm (((X ++ F) ++ Y) ++ Z) (F ++ ((X ++ Y) ++ Z)) := by
  rw [List.append_assoc, List.append_assoc X Y Z]
  exact perm_up X F (Y ++ Z)
section
variable {B : Nat} {w w' : World} {r q nx most cols top bot : Nat} {kp : Bool} {rv lv : Value} {L R : List En}

set_option pp.deepTerms true in
set_option maxRecDepth 100000 in
set_option maxHeartbeats 8000000 in
theorem rdown_sc (h : RmX B w r q nx most kp cols rv lv top bot L.length (fl rlineC L) L R) (f to : Nat) (n : Int) (hf : f ≤ to + 1) (ht : to < L.length) (h5 : L.length ≤ 512) (hnx : nx + 512 ≤ 1000000) (hc1 : 1 ≤ cols) (hc5 : cols ≤ 512) (a : At) :
    Calls Tryz.prog 63 #[.pointer (some ⟨r, 0, none⟩), .int .i64 f, .int .i64 to, .int .i64 n, .agg #[.int .u32 a.f, .int .u32 a.b, .int .u16 a.g]] w fun e w' => (∃ v, e = .returned v) ∧ RDid B w r q (nx + heldF n (to + 1 - f)) most kp cols top bot (insA (outA (vw L) (to + 1 - heldF n (to + 1 - f)) (heldF n (to + 1 - f))) f (freshS nx cols (heldF n (to + 1 - f)) a)) (vw R) w' := by
  have hkl := held_leN n (to + 1 - f)
  have hhe := fun w => rheld_any n f to hf (by omega) w
  generalize heldF n (to + 1 - f) = k at hkl hhe ⊢
  have hb1 := below_new w (.cells #[.int .u32 a.f, .int .u32 a.b, .int .u16 a.g] 37)
  have hbx := Block.made w 37 #[.int .u32 a.f, .int .u32 a.b, .int .u16 a.g]
  obtain ⟨g, cap, tail, hlv, hg, hbg, hcap, hcm⟩ := own_block h.own (by omega)
  have hSt : UpSt B w (w.alloc (.cells #[.int .u32 a.f, .int .u32 a.b, .int .u16 a.g] 37)) w.heap.size a r q nx most kp cols rv lv top bot L.length (fl rlineC L) L R (.slice none 0 0) [] :=
    ⟨h.below hb1, World.ownsRow_nil _ _ _ _, by simp [Value.ownBlock], fun g hg => (h.ltyp g hg).2.1, Only.of_below hb1 _, hbx, by have := h.st.blk.lt; omega, Nat.le_trans h.lo (Nat.le_of_lt h.blk.lt), Block.typ h.st.blk⟩
  have hfr := fun w' nx' rv' L' R' (hs : RmX B w' r q nx' most kp cols rv' lv top bot L.length (fl rlineC L) L' R') (hx : nx' + k ≤ 1000000) => rfresh_sc hs k (by omega) hx hc1 hc5 a
  obtain ⟨bx, hbxe⟩ : ∃ bx, bx = w.heap.size := ⟨_, rfl⟩
  rw [← hbxe] at hSt
  have hLl : (fl rlineC L).length = L.length * 2 := fl_length rlineC_length L
  obtain ⟨N, hN⟩ : ∃ N, N = L.length := ⟨_, rfl⟩
  obtain ⟨b, hb⟩ : ∃ b, b = to + 1 := ⟨_, rfl⟩
  obtain ⟨c, hc⟩ : ∃ c, c = b - k := ⟨_, rfl⟩
  rw [← hb] at hkl ⊢
  rw [← hN] at hcap hlv h5 ht hLl hSt hfr
  have hw1 : IntKind.i64.wrap ((b : Int) - (k : Int)) = (c : Int) := by rw [show (b : Int) - (k : Int) = (c : Int) by omega]; exact IntWalk.i64_in _ (by omega)
  have hw2 : IntKind.i64.wrap ((to : Int) + 1) = (b : Int) := by rw [show (to : Int) + 1 = (b : Int) by omega]; exact IntWalk.i64_in _ (by omega)
  have hf1 : f ≤ b := by omega
  have hf2 : f ≤ c := by omega
  have hc2 : c ≤ b := by omega
  have hcN : c ≤ N := by omega
  have hb2 : b ≤ N := by omega
  have hfb : f + k ≤ b := by omega
  have hNL : Hid (N = L.length) := Lib.hid hN
  have i1 : (f : Int) ≤ (cap : Int) := by omega
  have i2 : (f : Int) ≤ (c : Int) := by omega
  have i3 : (b : Int) ≤ (cap : Int) := by omega
  have i4 : (b : Int) ≤ (N : Int) := by omega
  have i7 : (c : Int) ≤ (cap : Int) := by omega
  have i5 : f ≤ cap := by omega
  have i6 : b ≤ cap := by omega
  have hone := fun M => fl_one' rlineC_one (M : List En)
  have hvfs := fun nx k a => (freshS_len nx cols k a)
  obtain ⟨af, ab, ag⟩ := a
  simp only at hb1 hfr hSt ⊢
  subst hlv
  have hpc := fun wr nx' rv' L' R' v O lo hi ad (hs : UpSt B w wr bx ⟨af, ab, ag⟩ r q nx' most kp cols rv' (.slice (some ⟨g, 0, none⟩) N cap) top bot N (fl rlineC L) L' R' v O) (g1 : lo ≤ hi) (g2 : hi ≤ N) had => hs.piece (L := L) (lo := lo) (hi := hi) (ad := ad) rfl g1 (by omega) had
  replace hhe := Lib.hid hhe
  replace hfr := Lib.hid hfr
  replace hbxe := Lib.hid hbxe
  replace hc := Lib.hid hc
  replace hb := Lib.hid hb
  replace hone := Lib.hid hone
  have hSt0 := hSt
  obtain ⟨c0, c1, c2, c3, c4, c5⟩ := hSt.m.cells
  have hp1 := hpc _ _ _ _ _ _ _ 0 f _ hSt (Nat.zero_le f) (by omega) rfl
  replace hpc := Lib.hid hpc
  have hq1 : Hid (∀ ad, (some ⟨g, 0, none⟩ : Option Addr) = some ad → ∀ j u, (fl rlineC ((L.drop 0).take (f - 0)))[j]? = some u → (w.alloc (.cells #[.int .u32 af, .int .u32 ab, .int .u16 ag] 37)).cell? (ad.add j) = some u) := Lib.hid (fun ad e => hp1.2.2 ad (by rw [← e]; simp))
  replace hp1 := Lib.hid hp1
  replace hSt := Lib.hid hSt
  clear h hg hbg hcap hcm hLl hb1 hSt0 hbx tail hN
  have hBw := hSt.out.hB
  have hn1 : Hid (((L.drop 0).take (f - 0)).length = f) := Lib.hid (by have := hNL.out; rw [List.length_take, List.length_drop]; omega)
  have hn2 : Hid (((L.drop f).take (c - f)).length = c - f) := Lib.hid (by have := hNL.out; rw [List.length_take, List.length_drop]; omega)
  have hn3 : Hid (((L.drop b).take (N - b)).length = N - b) := Lib.hid (by have := hNL.out; rw [List.length_take, List.length_drop]; omega)
  go_enter Tryz.func63, Tryz.ntmps63
  go_wp2_with (first
    | (go_at_call 85; (with_reducible refine (hhe.out _).mono ?_); rintro r' w6 ⟨rfl, rfl⟩)
    | (with_reducible show wpList _ _ _ (⟨some 22, .call _, _, _, _, _⟩ :: _) _ _; go_must (refine hSt.out.wpApp rfl (.tmp 15) (.tmp 21) rfl (some ⟨g, 0, none⟩) f cap 0 ((L.drop 0).take (f - 0)) rfl rfl rfl (by have := hp1.out.1; rw [fl_length rlineC_length] at this; omega) (by simp) hq1.out (by omega) ?_); rintro v1 w1 hSt1 ⟨ao1, cp1, rfl⟩ ⟨c0, c1, c2, c3, c4, c5⟩ ⟨b0, b1, b2⟩ -; rw [Nat.zero_add, List.nil_append] at hSt1; rw [Nat.zero_add]; rw [← hbxe.out])
    | (go_at_call 24; (with_reducible refine (hfr.out _ _ _ _ _ hSt1.out.m (by omega)).mono ?_); rintro r' w3 ⟨v3, F, rfl, hown3, hvF, hM3, ho3⟩; have hSt3 := hSt1.out.turn hM3 ho3 (.inl rfl); obtain ⟨ao3, cp3, rfl, hz3, hnews3⟩ := owns_news hown3; obtain ⟨c0, c1, c2, c3, c4, c5⟩ := hSt3.m.cells; replace hSt3 := Lib.hid hSt3; replace hz3 := Lib.hid hz3; replace hnews3 := Lib.hid hnews3; replace hvF := Lib.hid hvF; clear hM3 ho3 hown3; have hFl : Hid (F.length = k) := Lib.hid (by rw [← vw_len, hvF.out, hvfs]))
    | (with_reducible show wpList _ _ _ (⟨some 28, .call _, _, _, _, _⟩ :: _) _ _; go_must (refine hSt3.out.wpApp rfl (.tmp 23) (.tmp 27) rfl ao3 k cp3 f F hn1.out rfl rfl hFl.out hz3.out hnews3.out (by omega) ?_); rintro v4 w4 hSt4 ⟨ao4, cp4, rfl⟩ ⟨c0, c1, c2, c3, c4, c5⟩ ⟨b0, b1, b2⟩ -; have hp2 := Lib.hid (hpc.out _ _ _ _ _ _ _ f c _ hSt4.out hf2 hcN rfl))
    | (with_reducible show wpList _ _ _ (⟨some 40, .call _, _, _, _, _⟩ :: _) _ _; go_must (refine hSt4.out.wpApp rfl (.tmp 29) (.tmp 39) rfl (if cap = f then (some ⟨g, 0, none⟩ : Option Addr) else some ⟨g, f * 2, none⟩) (c - f) (cap - f) (f + k) ((L.drop f).take (c - f)) (by rw [List.length_append, hn1.out, hFl.out]) rfl rfl hn2.out hp2.out.2.1 hp2.out.2.2 (by omega) ?_); rintro v2 w2 hSt2 ⟨ao2, cp2, rfl⟩ ⟨c0, c1, c2, c3, c4, c5⟩ ⟨b0, b1, b2⟩ -; generalize (if cap = f then (some ⟨g, 0, none⟩ : Option Addr) else some ⟨g, f * 2, none⟩) = ad2; have hp3 := Lib.hid (hpc.out _ _ _ _ _ _ _ b N _ hSt2.out hb2 (Nat.le_refl _) rfl))
    | (with_reducible show wpList _ _ _ (⟨some 50, .call _, _, _, _, _⟩ :: _) _ _; go_must (refine hSt2.out.wpApp rfl (.tmp 42) (.tmp 49) rfl (if cap = b then (some ⟨g, 0, none⟩ : Option Addr) else some ⟨g, b * 2, none⟩) (N - b) (cap - b) (f + k + (c - f)) ((L.drop b).take (N - b)) (by rw [List.length_append, List.length_append, hn1.out, hn2.out, hFl.out]) rfl rfl hn3.out hp3.out.2.1 hp3.out.2.2 (by omega) ?_); rintro v5 w5 hSt5 ⟨ao5, cp5, rfl⟩ ⟨c0, c1, c2, c3, c4, c5⟩ ⟨b0, b1, b2⟩ -; have f3 := hSt5.out.m.blk.free 3; generalize (if cap = b then (some ⟨g, 0, none⟩ : Option Addr) else some ⟨g, b * 2, none⟩) = ad3))
  go_end0
  have hx := hc.out
  have hNl := hNL.out
  refine ⟨⟨_, rfl⟩, hSt5.out.done ⟨_, perm_dn _ _ _ _, List.Sublist.append (List.Sublist.refl _) (sub_dn L hf2 hc2 _)⟩ (by rw [List.length_append, List.length_append, List.length_append, hn1.out, hn2.out, hn3.out, hFl.out]; omega) ?_ rfl⟩
  rw [vw_app, vw_app, vw_app, vw_take, vw_take, vw_take, vw_drop, vw_drop, vw_drop, hvF.out, hx, hNl, ← vw_len L]
  exact built2 (vw L) _ hfb (by rw [vw_len]; omega)
end
end Go.Proofs.YtaoegfdaemmogaaGreat.Scn
