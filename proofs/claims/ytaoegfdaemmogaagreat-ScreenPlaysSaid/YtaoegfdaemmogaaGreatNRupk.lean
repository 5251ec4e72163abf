/-
  screen: the reference's up, when lines are kept.
-/
import Derived.Test.YtaoegfdaemmogaaGreatNRdn
namespace Go.Proofs.YtaoegfdaemmogaaGreat.Scn
open Go Go.RowKit Go.Proofs.YtaoegfdaemmogaaGreat.Com Go.Proofs.YtaoegfdaemmogaaGreat.Rw Go.Proofs.YtaoegfdaemmogaaGreat.Lns
theorem UpSt.push {B : Nat} {w wr w1 : World} {bx : Nat} {a : At} {r q nx most cols top bot n : Nat} {kp : Bool} {rv lv v : Value} {xs : List Value} {L R O : List En} (h : UpSt B w wr bx a r q nx most kp cols rv lv top bot n xs L R v O) {id : Int} {l : List Cel} {e : Ending} (hp : RPushDone B wr q nx most R id l e w1) :
    ∃ rv2 R2, UpSt B w w1 bx a r q nx most kp cols rv2 lv top bot n xs L R2 v O ∧ vw R2 = pushL most (vw R) (id, l) := by
  obtain ⟨rv2, dr, _, h1, hd, ho, ha⟩ := hp
  refine ⟨rv2, pushL most R (En.mk id 0 0 dr l), h.turn (h.m.stored h1 ho (.inr ha) (fun e he => .inl he) ?_) ho (.inr ha), by unfold vw; exact pushL_map _ _ _ _⟩
  have h2 : ((L ++ (R ++ [En.mk id 0 0 dr l])).map En.dr).Nodup := nodup_new' En.dr h.m.dd h.m.lts hd (by rw [← List.append_assoc]; exact List.perm_append_singleton _ _)
  refine h2.sublist ((List.Sublist.append (List.Sublist.refl L) ?_).map En.dr)
  unfold pushL
  split
  · exact List.drop_sublist _ _
  · exact List.Sublist.refl _
section
variable {B : Nat} {w w' : World} {r q nx most cols top bot : Nat} {kp : Bool} {rv lv : Value} {L R : List En}

set_option pp.deepTerms true in
set_option maxRecDepth 100000 in
set_option maxHeartbeats 8000000 in
theorem rup_keep (h : RmX B w r q nx most kp cols rv lv top bot L.length (fl rlineC L) L R) (f to : Nat) (n : Int) (hf : f ≤ to + 1) (ht : to < L.length) (h5 : L.length ≤ 512) (hnx : nx + 512 ≤ 1000000) (hc1 : 1 ≤ cols) (hc5 : cols ≤ 512) (a : At) (hid : ∀ e ∈ L, 1 ≤ e.id ∧ e.id < nx) (hRm : R.length ≤ most) (hmo : most ≤ 10000) :
    Calls Tryz.prog 62 #[.pointer (some ⟨r, 0, none⟩), .int .i64 f, .int .i64 to, .int .i64 n, .agg #[.int .u32 a.f, .int .u32 a.b, .int .u16 a.g], .bool true] w fun e w' => (∃ v, e = .returned v) ∧ RDid B w r q (nx + heldF n (to + 1 - f)) most kp cols top bot (insA (outA (vw L) f (heldF n (to + 1 - f))) (to + 1 - heldF n (to + 1 - f)) (freshS nx cols (heldF n (to + 1 - f)) a)) (pushes most (vw R) (((vw L).drop f).take (heldF n (to + 1 - f)))) w' := by
  have hkl := held_leN n (to + 1 - f)
  have hhe := fun w => rheld_any n f to hf (by omega) w
  generalize heldF n (to + 1 - f) = k at hkl hhe ⊢
  have hb1 := below_new w (.cells #[.int .u32 a.f, .int .u32 a.b, .int .u16 a.g] 37)
  have hbx := Block.made w 37 #[.int .u32 a.f, .int .u32 a.b, .int .u16 a.g]
  obtain ⟨g, cap, tail, hlv, hg, hbg, hcap, hcm⟩ := own_block h.own (by omega)
  have hSt : UpSt B w (w.alloc (.cells #[.int .u32 a.f, .int .u32 a.b, .int .u16 a.g] 37)) w.heap.size a r q nx most kp cols rv lv top bot L.length (fl rlineC L) L R (.slice none 0 0) [] :=
    ⟨h.below hb1, World.ownsRow_nil _ _ _ _, by simp [Value.ownBlock], fun g hg => (h.ltyp g hg).2.1, Only.of_below hb1 _, hbx, by have := h.st.blk.lt; omega, Nat.le_trans h.lo (Nat.le_of_lt h.blk.lt), Block.typ h.st.blk⟩
  have hfr := fun w' nx' rv' L' R' (hs : RmX B w' r q nx' most kp cols rv' lv top bot L.length (fl rlineC L) L' R') (hx : nx' + k ≤ 1000000) => rfresh_sc hs k (by omega) hx hc1 hc5 a
  obtain ⟨bx, hbxe⟩ : ∃ bx, bx = w.heap.size := ⟨_, rfl⟩
  rw [← hbxe] at hSt
  have hLl : (fl rlineC L).length = L.length * 2 := fl_length rlineC_length L
  obtain ⟨N, hN⟩ : ∃ N, N = L.length := ⟨_, rfl⟩
  obtain ⟨e, he⟩ : ∃ e, e = f + k := ⟨_, rfl⟩
  obtain ⟨b, hb⟩ : ∃ b, b = to + 1 := ⟨_, rfl⟩
  rw [← hb] at hkl ⊢
  rw [← hN] at hcap hlv h5 ht hLl hSt hfr
  have hw1 : IntKind.i64.wrap ((f : Int) + (k : Int)) = (e : Int) := by rw [show (f : Int) + (k : Int) = (e : Int) by omega]; exact IntWalk.i64_in _ (by omega)
  have hw2 : IntKind.i64.wrap ((to : Int) + 1) = (b : Int) := by rw [show (to : Int) + 1 = (b : Int) by omega]; exact IntWalk.i64_in _ (by omega)
  have hf1 : f ≤ b := by omega
  have hf1' : f ≤ e := by omega
  have he1 : e ≤ b := by omega
  have hb2 : b ≤ N := by omega
  have hfb : f + k ≤ b := by omega
  have hNL : Hid (N = L.length) := Lib.hid hN
  have i1 : (f : Int) ≤ (cap : Int) := by omega
  have i2 : (e : Int) ≤ (b : Int) := by omega
  have i3 : (b : Int) ≤ (cap : Int) := by omega
  have i4 : (b : Int) ≤ (N : Int) := by omega
  have i5 : f ≤ cap := by omega
  have i6 : b ≤ cap := by omega
  have hone := fun M => fl_one' rlineC_one (M : List En)
  have hvfs := fun nx k a => (freshS_len nx cols k a)
  obtain ⟨af, ab, ag⟩ := a
  simp only at hb1 hfr hSt ⊢
  subst hlv
  have hpc := fun wr nx' rv' L' R' v O lo hi ad (hs : UpSt B w wr bx ⟨af, ab, ag⟩ r q nx' most kp cols rv' (.slice (some ⟨g, 0, none⟩) N cap) top bot N (fl rlineC L) L' R' v O) (g1 : lo ≤ hi) (g2 : hi ≤ N) had => hs.piece (L := L) (lo := lo) (hi := hi) (ad := ad) rfl g1 (by omega) had
  replace hid := Lib.hid hid
  replace hhe := Lib.hid hhe
  replace hfr := Lib.hid hfr
  replace hbxe := Lib.hid hbxe
  replace he := Lib.hid he
  replace hb := Lib.hid hb
  replace hone := Lib.hid hone
  have hSt0 := hSt
  obtain ⟨c0, c1, c2, c3, c4, c5⟩ := hSt.m.cells
  have hp1 := hpc _ _ _ _ _ _ _ 0 f _ hSt (Nat.zero_le f) (by omega) rfl
  replace hpc := Lib.hid hpc
  have hq1 : Hid (∀ ad, (some ⟨g, 0, none⟩ : Option Addr) = some ad → ∀ j u, (fl rlineC ((L.drop 0).take (f - 0)))[j]? = some u → (w.alloc (.cells #[.int .u32 af, .int .u32 ab, .int .u16 ag] 37)).cell? (ad.add j) = some u) := Lib.hid (fun ad e => hp1.2.2 ad (by rw [← e]; simp))
  replace hp1 := Lib.hid hp1
  replace hSt := Lib.hid hSt
  clear h hg hbg hcap hcm hLl hb1 hSt0 hbx tail hN
  have hBw := hSt.out.hB
  go_enter Tryz.func62, Tryz.ntmps62
  go_wp2_with (first
    | (go_at_call 85; (with_reducible refine (hhe.out _).mono ?_); rintro r' w6 ⟨rfl, rfl⟩)
    | (with_reducible show wpList _ _ _ (⟨some 25, .call _, _, _, _, _⟩ :: _) _ _; go_must (refine hSt.out.wpApp rfl (.tmp 18) (.tmp 24) rfl (some ⟨g, 0, none⟩) f cap 0 ((L.drop 0).take (f - 0)) rfl rfl rfl (by have := hp1.out.1; rw [fl_length rlineC_length] at this; omega) (by simp) hq1.out (by omega) ?_); rintro v1 w1 hSt1 ⟨ao1, cp1, rfl⟩ ⟨c0, c1, c2, c3, c4, c5⟩ ⟨b0, b1, b2⟩ -; rw [Nat.zero_add, List.nil_append] at hSt1; rw [Nat.zero_add]))
  clear hhe hp1 hq1 hSt
  have hn1 : Hid (((L.drop 0).take (f - 0)).length = f) := Lib.hid (by have := hNL.out; rw [List.length_take, List.length_drop]; omega)
  have hn2 : Hid (((L.drop e).take (b - e)).length = b - e) := Lib.hid (by have := hNL.out; rw [List.length_take, List.length_drop]; omega)
  have hn3 : Hid (((L.drop b).take (N - b)).length = N - b) := Lib.hid (by have := hNL.out; rw [List.length_take, List.length_drop]; omega)
  rw [← hbxe.out]
  go_loopw [13] (fun iv wr => ∃ i : Nat, f ≤ i ∧ i ≤ e ∧ iv = .int .i64 i ∧ Hid (∃ rv' R', UpSt B w wr bx ⟨af, ab, ag⟩ r q nx most kp cols rv' (.slice (some ⟨g, 0, none⟩) N cap) top bot N (fl rlineC L) L R' (.slice ao1 f cp1) ((L.drop 0).take (f - 0)) ∧ vw R' = pushes most (vw R) (((vw L).drop f).take (i - f)) ∧ R'.length ≤ most)) (fun iv _ => e - (intOf iv).toNat)
  case atStart => exact ⟨f, Nat.le_refl _, hf1', rfl, Lib.hid ⟨rv, R, hSt1.out, by simp [pushes], hRm⟩⟩
  case round =>
    obtain ⟨i, hi1, hi2, rfl, hR⟩ := hrel
    clear hSt1 c0 c1 c2 c3 c4 c5 b0 b1 b2
    obtain ⟨rv', R', hSt1, hvR, hRl⟩ := hR.out
    clear hR
    by_cases hlt : i < e
    · have hiI : (i : Int) < (e : Int) := by omega
      have hiN : (i : Int) < (N : Int) := by omega
      have hiL : i < L.length := by have := hNL.out; omega
      have hS0 : ∀ w' rv' R', UpSt B w w' bx ⟨af, ab, ag⟩ r q nx most kp cols rv' (.slice (some ⟨g, 0, none⟩) N cap) top bot N (fl rlineC L) L R' (.slice ao1 f cp1) ((L.drop 0).take (f - 0)) → w'.cell? ⟨r, 0, none⟩ = some (.pointer (some ⟨q, 0, none⟩)) ∧ w'.cell? ⟨r, 3, none⟩ = some (.slice (some ⟨g, 0, none⟩) N cap) ∧ w'.cell? ⟨g, i * 2, none⟩ = some (.int .i64 L[i].id) ∧ w'.cell? ⟨g, i * 2 + 1, none⟩ = some (.pointer (some ⟨L[i].dr, 0, none⟩)) := fun w' rv' R' hs => by
        obtain ⟨c0, _, _, c3, _, _⟩ := hs.m.cells
        have hcl := World.ownsRow.cells hs.m.own (g := g) rfl
        have k0 := hcl (i * 2 + 0) _ (by rw [fl_at rlineC_length hiL (by omega)]; rfl)
        have k1 := hcl (i * 2 + 1) _ (by rw [fl_at rlineC_length hiL (by omega)]; rfl)
        rw [Addr.add_lit, Nat.zero_add] at k0 k1
        exact ⟨c0, c3, k0, k1⟩
      have hrin := hSt1.m.refs L[i] (List.getElem_mem hiL)
      have hid0 := hid.out _ (List.getElem_mem hiL)
      have hstep : ((vw L).drop f).take (i + 1 - f) = ((vw L).drop f).take (i - f) ++ [(L[i].id, L[i].l)] := by
        rw [show i + 1 - f = (i - f) + 1 by omega, List.take_add_one, List.getElem?_drop, show f + (i - f) = i by omega]
        congr 1
        simp [vw, hiL]
      generalize L[i] = e0 at hS0 hrin hid0 hstep
      have hdr : Below wr.heap.size wr wr.drew := below_dr (Below.refl _ _) 1
      have hMd := hSt1.below hdr
      have hpu := Lib.hid (rpush_yes hMd.m.st (by omega) e0.id hid0 (RefIn.below hrin.1 hdr) hrin.2)
      obtain ⟨a0, a1, a2, a3⟩ := hS0 _ _ _ hSt1
      have cd := hS0 _ _ _ hMd
      have hfin : Hid (∀ x w6, RPushDone B wr.drew q nx most R' e0.id e0.l x w6 → (∃ rv2 R2, UpSt B w w6 bx ⟨af, ab, ag⟩ r q nx most kp cols rv2 (.slice (some ⟨g, 0, none⟩) N cap) top bot N (fl rlineC L) L R2 (.slice ao1 f cp1) ((L.drop 0).take (f - 0)) ∧ vw R2 = pushes most (vw R) (((vw L).drop f).take (i + 1 - f)) ∧ R2.length ≤ most) ∧ w6.cell? ⟨r, 0, none⟩ = some (.pointer (some ⟨q, 0, none⟩)) ∧ w6.cell? ⟨r, 3, none⟩ = some (.slice (some ⟨g, 0, none⟩) N cap) ∧ w6.cell? ⟨g, i * 2, none⟩ = some (.int .i64 e0.id) ∧ w6.cell? ⟨g, i * 2 + 1, none⟩ = some (.pointer (some ⟨e0.dr, 0, none⟩))) := Lib.hid (fun x w6 hp => by
        obtain ⟨rv2, R2, h1, h2⟩ := hMd.push hp
        refine ⟨⟨rv2, R2, h1, ?_, ?_⟩, hS0 _ _ _ h1⟩
        · rw [h2, hvR, hstep, pushes_snoc]
        · rw [← vw_len, h2]
          exact pushL_le (by rw [vw_len]; exact hRl) _)
      clear hS0 hrin hstep hMd hSt1 hvR hid0 hdr
      go_wp2
      go_region_held3 (fun w' => w'.cell? ⟨r, 0, none⟩ = some (.pointer (some ⟨q, 0, none⟩)) ∧ w'.cell? ⟨r, 3, none⟩ = some (.slice (some ⟨g, 0, none⟩) N cap) ∧ w'.cell? ⟨g, i * 2, none⟩ = some (.int .i64 e0.id) ∧ w'.cell? ⟨g, i * 2 + 1, none⟩ = some (.pointer (some ⟨e0.dr, 0, none⟩)))
        (first | exact ⟨a0, a1, a2, a3⟩ | exact cd | exact hz)
        (first
          | (go_at_call 64; (with_reducible refine hpu.out.mono ?_); rintro r' w6 hpd; have hpq := hfin.out _ _ hpd; obtain ⟨_, _, hre, _⟩ := hpd; subst hre; have hz := hpq.2; have hres := Lib.hid hpq.1; clear hpq))
      go_wp2
      go_roundw
      case rel => exact ⟨i + 1, by omega, by omega, by go_num, hres⟩
      case measure => simp [intOf]; omega
    · obtain rfl : e = i := by omega
      obtain ⟨c0, c1, c2, c3, c4, c5⟩ := hSt1.m.cells
      have b0 := hSt1.box.cell 0 rfl
      have b1 := hSt1.box.cell 1 rfl
      have b2 := hSt1.box.cell 2 rfl
      replace hSt1 := Lib.hid hSt1
      replace hvR := Lib.hid hvR
      have hp2 := Lib.hid (hpc.out _ _ _ _ _ _ _ e b _ hSt1.out he1 hb2 rfl)
      go_wp2_with (first
        | (with_reducible show wpList _ _ _ (⟨some 69, .call _, _, _, _, _⟩ :: _) _ _; go_must (refine hSt1.out.wpApp rfl (.tmp 58) (.tmp 68) rfl (if cap = e then (some ⟨g, 0, none⟩ : Option Addr) else some ⟨g, e * 2, none⟩) (b - e) (cap - e) f ((L.drop e).take (b - e)) hn1.out rfl rfl hn2.out hp2.out.2.1 hp2.out.2.2 (by omega) ?_); rintro v2 w2 hSt2 ⟨ao2, cp2, rfl⟩ ⟨c0, c1, c2, c3, c4, c5⟩ ⟨b0, b1, b2⟩ -; generalize (if cap = e then (some ⟨g, 0, none⟩ : Option Addr) else some ⟨g, e * 2, none⟩) = ad2)
        | (go_at_call 24; (with_reducible refine (hfr.out _ _ _ _ _ hSt2.out.m (by omega)).mono ?_); rintro r' w3 ⟨v3, F, rfl, hown3, hvF, hM3, ho3⟩; have hSt3 := hSt2.out.turn hM3 ho3 (.inl rfl); obtain ⟨ao3, cp3, rfl, hz3, hnews3⟩ := owns_news hown3; obtain ⟨c0, c1, c2, c3, c4, c5⟩ := hSt3.m.cells; replace hSt3 := Lib.hid hSt3; replace hz3 := Lib.hid hz3; replace hnews3 := Lib.hid hnews3; replace hvF := Lib.hid hvF; clear hM3 ho3 hown3; have hFl : Hid (F.length = k) := Lib.hid (by rw [← vw_len, hvF.out, hvfs]))
        | (with_reducible show wpList _ _ _ (⟨some 75, .call _, _, _, _, _⟩ :: _) _ _; go_must (refine hSt3.out.wpApp rfl (.tmp 70) (.tmp 74) rfl ao3 k cp3 (f + (b - e)) F (by rw [List.length_append, hn1.out, hn2.out]) rfl rfl hFl.out hz3.out hnews3.out (by omega) ?_); rintro v4 w4 hSt4 ⟨ao4, cp4, rfl⟩ ⟨c0, c1, c2, c3, c4, c5⟩ ⟨b0, b1, b2⟩ -; have hp3 := Lib.hid (hpc.out _ _ _ _ _ _ _ b N _ hSt4.out hb2 (Nat.le_refl _) rfl))
        | (with_reducible show wpList _ _ _ (⟨some 85, .call _, _, _, _, _⟩ :: _) _ _; go_must (refine hSt4.out.wpApp rfl (.tmp 77) (.tmp 84) rfl (if cap = b then (some ⟨g, 0, none⟩ : Option Addr) else some ⟨g, b * 2, none⟩) (N - b) (cap - b) (f + (b - e) + k) ((L.drop b).take (N - b)) (by rw [List.length_append, List.length_append, hn1.out, hn2.out, hFl.out]) rfl rfl hn3.out hp3.out.2.1 hp3.out.2.2 (by omega) ?_); rintro v5 w5 hSt5 ⟨ao5, cp5, rfl⟩ ⟨c0, c1, c2, c3, c4, c5⟩ ⟨b0, b1, b2⟩ -; have f3 := hSt5.out.m.blk.free 3; generalize (if cap = b then (some ⟨g, 0, none⟩ : Option Addr) else some ⟨g, b * 2, none⟩) = ad3))
      go_end0
      have hx := he.out
      have hNl := hNL.out
      refine ⟨⟨_, rfl⟩, hSt5.out.done ⟨_, perm_up _ _ _, List.Sublist.append (List.Sublist.refl _) (sub_up L hf1' he1 _)⟩ (by rw [List.length_append, List.length_append, List.length_append, hn1.out, hn2.out, hn3.out, hFl.out]; omega) ?_ (by rw [hvR.out, hx, Nat.add_sub_cancel_left])⟩
      rw [vw_app, vw_app, vw_app, vw_take, vw_take, vw_take, vw_drop, vw_drop, vw_drop, hvF.out, hx, hNl, ← vw_len L]
      exact built (vw L) _ hfb (by rw [vw_len]; omega)
end
end Go.Proofs.YtaoegfdaemmogaaGreat.Scn
