/-
  screen: the law's do, the kinds 6 and 7, where both sides show the same.
-/
import Derived.Test.YtaoegfdaemmogaaGreatNDo
import Derived.Test.YtaoegfdaemmogaaGreatNRz
import Derived.Test.YtaoegfdaemmogaaGreatNSam
namespace Go.Proofs.YtaoegfdaemmogaaGreat.Scn
open Go Go.RowKit Go.Proofs.YtaoegfdaemmogaaGreat.Com Go.Proofs.YtaoegfdaemmogaaGreat.Rw Go.Proofs.YtaoegfdaemmogaaGreat.Lns
section
variable {B : Nat} {w w' : World} {x s r q : Nat} {S : Scr}
/-- A rune is put into one of the screen's rows. -/
theorem put_at {i d : Nat} (h : RowAt B w x s S i d) (col y : Int) (hc : -9223372036854775808 ≤ col ∧ col ≤ 9223372036854775807) (wide : Bool) (a : At) (hi : i < S.L.length) :
    Calls Tryz.prog 33 #[.pointer (some ⟨d, 0, none⟩), .int .i64 col, .int .i32 y, .bool wide, .agg #[.int .u32 a.f, .int .u32 a.b, .int .u16 a.g]] w fun z w' => z = .returned (.int .i64 (putV S.L[i].2 col y wide a)) ∧ SC B w' x s (putAt S i (putL S.L[i].2 col y wide a)) ∧ Fr B PT w w' := by
  obtain ⟨sv, lv, L, R, g1, g2, g3, e, he, rfl⟩ := h
  have hl : L.length = S.L.length := by rw [← g2, vw_len]
  have hiL : i < L.length := by omega
  obtain rfl : e = L[i] := by rw [List.getElem?_eq_getElem hiL] at he; exact (Option.some.inj he).symm
  have hsp := split_at L hiL
  have hat : S.L[i] = (L[i].id, L[i].l) := by simp only [← g2, vw, List.getElem_map]
  have g1' : MidX B w x s S.nx S.most S.kp S.cols sv lv S.top S.bot L.length (fl lineC L) (L.take i ++ L[i] :: L.drop (i + 1)) R := by rw [← hsp]; exact g1
  rw [hat]
  refine (put_row g1' col y hc wide a).mono ?_
  rintro z w' ⟨rfl, hx, hf⟩
  refine ⟨rfl, ⟨sv, lv, L.take i ++ (⟨L[i].id, L[i].d, L[i].g, L[i].dr, putL L[i].l col y wide a⟩ : En) :: L.drop (i + 1), R, ?_, ?_, g3⟩, hf⟩
  · have e1 : (L.take i ++ (⟨L[i].id, L[i].d, L[i].g, L[i].dr, putL L[i].l col y wide a⟩ : En) :: L.drop (i + 1)).length = L.length := by
      rw [List.length_append, List.length_cons, List.length_take, List.length_drop]
      omega
    have e2 : fl lineC (L.take i ++ (⟨L[i].id, L[i].d, L[i].g, L[i].dr, putL L[i].l col y wide a⟩ : En) :: L.drop (i + 1)) = fl lineC L := by
      conv => rhs; rw [hsp]
      exact fl_same rfl rfl
    show MidX B w' x s S.nx S.most S.kp S.cols sv lv S.top S.bot _ _ _ R
    rw [e1, e2]
    exact hx
  · rw [vw_set hiL, g2]
    show S.L.set i (L[i].id, putL L[i].l col y wide a) = S.L.modify i fun p => (p.1, putL L[i].l col y wide a)
    refine List.ext_getElem (by simp) fun j h1 h2 => ?_
    rw [List.getElem_set, List.getElem_modify]
    split
    · rename_i h
      subst h
      rw [hat]
    · rfl
theorem putAt_fit (hF : Fit S) (i : Nat) {l : List Cel} (hl : l.length = S.cols) : Fit (putAt S i l) := by
  have hlen : (putAt S i l).L.length = S.L.length := by show (S.L.modify i _).length = _; simp
  have hm : ∀ p ∈ (putAt S i l).L, p ∈ S.L ∨ (p.2.length = S.cols ∧ 1 ≤ p.1 ∧ p.1 < (S.nx : Int)) := fun p hp => by
    obtain ⟨j, hj, rfl⟩ := List.mem_iff_getElem.1 hp
    have hj2 : j < S.L.length := by rwa [hlen] at hj
    have e : (putAt S i l).L[j]? = some (if i = j then (S.L[j].1, l) else S.L[j]) := by
      show (S.L.modify i fun p => (p.1, l))[j]? = _
      rw [List.getElem?_modify, List.getElem?_eq_getElem hj2]
      split <;> simp
    have e2 := (List.getElem?_eq_some_iff.1 e).2
    rw [e2]
    split
    · exact .inr ⟨hl, (hF.ids S.L[j] (List.getElem_mem hj2) : 1 ≤ S.L[j].1 ∧ S.L[j].1 < (S.nx : Int))⟩
    · exact .inl (List.getElem_mem hj2)
  refine ⟨by rw [hlen]; exact hF.len, by rw [hlen]; exact hF.len5, by rw [hlen]; exact hF.bot, hF.top, hF.c1, hF.c5, fun p hp => ?_, fun p hp => ?_, hF.pos⟩
  · rcases hm p hp with h | h
    · exact hF.wid p h
    · exact h.1
  · rcases hm p hp with h | h
    · exact hF.ids p h
    · exact h.2
theorem putAt_inv (hI : Inv S) (i : Nat) (l : List Cel) : Inv (putAt S i l) := by
  have e : idsL ((putAt S i l).L ++ (putAt S i l).R) = idsL (S.L ++ S.R) := by rw [idsL_app, put_ids, idsL_app]; rfl
  refine ⟨by rw [e]; exact hI.dd, fun p hp => ?_, hI.most, hI.pos⟩
  have hp2 : p.1 ∈ idsL (S.L ++ S.R) := by
    rw [← e]
    exact List.mem_map.2 ⟨p, hp, rfl⟩
  obtain ⟨p2, h2, e2⟩ := List.mem_map.1 hp2
  have := hI.old p2 h2
  rw [e2] at this
  exact this
set_option maxRecDepth 100000 in
set_option maxHeartbeats 4000000 in
theorem do_6y (h : SC B w x s S) (g : RC B w r q S) (hF : Fit S) (hI : Inv S) (hnx : S.nx + 512 ≤ 1000000) (hmo : S.most ≤ 10000) (n c y : Nat) (hn1 : 1 ≤ n) (hn5 : n ≤ 512) (hc1 : 1 ≤ c) (hc5 : c ≤ 512) (hy : y < S.L.length) (ru : Int) (wide : Bool) (a : At) :
    Calls Tryz.prog 10 #[.pointer (some ⟨x, 0, none⟩), .pointer (some ⟨r, 0, none⟩), .agg (opV ⟨6, y, n, c, ru, wide, a⟩).toArray] w (DoDone B w x s r q (resS S n c y) (resS S n c y) true) := by
  obtain ⟨af, ab, ag⟩ := a
  have hV : (opV ⟨6, y, n, c, ru, wide, ⟨af, ab, ag⟩⟩).toArray = #[.int .i64 6, .int .i64 y, .int .i64 n, .int .i64 c, .int .i32 ru, .bool wide, .int .u32 af, .int .u32 ab, .int .u16 ag] := rfl
  rw [hV]
  clear hV
  have hb1 := below_new w (.cells #[.int .i64 6, .int .i64 y, .int .i64 n, .int .i64 c, .int .i32 ru, .bool wide, .int .u32 af, .int .u32 ab, .int .u16 ag] 39)
  have hbx := Block.made w 39 #[.int .i64 6, .int .i64 y, .int .i64 n, .int .i64 c, .int .i32 ru, .bool wide, .int .u32 af, .int .u32 ab, .int .u16 ag]
  have h1 := h.below hb1
  have g1 := g.below hb1
  obtain ⟨bx, hbxe⟩ : ∃ bx, bx = w.heap.size := ⟨_, rfl⟩
  generalize hw0 : w.alloc (.cells #[.int .i64 6, .int .i64 y, .int .i64 n, .int .i64 c, .int .i32 ru, .bool wide, .int .u32 af, .int .u32 ab, .int .u16 ag] 39) = w0 at hbx hb1 h1 g1
  rw [← hbxe] at hbx
  have hS : ∀ w', Fr B BT w0 w' → w'.cell? ⟨bx, 1, none⟩ = some (.int .i64 y) ∧ w'.cell? ⟨bx, 2, none⟩ = some (.int .i64 n) ∧ w'.cell? ⟨bx, 3, none⟩ = some (.int .i64 c) := fun w' hf => by
    have hbx' := Block.fr hbx hf (.inl (by unfold BT PT RT; decide))
    exact ⟨hbx'.cell 1 rfl, hbx'.cell 2 rfl, hbx'.cell 3 rfl⟩
  have hs0 := hS _ (Fr.refl _ _ _)
  have k0 := hbx.cell 0 rfl
  obtain ⟨a1, a2, a3⟩ := hs0
  have hw1 : Fr B BT w w0 := Fr.of_below hb1
  replace hS := Lib.hid hS
  have hp := res_yes h1 hF n c y hn1 hn5 hc1 hc5 hy hnx
  have hr := fun w' (gr : RC B w' r q S) => rresS_yes gr hF hI n c y hn1 hn5 hc1 hc5 hy hnx hmo
  generalize ((y - (y - (n - 1)) : Nat) : Int) = v at hp hr
  generalize resS S n c y = S' at hp hr ⊢
  have z1 : (v == v) = true := by simp
  rw [← hw0] at hp
  replace hp := Lib.hid hp
  replace hr := Lib.hid hr
  replace hw1 := Lib.hid hw1
  replace hbxe := Lib.hid hbxe
  have h9 := Lib.hid g1
  have hab := And.intro k0 (And.intro a1 (And.intro a2 a3))
  rw [← hw0] at hab
  obtain ⟨k0', a1', a2', a3'⟩ := hab
  replace hw0 := Lib.hid hw0
  clear h g hF hI hnx hmo hbx h1 g1 hb1 hn1 hn5 hc1 hc5 hy
  go_enter Tryz.func10, Tryz.ntmps10
  go_wp2_with (first
    | (go_at_call 21; (with_reducible refine hp.out.mono ?_); rintro r' w2 ⟨rfl, hs2, hf2⟩; rw [hw0.out] at hf2; rw [← hbxe.out]; obtain ⟨b1, b2, b3⟩ := hS.out _ (frP hf2); have hr2 := Lib.hid (hr.out _ (h9.out.fr hf2 noPT)); replace hs2 := Lib.hid hs2; replace hf2 := Lib.hid hf2)
    | (go_at_call 31; (with_reducible refine hr2.out.mono ?_); rintro r' w3 ⟨rfl, hg3, hf3⟩; have hs3 := Lib.hid (hs2.out.fr hf3 noRT); have hf4 := Lib.hid ((hw1.out.trans (frP hf2.out)).trans (frR hf3)); replace hg3 := Lib.hid hg3; clear hf3))
  go_ret
  exact ⟨rfl, hs3.out, hg3.out, hf4.out⟩
set_option maxRecDepth 100000 in
set_option maxHeartbeats 4000000 in
theorem do_6n (h : SC B w x s S) (g : RC B w r q S) (hF : Fit S) (n c y : Int) (hno : ¬ ((1 ≤ n ∧ n ≤ 512) ∧ (1 ≤ c ∧ c ≤ 512) ∧ 0 ≤ y ∧ y < S.L.length)) (ru : Int) (wide : Bool) (a : At) :
    Calls Tryz.prog 10 #[.pointer (some ⟨x, 0, none⟩), .pointer (some ⟨r, 0, none⟩), .agg (opV ⟨6, y, n, c, ru, wide, a⟩).toArray] w (DoDone B w x s r q S S true) := by
  obtain ⟨af, ab, ag⟩ := a
  have hV : (opV ⟨6, y, n, c, ru, wide, ⟨af, ab, ag⟩⟩).toArray = #[.int .i64 6, .int .i64 y, .int .i64 n, .int .i64 c, .int .i32 ru, .bool wide, .int .u32 af, .int .u32 ab, .int .u16 ag] := rfl
  rw [hV]
  clear hV
  have hb1 := below_new w (.cells #[.int .i64 6, .int .i64 y, .int .i64 n, .int .i64 c, .int .i32 ru, .bool wide, .int .u32 af, .int .u32 ab, .int .u16 ag] 39)
  have hbx := Block.made w 39 #[.int .i64 6, .int .i64 y, .int .i64 n, .int .i64 c, .int .i32 ru, .bool wide, .int .u32 af, .int .u32 ab, .int .u16 ag]
  have h1 := h.below hb1
  have g1 := g.below hb1
  have k0 := hbx.cell 0 rfl
  have a1 := hbx.cell 1 rfl
  have a2 := hbx.cell 2 rfl
  have a3 := hbx.cell 3 rfl
  have hp := Lib.hid (res_no h1 hF n c y hno)
  have hr := Lib.hid (rresS_no g1 n c y hno)
  have hres := Lib.hid (⟨h1, g1, Fr.of_below hb1⟩ : SC B (w.alloc (.cells #[.int .i64 6, .int .i64 y, .int .i64 n, .int .i64 c, .int .i32 ru, .bool wide, .int .u32 af, .int .u32 ab, .int .u16 ag] 39)) x s S ∧ RC B (w.alloc (.cells #[.int .i64 6, .int .i64 y, .int .i64 n, .int .i64 c, .int .i32 ru, .bool wide, .int .u32 af, .int .u32 ab, .int .u16 ag] 39)) r q S ∧ Fr B BT w (w.alloc (.cells #[.int .i64 6, .int .i64 y, .int .i64 n, .int .i64 c, .int .i32 ru, .bool wide, .int .u32 af, .int .u32 ab, .int .u16 ag] 39)))
  clear h g hF hbx h1 g1 hb1 hno
  go_enter Tryz.func10, Tryz.ntmps10
  go_wp2_with (first
    | (go_at_call 21; (with_reducible refine hp.out.mono ?_); rintro r' w2 ⟨rfl, rfl⟩)
    | (go_at_call 31; (with_reducible refine hr.out.mono ?_); rintro r' w3 ⟨rfl, rfl⟩))
  go_ret
  exact ⟨rfl, hres.out⟩
set_option maxRecDepth 100000 in
set_option maxHeartbeats 4000000 in
theorem do_7n (h : SC B w x s S) (g : RC B w r q S) (hF : Fit S) (n c y : Int) (hno : ¬ (0 ≤ y ∧ y < S.L.length)) (ru : Int) (wide : Bool) (a : At) :
    Calls Tryz.prog 10 #[.pointer (some ⟨x, 0, none⟩), .pointer (some ⟨r, 0, none⟩), .agg (opV ⟨7, y, n, c, ru, wide, a⟩).toArray] w (DoDone B w x s r q S S true) := by
  obtain ⟨af, ab, ag⟩ := a
  have hV : (opV ⟨7, y, n, c, ru, wide, ⟨af, ab, ag⟩⟩).toArray = #[.int .i64 7, .int .i64 y, .int .i64 n, .int .i64 c, .int .i32 ru, .bool wide, .int .u32 af, .int .u32 ab, .int .u16 ag] := rfl
  rw [hV]
  clear hV
  have hb1 := below_new w (.cells #[.int .i64 7, .int .i64 y, .int .i64 n, .int .i64 c, .int .i32 ru, .bool wide, .int .u32 af, .int .u32 ab, .int .u16 ag] 39)
  have hbx := Block.made w 39 #[.int .i64 7, .int .i64 y, .int .i64 n, .int .i64 c, .int .i32 ru, .bool wide, .int .u32 af, .int .u32 ab, .int .u16 ag]
  have h1 := h.below hb1
  have g1 := g.below hb1
  have k0 := hbx.cell 0 rfl
  have a1 := hbx.cell 1 rfl
  obtain ⟨ao, cc, c3, _⟩ := g1.slice
  have hrw := Lib.hid (fun wz (hb : Below (w.alloc (.cells #[.int .i64 7, .int .i64 y, .int .i64 n, .int .i64 c, .int .i32 ru, .bool wide, .int .u32 af, .int .u32 ab, .int .u16 ag] 39)).heap.size (w.alloc (.cells #[.int .i64 7, .int .i64 y, .int .i64 n, .int .i64 c, .int .i32 ru, .bool wide, .int .u32 af, .int .u32 ab, .int .u16 ag] 39)) wz) => row_no (h1.below hb) hF.len y hno)
  have hres := Lib.hid (fun wz (hb : Below (w.alloc (.cells #[.int .i64 7, .int .i64 y, .int .i64 n, .int .i64 c, .int .i32 ru, .bool wide, .int .u32 af, .int .u32 ab, .int .u16 ag] 39)).heap.size (w.alloc (.cells #[.int .i64 7, .int .i64 y, .int .i64 n, .int .i64 c, .int .i32 ru, .bool wide, .int .u32 af, .int .u32 ab, .int .u16 ag] 39)) wz) => (⟨h1.below hb, g1.below hb, (Fr.of_below hb1).trans (Fr.of_below hb)⟩ : SC B wz x s S ∧ RC B wz r q S ∧ Fr B BT w wz))
  have hbd := fun m => below_dr (a := w.alloc (.cells #[.int .i64 7, .int .i64 y, .int .i64 n, .int .i64 c, .int .i32 ru, .bool wide, .int .u32 af, .int .u32 ab, .int .u16 ag] 39)) (b := w.alloc (.cells #[.int .i64 7, .int .i64 y, .int .i64 n, .int .i64 c, .int .i32 ru, .bool wide, .int .u32 af, .int .u32 ab, .int .u16 ag] 39)) (Below.refl _ _) m
  generalize S.L.length = N at c3 hno
  replace hbd := Lib.hid hbd
  clear h g hF hbx h1 g1 hb1
  by_cases h0 : y < 0
  · have d0 := decide_eq_true h0
    clear hno
    go_enter Tryz.func10, Tryz.ntmps10
    go_wp2_with fail
    go_quiet (fail)
    go_wp2_with (first
      | (go_at_call 32; (with_reducible refine (hrw.out _ (hbd.out _)).mono ?_); rintro r' w2 ⟨rfl, rfl⟩))
    go_ret
    exact ⟨rfl, hres.out _ (hbd.out _)⟩
  · have d0 := decide_eq_false h0
    have d1 : decide ((N : Int) ≤ y) = true := decide_eq_true (by omega)
    clear hno
    go_enter Tryz.func10, Tryz.ntmps10
    go_wp2_with fail
    go_quiet (fail)
    go_wp2_with (first
      | (go_at_call 32; (with_reducible refine (hrw.out _ (hbd.out _)).mono ?_); rintro r' w2 ⟨rfl, rfl⟩))
    go_ret
    exact ⟨rfl, hres.out _ (hbd.out _)⟩
theorem rput2 (h : RC B w r q S) {i : Nat} (hi : i < S.L.length) (col x : Int) (hc : -9223372036854775808 ≤ col ∧ col ≤ 9223372036854775807) (wide : Bool) (a : At) : ∃ g c d, ∀ wz, Fr B PT w wz → wz.cell? ⟨r, 3, none⟩ = some (.slice (some ⟨g, 0, none⟩) S.L.length c) ∧ wz.cell? ⟨g, i * 2 + 1, none⟩ = some (.pointer (some ⟨d, 0, none⟩)) ∧
    Calls Tryz.prog 34 #[.pointer (some ⟨d, 0, none⟩), .int .i64 col, .int .i32 x, .bool wide, .agg #[.int .u32 a.f, .int .u32 a.b, .int .u16 a.g]] wz fun z w' => z = .returned (.int .i64 (putV S.L[i].2 col x wide a)) ∧ RC B w' r q (putAt S i (putL S.L[i].2 col x wide a)) ∧ Fr B RT wz w' ∧ w'.cell? ⟨r, 3, none⟩ = some (.slice (some ⟨g, 0, none⟩) S.L.length c) ∧ w'.cell? ⟨g, i * 2 + 1, none⟩ = some (.pointer (some ⟨d, 0, none⟩)) := by
  obtain ⟨rv, lv, L, R, g1, g2, g3⟩ := h
  have hl : L.length = S.L.length := by rw [← g2, vw_len]
  have hiL : i < L.length := by omega
  obtain ⟨g, c, rfl, q0, q1, _⟩ := g1.elem rfl hiL
  have hsp := split_at L hiL
  have hat : S.L[i] = (L[i].id, L[i].l) := by simp only [← g2, vw, List.getElem_map]
  refine ⟨g, c, L[i].dr, fun wz hz => ?_⟩
  have g1z : RmX B wz r q S.nx S.most S.kp S.cols rv (.slice (some ⟨g, 0, none⟩) L.length c) S.top S.bot L.length (fl rlineC L) L R := g1.fr hz noPT
  have g1' : RmX B wz r q S.nx S.most S.kp S.cols rv (.slice (some ⟨g, 0, none⟩) L.length c) S.top S.bot L.length (fl rlineC L) (L.take i ++ L[i] :: L.drop (i + 1)) R := by rw [← hsp]; exact g1z
  have hcc := g1z.cells.2.2.2.1
  rw [hl] at hcc
  obtain ⟨g', c', e, _, q1', _⟩ := g1z.elem rfl hiL
  simp only [Value.slice.injEq, Option.some.injEq, Addr.mk.injEq] at e
  obtain ⟨⟨rfl, _⟩, _⟩ := e
  refine ⟨hcc, q1', ?_⟩
  rw [hat]
  refine (rput_row g1' col x hc wide a).mono ?_
  rintro z w' ⟨rfl, hx, hf⟩
  have hx3 := hx.cells.2.2.2.1
  rw [hl] at hx3
  have hx1 := World.ownsRow.cells hx.own (g := g) rfl (i * 2 + 1) _ (by rw [fl_at rlineC_length hiL (by omega)]; rfl)
  rw [Addr.add_lit, Nat.zero_add] at hx1
  refine ⟨rfl, ⟨rv, .slice (some ⟨g, 0, none⟩) L.length c, L.take i ++ (⟨L[i].id, L[i].d, L[i].g, L[i].dr, putL L[i].l col x wide a⟩ : En) :: L.drop (i + 1), R, ?_, ?_, g3⟩, hf, hx3, hx1⟩
  · have e1 : (L.take i ++ (⟨L[i].id, L[i].d, L[i].g, L[i].dr, putL L[i].l col x wide a⟩ : En) :: L.drop (i + 1)).length = L.length := by
      rw [List.length_append, List.length_cons, List.length_take, List.length_drop]
      omega
    have e2 : fl rlineC (L.take i ++ (⟨L[i].id, L[i].d, L[i].g, L[i].dr, putL L[i].l col x wide a⟩ : En) :: L.drop (i + 1)) = fl rlineC L := by
      conv => rhs; rw [hsp]
      exact rfl_same rfl rfl
    show RmX B w' r q S.nx S.most S.kp S.cols rv _ S.top S.bot _ _ _ R
    rw [e1, e2]
    exact hx
  · rw [vw_set hiL, g2]
    show S.L.set i (L[i].id, putL L[i].l col x wide a) = S.L.modify i fun p => (p.1, putL L[i].l col x wide a)
    refine List.ext_getElem (by simp) fun j h1 h2 => ?_
    rw [List.getElem_set, List.getElem_modify]
    split
    · rename_i h
      subst h
      rw [hat]
    · rfl
set_option maxRecDepth 100000 in
set_option maxHeartbeats 8000000 in
theorem do_7y (h : SC B w x s S) (g : RC B w r q S) (hF : Fit S) (n c : Int) (i : Nat) (hi : i < S.L.length) (ru : Int) (hc : -9223372036854775808 ≤ c ∧ c ≤ 9223372036854775807) (wide : Bool) (a : At) :
    Calls Tryz.prog 10 #[.pointer (some ⟨x, 0, none⟩), .pointer (some ⟨r, 0, none⟩), .agg (opV ⟨7, i, n, c, ru, wide, a⟩).toArray] w (DoDone B w x s r q (putAt S i (putL S.L[i].2 c ru wide a)) (putAt S i (putL S.L[i].2 c ru wide a)) true) := by
  have hput := fun wz d (hr : RowAt B wz x s S i d) => put_at hr c ru hc wide a hi
  have hb1 := below_new w (.cells (opV ⟨7, i, n, c, ru, wide, a⟩).toArray 39)
  have hbx := Block.made w 39 (opV ⟨7, i, n, c, ru, wide, a⟩).toArray
  have h1 := h.below hb1
  have g1 := g.below hb1
  obtain ⟨g2, c2, d2, hrp⟩ := rput2 g1 hi c ru hc wide a
  obtain ⟨af, ab, ag⟩ := a
  have hV : (opV ⟨7, i, n, c, ru, wide, ⟨af, ab, ag⟩⟩).toArray = #[.int .i64 7, .int .i64 i, .int .i64 n, .int .i64 c, .int .i32 ru, .bool wide, .int .u32 af, .int .u32 ab, .int .u16 ag] := rfl
  rw [hV] at hb1 hbx h1 g1 hrp ⊢
  clear hV
  obtain ⟨bx, hbxe⟩ : ∃ bx, bx = w.heap.size := ⟨_, rfl⟩
  rw [← hbxe] at hbx
  have hw1 : Fr B BT w (w.alloc (.cells #[.int .i64 7, .int .i64 i, .int .i64 n, .int .i64 c, .int .i32 ru, .bool wide, .int .u32 af, .int .u32 ab, .int .u16 ag] 39)) := Fr.of_below hb1
  have k0 := hbx.cell 0 rfl
  have k1 := hbx.cell 1 rfl
  have c3 := (hrp _ (Fr.refl _ _ _)).1
  have hS := fun wz (hf : Fr B PT (w.alloc (.cells #[.int .i64 7, .int .i64 i, .int .i64 n, .int .i64 c, .int .i32 ru, .bool wide, .int .u32 af, .int .u32 ab, .int .u16 ag] 39)) wz) => (by
    have hbx' := Block.fr hbx hf (.inl (by unfold PT; decide))
    exact ⟨hbx'.cell 1 rfl, hbx'.cell 3 rfl, hbx'.cell 4 rfl, hbx'.cell 5 rfl, hbx'.cell 6 rfl, hbx'.cell 7 rfl, hbx'.cell 8 rfl, (hrp wz hf).1, (hrp wz hf).2.1⟩ : wz.cell? ⟨bx, 1, none⟩ = some (.int .i64 i) ∧ wz.cell? ⟨bx, 3, none⟩ = some (.int .i64 c) ∧ wz.cell? ⟨bx, 4, none⟩ = some (.int .i32 ru) ∧ wz.cell? ⟨bx, 5, none⟩ = some (.bool wide) ∧ wz.cell? ⟨bx, 6, none⟩ = some (.int .u32 af) ∧ wz.cell? ⟨bx, 7, none⟩ = some (.int .u32 ab) ∧ wz.cell? ⟨bx, 8, none⟩ = some (.int .u16 ag) ∧ wz.cell? ⟨r, 3, none⟩ = some (.slice (some ⟨g2, 0, none⟩) S.L.length c2) ∧ wz.cell? ⟨g2, i * 2 + 1, none⟩ = some (.pointer (some ⟨d2, 0, none⟩)))
  have hSb := fun wz (hf : Fr B BT (w.alloc (.cells #[.int .i64 7, .int .i64 i, .int .i64 n, .int .i64 c, .int .i32 ru, .bool wide, .int .u32 af, .int .u32 ab, .int .u16 ag] 39)) wz) => (by
    have hbx' := Block.fr hbx hf (.inl (by unfold BT PT RT; decide))
    exact ⟨hbx'.cell 1 rfl, hbx'.cell 3 rfl, hbx'.cell 4 rfl, hbx'.cell 5 rfl, hbx'.cell 6 rfl, hbx'.cell 7 rfl, hbx'.cell 8 rfl⟩ : wz.cell? ⟨bx, 1, none⟩ = some (.int .i64 i) ∧ wz.cell? ⟨bx, 3, none⟩ = some (.int .i64 c) ∧ wz.cell? ⟨bx, 4, none⟩ = some (.int .i32 ru) ∧ wz.cell? ⟨bx, 5, none⟩ = some (.bool wide) ∧ wz.cell? ⟨bx, 6, none⟩ = some (.int .u32 af) ∧ wz.cell? ⟨bx, 7, none⟩ = some (.int .u32 ab) ∧ wz.cell? ⟨bx, 8, none⟩ = some (.int .u16 ag))
  have hrpc := fun wz (hf : Fr B PT (w.alloc (.cells #[.int .i64 7, .int .i64 i, .int .i64 n, .int .i64 c, .int .i32 ru, .bool wide, .int .u32 af, .int .u32 ab, .int .u16 ag] 39)) wz) => (hrp wz hf).2.2
  have hrow := fun wz (hb : Below (w.alloc (.cells #[.int .i64 7, .int .i64 i, .int .i64 n, .int .i64 c, .int .i32 ru, .bool wide, .int .u32 af, .int .u32 ab, .int .u16 ag] 39)).heap.size (w.alloc (.cells #[.int .i64 7, .int .i64 i, .int .i64 n, .int .i64 c, .int .i32 ru, .bool wide, .int .u32 af, .int .u32 ab, .int .u16 ag] 39)) wz) => row_yes (h1.below hb) hF.len i hi
  simp only at hput hrpc
  have hsg : ∀ wz, SC B wz x s (putAt S i (putL S.L[i].2 c ru wide ⟨af, ab, ag⟩)) → True := fun _ _ => trivial
  generalize putV S.L[i].2 c ru wide ⟨af, ab, ag⟩ = v at hput hrpc
  generalize putAt S i (putL S.L[i].2 c ru wide ⟨af, ab, ag⟩) = S' at hput hrpc ⊢
  have z1 : (v == v) = true := by simp
  have hiI : (i : Int) < (S.L.length : Int) := by omega
  have d0 : decide ((i : Int) < 0) = false := decide_eq_false (by omega)
  have d1 : decide (S.L.length ≤ i) = false := decide_eq_false (by omega)
  generalize S.L.length = N at c3 hS hiI d1 hrpc
  have hbd := fun m => below_dr (a := w.alloc (.cells #[.int .i64 7, .int .i64 i, .int .i64 n, .int .i64 c, .int .i32 ru, .bool wide, .int .u32 af, .int .u32 ab, .int .u16 ag] 39)) (b := w.alloc (.cells #[.int .i64 7, .int .i64 i, .int .i64 n, .int .i64 c, .int .i32 ru, .bool wide, .int .u32 af, .int .u32 ab, .int .u16 ag] 39)) (Below.refl _ _) m
  replace hbd := Lib.hid hbd
  replace hS := Lib.hid hS
  replace hSb := Lib.hid hSb
  replace hrpc := Lib.hid hrpc
  replace hrow := Lib.hid hrow
  replace hput := Lib.hid hput
  replace hw1 := Lib.hid hw1
  replace hbxe := Lib.hid hbxe
  clear h g hF hbx h1 g1 hb1 hsg hrp hi
  rw [hbxe.out] at k0 k1
  go_enter Tryz.func10, Tryz.ntmps10
  go_wp2_with fail
  go_quiet (fail)
  go_wp2_with fail
  rw [← hbxe.out]
  obtain ⟨w9, hw9⟩ : ∃ w9, w9 = (w.alloc (.cells #[.int .i64 7, .int .i64 i, .int .i64 n, .int .i64 c, .int .i32 ru, .bool wide, .int .u32 af, .int .u32 ab, .int .u16 ag] 39)).drewN nq := ⟨_, rfl⟩
  rw [← hw9]
  have hb9 := hbd.out nq
  rw [← hw9] at hb9
  have hb9d : Below _ _ w9.drew := below_dr hb9 1
  have hf9 : Fr B PT _ w9 := Fr.of_below hb9
  have hf9d : Fr B PT _ w9.drew := Fr.of_below hb9d
  have hrw := Lib.hid (hrow.out _ hb9d)
  obtain ⟨s1, s3, s4, s5, s6, s7, s8, t3, tg⟩ := hS.out _ hf9
  have hSd := hS.out _ hf9d
  replace hw9 := Lib.hid hw9
  replace hf9d := Lib.hid hf9d
  clear hb9 hb9d hf9 hrow k0 k1 c3
  go_region_held3 (fun w' => w'.cell? ⟨bx, 1, none⟩ = some (.int .i64 i) ∧ w'.cell? ⟨bx, 3, none⟩ = some (.int .i64 c) ∧ w'.cell? ⟨bx, 4, none⟩ = some (.int .i32 ru) ∧ w'.cell? ⟨bx, 5, none⟩ = some (.bool wide) ∧ w'.cell? ⟨bx, 6, none⟩ = some (.int .u32 af) ∧ w'.cell? ⟨bx, 7, none⟩ = some (.int .u32 ab) ∧ w'.cell? ⟨bx, 8, none⟩ = some (.int .u16 ag) ∧ w'.cell? ⟨r, 3, none⟩ = some (.slice (some ⟨g2, 0, none⟩) N c2) ∧ w'.cell? ⟨g2, i * 2 + 1, none⟩ = some (.pointer (some ⟨d2, 0, none⟩)))
    (first | exact ⟨s1, s3, s4, s5, s6, s7, s8, t3, tg⟩ | exact hSd | exact hz2 | exact hz3)
    (first
      | (go_at_call 32; (with_reducible refine hrw.out.mono ?_); rintro e w2 ⟨⟨d, rfl, hat⟩, rfl⟩; have hpp := Lib.hid (hput.out _ _ hat))
      | (go_at_call 33; (with_reducible refine hpp.out.mono ?_); rintro e w2 ⟨rfl, hs2, hf2⟩; have hf2' := Lib.hid (hf9d.out.trans hf2); have hz2 := hS.out _ hf2'.out; have hrr := Lib.hid (hrpc.out _ hf2'.out); replace hs2 := Lib.hid hs2; clear hf2)
      | (go_at_call 34; (with_reducible refine hrr.out.mono ?_); rintro e w3 ⟨rfl, hg3, hf3, u3, ug⟩; have hf3' := Lib.hid ((frP hf2'.out).trans (frR hf3)); have hs3 := Lib.hid (hs2.out.fr hf3 noRT); have hz3 := (by obtain ⟨v1, v2, v3, v4, v5, v6, v7⟩ := hSb.out _ hf3'.out; exact ⟨v1, v2, v3, v4, v5, v6, v7, u3, ug⟩ : w3.cell? ⟨bx, 1, none⟩ = some (.int .i64 i) ∧ w3.cell? ⟨bx, 3, none⟩ = some (.int .i64 c) ∧ w3.cell? ⟨bx, 4, none⟩ = some (.int .i32 ru) ∧ w3.cell? ⟨bx, 5, none⟩ = some (.bool wide) ∧ w3.cell? ⟨bx, 6, none⟩ = some (.int .u32 af) ∧ w3.cell? ⟨bx, 7, none⟩ = some (.int .u32 ab) ∧ w3.cell? ⟨bx, 8, none⟩ = some (.int .u16 ag) ∧ w3.cell? ⟨r, 3, none⟩ = some (.slice (some ⟨g2, 0, none⟩) N c2) ∧ w3.cell? ⟨g2, i * 2 + 1, none⟩ = some (.pointer (some ⟨d2, 0, none⟩))); replace hg3 := Lib.hid hg3; clear hf3))
  clear hz2 hz3 hSd s1 s3 s4 s5 s6 s7 s8 t3 tg u3 ug
  go_wp2
  go_ret
  exact ⟨rfl, hs3.out, hg3.out, hw1.out.trans hf3'.out⟩
end
end Go.Proofs.YtaoegfdaemmogaaGreat.Scn
