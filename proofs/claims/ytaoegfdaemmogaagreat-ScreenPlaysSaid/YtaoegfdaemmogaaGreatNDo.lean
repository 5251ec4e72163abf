/-
  screen: the law's do, the kinds 1 to 5.
-/
import Derived.Test.YtaoegfdaemmogaaGreatNAll
namespace Go.Proofs.YtaoegfdaemmogaaGreat.Scn
open Go Go.RowKit Go.Proofs.YtaoegfdaemmogaaGreat.Com Go.Proofs.YtaoegfdaemmogaaGreat.Rw Go.Proofs.YtaoegfdaemmogaaGreat.Lns
def BT : List TypeId := PT ++ RT
theorem frP {B : Nat} {w w' : World} (h : Fr B PT w w') : Fr B BT w w' := h.mono fun _ hm => List.mem_append_left _ hm
theorem frR {B : Nat} {w w' : World} (h : Fr B RT w w') : Fr B BT w w' := h.mono fun _ hm => List.mem_append_right _ hm
def DoDone (B : Nat) (w : World) (x s r q : Nat) (S Z : Scr) (y : Bool) (e : Ending) (w' : World) : Prop := e = .returned (.bool y) ∧ SC B w' x s S ∧ RC B w' r q Z ∧ Fr B BT w w'
section
variable {B : Nat} {w w' : World} {x s r q : Nat} {S Z : Scr}

set_option maxRecDepth 100000 in
set_option maxHeartbeats 4000000 in
theorem do_1 (h : SC B w x s S) (g : RC B w r q Z) (hF : Fit S) (hG : Fit Z) (hnx : S.nx + 512 ≤ 1000000) (hnz : Z.nx + 512 ≤ 1000000) (hRm : Z.R.length ≤ Z.most) (hmo : Z.most ≤ 10000) (o : Opr) (hk : o.kind = 1) :
    Calls Tryz.prog 10 #[.pointer (some ⟨x, 0, none⟩), .pointer (some ⟨r, 0, none⟩), .agg (opV o).toArray] w (DoDone B w x s r q (doS S o) (doS Z o) (true)) := by
  rw [show doS S o = upK S o.n o.a by unfold doS; simp [hk], show doS Z o = upK Z o.n o.a by unfold doS; simp [hk]]
  obtain ⟨kind, at', n, cols, ru, wide, ⟨af, ab, ag⟩⟩ := o
  simp only at hk ⊢
  subst hk
  have hV : (opV ⟨1, at', n, cols, ru, wide, ⟨af, ab, ag⟩⟩).toArray = #[.int .i64 1, .int .i64 at', .int .i64 n, .int .i64 cols, .int .i32 ru, .bool wide, .int .u32 af, .int .u32 ab, .int .u16 ag] := rfl
  rw [hV]
  clear hV
  have hb1 := below_new w (.cells #[.int .i64 1, .int .i64 at', .int .i64 n, .int .i64 cols, .int .i32 ru, .bool wide, .int .u32 af, .int .u32 ab, .int .u16 ag] 39)
  have hbx := Block.made w 39 #[.int .i64 1, .int .i64 at', .int .i64 n, .int .i64 cols, .int .i32 ru, .bool wide, .int .u32 af, .int .u32 ab, .int .u16 ag]
  have h1 := h.below hb1
  have g1 := g.below hb1
  obtain ⟨bx, hbxe⟩ : ∃ bx, bx = w.heap.size := ⟨_, rfl⟩
  generalize hw0 : w.alloc (.cells #[.int .i64 1, .int .i64 at', .int .i64 n, .int .i64 cols, .int .i32 ru, .bool wide, .int .u32 af, .int .u32 ab, .int .u16 ag] 39) = w0 at hbx hb1 h1 g1
  rw [← hbxe] at hbx
  have hS : ∀ w', Fr B BT w0 w' → w'.cell? ⟨bx, 1, none⟩ = some (.int .i64 at') ∧ w'.cell? ⟨bx, 2, none⟩ = some (.int .i64 n) ∧ w'.cell? ⟨bx, 6, none⟩ = some (.int .u32 af) ∧ w'.cell? ⟨bx, 7, none⟩ = some (.int .u32 ab) ∧ w'.cell? ⟨bx, 8, none⟩ = some (.int .u16 ag) := fun w' hf => by
    have hbx' := Block.fr hbx hf (.inl (by unfold BT PT RT; decide))
    exact ⟨hbx'.cell 1 rfl, hbx'.cell 2 rfl, hbx'.cell 6 rfl, hbx'.cell 7 rfl, hbx'.cell 8 rfl⟩
  have hs0 := hS _ (Fr.refl _ _ _)
  have k0 := hbx.cell 0 rfl
  obtain ⟨a1, a2, a6, a7, a8⟩ := hs0
  have hw1 : Fr B BT w w0 := Fr.of_below hb1
  replace hS := Lib.hid hS
  have hr := rUp_K g1 hG n hnz hRm hmo ⟨af, ab, ag⟩
  have hp := Lib.hid (fun w' (hs : SC B w' x s S) => pUp_K hs hF n hnx ⟨af, ab, ag⟩)
  try simp only at hr
  try simp only at hp
  generalize upK S n ⟨af, ab, ag⟩ = S' at hp ⊢
  generalize upK Z n ⟨af, ab, ag⟩ = Z' at hr ⊢
  rw [← hw0] at hr
  replace hr := Lib.hid hr
  replace hw1 := Lib.hid hw1
  replace hbxe := Lib.hid hbxe
  have h9 := Lib.hid h1
  have hab := And.intro k0 (And.intro a2 (And.intro a6 (And.intro a7 a8)))
  rw [← hw0] at hab
  obtain ⟨k0', a2', a6', a7', a8'⟩ := hab
  replace hw0 := Lib.hid hw0
  clear h g hF hG hnx hnz hRm hmo hbx h1 g1 hb1
  go_enter Tryz.func10, Tryz.ntmps10
  go_wp2_with (first
    | (go_at_call 25; (with_reducible refine hr.out.mono ?_); rintro r' w2 ⟨⟨v2, rfl⟩, hg2, hf2⟩; rw [hw0.out] at hf2; rw [← hbxe.out]; obtain ⟨a1, a2, a6, a7, a8⟩ := hS.out _ (frR hf2); have hp2 := Lib.hid (hp.out _ (h9.out.fr hf2 noRT)); replace hg2 := Lib.hid hg2; replace hf2 := Lib.hid hf2)
    | (go_at_call 13; (with_reducible refine hp2.out.mono ?_); rintro r' w3 ⟨rfl, hs3, hf3⟩; have hg3 := Lib.hid (hg2.out.fr hf3 noPT); have hf4 := Lib.hid ((hw1.out.trans (frR hf2.out)).trans (frP hf3)); replace hs3 := Lib.hid hs3; clear hf3))
  go_ret
  exact ⟨rfl, hs3.out, hg3.out, hf4.out⟩

set_option maxRecDepth 100000 in
set_option maxHeartbeats 4000000 in
theorem do_2 (h : SC B w x s S) (g : RC B w r q Z) (hF : Fit S) (hG : Fit Z) (hnx : S.nx + 512 ≤ 1000000) (hnz : Z.nx + 512 ≤ 1000000) (o : Opr) (hk : o.kind = 2) :
    Calls Tryz.prog 10 #[.pointer (some ⟨x, 0, none⟩), .pointer (some ⟨r, 0, none⟩), .agg (opV o).toArray] w (DoDone B w x s r q (doS S o) (doS Z o) (true)) := by
  rw [show doS S o = downS S S.top o.n o.a by unfold doS; simp [hk], show doS Z o = downS Z Z.top o.n o.a by unfold doS; simp [hk]]
  obtain ⟨kind, at', n, cols, ru, wide, ⟨af, ab, ag⟩⟩ := o
  simp only at hk ⊢
  subst hk
  have hV : (opV ⟨2, at', n, cols, ru, wide, ⟨af, ab, ag⟩⟩).toArray = #[.int .i64 2, .int .i64 at', .int .i64 n, .int .i64 cols, .int .i32 ru, .bool wide, .int .u32 af, .int .u32 ab, .int .u16 ag] := rfl
  rw [hV]
  clear hV
  have hb1 := below_new w (.cells #[.int .i64 2, .int .i64 at', .int .i64 n, .int .i64 cols, .int .i32 ru, .bool wide, .int .u32 af, .int .u32 ab, .int .u16 ag] 39)
  have hbx := Block.made w 39 #[.int .i64 2, .int .i64 at', .int .i64 n, .int .i64 cols, .int .i32 ru, .bool wide, .int .u32 af, .int .u32 ab, .int .u16 ag]
  have h1 := h.below hb1
  have g1 := g.below hb1
  obtain ⟨bx, hbxe⟩ : ∃ bx, bx = w.heap.size := ⟨_, rfl⟩
  generalize hw0 : w.alloc (.cells #[.int .i64 2, .int .i64 at', .int .i64 n, .int .i64 cols, .int .i32 ru, .bool wide, .int .u32 af, .int .u32 ab, .int .u16 ag] 39) = w0 at hbx hb1 h1 g1
  rw [← hbxe] at hbx
  have hS : ∀ w', Fr B BT w0 w' → w'.cell? ⟨bx, 1, none⟩ = some (.int .i64 at') ∧ w'.cell? ⟨bx, 2, none⟩ = some (.int .i64 n) ∧ w'.cell? ⟨bx, 6, none⟩ = some (.int .u32 af) ∧ w'.cell? ⟨bx, 7, none⟩ = some (.int .u32 ab) ∧ w'.cell? ⟨bx, 8, none⟩ = some (.int .u16 ag) := fun w' hf => by
    have hbx' := Block.fr hbx hf (.inl (by unfold BT PT RT; decide))
    exact ⟨hbx'.cell 1 rfl, hbx'.cell 2 rfl, hbx'.cell 6 rfl, hbx'.cell 7 rfl, hbx'.cell 8 rfl⟩
  have hs0 := hS _ (Fr.refl _ _ _)
  have k0 := hbx.cell 0 rfl
  obtain ⟨a1, a2, a6, a7, a8⟩ := hs0
  have hw1 : Fr B BT w w0 := Fr.of_below hb1
  replace hS := Lib.hid hS
  have hr := rDown_sc g1 hG n hnz ⟨af, ab, ag⟩
  have hp := Lib.hid (fun w' (hs : SC B w' x s S) => Down_sc hs hF n hnx ⟨af, ab, ag⟩)
  try simp only at hr
  try simp only at hp
  generalize downS S S.top n ⟨af, ab, ag⟩ = S' at hp ⊢
  generalize downS Z Z.top n ⟨af, ab, ag⟩ = Z' at hr ⊢
  rw [← hw0] at hr
  replace hr := Lib.hid hr
  replace hw1 := Lib.hid hw1
  replace hbxe := Lib.hid hbxe
  have h9 := Lib.hid h1
  have hab := And.intro k0 (And.intro a2 (And.intro a6 (And.intro a7 a8)))
  rw [← hw0] at hab
  obtain ⟨k0', a2', a6', a7', a8'⟩ := hab
  replace hw0 := Lib.hid hw0
  clear h g hF hG hnx hnz hbx h1 g1 hb1
  go_enter Tryz.func10, Tryz.ntmps10
  go_wp2_with (first
    | (go_at_call 26; (with_reducible refine hr.out.mono ?_); rintro r' w2 ⟨⟨v2, rfl⟩, hg2, hf2⟩; rw [hw0.out] at hf2; rw [← hbxe.out]; obtain ⟨a1, a2, a6, a7, a8⟩ := hS.out _ (frR hf2); have hp2 := Lib.hid (hp.out _ (h9.out.fr hf2 noRT)); replace hg2 := Lib.hid hg2; replace hf2 := Lib.hid hf2)
    | (go_at_call 19; (with_reducible refine hp2.out.mono ?_); rintro r' w3 ⟨rfl, hs3, hf3⟩; have hg3 := Lib.hid (hg2.out.fr hf3 noPT); have hf4 := Lib.hid ((hw1.out.trans (frR hf2.out)).trans (frP hf3)); replace hs3 := Lib.hid hs3; clear hf3))
  go_ret
  exact ⟨rfl, hs3.out, hg3.out, hf4.out⟩

set_option maxRecDepth 100000 in
set_option maxHeartbeats 4000000 in
theorem do_3 (h : SC B w x s S) (g : RC B w r q Z) (hF : Fit S) (hG : Fit Z) (hnx : S.nx + 512 ≤ 1000000) (hnz : Z.nx + 512 ≤ 1000000) (o : Opr) (hk : o.kind = 3) :
    Calls Tryz.prog 10 #[.pointer (some ⟨x, 0, none⟩), .pointer (some ⟨r, 0, none⟩), .agg (opV o).toArray] w (DoDone B w x s r q (doS S o) (doS Z o) (inA S o.at' == inA Z o.at')) := by
  rw [show doS S o = insK S o.at' o.n o.a by unfold doS; simp [hk], show doS Z o = insK Z o.at' o.n o.a by unfold doS; simp [hk]]
  obtain ⟨kind, at', n, cols, ru, wide, ⟨af, ab, ag⟩⟩ := o
  simp only at hk ⊢
  subst hk
  have hV : (opV ⟨3, at', n, cols, ru, wide, ⟨af, ab, ag⟩⟩).toArray = #[.int .i64 3, .int .i64 at', .int .i64 n, .int .i64 cols, .int .i32 ru, .bool wide, .int .u32 af, .int .u32 ab, .int .u16 ag] := rfl
  rw [hV]
  clear hV
  have hb1 := below_new w (.cells #[.int .i64 3, .int .i64 at', .int .i64 n, .int .i64 cols, .int .i32 ru, .bool wide, .int .u32 af, .int .u32 ab, .int .u16 ag] 39)
  have hbx := Block.made w 39 #[.int .i64 3, .int .i64 at', .int .i64 n, .int .i64 cols, .int .i32 ru, .bool wide, .int .u32 af, .int .u32 ab, .int .u16 ag]
  have h1 := h.below hb1
  have g1 := g.below hb1
  obtain ⟨bx, hbxe⟩ : ∃ bx, bx = w.heap.size := ⟨_, rfl⟩
  generalize hw0 : w.alloc (.cells #[.int .i64 3, .int .i64 at', .int .i64 n, .int .i64 cols, .int .i32 ru, .bool wide, .int .u32 af, .int .u32 ab, .int .u16 ag] 39) = w0 at hbx hb1 h1 g1
  rw [← hbxe] at hbx
  have hS : ∀ w', Fr B BT w0 w' → w'.cell? ⟨bx, 1, none⟩ = some (.int .i64 at') ∧ w'.cell? ⟨bx, 2, none⟩ = some (.int .i64 n) ∧ w'.cell? ⟨bx, 6, none⟩ = some (.int .u32 af) ∧ w'.cell? ⟨bx, 7, none⟩ = some (.int .u32 ab) ∧ w'.cell? ⟨bx, 8, none⟩ = some (.int .u16 ag) := fun w' hf => by
    have hbx' := Block.fr hbx hf (.inl (by unfold BT PT RT; decide))
    exact ⟨hbx'.cell 1 rfl, hbx'.cell 2 rfl, hbx'.cell 6 rfl, hbx'.cell 7 rfl, hbx'.cell 8 rfl⟩
  have hs0 := hS _ (Fr.refl _ _ _)
  have k0 := hbx.cell 0 rfl
  obtain ⟨a1, a2, a6, a7, a8⟩ := hs0
  have hw1 : Fr B BT w w0 := Fr.of_below hb1
  replace hS := Lib.hid hS
  have hd0 : Below w0.heap.size w0 w0.drew := below_dr (Below.refl _ _) 1
  have hfd : Fr B BT w0 w0.drew := Fr.of_below hd0
  obtain ⟨d1, d2, d6, d7, d8⟩ := hS.out _ hfd
  have hp := pIns_K (h1.below hd0) hF at' n hnx ⟨af, ab, ag⟩
  have hr := Lib.hid (fun w' (hs : RC B w' r q Z) => rIns_K hs hG at' n hnz ⟨af, ab, ag⟩)
  try simp only at hr
  try simp only at hp
  generalize insK S at' n ⟨af, ab, ag⟩ = S' at hp ⊢
  generalize insK Z at' n ⟨af, ab, ag⟩ = Z' at hr ⊢
  generalize inA S at' = y1 at hp ⊢
  generalize inA Z at' = y2 at hr ⊢
  replace hp := Lib.hid hp
  have hwd := Lib.hid (hw1.trans hfd)
  replace hfd := Lib.hid hfd
  replace hbxe := Lib.hid hbxe
  have g9 := Lib.hid (g1.below hd0)
  have hab := k0
  rw [← hw0] at hab
  replace hw0 := Lib.hid hw0
  clear h g hF hG hnx hnz hbx h1 g1 hb1 hd0 hw1
  go_enter Tryz.func10, Tryz.ntmps10
  go_wp2
  rw [hw0.out, ← hbxe.out]
  go_region_held3 (fun w' => w'.cell? ⟨bx, 1, none⟩ = some (.int .i64 at') ∧ w'.cell? ⟨bx, 2, none⟩ = some (.int .i64 n) ∧ w'.cell? ⟨bx, 6, none⟩ = some (.int .u32 af) ∧ w'.cell? ⟨bx, 7, none⟩ = some (.int .u32 ab) ∧ w'.cell? ⟨bx, 8, none⟩ = some (.int .u16 ag))
    (first | exact ⟨a1, a2, a6, a7, a8⟩ | exact ⟨d1, d2, d6, d7, d8⟩ | exact hz3 | exact hz2)
    (first
      | (go_at_call 27; (with_reducible refine hp.out.mono ?_); rintro r' w2 ⟨rfl, hs2, hf2⟩; have hz2 := hS.out _ (hfd.out.trans (frP hf2)); have hr2 := Lib.hid (hr.out _ (g9.out.fr hf2 noPT)); replace hs2 := Lib.hid hs2; replace hf2 := Lib.hid hf2)
      | (go_at_call 28; (with_reducible refine hr2.out.mono ?_); rintro r' w3 ⟨rfl, hg3, hf3⟩; have hz3 := hS.out _ ((hfd.out.trans (frP hf2.out)).trans (frR hf3)); have hs3 := Lib.hid (hs2.out.fr hf3 noRT); have hf4 := Lib.hid ((hwd.out.trans (frP hf2.out)).trans (frR hf3)); replace hg3 := Lib.hid hg3; clear hf3))
  clear a1 a2 a6 a7 a8 d1 d2 d6 d7 d8 hz2 hz3
  go_wp2
  go_ret
  exact ⟨ret_bool (by simp), hs3.out, hg3.out, hf4.out⟩

set_option maxRecDepth 100000 in
set_option maxHeartbeats 4000000 in
theorem do_4 (h : SC B w x s S) (g : RC B w r q Z) (hF : Fit S) (hG : Fit Z) (hnx : S.nx + 512 ≤ 1000000) (hnz : Z.nx + 512 ≤ 1000000) (o : Opr) (hk : o.kind = 4) :
    Calls Tryz.prog 10 #[.pointer (some ⟨x, 0, none⟩), .pointer (some ⟨r, 0, none⟩), .agg (opV o).toArray] w (DoDone B w x s r q (doS S o) (doS Z o) (inA S o.at' == inA Z o.at')) := by
  rw [show doS S o = delK S o.at' o.n o.a by unfold doS; simp [hk], show doS Z o = delK Z o.at' o.n o.a by unfold doS; simp [hk]]
  obtain ⟨kind, at', n, cols, ru, wide, ⟨af, ab, ag⟩⟩ := o
  simp only at hk ⊢
  subst hk
  have hV : (opV ⟨4, at', n, cols, ru, wide, ⟨af, ab, ag⟩⟩).toArray = #[.int .i64 4, .int .i64 at', .int .i64 n, .int .i64 cols, .int .i32 ru, .bool wide, .int .u32 af, .int .u32 ab, .int .u16 ag] := rfl
  rw [hV]
  clear hV
  have hb1 := below_new w (.cells #[.int .i64 4, .int .i64 at', .int .i64 n, .int .i64 cols, .int .i32 ru, .bool wide, .int .u32 af, .int .u32 ab, .int .u16 ag] 39)
  have hbx := Block.made w 39 #[.int .i64 4, .int .i64 at', .int .i64 n, .int .i64 cols, .int .i32 ru, .bool wide, .int .u32 af, .int .u32 ab, .int .u16 ag]
  have h1 := h.below hb1
  have g1 := g.below hb1
  obtain ⟨bx, hbxe⟩ : ∃ bx, bx = w.heap.size := ⟨_, rfl⟩
  generalize hw0 : w.alloc (.cells #[.int .i64 4, .int .i64 at', .int .i64 n, .int .i64 cols, .int .i32 ru, .bool wide, .int .u32 af, .int .u32 ab, .int .u16 ag] 39) = w0 at hbx hb1 h1 g1
  rw [← hbxe] at hbx
  have hS : ∀ w', Fr B BT w0 w' → w'.cell? ⟨bx, 1, none⟩ = some (.int .i64 at') ∧ w'.cell? ⟨bx, 2, none⟩ = some (.int .i64 n) ∧ w'.cell? ⟨bx, 6, none⟩ = some (.int .u32 af) ∧ w'.cell? ⟨bx, 7, none⟩ = some (.int .u32 ab) ∧ w'.cell? ⟨bx, 8, none⟩ = some (.int .u16 ag) := fun w' hf => by
    have hbx' := Block.fr hbx hf (.inl (by unfold BT PT RT; decide))
    exact ⟨hbx'.cell 1 rfl, hbx'.cell 2 rfl, hbx'.cell 6 rfl, hbx'.cell 7 rfl, hbx'.cell 8 rfl⟩
  have hs0 := hS _ (Fr.refl _ _ _)
  have k0 := hbx.cell 0 rfl
  obtain ⟨a1, a2, a6, a7, a8⟩ := hs0
  have hw1 : Fr B BT w w0 := Fr.of_below hb1
  replace hS := Lib.hid hS
  have hd0 : Below w0.heap.size w0 w0.drew := below_dr (Below.refl _ _) 1
  have hfd : Fr B BT w0 w0.drew := Fr.of_below hd0
  obtain ⟨d1, d2, d6, d7, d8⟩ := hS.out _ hfd
  have hp := pDel_K (h1.below hd0) hF at' n hnx ⟨af, ab, ag⟩
  have hr := Lib.hid (fun w' (hs : RC B w' r q Z) => rDel_K hs hG at' n hnz ⟨af, ab, ag⟩)
  try simp only at hr
  try simp only at hp
  generalize delK S at' n ⟨af, ab, ag⟩ = S' at hp ⊢
  generalize delK Z at' n ⟨af, ab, ag⟩ = Z' at hr ⊢
  generalize inA S at' = y1 at hp ⊢
  generalize inA Z at' = y2 at hr ⊢
  replace hp := Lib.hid hp
  have hwd := Lib.hid (hw1.trans hfd)
  replace hfd := Lib.hid hfd
  replace hbxe := Lib.hid hbxe
  have g9 := Lib.hid (g1.below hd0)
  have hab := k0
  rw [← hw0] at hab
  replace hw0 := Lib.hid hw0
  clear h g hF hG hnx hnz hbx h1 g1 hb1 hd0 hw1
  go_enter Tryz.func10, Tryz.ntmps10
  go_wp2
  rw [hw0.out, ← hbxe.out]
  go_region_held3 (fun w' => w'.cell? ⟨bx, 1, none⟩ = some (.int .i64 at') ∧ w'.cell? ⟨bx, 2, none⟩ = some (.int .i64 n) ∧ w'.cell? ⟨bx, 6, none⟩ = some (.int .u32 af) ∧ w'.cell? ⟨bx, 7, none⟩ = some (.int .u32 ab) ∧ w'.cell? ⟨bx, 8, none⟩ = some (.int .u16 ag))
    (first | exact ⟨a1, a2, a6, a7, a8⟩ | exact ⟨d1, d2, d6, d7, d8⟩ | exact hz3 | exact hz2)
    (first
      | (go_at_call 20; (with_reducible refine hp.out.mono ?_); rintro r' w2 ⟨rfl, hs2, hf2⟩; have hz2 := hS.out _ (hfd.out.trans (frP hf2)); have hr2 := Lib.hid (hr.out _ (g9.out.fr hf2 noPT)); replace hs2 := Lib.hid hs2; replace hf2 := Lib.hid hf2)
      | (go_at_call 29; (with_reducible refine hr2.out.mono ?_); rintro r' w3 ⟨rfl, hg3, hf3⟩; have hz3 := hS.out _ ((hfd.out.trans (frP hf2.out)).trans (frR hf3)); have hs3 := Lib.hid (hs2.out.fr hf3 noRT); have hf4 := Lib.hid ((hwd.out.trans (frP hf2.out)).trans (frR hf3)); replace hg3 := Lib.hid hg3; clear hf3))
  clear a1 a2 a6 a7 a8 d1 d2 d6 d7 d8 hz2 hz3
  go_wp2
  go_ret
  exact ⟨ret_bool (by simp), hs3.out, hg3.out, hf4.out⟩

set_option maxRecDepth 100000 in
set_option maxHeartbeats 4000000 in
theorem do_5 (h : SC B w x s S) (g : RC B w r q Z) (hF : Fit S) (hG : Fit Z) (o : Opr) (hk : o.kind = 5) :
    Calls Tryz.prog 10 #[.pointer (some ⟨x, 0, none⟩), .pointer (some ⟨r, 0, none⟩), .agg (opV o).toArray] w (DoDone B w x s r q (doS S o) (doS Z o) (mgA S o.at' o.n == mgA Z o.at' o.n)) := by
  rw [show doS S o = mgK S o.at' o.n by unfold doS; simp [hk], show doS Z o = mgK Z o.at' o.n by unfold doS; simp [hk]]
  obtain ⟨kind, at', n, cols, ru, wide, ⟨af, ab, ag⟩⟩ := o
  simp only at hk ⊢
  subst hk
  have hV : (opV ⟨5, at', n, cols, ru, wide, ⟨af, ab, ag⟩⟩).toArray = #[.int .i64 5, .int .i64 at', .int .i64 n, .int .i64 cols, .int .i32 ru, .bool wide, .int .u32 af, .int .u32 ab, .int .u16 ag] := rfl
  rw [hV]
  clear hV
  have hb1 := below_new w (.cells #[.int .i64 5, .int .i64 at', .int .i64 n, .int .i64 cols, .int .i32 ru, .bool wide, .int .u32 af, .int .u32 ab, .int .u16 ag] 39)
  have hbx := Block.made w 39 #[.int .i64 5, .int .i64 at', .int .i64 n, .int .i64 cols, .int .i32 ru, .bool wide, .int .u32 af, .int .u32 ab, .int .u16 ag]
  have h1 := h.below hb1
  have g1 := g.below hb1
  obtain ⟨bx, hbxe⟩ : ∃ bx, bx = w.heap.size := ⟨_, rfl⟩
  generalize hw0 : w.alloc (.cells #[.int .i64 5, .int .i64 at', .int .i64 n, .int .i64 cols, .int .i32 ru, .bool wide, .int .u32 af, .int .u32 ab, .int .u16 ag] 39) = w0 at hbx hb1 h1 g1
  rw [← hbxe] at hbx
  have hS : ∀ w', Fr B BT w0 w' → w'.cell? ⟨bx, 1, none⟩ = some (.int .i64 at') ∧ w'.cell? ⟨bx, 2, none⟩ = some (.int .i64 n) ∧ w'.cell? ⟨bx, 6, none⟩ = some (.int .u32 af) ∧ w'.cell? ⟨bx, 7, none⟩ = some (.int .u32 ab) ∧ w'.cell? ⟨bx, 8, none⟩ = some (.int .u16 ag) := fun w' hf => by
    have hbx' := Block.fr hbx hf (.inl (by unfold BT PT RT; decide))
    exact ⟨hbx'.cell 1 rfl, hbx'.cell 2 rfl, hbx'.cell 6 rfl, hbx'.cell 7 rfl, hbx'.cell 8 rfl⟩
  have hs0 := hS _ (Fr.refl _ _ _)
  have k0 := hbx.cell 0 rfl
  obtain ⟨a1, a2, a6, a7, a8⟩ := hs0
  have hw1 : Fr B BT w w0 := Fr.of_below hb1
  replace hS := Lib.hid hS
  have hd0 : Below w0.heap.size w0 w0.drew := below_dr (Below.refl _ _) 1
  have hfd : Fr B BT w0 w0.drew := Fr.of_below hd0
  obtain ⟨d1, d2, d6, d7, d8⟩ := hS.out _ hfd
  have hp := pMg_K (h1.below hd0) hF at' n
  have hr := Lib.hid (fun w' (hs : RC B w' r q Z) => rMg_K hs hG at' n)
  try simp only at hr
  try simp only at hp
  generalize mgK S at' n = S' at hp ⊢
  generalize mgK Z at' n = Z' at hr ⊢
  generalize mgA S at' n = y1 at hp ⊢
  generalize mgA Z at' n = y2 at hr ⊢
  replace hp := Lib.hid hp
  have hwd := Lib.hid (hw1.trans hfd)
  replace hfd := Lib.hid hfd
  replace hbxe := Lib.hid hbxe
  have g9 := Lib.hid (g1.below hd0)
  have hab := k0
  rw [← hw0] at hab
  replace hw0 := Lib.hid hw0
  clear h g hF hG hbx h1 g1 hb1 hd0 hw1
  go_enter Tryz.func10, Tryz.ntmps10
  go_wp2
  rw [hw0.out, ← hbxe.out]
  go_region_held3 (fun w' => w'.cell? ⟨bx, 1, none⟩ = some (.int .i64 at') ∧ w'.cell? ⟨bx, 2, none⟩ = some (.int .i64 n) ∧ w'.cell? ⟨bx, 6, none⟩ = some (.int .u32 af) ∧ w'.cell? ⟨bx, 7, none⟩ = some (.int .u32 ab) ∧ w'.cell? ⟨bx, 8, none⟩ = some (.int .u16 ag))
    (first | exact ⟨a1, a2, a6, a7, a8⟩ | exact ⟨d1, d2, d6, d7, d8⟩ | exact hz3 | exact hz2)
    (first
      | (go_at_call 18; (with_reducible refine hp.out.mono ?_); rintro r' w2 ⟨rfl, hs2, hf2⟩; have hz2 := hS.out _ (hfd.out.trans (frP hf2)); have hr2 := Lib.hid (hr.out _ (g9.out.fr hf2 noPT)); replace hs2 := Lib.hid hs2; replace hf2 := Lib.hid hf2)
      | (go_at_call 30; (with_reducible refine hr2.out.mono ?_); rintro r' w3 ⟨rfl, hg3, hf3⟩; have hz3 := hS.out _ ((hfd.out.trans (frP hf2.out)).trans (frR hf3)); have hs3 := Lib.hid (hs2.out.fr hf3 noRT); have hf4 := Lib.hid ((hwd.out.trans (frP hf2.out)).trans (frR hf3)); replace hg3 := Lib.hid hg3; clear hf3))
  clear a1 a2 a6 a7 a8 d1 d2 d6 d7 d8 hz2 hz3
  go_wp2
  go_ret
  exact ⟨ret_bool (by simp), hs3.out, hg3.out, hf4.out⟩

set_option maxRecDepth 100000 in
set_option maxHeartbeats 4000000 in
theorem do_else (h : SC B w x s S) (g : RC B w r q Z) (o : Opr) (hk : o.kind ≠ 1 ∧ o.kind ≠ 2 ∧ o.kind ≠ 3 ∧ o.kind ≠ 4 ∧ o.kind ≠ 5 ∧ o.kind ≠ 6 ∧ o.kind ≠ 7) :
    Calls Tryz.prog 10 #[.pointer (some ⟨x, 0, none⟩), .pointer (some ⟨r, 0, none⟩), .agg (opV o).toArray] w (DoDone B w x s r q (doS S o) (doS Z o) (true)) := by
  rw [show doS S o = S by unfold doS; simp [hk], show doS Z o = Z by unfold doS; simp [hk]]
  obtain ⟨kind, at', n, cols, ru, wide, ⟨af, ab, ag⟩⟩ := o
  simp only at hk ⊢
  have hV : (opV ⟨kind, at', n, cols, ru, wide, ⟨af, ab, ag⟩⟩).toArray = #[.int .i64 kind, .int .i64 at', .int .i64 n, .int .i64 cols, .int .i32 ru, .bool wide, .int .u32 af, .int .u32 ab, .int .u16 ag] := rfl
  rw [hV]
  clear hV
  have hb1 := below_new w (.cells #[.int .i64 kind, .int .i64 at', .int .i64 n, .int .i64 cols, .int .i32 ru, .bool wide, .int .u32 af, .int .u32 ab, .int .u16 ag] 39)
  have hbx := Block.made w 39 #[.int .i64 kind, .int .i64 at', .int .i64 n, .int .i64 cols, .int .i32 ru, .bool wide, .int .u32 af, .int .u32 ab, .int .u16 ag]
  have h1 := h.below hb1
  have g1 := g.below hb1
  obtain ⟨bx, hbxe⟩ : ∃ bx, bx = w.heap.size := ⟨_, rfl⟩
  generalize hw0 : w.alloc (.cells #[.int .i64 kind, .int .i64 at', .int .i64 n, .int .i64 cols, .int .i32 ru, .bool wide, .int .u32 af, .int .u32 ab, .int .u16 ag] 39) = w0 at hbx hb1 h1 g1
  rw [← hbxe] at hbx
  have hS : ∀ w', Fr B BT w0 w' → w'.cell? ⟨bx, 1, none⟩ = some (.int .i64 at') ∧ w'.cell? ⟨bx, 2, none⟩ = some (.int .i64 n) ∧ w'.cell? ⟨bx, 6, none⟩ = some (.int .u32 af) ∧ w'.cell? ⟨bx, 7, none⟩ = some (.int .u32 ab) ∧ w'.cell? ⟨bx, 8, none⟩ = some (.int .u16 ag) := fun w' hf => by
    have hbx' := Block.fr hbx hf (.inl (by unfold BT PT RT; decide))
    exact ⟨hbx'.cell 1 rfl, hbx'.cell 2 rfl, hbx'.cell 6 rfl, hbx'.cell 7 rfl, hbx'.cell 8 rfl⟩
  have hs0 := hS _ (Fr.refl _ _ _)
  have k0 := hbx.cell 0 rfl
  obtain ⟨a1, a2, a6, a7, a8⟩ := hs0
  have hw1 : Fr B BT w w0 := Fr.of_below hb1
  replace hS := Lib.hid hS
  have hab := k0
  rw [← hw0] at hab
  replace hw0 := Lib.hid hw0
  have hres := Lib.hid (⟨h1, g1, hw1⟩ : SC B w0 x s S ∧ RC B w0 r q Z ∧ Fr B BT w w0)
  rw [← hw0.out] at hres
  obtain ⟨n1, n2, n3, n4, n5, n6, n7⟩ := hk
  have e1 : (kind == 1) = false := beq_eq_false_iff_ne.2 n1
  have e2 : (kind == 2) = false := beq_eq_false_iff_ne.2 n2
  have e3 : (kind == 3) = false := beq_eq_false_iff_ne.2 n3
  have e4 : (kind == 4) = false := beq_eq_false_iff_ne.2 n4
  have e5 : (kind == 5) = false := beq_eq_false_iff_ne.2 n5
  have e6 : (kind == 6) = false := beq_eq_false_iff_ne.2 n6
  have e7 : (kind == 7) = false := beq_eq_false_iff_ne.2 n7
  replace hbxe := Lib.hid hbxe
  clear h g hbx h1 g1 hb1 hw1
  go_enter Tryz.func10, Tryz.ntmps10
  go_wp2
  go_ret
  exact ⟨rfl, hres.out⟩
end
end Go.Proofs.YtaoegfdaemmogaaGreat.Scn
