/- Part 13 of the proof that the card of EmuNone holds. -/
import Derived.Test.YtkjpjegmanpbfaaGreatDoorPN12
set_option maxHeartbeats 16000000
set_option maxRecDepth 100000
namespace Go.Proofs.YtkjpjegmanpbfaaGreatDoor.Scn
open Go Go.RowKit Go.Proofs.YtkjpjegmanpbfaaGreatDoor.Com Go.Proofs.YtkjpjegmanpbfaaGreatDoor.Rw Go.Proofs.YtkjpjegmanpbfaaGreatDoor.Lns
section
variable {B : Zn} {w w' : World} {x s : Nat} {S : Scr}
theorem fate_keep (h : SC B w x s S) (hk : S.kp = true) (v : Value) (hv : v = .int .i64 0) : Calls Tryz.prog 79 #[.pointer (some ⟨x, 0, none⟩), v] w fun e w' => e = .returned (.func (.func 151) #[.pointer (some ⟨x, 0, none⟩)] #[]) ∧ w = w' := by
 obtain ⟨_, c1, _, _, _, _⟩ := h.cells
 rw [hk] at c1
 have hmf := mkf
 subst hv
 clear h hk
 go_enter Tryz.func79, Tryz.ntmps79
 go_wp2
 go_ret
 exact ⟨rfl, rfl⟩
theorem fate_forget (h : SC B w x s S) (frm : Nat) (hk : S.kp = false ∨ frm ≠ 0) : Calls Tryz.prog 79 #[.pointer (some ⟨x, 0, none⟩), .int .i64 frm] w fun e w' => e = .returned (.func (.func 80) #[.pointer (some ⟨x, 0, none⟩)] #[]) ∧ w = w' := by
 obtain ⟨_, c1, _, _, _, _⟩ := h.cells
 have hmf := mkf
 generalize S.kp = kp at c1 hk
 clear h
 cases kp
 ·clear hk
  go_enter Tryz.func79, Tryz.ntmps79
  go_wp2
  go_ret
  exact ⟨rfl, rfl⟩
 ·have h0 : ((frm : Int) == 0) = false := beq_eq_false_iff_ne.2 (by
   rcases hk with hk | hk
   ·cases hk
   ·omega)
  clear hk
  go_enter Tryz.func79, Tryz.ntmps79
  go_wp2
  go_ret
  exact ⟨rfl, rfl⟩
theorem Up_forget (h : SC B w x s S) (hF : Fit S) (n : Int) (hnx : S.nx + 512 ≤ 1000000) (a : At) (hk : S.kp = false ∨ S.top ≠ 0) :
  Calls Tryz.prog 161 #[.pointer (some ⟨x, 0, none⟩), .int .i64 n, .agg #[.int .u32 a.f, .int .u32 a.b, .int .u16 a.g]] w (DidV B w x s (upS S S.top n a false) 0) := by
 have hb1 := below_new w (.cells #[.int .u32 a.f, .int .u32 a.b, .int .u16 a.g] 41)
 have hbx := Block.made w 41 #[.int .u32 a.f, .int .u32 a.b, .int .u16 a.g]
 have hmade := made_sc (h.below hb1) hF.len
 have h1 := h.below hb1
 have htb := hF.top
 obtain ⟨af, ab, ag⟩ := a
 simp only at hb1 hbx hmade ⊢
 obtain ⟨bx, hbxe⟩ : ∃ bx, bx = w.heap.size := ⟨_, rfl⟩
 replace hmade := Lib.hid hmade
 clear h
 go_enter Tryz.func161, Tryz.ntmps161
 go_wp2_with ((go_at_call 75; (with_reducible refine (hmade.out).mono ?_); rintro e w' ⟨rfl, rfl⟩))
 generalize w.alloc (.cells #[.int .u32 af, .int .u32 ab, .int .u16 ag] 41) = w0 at hbx hb1 h1 ⊢
 rw [← hbxe] at hbx ⊢
 replace hbxe := Lib.hid hbxe
 have hd0 : Below w0.heap.size w0 w0.drew := below_dr (Below.refl _ _) 1
 have hS : ∀ w' S', SC B w' x s S' → S'.top = S.top → Fr B PT w0 w' → w'.cell? ⟨x, 4, none⟩ = some (.int .i64 S.top) ∧ w'.cell? ⟨bx, 0, none⟩ = some (.int .u32 af) ∧ w'.cell? ⟨bx, 1, none⟩ = some (.int .u32 ab) ∧ w'.cell? ⟨bx, 2, none⟩ = some (.int .u16 ag) := fun w' S' hs hb hf => by
  have hbx' := Block.fr hbx hf (.inl (by decide))
  have := hs.cells.2.2.2.2.1
  rw [hb] at this
  exact ⟨this, hbx'.cell 0 rfl, hbx'.cell 1 rfl, hbx'.cell 2 rfl⟩
 obtain ⟨a0, a1, a2, a3⟩ := hS _ _ h1 rfl (Fr.refl _ _ _)
 have c1 := hS _ _ (h1.below hd0) rfl (Fr.of_below hd0)
 have hfa := fate_forget (h1.below hd0) S.top hk
 have hch := up_forget (h1.below hd0) hF S.top htb n hnx ⟨af, ab, ag⟩
 have hpt := Lib.hid (fun w' hs => hS w' (upS S S.top n ⟨af, ab, ag⟩ false) hs rfl)
 have hfr1 : Fr B PT w w0.drew := (Fr.of_below hb1).trans (Fr.of_below hd0)
 have hfr0 : Fr B PT w0 w0.drew := Fr.of_below hd0
 obtain ⟨S', hS'⟩ : ∃ S', S' = upS S S.top n ⟨af, ab, ag⟩ false := ⟨_, rfl⟩
 rw [← hS'] at hch hpt
 replace hS' := Lib.hid hS'
 simp only at hch
 generalize S.top = tp at a0 c1 hpt hfa hch hk
 replace hch := Lib.hid hch
 replace hfa := Lib.hid hfa
 replace hfr1 := Lib.hid hfr1
 replace hfr0 := Lib.hid hfr0
 clear hS hbx h1 hb1 hd0 hF hnx htb hk
 go_region_held3 (fun w' => w'.cell? ⟨x, 4, none⟩ = some (.int .i64 tp) ∧ w'.cell? ⟨bx, 0, none⟩ = some (.int .u32 af) ∧ w'.cell? ⟨bx, 1, none⟩ = some (.int .u32 ab) ∧ w'.cell? ⟨bx, 2, none⟩ = some (.int .u16 ag))
  (first | exact ⟨a0, a1, a2, a3⟩ | exact c1 | exact hz)
  (first
   | (go_at_call 79; (with_reducible refine hfa.out.mono ?_); rintro r w1 ⟨rfl, rfl⟩)
   | (go_at_call 202; (with_reducible refine hch.out.mono ?_); rintro r w2 ⟨⟨v2, rfl⟩, hs2, hf2⟩; have hz := hpt.out _ hs2 (hfr0.out.trans hf2)))
 have hres := Lib.hid (And.intro hs2 (hfr1.out.trans hf2))
 clear hs2 hf2 hz a0 a1 a2 a3 c1
 go_wp2
 go_ret
 exact ⟨rfl, by rw [← hS'.out]; exact hres.out⟩
theorem Up_keep (h : SC B w x s S) (hF : Fit S) (n : Int) (hnx : S.nx + 512 ≤ 1000000) (a : At) (hk : S.kp = true ∧ S.top = 0) :
  Calls Tryz.prog 161 #[.pointer (some ⟨x, 0, none⟩), .int .i64 n, .agg #[.int .u32 a.f, .int .u32 a.b, .int .u16 a.g]] w (DidV B w x s (upS S S.top n a true) 0) := by
 have hb1 := below_new w (.cells #[.int .u32 a.f, .int .u32 a.b, .int .u16 a.g] 41)
 have hbx := Block.made w 41 #[.int .u32 a.f, .int .u32 a.b, .int .u16 a.g]
 have hmade := made_sc (h.below hb1) hF.len
 have h1 := h.below hb1
 have htb := hF.top
 obtain ⟨af, ab, ag⟩ := a
 simp only at hb1 hbx hmade ⊢
 obtain ⟨bx, hbxe⟩ : ∃ bx, bx = w.heap.size := ⟨_, rfl⟩
 replace hmade := Lib.hid hmade
 clear h
 go_enter Tryz.func161, Tryz.ntmps161
 go_wp2_with ((go_at_call 75; (with_reducible refine (hmade.out).mono ?_); rintro e w' ⟨rfl, rfl⟩))
 generalize w.alloc (.cells #[.int .u32 af, .int .u32 ab, .int .u16 ag] 41) = w0 at hbx hb1 h1 ⊢
 rw [← hbxe] at hbx ⊢
 replace hbxe := Lib.hid hbxe
 have hd0 : Below w0.heap.size w0 w0.drew := below_dr (Below.refl _ _) 1
 have hS : ∀ w' S', SC B w' x s S' → S'.top = S.top → Fr B PT w0 w' → w'.cell? ⟨x, 4, none⟩ = some (.int .i64 S.top) ∧ w'.cell? ⟨bx, 0, none⟩ = some (.int .u32 af) ∧ w'.cell? ⟨bx, 1, none⟩ = some (.int .u32 ab) ∧ w'.cell? ⟨bx, 2, none⟩ = some (.int .u16 ag) := fun w' S' hs hb hf => by
  have hbx' := Block.fr hbx hf (.inl (by decide))
  have := hs.cells.2.2.2.2.1
  rw [hb] at this
  exact ⟨this, hbx'.cell 0 rfl, hbx'.cell 1 rfl, hbx'.cell 2 rfl⟩
 obtain ⟨a0, a1, a2, a3⟩ := hS _ _ h1 rfl (Fr.refl _ _ _)
 have c1 := hS _ _ (h1.below hd0) rfl (Fr.of_below hd0)
 have hfa := fate_keep (h1.below hd0) hk.1 (.int .i64 S.top) (by rw [hk.2]; rfl)
 have hch := up_keep (h1.below hd0) hF S.top htb n hnx ⟨af, ab, ag⟩
 have hpt := Lib.hid (fun w' hs => hS w' (upS S S.top n ⟨af, ab, ag⟩ true) hs rfl)
 have hfr1 : Fr B PT w w0.drew := (Fr.of_below hb1).trans (Fr.of_below hd0)
 have hfr0 : Fr B PT w0 w0.drew := Fr.of_below hd0
 obtain ⟨S', hS'⟩ : ∃ S', S' = upS S S.top n ⟨af, ab, ag⟩ true := ⟨_, rfl⟩
 rw [← hS'] at hch hpt
 replace hS' := Lib.hid hS'
 simp only at hch
 generalize S.top = tp at a0 c1 hpt hfa hch hk
 replace hch := Lib.hid hch
 replace hfa := Lib.hid hfa
 replace hfr1 := Lib.hid hfr1
 replace hfr0 := Lib.hid hfr0
 clear hS hbx h1 hb1 hd0 hF hnx htb hk
 go_region_held3 (fun w' => w'.cell? ⟨x, 4, none⟩ = some (.int .i64 tp) ∧ w'.cell? ⟨bx, 0, none⟩ = some (.int .u32 af) ∧ w'.cell? ⟨bx, 1, none⟩ = some (.int .u32 ab) ∧ w'.cell? ⟨bx, 2, none⟩ = some (.int .u16 ag))
  (first | exact ⟨a0, a1, a2, a3⟩ | exact c1 | exact hz)
  (first
   | (go_at_call 79; (with_reducible refine hfa.out.mono ?_); rintro r w1 ⟨rfl, rfl⟩)
   | (go_at_call 202; (with_reducible refine hch.out.mono ?_); rintro r w2 ⟨⟨v2, rfl⟩, hs2, hf2⟩; have hz := hpt.out _ hs2 (hfr0.out.trans hf2)))
 have hres := Lib.hid (And.intro hs2 (hfr1.out.trans hf2))
 clear hs2 hf2 hz a0 a1 a2 a3 c1
 go_wp2
 go_ret
 exact ⟨rfl, by rw [← hS'.out]; exact hres.out⟩
theorem Down_sc (h : SC B w x s S) (hF : Fit S) (n : Int) (hnx : S.nx + 512 ≤ 1000000) (a : At) :
  Calls Tryz.prog 116 #[.pointer (some ⟨x, 0, none⟩), .int .i64 n, .agg #[.int .u32 a.f, .int .u32 a.b, .int .u16 a.g]] w (DidV B w x s (downS S S.top n a) 0) := by
 have hb1 := below_new w (.cells #[.int .u32 a.f, .int .u32 a.b, .int .u16 a.g] 41)
 have hbx := Block.made w 41 #[.int .u32 a.f, .int .u32 a.b, .int .u16 a.g]
 have hmade := made_sc (h.below hb1) hF.len
 have h1 := h.below hb1
 have htb := hF.top
 obtain ⟨af, ab, ag⟩ := a
 simp only at hb1 hbx hmade ⊢
 obtain ⟨bx, hbxe⟩ : ∃ bx, bx = w.heap.size := ⟨_, rfl⟩
 replace hmade := Lib.hid hmade
 clear h
 go_enter Tryz.func116, Tryz.ntmps116
 go_wp2_with ((go_at_call 75; (with_reducible refine (hmade.out).mono ?_); rintro e w' ⟨rfl, rfl⟩))
 generalize w.alloc (.cells #[.int .u32 af, .int .u32 ab, .int .u16 ag] 41) = w0 at hbx hb1 h1 ⊢
 rw [← hbxe] at hbx ⊢
 replace hbxe := Lib.hid hbxe
 have hd0 : Below w0.heap.size w0 w0.drew := below_dr (Below.refl _ _) 1
 have hS : ∀ w' S', SC B w' x s S' → S'.top = S.top → Fr B PT w0 w' → w'.cell? ⟨x, 4, none⟩ = some (.int .i64 S.top) ∧ w'.cell? ⟨bx, 0, none⟩ = some (.int .u32 af) ∧ w'.cell? ⟨bx, 1, none⟩ = some (.int .u32 ab) ∧ w'.cell? ⟨bx, 2, none⟩ = some (.int .u16 ag) := fun w' S' hs hb hf => by
  have hbx' := Block.fr hbx hf (.inl (by decide))
  have := hs.cells.2.2.2.2.1
  rw [hb] at this
  exact ⟨this, hbx'.cell 0 rfl, hbx'.cell 1 rfl, hbx'.cell 2 rfl⟩
 obtain ⟨a0, a1, a2, a3⟩ := hS _ _ h1 rfl (Fr.refl _ _ _)
 have c1 := hS _ _ (h1.below hd0) rfl (Fr.of_below hd0)
 have hch := down_sc (h1.below hd0) hF S.top htb n hnx ⟨af, ab, ag⟩
 have hpt := Lib.hid (fun w' hs => hS w' (downS S S.top n ⟨af, ab, ag⟩) hs rfl)
 have hfr1 : Fr B PT w w0.drew := (Fr.of_below hb1).trans (Fr.of_below hd0)
 have hfr0 : Fr B PT w0 w0.drew := Fr.of_below hd0
 obtain ⟨S', hS'⟩ : ∃ S', S' = downS S S.top n ⟨af, ab, ag⟩ := ⟨_, rfl⟩
 rw [← hS'] at hch hpt
 replace hS' := Lib.hid hS'
 simp only at hch
 generalize S.top = tp at a0 c1 hpt hch
 replace hch := Lib.hid hch
 replace hfr1 := Lib.hid hfr1
 replace hfr0 := Lib.hid hfr0
 clear hS hbx h1 hb1 hd0 hF hnx htb
 go_region_held3 (fun w' => w'.cell? ⟨x, 4, none⟩ = some (.int .i64 tp) ∧ w'.cell? ⟨bx, 0, none⟩ = some (.int .u32 af) ∧ w'.cell? ⟨bx, 1, none⟩ = some (.int .u32 ab) ∧ w'.cell? ⟨bx, 2, none⟩ = some (.int .u16 ag))
  (first | exact ⟨a0, a1, a2, a3⟩ | exact c1 | exact hz)
  (first
   | (go_at_call 174; (with_reducible refine hch.out.mono ?_); rintro r w2 ⟨⟨v2, rfl⟩, hs2, hf2⟩; have hz := hpt.out _ hs2 (hfr0.out.trans hf2)))
 have hres := Lib.hid (And.intro hs2 (hfr1.out.trans hf2))
 clear hs2 hf2 hz a0 a1 a2 a3 c1
 go_wp2
 go_ret
 exact ⟨rfl, by rw [← hS'.out]; exact hres.out⟩
theorem ins_no (h : SC B w x s S) (hF : Fit S) (at' n : Int) (hat : ¬ ((S.top : Int) ≤ at' ∧ at' ≤ S.bot)) (a : At) :
  Calls Tryz.prog 185 #[.pointer (some ⟨x, 0, none⟩), .int .i64 at', .int .i64 n, .agg #[.int .u32 a.f, .int .u32 a.b, .int .u16 a.g]] w (DidV B w x s S 2) := by
 have hb1 := below_new w (.cells #[.int .u32 a.f, .int .u32 a.b, .int .u16 a.g] 41)
 have hmade := made_sc (h.below hb1) hF.len
 have hw := within_sc (h.below hb1) at'
 rw [decide_eq_false hat] at hw
 have hres := Lib.hid (fun w' hb => (⟨h.below hb, Fr.of_below hb⟩ : SC B w' x s S ∧ Fr B PT w w'))
 obtain ⟨af, ab, ag⟩ := a
 simp only at hb1 hmade hw ⊢
 replace hmade := Lib.hid hmade
 replace hw := Lib.hid hw
 replace hb1 := Lib.hid hb1
 clear h hF hat
 go_enter Tryz.func185, Tryz.ntmps185
 go_wp2_with (first
  | (go_at_call 75; (with_reducible refine (hmade.out).mono ?_); rintro e w' ⟨rfl, rfl⟩)
  | (go_at_call 209; (with_reducible refine (hw.out).mono ?_); rintro e w1 ⟨rfl, hbw⟩))
 go_ret
 exact ⟨rfl, hres.out _ (below_next hb1.out hbw)⟩
theorem ins_yes (h : SC B w x s S) (hF : Fit S) (at' : Nat) (n : Int) (h0 : S.top ≤ at') (h1 : at' ≤ S.bot) (hnx : S.nx + 512 ≤ 1000000) (a : At) :
  Calls Tryz.prog 185 #[.pointer (some ⟨x, 0, none⟩), .int .i64 at', .int .i64 n, .agg #[.int .u32 a.f, .int .u32 a.b, .int .u16 a.g]] w (DidV B w x s (downS S at' n a) 0) := by
 have hb1 := below_new w (.cells #[.int .u32 a.f, .int .u32 a.b, .int .u16 a.g] 41)
 have hbx := Block.made w 41 #[.int .u32 a.f, .int .u32 a.b, .int .u16 a.g]
 have hmade := made_sc (h.below hb1) hF.len
 have hw := within_sc (h.below hb1) at'
 rw [decide_eq_true (by omega)] at hw
 have hch := fun w' hb => down_sc (h.below (w' := w') hb) hF at' h1 n hnx a
 obtain ⟨af, ab, ag⟩ := a
 generalize downS S at' n ⟨af, ab, ag⟩ = S' at hch ⊢
 simp only at hb1 hbx hmade hw hch ⊢
 have hmf := mkf
 replace hmade := Lib.hid hmade
 replace hw := Lib.hid hw
 replace hch := Lib.hid hch
 replace hb1 := Lib.hid hb1
 obtain ⟨bx, hbxe⟩ : ∃ bx, bx = w.heap.size := ⟨_, rfl⟩
 clear h hF h0 h1 hnx
 go_enter Tryz.func185, Tryz.ntmps185
 go_wp2_with (first
  | (go_at_call 75; (with_reducible refine (hmade.out).mono ?_); rintro e w' ⟨rfl, rfl⟩)
  | (go_at_call 209; (with_reducible refine (hw.out).mono ?_); rintro e w1 ⟨rfl, hbw⟩; have hb2 := hbx.only (Only.of_below hbw []) (by simp); have a0 := hb2.cell 0 rfl; have a1 := hb2.cell 1 rfl; have a2 := hb2.cell 2 rfl; have hbb := below_next hb1.out hbw)
  | (go_at_call 174; (with_reducible refine (hch.out _ hbb).mono ?_); rintro r w2 ⟨⟨v2, rfl⟩, hs2, hf2⟩))
 go_ret
 exact ⟨rfl, hs2, (Fr.of_below hbb).trans hf2⟩
theorem del_no (h : SC B w x s S) (hF : Fit S) (at' n : Int) (hat : ¬ ((S.top : Int) ≤ at' ∧ at' ≤ S.bot)) (a : At) :
  Calls Tryz.prog 186 #[.pointer (some ⟨x, 0, none⟩), .int .i64 at', .int .i64 n, .agg #[.int .u32 a.f, .int .u32 a.b, .int .u16 a.g]] w (DidV B w x s S 2) := by
 have hb1 := below_new w (.cells #[.int .u32 a.f, .int .u32 a.b, .int .u16 a.g] 41)
 have hmade := made_sc (h.below hb1) hF.len
 have hw := within_sc (h.below hb1) at'
 rw [decide_eq_false hat] at hw
 have hres := Lib.hid (fun w' hb => (⟨h.below hb, Fr.of_below hb⟩ : SC B w' x s S ∧ Fr B PT w w'))
 obtain ⟨af, ab, ag⟩ := a
 simp only at hb1 hmade hw ⊢
 replace hmade := Lib.hid hmade
 replace hw := Lib.hid hw
 replace hb1 := Lib.hid hb1
 clear h hF hat
 go_enter Tryz.func186, Tryz.ntmps186
 go_wp2_with (first
  | (go_at_call 75; (with_reducible refine (hmade.out).mono ?_); rintro e w' ⟨rfl, rfl⟩)
  | (go_at_call 209; (with_reducible refine (hw.out).mono ?_); rintro e w1 ⟨rfl, hbw⟩))
 go_ret
 exact ⟨rfl, hres.out _ (below_next hb1.out hbw)⟩
theorem del_yes (h : SC B w x s S) (hF : Fit S) (at' : Nat) (n : Int) (h0 : S.top ≤ at') (h1 : at' ≤ S.bot) (hnx : S.nx + 512 ≤ 1000000) (a : At) :
  Calls Tryz.prog 186 #[.pointer (some ⟨x, 0, none⟩), .int .i64 at', .int .i64 n, .agg #[.int .u32 a.f, .int .u32 a.b, .int .u16 a.g]] w (DidV B w x s (upS S at' n a false) 0) := by
 have hb1 := below_new w (.cells #[.int .u32 a.f, .int .u32 a.b, .int .u16 a.g] 41)
 have hbx := Block.made w 41 #[.int .u32 a.f, .int .u32 a.b, .int .u16 a.g]
 have hmade := made_sc (h.below hb1) hF.len
 have hw := within_sc (h.below hb1) at'
 rw [decide_eq_true (by omega)] at hw
 have hch := fun w' hb => up_forget (h.below (w' := w') hb) hF at' h1 n hnx a
 obtain ⟨af, ab, ag⟩ := a
 generalize upS S at' n ⟨af, ab, ag⟩ false = S' at hch ⊢
 simp only at hb1 hbx hmade hw hch ⊢
 have hmf := mkf
 replace hmade := Lib.hid hmade
 replace hw := Lib.hid hw
 replace hch := Lib.hid hch
 replace hb1 := Lib.hid hb1
 obtain ⟨bx, hbxe⟩ : ∃ bx, bx = w.heap.size := ⟨_, rfl⟩
 clear h hF h0 h1 hnx
 go_enter Tryz.func186, Tryz.ntmps186
 go_wp2_with (first
  | (go_at_call 75; (with_reducible refine (hmade.out).mono ?_); rintro e w' ⟨rfl, rfl⟩)
  | (go_at_call 209; (with_reducible refine (hw.out).mono ?_); rintro e w1 ⟨rfl, hbw⟩; have hb2 := hbx.only (Only.of_below hbw []) (by simp); have a0 := hb2.cell 0 rfl; have a1 := hb2.cell 1 rfl; have a2 := hb2.cell 2 rfl; have hbb := below_next hb1.out hbw)
  | (go_at_call 202; (with_reducible refine (hch.out _ hbb).mono ?_); rintro r w2 ⟨⟨v2, rfl⟩, hs2, hf2⟩))
 go_ret
 exact ⟨rfl, hs2, (Fr.of_below hbb).trans hf2⟩
def okMarg (S : Scr) (t b : Int) : Prop := (t = 0 ∧ b = (S.L.length : Int) - 1) ∨ (0 ≤ t ∧ t < b ∧ b ≤ (S.L.length : Int) - 1)
instance (S : Scr) (t b : Int) : Decidable (okMarg S t b) := by unfold okMarg; infer_instance
theorem may_sc (h : SC B w x s S) (h5 : S.L.length ≤ 512) (t b : Int) : Calls Tryz.prog 210 #[.pointer (some ⟨x, 0, none⟩), .int .i64 t, .int .i64 b] w fun e w' => e = .returned (.bool (decide (okMarg S t b))) ∧ w = w' := by
 obtain ⟨_, _, _, ⟨ao, c, c3⟩, _, _⟩ := h.cells
 have hy : decide (okMarg S t b) = true ↔ ((t = 0 ∧ b = (S.L.length : Int) - 1) ∨ (0 ≤ t ∧ t < b ∧ b ≤ (S.L.length : Int) - 1)) := decide_eq_true_iff
 generalize decide (okMarg S t b) = y at hy ⊢
 generalize S.L.length = n at c3 h5 hy
 have hw : IntKind.i64.wrap ((n : Int) - 1) = (n : Int) - 1 := IntWalk.i64_in _ (by omega)
 replace hy := Lib.hid hy
 clear h
 go_enter Tryz.func210, Tryz.ntmps210
 go_wp2
 all_goals
  go_ret
  exact ⟨ret_bool (by rw [Bool.eq_iff_iff, hy.out]; simp <;> omega), rfl⟩
theorem setm_yes (h : SC B w x s S) (hF : Fit S) (t b : Nat) (hok : okMarg S t b) : Calls Tryz.prog 187 #[.pointer (some ⟨x, 0, none⟩), .int .i64 t, .int .i64 b] w (DidV B w x s { S with top := t, bot := b } 0) := by
 have hmade := Lib.hid (made_sc h hF.len)
 have hm := may_sc h hF.len5 t b
 rw [decide_eq_true hok] at hm
 obtain ⟨_, _, _, _, c4, c5⟩ := h.cells
 have f4 := h.free 4
 have f5 := h.free 5
 have hres := Lib.hid (h.setMarg t b)
 replace hm := Lib.hid hm
 generalize ({ S with top := t, bot := b } : Scr) = S' at hres ⊢
 clear h hF hok
 go_enter Tryz.func187, Tryz.ntmps187
 go_wp2_with (first
  | (go_at_call 75; (with_reducible refine (hmade.out).mono ?_); rintro e w' ⟨rfl, rfl⟩)
  | (go_at_call 210; (with_reducible refine (hm.out).mono ?_); rintro e w' ⟨rfl, rfl⟩))
 try go_region
 try go_wp2
 go_ret
 exact ⟨rfl, hres.out⟩
end
section
variable {B : Zn} {w w' : World} {x s : Nat} {S : Scr}
theorem count_sc (n : Int) (w : World) : Calls Tryz.prog 76 #[.int .i64 n] w fun e w' => e = .returned (.bool (decide (1 ≤ n ∧ n ≤ 512))) ∧ w = w' := by
 have hy : decide (1 ≤ n ∧ n ≤ 512) = true ↔ (1 ≤ n ∧ n ≤ 512) := decide_eq_true_iff
 generalize decide (1 ≤ n ∧ n ≤ 512) = y at hy ⊢
 replace hy := Lib.hid hy
 by_cases h1 : 1 ≤ n
 ·go_enter Tryz.func76, Tryz.ntmps76
  go_wp2
  all_goals
   go_ret
   exact ⟨ret_bool (by rw [Bool.eq_iff_iff, hy.out]; simp <;> omega), rfl⟩
 ·have h2 : decide (1 ≤ n) = false := decide_eq_false h1
  go_enter Tryz.func76, Tryz.ntmps76
  go_wp2
  all_goals
   go_ret
   exact ⟨ret_bool (by symm; rw [Bool.eq_false_iff]; intro h3; have := hy.out.1 h3; omega), rfl⟩
end
section
variable {B : Zn} {w w' : World} {x s nx most : Nat} {sv : Value} {R : List En} {S : Scr}
def newS (nx most rows cols : Nat) (kp : Bool) (R : List Ln) : Scr := margS (chg { nx := nx, most := most, kp := kp, cols := cols, top := 0, bot := 0, L := [], R := R } 0 0 0 rows zeroAt false)
theorem newS_L (nx most rows cols : Nat) (kp : Bool) (R : List Ln) : (newS nx most rows cols kp R).L = freshS nx cols rows zeroAt := by
 show insA (outA [] 0 0) 0 (freshS nx cols rows zeroAt) = _
 simp [insA, outA]
theorem newS_fit {nx most rows cols : Nat} {kp : Bool} {R : List Ln} (h1 : 1 ≤ rows) (h5 : rows ≤ 512) (c1 : 1 ≤ cols) (c5 : cols ≤ 512) (hn : 1 ≤ nx) : Fit (newS nx most rows cols kp R) := by
 have hL := newS_L nx most rows cols kp R
 have hl : (newS nx most rows cols kp R).L.length = rows := by rw [hL, freshS_len]
 have hb : (newS nx most rows cols kp R).bot = (newS nx most rows cols kp R).L.length - 1 := rfl
 refine ⟨by omega, by omega, by omega, Nat.zero_le _, c1, c5, fun p hp => ?_, fun p hp => ?_, Nat.le_trans hn (Nat.le_add_right _ _)⟩
 ·rw [hL] at hp
  exact (freshS_mem hp).1
 ·rw [hL] at hp
  have := freshS_mem hp
  refine ⟨by omega, ?_⟩
  show p.1 < ((nx + rows : Nat) : Int)
  omega
theorem there_any (h : SX 0 w s nx most sv R) : Calls Tryz.prog 97 #[.pointer (some ⟨s, 0, none⟩)] w fun e w' => e = .returned (.bool true) ∧ w = w' := by
 have hn := Lib.hid (next_any h)
 have hp : (0 : Int) < (nx : Int) := by
  obtain ⟨⟨o, P, h0, _⟩, _⟩ := h
  have := h0.pos
  omega
 clear h
 go_enter Tryz.func97, Tryz.ntmps97
 go_wp2_with ((go_at_call 157; (with_reducible refine (hn.out).mono ?_); rintro e w' ⟨rfl, rfl⟩))
 go_ret
 first | exact ⟨rfl, rfl⟩ | exact ⟨ret_bool (decide_eq_true (by omega)), rfl⟩
theorem snew_yes (h : SX 0 w s nx most sv R) (hz : B s ∧ (∀ g, sv.ownBlock = some g → B g) ∧ (∀ e ∈ R, B e.d ∧ B e.g) ∧ ∀ k, w.heap.size ≤ k → B k) (hd : (R.map En.d).Nodup) (hg : (R.map En.g).Nodup) (rows cols : Nat) (kp : Bool) (hr1 : 1 ≤ rows) (hr5 : rows ≤ 512) (hc1 : 1 ≤ cols) (hc5 : cols ≤ 512) (hnx : nx + 512 ≤ 1000000) :
  Calls Tryz.prog 49 #[.int .i64 rows, .int .i64 cols, .pointer (some ⟨s, 0, none⟩), .bool kp] w fun e w' => e = .returned (.tuple #[.pointer (some ⟨w.heap.size, 0, none⟩), .int .i64 0]) ∧ SC B w' w.heap.size s (newS nx most rows cols kp (vw R)) ∧ Fr B PT w w' := by
 have h1 := fun w => count_sc rows w
 rw [decide_eq_true (by omega)] at h1
 have h2 := fun w => count_sc cols w
 rw [decide_eq_true (by omega)] at h2
 have h3 := there_any h
 have hb := below_new w (.cells #[.pointer (some ⟨s, 0, none⟩), .bool kp, .int .i64 cols, .slice none 0 0, .int .i64 0, .int .i64 0] 142)
 have hBw : LoX B (w.alloc (.cells #[.pointer (some ⟨s, 0, none⟩), .bool kp, .int .i64 cols, .slice none 0 0, .int .i64 0, .int .i64 0] 142)) w.heap.size s sv (.slice none 0 0) R :=
  ⟨hz.2.2.2 _ (Nat.le_refl _), hz.1, fun g hg => (by cases hg), hz.2.1, hz.2.2.1, fun k hk => hz.2.2.2 k (Nat.le_trans hb.size hk)⟩
 have hplt := fun g hg => (h.ptyp g hg).2.1
 have hS0 : SC B (w.alloc (.cells #[.pointer (some ⟨s, 0, none⟩), .bool kp, .int .i64 cols, .slice none 0 0, .int .i64 0, .int .i64 0] 142)) w.heap.size s { nx := nx, most := most, kp := kp, cols := cols, top := 0, bot := 0, L := [], R := vw R } :=
  ⟨sv, .slice none 0 0, [], R, ⟨⟨Block.made w _ _, World.ownsRow_nil _ _ _ _, h.below hb, fun g hg => (by cases hg), hBw, by simp⟩, by simp, by simp, by simpa using hd, by simpa using hg⟩, rfl, rfl⟩
 have hch := chg_forget hS0 0 0 0 rows (by simp) (by simp) (by simp; omega) (by show nx + rows ≤ _; omega) hc1 hc5 zeroAt
 have hch' : Calls Tryz.prog 78 #[.pointer (some ⟨w.heap.size, 0, none⟩), .agg #[.int .i64 0, .int .i64 0], .agg #[.int .i64 0, .int .i64 rows], .agg #[.int .u32 0, .int .u32 0, .int .u16 0], .func (.func 80) #[.pointer (some ⟨w.heap.size, 0, none⟩)] #[]] (w.alloc (.cells #[.pointer (some ⟨s, 0, none⟩), .bool kp, .int .i64 cols, .slice none 0 0, .int .i64 0, .int .i64 0] 142)) (Did B _ w.heap.size s _) := hch
 clear hch
 have hcl : (chg { nx := nx, most := most, kp := kp, cols := cols, top := 0, bot := 0, L := [], R := vw R } 0 0 0 rows zeroAt false).L.length = rows := by rw [chg_len (by simp)]; simp
 have hm := fun w' (hs : SC B w' w.heap.size s (chg { nx := nx, most := most, kp := kp, cols := cols, top := 0, bot := 0, L := [], R := vw R } 0 0 0 rows zeroAt false)) => marg_sc hs (by omega) (by omega)
 unfold newS
 generalize chg { nx := nx, most := most, kp := kp, cols := cols, top := 0, bot := 0, L := [], R := vw R } 0 0 0 rows zeroAt false = S1 at hch' hm hcl ⊢
 generalize margS S1 = S2 at hm ⊢
 have hmf := mkf
 replace h1 := Lib.hid h1
 replace h2 := Lib.hid h2
 replace h3 := Lib.hid h3
 replace hm := Lib.hid hm
 replace hch' := Lib.hid hch'
 replace hb := Lib.hid hb
 clear h hd hg hS0 hr1 hr5 hc1 hc5 hnx hplt hcl
 go_enter Tryz.func49, Tryz.ntmps49
 go_wp2_with (first
  | (go_at_call 76; (with_reducible refine (h1.out _).mono ?_); rintro e w' ⟨rfl, rfl⟩)
  | (go_at_call 76; (with_reducible refine (h2.out _).mono ?_); rintro e w' ⟨rfl, rfl⟩)
  | (go_at_call 97; (with_reducible refine (h3.out).mono ?_); rintro e w' ⟨rfl, rfl⟩)
  | (go_at_call 78; (with_reducible refine hch'.out.mono ?_); rintro r w2 ⟨⟨v2, rfl⟩, hs2, hf2⟩)
  | (go_at_call 82; (with_reducible refine (hm.out _ hs2).mono ?_); rintro r w3 ⟨⟨v3, rfl⟩, hs3, hf3⟩))
 go_ret2
 exact ⟨rfl, hs3, ((Fr.of_below hb.out).trans hf2).trans hf3⟩
end
end Go.Proofs.YtkjpjegmanpbfaaGreatDoor.Scn
