/-
  screen: Up, Down, InsertLines, DeleteLines, SetMargins.
-/
import Derived.Test.YtaoegfdaemmogaaGreatNWide
namespace Go.Proofs.YtaoegfdaemmogaaGreat.Scn
open Go Go.RowKit Go.Proofs.YtaoegfdaemmogaaGreat.Com Go.Proofs.YtaoegfdaemmogaaGreat.Rw Go.Proofs.YtaoegfdaemmogaaGreat.Lns
section
variable {B : Nat} {w w' : World} {x s : Nat} {S : Scr}
theorem fate_keep (h : SC B w x s S) (hk : S.kp = true) (v : Value) (hv : v = .int .i64 0) : Calls Tryz.prog 47 #[.pointer (some ⟨x, 0, none⟩), v] w fun e w' => e = .returned (.func (.func 77) #[.pointer (some ⟨x, 0, none⟩)] #[]) ∧ w = w' := by
  obtain ⟨_, c1, _, _, _, _⟩ := h.cells
  rw [hk] at c1
  have hmf := mkf
  subst hv
  clear h hk
  go_enter Tryz.func47, Tryz.ntmps47
  go_wp2
  go_ret
  exact ⟨rfl, rfl⟩
theorem fate_forget (h : SC B w x s S) (frm : Nat) (hk : S.kp = false ∨ frm ≠ 0) : Calls Tryz.prog 47 #[.pointer (some ⟨x, 0, none⟩), .int .i64 frm] w fun e w' => e = .returned (.func (.func 54) #[.pointer (some ⟨x, 0, none⟩)] #[]) ∧ w = w' := by
  obtain ⟨_, c1, _, _, _, _⟩ := h.cells
  have hmf := mkf
  generalize S.kp = kp at c1 hk
  clear h
  cases kp
  · clear hk
    go_enter Tryz.func47, Tryz.ntmps47
    go_wp2
    go_ret
    exact ⟨rfl, rfl⟩
  · have h0 : ((frm : Int) == 0) = false := beq_eq_false_iff_ne.2 (by
      rcases hk with hk | hk
      · cases hk
      · omega)
    clear hk
    go_enter Tryz.func47, Tryz.ntmps47
    go_wp2
    go_ret
    exact ⟨rfl, rfl⟩

set_option maxHeartbeats 2000000 in
theorem Up_forget (h : SC B w x s S) (hF : Fit S) (n : Int) (hnx : S.nx + 512 ≤ 1000000) (a : At) (hk : S.kp = false ∨ S.top ≠ 0) :
    Calls Tryz.prog 13 #[.pointer (some ⟨x, 0, none⟩), .int .i64 n, .agg #[.int .u32 a.f, .int .u32 a.b, .int .u16 a.g]] w (DidV B w x s (upS S S.top n a false) 0) := by
  have hb1 := below_new w (.cells #[.int .u32 a.f, .int .u32 a.b, .int .u16 a.g] 37)
  have hbx := Block.made w 37 #[.int .u32 a.f, .int .u32 a.b, .int .u16 a.g]
  have hmade := made_sc (h.below hb1) hF.len
  have h1 := h.below hb1
  have htb := hF.top
  obtain ⟨af, ab, ag⟩ := a
  simp only at hb1 hbx hmade ⊢
  obtain ⟨bx, hbxe⟩ : ∃ bx, bx = w.heap.size := ⟨_, rfl⟩
  replace hmade := Lib.hid hmade
  clear h
  go_enter Tryz.func13, Tryz.ntmps13
  go_wp2_with ((go_at_call 45; (with_reducible refine (hmade.out).mono ?_); rintro e w' ⟨rfl, rfl⟩))
  generalize w.alloc (.cells #[.int .u32 af, .int .u32 ab, .int .u16 ag] 37) = w0 at hbx hb1 h1 ⊢
  rw [← hbxe] at hbx ⊢
  replace hbxe := Lib.hid hbxe
  have hd0 : Below w0.heap.size w0 w0.drew := below_dr (Below.refl _ _) 1
  have hS : ∀ w' S', SC B w' x s S' → S'.top = S.top → Fr B PT w0 w' → w'.cell? ⟨x, 4, none⟩ = some (.int .i64 S.top) ∧ w'.cell? ⟨bx, 0, none⟩ = some (.int .u32 af) ∧ w'.cell? ⟨bx, 1, none⟩ = some (.int .u32 ab) ∧ w'.cell? ⟨bx, 2, none⟩ = some (.int .u16 ag) := fun w' S' hs hb hf => by
    have hbx' := Block.fr hbx hf (.inl (by decide))
    have := hs.cells.2.2.2.2.1
    rw [hb] at this
    exact ⟨this, hbx'.cell 0 rfl, hbx'.cell 1 rfl, hbx'.cell 2 rfl⟩
  obtain ⟨a0, a1, a2, a3⟩ := hS _ _ h1 rfl (Fr.refl _ _ _)
  have c1 := hS _ _ (h1.below hd0) rfl (Fr.of_below hd0)
  have hfa := fate_forget (h1.below hd0) S.top hk
  have hch := up_forget (h1.below hd0) hF S.top htb n hnx ⟨af, ab, ag⟩
  have hpt := Lib.hid (fun w' hs => hS w' (upS S S.top n ⟨af, ab, ag⟩ false) hs rfl)
  have hfr1 : Fr B PT w w0.drew := (Fr.of_below hb1).trans (Fr.of_below hd0)
  have hfr0 : Fr B PT w0 w0.drew := Fr.of_below hd0
  obtain ⟨S', hS'⟩ : ∃ S', S' = upS S S.top n ⟨af, ab, ag⟩ false := ⟨_, rfl⟩
  rw [← hS'] at hch hpt
  replace hS' := Lib.hid hS'
  simp only at hch
  generalize S.top = tp at a0 c1 hpt hfa hch hk
  replace hch := Lib.hid hch
  replace hfa := Lib.hid hfa
  replace hfr1 := Lib.hid hfr1
  replace hfr0 := Lib.hid hfr0
  clear hS hbx h1 hb1 hd0 hF hnx htb hk
  go_region_held3 (fun w' => w'.cell? ⟨x, 4, none⟩ = some (.int .i64 tp) ∧ w'.cell? ⟨bx, 0, none⟩ = some (.int .u32 af) ∧ w'.cell? ⟨bx, 1, none⟩ = some (.int .u32 ab) ∧ w'.cell? ⟨bx, 2, none⟩ = some (.int .u16 ag))
    (first | exact ⟨a0, a1, a2, a3⟩ | exact c1 | exact hz)
    (first
      | (go_at_call 47; (with_reducible refine hfa.out.mono ?_); rintro r w1 ⟨rfl, rfl⟩)
      | (go_at_call 46; (with_reducible refine hch.out.mono ?_); rintro r w2 ⟨⟨v2, rfl⟩, hs2, hf2⟩; have hz := hpt.out _ hs2 (hfr0.out.trans hf2)))
  have hres := Lib.hid (And.intro hs2 (hfr1.out.trans hf2))
  clear hs2 hf2 hz a0 a1 a2 a3 c1
  go_wp2
  go_ret
  exact ⟨rfl, by rw [← hS'.out]; exact hres.out⟩

set_option maxHeartbeats 2000000 in
theorem Up_keep (h : SC B w x s S) (hF : Fit S) (n : Int) (hnx : S.nx + 512 ≤ 1000000) (a : At) (hk : S.kp = true ∧ S.top = 0) :
    Calls Tryz.prog 13 #[.pointer (some ⟨x, 0, none⟩), .int .i64 n, .agg #[.int .u32 a.f, .int .u32 a.b, .int .u16 a.g]] w (DidV B w x s (upS S S.top n a true) 0) := by
  have hb1 := below_new w (.cells #[.int .u32 a.f, .int .u32 a.b, .int .u16 a.g] 37)
  have hbx := Block.made w 37 #[.int .u32 a.f, .int .u32 a.b, .int .u16 a.g]
  have hmade := made_sc (h.below hb1) hF.len
  have h1 := h.below hb1
  have htb := hF.top
  obtain ⟨af, ab, ag⟩ := a
  simp only at hb1 hbx hmade ⊢
  obtain ⟨bx, hbxe⟩ : ∃ bx, bx = w.heap.size := ⟨_, rfl⟩
  replace hmade := Lib.hid hmade
  clear h
  go_enter Tryz.func13, Tryz.ntmps13
  go_wp2_with ((go_at_call 45; (with_reducible refine (hmade.out).mono ?_); rintro e w' ⟨rfl, rfl⟩))
  generalize w.alloc (.cells #[.int .u32 af, .int .u32 ab, .int .u16 ag] 37) = w0 at hbx hb1 h1 ⊢
  rw [← hbxe] at hbx ⊢
  replace hbxe := Lib.hid hbxe
  have hd0 : Below w0.heap.size w0 w0.drew := below_dr (Below.refl _ _) 1
  have hS : ∀ w' S', SC B w' x s S' → S'.top = S.top → Fr B PT w0 w' → w'.cell? ⟨x, 4, none⟩ = some (.int .i64 S.top) ∧ w'.cell? ⟨bx, 0, none⟩ = some (.int .u32 af) ∧ w'.cell? ⟨bx, 1, none⟩ = some (.int .u32 ab) ∧ w'.cell? ⟨bx, 2, none⟩ = some (.int .u16 ag) := fun w' S' hs hb hf => by
    have hbx' := Block.fr hbx hf (.inl (by decide))
    have := hs.cells.2.2.2.2.1
    rw [hb] at this
    exact ⟨this, hbx'.cell 0 rfl, hbx'.cell 1 rfl, hbx'.cell 2 rfl⟩
  obtain ⟨a0, a1, a2, a3⟩ := hS _ _ h1 rfl (Fr.refl _ _ _)
  have c1 := hS _ _ (h1.below hd0) rfl (Fr.of_below hd0)
  have hfa := fate_keep (h1.below hd0) hk.1 (.int .i64 S.top) (by rw [hk.2]; rfl)
  have hch := up_keep (h1.below hd0) hF S.top htb n hnx ⟨af, ab, ag⟩
  have hpt := Lib.hid (fun w' hs => hS w' (upS S S.top n ⟨af, ab, ag⟩ true) hs rfl)
  have hfr1 : Fr B PT w w0.drew := (Fr.of_below hb1).trans (Fr.of_below hd0)
  have hfr0 : Fr B PT w0 w0.drew := Fr.of_below hd0
  obtain ⟨S', hS'⟩ : ∃ S', S' = upS S S.top n ⟨af, ab, ag⟩ true := ⟨_, rfl⟩
  rw [← hS'] at hch hpt
  replace hS' := Lib.hid hS'
  simp only at hch
  generalize S.top = tp at a0 c1 hpt hfa hch hk
  replace hch := Lib.hid hch
  replace hfa := Lib.hid hfa
  replace hfr1 := Lib.hid hfr1
  replace hfr0 := Lib.hid hfr0
  clear hS hbx h1 hb1 hd0 hF hnx htb hk
  go_region_held3 (fun w' => w'.cell? ⟨x, 4, none⟩ = some (.int .i64 tp) ∧ w'.cell? ⟨bx, 0, none⟩ = some (.int .u32 af) ∧ w'.cell? ⟨bx, 1, none⟩ = some (.int .u32 ab) ∧ w'.cell? ⟨bx, 2, none⟩ = some (.int .u16 ag))
    (first | exact ⟨a0, a1, a2, a3⟩ | exact c1 | exact hz)
    (first
      | (go_at_call 47; (with_reducible refine hfa.out.mono ?_); rintro r w1 ⟨rfl, rfl⟩)
      | (go_at_call 46; (with_reducible refine hch.out.mono ?_); rintro r w2 ⟨⟨v2, rfl⟩, hs2, hf2⟩; have hz := hpt.out _ hs2 (hfr0.out.trans hf2)))
  have hres := Lib.hid (And.intro hs2 (hfr1.out.trans hf2))
  clear hs2 hf2 hz a0 a1 a2 a3 c1
  go_wp2
  go_ret
  exact ⟨rfl, by rw [← hS'.out]; exact hres.out⟩

set_option maxHeartbeats 2000000 in
theorem Down_sc (h : SC B w x s S) (hF : Fit S) (n : Int) (hnx : S.nx + 512 ≤ 1000000) (a : At) :
    Calls Tryz.prog 19 #[.pointer (some ⟨x, 0, none⟩), .int .i64 n, .agg #[.int .u32 a.f, .int .u32 a.b, .int .u16 a.g]] w (DidV B w x s (downS S S.top n a) 0) := by
  have hb1 := below_new w (.cells #[.int .u32 a.f, .int .u32 a.b, .int .u16 a.g] 37)
  have hbx := Block.made w 37 #[.int .u32 a.f, .int .u32 a.b, .int .u16 a.g]
  have hmade := made_sc (h.below hb1) hF.len
  have h1 := h.below hb1
  have htb := hF.top
  obtain ⟨af, ab, ag⟩ := a
  simp only at hb1 hbx hmade ⊢
  obtain ⟨bx, hbxe⟩ : ∃ bx, bx = w.heap.size := ⟨_, rfl⟩
  replace hmade := Lib.hid hmade
  clear h
  go_enter Tryz.func19, Tryz.ntmps19
  go_wp2_with ((go_at_call 45; (with_reducible refine (hmade.out).mono ?_); rintro e w' ⟨rfl, rfl⟩))
  generalize w.alloc (.cells #[.int .u32 af, .int .u32 ab, .int .u16 ag] 37) = w0 at hbx hb1 h1 ⊢
  rw [← hbxe] at hbx ⊢
  replace hbxe := Lib.hid hbxe
  have hd0 : Below w0.heap.size w0 w0.drew := below_dr (Below.refl _ _) 1
  have hS : ∀ w' S', SC B w' x s S' → S'.top = S.top → Fr B PT w0 w' → w'.cell? ⟨x, 4, none⟩ = some (.int .i64 S.top) ∧ w'.cell? ⟨bx, 0, none⟩ = some (.int .u32 af) ∧ w'.cell? ⟨bx, 1, none⟩ = some (.int .u32 ab) ∧ w'.cell? ⟨bx, 2, none⟩ = some (.int .u16 ag) := fun w' S' hs hb hf => by
    have hbx' := Block.fr hbx hf (.inl (by decide))
    have := hs.cells.2.2.2.2.1
    rw [hb] at this
    exact ⟨this, hbx'.cell 0 rfl, hbx'.cell 1 rfl, hbx'.cell 2 rfl⟩
  obtain ⟨a0, a1, a2, a3⟩ := hS _ _ h1 rfl (Fr.refl _ _ _)
  have c1 := hS _ _ (h1.below hd0) rfl (Fr.of_below hd0)
  have hch := down_sc (h1.below hd0) hF S.top htb n hnx ⟨af, ab, ag⟩
  have hpt := Lib.hid (fun w' hs => hS w' (downS S S.top n ⟨af, ab, ag⟩) hs rfl)
  have hfr1 : Fr B PT w w0.drew := (Fr.of_below hb1).trans (Fr.of_below hd0)
  have hfr0 : Fr B PT w0 w0.drew := Fr.of_below hd0
  obtain ⟨S', hS'⟩ : ∃ S', S' = downS S S.top n ⟨af, ab, ag⟩ := ⟨_, rfl⟩
  rw [← hS'] at hch hpt
  replace hS' := Lib.hid hS'
  simp only at hch
  generalize S.top = tp at a0 c1 hpt hch
  replace hch := Lib.hid hch
  replace hfr1 := Lib.hid hfr1
  replace hfr0 := Lib.hid hfr0
  clear hS hbx h1 hb1 hd0 hF hnx htb
  go_region_held3 (fun w' => w'.cell? ⟨x, 4, none⟩ = some (.int .i64 tp) ∧ w'.cell? ⟨bx, 0, none⟩ = some (.int .u32 af) ∧ w'.cell? ⟨bx, 1, none⟩ = some (.int .u32 ab) ∧ w'.cell? ⟨bx, 2, none⟩ = some (.int .u16 ag))
    (first | exact ⟨a0, a1, a2, a3⟩ | exact c1 | exact hz)
    (first
      | (go_at_call 52; (with_reducible refine hch.out.mono ?_); rintro r w2 ⟨⟨v2, rfl⟩, hs2, hf2⟩; have hz := hpt.out _ hs2 (hfr0.out.trans hf2)))
  have hres := Lib.hid (And.intro hs2 (hfr1.out.trans hf2))
  clear hs2 hf2 hz a0 a1 a2 a3 c1
  go_wp2
  go_ret
  exact ⟨rfl, by rw [← hS'.out]; exact hres.out⟩

set_option maxHeartbeats 1000000 in
theorem ins_no (h : SC B w x s S) (hF : Fit S) (at' n : Int) (hat : ¬ ((S.top : Int) ≤ at' ∧ at' ≤ S.bot)) (a : At) :
    Calls Tryz.prog 27 #[.pointer (some ⟨x, 0, none⟩), .int .i64 at', .int .i64 n, .agg #[.int .u32 a.f, .int .u32 a.b, .int .u16 a.g]] w (DidV B w x s S 2) := by
  have hb1 := below_new w (.cells #[.int .u32 a.f, .int .u32 a.b, .int .u16 a.g] 37)
  have hmade := made_sc (h.below hb1) hF.len
  have hw := within_sc (h.below hb1) at'
  rw [decide_eq_false hat] at hw
  have hres := Lib.hid (fun w' hb => (⟨h.below hb, Fr.of_below hb⟩ : SC B w' x s S ∧ Fr B PT w w'))
  obtain ⟨af, ab, ag⟩ := a
  simp only at hb1 hmade hw ⊢
  replace hmade := Lib.hid hmade
  replace hw := Lib.hid hw
  replace hb1 := Lib.hid hb1
  clear h hF hat
  go_enter Tryz.func27, Tryz.ntmps27
  go_wp2_with (first
    | (go_at_call 45; (with_reducible refine (hmade.out).mono ?_); rintro e w' ⟨rfl, rfl⟩)
    | (go_at_call 53; (with_reducible refine (hw.out).mono ?_); rintro e w1 ⟨rfl, hbw⟩))
  go_ret
  exact ⟨rfl, hres.out _ (below_next hb1.out hbw)⟩
set_option maxHeartbeats 1000000 in
theorem ins_yes (h : SC B w x s S) (hF : Fit S) (at' : Nat) (n : Int) (h0 : S.top ≤ at') (h1 : at' ≤ S.bot) (hnx : S.nx + 512 ≤ 1000000) (a : At) :
    Calls Tryz.prog 27 #[.pointer (some ⟨x, 0, none⟩), .int .i64 at', .int .i64 n, .agg #[.int .u32 a.f, .int .u32 a.b, .int .u16 a.g]] w (DidV B w x s (downS S at' n a) 0) := by
  have hb1 := below_new w (.cells #[.int .u32 a.f, .int .u32 a.b, .int .u16 a.g] 37)
  have hbx := Block.made w 37 #[.int .u32 a.f, .int .u32 a.b, .int .u16 a.g]
  have hmade := made_sc (h.below hb1) hF.len
  have hw := within_sc (h.below hb1) at'
  rw [decide_eq_true (by omega)] at hw
  have hch := fun w' hb => down_sc (h.below (w' := w') hb) hF at' h1 n hnx a
  obtain ⟨af, ab, ag⟩ := a
  generalize downS S at' n ⟨af, ab, ag⟩ = S' at hch ⊢
  simp only at hb1 hbx hmade hw hch ⊢
  have hmf := mkf
  replace hmade := Lib.hid hmade
  replace hw := Lib.hid hw
  replace hch := Lib.hid hch
  replace hb1 := Lib.hid hb1
  obtain ⟨bx, hbxe⟩ : ∃ bx, bx = w.heap.size := ⟨_, rfl⟩
  clear h hF h0 h1 hnx
  go_enter Tryz.func27, Tryz.ntmps27
  go_wp2_with (first
    | (go_at_call 45; (with_reducible refine (hmade.out).mono ?_); rintro e w' ⟨rfl, rfl⟩)
    | (go_at_call 53; (with_reducible refine (hw.out).mono ?_); rintro e w1 ⟨rfl, hbw⟩; have hb2 := hbx.only (Only.of_below hbw []) (by simp); have a0 := hb2.cell 0 rfl; have a1 := hb2.cell 1 rfl; have a2 := hb2.cell 2 rfl; have hbb := below_next hb1.out hbw)
    | (go_at_call 52; (with_reducible refine (hch.out _ hbb).mono ?_); rintro r w2 ⟨⟨v2, rfl⟩, hs2, hf2⟩))
  go_ret
  exact ⟨rfl, hs2, (Fr.of_below hbb).trans hf2⟩

set_option maxHeartbeats 1000000 in
theorem del_no (h : SC B w x s S) (hF : Fit S) (at' n : Int) (hat : ¬ ((S.top : Int) ≤ at' ∧ at' ≤ S.bot)) (a : At) :
    Calls Tryz.prog 20 #[.pointer (some ⟨x, 0, none⟩), .int .i64 at', .int .i64 n, .agg #[.int .u32 a.f, .int .u32 a.b, .int .u16 a.g]] w (DidV B w x s S 2) := by
  have hb1 := below_new w (.cells #[.int .u32 a.f, .int .u32 a.b, .int .u16 a.g] 37)
  have hmade := made_sc (h.below hb1) hF.len
  have hw := within_sc (h.below hb1) at'
  rw [decide_eq_false hat] at hw
  have hres := Lib.hid (fun w' hb => (⟨h.below hb, Fr.of_below hb⟩ : SC B w' x s S ∧ Fr B PT w w'))
  obtain ⟨af, ab, ag⟩ := a
  simp only at hb1 hmade hw ⊢
  replace hmade := Lib.hid hmade
  replace hw := Lib.hid hw
  replace hb1 := Lib.hid hb1
  clear h hF hat
  go_enter Tryz.func20, Tryz.ntmps20
  go_wp2_with (first
    | (go_at_call 45; (with_reducible refine (hmade.out).mono ?_); rintro e w' ⟨rfl, rfl⟩)
    | (go_at_call 53; (with_reducible refine (hw.out).mono ?_); rintro e w1 ⟨rfl, hbw⟩))
  go_ret
  exact ⟨rfl, hres.out _ (below_next hb1.out hbw)⟩
set_option maxHeartbeats 1000000 in
theorem del_yes (h : SC B w x s S) (hF : Fit S) (at' : Nat) (n : Int) (h0 : S.top ≤ at') (h1 : at' ≤ S.bot) (hnx : S.nx + 512 ≤ 1000000) (a : At) :
    Calls Tryz.prog 20 #[.pointer (some ⟨x, 0, none⟩), .int .i64 at', .int .i64 n, .agg #[.int .u32 a.f, .int .u32 a.b, .int .u16 a.g]] w (DidV B w x s (upS S at' n a false) 0) := by
  have hb1 := below_new w (.cells #[.int .u32 a.f, .int .u32 a.b, .int .u16 a.g] 37)
  have hbx := Block.made w 37 #[.int .u32 a.f, .int .u32 a.b, .int .u16 a.g]
  have hmade := made_sc (h.below hb1) hF.len
  have hw := within_sc (h.below hb1) at'
  rw [decide_eq_true (by omega)] at hw
  have hch := fun w' hb => up_forget (h.below (w' := w') hb) hF at' h1 n hnx a
  obtain ⟨af, ab, ag⟩ := a
  generalize upS S at' n ⟨af, ab, ag⟩ false = S' at hch ⊢
  simp only at hb1 hbx hmade hw hch ⊢
  have hmf := mkf
  replace hmade := Lib.hid hmade
  replace hw := Lib.hid hw
  replace hch := Lib.hid hch
  replace hb1 := Lib.hid hb1
  obtain ⟨bx, hbxe⟩ : ∃ bx, bx = w.heap.size := ⟨_, rfl⟩
  clear h hF h0 h1 hnx
  go_enter Tryz.func20, Tryz.ntmps20
  go_wp2_with (first
    | (go_at_call 45; (with_reducible refine (hmade.out).mono ?_); rintro e w' ⟨rfl, rfl⟩)
    | (go_at_call 53; (with_reducible refine (hw.out).mono ?_); rintro e w1 ⟨rfl, hbw⟩; have hb2 := hbx.only (Only.of_below hbw []) (by simp); have a0 := hb2.cell 0 rfl; have a1 := hb2.cell 1 rfl; have a2 := hb2.cell 2 rfl; have hbb := below_next hb1.out hbw)
    | (go_at_call 46; (with_reducible refine (hch.out _ hbb).mono ?_); rintro r w2 ⟨⟨v2, rfl⟩, hs2, hf2⟩))
  go_ret
  exact ⟨rfl, hs2, (Fr.of_below hbb).trans hf2⟩

def okMarg (S : Scr) (t b : Int) : Prop := (t = 0 ∧ b = (S.L.length : Int) - 1) ∨ (0 ≤ t ∧ t < b ∧ b ≤ (S.L.length : Int) - 1)
instance (S : Scr) (t b : Int) : Decidable (okMarg S t b) := by unfold okMarg; infer_instance
set_option maxHeartbeats 1000000 in
theorem may_sc (h : SC B w x s S) (h5 : S.L.length ≤ 512) (t b : Int) : Calls Tryz.prog 51 #[.pointer (some ⟨x, 0, none⟩), .int .i64 t, .int .i64 b] w fun e w' => e = .returned (.bool (decide (okMarg S t b))) ∧ w = w' := by
  obtain ⟨_, _, _, ⟨ao, c, c3⟩, _, _⟩ := h.cells
  have hy : decide (okMarg S t b) = true ↔ ((t = 0 ∧ b = (S.L.length : Int) - 1) ∨ (0 ≤ t ∧ t < b ∧ b ≤ (S.L.length : Int) - 1)) := decide_eq_true_iff
  generalize decide (okMarg S t b) = y at hy ⊢
  generalize S.L.length = n at c3 h5 hy
  have hw : IntKind.i64.wrap ((n : Int) - 1) = (n : Int) - 1 := IntWalk.i64_in _ (by omega)
  replace hy := Lib.hid hy
  clear h
  go_enter Tryz.func51, Tryz.ntmps51
  go_wp2
  all_goals
    go_ret
    exact ⟨ret_bool (by rw [Bool.eq_iff_iff, hy.out]; simp <;> omega), rfl⟩
set_option maxHeartbeats 1000000 in
theorem setm_no (h : SC B w x s S) (hF : Fit S) (t b : Int) (hno : ¬ okMarg S t b) : Calls Tryz.prog 18 #[.pointer (some ⟨x, 0, none⟩), .int .i64 t, .int .i64 b] w fun e w' => e = .returned (.int .i64 2) ∧ w = w' := by
  have hmade := Lib.hid (made_sc h hF.len)
  have hm := may_sc h hF.len5 t b
  rw [decide_eq_false hno] at hm
  replace hm := Lib.hid hm
  clear h hF hno
  go_enter Tryz.func18, Tryz.ntmps18
  go_wp2_with (first
    | (go_at_call 45; (with_reducible refine (hmade.out).mono ?_); rintro e w' ⟨rfl, rfl⟩)
    | (go_at_call 51; (with_reducible refine (hm.out).mono ?_); rintro e w' ⟨rfl, rfl⟩))
  go_ret
  exact ⟨rfl, rfl⟩
set_option maxHeartbeats 1000000 in
theorem setm_yes (h : SC B w x s S) (hF : Fit S) (t b : Nat) (hok : okMarg S t b) : Calls Tryz.prog 18 #[.pointer (some ⟨x, 0, none⟩), .int .i64 t, .int .i64 b] w (DidV B w x s { S with top := t, bot := b } 0) := by
  have hmade := Lib.hid (made_sc h hF.len)
  have hm := may_sc h hF.len5 t b
  rw [decide_eq_true hok] at hm
  obtain ⟨_, _, _, _, c4, c5⟩ := h.cells
  have f4 := h.free 4
  have f5 := h.free 5
  have hres := Lib.hid (h.setMarg t b)
  replace hm := Lib.hid hm
  generalize ({ S with top := t, bot := b } : Scr) = S' at hres ⊢
  clear h hF hok
  go_enter Tryz.func18, Tryz.ntmps18
  go_wp2_with (first
    | (go_at_call 45; (with_reducible refine (hmade.out).mono ?_); rintro e w' ⟨rfl, rfl⟩)
    | (go_at_call 51; (with_reducible refine (hm.out).mono ?_); rintro e w' ⟨rfl, rfl⟩))
  try go_region
  try go_wp2
  go_ret
  exact ⟨rfl, hres.out⟩
end
end Go.Proofs.YtaoegfdaemmogaaGreat.Scn
