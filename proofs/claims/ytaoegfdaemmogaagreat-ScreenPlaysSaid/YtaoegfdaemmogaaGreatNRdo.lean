/-
  screen: the reference's Up, Down, InsertLines, DeleteLines.
-/
import Derived.Test.YtaoegfdaemmogaaGreatNRdn
import Derived.Test.YtaoegfdaemmogaaGreatNRupk
import Derived.StillTailTactics
namespace Go.Proofs.YtaoegfdaemmogaaGreat.Scn
open Go Go.RowKit Go.Proofs.YtaoegfdaemmogaaGreat.Com Go.Proofs.YtaoegfdaemmogaaGreat.Rw Go.Proofs.YtaoegfdaemmogaaGreat.Lns
/-- The reference's screen at r, its store at q, shows S. -/
def RC (B : Nat) (w : World) (r q : Nat) (S : Scr) : Prop := ∃ rv lv L R, RmX B w r q S.nx S.most S.kp S.cols rv lv S.top S.bot L.length (fl rlineC L) L R ∧ vw L = S.L ∧ vw R = S.R
def RDidS (B : Nat) (w : World) (r q : Nat) (S : Scr) (e : Ending) (w' : World) : Prop := (∃ v, e = .returned v) ∧ RC B w' r q S ∧ Fr B RT w w'
def RDidV (B : Nat) (w : World) (r q : Nat) (S : Scr) (y : Int) (e : Ending) (w' : World) : Prop := e = .returned (.int .i64 y) ∧ RC B w' r q S ∧ Fr B RT w w'
section
variable {B : Nat} {w w' : World} {r q : Nat} {S : Scr}
theorem RC.below (h : RC B w r q S) (hb : Below w.heap.size w w') : RC B w' r q S := by
  obtain ⟨rv, lv, L, R, h1, h2, h3⟩ := h
  exact ⟨rv, lv, L, R, h1.below hb, h2, h3⟩
theorem RC.cells (h : RC B w r q S) : w.cell? ⟨r, 1, none⟩ = some (.bool S.kp) ∧ w.cell? ⟨r, 4, none⟩ = some (.int .i64 S.top) ∧ w.cell? ⟨r, 5, none⟩ = some (.int .i64 S.bot) := by
  obtain ⟨rv, lv, L, R, h1, h2, h3⟩ := h
  obtain ⟨_, c1, _, _, c4, c5⟩ := h1.cells
  exact ⟨c1, c4, c5⟩
theorem rupS_forget (h : RC B w r q S) (hF : Fit S) (frm : Nat) (hfr : frm ≤ S.bot) (n : Int) (hnx : S.nx + 512 ≤ 1000000) (a : At) :
    Calls Tryz.prog 62 #[.pointer (some ⟨r, 0, none⟩), .int .i64 frm, .int .i64 S.bot, .int .i64 n, .agg #[.int .u32 a.f, .int .u32 a.b, .int .u16 a.g], .bool false] w (RDidS B w r q (upS S frm n a false)) := by
  obtain ⟨rv, lv, L, R, h1, h2, h3⟩ := h
  have hl : L.length = S.L.length := by rw [← h2, vw_len]
  have hb := hF.bot
  have h5 := hF.len5
  refine (rup_forget h1 frm S.bot n (by omega) (by omega) (by omega) hnx hF.c1 hF.c5 a).mono ?_
  rintro e w' ⟨hv, rv', lv', L', R', m1, m2, m3, m4⟩
  exact ⟨hv, ⟨rv', lv', L', R', m1, by rw [m2, h2]; rfl, by rw [m3, h3]; rfl⟩, m4⟩
theorem rupS_keep (h : RC B w r q S) (hF : Fit S) (frm : Nat) (hfr : frm ≤ S.bot) (n : Int) (hnx : S.nx + 512 ≤ 1000000) (hRm : S.R.length ≤ S.most) (hmo : S.most ≤ 10000) (a : At) :
    Calls Tryz.prog 62 #[.pointer (some ⟨r, 0, none⟩), .int .i64 frm, .int .i64 S.bot, .int .i64 n, .agg #[.int .u32 a.f, .int .u32 a.b, .int .u16 a.g], .bool true] w (RDidS B w r q (upS S frm n a true)) := by
  obtain ⟨rv, lv, L, R, h1, h2, h3⟩ := h
  have hl : L.length = S.L.length := by rw [← h2, vw_len]
  have hb := hF.bot
  have h5 := hF.len5
  refine (rup_keep h1 frm S.bot n (by omega) (by omega) (by omega) hnx hF.c1 hF.c5 a (fun e he => hF.ids (e.id, e.l) (by rw [← h2]; exact List.mem_map.2 ⟨e, he, rfl⟩)) (by rw [← vw_len, h3]; exact hRm) hmo).mono ?_
  rintro e w' ⟨hv, rv', lv', L', R', m1, m2, m3, m4⟩
  exact ⟨hv, ⟨rv', lv', L', R', m1, by rw [m2, h2]; rfl, by rw [m3, h3, h2]; rfl⟩, m4⟩
theorem rdownS (h : RC B w r q S) (hF : Fit S) (frm : Nat) (hfr : frm ≤ S.bot) (n : Int) (hnx : S.nx + 512 ≤ 1000000) (a : At) :
    Calls Tryz.prog 63 #[.pointer (some ⟨r, 0, none⟩), .int .i64 frm, .int .i64 S.bot, .int .i64 n, .agg #[.int .u32 a.f, .int .u32 a.b, .int .u16 a.g]] w (RDidS B w r q (downS S frm n a)) := by
  obtain ⟨rv, lv, L, R, h1, h2, h3⟩ := h
  have hl : L.length = S.L.length := by rw [← h2, vw_len]
  have hb := hF.bot
  have h5 := hF.len5
  refine (rdown_sc h1 frm S.bot n (by omega) (by omega) (by omega) hnx hF.c1 hF.c5 a).mono ?_
  rintro e w' ⟨hv, rv', lv', L', R', m1, m2, m3, m4⟩
  exact ⟨hv, ⟨rv', lv', L', R', m1, by rw [m2, h2]; rfl, by rw [m3, h3]; rfl⟩, m4⟩

set_option maxRecDepth 100000 in
set_option maxHeartbeats 2000000 in
theorem rUp_forget (h : RC B w r q S) (hF : Fit S) (n : Int) (hnx : S.nx + 512 ≤ 1000000) (a : At) (hk : S.kp = false ∨ S.top ≠ 0) :
    Calls Tryz.prog 25 #[.pointer (some ⟨r, 0, none⟩), .int .i64 n, .agg #[.int .u32 a.f, .int .u32 a.b, .int .u16 a.g]] w (RDidS B w r q (upS S S.top n a false)) := by
  have hb1 := below_new w (.cells #[.int .u32 a.f, .int .u32 a.b, .int .u16 a.g] 37)
  have hbx := Block.made w 37 #[.int .u32 a.f, .int .u32 a.b, .int .u16 a.g]
  have h1 := h.below hb1
  have htb := hF.top
  obtain ⟨af, ab, ag⟩ := a
  simp only at hb1 hbx ⊢
  obtain ⟨bx, hbxe⟩ : ∃ bx, bx = w.heap.size := ⟨_, rfl⟩
  generalize hw0 : w.alloc (.cells #[.int .u32 af, .int .u32 ab, .int .u16 ag] 37) = w0 at hbx hb1 h1
  rw [← hbxe] at hbx
  have hd0 : Below w0.heap.size w0 w0.drew := below_dr (Below.refl _ _) 1
  have hS : ∀ w' S', RC B w' r q S' → S'.kp = S.kp → S'.top = S.top → S'.bot = S.bot → Fr B RT w0 w' → w'.cell? ⟨r, 1, none⟩ = some (.bool S.kp) ∧ w'.cell? ⟨r, 4, none⟩ = some (.int .i64 S.top) ∧ w'.cell? ⟨r, 5, none⟩ = some (.int .i64 S.bot) ∧ w'.cell? ⟨bx, 0, none⟩ = some (.int .u32 af) ∧ w'.cell? ⟨bx, 1, none⟩ = some (.int .u32 ab) ∧ w'.cell? ⟨bx, 2, none⟩ = some (.int .u16 ag) := fun w' S' hs hk ht hb hf => by
    have hbx' := Block.fr hbx hf (.inl (by decide))
    obtain ⟨c1, c4, c5⟩ := hs.cells
    rw [hk] at c1
    rw [ht] at c4
    rw [hb] at c5
    exact ⟨c1, c4, c5, hbx'.cell 0 rfl, hbx'.cell 1 rfl, hbx'.cell 2 rfl⟩
  obtain ⟨a1, a4, a5, e0, e1, e2⟩ := hS _ _ h1 rfl rfl rfl (Fr.refl _ _ _)
  have c1 := hS _ _ (h1.below hd0) rfl rfl rfl (Fr.of_below hd0)
  have hch := rupS_forget (h1.below hd0) hF S.top htb n hnx ⟨af, ab, ag⟩
  have hpt := Lib.hid (fun w' hs => hS w' (upS S S.top n ⟨af, ab, ag⟩ false) hs rfl rfl rfl)
  have hfr1 : Fr B RT w w0.drew := (Fr.of_below hb1).trans (Fr.of_below hd0)
  have hfr0 : Fr B RT w0 w0.drew := Fr.of_below hd0
  obtain ⟨S', hS'⟩ : ∃ S', S' = upS S S.top n ⟨af, ab, ag⟩ false := ⟨_, rfl⟩
  rw [← hS'] at hch hpt ⊢
  replace hS' := Lib.hid hS'
  simp only at hch
  generalize S.top = tp at a4 c1 hpt hch hk
  generalize S.bot = bt at a5 c1 hpt hch
  generalize S.kp = kp at a1 c1 hpt hk
  replace hch := Lib.hid hch
  replace hfr1 := Lib.hid hfr1
  replace hfr0 := Lib.hid hfr0
  replace hbxe := Lib.hid hbxe
  replace hw0 := Lib.hid hw0
  clear hS hbx h1 hb1 hd0 hF hnx htb h
  cases kp
  · clear hk
    go_enter Tryz.func25, Tryz.ntmps25
    go_wp2
    rw [hw0.out, ← hbxe.out]
    go_still_tail 22, (by kernel_rfl)
    trace_state
    go_wp2_with (first
      | (go_at_call 62; (with_reducible refine hch.out.mono ?_); rintro r' w2 ⟨⟨v2, rfl⟩, hs2, hf2⟩))
    have hres := Lib.hid (And.intro hs2 (hfr1.out.trans hf2))
    clear hs2 hf2 a1 a4 a5 e0 e1 e2 c1
    go_end0
    exact ⟨⟨_, rfl⟩, hres.out⟩
  · have hk0 : ((tp : Int) == 0) = false := beq_eq_false_iff_ne.2 (by rcases hk with hk | hk; (· cases hk); omega)
    clear hk
    go_enter Tryz.func25, Tryz.ntmps25
    go_wp2
    rw [hw0.out, ← hbxe.out]
    go_region_held3 (fun w' => w'.cell? ⟨r, 1, none⟩ = some (.bool true) ∧ w'.cell? ⟨r, 4, none⟩ = some (.int .i64 tp) ∧ w'.cell? ⟨r, 5, none⟩ = some (.int .i64 bt) ∧ w'.cell? ⟨bx, 0, none⟩ = some (.int .u32 af) ∧ w'.cell? ⟨bx, 1, none⟩ = some (.int .u32 ab) ∧ w'.cell? ⟨bx, 2, none⟩ = some (.int .u16 ag))
      (first | exact ⟨a1, a4, a5, e0, e1, e2⟩ | exact c1 | exact hz)
      (first
        | (go_at_call 62; (with_reducible refine hch.out.mono ?_); rintro r' w2 ⟨⟨v2, rfl⟩, hs2, hf2⟩; have hz := hpt.out _ hs2 (hfr0.out.trans hf2)))
    have hres := Lib.hid (And.intro hs2 (hfr1.out.trans hf2))
    clear hs2 hf2 hz a1 a4 a5 e0 e1 e2 c1
    go_end0
    exact ⟨⟨_, rfl⟩, hres.out⟩

set_option maxRecDepth 100000 in
set_option maxHeartbeats 2000000 in
theorem rUp_keep (h : RC B w r q S) (hF : Fit S) (n : Int) (hnx : S.nx + 512 ≤ 1000000) (hRm : S.R.length ≤ S.most) (hmo : S.most ≤ 10000) (a : At) (hk : S.kp = true ∧ S.top = 0) :
    Calls Tryz.prog 25 #[.pointer (some ⟨r, 0, none⟩), .int .i64 n, .agg #[.int .u32 a.f, .int .u32 a.b, .int .u16 a.g]] w (RDidS B w r q (upS S S.top n a true)) := by
  have hb1 := below_new w (.cells #[.int .u32 a.f, .int .u32 a.b, .int .u16 a.g] 37)
  have hbx := Block.made w 37 #[.int .u32 a.f, .int .u32 a.b, .int .u16 a.g]
  have h1 := h.below hb1
  have htb := hF.top
  obtain ⟨af, ab, ag⟩ := a
  simp only at hb1 hbx ⊢
  obtain ⟨bx, hbxe⟩ : ∃ bx, bx = w.heap.size := ⟨_, rfl⟩
  generalize hw0 : w.alloc (.cells #[.int .u32 af, .int .u32 ab, .int .u16 ag] 37) = w0 at hbx hb1 h1
  rw [← hbxe] at hbx
  have hd0 : Below w0.heap.size w0 w0.drew := below_dr (Below.refl _ _) 1
  have hS : ∀ w' S', RC B w' r q S' → S'.kp = S.kp → S'.top = S.top → S'.bot = S.bot → Fr B RT w0 w' → w'.cell? ⟨r, 1, none⟩ = some (.bool S.kp) ∧ w'.cell? ⟨r, 4, none⟩ = some (.int .i64 S.top) ∧ w'.cell? ⟨r, 5, none⟩ = some (.int .i64 S.bot) ∧ w'.cell? ⟨bx, 0, none⟩ = some (.int .u32 af) ∧ w'.cell? ⟨bx, 1, none⟩ = some (.int .u32 ab) ∧ w'.cell? ⟨bx, 2, none⟩ = some (.int .u16 ag) := fun w' S' hs hk ht hb hf => by
    have hbx' := Block.fr hbx hf (.inl (by decide))
    obtain ⟨c1, c4, c5⟩ := hs.cells
    rw [hk] at c1
    rw [ht] at c4
    rw [hb] at c5
    exact ⟨c1, c4, c5, hbx'.cell 0 rfl, hbx'.cell 1 rfl, hbx'.cell 2 rfl⟩
  obtain ⟨a1, a4, a5, e0, e1, e2⟩ := hS _ _ h1 rfl rfl rfl (Fr.refl _ _ _)
  have c1 := hS _ _ (h1.below hd0) rfl rfl rfl (Fr.of_below hd0)
  have hch := rupS_keep (h1.below hd0) hF S.top htb n hnx hRm hmo ⟨af, ab, ag⟩
  have hpt := Lib.hid (fun w' hs => hS w' (upS S S.top n ⟨af, ab, ag⟩ true) hs rfl rfl rfl)
  have hfr1 : Fr B RT w w0.drew := (Fr.of_below hb1).trans (Fr.of_below hd0)
  have hfr0 : Fr B RT w0 w0.drew := Fr.of_below hd0
  obtain ⟨S', hS'⟩ : ∃ S', S' = upS S S.top n ⟨af, ab, ag⟩ true := ⟨_, rfl⟩
  rw [← hS'] at hch hpt ⊢
  replace hS' := Lib.hid hS'
  simp only at hch
  generalize S.top = tp at a4 c1 hpt hch hk
  generalize S.bot = bt at a5 c1 hpt hch
  generalize S.kp = kp at a1 c1 hpt hk
  replace hch := Lib.hid hch
  replace hfr1 := Lib.hid hfr1
  replace hfr0 := Lib.hid hfr0
  replace hbxe := Lib.hid hbxe
  replace hw0 := Lib.hid hw0
  clear hS hbx h1 hb1 hd0 hF hnx htb h hRm hmo
  obtain ⟨hk1, hk2⟩ := hk
  subst hk1
  have hk0 : ((tp : Int) == 0) = true := by simp [hk2]
  clear hk2
  go_enter Tryz.func25, Tryz.ntmps25
  go_wp2
  rw [hw0.out, ← hbxe.out]
  go_region_held3 (fun w' => w'.cell? ⟨r, 1, none⟩ = some (.bool true) ∧ w'.cell? ⟨r, 4, none⟩ = some (.int .i64 tp) ∧ w'.cell? ⟨r, 5, none⟩ = some (.int .i64 bt) ∧ w'.cell? ⟨bx, 0, none⟩ = some (.int .u32 af) ∧ w'.cell? ⟨bx, 1, none⟩ = some (.int .u32 ab) ∧ w'.cell? ⟨bx, 2, none⟩ = some (.int .u16 ag))
    (first | exact ⟨a1, a4, a5, e0, e1, e2⟩ | exact c1 | exact hz)
    (first
      | (go_at_call 62; (with_reducible refine hch.out.mono ?_); rintro r' w2 ⟨⟨v2, rfl⟩, hs2, hf2⟩; have hz := hpt.out _ hs2 (hfr0.out.trans hf2)))
  have hres := Lib.hid (And.intro hs2 (hfr1.out.trans hf2))
  clear hs2 hf2 hz a1 a4 a5 e0 e1 e2 c1
  go_end0
  exact ⟨⟨_, rfl⟩, hres.out⟩

set_option maxRecDepth 100000 in
set_option maxHeartbeats 2000000 in
theorem rDown_sc (h : RC B w r q S) (hF : Fit S) (n : Int) (hnx : S.nx + 512 ≤ 1000000) (a : At) :
    Calls Tryz.prog 26 #[.pointer (some ⟨r, 0, none⟩), .int .i64 n, .agg #[.int .u32 a.f, .int .u32 a.b, .int .u16 a.g]] w (RDidS B w r q (downS S S.top n a)) := by
  have hb1 := below_new w (.cells #[.int .u32 a.f, .int .u32 a.b, .int .u16 a.g] 37)
  have hbx := Block.made w 37 #[.int .u32 a.f, .int .u32 a.b, .int .u16 a.g]
  have h1 := h.below hb1
  have htb := hF.top
  obtain ⟨af, ab, ag⟩ := a
  simp only at hb1 hbx ⊢
  obtain ⟨bx, hbxe⟩ : ∃ bx, bx = w.heap.size := ⟨_, rfl⟩
  generalize hw0 : w.alloc (.cells #[.int .u32 af, .int .u32 ab, .int .u16 ag] 37) = w0 at hbx hb1 h1
  rw [← hbxe] at hbx
  have hd0 : Below w0.heap.size w0 w0.drew := below_dr (Below.refl _ _) 1
  have hS : ∀ w' S', RC B w' r q S' → S'.kp = S.kp → S'.top = S.top → S'.bot = S.bot → Fr B RT w0 w' → w'.cell? ⟨r, 1, none⟩ = some (.bool S.kp) ∧ w'.cell? ⟨r, 4, none⟩ = some (.int .i64 S.top) ∧ w'.cell? ⟨r, 5, none⟩ = some (.int .i64 S.bot) ∧ w'.cell? ⟨bx, 0, none⟩ = some (.int .u32 af) ∧ w'.cell? ⟨bx, 1, none⟩ = some (.int .u32 ab) ∧ w'.cell? ⟨bx, 2, none⟩ = some (.int .u16 ag) := fun w' S' hs hk ht hb hf => by
    have hbx' := Block.fr hbx hf (.inl (by decide))
    obtain ⟨c1, c4, c5⟩ := hs.cells
    rw [hk] at c1
    rw [ht] at c4
    rw [hb] at c5
    exact ⟨c1, c4, c5, hbx'.cell 0 rfl, hbx'.cell 1 rfl, hbx'.cell 2 rfl⟩
  obtain ⟨a1, a4, a5, e0, e1, e2⟩ := hS _ _ h1 rfl rfl rfl (Fr.refl _ _ _)
  have c1 := hS _ _ (h1.below hd0) rfl rfl rfl (Fr.of_below hd0)
  have hch := rdownS (h1.below hd0) hF S.top htb n hnx ⟨af, ab, ag⟩
  have hpt := Lib.hid (fun w' hs => hS w' (downS S S.top n ⟨af, ab, ag⟩) hs rfl rfl rfl)
  have hfr1 : Fr B RT w w0.drew := (Fr.of_below hb1).trans (Fr.of_below hd0)
  have hfr0 : Fr B RT w0 w0.drew := Fr.of_below hd0
  obtain ⟨S', hS'⟩ : ∃ S', S' = downS S S.top n ⟨af, ab, ag⟩ := ⟨_, rfl⟩
  rw [← hS'] at hch hpt ⊢
  replace hS' := Lib.hid hS'
  simp only at hch
  generalize S.top = tp at a4 c1 hpt hch
  generalize S.bot = bt at a5 c1 hpt hch
  generalize S.kp = kp at a1 c1 hpt
  replace hch := Lib.hid hch
  replace hfr1 := Lib.hid hfr1
  replace hfr0 := Lib.hid hfr0
  replace hbxe := Lib.hid hbxe
  replace hw0 := Lib.hid hw0
  clear hS hbx h1 hb1 hd0 hF hnx htb h
  go_enter Tryz.func26, Tryz.ntmps26
  go_wp2
  rw [hw0.out, ← hbxe.out]
  go_region_held3 (fun w' => w'.cell? ⟨r, 1, none⟩ = some (.bool kp) ∧ w'.cell? ⟨r, 4, none⟩ = some (.int .i64 tp) ∧ w'.cell? ⟨r, 5, none⟩ = some (.int .i64 bt) ∧ w'.cell? ⟨bx, 0, none⟩ = some (.int .u32 af) ∧ w'.cell? ⟨bx, 1, none⟩ = some (.int .u32 ab) ∧ w'.cell? ⟨bx, 2, none⟩ = some (.int .u16 ag))
    (first | exact ⟨a1, a4, a5, e0, e1, e2⟩ | exact c1 | exact hz)
    (first
      | (go_at_call 63; (with_reducible refine hch.out.mono ?_); rintro r' w2 ⟨⟨v2, rfl⟩, hs2, hf2⟩; have hz := hpt.out _ hs2 (hfr0.out.trans hf2)))
  have hres := Lib.hid (And.intro hs2 (hfr1.out.trans hf2))
  clear hs2 hf2 hz a1 a4 a5 e0 e1 e2 c1
  go_end0
  exact ⟨⟨_, rfl⟩, hres.out⟩

set_option maxRecDepth 100000 in
set_option maxHeartbeats 2000000 in
theorem rins_yes (h : RC B w r q S) (hF : Fit S) (at' : Nat) (n : Int) (h0 : S.top ≤ at') (h1' : at' ≤ S.bot) (hnx : S.nx + 512 ≤ 1000000) (a : At) :
    Calls Tryz.prog 28 #[.pointer (some ⟨r, 0, none⟩), .int .i64 at', .int .i64 n, .agg #[.int .u32 a.f, .int .u32 a.b, .int .u16 a.g]] w (RDidV B w r q (downS S at' n a) 0) := by
  have hb1 := below_new w (.cells #[.int .u32 a.f, .int .u32 a.b, .int .u16 a.g] 37)
  have hbx := Block.made w 37 #[.int .u32 a.f, .int .u32 a.b, .int .u16 a.g]
  have h1 := h.below hb1
  have htb := hF.top
  obtain ⟨af, ab, ag⟩ := a
  simp only at hb1 hbx ⊢
  obtain ⟨bx, hbxe⟩ : ∃ bx, bx = w.heap.size := ⟨_, rfl⟩
  generalize hw0 : w.alloc (.cells #[.int .u32 af, .int .u32 ab, .int .u16 ag] 37) = w0 at hbx hb1 h1
  rw [← hbxe] at hbx
  have hd0 : Below w0.heap.size w0 w0.drew := below_dr (Below.refl _ _) 1
  have hS : ∀ w' S', RC B w' r q S' → S'.kp = S.kp → S'.top = S.top → S'.bot = S.bot → Fr B RT w0 w' → w'.cell? ⟨r, 1, none⟩ = some (.bool S.kp) ∧ w'.cell? ⟨r, 4, none⟩ = some (.int .i64 S.top) ∧ w'.cell? ⟨r, 5, none⟩ = some (.int .i64 S.bot) ∧ w'.cell? ⟨bx, 0, none⟩ = some (.int .u32 af) ∧ w'.cell? ⟨bx, 1, none⟩ = some (.int .u32 ab) ∧ w'.cell? ⟨bx, 2, none⟩ = some (.int .u16 ag) := fun w' S' hs hk ht hb hf => by
    have hbx' := Block.fr hbx hf (.inl (by decide))
    obtain ⟨c1, c4, c5⟩ := hs.cells
    rw [hk] at c1
    rw [ht] at c4
    rw [hb] at c5
    exact ⟨c1, c4, c5, hbx'.cell 0 rfl, hbx'.cell 1 rfl, hbx'.cell 2 rfl⟩
  obtain ⟨a1, a4, a5, e0, e1, e2⟩ := hS _ _ h1 rfl rfl rfl (Fr.refl _ _ _)
  have c1 := hS _ _ (h1.below hd0) rfl rfl rfl (Fr.of_below hd0)
  have hch := rdownS (h1.below hd0) hF at' h1' n hnx ⟨af, ab, ag⟩
  have hpt := Lib.hid (fun w' hs => hS w' (downS S at' n ⟨af, ab, ag⟩) hs rfl rfl rfl)
  have hfr1 : Fr B RT w w0.drew := (Fr.of_below hb1).trans (Fr.of_below hd0)
  have hfr0 : Fr B RT w0 w0.drew := Fr.of_below hd0
  obtain ⟨S', hS'⟩ : ∃ S', S' = downS S at' n ⟨af, ab, ag⟩ := ⟨_, rfl⟩
  rw [← hS'] at hch hpt ⊢
  replace hS' := Lib.hid hS'
  simp only at hch
  generalize S.top = tp at a4 c1 hpt hch h0
  generalize S.bot = bt at a5 c1 hpt hch h1'
  generalize S.kp = kp at a1 c1 hpt
  replace hch := Lib.hid hch
  replace hfr1 := Lib.hid hfr1
  replace hfr0 := Lib.hid hfr0
  replace hbxe := Lib.hid hbxe
  replace hw0 := Lib.hid hw0
  clear hS hbx h1 hb1 hd0 hF hnx htb h
  have a4' := a4
  have a5' := a5
  rw [← hw0.out] at a4' a5'
  have hd1 : decide ((at' : Int) < (tp : Int)) = false := decide_eq_false (by omega)
  have hd2 : decide ((bt : Int) < (at' : Int)) = false := decide_eq_false (by omega)
  go_enter Tryz.func28, Tryz.ntmps28
  go_wp2
  any_goals (first | (exfalso; omega) | skip)
  rw [hw0.out, ← hbxe.out]
  go_region_held3 (fun w' => w'.cell? ⟨r, 1, none⟩ = some (.bool kp) ∧ w'.cell? ⟨r, 4, none⟩ = some (.int .i64 tp) ∧ w'.cell? ⟨r, 5, none⟩ = some (.int .i64 bt) ∧ w'.cell? ⟨bx, 0, none⟩ = some (.int .u32 af) ∧ w'.cell? ⟨bx, 1, none⟩ = some (.int .u32 ab) ∧ w'.cell? ⟨bx, 2, none⟩ = some (.int .u16 ag))
    (first | exact ⟨a1, a4, a5, e0, e1, e2⟩ | exact c1 | exact hz)
    (first
      | (go_at_call 63; (with_reducible refine hch.out.mono ?_); rintro r' w2 ⟨⟨v2, rfl⟩, hs2, hf2⟩; have hz := hpt.out _ hs2 (hfr0.out.trans hf2)))
  have hres := Lib.hid (And.intro hs2 (hfr1.out.trans hf2))
  clear hs2 hf2 hz a1 a4 a5 e0 e1 e2 c1
  go_wp2
  go_ret
  exact ⟨rfl, hres.out⟩

set_option maxRecDepth 100000 in
set_option maxHeartbeats 2000000 in
theorem rdel_yes (h : RC B w r q S) (hF : Fit S) (at' : Nat) (n : Int) (h0 : S.top ≤ at') (h1' : at' ≤ S.bot) (hnx : S.nx + 512 ≤ 1000000) (a : At) :
    Calls Tryz.prog 29 #[.pointer (some ⟨r, 0, none⟩), .int .i64 at', .int .i64 n, .agg #[.int .u32 a.f, .int .u32 a.b, .int .u16 a.g]] w (RDidV B w r q (upS S at' n a false) 0) := by
  have hb1 := below_new w (.cells #[.int .u32 a.f, .int .u32 a.b, .int .u16 a.g] 37)
  have hbx := Block.made w 37 #[.int .u32 a.f, .int .u32 a.b, .int .u16 a.g]
  have h1 := h.below hb1
  have htb := hF.top
  obtain ⟨af, ab, ag⟩ := a
  simp only at hb1 hbx ⊢
  obtain ⟨bx, hbxe⟩ : ∃ bx, bx = w.heap.size := ⟨_, rfl⟩
  generalize hw0 : w.alloc (.cells #[.int .u32 af, .int .u32 ab, .int .u16 ag] 37) = w0 at hbx hb1 h1
  rw [← hbxe] at hbx
  have hd0 : Below w0.heap.size w0 w0.drew := below_dr (Below.refl _ _) 1
  have hS : ∀ w' S', RC B w' r q S' → S'.kp = S.kp → S'.top = S.top → S'.bot = S.bot → Fr B RT w0 w' → w'.cell? ⟨r, 1, none⟩ = some (.bool S.kp) ∧ w'.cell? ⟨r, 4, none⟩ = some (.int .i64 S.top) ∧ w'.cell? ⟨r, 5, none⟩ = some (.int .i64 S.bot) ∧ w'.cell? ⟨bx, 0, none⟩ = some (.int .u32 af) ∧ w'.cell? ⟨bx, 1, none⟩ = some (.int .u32 ab) ∧ w'.cell? ⟨bx, 2, none⟩ = some (.int .u16 ag) := fun w' S' hs hk ht hb hf => by
    have hbx' := Block.fr hbx hf (.inl (by decide))
    obtain ⟨c1, c4, c5⟩ := hs.cells
    rw [hk] at c1
    rw [ht] at c4
    rw [hb] at c5
    exact ⟨c1, c4, c5, hbx'.cell 0 rfl, hbx'.cell 1 rfl, hbx'.cell 2 rfl⟩
  obtain ⟨a1, a4, a5, e0, e1, e2⟩ := hS _ _ h1 rfl rfl rfl (Fr.refl _ _ _)
  have c1 := hS _ _ (h1.below hd0) rfl rfl rfl (Fr.of_below hd0)
  have hch := rupS_forget (h1.below hd0) hF at' h1' n hnx ⟨af, ab, ag⟩
  have hpt := Lib.hid (fun w' hs => hS w' (upS S at' n ⟨af, ab, ag⟩ false) hs rfl rfl rfl)
  have hfr1 : Fr B RT w w0.drew := (Fr.of_below hb1).trans (Fr.of_below hd0)
  have hfr0 : Fr B RT w0 w0.drew := Fr.of_below hd0
  obtain ⟨S', hS'⟩ : ∃ S', S' = upS S at' n ⟨af, ab, ag⟩ false := ⟨_, rfl⟩
  rw [← hS'] at hch hpt ⊢
  replace hS' := Lib.hid hS'
  simp only at hch
  generalize S.top = tp at a4 c1 hpt hch h0
  generalize S.bot = bt at a5 c1 hpt hch h1'
  generalize S.kp = kp at a1 c1 hpt
  replace hch := Lib.hid hch
  replace hfr1 := Lib.hid hfr1
  replace hfr0 := Lib.hid hfr0
  replace hbxe := Lib.hid hbxe
  replace hw0 := Lib.hid hw0
  clear hS hbx h1 hb1 hd0 hF hnx htb h
  have a4' := a4
  have a5' := a5
  rw [← hw0.out] at a4' a5'
  have hd1 : decide ((at' : Int) < (tp : Int)) = false := decide_eq_false (by omega)
  have hd2 : decide ((bt : Int) < (at' : Int)) = false := decide_eq_false (by omega)
  go_enter Tryz.func29, Tryz.ntmps29
  go_wp2
  any_goals (first | (exfalso; omega) | skip)
  rw [hw0.out, ← hbxe.out]
  go_region_held3 (fun w' => w'.cell? ⟨r, 1, none⟩ = some (.bool kp) ∧ w'.cell? ⟨r, 4, none⟩ = some (.int .i64 tp) ∧ w'.cell? ⟨r, 5, none⟩ = some (.int .i64 bt) ∧ w'.cell? ⟨bx, 0, none⟩ = some (.int .u32 af) ∧ w'.cell? ⟨bx, 1, none⟩ = some (.int .u32 ab) ∧ w'.cell? ⟨bx, 2, none⟩ = some (.int .u16 ag))
    (first | exact ⟨a1, a4, a5, e0, e1, e2⟩ | exact c1 | exact hz)
    (first
      | (go_at_call 62; (with_reducible refine hch.out.mono ?_); rintro r' w2 ⟨⟨v2, rfl⟩, hs2, hf2⟩; have hz := hpt.out _ hs2 (hfr0.out.trans hf2)))
  have hres := Lib.hid (And.intro hs2 (hfr1.out.trans hf2))
  clear hs2 hf2 hz a1 a4 a5 e0 e1 e2 c1
  go_wp2
  go_ret
  exact ⟨rfl, hres.out⟩

set_option maxHeartbeats 1000000 in
theorem rins_no (h : RC B w r q S) (at' n : Int) (hat : ¬ ((S.top : Int) ≤ at' ∧ at' ≤ S.bot)) (a : At) :
    Calls Tryz.prog 28 #[.pointer (some ⟨r, 0, none⟩), .int .i64 at', .int .i64 n, .agg #[.int .u32 a.f, .int .u32 a.b, .int .u16 a.g]] w (RDidV B w r q S 2) := by
  have hb1 := below_new w (.cells #[.int .u32 a.f, .int .u32 a.b, .int .u16 a.g] 37)
  obtain ⟨af, ab, ag⟩ := a
  simp only at hb1 ⊢
  have hres := Lib.hid (⟨h.below hb1, Fr.of_below hb1⟩ : RC B _ r q S ∧ Fr B RT w _)
  obtain ⟨c1, c4, c5⟩ := (h.below hb1).cells
  generalize S.top = tp at c4 hat
  generalize S.bot = bt at c5 hat
  clear h hb1
  by_cases hl : at' < (tp : Int)
  · have hd1 : decide (at' < (tp : Int)) = true := decide_eq_true hl
    clear hat
    go_enter Tryz.func28, Tryz.ntmps28
    go_wp2
    go_ret
    exact ⟨rfl, hres.out⟩
  · have hd1 : decide (at' < (tp : Int)) = false := decide_eq_false hl
    have hg : (bt : Int) < at' := by omega
    have hd2 : decide ((bt : Int) < at') = true := decide_eq_true hg
    clear hat
    go_enter Tryz.func28, Tryz.ntmps28
    go_wp2
    go_ret
    exact ⟨rfl, hres.out⟩

set_option maxHeartbeats 1000000 in
theorem rdel_no (h : RC B w r q S) (at' n : Int) (hat : ¬ ((S.top : Int) ≤ at' ∧ at' ≤ S.bot)) (a : At) :
    Calls Tryz.prog 29 #[.pointer (some ⟨r, 0, none⟩), .int .i64 at', .int .i64 n, .agg #[.int .u32 a.f, .int .u32 a.b, .int .u16 a.g]] w (RDidV B w r q S 2) := by
  have hb1 := below_new w (.cells #[.int .u32 a.f, .int .u32 a.b, .int .u16 a.g] 37)
  obtain ⟨af, ab, ag⟩ := a
  simp only at hb1 ⊢
  have hres := Lib.hid (⟨h.below hb1, Fr.of_below hb1⟩ : RC B _ r q S ∧ Fr B RT w _)
  obtain ⟨c1, c4, c5⟩ := (h.below hb1).cells
  generalize S.top = tp at c4 hat
  generalize S.bot = bt at c5 hat
  clear h hb1
  by_cases hl : at' < (tp : Int)
  · have hd1 : decide (at' < (tp : Int)) = true := decide_eq_true hl
    clear hat
    go_enter Tryz.func29, Tryz.ntmps29
    go_wp2
    go_ret
    exact ⟨rfl, hres.out⟩
  · have hd1 : decide (at' < (tp : Int)) = false := decide_eq_false hl
    have hg : (bt : Int) < at' := by omega
    have hd2 : decide ((bt : Int) < at') = true := decide_eq_true hg
    clear hat
    go_enter Tryz.func29, Tryz.ntmps29
    go_wp2
    go_ret
    exact ⟨rfl, hres.out⟩
end
end Go.Proofs.YtaoegfdaemmogaaGreat.Scn
