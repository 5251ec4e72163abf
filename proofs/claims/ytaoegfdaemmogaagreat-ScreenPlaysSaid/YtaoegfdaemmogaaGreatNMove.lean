/-
  screen: lines move.
-/
import Derived.Test.YtaoegfdaemmogaaGreatNAsk
namespace Go.Proofs.YtaoegfdaemmogaaGreat.Scn
open Go Go.RowKit Go.Proofs.YtaoegfdaemmogaaGreat.Com Go.Proofs.YtaoegfdaemmogaaGreat.Rw Go.Proofs.YtaoegfdaemmogaaGreat.Lns

/-- What a call leaves that tells nothing. -/
def Did (B : Nat) (w : World) (x s : Nat) (S : Scr) (e : Ending) (w' : World) : Prop := (∃ v, e = .returned v) ∧ SC B w' x s S ∧ Fr B PT w w'
/-- What a call leaves that tells how it went. -/
def DidV (B : Nat) (w : World) (x s : Nat) (S : Scr) (y : Int) (e : Ending) (w' : World) : Prop := e = .returned (.int .i64 y) ∧ SC B w' x s S ∧ Fr B PT w w'
theorem mkf (fn : Fn) (first cap : Array Value) (w : World) : (Instr.makeFunc fn first cap).run Tryz.prog w = .ok (.func fn first cap) w := rfl
section
variable {B : Nat} {w w' : World} {x s : Nat} {S : Scr}
theorem chg_forget (h : SC B w x s S) (f k i m : Nat) (hf : f + k ≤ S.L.length) (hi : i ≤ S.L.length - k) (hm : S.L.length - k + m ≤ 1000) (hnx : S.nx + m ≤ 1000000) (hc1 : 1 ≤ S.cols) (hc5 : S.cols ≤ 512) (a : At) :
    Calls Tryz.prog 57 #[.pointer (some ⟨x, 0, none⟩), .agg #[.int .i64 f, .int .i64 k], .agg #[.int .i64 i, .int .i64 m], .agg #[.int .u32 a.f, .int .u32 a.b, .int .u16 a.g], .func (.func 54) #[.pointer (some ⟨x, 0, none⟩)] #[]] w (Did B w x s (chg S f k i m a false)) := by
  obtain ⟨sv, lv, L, R, h1, h2, h3⟩ := h
  have hl : L.length = S.L.length := by rw [← h2, vw_len]
  refine (change_forget h1 f k i m (by omega) (by omega) (by omega) hnx hc1 hc5 a).mono ?_
  rintro e w' ⟨hv, sv', lv', L', R', m1, m2, m3, m4⟩
  exact ⟨hv, ⟨sv', lv', L', R', m1, by rw [m2, h2]; rfl, by rw [m3, h3]; rfl⟩, m4⟩
theorem chg_keep (h : SC B w x s S) (f k i m : Nat) (hf : f + k ≤ S.L.length) (hi : i ≤ S.L.length - k) (hm : S.L.length - k + m ≤ 1000) (hnx : S.nx + m ≤ 1000000) (hc1 : 1 ≤ S.cols) (hc5 : S.cols ≤ 512) (hid : ∀ p ∈ S.L, 1 ≤ p.1 ∧ p.1 < S.nx) (a : At) :
    Calls Tryz.prog 57 #[.pointer (some ⟨x, 0, none⟩), .agg #[.int .i64 f, .int .i64 k], .agg #[.int .i64 i, .int .i64 m], .agg #[.int .u32 a.f, .int .u32 a.b, .int .u16 a.g], .func (.func 77) #[.pointer (some ⟨x, 0, none⟩)] #[]] w (Did B w x s (chg S f k i m a true)) := by
  obtain ⟨sv, lv, L, R, h1, h2, h3⟩ := h
  have hl : L.length = S.L.length := by rw [← h2, vw_len]
  refine (change_keep h1 f k i m (by omega) (by omega) (by omega) hnx hc1 hc5 a (fun e he => hid (e.id, e.l) (by rw [← h2]; exact List.mem_map.2 ⟨e, he, rfl⟩))).mono ?_
  rintro e w' ⟨hv, sv', lv', L', R', m1, m2, m3, m4⟩
  exact ⟨hv, ⟨sv', lv', L', R', m1, by rw [m2, h2]; rfl, by rw [m3, h3, h2]; rfl⟩, m4⟩
theorem held_sc (h : SC B w x s S) (n : Int) (frm : Nat) (hf : frm ≤ S.bot) (hb : S.bot ≤ 512) : Calls Tryz.prog 76 #[.pointer (some ⟨x, 0, none⟩), .int .i64 n, .int .i64 frm] w fun e w' => e = .returned (.int .i64 (heldF n (S.bot + 1 - frm))) ∧ w = w' := by
  obtain ⟨_, _, _, _, _, c5⟩ := h.cells
  generalize S.bot = b at c5 hf hb ⊢
  have hw1 : IntKind.i64.wrap ((b : Int) + 1) = (b : Int) + 1 := IntWalk.i64_in _ (by omega)
  have hw2 : IntKind.i64.wrap ((b : Int) + 1 - (frm : Int)) = (b : Int) + 1 - (frm : Int) := IntWalk.i64_in _ (by omega)
  obtain ⟨k, hk⟩ : ∃ k, k = heldF n (b + 1 - frm) := ⟨_, rfl⟩
  rw [← hk]
  unfold heldF at hk
  replace hk := Lib.hid hk
  clear h
  by_cases h0 : n < 0
  · have hmn : Hid (min n ((b : Int) + 1 - (frm : Int)) = n) := Lib.hid (by omega)
    have hmx : Hid (max 0 n = 0) := Lib.hid (by omega)
    go_enter Tryz.func76, Tryz.ntmps76
    go_wp2
    go_ret
    exact ⟨ret_int (by have := hk.out; first | omega | (split <;> omega) | (repeat' split) <;> omega), rfl⟩
  · by_cases h1 : n ≤ (b : Int) + 1 - (frm : Int)
    · go_enter Tryz.func76, Tryz.ntmps76
      go_wp2
      all_goals
       go_ret
       exact ⟨ret_int (by have := hk.out; first | omega | (split <;> omega) | (repeat' split) <;> omega), rfl⟩
    · go_enter Tryz.func76, Tryz.ntmps76
      go_wp2
      go_ret
      exact ⟨ret_int (by have := hk.out; first | omega | (split <;> omega) | (repeat' split) <;> omega), rfl⟩

set_option maxHeartbeats 2000000 in
theorem up_forget (h : SC B w x s S) (hF : Fit S) (frm : Nat) (hfr : frm ≤ S.bot) (n : Int) (hnx : S.nx + 512 ≤ 1000000) (a : At) :
    Calls Tryz.prog 46 #[.pointer (some ⟨x, 0, none⟩), .int .i64 frm, .int .i64 n, .agg #[.int .u32 a.f, .int .u32 a.b, .int .u16 a.g], .func (.func 54) #[.pointer (some ⟨x, 0, none⟩)] #[]] w (Did B w x s (upS S frm n a false)) := by
  have hbl := hF.bot
  have hl5 := hF.len5
  have hkl := held_leN n (S.bot + 1 - frm)
  have hu : upS S frm n a false = chg S frm (heldF n (S.bot + 1 - frm)) (S.bot + 1 - heldF n (S.bot + 1 - frm)) (heldF n (S.bot + 1 - frm)) a false := rfl
  rw [hu]
  have hb1 := below_new w (.cells #[.int .u32 a.f, .int .u32 a.b, .int .u16 a.g] 37)
  have hhe := held_sc (h.below hb1) n frm hfr (by omega)
  generalize heldF n (S.bot + 1 - frm) = k at hkl hhe ⊢
  obtain ⟨j, hj⟩ : ∃ j, j = S.bot + 1 - k := ⟨_, rfl⟩
  rw [← hj]
  have hbx := Block.made w 37 #[.int .u32 a.f, .int .u32 a.b, .int .u16 a.g]
  have hw1 : IntKind.i64.wrap ((S.bot : Int) + 1) = (S.bot : Int) + 1 := IntWalk.i64_in _ (by omega)
  have hw2 : IntKind.i64.wrap ((S.bot : Int) + 1 - (k : Int)) = (j : Int) := by
    rw [show (S.bot : Int) + 1 - (k : Int) = (j : Int) by omega]
    exact IntWalk.i64_in _ (by omega)
  obtain ⟨af, ab, ag⟩ := a
  simp only at hb1 hbx hhe ⊢
  obtain ⟨bx, hbxe⟩ : ∃ bx, bx = w.heap.size := ⟨_, rfl⟩
  have h1 := h.below hb1
  replace hhe := Lib.hid hhe
  clear h hu
  go_enter Tryz.func46, Tryz.ntmps46
  go_wp2_with ((go_at_call 76; (with_reducible refine (hhe.out).mono ?_); rintro e w' ⟨rfl, rfl⟩))
  generalize w.alloc (.cells #[.int .u32 af, .int .u32 ab, .int .u16 ag] 37) = w0 at hbx hb1 h1 ⊢
  rw [← hbxe] at hbx ⊢
  replace hbxe := Lib.hid hbxe
  have hd0 : Below w0.heap.size w0 w0.drew := below_dr (Below.refl _ _) 1
  have hS : ∀ w' S', SC B w' x s S' → S'.bot = S.bot → Fr B PT w0 w' → w'.cell? ⟨x, 5, none⟩ = some (.int .i64 S.bot) ∧ w'.cell? ⟨bx, 0, none⟩ = some (.int .u32 af) ∧ w'.cell? ⟨bx, 1, none⟩ = some (.int .u32 ab) ∧ w'.cell? ⟨bx, 2, none⟩ = some (.int .u16 ag) := fun w' S' hs hb hf => by
    have hbx' := Block.fr hbx hf (.inl (by decide))
    have := hs.cells.2.2.2.2.2
    rw [hb] at this
    exact ⟨this, hbx'.cell 0 rfl, hbx'.cell 1 rfl, hbx'.cell 2 rfl⟩
  obtain ⟨a0, a1, a2, a3⟩ := hS _ _ h1 rfl (Fr.refl _ _ _)
  have c1 := hS _ _ (h1.below hd0) rfl (Fr.of_below hd0)
  have hch := chg_forget (h1.below hd0) frm k j k (by omega) (by omega) (by omega) (by omega) hF.c1 hF.c5 ⟨af, ab, ag⟩
  have hpt := Lib.hid (fun w' hs => hS w' (chg S frm k j k ⟨af, ab, ag⟩ false) hs rfl)
  have hfr1 : Fr B PT w w0.drew := (Fr.of_below hb1).trans (Fr.of_below hd0)
  have hfr0 : Fr B PT w0 w0.drew := Fr.of_below hd0
  generalize chg S frm k j k ⟨af, ab, ag⟩ false = S' at hch hpt ⊢
  simp only at hch
  generalize S.bot = bo at hw1 hw2 a0 c1 hpt
  replace hch := Lib.hid hch
  replace hfr1 := Lib.hid hfr1
  replace hfr0 := Lib.hid hfr0
  clear hS hbx h1 hb1 hd0 hj hF hfr hnx hl5 hbl hkl
  go_region_held3 (fun w' => w'.cell? ⟨x, 5, none⟩ = some (.int .i64 bo) ∧ w'.cell? ⟨bx, 0, none⟩ = some (.int .u32 af) ∧ w'.cell? ⟨bx, 1, none⟩ = some (.int .u32 ab) ∧ w'.cell? ⟨bx, 2, none⟩ = some (.int .u16 ag))
    (first | exact ⟨a0, a1, a2, a3⟩ | exact c1 | exact hz)
    (first
      | (go_at_call 57; (with_reducible refine hch.out.mono ?_); rintro r w2 ⟨⟨v2, rfl⟩, hs2, hf2⟩; have hz := hpt.out _ hs2 (hfr0.out.trans hf2)))
  have hres := Lib.hid (And.intro hs2 (hfr1.out.trans hf2))
  go_end0
  exact ⟨⟨_, rfl⟩, hres.out⟩

set_option maxHeartbeats 2000000 in
theorem up_keep (h : SC B w x s S) (hF : Fit S) (frm : Nat) (hfr : frm ≤ S.bot) (n : Int) (hnx : S.nx + 512 ≤ 1000000) (a : At) :
    Calls Tryz.prog 46 #[.pointer (some ⟨x, 0, none⟩), .int .i64 frm, .int .i64 n, .agg #[.int .u32 a.f, .int .u32 a.b, .int .u16 a.g], .func (.func 77) #[.pointer (some ⟨x, 0, none⟩)] #[]] w (Did B w x s (upS S frm n a true)) := by
  have hbl := hF.bot
  have hl5 := hF.len5
  have hkl := held_leN n (S.bot + 1 - frm)
  have hu : upS S frm n a true = chg S frm (heldF n (S.bot + 1 - frm)) (S.bot + 1 - heldF n (S.bot + 1 - frm)) (heldF n (S.bot + 1 - frm)) a true := rfl
  rw [hu]
  have hb1 := below_new w (.cells #[.int .u32 a.f, .int .u32 a.b, .int .u16 a.g] 37)
  have hhe := held_sc (h.below hb1) n frm hfr (by omega)
  generalize heldF n (S.bot + 1 - frm) = k at hkl hhe ⊢
  obtain ⟨j, hj⟩ : ∃ j, j = S.bot + 1 - k := ⟨_, rfl⟩
  rw [← hj]
  have hbx := Block.made w 37 #[.int .u32 a.f, .int .u32 a.b, .int .u16 a.g]
  have hw1 : IntKind.i64.wrap ((S.bot : Int) + 1) = (S.bot : Int) + 1 := IntWalk.i64_in _ (by omega)
  have hw2 : IntKind.i64.wrap ((S.bot : Int) + 1 - (k : Int)) = (j : Int) := by
    rw [show (S.bot : Int) + 1 - (k : Int) = (j : Int) by omega]
    exact IntWalk.i64_in _ (by omega)
  obtain ⟨af, ab, ag⟩ := a
  simp only at hb1 hbx hhe ⊢
  obtain ⟨bx, hbxe⟩ : ∃ bx, bx = w.heap.size := ⟨_, rfl⟩
  have h1 := h.below hb1
  replace hhe := Lib.hid hhe
  clear h hu
  go_enter Tryz.func46, Tryz.ntmps46
  go_wp2_with ((go_at_call 76; (with_reducible refine (hhe.out).mono ?_); rintro e w' ⟨rfl, rfl⟩))
  generalize w.alloc (.cells #[.int .u32 af, .int .u32 ab, .int .u16 ag] 37) = w0 at hbx hb1 h1 ⊢
  rw [← hbxe] at hbx ⊢
  replace hbxe := Lib.hid hbxe
  have hd0 : Below w0.heap.size w0 w0.drew := below_dr (Below.refl _ _) 1
  have hS : ∀ w' S', SC B w' x s S' → S'.bot = S.bot → Fr B PT w0 w' → w'.cell? ⟨x, 5, none⟩ = some (.int .i64 S.bot) ∧ w'.cell? ⟨bx, 0, none⟩ = some (.int .u32 af) ∧ w'.cell? ⟨bx, 1, none⟩ = some (.int .u32 ab) ∧ w'.cell? ⟨bx, 2, none⟩ = some (.int .u16 ag) := fun w' S' hs hb hf => by
    have hbx' := Block.fr hbx hf (.inl (by decide))
    have := hs.cells.2.2.2.2.2
    rw [hb] at this
    exact ⟨this, hbx'.cell 0 rfl, hbx'.cell 1 rfl, hbx'.cell 2 rfl⟩
  obtain ⟨a0, a1, a2, a3⟩ := hS _ _ h1 rfl (Fr.refl _ _ _)
  have c1 := hS _ _ (h1.below hd0) rfl (Fr.of_below hd0)
  have hch := chg_keep (h1.below hd0) frm k j k (by omega) (by omega) (by omega) (by omega) hF.c1 hF.c5 hF.ids ⟨af, ab, ag⟩
  have hpt := Lib.hid (fun w' hs => hS w' (chg S frm k j k ⟨af, ab, ag⟩ true) hs rfl)
  have hfr1 : Fr B PT w w0.drew := (Fr.of_below hb1).trans (Fr.of_below hd0)
  have hfr0 : Fr B PT w0 w0.drew := Fr.of_below hd0
  generalize chg S frm k j k ⟨af, ab, ag⟩ true = S' at hch hpt ⊢
  simp only at hch
  generalize S.bot = bo at hw1 hw2 a0 c1 hpt
  replace hch := Lib.hid hch
  replace hfr1 := Lib.hid hfr1
  replace hfr0 := Lib.hid hfr0
  clear hS hbx h1 hb1 hd0 hj hF hfr hnx hl5 hbl hkl
  go_region_held3 (fun w' => w'.cell? ⟨x, 5, none⟩ = some (.int .i64 bo) ∧ w'.cell? ⟨bx, 0, none⟩ = some (.int .u32 af) ∧ w'.cell? ⟨bx, 1, none⟩ = some (.int .u32 ab) ∧ w'.cell? ⟨bx, 2, none⟩ = some (.int .u16 ag))
    (first | exact ⟨a0, a1, a2, a3⟩ | exact c1 | exact hz)
    (first
      | (go_at_call 57; (with_reducible refine hch.out.mono ?_); rintro r w2 ⟨⟨v2, rfl⟩, hs2, hf2⟩; have hz := hpt.out _ hs2 (hfr0.out.trans hf2)))
  have hres := Lib.hid (And.intro hs2 (hfr1.out.trans hf2))
  go_end0
  exact ⟨⟨_, rfl⟩, hres.out⟩

set_option maxHeartbeats 2000000 in
theorem down_sc (h : SC B w x s S) (hF : Fit S) (to : Nat) (hfr : to ≤ S.bot) (n : Int) (hnx : S.nx + 512 ≤ 1000000) (a : At) :
    Calls Tryz.prog 52 #[.pointer (some ⟨x, 0, none⟩), .int .i64 to, .int .i64 n, .agg #[.int .u32 a.f, .int .u32 a.b, .int .u16 a.g]] w (Did B w x s (downS S to n a)) := by
  have hbl := hF.bot
  have hl5 := hF.len5
  have hkl := held_leN n (S.bot + 1 - to)
  have hu : downS S to n a = chg S (S.bot + 1 - heldF n (S.bot + 1 - to)) (heldF n (S.bot + 1 - to)) to (heldF n (S.bot + 1 - to)) a false := rfl
  rw [hu]
  have hb1 := below_new w (.cells #[.int .u32 a.f, .int .u32 a.b, .int .u16 a.g] 37)
  have hhe := held_sc (h.below hb1) n to hfr (by omega)
  generalize heldF n (S.bot + 1 - to) = k at hkl hhe ⊢
  obtain ⟨j, hj⟩ : ∃ j, j = S.bot + 1 - k := ⟨_, rfl⟩
  rw [← hj]
  have hbx := Block.made w 37 #[.int .u32 a.f, .int .u32 a.b, .int .u16 a.g]
  have hw1 : IntKind.i64.wrap ((S.bot : Int) + 1) = (S.bot : Int) + 1 := IntWalk.i64_in _ (by omega)
  have hw2 : IntKind.i64.wrap ((S.bot : Int) + 1 - (k : Int)) = (j : Int) := by
    rw [show (S.bot : Int) + 1 - (k : Int) = (j : Int) by omega]
    exact IntWalk.i64_in _ (by omega)
  obtain ⟨af, ab, ag⟩ := a
  simp only at hb1 hbx hhe ⊢
  obtain ⟨bx, hbxe⟩ : ∃ bx, bx = w.heap.size := ⟨_, rfl⟩
  have h1 := h.below hb1
  have hmf := mkf
  replace hhe := Lib.hid hhe
  clear h hu
  go_enter Tryz.func52, Tryz.ntmps52
  go_wp2_with ((go_at_call 76; (with_reducible refine (hhe.out).mono ?_); rintro e w' ⟨rfl, rfl⟩))
  generalize w.alloc (.cells #[.int .u32 af, .int .u32 ab, .int .u16 ag] 37) = w0 at hbx hb1 h1 ⊢
  rw [← hbxe] at hbx ⊢
  replace hbxe := Lib.hid hbxe
  have hd0 : Below w0.heap.size w0 w0.drew := below_dr (Below.refl _ _) 1
  have hS : ∀ w' S', SC B w' x s S' → S'.bot = S.bot → Fr B PT w0 w' → w'.cell? ⟨x, 5, none⟩ = some (.int .i64 S.bot) ∧ w'.cell? ⟨bx, 0, none⟩ = some (.int .u32 af) ∧ w'.cell? ⟨bx, 1, none⟩ = some (.int .u32 ab) ∧ w'.cell? ⟨bx, 2, none⟩ = some (.int .u16 ag) := fun w' S' hs hb hf => by
    have hbx' := Block.fr hbx hf (.inl (by decide))
    have := hs.cells.2.2.2.2.2
    rw [hb] at this
    exact ⟨this, hbx'.cell 0 rfl, hbx'.cell 1 rfl, hbx'.cell 2 rfl⟩
  obtain ⟨a0, a1, a2, a3⟩ := hS _ _ h1 rfl (Fr.refl _ _ _)
  have c1 := hS _ _ (h1.below hd0) rfl (Fr.of_below hd0)
  have hch := chg_forget (h1.below hd0) j k to k (by omega) (by omega) (by omega) (by omega) hF.c1 hF.c5 ⟨af, ab, ag⟩
  have hpt := Lib.hid (fun w' hs => hS w' (chg S j k to k ⟨af, ab, ag⟩ false) hs rfl)
  have hfr1 : Fr B PT w w0.drew := (Fr.of_below hb1).trans (Fr.of_below hd0)
  have hfr0 : Fr B PT w0 w0.drew := Fr.of_below hd0
  generalize chg S j k to k ⟨af, ab, ag⟩ false = S' at hch hpt ⊢
  simp only at hch
  generalize S.bot = bo at hw1 hw2 a0 c1 hpt
  replace hch := Lib.hid hch
  replace hfr1 := Lib.hid hfr1
  replace hfr0 := Lib.hid hfr0
  clear hS hbx h1 hb1 hd0 hj hF hfr hnx hl5 hbl hkl
  go_region_held3 (fun w' => w'.cell? ⟨x, 5, none⟩ = some (.int .i64 bo) ∧ w'.cell? ⟨bx, 0, none⟩ = some (.int .u32 af) ∧ w'.cell? ⟨bx, 1, none⟩ = some (.int .u32 ab) ∧ w'.cell? ⟨bx, 2, none⟩ = some (.int .u16 ag))
    (first | exact ⟨a0, a1, a2, a3⟩ | exact c1 | exact hz)
    (first
      | (go_at_call 57; (with_reducible refine hch.out.mono ?_); rintro r w2 ⟨⟨v2, rfl⟩, hs2, hf2⟩; have hz := hpt.out _ hs2 (hfr0.out.trans hf2)))
  have hres := Lib.hid (And.intro hs2 (hfr1.out.trans hf2))
  go_end0
  exact ⟨⟨_, rfl⟩, hres.out⟩
end
end Go.Proofs.YtaoegfdaemmogaaGreat.Scn
