/- Part 43 of the proof that the card of EmuNone holds. -/
import Derived.Test.YtkjpjegmanpbfaaGreatDoorPN42
import Derived.Orders
import Derived.OrdersHeld
import Derived.Deep.RegionHeld3
import Derived.Test.YtkjpjegmanpbfaaGreatDoorPN33
set_option maxHeartbeats 16000000
set_option maxRecDepth 100000
namespace Go.Proofs.YtkjpjegmanpbfaaGreatDoor.Emu
open Go Go.RowKit Go.Proofs.YtkjpjegmanpbfaaGreatDoor.Com Go.Proofs.YtkjpjegmanpbfaaGreatDoor.Rw Go.Proofs.YtkjpjegmanpbfaaGreatDoor.Lns Go.Proofs.YtkjpjegmanpbfaaGreatDoor.Scn
section
variable {Z : Zn} {w w' : World} {d t : Nat} {T : Ter} {P : Pt}
theorem TMx.took (h : TMx Z w t T P) : (TMx Z (w.setCell ⟨t, 32, none⟩ (.slice none 0 0)) t { T with jr := [] } { P with jv := .slice none 0 0 } ∧ Scn.Fr Z TT w (w.setCell ⟨t, 32, none⟩ (.slice none 0 0))) ∧
  (TMx Z (w.setCell ⟨t, 33, none⟩ (.slice none 0 0)) t { T with rp := [] } { P with rv := .slice none 0 0 } ∧ Scn.Fr Z TT w (w.setCell ⟨t, 33, none⟩ (.slice none 0 0))) := by
 have hf : ∀ w', Only [t] w w' → Scn.Fr Z [88] w w' := fun w' ho => Scn.Fr.of_only ho fun k hk _ => by
  obtain rfl : k = t := by simpa using hk
  exact ⟨h.zt, _, by simp, Block.typ h.blk⟩
 have keep : ∀ {w' : World}, Only [t] w w' → ∀ {k : Nat} {ty : TypeId}, Typ w k ty → ty ≠ 88 → w'.heap[k]? = w.heap[k]? := fun {w'} ho {k ty} hk hty => ho.block _ (typ_lt hk) (not_in1 hk (Block.typ h.blk) hty)
 have same : ∀ {w' : World}, Only [t] w w' → ∀ {k : Nat} {ty : TypeId} {cs : Array Value}, Block w k ty cs → ty ≠ 88 → Block w' k ty cs := fun {w'} ho {k ty cs} hb hty => (keep ho (Block.typ hb) hty).trans hb
 have o1 := Only.setCell w ⟨t, 32, none⟩ (.slice none 0 0)
 have o2 := Only.setCell w ⟨t, 33, none⟩ (.slice none 0 0)
 exact ⟨⟨⟨h.blk.set 32 _, same o1 h.main (by decide), fun o ho => ⟨same o1 (h.aside o ho).1 (by decide), (h.aside o ho).2⟩, h.scr.fr (hf _ o1) (by unfold NoPT; decide), same o1 h.tabs (by decide),
  World.ownsRow_nil _ _ _ _, row_heap h.rp (fun g hg => keep o1 (row_typ h.rp g hg) (by decide)), h.zt, h.zm, h.zb, fun g hg => (by cases hg), h.zr, fun k hk => h.up k (Nat.le_trans (hf _ o1).size hk), h.low, h.tbl.fr (hf _ o1) h.low⟩, (hf _ o1).mono (by simp [TT])⟩,
  ⟨⟨h.blk.set 33 _, same o2 h.main (by decide), fun o ho => ⟨same o2 (h.aside o ho).1 (by decide), (h.aside o ho).2⟩, h.scr.fr (hf _ o2) (by unfold NoPT; decide), same o2 h.tabs (by decide),
  owns_heap h.jr (fun g hg => keep o2 (owns_typ h.jr g hg) (by decide)), Kys.Row.nil _ _ _, h.zt, h.zm, h.zb, h.zj, fun g hg => (by cases hg), fun k hk => h.up k (Nat.le_trans (hf _ o2).size hk), h.low, h.tbl.fr (hf _ o2) h.low⟩, (hf _ o2).mono (by simp [TT])⟩⟩
theorem TMx.jshape (h : TMx Z w t T P) : ∃ ao c, P.jv = .slice ao T.jr.length c := by
 obtain ⟨ao, c, e, _, _⟩ := owns_shape h.jr
 exact ⟨ao, c, e⟩
theorem TMx.rshape (h : TMx Z w t T P) : ∃ ao c, P.rv = .slice ao T.rp.length c := by
 rcases h.rp with ⟨e, e2⟩ | ⟨g, cap, cur, fz, e, _⟩
 ·exact ⟨none, 0, by rw [e, e2]; rfl⟩
 ·exact ⟨_, _, e⟩
theorem tjournal_any (h : TV Z w d t T) : Calls Tryz.prog 15 #[.pointer (some ⟨d, 0, none⟩)] w fun e w' => (∃ ao c, e = .returned (.slice ao T.jr.length c)) ∧ TV Z w' d t { T with jr := [] } ∧ Scn.Fr Z TT w w' := by
 have hm := Lib.hid (isMade_yes h)
 have c0 := h.blk.cell 0 (v := .pointer (some ⟨t, 0, none⟩)) rfl
 obtain ⟨P, hT⟩ := h.tm
 have c32 := hT.c32
 have f32 := hT.free 32
 obtain ⟨ao, c, e⟩ := hT.jshape
 rw [e] at c32
 have hk := Lib.hid (hT.took.1)
 have hend := Lib.hid (h.turn hT.took.1.1.tm hT.took.1.2)
 generalize T.jr.length = n at c32 ⊢
 clear h hT e
 go_enter Tryz.func15, Tryz.ntmps15
 go_wp2_with ((go_at_call 24; (with_reducible refine (hm.out).mono ?_); rintro e w1 ⟨rfl, rfl⟩))
 go_ret
 exact ⟨⟨_, _, rfl⟩, hend.out, hk.out.2⟩
theorem treplies_any (h : TV Z w d t T) : Calls Tryz.prog 16 #[.pointer (some ⟨d, 0, none⟩)] w fun e w' => (∃ v, e = .returned v ∧ Kys.Row w' 0 5 v T.rp) ∧ TV Z w' d t { T with rp := [] } ∧ Scn.Fr Z TT w w' := by
 have hm := Lib.hid (isMade_yes h)
 have c0 := h.blk.cell 0 (v := .pointer (some ⟨t, 0, none⟩)) rfl
 obtain ⟨P, hT⟩ := h.tm
 have c33 := hT.c33
 have f33 := hT.free 33
 obtain ⟨ao, c, e⟩ := hT.rshape
 have hrow : Kys.Row (w.setCell ⟨t, 33, none⟩ (.slice none 0 0)) 0 5 P.rv T.rp := row_heap hT.rp (fun g hg => (Only.setCell w ⟨t, 33, none⟩ (.slice none 0 0)).block _ (typ_lt (row_typ hT.rp g hg)) (not_in1 (row_typ hT.rp g hg) (Block.typ hT.blk) (by decide)))
 rw [e] at c33 hrow
 have hk := Lib.hid (hT.took.2)
 have hend := Lib.hid (h.turn hT.took.2.1.tm hT.took.2.2)
 replace hrow := Lib.hid hrow
 generalize T.rp.length = n at c33 hrow
 clear h hT e
 go_enter Tryz.func16, Tryz.ntmps16
 go_wp2_with ((go_at_call 24; (with_reducible refine (hm.out).mono ?_); rintro e w1 ⟨rfl, rfl⟩))
 go_ret
 exact ⟨⟨_, rfl, hrow.out⟩, hend.out, hk.out.2⟩
end
end Go.Proofs.YtkjpjegmanpbfaaGreatDoor.Emu
namespace Go.Proofs.YtkjpjegmanpbfaaGreatDoor.Eqt
open Go Go.RowKit
section
variable {P : Program} {ops : Array Oper} {Q : Exit → Act → World → Prop} {md : Region.Mode} {S : World → Prop}
def waitsB (md : Region.Mode) (ops : Array Oper) (j i : Nat) : Bool := match ops[j]? with
 | none => false
 | some oj => oj.after.any fun e => Region.binds md e && e.on == i
def leftB (md : Region.Mode) (ops : Array Oper) (j : Nat) (Is : List Nat) : List Nat := Is.filter fun i => !waitsB md ops j i
def wpAnyU (P : Program) (md : Region.Mode) (ops : Array Oper) (Q : Exit → Act → World → Prop) (S : World → Prop) : List Nat → Nat → Array Bool → Act → World → Prop
 | _, 0, listed, a, w => Region.ready md ops listed = [] ∧ Q .normal a w
 | Is, fuel + 1, listed, a, w =>
  (Region.ready md ops listed = [] → Q .normal a w) ∧
  ∀ j ∈ Region.ready md ops listed, wpOp P ops Q j (fun a' w' => (leftB md ops j Is ≠ [] → S w') ∧ wpAnyU P md ops Q S (leftB md ops j Is) fuel (listed.setIfInBounds j true) a' w') a w
theorem wpAny_of_U : ∀ (fuel : Nat) (Is : List Nat) (listed : Array Bool) (a : Act) (w : World), wpAnyU P md ops Q S Is fuel listed a w → wpAny P md ops Q fuel listed a w
 | 0, _, _, _, _, h => h
 | fuel + 1, _, _, _, _, h => ⟨h.1, fun i hi => wpOp_mono (fun _ _ h' => wpAny_of_U fuel _ _ _ _ h'.2) (h.2 i hi)⟩
theorem leftB_sub {j : Nat} {Is Js : List Nat} (h : Is ⊆ Js) : leftB md ops j Is ⊆ leftB md ops j Js := fun i hi => by
 simp only [leftB, List.mem_filter] at hi ⊢
 exact ⟨h hi.1, hi.2⟩
theorem ne_nil_sub {Is Js : List Nat} (h : Is ⊆ Js) (hn : Is ≠ []) : Js ≠ [] := fun e => hn (List.eq_nil_iff_forall_not_mem.2 fun i hi => by rw [e] at h; exact absurd (h hi) (by simp))
theorem wpAnyU_mono : ∀ (fuel : Nat) (Is Js : List Nat) (_ : Is ⊆ Js) (listed : Array Bool) (a : Act) (w : World), wpAnyU P md ops Q S Js fuel listed a w → wpAnyU P md ops Q S Is fuel listed a w
 | 0, _, _, _, _, _, _, h => h
 | fuel + 1, _, _, hs, _, _, _, h => ⟨h.1, fun j hj => wpOp_mono (fun _ _ h' => ⟨fun hn => h'.1 (ne_nil_sub (leftB_sub hs) hn), wpAnyU_mono fuel _ _ (leftB_sub hs) _ _ _ h'.2⟩) (h.2 j hj)⟩
theorem leftB_self (j : Nat) (Is : List Nat) : leftB md ops j Is ⊆ Is := fun i hi => by
 simp only [leftB, List.mem_filter] at hi
 exact hi.1
theorem waitsB_not {j i : Nat} {oj : Oper} (hj : ops[j]? = some oj) (h : ∀ e ∈ oj.after, Region.binds md e = true → e.on ≠ i) : waitsB md ops j i = false := by
 unfold waitsB
 simp only [hj]
 rw [Bool.eq_false_iff]
 intro ht
 obtain ⟨e, he, hb⟩ := Array.any_eq_true'.1 ht
 simp only [Bool.and_eq_true, beq_iff_eq] at hb
 exact h e he hb.1 hb.2
theorem leftB_cons {j i : Nat} {Is : List Nat} (h : waitsB md ops j i = false) : leftB md ops j (i :: Is) = i :: leftB md ops j Is := by
 unfold leftB
 rw [List.filter_cons_of_pos (by simp [h])]
theorem wpAnyU_first {i : Nat} {oi : Oper} {v : Value} (hi : ops[i]? = some oi) (hsel : ∀ (j : Nat) (o : Oper) cs b, ops[j]? = some o → o.op ≠ .select cs b)
  (hQ : ∀ c a w, Q (.panic c) (a.put oi.dst v) w → Q (.panic c) a w) :
  ∀ (fuel : Nat) (Is : List Nat) (listed : Array Bool) (a : Act) (w : World),
   (∀ j oj, ops[j]? = some oj → j ≠ i → listed.getD j true = false → (∀ e ∈ oj.after, Region.binds md e = true → e.on ≠ i) → oi.apart ops oj = true) →
   i ∈ Region.ready md ops listed → YieldsIf P ops S oi v a → S w →
   wpAnyU P md ops Q S (i :: Is) fuel (listed.setIfInBounds i true) (a.put oi.dst v) w → wpAnyU P md ops Q S Is (fuel + 1) listed a w := by
 intro fuel
 induction fuel with
 | zero =>
  intro Is listed a w _ hr hy hS H
  refine ⟨fun h => (by rw [h] at hr; cases hr), fun j hj => ?_⟩
  by_cases hji : j = i
  ·subst hji; exact hy.wpOp hi hS ⟨fun _ => hS, H⟩
  ·have := ready_mono hj hji
   rw [H.1] at this
   cases this
 | succ fuel ih =>
  intro Is listed a w hfree hr hy hS H
  refine ⟨fun h => (by rw [h] at hr; cases hr), fun j hj => ?_⟩
  by_cases hji : j = i
  ·subst hji; exact hy.wpOp hi hS ⟨fun _ => hS, wpAnyU_mono _ _ _ (fun k hk => List.mem_cons_of_mem _ (leftB_self _ _ hk)) _ _ _ H⟩
  ·have h1 := H.2 j (ready_mono hj hji)
   obtain ⟨hjun, oj, hoj, hall⟩ := mem_ready.1 hj
   have hnot : ∀ e ∈ oj.after, Region.binds md e = true → e.on ≠ i := fun e he hb heq => by
    have h1 := hall e he hb
    have h0 := (mem_ready.1 hr).1
    rw [heq] at h1
    rcases Nat.lt_or_ge i listed.size with h' | h'
    ·simp [h'] at h0 h1; rw [h0] at h1; cases h1
    ·simp [Array.getElem?_eq_none h'] at h1
   have h2 := wpOp_putIf hoj (hfree j oj hoj hji hjun hnot) (fun cs b => hsel i oi cs b hi) (fun cs b => hsel j oj cs b hoj) hQ hy h1
   have hfree' : ∀ k ok, ops[k]? = some ok → k ≠ i → (listed.setIfInBounds j true).getD k true = false →
     (∀ e ∈ ok.after, Region.binds md e = true → e.on ≠ i) → oi.apart ops ok = true := fun k ok hk hki hun hno => by
    refine hfree k ok hk hki ?_ hno
    by_cases hjk : j = k
    ·subst hjk; exact hjun
    ·rw [getD_set_ne true hjk] at hun; exact hun
   have hl : leftB md ops j (i :: Is) = i :: leftB md ops j Is := leftB_cons (waitsB_not hoj hnot)
   refine wpOp_mono (fun a' w' h3 => ?_) h2
   obtain ⟨hy', hS', hU⟩ := h3
   have hS2 : S w' := hS' (by rw [hl]; exact List.cons_ne_nil _ _)
   rw [hl] at hU
   refine ⟨fun _ => hS2, ih (leftB md ops j Is) (listed.setIfInBounds j true) a' w' hfree' (ready_mono hr (Ne.symm hji)) hy' hS2 ?_⟩
   rw [Array.setIfInBounds_comm _ _ hji]
   exact hU
theorem wpAnyU_take {i : Nat} {oi : Oper} {v : Value} {fuel : Nat} {Is : List Nat} {listed : Array Bool} {a : Act} {w : World} (hi : ops[i]? = some oi)
  (hs : Region.noSelect ops = true) (hf : Region.free md ops listed i = true) (hr : (Region.ready md ops listed).contains i = true)
  (hQ : ∀ c a w, Q (.panic c) (a.put oi.dst v) w → Q (.panic c) a w) (hy : YieldsIf P ops S oi v a) (hS : S w)
  (h : wpAnyU P md ops Q S (i :: Is) fuel (listed.setIfInBounds i true) (a.put oi.dst v) w) : wpAnyU P md ops Q S Is (fuel + 1) listed a w :=
 wpAnyU_first hi (Region.noSelect_spec hs) hQ fuel Is listed a w (Region.free_spec hi hf) (by simpa using hr) hy hS h
theorem wpAnyU_firstP {i : Nat} {oi : Oper} {v : Value} (hi : ops[i]? = some oi) (hsel : ∀ (j : Nat) (o : Oper) cs b, ops[j]? = some o → o.op ≠ .select cs b)
  (hQ : ∀ c a w, Q (.panic c) (a.put oi.dst v) w → Q (.panic c) a w) :
  ∀ (fuel : Nat) (Is : List Nat) (listed : Array Bool) (a : Act) (w : World),
   (∀ j oj, ops[j]? = some oj → j ≠ i → listed.getD j true = false → (∀ e ∈ oj.after, Region.binds md e = true → e.on ≠ i) → oi.apart ops oj = true) →
   i ∈ Region.ready md ops listed → Yields P ops oi v a → (Is ≠ [] → S w) →
   wpAnyU P md ops Q S Is fuel (listed.setIfInBounds i true) (a.put oi.dst v) w → wpAnyU P md ops Q S Is (fuel + 1) listed a w := by
 intro fuel
 induction fuel with
 | zero =>
  intro Is listed a w _ hr hy hS H
  refine ⟨fun h => (by rw [h] at hr; cases hr), fun j hj => ?_⟩
  by_cases hji : j = i
  ·subst hji; exact hy.wpOp hi ⟨fun hn => hS (ne_nil_sub (leftB_self _ _) hn), H⟩
  ·have := ready_mono hj hji
   rw [H.1] at this
   cases this
 | succ fuel ih =>
  intro Is listed a w hfree hr hy hS H
  refine ⟨fun h => (by rw [h] at hr; cases hr), fun j hj => ?_⟩
  by_cases hji : j = i
  ·subst hji; exact hy.wpOp hi ⟨fun hn => hS (ne_nil_sub (leftB_self _ _) hn), wpAnyU_mono _ _ _ (leftB_self _ _) _ _ _ H⟩
  ·have h1 := H.2 j (ready_mono hj hji)
   obtain ⟨hjun, oj, hoj, hall⟩ := mem_ready.1 hj
   have hnot : ∀ e ∈ oj.after, Region.binds md e = true → e.on ≠ i := fun e he hb heq => by
    have h1 := hall e he hb
    have h0 := (mem_ready.1 hr).1
    rw [heq] at h1
    rcases Nat.lt_or_ge i listed.size with h' | h'
    ·simp [h'] at h0 h1; rw [h0] at h1; cases h1
    ·simp [Array.getElem?_eq_none h'] at h1
   have h2 := wpOp_put hoj (hfree j oj hoj hji hjun hnot) (fun cs b => hsel i oi cs b hi) (fun cs b => hsel j oj cs b hoj) hQ hy h1
   have hfree' : ∀ k ok, ops[k]? = some ok → k ≠ i → (listed.setIfInBounds j true).getD k true = false →
     (∀ e ∈ ok.after, Region.binds md e = true → e.on ≠ i) → oi.apart ops ok = true := fun k ok hk hki hun hno => by
    refine hfree k ok hk hki ?_ hno
    by_cases hjk : j = k
    ·subst hjk; exact hjun
    ·rw [getD_set_ne true hjk] at hun; exact hun
   refine wpOp_mono (fun a' w' h3 => ?_) h2
   obtain ⟨hy', hS', hU⟩ := h3
   refine ⟨hS', ih (leftB md ops j Is) (listed.setIfInBounds j true) a' w' hfree' (ready_mono hr (Ne.symm hji)) hy' hS' ?_⟩
   rw [Array.setIfInBounds_comm _ _ hji]
   exact hU
theorem wpAnyU_pure {i : Nat} {oi : Oper} {v : Value} {fuel : Nat} {Is : List Nat} {listed : Array Bool} {a : Act} {w : World} (hi : ops[i]? = some oi)
  (hs : Region.noSelect ops = true) (hf : Region.free md ops listed i = true) (hr : (Region.ready md ops listed).contains i = true)
  (hQ : ∀ c a w, Q (.panic c) (a.put oi.dst v) w → Q (.panic c) a w) (hy : Yields P ops oi v a) (hS : Is ≠ [] → S w)
  (h : wpAnyU P md ops Q S Is fuel (listed.setIfInBounds i true) (a.put oi.dst v) w) : wpAnyU P md ops Q S Is (fuel + 1) listed a w :=
 wpAnyU_firstP hi (Region.noSelect_spec hs) hQ fuel Is listed a w (Region.free_spec hi hf) (by simpa using hr) hy hS h
theorem wpAnyU_one {fuel : Nat} {Is : List Nat} {listed : Array Bool} {a : Act} {w : World} (i : Nat) {o : Oper} (Js : List Nat) (hr : Region.ready md ops listed = [i]) (ho : ops[i]? = some o) (hJ : leftB md ops i Is = Js)
  (h : ∀ K' : Act → World → Prop, Shut (∀ a w, (Js ≠ [] → S w) → wpAnyU P md ops Q S Js fuel (listed.setIfInBounds i true) a w → K' a w) → if Region.wanted o (yielded ops a.tmps) = true then Oper.wp P o a w K' Q else K' (a.put o.dst undef) w) :
  wpAnyU P md ops Q S Is (fuel + 1) listed a w := by
 subst hJ
 refine ⟨fun h0 => (by rw [hr] at h0; cases h0), fun j hj => ?_⟩
 rw [hr] at hj
 obtain rfl : j = i := by simpa using hj
 exact wpOp_step ho (fun K' hK => h K' (fun a w hS hW => hK a w ⟨hS, hW⟩))
theorem wpAnyU_done {Is : List Nat} {listed : Array Bool} {a : Act} {w : World} (hr : Region.ready md ops listed = []) (h : Q .normal a w) :
  ∀ fuel, wpAnyU P md ops Q S Is fuel listed a w
 | 0 => ⟨hr, h⟩
 | _ + 1 => ⟨fun _ => h, by rw [hr]; simp⟩
theorem region_until {id : Nat} {a : Act} {w : World} (S : World → Prop) (hm : P.follows .mixedOrders = true)
  (h : wpAnyU P .any ops Q S [] ops.size (Array.replicate ops.size false) a w.drew) : (Code.region id ops true).wp P Q a w :=
 wp_region_any hm (wpAny_of_U _ _ _ _ _ h)
end
end Go.Proofs.YtkjpjegmanpbfaaGreatDoor.Eqt
