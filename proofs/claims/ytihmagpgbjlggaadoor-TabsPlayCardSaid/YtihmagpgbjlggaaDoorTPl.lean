/-
  tabs: what the law TabsPlay knows from call to call.
-/
import Derived.Test.YtihmagpgbjlggaaDoorTTwo
import Derived.Deep.CutRange
namespace Go.Proofs.YtihmagpgbjlggaaDoor.Tbs
open Go Go.RowKit Go.Proofs.YtihmagpgbjlggaaDoor.Com

/-- What is known at a round's beginning. -/
structure LSt (w0 w : World) (d n : Nat) (f : Nat → Bool) (r : Nat) : Prop where
  t : TSt w0 w d n f
  ref : ∃ v, Ref w0.heap.size w r v n f
  low : w0.heap.size ≤ r
  non : None n f
section
variable {w0 w w' : World} {d n r m b : Nat} {f g : Nat → Bool} {o : Opr}
theorem LSt.op (h : LSt w0 w d n f r) (hb : Below w.heap.size w w') (hx : Block w' b 32 (opV o).toArray) : PSt w0 w' d n f r n f b o :=
  ⟨h.t.next hb, let ⟨v, hv⟩ := h.ref; ⟨v, hv.below hb⟩, h.low, h.t.lo, h.t.hi, hx⟩
theorem PSt.law (h : PSt w0 w d n f r n f b o) (hn : None n f) : LSt w0 w d n f r := ⟨h.t, h.ref, h.low, hn⟩
theorem PSt.cells (h : Hid (PSt w0 w d n f r m g b o)) : w.cell? ⟨b, 0, none⟩ = some (.int .i64 o.kind) ∧ w.cell? ⟨b, 1, none⟩ = some (.int .i64 o.col) ∧ w.cell? ⟨b, 2, none⟩ = some (.int .i64 o.n) := ⟨h.out.box.cell 0 rfl, h.out.box.cell 1 rfl, h.out.box.cell 2 rfl⟩
/-- The copy goes on, the old one is spoilt. -/
structure CSt (w0 w : World) (d no : Nat) (fo : Nat → Bool) (d' n : Nat) (f : Nat → Bool) (r m : Nat) (g : Nat → Bool) (b : Nat) (o : Opr) : Prop where
  new : PSt w0 w d' n f r m g b o
  old : TSt w0 w d no fo
  ne : d ≠ d'
variable {no no' d' : Nat} {fo fo' : Nat → Bool}
theorem CSt.step (h : CSt w0 w d no fo d' n f r m g b o) (T : Tab w0) (ht : TSt w0 w' d no' fo') (ho : Only [d] w w') : Hid (CSt w0 w' d no' fo' d' n f r m g b o) := by
  obtain ⟨v, hv⟩ := h.new.ref
  have h1 := Block.apart h.old.tabs hv.box (by decide)
  have h2 := Block.apart h.old.tabs h.new.box (by decide)
  have hr : Ref w0.heap.size w' r v m g := ⟨hv.box.only ho (by simpa using h1.symm), hv.row.only ho (hv.row.not_in h.old.tabs (by decide))⟩
  exact Lib.hid ⟨h.new.refs T hr h.new.lo h.new.hi ho (by simpa using h.old.low) (by simpa using h.ne.symm) (by simpa using h2.symm), ht, h.ne⟩
theorem c_copy (h : Hid (PSt w0 w d n f r m g b o)) : Calls Tryd.prog 17 #[.pointer (some ⟨d, 0, none⟩)] w fun e w' => ∃ d', e = .returned (.pointer (some ⟨d', 0, none⟩)) ∧ Hid (CSt w0 w' d n f d' n f r m g b o) := by
  have h := h.out
  have hlt := h.t.tabs.lt
  have hB := h.t.below.size
  exact (copy_any h.t.tabs h.t.lo).mono fun _ _ ⟨d', he, ht, hb, hd⟩ => ⟨d', he, Lib.hid ⟨⟨⟨ht, h.t.tab.below hb, below_next h.t.below hb, by omega, h.t.lo, h.t.hi⟩, (h.next hb).ref, h.low, h.lo, h.hi, (h.next hb).box⟩, h.t.next hb, by omega⟩⟩
theorem c_clearAll (h : Hid (CSt w0 w d no fo d' n f r m g b o)) (T : Tab w0) : Calls Tryd.prog 13 #[.pointer (some ⟨d, 0, none⟩)] w fun e w' => (∃ x, e = .returned x) ∧ ∃ no fo, Hid (CSt w0 w' d no fo d' n f r m g b o) := by
  have h := h.out
  exact (clearAll_any h.old.tabs h.old.lo).mono fun _ _ ⟨he, ht, ho⟩ => ⟨⟨_, he⟩, _, _, h.step T (h.old.turned T ht ho h.old.lo h.old.hi) ho⟩
theorem c_resize (h : Hid (CSt w0 w d no fo d' n f r m g b o)) (T : Tab w0) : Calls Tryd.prog 15 #[.pointer (some ⟨d, 0, none⟩), .int .i64 1] w fun e w' => (∃ x, e = .returned x) ∧ ∃ no fo, Hid (CSt w0 w' d no fo d' n f r m g b o) := by
  have h := h.out
  have hr : Calls Tryd.prog 15 #[.pointer (some ⟨d, 0, none⟩), .int .i64 1] w (Turned w d 1 (resizeF no 1 fo) 0) := resize_any h.old.tabs h.old.lo h.old.hi 1 (by omega) (by omega)
  exact hr.mono fun _ _ ⟨he, ht, ho⟩ => ⟨⟨_, he⟩, _, _, h.step T (h.old.turned T ht ho (by omega) (by omega)) ho⟩

/-! What is asked of both: nothing is turned. -/
structure RdSt (w0 w : World) (d n : Nat) (f : Nat → Bool) (r : Nat) (v : Value) (b : Nat) (o : Opr) : Prop where
  pst : PSt w0 w d n f r n f b o
  ref : Ref w0.heap.size w r v n f
variable {v : Value}
theorem RdSt.next (h : RdSt w0 w d n f r v b o) (hb : Below w.heap.size w w') : Hid (RdSt w0 w' d n f r v b o) := Lib.hid ⟨h.pst.next hb, h.ref.below hb⟩
theorem RdSt.drawn (h : RdSt w0 w d n f r v b o) : Hid (RdSt w0 w.drew d n f r v b o) := h.next (below_dr (Below.refl _ _) 1)
theorem RdSt.cells (h : Hid (RdSt w0 w d n f r v b o)) : w.cell? ⟨b, 1, none⟩ = some (.int .i64 o.col) ∧ w.cell? ⟨b, 2, none⟩ = some (.int .i64 o.n) ∧ w.cell? ⟨r, 0, none⟩ = some v := ⟨h.out.pst.box.cell 1 rfl, h.out.pst.box.cell 2 rfl, h.out.ref.cell⟩
def QNext (w0 w : World) (d n : Nat) (f : Nat → Bool) (r : Nat) (v : Value) (b : Nat) (o : Opr) (x : Value) (e : Ending) (w' : World) : Prop := e = .returned x ∧ Hid (RdSt w0 w' d n f r v b o) ∧ Below w.heap.size w w'
def QRow (w0 w : World) (d n : Nat) (f : Nat → Bool) (r : Nat) (v : Value) (b : Nat) (o : Opr) (l : List Int) (e : Ending) (w' : World) : Prop := ∃ ao c, e = .returned (.slice ao l.length c) ∧ Nums w' w'.heap.size .i64 ao l ∧ Hid (RdSt w0 w' d n f r v b o) ∧ Below w.heap.size w w'
theorem q_cols (h : Hid (RdSt w0 w d n f r v b o)) : Calls Tryd.prog 18 #[.pointer (some ⟨d, 0, none⟩)] w (QNext w0 w d n f r v b o (.int .i64 n)) :=
  (cols_any w h.out.pst.t.tabs).mono fun _ _ ⟨he, hw⟩ => ⟨he, by subst hw; exact h, by subst hw; exact Below.refl _ _⟩
theorem q_next (h : Hid (RdSt w0 w d n f r v b o)) (c k : Int) : Calls Tryd.prog 22 #[.pointer (some ⟨d, 0, none⟩), .int .i64 c, .int .i64 k] w (QNext w0 w d n f r v b o (.int .i64 (nextF n f c k))) :=
  (next_any h.out.pst.t.tabs h.out.pst.t.lo h.out.pst.t.hi c k h.out.pst.t.tab).mono fun _ _ ⟨he, hb⟩ => ⟨he, h.out.next hb, hb⟩
theorem q_prev (h : Hid (RdSt w0 w d n f r v b o)) (c k : Int) : Calls Tryd.prog 24 #[.pointer (some ⟨d, 0, none⟩), .int .i64 c, .int .i64 k] w (QNext w0 w d n f r v b o (.int .i64 (prevF n f c k))) :=
  (prev_any h.out.pst.t.tabs h.out.pst.t.lo h.out.pst.t.hi c k h.out.pst.t.tab).mono fun _ _ ⟨he, hb⟩ => ⟨he, h.out.next hb, hb⟩
theorem qr_next (h : Hid (RdSt w0 w d n f r v b o)) (c k : Int) (hk : k ≤ 9223372036854775807) : Calls Tryd.prog 23 #[.pointer (some ⟨r, 0, none⟩), .int .i64 c, .int .i64 k] w (QNext w0 w d n f r v b o (.int .i64 (nextF n f c k))) :=
  (rnext_any h.out.ref h.out.pst.lo h.out.pst.hi c k hk).mono fun _ _ ⟨he, hw⟩ => ⟨he, by subst hw; exact h, by subst hw; exact Below.refl _ _⟩
theorem qr_prev (h : Hid (RdSt w0 w d n f r v b o)) (c k : Int) (hk : k ≤ 9223372036854775807) : Calls Tryd.prog 25 #[.pointer (some ⟨r, 0, none⟩), .int .i64 c, .int .i64 k] w (QNext w0 w d n f r v b o (.int .i64 (prevF n f c k))) :=
  (rprev_any h.out.ref h.out.pst.lo h.out.pst.hi c k hk).mono fun _ _ ⟨he, hw⟩ => ⟨he, by subst hw; exact h, by subst hw; exact Below.refl _ _⟩
theorem q_stops (h : Hid (RdSt w0 w d n f r v b o)) (hn : None n f) : Calls Tryd.prog 20 #[.pointer (some ⟨d, 0, none⟩)] w (QRow w0 w d n f r v b o (stsI f n)) := by
  have := stops_any h.out.pst.t.tabs h.out.pst.t.lo h.out.pst.t.tab
  rw [none_stops hn h.out.pst.t.hi] at this
  exact this.mono fun _ _ ⟨v, he, hown, hb⟩ => by
    obtain ⟨ao, c, rfl, _, _, hn⟩ := hown.shape
    exact ⟨ao, c, he, hn, h.out.next hb, hb⟩
theorem qr_stops (h : Hid (RdSt w0 w d n f r v b o)) : Calls Tryd.prog 21 #[.pointer (some ⟨r, 0, none⟩)] w (QRow w0 w d n f r v b o (stsI f n)) :=
  (rstops_any h.out.ref h.out.pst.lo h.out.pst.hi).mono fun _ _ ⟨v, he, hown, hb⟩ => by
    obtain ⟨ao, c, rfl, _, _, hn⟩ := hown.shape
    exact ⟨ao, c, he, hn, h.out.next hb, hb⟩
theorem q_same (h : Hid (RdSt w0 w d n f r v b o)) {l : List Int} (hl : l.length ≤ 512) {ao bo : Option Addr} {c e : Nat} (h1 : Nums w w.heap.size .i64 ao l) (h2 : Nums w w.heap.size .i64 bo l) :
    Calls Tryd.prog 19 #[.slice ao l.length c, .slice bo l.length e] w (QNext w0 w d n f r v b o (.bool true)) :=
  (same_yes l ao bo c e w w.heap.size (by omega) h1 h2).mono fun _ _ ⟨he, hb⟩ => ⟨he, h.out.next hb, hb⟩
end

end Go.Proofs.YtihmagpgbjlggaaDoor.Tbs
