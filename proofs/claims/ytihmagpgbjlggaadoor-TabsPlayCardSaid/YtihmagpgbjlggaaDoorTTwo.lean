/-
  tabs: the program's tabs and the reference's side by side.
-/
import Derived.Test.YtihmagpgbjlggaaDoorTRef4
import Derived.Test.YtihmagpgbjlggaaDoorTSteps
import Derived.Test.YtihmagpgbjlggaaDoorTOps
namespace Go.Proofs.YtihmagpgbjlggaaDoor.Tbs
open Go Go.RowKit Go.Proofs.YtihmagpgbjlggaaDoor.Com

theorem Ref.congr {B : Nat} {w : World} {r : Nat} {v : Value} {n : Nat} {f g : Nat → Bool} (h : Ref B w r v n f) (e : ∀ c, c < n → f c = g c) : Ref B w r v n g :=
  ⟨h.box, by have := h.row; rwa [flags_congr e] at this⟩
theorem rnew_any (w : World) (n : Nat) (h1 : 1 ≤ n) (h2 : n ≤ 512) : Calls Tryd.prog 9 #[.int .i64 n] w fun e w' => ∃ r v, e = .returned (.pointer (some ⟨r, 0, none⟩)) ∧ Ref w.heap.size w' r v n (resG (fun _ => false) 0) ∧ Below w.heap.size w w' ∧ w.heap.size ≤ r := by
  have hR : Ref w.heap.size (w.alloc (.cells #[.slice none 0 0] 40)) w.heap.size (.slice none 0 0) 0 (fun _ => false) := ⟨Block.made w _ _, OwnB.nil _ _⟩
  have hb := Lib.hid (below_new w (.cells #[.slice none 0 0] 40))
  have hRes := Lib.hid (rresize_any hR (by omega) (by simp) n h1 h2)
  clear hR
  go_enter Tryd.func9, Tryd.ntmps9
  go_wp2_with (go_at_call 16; (with_reducible refine (hRes.out).mono ?_); rintro e w1 ⟨v1, rfl, hr1, ho1⟩)
  go_ret
  exact ⟨_, v1, rfl, hr1, below_on hb.out ho1 (Nat.le_refl _), Nat.le_refl _⟩
theorem fresh_res (n c : Nat) (hc : c < n) : resG (fun _ => false) 0 c = freshF 0 n c := by
  unfold resG freshF
  rw [if_neg (by omega), in_yes (by omega) (by omega)]
  unfold putF eightF
  by_cases h : c = 0
  · subst h; simp
  · have : 0 < c := by omega
    simp [h, this]

/-- No stop is at n or beyond. -/
def None (n : Nat) (f : Nat → Bool) : Prop := ∀ c, n ≤ c → f c = false
theorem none_fresh (n : Nat) : None n (freshF 0 n) := fun c hc => in_no (by omega)
theorem none_put {n : Nat} {f : Nat → Bool} (h : None n f) (c : Int) (b : Bool) : None n (putG n f c b) := fun k hk => by
  unfold putG
  by_cases hc : inC n c
  · rw [if_pos hc]
    unfold putF
    have := hc.1
    have := hc.2
    rw [if_neg (by omega)]
    exact h k hk
  · rw [if_neg hc]; exact h k hk
theorem none_stops {n : Nat} {f : Nat → Bool} (h : None n f) (hn : n ≤ 512) : stsI f 512 = stsI f n := by
  unfold stsI
  rw [sts_gap 512 hn fun c h1 _ => h c h1]
def okN (m : Int) : Prop := 1 ≤ m ∧ m ≤ 512
instance (m : Int) : Decidable (okN m) := inferInstanceAs (Decidable (_ ∧ _))
def resE (m : Int) : Int := if okN m then 0 else 2
def resN (n : Nat) (m : Int) : Nat := if okN m then m.toNat else n
def resF (n : Nat) (f : Nat → Bool) (m : Int) : Nat → Bool := if okN m then resizeF n m.toNat f else f
def resR (n : Nat) (f : Nat → Bool) (m : Int) : Nat → Bool := if okN m then resG f n else f
theorem none_res {n : Nat} {f : Nat → Bool} (h : None n f) (m : Int) : None (resN n m) (resF n f m) := by
  unfold resN resF
  by_cases hm : okN m
  · rw [if_pos hm, if_pos hm]
    intro c hc
    unfold resizeF orF freshF
    rw [in_no (by omega), in_no (by omega)]
    rfl
  · rw [if_neg hm, if_neg hm]; exact h
theorem res_same {n : Nat} {f : Nat → Bool} (h : None n f) (m : Int) (c : Nat) (hc : c < resN n m) : resR n f m c = resF n f m c := by
  unfold resN at hc
  unfold resF resR
  by_cases hm : okN m
  · rw [if_pos hm] at hc
    rw [if_pos hm, if_pos hm]
    unfold resizeF orF freshF resG
    rw [in_yes (by omega) (by omega)]
    by_cases hcn : c < n
    · rw [if_pos hcn, in_no (by omega), Bool.or_false]
    · rw [if_neg hcn, h c (by omega), Bool.false_or, in_yes (by omega) (by omega)]
      unfold putF eightF
      by_cases h0 : c = 0
      · subst h0; simp
      · have : 0 < c := by omega
        simp [h0, this]
  · rw [if_neg hm, if_neg hm]

structure PSt (w0 w : World) (d n : Nat) (f : Nat → Bool) (r m : Nat) (g : Nat → Bool) (b : Nat) (o : Opr) : Prop where
  t : TSt w0 w d n f
  ref : ∃ v, Ref w0.heap.size w r v m g
  low : w0.heap.size ≤ r
  lo : 1 ≤ m
  hi : m ≤ 512
  box : Block w b 32 (opV o).toArray
section
variable {w0 w w' : World} {d n r m b : Nat} {f g : Nat → Bool} {o : Opr}
theorem PSt.next (h : PSt w0 w d n f r m g b o) (hb : Below w.heap.size w w') : PSt w0 w' d n f r m g b o :=
  ⟨h.t.next hb, let ⟨v, hv⟩ := h.ref; ⟨v, hv.below hb⟩, h.low, h.lo, h.hi, h.box.only (Only.of_below hb []) (by simp)⟩
theorem PSt.drawn (h : PSt w0 w d n f r m g b o) : PSt w0 w.drew d n f r m g b o := h.next (below_dr (Below.refl _ _) 1)
theorem PSt.tabs (h : PSt w0 w d n f r m g b o) {n' : Nat} {f' : Nat → Bool} (ht : TSt w0 w' d n' f') (ho : Only [d] w w') : PSt w0 w' d n' f' r m g b o := by
  obtain ⟨v, hv⟩ := h.ref
  have h1 := Block.apart h.t.tabs hv.box (by decide)
  have h2 := Block.apart h.t.tabs h.box (by decide)
  exact ⟨ht, ⟨v, hv.box.only ho (by simpa using h1.symm), hv.row.only ho (hv.row.not_in h.t.tabs (by decide))⟩, h.low, h.lo, h.hi, h.box.only ho (by simpa using h2.symm)⟩
theorem PSt.refs (h : PSt w0 w d n f r m g b o) (T : Tab w0) {m' : Nat} {g' : Nat → Bool} {v' : Value} {L : List Nat} (hr : Ref w0.heap.size w' r v' m' g') (h1 : 1 ≤ m') (h2 : m' ≤ 512) (ho : Only L w w') (hL : ∀ k ∈ L, w0.heap.size ≤ k) (hd : d ∉ L) (hb : b ∉ L) : PSt w0 w' d n f r m' g' b o := by
  have hB : Below w0.heap.size w0 w' := h.t.below.trans (ho.below h.t.below.size hL)
  exact ⟨⟨h.t.tabs.only ho hd, T.below hB, hB, h.t.low, h.t.lo, h.t.hi⟩, ⟨v', hr⟩, h.low, h1, h2, h.box.only ho hb⟩
theorem PSt.settle (h : PSt w0 w d n f r n g b o) (e : ∀ c, c < n → g c = f c) : PSt w0 w d n f r n f b o := by
  obtain ⟨v, hv⟩ := h.ref
  exact ⟨h.t, ⟨v, hv.congr e⟩, h.low, h.lo, h.hi, h.box⟩
/-- Blocks of the row of flags. -/
theorem PSt.row_apart (h : PSt w0 w d n f r m g b o) {v : Value} (hv : Ref w0.heap.size w r v m g) : (∀ k ∈ v.ownBlock.toList, w0.heap.size ≤ k) ∧ d ∉ v.ownBlock.toList ∧ b ∉ v.ownBlock.toList :=
  ⟨fun k hk => (hv.row.lt k (by simpa using hk)).1, fun hk => hv.row.apart h.t.tabs (by decide) (by simpa using hk), fun hk => hv.row.apart h.box (by decide) (by simpa using hk)⟩

/-! One call to the one or to the other. -/
def PNext (w0 : World) (d n : Nat) (f : Nat → Bool) (r m : Nat) (g : Nat → Bool) (b : Nat) (o : Opr) (v : Value) (e : Ending) (w' : World) : Prop := e = .returned v ∧ Hid (PSt w0 w' d n f r m g b o)
theorem p_set (h : Hid (PSt w0 w d n f r m g b o)) (T : Tab w0) (c : Int) : Calls Tryd.prog 10 #[.pointer (some ⟨d, 0, none⟩), .int .i64 c] w (PNext w0 d n (putG n f c true) r m g b o (.int .i64 (putE n c))) := by
  unfold putG putE
  have h := h.out
  by_cases hc : inC n c
  · rw [if_pos hc, if_pos hc]
    obtain ⟨k, rfl⟩ : ∃ k : Nat, c = k := ⟨c.toNat, by have := hc.1; omega⟩
    have := hc.2
    exact (set_ok h.t.tabs h.t.hi k (by omega)).mono fun _ _ ⟨he, ht, ho⟩ => ⟨he, Lib.hid (h.tabs (h.t.turned T ht ho h.t.lo h.t.hi) ho)⟩
  · rw [if_neg hc, if_neg hc]
    exact (set_bad h.t.lo h.t.tabs c (by unfold inC at hc; omega)).mono fun _ _ ⟨he, hw⟩ => ⟨he, by subst hw; exact Lib.hid h⟩
theorem p_clr (h : Hid (PSt w0 w d n f r m g b o)) (T : Tab w0) (c : Int) : Calls Tryd.prog 12 #[.pointer (some ⟨d, 0, none⟩), .int .i64 c] w (PNext w0 d n (putG n f c false) r m g b o (.int .i64 (putE n c))) := by
  unfold putG putE
  have h := h.out
  by_cases hc : inC n c
  · rw [if_pos hc, if_pos hc]
    obtain ⟨k, rfl⟩ : ∃ k : Nat, c = k := ⟨c.toNat, by have := hc.1; omega⟩
    have := hc.2
    exact (clr_ok h.t.tabs h.t.hi k (by omega)).mono fun _ _ ⟨he, ht, ho⟩ => ⟨he, Lib.hid (h.tabs (h.t.turned T ht ho h.t.lo h.t.hi) ho)⟩
  · rw [if_neg hc, if_neg hc]
    exact (clr_bad h.t.lo h.t.tabs c (by unfold inC at hc; omega)).mono fun _ _ ⟨he, hw⟩ => ⟨he, by subst hw; exact Lib.hid h⟩
theorem p_clearAll (h : Hid (PSt w0 w d n f r m g b o)) (T : Tab w0) : Calls Tryd.prog 13 #[.pointer (some ⟨d, 0, none⟩)] w (PNext w0 d n (fun _ => false) r m g b o (.int .i64 0)) := by
  have h := h.out
  exact (clearAll_any h.t.tabs h.t.lo).mono fun _ _ ⟨he, ht, ho⟩ => ⟨he, Lib.hid (h.tabs (h.t.turned T ht ho h.t.lo h.t.hi) ho)⟩
theorem p_resize (h : Hid (PSt w0 w d n f r m g b o)) (T : Tab w0) (c : Int) : Calls Tryd.prog 15 #[.pointer (some ⟨d, 0, none⟩), .int .i64 c] w (PNext w0 d (resN n c) (resF n f c) r m g b o (.int .i64 (resE c))) := by
  unfold resN resF resE
  have h := h.out
  by_cases hc : okN c
  · rw [if_pos hc, if_pos hc, if_pos hc]
    obtain ⟨k, rfl⟩ : ∃ k : Nat, c = k := ⟨c.toNat, by have := hc.1; omega⟩
    have h1 := hc.1
    have h2 := hc.2
    rw [Int.toNat_natCast]
    exact (resize_any h.t.tabs h.t.lo h.t.hi k (by omega) (by omega)).mono fun _ _ ⟨he, ht, ho⟩ => ⟨he, Lib.hid (h.tabs (h.t.turned T ht ho (by omega) (by omega)) ho)⟩
  · rw [if_neg hc, if_neg hc, if_neg hc]
    exact (resize_bad h.t.tabs h.t.lo c hc).mono fun _ _ ⟨he, hw⟩ => ⟨he, by subst hw; exact Lib.hid h⟩
theorem r_put (h : Hid (PSt w0 w d n f r m g b o)) (T : Tab w0) (c : Int) (x : Bool) : Calls Tryd.prog 11 #[.pointer (some ⟨r, 0, none⟩), .int .i64 c, .bool x] w (PNext w0 d n f r m (putG m g c x) b o (.int .i64 (putE m c))) := by
  unfold putG putE
  have h := h.out
  obtain ⟨v, hv⟩ := h.ref
  by_cases hc : inC m c
  · rw [if_pos hc, if_pos hc]
    obtain ⟨k, rfl⟩ : ∃ k : Nat, c = k := ⟨c.toNat, by have := hc.1; omega⟩
    have := hc.2
    obtain ⟨a1, a2, a3⟩ := h.row_apart hv
    exact (rput_ok hv k x (by omega)).mono fun _ _ ⟨he, hr, ho⟩ => ⟨he, Lib.hid (h.refs T hr h.lo h.hi ho a1 a2 a3)⟩
  · rw [if_neg hc, if_neg hc]
    exact (rput_bad hv h.lo c x (by unfold inC at hc; omega)).mono fun _ _ ⟨he, hw⟩ => ⟨he, by subst hw; exact Lib.hid h⟩
theorem r_clear (h : Hid (PSt w0 w d n f r m g b o)) (T : Tab w0) : Calls Tryd.prog 14 #[.pointer (some ⟨r, 0, none⟩)] w fun e w' => (∃ x, e = .returned x) ∧ Hid (PSt w0 w' d n f r m (fun _ => false) b o) := by
  have h := h.out
  obtain ⟨v, hv⟩ := h.ref
  obtain ⟨a1, a2, a3⟩ := h.row_apart hv
  exact (rclear_any hv h.lo h.hi).mono fun _ _ ⟨he, hr, ho⟩ => ⟨he, Lib.hid (h.refs T hr h.lo h.hi ho a1 a2 a3)⟩
theorem r_resize (h : Hid (PSt w0 w d n f r m g b o)) (T : Tab w0) (c : Int) : Calls Tryd.prog 16 #[.pointer (some ⟨r, 0, none⟩), .int .i64 c] w (PNext w0 d n f r (resN m c) (resR m g c) b o (.int .i64 (resE c))) := by
  unfold resN resR resE
  have h := h.out
  obtain ⟨v, hv⟩ := h.ref
  by_cases hc : okN c
  · rw [if_pos hc, if_pos hc, if_pos hc]
    obtain ⟨k, rfl⟩ : ∃ k : Nat, c = k := ⟨c.toNat, by have := hc.1; omega⟩
    have h1 := hc.1
    have h2 := hc.2
    rw [Int.toNat_natCast]
    have n1 := Block.apart h.t.tabs hv.box (by decide)
    have n2 := Block.apart hv.box h.box (by decide)
    exact (rresize_any hv h.hi h.t.below.size k (by omega) (by omega)).mono fun _ _ ⟨v', he, hr, ho⟩ => ⟨he, Lib.hid (h.refs T hr (by omega) (by omega) ho (by simpa using h.low) (by simpa using n1) (by simpa using n2.symm))⟩
  · rw [if_neg hc, if_neg hc, if_neg hc]
    exact (rresize_bad r c hc).mono fun _ _ ⟨he, hw⟩ => ⟨he, by subst hw; exact Lib.hid h⟩
/-! What only reads. -/
theorem p_cols (h : Hid (PSt w0 w d n f r m g b o)) : Calls Tryd.prog 18 #[.pointer (some ⟨d, 0, none⟩)] w (PNext w0 d n f r m g b o (.int .i64 n)) :=
  (cols_any w h.out.t.tabs).mono fun _ _ ⟨he, hw⟩ => ⟨he, by subst hw; exact h⟩
theorem p_next (h : Hid (PSt w0 w d n f r m g b o)) (c k : Int) : Calls Tryd.prog 22 #[.pointer (some ⟨d, 0, none⟩), .int .i64 c, .int .i64 k] w (PNext w0 d n f r m g b o (.int .i64 (nextF n f c k))) :=
  (next_any h.out.t.tabs h.out.t.lo h.out.t.hi c k h.out.t.tab).mono fun _ _ ⟨he, hb⟩ => ⟨he, Lib.hid (h.out.next hb)⟩
theorem p_prev (h : Hid (PSt w0 w d n f r m g b o)) (c k : Int) : Calls Tryd.prog 24 #[.pointer (some ⟨d, 0, none⟩), .int .i64 c, .int .i64 k] w (PNext w0 d n f r m g b o (.int .i64 (prevF n f c k))) :=
  (prev_any h.out.t.tabs h.out.t.lo h.out.t.hi c k h.out.t.tab).mono fun _ _ ⟨he, hb⟩ => ⟨he, Lib.hid (h.out.next hb)⟩
theorem r_next (h : Hid (PSt w0 w d n f r m g b o)) (c k : Int) (hk : k ≤ 9223372036854775807) : Calls Tryd.prog 23 #[.pointer (some ⟨r, 0, none⟩), .int .i64 c, .int .i64 k] w (PNext w0 d n f r m g b o (.int .i64 (nextF m g c k))) := by
  obtain ⟨v, hv⟩ := h.out.ref
  exact (rnext_any hv h.out.lo h.out.hi c k hk).mono fun _ _ ⟨he, hw⟩ => ⟨he, by subst hw; exact h⟩
theorem r_prev (h : Hid (PSt w0 w d n f r m g b o)) (c k : Int) (hk : k ≤ 9223372036854775807) : Calls Tryd.prog 25 #[.pointer (some ⟨r, 0, none⟩), .int .i64 c, .int .i64 k] w (PNext w0 d n f r m g b o (.int .i64 (prevF m g c k))) := by
  obtain ⟨v, hv⟩ := h.out.ref
  exact (rprev_any hv h.out.lo h.out.hi c k hk).mono fun _ _ ⟨he, hw⟩ => ⟨he, by subst hw; exact h⟩
/-- A row of ints that a call gives back, beside all else. -/
def PRow (w0 : World) (w : World) (d n : Nat) (f : Nat → Bool) (r m : Nat) (g : Nat → Bool) (b : Nat) (o : Opr) (l : List Int) (e : Ending) (w' : World) : Prop := ∃ ao c, e = .returned (.slice ao l.length c) ∧ Nums w' w'.heap.size .i64 ao l ∧ Below w.heap.size w w' ∧ Hid (PSt w0 w' d n f r m g b o)
theorem p_stops (h : Hid (PSt w0 w d n f r m g b o)) : Calls Tryd.prog 20 #[.pointer (some ⟨d, 0, none⟩)] w (PRow w0 w d n f r m g b o (stsI f 512)) :=
  (stops_any h.out.t.tabs h.out.t.lo h.out.t.tab).mono fun _ _ ⟨v, he, hown, hb⟩ => by
    obtain ⟨ao, c, rfl, _, _, hn⟩ := hown.shape
    exact ⟨ao, c, he, hn, hb, Lib.hid (h.out.next hb)⟩
theorem r_stops (h : Hid (PSt w0 w d n f r m g b o)) : Calls Tryd.prog 21 #[.pointer (some ⟨r, 0, none⟩)] w (PRow w0 w d n f r m g b o (stsI g m)) := by
  obtain ⟨v, hv⟩ := h.out.ref
  exact (rstops_any hv h.out.lo h.out.hi).mono fun _ _ ⟨v, he, hown, hb⟩ => by
    obtain ⟨ao, c, rfl, _, _, hn⟩ := hown.shape
    exact ⟨ao, c, he, hn, hb, Lib.hid (h.out.next hb)⟩
end

end Go.Proofs.YtihmagpgbjlggaaDoor.Tbs
