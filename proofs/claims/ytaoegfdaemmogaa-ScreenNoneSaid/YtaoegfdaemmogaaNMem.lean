/-
  screen: memory: a screen's block, its lines' cells, its store; all that is known of a screen.
-/
import Derived.Test.YtaoegfdaemmogaaNMath
import Derived.Test.YtaoegfdaemmogaaNLaw
namespace Go.Proofs.Ytaoegfdaemmogaa.Scn
open Go Go.RowKit Go.Proofs.Ytaoegfdaemmogaa.Com Go.Proofs.Ytaoegfdaemmogaa.Rw Go.Proofs.Ytaoegfdaemmogaa.Lns

/-- The types that a call on a screen may turn. -/
def PT : List TypeId := [60, 78, 92, 95, 113]
def NoPT (ts : List TypeId) : Prop := ∀ t ∈ PT, t ∉ ts
theorem Typ.frm {B : Nat} {ts : List TypeId} {w w' : World} {k : Nat} {t : TypeId} (h : Typ w k t) (hf : Fr B ts w w') (ht : t ∉ ts) : Typ w' k t := by
  obtain ⟨cs, fz, h⟩ := h
  refine ⟨cs, fz, (hf.block k (lt_of_block' h) (.inr fun t' ht' hT => ht ?_)).trans h⟩
  rw [Typ.inj ⟨cs, fz, h⟩ hT]
  exact ht'
theorem owns_fr {B' : Nat} {ts : List TypeId} {w w' : World} {B : Nat} {e : TypeId} {s n : Nat} {v : Value} {xs : List Value} (h : w.ownsRow B e s v n xs) (hf : Fr B' ts w w') (ht : e ∉ ts) : w'.ownsRow B e s v n xs := by
  refine ⟨h.1, ?_⟩
  rcases h.2 with h2 | ⟨g, cap, cur, rfl, hg, hh, r⟩
  · exact .inl h2
  · exact .inr ⟨g, cap, cur, rfl, hg, (hf.block g (lt_of_block hh) (.inr fun t' ht' hT => ht (by rw [Typ.inj (w := w) ⟨cur, _, hh⟩ hT]; exact ht'))).trans hh, r⟩
theorem rowG_fr {B' : Nat} {ts : List TypeId} {B : Nat} {w w' : World} {e : En} (h : RowG B w e) (hf : Fr B' ts w w') (hn : NoPT ts) : RowG B w' e := by
  obtain ⟨h1, h2, h3, n, cap, tail, hx⟩ := h
  exact ⟨h1, h2, h3, n, cap, tail, ⟨Block.fr hx.ptr hf (.inl (hn _ (by simp [PT]))), Block.fr hx.row hf (.inl (hn _ (by simp [PT]))), hx.len, hx.le, hx.cap, hx.pos, hx.small⟩⟩
theorem sx_fr {B' : Nat} {ts : List TypeId} {B : Nat} {w w' : World} {s nx most : Nat} {sv : Value} {R : List En} (h : SX B w s nx most sv R) (hf : Fr B' ts w w') (hn : NoPT ts) : SX B w' s nx most sv R := by
  obtain ⟨⟨o, P, h0, hR⟩, hg⟩ := h
  exact ⟨⟨o, P, ⟨Block.fr h0.blk hf (.inl (hn _ (by simp [PT]))), owns_fr h0.own hf (hn _ (by simp [PT])), h0.le, h0.old, h0.olt, h0.most, h0.pos, h0.small, h0.lo⟩, hR⟩, fun e he => rowG_fr (hg e he) hf hn⟩

/-- A screen at x: its store at s; its lines' cells are xs. -/
structure LnX (B : Nat) (w : World) (x s nx most : Nat) (kp : Bool) (cols : Nat) (sv lv : Value) (top bot n : Nat) (xs : List Value) (R : List En) : Prop where
  blk : Block w x 60 #[.pointer (some ⟨s, 0, none⟩), .bool kp, .int .i64 cols, lv, .int .i64 top, .int .i64 bot]
  own : w.ownsRow B 92 2 lv n xs
  st : SX B w s nx most sv R
  apart : ∀ g, lv.ownBlock = some g → sv.ownBlock ≠ some g
  lo : B ≤ x
  small : n ≤ 1000
section
variable {B : Nat} {w w' : World} {x s nx most cols top bot n : Nat} {kp : Bool} {sv lv : Value} {xs : List Value} {R : List En} {L : List Nat}
theorem LnX.cells (h : LnX B w x s nx most kp cols sv lv top bot n xs R) : w.cell? ⟨x, 0, none⟩ = some (.pointer (some ⟨s, 0, none⟩)) ∧ w.cell? ⟨x, 1, none⟩ = some (.bool kp) ∧ w.cell? ⟨x, 2, none⟩ = some (.int .i64 cols) ∧ w.cell? ⟨x, 3, none⟩ = some lv ∧ w.cell? ⟨x, 4, none⟩ = some (.int .i64 top) ∧ w.cell? ⟨x, 5, none⟩ = some (.int .i64 bot) :=
  ⟨h.blk.cell 0 rfl, h.blk.cell 1 rfl, h.blk.cell 2 rfl, h.blk.cell 3 rfl, h.blk.cell 4 rfl, h.blk.cell 5 rfl⟩
theorem LnX.only (h : LnX B w x s nx most kp cols sv lv top bot n xs R) (ho : Only L w w') (hx : x ∉ L) (hs : s ∉ L) (hl : ∀ g, lv.ownBlock = some g → g ∉ L) (hp : ∀ g, sv.ownBlock = some g → g ∉ L) (hr : ∀ e ∈ R, e.d ∉ L ∧ e.g ∉ L) : LnX B w' x s nx most kp cols sv lv top bot n xs R :=
  ⟨h.blk.only ho hx, owns_only h.own ho hl, h.st.only ho hs hp hr, h.apart, h.lo, h.small⟩
theorem LnX.below (h : LnX B w x s nx most kp cols sv lv top bot n xs R) (hb : Below w.heap.size w w') : LnX B w' x s nx most kp cols sv lv top bot n xs R := h.only (Only.of_below hb []) (by simp) (by simp) (by simp) (by simp) (by simp)
theorem LnX.drawn (h : LnX B w x s nx most kp cols sv lv top bot n xs R) (q : Nat) : LnX B (w.drewN q) x s nx most kp cols sv lv top bot n xs R := h.below (below_dr (Below.refl _ _) q)
theorem LnX.fr {B' : Nat} {ts : List TypeId} (h : LnX B w x s nx most kp cols sv lv top bot n xs R) (hf : Fr B' ts w w') (hn : NoPT ts) : LnX B w' x s nx most kp cols sv lv top bot n xs R :=
  ⟨Block.fr h.blk hf (.inl (hn _ (by simp [PT]))), owns_fr h.own hf (hn _ (by simp [PT])), sx_fr h.st hf hn, h.apart, h.lo, h.small⟩
theorem LnX.typ (h : LnX B w x s nx most kp cols sv lv top bot n xs R) : Typ w x 60 := Block.typ h.blk
theorem LnX.ltyp (h : LnX B w x s nx most kp cols sv lv top bot n xs R) : ∀ g, lv.ownBlock = some g → B ≤ g ∧ g < w.heap.size ∧ Typ w g 92 := fun g hg => ⟨(World.ownsRow.lt h.own g hg).1, (World.ownsRow.lt h.own g hg).2, owns_typ h.own g hg⟩
theorem LnX.shape (h : LnX B w x s nx most kp cols sv lv top bot n xs R) : ∃ ao c, lv = .slice ao n c ∧ n ≤ c ∧ c ≤ maxLen := owns_shape h.own
/-- The screen's own block, and its lines, turn: the store stays. -/
theorem LnX.store (h : LnX B w x s nx most kp cols sv lv top bot n xs R) (ho : Only (x :: lv.ownBlock.toList) w w') : SX B w' s nx most sv R := by
  have hno : ∀ {k : Nat} {t : TypeId}, Typ w k t → 60 ≠ t → 92 ≠ t → k ∉ x :: lv.ownBlock.toList := fun {k t} ht n1 n2 hm => by
    rcases List.mem_cons.1 hm with rfl | hm
    · exact n1 (Typ.inj h.typ ht)
    · exact n2 (Typ.inj (h.ltyp k (by simpa using hm)).2.2 ht)
  refine h.st.only ho (hno h.st.typ (by decide) (by decide)) (fun g hg hm => ?_) (fun e he => ⟨hno (h.st.2 e he).typ.1 (by decide) (by decide), hno (h.st.2 e he).typ.2 (by decide) (by decide)⟩)
  rcases List.mem_cons.1 hm with rfl | hm
  · exact absurd (Typ.inj h.typ (h.st.ptyp g hg).2.2) (by decide)
  · exact h.apart g (by simpa using hm) hg
/-- What turns is of the screen's types. -/
theorem LnX.frame (h : LnX B w x s nx most kp cols sv lv top bot n xs R) (ho : Only (x :: lv.ownBlock.toList) w w') : Fr B PT w w' :=
  Fr.of_only ho fun k hk _ => by
    rcases List.mem_cons.1 hk with rfl | hm
    · exact ⟨h.lo, _, by simp [PT], h.typ⟩
    · have := h.ltyp k (by simpa using hm)
      exact ⟨this.1, _, by simp [PT], this.2.2⟩
/-- The screen's slice of lines is another one. -/
theorem LnX.setL (h : LnX B w x s nx most kp cols sv lv top bot n xs R) {lv' : Value} {n' : Nat} {xs' : List Value} {w1 : World} (h1 : w1.ownsRow B 92 2 lv' n' xs') (ho : Only lv.ownBlock.toList w w1) (hl : lv'.ownBlock = lv.ownBlock ∨ ∃ g, lv'.ownBlock = some g ∧ w.heap.size ≤ g) (hn : n' ≤ 1000) :
    LnX B (w1.setCell ⟨x, 3, none⟩ lv') x s nx most kp cols sv lv' top bot n' xs' R ∧ Only (x :: lv.ownBlock.toList) w (w1.setCell ⟨x, 3, none⟩ lv') := by
  have hxl : x ∉ lv.ownBlock.toList := fun hm => absurd (Typ.inj h.typ (h.ltyp x (by simpa using hm)).2.2) (by decide)
  have hb1 := h.blk.only ho hxl
  have ho2 : Only [x] w1 (w1.setCell ⟨x, 3, none⟩ lv') := Only.setCell w1 ⟨x, 3, none⟩ _
  have hO : Only (x :: lv.ownBlock.toList) w (w1.setCell ⟨x, 3, none⟩ lv') := (ho.mono (by simp +contextual)).trans (ho2.mono (by simp))
  refine ⟨⟨hb1.set 3 lv', owns_only h1 ho2 (fun g hg => not_in1 (owns_typ h1 g hg) (Block.typ hb1) (by decide)), h.store hO, ?_, h.lo, hn⟩, hO⟩
  intro g hg hs
  rcases hl with hl | ⟨g', hl, hge⟩
  · exact h.apart g (hl ▸ hg) hs
  · have h2 := (h.st.ptyp g hs).2.1
    rw [hl] at hg
    cases hg
    omega
end
end Go.Proofs.Ytaoegfdaemmogaa.Scn
