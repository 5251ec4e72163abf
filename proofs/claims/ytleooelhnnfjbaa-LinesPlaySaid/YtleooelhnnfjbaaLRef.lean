/-
  lines: the reference's store: New, May, Find, Fresh.
-/
import Derived.Test.YtleooelhnnfjbaaLPush
import Derived.Test.YtleooelhnnfjbaaRRNew
import Derived.Test.YtleooelhnnfjbaaRErase
namespace Go.Proofs.Ytleooelhnnfjbaa.Lns
open Go Go.RowKit Go.Proofs.Ytleooelhnnfjbaa.Com Go.Proofs.Ytleooelhnnfjbaa.Rw

theorem RefIn.fr {B B' : Nat} {ts : List TypeId} {w w' : World} {d : Nat} {l : List Cel} (h : RefIn B w d l) (hf : Fr B' ts w w') (h0 : 54 ∉ ts) (h1 : 87 ∉ ts) (h2 : 21 ∉ ts) : RefIn B w' d l := by
  obtain ⟨gv, n, cap, ps, hx, he⟩ := h
  exact ⟨gv, n, cap, ps, hx.fr hf h0 h1 h2, he⟩
theorem RefIn.below {B : Nat} {w w' : World} {d : Nat} {l : List Cel} (h : RefIn B w d l) (hb : Below w.heap.size w w') : RefIn B w' d l := RefIn.fr h (Fr.of_below (B := 0) (ts := []) hb) (by simp) (by simp) (by simp)
theorem RefIn.lower {B B' : Nat} {w : World} {d : Nat} {l : List Cel} (h : RefIn B w d l) (hB : B' ≤ B) : RefIn B' w d l := by
  obtain ⟨gv, n, cap, ps, hx, he⟩ := h
  exact ⟨gv, n, cap, ps, ⟨hx.ptr, hx.api.lower hB, hx.len, hx.pos, hx.small, hx.le, hx.cap, Nat.le_trans hB hx.lo⟩, he⟩
/-- Blocks of a type turn that is no row's. -/
theorem RefIn.other {B : Nat} {w w' : World} {d : Nat} {l : List Cel} {L : List Nat} {t : TypeId} (h : RefIn B w d l) (ho : Only L w w') (ht : ∀ k ∈ L, Typ w k t) (h0 : 54 ≠ t) (h1 : 87 ≠ t) (h2 : 21 ≠ t) : RefIn B w' d l :=
  RefIn.fr h (Fr.of_only (B := 0) (ts := [t]) ho (fun k hk _ => ⟨Nat.zero_le _, t, by simp, ht k hk⟩)) (by simpa using h0) (by simpa using h1) (by simpa using h2)
/-- Another row's pointer turns. -/
theorem RefIn.apart {B : Nat} {w w' : World} {d k : Nat} {l : List Cel} (h : RefIn B w d l) (ho : Only [k] w w') (ht : Typ w k 54) (hd : d ≠ k) : RefIn B w' d l := by
  obtain ⟨gv, n, cap, ps, hx, he⟩ := h
  exact ⟨gv, n, cap, ps, ⟨hx.ptr.only ho (by simpa using hd), hx.api.fr (Fr.of_only (B := 0) (ts := [54]) ho (fun x hx _ => by
    obtain rfl : x = k := by simpa using hx
    exact ⟨Nat.zero_le _, _, by simp, ht⟩)) (by decide) (by decide), hx.len, hx.pos, hx.small, hx.le, hx.cap, hx.lo⟩, he⟩
theorem RefIn.typ {B : Nat} {w : World} {d : Nat} {l : List Cel} (h : RefIn B w d l) : Typ w d 54 ∧ d < w.heap.size ∧ B ≤ d := by
  obtain ⟨gv, n, cap, ps, hx, he⟩ := h
  exact ⟨Block.typ hx.ptr, hx.ptr.lt, hx.lo⟩

def Hits (lv : Value) (g : Nat) : Prop := ∃ off n c, lv = .slice (some ⟨g, off, none⟩) n c
/-- The reference's lines. -/
def RL (B : Nat) (w : World) (lv : Value) (R : List En) : Prop := (lv = .slice none 0 0 ∧ R = []) ∨
  ∃ g off c, lv = .slice (some ⟨g, off, none⟩) R.length c ∧ R.length ≤ c ∧ c ≤ maxLen ∧ B ≤ g ∧ Typ w g 47 ∧ g < w.heap.size ∧ ∀ j v, (fl rlineC R)[j]? = some v → w.cell? ⟨g, off + j, none⟩ = some v
theorem RL.only {B : Nat} {w w' : World} {lv : Value} {R : List En} {L : List Nat} (h : RL B w lv R) (ho : Only L w w') (hg : ∀ g, Hits lv g → g ∉ L) : RL B w' lv R := by
  rcases h with h | ⟨g, off, c, rfl, hc, hm, hB, ⟨cs, fz, ht⟩, hlt, hv⟩
  · exact .inl h
  · have e := ho.block g hlt (hg g ⟨off, _, c, rfl⟩)
    exact .inr ⟨g, off, c, rfl, hc, hm, hB, ⟨cs, fz, e.trans ht⟩, Nat.lt_of_lt_of_le hlt ho.size, fun j v hj => (World.cell?_of_block (w := w) e).trans (hv j v hj)⟩
structure RX (B : Nat) (w : World) (r nx most : Nat) (lv : Value) (R : List En) : Prop where
  blk : Block w r 60 #[.int .i64 nx, .int .i64 most, lv]
  row : RL B w lv R
  ref : ∀ e ∈ R, RefIn B w e.dr e.l
  lo : B ≤ r
  small : nx ≤ 1000000
section
variable {B : Nat} {w w' : World} {r nx most : Nat} {lv : Value} {R : List En} {L : List Nat}
theorem RX.hit (h : RX B w r nx most lv R) : ∀ g, Hits lv g → B ≤ g ∧ g < w.heap.size ∧ Typ w g 47 := by
  rintro g ⟨off, n, c, rfl⟩
  rcases h.row with ⟨h0, _⟩ | ⟨g', off', c', e, _, _, hB, ht, hlt, _⟩
  · cases h0
  · simp only [Value.slice.injEq, Option.some.injEq, Addr.mk.injEq] at e
    obtain ⟨⟨rfl, _⟩, _⟩ := e
    exact ⟨hB, hlt, ht⟩
theorem RX.only (h : RX B w r nx most lv R) (ho : Only L w w') (hr : r ∉ L) (hg : ∀ g, Hits lv g → g ∉ L) (hd : ∀ e ∈ R, RefIn B w' e.dr e.l) : RX B w' r nx most lv R :=
  ⟨h.blk.only ho hr, h.row.only ho hg, hd, h.lo, h.small⟩
theorem RX.below (h : RX B w r nx most lv R) (hb : Below w.heap.size w w') : RX B w' r nx most lv R := h.only (Only.of_below hb []) (by simp) (by simp) (fun e he => RefIn.below (h.ref e he) hb)
theorem RX.other (h : RX B w r nx most lv R) {t : TypeId} (ho : Only L w w') (ht : ∀ k ∈ L, Typ w k t) (h0 : 60 ≠ t) (h1 : 47 ≠ t) (h2 : 54 ≠ t) (h3 : 87 ≠ t) (h4 : 21 ≠ t) : RX B w' r nx most lv R :=
  h.only ho (fun hm => h0 (Typ.inj (Block.typ h.blk) (ht _ hm))) (fun g hg hm => h1 (Typ.inj (h.hit g hg).2.2 (ht _ hm))) (fun e he => RefIn.other (h.ref e he) ho ht h2 h3 h4)
theorem RX.cells (h : RX B w r nx most lv R) : w.cell? ⟨r, 0, none⟩ = some (.int .i64 nx) ∧ w.cell? ⟨r, 1, none⟩ = some (.int .i64 most) ∧ w.cell? ⟨r, 2, none⟩ = some lv := ⟨h.blk.cell 0 rfl, h.blk.cell 1 rfl, h.blk.cell 2 rfl⟩
theorem RL.shape (h : RL B w lv R) : ∃ ao c, lv = .slice ao R.length c ∧ c ≤ maxLen ∧ R.length ≤ c := by
  rcases h with ⟨rfl, rfl⟩ | ⟨g, off, c, rfl, hc, hm, _⟩
  · exact ⟨none, 0, rfl, by unfold maxLen; omega, by simp⟩
  · exact ⟨_, c, rfl, hm, hc⟩
theorem RL.at' (h : RL B w lv R) {i : Nat} (hi : i < R.length) : ∃ g off c, lv = .slice (some ⟨g, off, none⟩) R.length c ∧ R.length ≤ c ∧ c ≤ maxLen ∧ w.cell? ⟨g, off + i * 2, none⟩ = some (.int .i64 R[i].id) ∧ w.cell? ⟨g, off + i * 2 + 1, none⟩ = some (.pointer (some ⟨R[i].dr, 0, none⟩)) := by
  rcases h with ⟨_, rfl⟩ | ⟨g, off, c, rfl, hc, hm, _, _, _, hv⟩
  · simp at hi
  · have e0 := fl_at rlineC_length hi (show 0 < 2 by decide)
    have e1 := fl_at rlineC_length hi (show 1 < 2 by decide)
    exact ⟨g, off, c, rfl, hc, hm, hv _ _ (e0.trans rfl), hv _ _ (e1.trans rfl)⟩

theorem rnew8 (most : Nat) (w : World) : Calls Try.prog 9 #[.int .i64 most] w fun e w' => e = .returned (.pointer (some ⟨w.heap.size, 0, none⟩)) ∧ RX w.heap.size w' w.heap.size 1 most (.slice none 0 0) [] ∧ Below w.heap.size w w' := by
  go_enter Try.func9, Try.ntmps9
  go_wp2
  go_ret
  exact ⟨rfl, ⟨Block.made w _ _, .inl ⟨rfl, rfl⟩, by simp, Nat.le_refl _, by decide⟩, below_new _ _⟩
theorem rmay8 (most : Int) (w : World) : Calls Try.prog 7 #[.int .i64 most] w fun e w' => e = .returned (.bool (decide (0 ≤ most ∧ most ≤ 10000))) ∧ w = w' := by
  obtain ⟨b, hb⟩ : ∃ b, b = decide (0 ≤ most ∧ most ≤ 10000) := ⟨_, rfl⟩
  rw [← hb]
  replace hb := Lib.hid hb
  go_enter Try.func7, Try.ntmps7
  go_wp2
  all_goals
    go_ret
    exact ⟨ret_bool (by rw [hb.out, Bool.eq_iff_iff]; simp <;> omega), rfl⟩
end
end Go.Proofs.Ytleooelhnnfjbaa.Lns
