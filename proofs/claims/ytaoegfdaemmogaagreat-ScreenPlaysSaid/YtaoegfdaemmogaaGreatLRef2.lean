/-
  lines: the reference's store: New, May, Find, Fresh. lines: the reference's Find and Fresh.
-/
import Derived.Test.YtaoegfdaemmogaaGreatLPush
import Derived.Test.YtaoegfdaemmogaaGreatRRNew
import Derived.Test.YtaoegfdaemmogaaGreatRErase
namespace Go.Proofs.YtaoegfdaemmogaaGreat.Lns
open Go Go.RowKit Go.Proofs.YtaoegfdaemmogaaGreat.Com Go.Proofs.YtaoegfdaemmogaaGreat.Rw

theorem RefIn.fr {B B' : Nat} {ts : List TypeId} {w w' : World} {d : Nat} {l : List Cel} (h : RefIn B w d l) (hf : Fr B' ts w w') (h0 : 78 ∉ ts) (h1 : 117 ∉ ts) (h2 : 21 ∉ ts) : RefIn B w' d l := by
  obtain ⟨gv, n, cap, ps, hx, he⟩ := h
  exact ⟨gv, n, cap, ps, hx.fr hf h0 h1 h2, he⟩
theorem RefIn.below {B : Nat} {w w' : World} {d : Nat} {l : List Cel} (h : RefIn B w d l) (hb : Below w.heap.size w w') : RefIn B w' d l := RefIn.fr h (Fr.of_below (B := 0) (ts := []) hb) (by simp) (by simp) (by simp)
theorem RefIn.lower {B B' : Nat} {w : World} {d : Nat} {l : List Cel} (h : RefIn B w d l) (hB : B' ≤ B) : RefIn B' w d l := by
  obtain ⟨gv, n, cap, ps, hx, he⟩ := h
  exact ⟨gv, n, cap, ps, ⟨hx.ptr, hx.api.lower hB, hx.len, hx.pos, hx.small, hx.le, hx.cap, Nat.le_trans hB hx.lo⟩, he⟩
/-- Blocks of a type turn that is no row's. -/
theorem RefIn.other {B : Nat} {w w' : World} {d : Nat} {l : List Cel} {L : List Nat} {t : TypeId} (h : RefIn B w d l) (ho : Only L w w') (ht : ∀ k ∈ L, Typ w k t) (h0 : 78 ≠ t) (h1 : 117 ≠ t) (h2 : 21 ≠ t) : RefIn B w' d l :=
  RefIn.fr h (Fr.of_only (B := 0) (ts := [t]) ho (fun k hk _ => ⟨Nat.zero_le _, t, by simp, ht k hk⟩)) (by simpa using h0) (by simpa using h1) (by simpa using h2)
/-- Another row's pointer turns. -/
theorem RefIn.apart {B : Nat} {w w' : World} {d k : Nat} {l : List Cel} (h : RefIn B w d l) (ho : Only [k] w w') (ht : Typ w k 78) (hd : d ≠ k) : RefIn B w' d l := by
  obtain ⟨gv, n, cap, ps, hx, he⟩ := h
  exact ⟨gv, n, cap, ps, ⟨hx.ptr.only ho (by simpa using hd), hx.api.fr (Fr.of_only (B := 0) (ts := [78]) ho (fun x hx _ => by
    obtain rfl : x = k := by simpa using hx
    exact ⟨Nat.zero_le _, _, by simp, ht⟩)) (by decide) (by decide), hx.len, hx.pos, hx.small, hx.le, hx.cap, hx.lo⟩, he⟩
theorem RefIn.typ {B : Nat} {w : World} {d : Nat} {l : List Cel} (h : RefIn B w d l) : Typ w d 78 ∧ d < w.heap.size ∧ B ≤ d := by
  obtain ⟨gv, n, cap, ps, hx, he⟩ := h
  exact ⟨Block.typ hx.ptr, hx.ptr.lt, hx.lo⟩

def Hits (lv : Value) (g : Nat) : Prop := ∃ off n c, lv = .slice (some ⟨g, off, none⟩) n c
/-- The reference's lines. -/
def RL (B : Nat) (w : World) (lv : Value) (R : List En) : Prop := (lv = .slice none 0 0 ∧ R = []) ∨
  ∃ g off c, lv = .slice (some ⟨g, off, none⟩) R.length c ∧ R.length ≤ c ∧ c ≤ maxLen ∧ B ≤ g ∧ Typ w g 71 ∧ g < w.heap.size ∧ ∀ j v, (fl rlineC R)[j]? = some v → w.cell? ⟨g, off + j, none⟩ = some v
theorem RL.only {B : Nat} {w w' : World} {lv : Value} {R : List En} {L : List Nat} (h : RL B w lv R) (ho : Only L w w') (hg : ∀ g, Hits lv g → g ∉ L) : RL B w' lv R := by
  rcases h with h | ⟨g, off, c, rfl, hc, hm, hB, ⟨cs, fz, ht⟩, hlt, hv⟩
  · exact .inl h
  · have e := ho.block g hlt (hg g ⟨off, _, c, rfl⟩)
    exact .inr ⟨g, off, c, rfl, hc, hm, hB, ⟨cs, fz, e.trans ht⟩, Nat.lt_of_lt_of_le hlt ho.size, fun j v hj => (World.cell?_of_block (w := w) e).trans (hv j v hj)⟩
structure RX (B : Nat) (w : World) (r nx most : Nat) (lv : Value) (R : List En) : Prop where
  blk : Block w r 61 #[.int .i64 nx, .int .i64 most, lv]
  row : RL B w lv R
  ref : ∀ e ∈ R, RefIn B w e.dr e.l
  lo : B ≤ r
  small : nx ≤ 1000000
section
variable {B : Nat} {w w' : World} {r nx most : Nat} {lv : Value} {R : List En} {L : List Nat}
theorem RX.hit (h : RX B w r nx most lv R) : ∀ g, Hits lv g → B ≤ g ∧ g < w.heap.size ∧ Typ w g 71 := by
  rintro g ⟨off, n, c, rfl⟩
  rcases h.row with ⟨h0, _⟩ | ⟨g', off', c', e, _, _, hB, ht, hlt, _⟩
  · cases h0
  · simp only [Value.slice.injEq, Option.some.injEq, Addr.mk.injEq] at e
    obtain ⟨⟨rfl, _⟩, _⟩ := e
    exact ⟨hB, hlt, ht⟩
theorem RX.only (h : RX B w r nx most lv R) (ho : Only L w w') (hr : r ∉ L) (hg : ∀ g, Hits lv g → g ∉ L) (hd : ∀ e ∈ R, RefIn B w' e.dr e.l) : RX B w' r nx most lv R :=
  ⟨h.blk.only ho hr, h.row.only ho hg, hd, h.lo, h.small⟩
theorem RX.below (h : RX B w r nx most lv R) (hb : Below w.heap.size w w') : RX B w' r nx most lv R := h.only (Only.of_below hb []) (by simp) (by simp) (fun e he => RefIn.below (h.ref e he) hb)
theorem RX.other (h : RX B w r nx most lv R) {t : TypeId} (ho : Only L w w') (ht : ∀ k ∈ L, Typ w k t) (h0 : 61 ≠ t) (h1 : 71 ≠ t) (h2 : 78 ≠ t) (h3 : 117 ≠ t) (h4 : 21 ≠ t) : RX B w' r nx most lv R :=
  h.only ho (fun hm => h0 (Typ.inj (Block.typ h.blk) (ht _ hm))) (fun g hg hm => h1 (Typ.inj (h.hit g hg).2.2 (ht _ hm))) (fun e he => RefIn.other (h.ref e he) ho ht h2 h3 h4)
theorem RX.cells (h : RX B w r nx most lv R) : w.cell? ⟨r, 0, none⟩ = some (.int .i64 nx) ∧ w.cell? ⟨r, 1, none⟩ = some (.int .i64 most) ∧ w.cell? ⟨r, 2, none⟩ = some lv := ⟨h.blk.cell 0 rfl, h.blk.cell 1 rfl, h.blk.cell 2 rfl⟩
theorem RL.shape (h : RL B w lv R) : ∃ ao c, lv = .slice ao R.length c ∧ c ≤ maxLen ∧ R.length ≤ c := by
  rcases h with ⟨rfl, rfl⟩ | ⟨g, off, c, rfl, hc, hm, _⟩
  · exact ⟨none, 0, rfl, by unfold maxLen; omega, by simp⟩
  · exact ⟨_, c, rfl, hm, hc⟩
theorem RL.at' (h : RL B w lv R) {i : Nat} (hi : i < R.length) : ∃ g off c, lv = .slice (some ⟨g, off, none⟩) R.length c ∧ R.length ≤ c ∧ c ≤ maxLen ∧ w.cell? ⟨g, off + i * 2, none⟩ = some (.int .i64 R[i].id) ∧ w.cell? ⟨g, off + i * 2 + 1, none⟩ = some (.pointer (some ⟨R[i].dr, 0, none⟩)) := by
  rcases h with ⟨_, rfl⟩ | ⟨g, off, c, rfl, hc, hm, _, _, _, hv⟩
  · simp at hi
  · have e0 := fl_at rlineC_length hi (show 0 < 2 by decide)
    have e1 := fl_at rlineC_length hi (show 1 < 2 by decide)
    exact ⟨g, off, c, rfl, hc, hm, hv _ _ (e0.trans rfl), hv _ _ (e1.trans rfl)⟩

theorem rnew8 (most : Nat) (w : World) : Calls Tryz.prog 8 #[.int .i64 most] w fun e w' => e = .returned (.pointer (some ⟨w.heap.size, 0, none⟩)) ∧ RX w.heap.size w' w.heap.size 1 most (.slice none 0 0) [] ∧ Below w.heap.size w w' := by
  go_enter Tryz.func8, Tryz.ntmps8
  go_wp2
  go_ret
  exact ⟨rfl, ⟨Block.made w _ _, .inl ⟨rfl, rfl⟩, by simp, Nat.le_refl _, by decide⟩, below_new _ _⟩
end
end Go.Proofs.YtaoegfdaemmogaaGreat.Lns
namespace Go.Proofs.YtaoegfdaemmogaaGreat.Lns
open Go Go.RowKit Go.Proofs.YtaoegfdaemmogaaGreat.Com Go.Proofs.YtaoegfdaemmogaaGreat.Rw
section
variable {B : Nat} {w w' : World} {r nx most : Nat} {lv : Value} {R : List En} {L : List Nat}

def RFreshNo (w : World) (e : Ending) (w' : World) : Prop := e = .returned (.tuple #[.agg #[.int .i64 0, .pointer none], .int .i64 2]) ∧ Below w.heap.size w w'
set_option maxHeartbeats 1000000 in
theorem rfresh_no (r : Option Addr) (cols : Int) (hc : cols < 1 ∨ 512 < cols) (a : At) (w : World) : Calls Tryz.prog 61 #[.pointer r, .int .i64 cols, .agg #[.int .u32 a.f, .int .u32 a.b, .int .u16 a.g]] w (RFreshNo w) := by
  obtain ⟨af, ab, ag⟩ := a
  have hbn : Below w.heap.size w ((w.alloc (.cells #[.int .u32 af, .int .u32 ab, .int .u16 ag] 37)).alloc (.cells #[.int .i64 0, .pointer none] 71)) := below_next (below_new _ _) (below_new _ _)
  have hm := fun w => may_any cols w
  rw [show decide (1 ≤ cols ∧ cols ≤ 512) = false from decide_eq_false (by omega)] at hm
  have hbx := Block.made (w.alloc (.cells #[.int .u32 af, .int .u32 ab, .int .u16 ag] 37)) 71 #[.int .i64 0, .pointer none]
  simp only [World.size_alloc] at hbx
  replace hm := Lib.hid hm
  clear hc
  go_enter Tryz.func61, Tryz.ntmps61
  go_wp2_with ((go_at_call 7; (with_reducible refine (hm.out _).mono ?_); rintro e w' ⟨rfl, rfl⟩))
  exact bodyPost_ret (results_cell_tmpG rfl _ _ (w.heap.size + 1) _ rfl hbx Tryz.underlying71 rfl infoRL) rfl ⟨rfl, hbn⟩
def RFreshDone (B : Nat) (w : World) (r nx most : Nat) (lv : Value) (R : List En) (l : List Cel) (e : Ending) (w' : World) : Prop :=
  ∃ dr, e = .returned (.tuple #[.agg #[.int .i64 nx, .pointer (some ⟨dr, 0, none⟩)], .int .i64 0]) ∧ RX B w' r (nx + 1) most lv R ∧ RefIn w.heap.size w' dr l ∧ Only [r] w w'
theorem rsetnx (h : RX B w r nx most lv R) (m : Nat) (h1 : m ≤ 1000000) : RX B (w.setCell ⟨r, 0, none⟩ (.int .i64 m)) r m most lv R :=
  have ho : Only [r] w (w.setCell ⟨r, 0, none⟩ (.int .i64 m)) := Only.setCell w ⟨r, 0, none⟩ _
  have ht : ∀ k ∈ [r], Typ w k 61 := fun k hk => by
    obtain rfl : k = r := by simpa using hk
    exact Block.typ h.blk
  ⟨h.blk.set 0 _, h.row.only ho (fun g hg hm => absurd (Typ.inj (h.hit g hg).2.2 (ht _ hm)) (by decide)), fun e he => RefIn.other (h.ref e he) ho ht (by decide) (by decide) (by decide), h.lo, h1⟩
set_option maxHeartbeats 2000000 in
theorem rfresh_yes (h : RX B w r nx most lv R) (hx : nx < 1000000) (n : Nat) (hn : 1 ≤ n) (hn5 : n ≤ 512) (a : At) : Calls Tryz.prog 61 #[.pointer (some ⟨r, 0, none⟩), .int .i64 n, .agg #[.int .u32 a.f, .int .u32 a.b, .int .u16 a.g]] w (RFreshDone B w r nx most lv R (freshL n a)) := by
  have hE : ∀ {B w d} (hr : RefIn B w d (List.replicate n (clr zeroAt))), Calls Tryz.prog 84 #[.pointer (some ⟨d, 0, none⟩), .int .i64 0, .int .i64 n, .agg #[.int .u32 a.f, .int .u32 a.b, .int .u16 a.g]] w (RefDone B w d (freshL n a)) := fun hr => by
    obtain ⟨gv, n', cap, ps, hx, he⟩ := hr
    obtain rfl : n' = n := by rw [← hx.len, ← cels_length, he, List.length_replicate]
    have := rerase_any hx (by rw [he]; exact (good_new n').whole) 0 n' a
    unfold freshL eraL
    rw [List.length_replicate, ← he]
    exact this
  generalize freshL n a = fl0 at hE ⊢
  obtain ⟨af, ab, ag⟩ := a
  have hbn : Below w.heap.size w ((w.alloc (.cells #[.int .u32 af, .int .u32 ab, .int .u16 ag] 37)).alloc (.cells #[.int .i64 0, .pointer none] 71)) := below_next (below_new _ _) (below_new _ _)
  have hm := fun w => may_any n w
  rw [show decide (1 ≤ (n : Int) ∧ (n : Int) ≤ 512) = true from decide_eq_true (by omega)] at hm
  have hba := (Block.made w 37 #[.int .u32 af, .int .u32 ab, .int .u16 ag]).alloc (.cells #[.int .i64 0, .pointer none] 71)
  have hbl := Block.made (w.alloc (.cells #[.int .u32 af, .int .u32 ab, .int .u16 ag] 37)) 71 #[.int .i64 0, .pointer none]
  simp only [World.size_alloc] at hbl
  have hN0 := rnew_any ((w.alloc (.cells #[.int .u32 af, .int .u32 ab, .int .u16 ag] 37)).alloc (.cells #[.int .i64 0, .pointer none] 71)) n hn hn5
  obtain ⟨dr, hdr⟩ : ∃ dr, dr = ((w.alloc (.cells #[.int .u32 af, .int .u32 ab, .int .u16 ag] 37)).alloc (.cells #[.int .i64 0, .pointer none] 71)).heap.size := ⟨_, rfl⟩
  have hdw : w.heap.size + 1 < dr := by rw [hdr]; simp
  have hN := hN0.mono (fun e w' (ho : _ ∧ _ ∧ _) => (⟨by rw [hdr]; exact ho.1, by rw [hdr]; exact RefIn.lower ho.2.1 hbn.size, ho.2.2⟩ : e = .returned (.pointer (some ⟨dr, 0, none⟩)) ∧ RefIn w.heap.size w' dr (List.replicate n (clr zeroAt)) ∧ Below ((w.alloc (.cells #[.int .u32 af, .int .u32 ab, .int .u16 ag] 37)).alloc (.cells #[.int .i64 0, .pointer none] 71)).heap.size ((w.alloc (.cells #[.int .u32 af, .int .u32 ab, .int .u16 ag] 37)).alloc (.cells #[.int .i64 0, .pointer none] 71)) w'))
  clear hN0
  replace hN := Lib.hid hN
  clear hdr
  have hws : Hid (∀ w', Below w.heap.size w w' → RX B w' r nx most lv R) := Lib.hid (fun w' hb => h.below hb)
  have hlt := h.blk.lt
  have hhit := fun g hg => (h.hit g hg).2.1
  replace hm := Lib.hid hm
  replace hba := Lib.hid hba
  replace hbl := Lib.hid hbl
  replace hbn := Lib.hid hbn
  clear h
  simp only at hE
  go_enter Tryz.func61, Tryz.ntmps61
  go_wp2_with (first
    | (go_at_call 7; (with_reducible refine (hm.out _).mono ?_); rintro e w' ⟨rfl, rfl⟩)
    | (go_at_call 83; (with_reducible refine (hN.out).mono ?_); rintro e w1 ⟨rfl, hr1, hbe1⟩; have hba1 := hba.out.only (Only.of_below hbe1 []) (by simp); have hbl1 := hbl.out.only (Only.of_below hbe1 []) (by simp); have a0 : w1.cell? ⟨w.heap.size, 0, none⟩ = some (.int .u32 af) := hba1.cell 0 rfl; have a1 : w1.cell? ⟨w.heap.size, 1, none⟩ = some (.int .u32 ab) := hba1.cell 1 rfl; have a2 : w1.cell? ⟨w.heap.size, 2, none⟩ = some (.int .u16 ag) := hba1.cell 2 rfl; have hbw1 := below_next hbn.out hbe1)
    | (go_at_call 84; (with_reducible refine (hE hr1).mono ?_); rintro e w2 ⟨⟨v2, rfl⟩, hr2, ho2⟩; have hbl2 := hbl1.only ho2 (not_in1 (Block.typ hbl1) (RefIn.typ hr1).1 (by decide)); have hbw2 := below_on hbw1 ho2 (by omega); have hR2 := hws.out _ hbw2; have s0 : w2.cell? ⟨r, 0, none⟩ = some (.int .i64 nx) := hR2.blk.cell 0 rfl; have sf := hR2.blk.free 0; have l0 := hbl2.cell 0 rfl; have l1 := hbl2.cell 1 rfl; have f0 := hbl2.free 0; have f1 := hbl2.free 1))
  have hR3 := rsetnx hR2 (nx + 1) (by omega)
  rw [Int.natCast_add, Int.natCast_one] at hR3
  have ho3 : Only [r] w2 (w2.setCell ⟨r, 0, none⟩ (.int .i64 ((nx : Int) + 1))) := Only.setCell w2 ⟨r, 0, none⟩ _
  have hbl3 := hbl2.only ho3 (not_in1 (Block.typ hbl2) (Block.typ hR2.blk) (by decide))
  have ht3 : ∀ k ∈ [r], Typ w2 k 61 := fun k hk => by
    obtain rfl : k = r := by simpa using hk
    exact Block.typ hR2.blk
  have hr3 := RefIn.other hr2 ho3 ht3 (by decide) (by decide) (by decide)
  generalize w2.setCell ⟨r, 0, none⟩ (.int .i64 ((nx : Int) + 1)) = w3 at hR3 ho3 hbl3 hr3 ⊢
  have ho4 : Only [w.heap.size + 1] w3 ((w3.setCell ⟨w.heap.size + 1, 0, none⟩ (.int .i64 nx)).setCell ⟨w.heap.size + 1, 1, none⟩ (.pointer (some ⟨dr, 0, none⟩))) := (Only.setCell w3 ⟨w.heap.size + 1, 0, none⟩ _).trans (Only.setCell _ ⟨w.heap.size + 1, 1, none⟩ _)
  have ht4 : ∀ k ∈ [w.heap.size + 1], Typ w3 k 71 := fun k hk => by
    obtain rfl : k = w.heap.size + 1 := by simpa using hk
    exact Block.typ hbl3
  have hR4 : RX B _ r (nx + 1) most lv R := hR3.only ho4 (not_in1 (Block.typ hR3.blk) (Block.typ hbl3) (by decide)) (fun g hg hm => by
    have := hhit g hg
    simp at hm
    omega) (fun e he => RefIn.other (hR3.ref e he) ho4 ht4 (by decide) (by decide) (by decide))
  refine bodyPost_ret (results_cell_tmpG rfl _ _ (w.heap.size + 1) _ rfl (block2 hbl3 _ _) Tryz.underlying71 rfl infoRL) rfl ⟨dr, rfl, hR4, RefIn.other hr3 ho4 ht4 (by decide) (by decide) (by decide), ?_⟩
  exact ((Only.of_below hbw2 [r]).trans ho3).then ho4 (fun k hk => .inr (by simp at hk; omega))
end
end Go.Proofs.YtaoegfdaemmogaaGreat.Lns
