/-
  lines: what a round of LinesPlay knows: the state, and the call that is done.
-/
import Derived.Test.YtleooelhnnfjbaaLPst
import Derived.Test.YtleooelhnnfjbaaLArg
namespace Go.Proofs.Ytleooelhnnfjbaa.Lns
open Go Go.RowKit Go.Proofs.Ytleooelhnnfjbaa.Com Go.Proofs.Ytleooelhnnfjbaa.Rw
set_option linter.unusedVariables false

structure BSt (w0 w : World) (s r most nx nr : Nat) (sv lv tv wv : Value) (Rp Rr Tp Tr : List En) (b : Nat) (o : Opr) : Prop where
  p : PSt w0 w s r most nx nr sv lv tv wv Rp Rr Tp Tr
  box : Block w b 38 (opV o).toArray
section
variable {w0 w w' : World} {s r most nx nr b : Nat} {sv lv tv wv : Value} {Rp Rr Tp Tr : List En} {o : Opr}
theorem box_ts {cs : Array Value} {L : List Nat} {ts : List TypeId} (h : Block w b 38 cs) (ho : Only L w w') (ht : ∀ k ∈ L, ∃ t ∈ ts, Typ w k t) (hn : 38 ∉ ts) : Block w' b 38 cs := h.only ho (not_ts ht (Block.typ h) hn)
theorem BSt.stay (h : BSt w0 w s r most nx nr sv lv tv wv Rp Rr Tp Tr b o) (hb : Below w.heap.size w w') : BSt w0 w' s r most nx nr sv lv tv wv Rp Rr Tp Tr b o := ⟨h.p.stay hb, h.box.only (Only.of_below hb []) (by simp)⟩
theorem BSt.cells (h : Hid (BSt w0 w s r most nx nr sv lv tv wv Rp Rr Tp Tr b o)) : w.cell? ⟨b, 0, none⟩ = some (.int .i64 o.kind) ∧ w.cell? ⟨b, 1, none⟩ = some (.int .i64 o.n) ∧ w.cell? ⟨b, 2, none⟩ = some (.int .i32 o.r) ∧ w.cell? ⟨b, 3, none⟩ = some (.int .u32 o.a.f) ∧ w.cell? ⟨b, 4, none⟩ = some (.int .u32 o.a.b) ∧ w.cell? ⟨b, 5, none⟩ = some (.int .u16 o.a.g) :=
  ⟨h.out.box.cell 0 rfl, h.out.box.cell 1 rfl, h.out.box.cell 2 rfl, h.out.box.cell 3 rfl, h.out.box.cell 4 rfl, h.out.box.cell 5 rfl⟩
theorem own_at {B : Nat} {e : TypeId} {f : En → List Value} (hf : ∀ x, (f x).length = 2) {T : List En} {g c : Nat} (h : w.ownsRow B e 2 (.slice (some ⟨g, 0, none⟩) T.length c) T.length (fl f T)) {k : Nat} (hk : k < T.length) {j : Nat} (hj : j < 2) {v : Value} (hv : (f T[k])[j]? = some v) : w.cell? ⟨g, k * 2 + j, none⟩ = some v := by
  have := own_news h (k * 2 + j) v (by rw [fl_at hf hk hj]; exact hv)
  rwa [Addr.add_lit, Nat.zero_add] at this
/-- The lines that were told lie there. -/
theorem BSt.told {n gt ct gw cw : Nat} (h : Hid (BSt w0 w s r most nx nr sv lv (.slice (some ⟨gt, 0, none⟩) n ct) (.slice (some ⟨gw, 0, none⟩) n cw) Rp Rr Tp Tr b o)) (ht : Tp.length = n) (hr : Tr.length = n) {k : Nat} (hk : k < Tp.length) (hkr : k < Tr.length) :
    w.cell? ⟨gt, k * 2 + 1, none⟩ = some (.pointer (some ⟨Tp[k].d, 0, none⟩)) ∧ w.cell? ⟨gw, k * 2, none⟩ = some (.int .i64 Tr[k].id) ∧ w.cell? ⟨gw, k * 2 + 1, none⟩ = some (.pointer (some ⟨Tr[k].dr, 0, none⟩)) := by
  have h1 := h.out.p.tl
  have h2 := h.out.p.wl
  rw [← ht] at h1
  rw [← hr] at h2
  exact ⟨own_at lineC_length h1 hk (j := 1) (by omega) rfl, own_at rlineC_length h2 hkr (j := 0) (by omega) rfl, own_at rlineC_length h2 hkr (j := 1) (by omega) rfl⟩

theorem BSt.toldP {n gt ct : Nat} (h : Hid (BSt w0 w s r most nx nr sv lv (.slice (some ⟨gt, 0, none⟩) n ct) wv Rp Rr Tp Tr b o)) (ht : Tp.length = n) {k : Nat} (hk : k < Tp.length) : w.cell? ⟨gt, k * 2 + 1, none⟩ = some (.pointer (some ⟨Tp[k].d, 0, none⟩)) := by
  have h1 := h.out.p.tl
  rw [← ht] at h1
  exact own_at lineC_length h1 hk (j := 1) (by omega) rfl
theorem BSt.toldR {n gw cw : Nat} (h : Hid (BSt w0 w s r most nx nr sv lv tv (.slice (some ⟨gw, 0, none⟩) n cw) Rp Rr Tp Tr b o)) (hr : Tr.length = n) {k : Nat} (hkr : k < Tr.length) : w.cell? ⟨gw, k * 2, none⟩ = some (.int .i64 Tr[k].id) ∧ w.cell? ⟨gw, k * 2 + 1, none⟩ = some (.pointer (some ⟨Tr[k].dr, 0, none⟩)) := by
  have h2 := h.out.p.wl
  rw [← hr] at h2
  exact ⟨own_at rlineC_length h2 hkr (j := 0) (by omega) rfl, own_at rlineC_length h2 hkr (j := 1) (by omega) rfl⟩
theorem b_push_nil (h : Hid (BSt w0 w s r most nx nr sv lv tv wv Rp Rr Tp Tr b o)) (id : Int) : Calls Try.prog 15 #[.pointer (some ⟨s, 0, none⟩), .agg #[.int .i64 id, .pointer none]] w fun e w' => e = .returned (.int .i64 2) ∧ Hid (BSt w0 w' s r most nx nr sv lv tv wv Rp Rr Tp Tr b o) :=
  (push_nil h.out.p.sx id).mono fun e w' ho => ⟨ho.1, Lib.hid (h.out.stay ho.2)⟩
theorem b_push_no (h : Hid (BSt w0 w s r most nx nr sv lv tv wv Rp Rr Tp Tr b o)) {e0 : En} (he : e0 ∈ Tp) (id : Int) (hid : id < 1 ∨ (nx : Int) ≤ id) : Calls Try.prog 15 #[.pointer (some ⟨s, 0, none⟩), .agg #[.int .i64 id, .pointer (some ⟨e0.d, 0, none⟩)]] w fun e w' => e = .returned (.int .i64 2) ∧ Hid (BSt w0 w' s r most nx nr sv lv tv wv Rp Rr Tp Tr b o) :=
  (p_push_no h.out.p he id hid).mono fun e w' ho => ⟨ho.1, Lib.hid (h.out.stay ho.2.2)⟩
def BPush (w0 : World) (s r most nx nr : Nat) (lv tv wv : Value) (Rp Rr Tp Tr : List En) (b : Nat) (o : Opr) (id : Int) (l : List Cel) (e : Ending) (w' : World) : Prop :=
  ∃ sv' d g, e = .returned (.int .i64 0) ∧ Hid (BSt w0 w' s r most nx nr sv' lv tv wv (pushL most Rp ⟨id, d, g, 0, l⟩) Rr Tp Tr b o)
theorem b_push_yes (h : Hid (BSt w0 w s r most nx nr sv lv tv wv Rp Rr Tp Tr b o)) {e0 : En} (he : e0 ∈ Tp) (id : Int) (hid : 1 ≤ id ∧ id < nx) : Calls Try.prog 15 #[.pointer (some ⟨s, 0, none⟩), .agg #[.int .i64 id, .pointer (some ⟨e0.d, 0, none⟩)]] w (BPush w0 s r most nx nr lv tv wv Rp Rr Tp Tr b o id e0.l) := by
  refine (p_push_yes h.out.p he id hid).mono ?_
  rintro e w' ⟨sv', d, g, he', hp, L, ho, ht⟩
  exact ⟨sv', d, g, he', Lib.hid ⟨hp, box_ts h.out.box ho ht (by decide)⟩⟩
theorem br_push_no (h : Hid (BSt w0 w s r most nx nr sv lv tv wv Rp Rr Tp Tr b o)) {e0 : En} (he : e0 ∈ Tr) (id : Int) (hid : id < 1 ∨ (nr : Int) ≤ id) : Calls Try.prog 16 #[.pointer (some ⟨r, 0, none⟩), .int .i64 id, .pointer (some ⟨e0.dr, 0, none⟩)] w fun e w' => e = .returned (.int .i64 2) ∧ Hid (BSt w0 w' s r most nx nr sv lv tv wv Rp Rr Tp Tr b o) :=
  (r_push_no h.out.p he id hid).mono fun e w' ho => ⟨ho.1, ho.2 ▸ h⟩
def BRPush (w0 : World) (s r most nx nr : Nat) (sv tv wv : Value) (Rp Rr Tp Tr : List En) (b : Nat) (o : Opr) (id : Int) (l : List Cel) (e : Ending) (w' : World) : Prop :=
  ∃ lv' dr, e = .returned (.int .i64 0) ∧ Hid (BSt w0 w' s r most nx nr sv lv' tv wv Rp (pushL most Rr ⟨id, 0, 0, dr, l⟩) Tp Tr b o)
theorem br_push_yes (h : Hid (BSt w0 w s r most nx nr sv lv tv wv Rp Rr Tp Tr b o)) (h5 : Rr.length ≤ 10000) {e0 : En} (he : e0 ∈ Tr) (hgd : Rw.Good e0.l) (id : Int) (hid : 1 ≤ id ∧ id < nr) : Calls Try.prog 16 #[.pointer (some ⟨r, 0, none⟩), .int .i64 id, .pointer (some ⟨e0.dr, 0, none⟩)] w (BRPush w0 s r most nx nr sv tv wv Rp Rr Tp Tr b o id e0.l) := by
  refine (r_push_yes h.out.p h5 he hgd id hid).mono ?_
  rintro e w' ⟨lv', dr, he', hp, ho⟩
  exact ⟨lv', dr, he', Lib.hid ⟨hp, box_ts h.out.box ho (typ1 (Block.typ h.out.p.rx.blk)) (by decide)⟩⟩
theorem b_put (h : Hid (BSt w0 w s r most nx nr sv lv tv wv Rp Rr Tp Tr b o)) {k : Nat} (hk : k < Tp.length) (x : Int) (a : At) : Calls Try.prog 17 #[.pointer (some ⟨Tp[k].d, 0, none⟩), .int .i64 0, .int .i32 x, .bool false, .agg #[.int .u32 a.f, .int .u32 a.b, .int .u16 a.g]] w fun e w' => (∃ v, e = .returned v) ∧ Hid (BSt w0 w' s r most nx nr sv lv tv wv Rp Rr (Tp.set k (putE Tp[k] x a)) Tr b o) :=
  (p_put h.out.p hk x a).mono fun e w' ho => ⟨ho.1, Lib.hid ⟨ho.2.1, box_ts h.out.box ho.2.2 (typ1 (h.out.p.trow _ (List.getElem_mem hk)).typ.2) (by decide)⟩⟩
theorem br_put (h : Hid (BSt w0 w s r most nx nr sv lv tv wv Rp Rr Tp Tr b o)) {k : Nat} (hk : k < Tr.length) (hgd : Rw.Good Tr[k].l) (x : Int) (a : At) : Calls Try.prog 18 #[.pointer (some ⟨Tr[k].dr, 0, none⟩), .int .i64 0, .int .i32 x, .bool false, .agg #[.int .u32 a.f, .int .u32 a.b, .int .u16 a.g]] w fun e w' => (∃ v, e = .returned v) ∧ Hid (BSt w0 w' s r most nx nr sv lv tv wv Rp Rr Tp (Tr.set k (putE Tr[k] x a)) b o) :=
  (r_put h.out.p hk hgd x a).mono fun e w' ho => ⟨ho.1, Lib.hid ⟨ho.2.1, box_ts h.out.box ho.2.2 (typ1 (RefIn.typ (h.out.p.tref _ (List.getElem_mem hk))).1) (by decide)⟩⟩
theorem b_clear (h : Hid (BSt w0 w s r most nx nr sv lv tv wv Rp Rr Tp Tr b o)) : Calls Try.prog 19 #[.pointer (some ⟨s, 0, none⟩)] w fun e w' => e = .returned (.int .i64 0) ∧ Hid (BSt w0 w' s r most nx nr (.slice none 0 0) lv tv wv [] Rr Tp Tr b o) :=
  (p_clear h.out.p).mono fun e w' ho => ⟨ho.1, Lib.hid ⟨ho.2.1, box_ts h.out.box ho.2.2 (typ1 h.out.p.sx.typ) (by decide)⟩⟩
theorem br_clear (h : Hid (BSt w0 w s r most nx nr sv lv tv wv Rp Rr Tp Tr b o)) : Hid (BSt w0 (w.setCell ⟨r, 2, none⟩ (.slice none 0 0)) s r most nx nr sv (.slice none 0 0) tv wv Rp [] Tp Tr b o) :=
  Lib.hid ⟨r_clear h.out.p, box_ts h.out.box (Only.setCell w ⟨r, 2, none⟩ _) (typ1 (Block.typ h.out.p.rx.blk)) (by decide)⟩

/-! The copy goes on. -/
structure BCt (w0 w : World) (s c r most nx nr mx : Nat) (sv so lv tv wv : Value) (Rp Ro Rr Tp Tr : List En) (b : Nat) (o : Opr) : Prop where
  c : CSt w0 w s c r most nx nr mx sv so lv tv wv Rp Ro Rr Tp Tr
  box : Block w b 38 (opV o).toArray
theorem BCt.cells {c mx : Nat} {so : Value} {Ro : List En} (h : Hid (BCt w0 w s c r most nx nr mx sv so lv tv wv Rp Ro Rr Tp Tr b o)) : w.cell? ⟨b, 3, none⟩ = some (.int .u32 o.a.f) ∧ w.cell? ⟨b, 4, none⟩ = some (.int .u32 o.a.b) ∧ w.cell? ⟨b, 5, none⟩ = some (.int .u16 o.a.g) :=
  ⟨h.out.box.cell 3 rfl, h.out.box.cell 4 rfl, h.out.box.cell 5 rfl⟩
theorem bc_copy (h : Hid (BSt w0 w s r most nx nr sv lv tv wv Rp Rr Tp Tr b o)) : Calls Try.prog 20 #[.pointer (some ⟨s, 0, none⟩)] w fun e w' => ∃ c sv', e = .returned (.pointer (some ⟨c, 0, none⟩)) ∧ Hid (BCt w0 w' s c r most nx nr nx sv' sv lv tv wv Rp Rp Rr Tp Tr b o) :=
  (p_copy h.out.p).mono fun e w' ⟨c, sv', he, hc, hb⟩ => ⟨c, sv', he, Lib.hid ⟨hc, (h.out.stay hb).box⟩⟩
theorem bc_fresh {c mx : Nat} {so : Value} {Ro : List En} (h : Hid (BCt w0 w s c r most nx nr mx sv so lv tv wv Rp Ro Rr Tp Tr b o)) (hx : mx < 1000000) (a : At) : Calls Try.prog 11 #[.pointer (some ⟨s, 0, none⟩), .int .i64 3, .agg #[.int .u32 a.f, .int .u32 a.b, .int .u16 a.g]] w fun e w' => (∃ v, e = .returned v) ∧ Hid (BCt w0 w' s c r most nx nr (mx + 1) sv so lv tv wv Rp Ro Rr Tp Tr b o) :=
  (c_fresh h.out.c hx a).mono fun e w' ho => ⟨ho.1, Lib.hid ⟨ho.2.1, box_ts h.out.box ho.2.2 (typ1 h.out.c.old.typ) (by decide)⟩⟩
theorem bc_clear {c mx : Nat} {so : Value} {Ro : List En} (h : Hid (BCt w0 w s c r most nx nr mx sv so lv tv wv Rp Ro Rr Tp Tr b o)) : Calls Try.prog 19 #[.pointer (some ⟨s, 0, none⟩)] w fun e w' => (∃ v, e = .returned v) ∧ Hid (BSt w0 w' c r most nx nr sv lv tv wv Rp Rr Tp Tr b o) :=
  (c_clear h.out.c).mono fun e w' ho => ⟨ho.1, Lib.hid ⟨ho.2.1, box_ts h.out.box ho.2.2 (typ1 h.out.c.old.typ) (by decide)⟩⟩

/-! A line is told on both sides. -/
/-- Behind both calls of Fresh: the lines lie in boxes of their own. -/
structure FSt (w0 w : World) (s r most nx nr : Nat) (sv lv tv wv : Value) (Rp Rr Tp Tr : List En) (b : Nat) (o : Opr) (e f : En) : Prop where
  b : BSt w0 w s r most nx nr sv lv tv wv Rp Rr Tp Tr b o
  fp : FP w0 w Rp Tp e
  fr : FR w0 w Rr Tr f
theorem FSt.stay {e f : En} (h : FSt w0 w s r most nx nr sv lv tv wv Rp Rr Tp Tr b o e f) (hb : Below w.heap.size w w') : FSt w0 w' s r most nx nr sv lv tv wv Rp Rr Tp Tr b o e f := ⟨h.b.stay hb, h.fp.stay hb, h.fr.stay hb⟩
def BFresh (w0 : World) (s r most nx nr : Nat) (sv lv tv wv : Value) (Rp Rr Tp Tr : List En) (b : Nat) (o : Opr) (l : List Cel) (e : Ending) (w' : World) : Prop :=
  ∃ d g, e = .returned (.tuple #[.agg #[.int .i64 nx, .pointer (some ⟨d, 0, none⟩)], .int .i64 0]) ∧ Hid (BSt w0 w' s r most (nx + 1) nr sv lv tv wv Rp Rr Tp Tr b o ∧ FP w0 w' Rp Tp ⟨nx, d, g, 0, l⟩)
theorem b_fresh (h : Hid (BSt w0 w s r most nx nr sv lv tv wv Rp Rr Tp Tr b o)) (hx : nx < 1000000) (n : Nat) (hn : 1 ≤ n) (hn5 : n ≤ 512) (a : At) : Calls Try.prog 11 #[.pointer (some ⟨s, 0, none⟩), .int .i64 n, .agg #[.int .u32 a.f, .int .u32 a.b, .int .u16 a.g]] w (BFresh w0 s r most nx nr sv lv tv wv Rp Rr Tp Tr b o (freshL n a)) := by
  refine (p_fresh h.out.p hx n hn hn5 a).mono ?_
  rintro e w' ⟨d, g, he, hp, hf, ho⟩
  exact ⟨d, g, he, Lib.hid ⟨⟨hp, box_ts h.out.box ho (typ1 h.out.p.sx.typ) (by decide)⟩, hf⟩⟩
def BRFresh (w0 : World) (s r most nx nr : Nat) (sv lv tv wv : Value) (Rp Rr Tp Tr : List En) (b : Nat) (o : Opr) (f : En) (bx : Nat) (cx : Array Value) (l : List Cel) (e : Ending) (w' : World) : Prop :=
  ∃ dr, e = .returned (.tuple #[.agg #[.int .i64 nr, .pointer (some ⟨dr, 0, none⟩)], .int .i64 0]) ∧ Hid (FSt w0 w' s r most nx (nr + 1) sv lv tv wv Rp Rr Tp Tr b o f ⟨nr, 0, 0, dr, l⟩ ∧ Block w' bx 42 cx)
theorem br_fresh {f : En} {bx : Nat} {cx : Array Value} (h : Hid ((BSt w0 w s r most nx nr sv lv tv wv Rp Rr Tp Tr b o ∧ FP w0 w Rp Tp f) ∧ Block w bx 42 cx)) (hx : nr < 1000000) (n : Nat) (hn : 1 ≤ n) (hn5 : n ≤ 512) (a : At) : Calls Try.prog 12 #[.pointer (some ⟨r, 0, none⟩), .int .i64 n, .agg #[.int .u32 a.f, .int .u32 a.b, .int .u16 a.g]] w (BRFresh w0 s r most nx nr sv lv tv wv Rp Rr Tp Tr b o f bx cx (freshL n a)) := by
  obtain ⟨⟨hb, hf⟩, hx0⟩ := h.out
  refine (r_fresh hb.p hx n hn hn5 a).mono ?_
  rintro e w' ⟨dr, he, hp, hr, ho⟩
  have ht := typ1 (Block.typ hb.p.rx.blk)
  exact ⟨dr, he, Lib.hid ⟨⟨⟨hp, box_ts hb.box ho ht (by decide)⟩, hf.byTs ho ht (by decide) (by decide), hr⟩, hx0.only ho (not_ts ht (Block.typ hx0) (by decide))⟩⟩
theorem b_fresh_no (h : Hid (BSt w0 w s r most nx nr sv lv tv wv Rp Rr Tp Tr b o)) (n : Int) (hn : n < 1 ∨ 512 < n) (a : At) : Calls Try.prog 11 #[.pointer (some ⟨s, 0, none⟩), .int .i64 n, .agg #[.int .u32 a.f, .int .u32 a.b, .int .u16 a.g]] w fun e w' => e = .returned (.tuple #[.agg #[.int .i64 0, .pointer none], .int .i64 2]) ∧ Hid (BSt w0 w' s r most nx nr sv lv tv wv Rp Rr Tp Tr b o) :=
  (fresh_no h.out.p.sx n hn a).mono fun e w' ho => ⟨ho.1, Lib.hid (h.out.stay ho.2)⟩
theorem br_fresh_no (h : Hid (BSt w0 w s r most nx nr sv lv tv wv Rp Rr Tp Tr b o)) (n : Int) (hn : n < 1 ∨ 512 < n) (a : At) : Calls Try.prog 12 #[.pointer (some ⟨r, 0, none⟩), .int .i64 n, .agg #[.int .u32 a.f, .int .u32 a.b, .int .u16 a.g]] w fun e w' => e = .returned (.tuple #[.agg #[.int .i64 0, .pointer none], .int .i64 2]) ∧ Hid (BSt w0 w' s r most nx nr sv lv tv wv Rp Rr Tp Tr b o) ∧ Below w.heap.size w w' :=
  (rfresh_no (some ⟨r, 0, none⟩) n hn a w).mono fun e w' ho => ⟨ho.1, Lib.hid (h.out.stay ho.2), ho.2⟩

/-! From round to round. -/
def LQ (w0 w : World) (s r most k n : Nat) (tv wv : Value) : Prop := ∃ nx sv lv Rp Rr Tp Tr, PSt w0 w s r most nx nx sv lv tv wv Rp Rr Tp Tr ∧ nx ≤ k + 1 ∧ Rp.map ek = Rr.map ek ∧ Tp.map ek = Tr.map ek ∧ Rp.length ≤ 10000 ∧ Tp.length = n ∧ n ≤ k
theorem LQ.shape {k n : Nat} (h : LQ w0 w s r most k n tv wv) : ∃ ao c aw cw, tv = .slice ao n c ∧ wv = .slice aw n cw := by
  obtain ⟨nx, sv, lv, Rp, Rr, Tp, Tr, h, _, _, ht, _, rfl, _⟩ := h
  obtain ⟨ao, c, rfl, _⟩ := owns_shape h.tl
  obtain ⟨aw, cw, rfl, _⟩ := owns_shape h.wl
  exact ⟨ao, c, aw, cw, rfl, by rw [ek_len ht]⟩
theorem LQ.shape1 {k n : Nat} (h : LQ w0 w s r most k n tv wv) (hn : 0 < n) : ∃ g c gw cw, tv = .slice (some ⟨g, 0, none⟩) n c ∧ wv = .slice (some ⟨gw, 0, none⟩) n cw := by
  obtain ⟨nx, sv, lv, Rp, Rr, Tp, Tr, h, _, _, ht, _, rfl, _⟩ := h
  have hl := ek_len ht
  obtain ⟨g, c, _, rfl, _⟩ := own_block h.tl hn
  obtain ⟨gw, cw, _, rfl, _⟩ := own_block h.wl (by omega)
  exact ⟨g, c, gw, cw, rfl, by rw [hl]⟩
theorem LQ.stay {k n : Nat} (h : LQ w0 w s r most k n tv wv) (hb : Below w.heap.size w w') : LQ w0 w' s r most k n tv wv := by
  obtain ⟨nx, sv, lv, Rp, Rr, Tp, Tr, h, h1, h2, h3, h4, h5, h6⟩ := h
  exact ⟨nx, sv, lv, Rp, Rr, Tp, Tr, h.stay hb, h1, h2, h3, h4, h5, h6⟩
theorem LQ.same {k n : Nat} (h : LQ w0 w s r most k n tv wv) (id : Int) : Calls Try.prog 21 #[.pointer (some ⟨s, 0, none⟩), .pointer (some ⟨r, 0, none⟩), .int .i64 id] w fun e w' => e = .returned (.bool true) ∧ Hid (LQ w0 w' s r most k n tv wv) := by
  have h0 := h
  obtain ⟨nx, sv, lv, Rp, Rr, Tp, Tr, h, h1, h2, h3, h4, h5, h6⟩ := h
  exact (law_same h.sx h.rx h2 h4 id).mono fun e w' ho => ⟨ho.1, Lib.hid (h0.stay ho.2)⟩
end
end Go.Proofs.Ytleooelhnnfjbaa.Lns

namespace Go.Proofs.Ytleooelhnnfjbaa.Lns
open Go Go.RowKit Go.Proofs.Ytleooelhnnfjbaa.Com Go.Proofs.Ytleooelhnnfjbaa.Rw
set_option linter.unusedVariables false

theorem wrap64_small {x : Int} (h0 : 0 ≤ x) (h1 : x ≤ 1000) : wrap64 x = x := by
  unfold wrap64
  omega
theorem idx_of (on : Int) {n : Nat} (h0 : 0 < n) (h1 : n ≤ 1000) : ∃ j : Nat, j < n ∧ wrap64 ((IntKind.u64.wrap on).tmod n) = j := by
  have hu : 0 ≤ IntKind.u64.wrap on := by
    show 0 ≤ on % 2 ^ 64
    omega
  rw [Int.tmod_eq_emod_of_nonneg hu]
  have h2 := Int.emod_nonneg (IntKind.u64.wrap on) (b := n) (by omega)
  have h3 := Int.emod_lt_of_pos (IntKind.u64.wrap on) (b := n) (by omega)
  refine ⟨((IntKind.u64.wrap on) % n).toNat, by omega, ?_⟩
  rw [wrap64_small h2 (by omega)]
  omega
theorem ek_push {most : Nat} {Rp Rr : List En} (h : Rp.map ek = Rr.map ek) (id : Int) (d g dr : Nat) (l : List Cel) : (pushL most Rp ⟨id, d, g, 0, l⟩).map ek = (pushL most Rr ⟨id, 0, 0, dr, l⟩).map ek := by
  rw [pushL_map, pushL_map, h]
  rfl
theorem ek_add {Tp Tr : List En} (h : Tp.map ek = Tr.map ek) {e f : En} (he : ek e = ek f) : (Tp ++ [e]).map ek = (Tr ++ [f]).map ek := by
  rw [List.map_append, List.map_append, h, List.map_singleton, List.map_singleton, he]
theorem ek_put {Tp Tr : List En} (h : Tp.map ek = Tr.map ek) {k : Nat} (hp : k < Tp.length) (hr : k < Tr.length) (x : Int) (a : At) : (Tp.set k (putE Tp[k] x a)).map ek = (Tr.set k (putE Tr[k] x a)).map ek := by
  obtain ⟨h1, h2⟩ := ek_at h hp hr
  rw [List.map_set, List.map_set, h]
  unfold ek putE
  simp only [h1, h2]
theorem push_len {most : Nat} {R : List En} {x : En} (h : R.length ≤ 10000) (hm : most ≤ 30) : (pushL most R x).length ≤ 10000 := by
  unfold pushL
  split <;> simp <;> omega

theorem set_toldP {w0 w : World} {s r most nx nr b n gt ct : Nat} {sv lv wv : Value} {Rp Rr Tp Tr : List En} {o : Opr} {k : Nat} (hk : k < Tp.length) {x : Int} {a : At} (h : Hid (BSt w0 w s r most nx nr sv lv (.slice (some ⟨gt, 0, none⟩) n ct) wv Rp Rr (Tp.set k (putE Tp[k] x a)) Tr b o)) (ht : Tp.length = n) : w.cell? ⟨gt, k * 2 + 1, none⟩ = some (.pointer (some ⟨Tp[k].d, 0, none⟩)) := by
  have := BSt.toldP h (k := k) (by rw [List.length_set]; exact ht) (by rw [List.length_set]; exact hk)
  rw [List.getElem_set_self] at this
  exact this
theorem set_toldR {w0 w : World} {s r most nx nr b n gt ct : Nat} {sv lv tv : Value} {Rp Rr Tp Tr : List En} {o : Opr} {k : Nat} (hk : k < Tr.length) {x : Int} {a : At} (h : Hid (BSt w0 w s r most nx nr sv lv tv (.slice (some ⟨gt, 0, none⟩) n ct) Rp Rr Tp (Tr.set k (putE Tr[k] x a)) b o)) (ht : Tr.length = n) : w.cell? ⟨gt, k * 2 + 1, none⟩ = some (.pointer (some ⟨Tr[k].dr, 0, none⟩)) := by
  have := (BSt.toldR h (k := k) (by rw [List.length_set]; exact ht) (by rw [List.length_set]; exact hk)).2
  rw [List.getElem_set_self] at this
  exact this
theorem BSt.drawn {w0 w : World} {s r most nx nr b : Nat} {sv lv tv wv : Value} {Rp Rr Tp Tr : List En} {o : Opr} (h : Hid (BSt w0 w s r most nx nr sv lv tv wv Rp Rr Tp Tr b o)) : Hid (BSt w0 w.drew s r most nx nr sv lv tv wv Rp Rr Tp Tr b o) := Lib.hid (h.out.stay (below_dr (Below.refl _ _) 1))
theorem BSt.shape1 {w0 w : World} {s r most nx nr b n c8 c9 : Nat} {a8 a9 : Option Addr} {sv lv : Value} {Rp Rr Tp Tr : List En} {o : Opr} (h : Hid (BSt w0 w s r most nx nr sv lv (.slice a8 n c8) (.slice a9 n c9) Rp Rr Tp Tr b o)) (hn : 0 < n) (ht : Tp.length = n) (hr : Tr.length = n) : ∃ g8 g9, a8 = some ⟨g8, 0, none⟩ ∧ a9 = some ⟨g9, 0, none⟩ := by
  obtain ⟨g8, c, _, e8, _⟩ := own_block h.out.p.tl (by omega)
  obtain ⟨g9, c', _, e9, _⟩ := own_block h.out.p.wl (by omega)
  simp only [Value.slice.injEq] at e8 e9
  exact ⟨g8, g9, e8.1, e9.1⟩
section
variable {w0 w w' : World} {s r most nx nr b : Nat} {sv lv tv wv : Value} {Rp Rr Tp Tr : List En} {o : Opr} {e f : En} {bx by_ gv m capr : Nat} {qs : List (Cel × Value)}
/-- Both sides' lines lie in their boxes. -/
structure YSt (w0 w : World) (s r most nx nr : Nat) (sv lv tv wv : Value) (Rp Rr Tp Tr : List En) (b : Nat) (o : Opr) (e f : En) (bx by_ gv m capr : Nat) (qs : List (Cel × Value)) : Prop where
  t : FSt w0 w s r most nx nr sv lv tv wv Rp Rr Tp Tr b o e f
  x : Block w bx 42 #[.int .i64 e.id, .pointer (some ⟨e.d, 0, none⟩)]
  y : Block w by_ 47 #[.int .i64 f.id, .pointer (some ⟨f.dr, 0, none⟩)]
  nx : ∀ g, tv.ownBlock = some g → g ≠ bx
  ny : ∀ g, wv.ownBlock = some g → g ≠ by_
  ref : RefX w0.heap.size w f.dr gv m capr qs
  cel : cels qs = e.l
theorem YSt.stay (h : YSt w0 w s r most nx nr sv lv tv wv Rp Rr Tp Tr b o e f bx by_ gv m capr qs) (hb : Below w.heap.size w w') : YSt w0 w' s r most nx nr sv lv tv wv Rp Rr Tp Tr b o e f bx by_ gv m capr qs :=
  ⟨h.t.stay hb, h.x.only (Only.of_below hb []) (by simp), h.y.only (Only.of_below hb []) (by simp), h.nx, h.ny, h.ref.below hb, h.cel⟩
theorem YSt.cells (h : Hid (YSt w0 w s r most nx nr sv lv tv wv Rp Rr Tp Tr b o e f bx by_ gv m capr qs)) : w.cell? ⟨bx, 0, none⟩ = some (.int .i64 e.id) ∧ w.cell? ⟨bx, 1, none⟩ = some (.pointer (some ⟨e.d, 0, none⟩)) ∧ w.cell? ⟨by_, 0, none⟩ = some (.int .i64 f.id) ∧ w.cell? ⟨by_, 1, none⟩ = some (.pointer (some ⟨f.dr, 0, none⟩)) ∧ w.cell? ⟨f.dr, 0, none⟩ = some (.slice (some ⟨gv, 0, none⟩) m capr) :=
  ⟨h.out.x.cell 0 rfl, h.out.x.cell 1 rfl, h.out.y.cell 0 rfl, h.out.y.cell 1 rfl, h.out.ref.slice⟩
theorem YSt.drawn (h : Hid (YSt w0 w s r most nx nr sv lv tv wv Rp Rr Tp Tr b o e f bx by_ gv m capr qs)) : Hid (YSt w0 w.drew s r most nx nr sv lv tv wv Rp Rr Tp Tr b o e f bx by_ gv m capr qs) := Lib.hid (h.out.stay (below_dr (Below.refl _ _) 1))
def YCells (w0 w : World) (s r most nx nr : Nat) (sv lv tv wv : Value) (Rp Rr Tp Tr : List En) (b : Nat) (o : Opr) (e f : En) (bx by_ gv m capr : Nat) (qs : List (Cel × Value)) (x : Ending) (w' : World) : Prop :=
  ∃ g2 ps, x = .returned (.slice (some ⟨g2, 0, none⟩) m m) ∧ Hid (YSt w0 w' s r most nx nr sv lv tv wv Rp Rr Tp Tr b o e f bx by_ gv m capr qs ∧ Api w.heap.size w' (.slice (some ⟨g2, 0, none⟩) m m) ps ∧ ps.map (·.1) = e.l) ∧ Below w.heap.size w w'
theorem y_cells (h : Hid (YSt w0 w s r most nx nr sv lv tv wv Rp Rr Tp Tr b o e f bx by_ gv m capr qs)) : Calls Try.prog 14 #[.pointer (some ⟨e.d, 0, none⟩)] w (YCells w0 w s r most nx nr sv lv tv wv Rp Rr Tp Tr b o e f bx by_ gv m capr qs) := by
  obtain ⟨hgd, _, _, n, cap, tail, hx⟩ := h.out.t.fp.1
  have hm : n = m := by rw [← hx.len, ← h.out.cel, cels_length, h.out.ref.len]
  subst hm
  refine (cells_any hx (fun c hc => (hgd.cell c hc).four)).mono ?_
  rintro x w' ⟨g2, ps, hx, hA, hmap, hb, hg⟩
  exact ⟨g2, ps, hx, Lib.hid ⟨h.out.stay hb, hA, hmap⟩, hb⟩
theorem y_same {B g2 : Nat} {ps : List (Cel × Value)} (h : Hid (YSt w0 w s r most nx nr sv lv tv wv Rp Rr Tp Tr b o e f bx by_ gv m capr qs ∧ Api B w (.slice (some ⟨g2, 0, none⟩) m m) ps ∧ ps.map (·.1) = e.l)) : Calls Try.prog 13 #[.slice (some ⟨g2, 0, none⟩) m m, .slice (some ⟨gv, 0, none⟩) m capr] w fun x w' => x = .returned (.bool true) ∧ Hid (YSt w0 w' s r most nx nr sv lv tv wv Rp Rr Tp Tr b o e f bx by_ gv m capr qs) ∧ Below w.heap.size w w' := by
  obtain ⟨hY, hA, hmap⟩ := h.out
  have hl : ps.length = m := by rw [← List.length_map (f := fun p : Cel × Value => p.1), hmap, ← hY.cel, cels_length, hY.ref.len]
  have h4 : ∀ p ∈ ps, p.1.m.length ≤ 4 := fun p hp => (hY.t.fp.1.1.cell p.1 (by rw [← hmap]; exact List.mem_map_of_mem hp)).four
  exact (same_any hA hY.ref.api hl (hY.cel.trans hmap.symm) hY.ref.small h4).mono fun x w' ho => ⟨ho.1, Lib.hid (hY.stay ho.2), ho.2⟩

/-- The program's line is put behind the others. -/
structure Y1St (w0 w : World) (s r most nx nr : Nat) (sv lv tv wv : Value) (Rp Rr Tp Tr : List En) (b : Nat) (o : Opr) (e f : En) (bx by_ : Nat) : Prop where
  t : BSt w0 w s r most nx nr sv lv tv wv Rp Rr Tp Tr b o
  fr : FR w0 w Rr Tr f
  x : Block w bx 42 #[.int .i64 e.id, .pointer (some ⟨e.d, 0, none⟩)]
  y : Block w by_ 47 #[.int .i64 f.id, .pointer (some ⟨f.dr, 0, none⟩)]
  ny : ∀ g, wv.ownBlock = some g → g ≠ by_
theorem Y1St.stay (h : Y1St w0 w s r most nx nr sv lv tv wv Rp Rr Tp Tr b o e f bx by_) (hb : Below w.heap.size w w') : Y1St w0 w' s r most nx nr sv lv tv wv Rp Rr Tp Tr b o e f bx by_ :=
  ⟨h.t.stay hb, h.fr.stay hb, h.x.only (Only.of_below hb []) (by simp), h.y.only (Only.of_below hb []) (by simp), h.ny⟩
theorem y_add {tv' : Value} (h : Hid (YSt w0 w s r most nx nr sv lv tv wv Rp Rr Tp Tr b o e f bx by_ gv m capr qs)) (hl : w'.ownsRow w0.heap.size 42 2 tv' (Tp.length + 1) (fl lineC Tp ++ lineC e)) (ho : Only tv.ownBlock.toList w w') (hat : tv'.ownBlock = tv.ownBlock ∨ tv'.ownBlock = some w.heap.size) :
    Hid (Y1St w0 w' s r most nx nr sv lv tv' wv Rp Rr (Tp ++ [e]) Tr b o e f bx by_) := by
  have hY := h.out
  have ht := typO hY.t.b.p.tl
  exact Lib.hid ⟨⟨hY.t.b.p.addP hY.t.fp hl ho hat, box_ts hY.t.b.box ho ht (by decide)⟩, hY.t.fr.byTs ho ht (by decide) (by decide) (by decide), hY.x.only ho (fun hm => hY.nx bx (by simpa using hm) rfl), hY.y.only ho (not_ts ht (Block.typ hY.y) (by decide)), hY.ny⟩
structure Y2St (w0 w : World) (s r most nx nr : Nat) (sv lv tv wv : Value) (Rp Rr Tp Tr : List En) (b : Nat) (o : Opr) (e f : En) (bx by_ : Nat) : Prop where
  t : BSt w0 w s r most nx nr sv lv tv wv Rp Rr Tp Tr b o
  x : Block w bx 42 #[.int .i64 e.id, .pointer (some ⟨e.d, 0, none⟩)]
  y : Block w by_ 47 #[.int .i64 f.id, .pointer (some ⟨f.dr, 0, none⟩)]
theorem y1_add {wv' : Value} (h : Hid (Y1St w0 w s r most nx nr sv lv tv wv Rp Rr Tp Tr b o e f bx by_)) (hl : w'.ownsRow w0.heap.size 47 2 wv' (Tr.length + 1) (fl rlineC Tr ++ rlineC f)) (ho : Only wv.ownBlock.toList w w') (hat : wv'.ownBlock = wv.ownBlock ∨ wv'.ownBlock = some w.heap.size) :
    Hid (Y2St w0 w' s r most nx nr sv lv tv wv' Rp Rr Tp (Tr ++ [f]) b o e f bx by_) := by
  have hY := h.out
  have ht := typO hY.t.p.wl
  exact Lib.hid ⟨⟨hY.t.p.addR hY.fr hl ho hat, box_ts hY.t.box ho ht (by decide)⟩, hY.x.only ho (not_ts ht (Block.typ hY.x) (by decide)), hY.y.only ho (fun hm => hY.ny by_ (by simpa using hm) rfl)⟩
theorem Y1St.cells (h : Hid (Y1St w0 w s r most nx nr sv lv tv wv Rp Rr Tp Tr b o e f bx by_)) : w.cell? ⟨bx, 0, none⟩ = some (.int .i64 e.id) ∧ w.cell? ⟨bx, 1, none⟩ = some (.pointer (some ⟨e.d, 0, none⟩)) ∧ w.cell? ⟨by_, 0, none⟩ = some (.int .i64 f.id) ∧ w.cell? ⟨by_, 1, none⟩ = some (.pointer (some ⟨f.dr, 0, none⟩)) :=
  ⟨h.out.x.cell 0 rfl, h.out.x.cell 1 rfl, h.out.y.cell 0 rfl, h.out.y.cell 1 rfl⟩
theorem Y2St.cells (h : Hid (Y2St w0 w s r most nx nr sv lv tv wv Rp Rr Tp Tr b o e f bx by_)) : w.cell? ⟨bx, 0, none⟩ = some (.int .i64 e.id) ∧ w.cell? ⟨bx, 1, none⟩ = some (.pointer (some ⟨e.d, 0, none⟩)) ∧ w.cell? ⟨by_, 0, none⟩ = some (.int .i64 f.id) ∧ w.cell? ⟨by_, 1, none⟩ = some (.pointer (some ⟨f.dr, 0, none⟩)) :=
  ⟨h.out.x.cell 0 rfl, h.out.x.cell 1 rfl, h.out.y.cell 0 rfl, h.out.y.cell 1 rfl⟩
/-- The first append, wherever its literal lies. -/
theorem y_app1 {n l1 : Nat} (h : Hid (YSt w0 w s r most nx nr sv lv tv wv Rp Rr Tp Tr b o e f bx by_ gv m capr qs)) (hT : Tp.length = n) (hb : Below w.heap.size w w') (hl : Block w' l1 42 #[.int .i64 e.id, .pointer (some ⟨e.d, 0, none⟩)]) :
    w'.ownsRow w0.heap.size 42 2 tv n (fl lineC Tp) ∧ (∀ j u, (lineC e)[j]? = some u → w'.cell? ((⟨l1, 0, none⟩ : Addr).add j) = some u) ∧ w0.heap.size ≤ w'.heap.size ∧
    ∀ v1 w1, w1.ownsRow w0.heap.size 42 2 v1 (n + 1) (fl lineC Tp ++ lineC e) → Only tv.ownBlock.toList w' w1 → (v1.ownBlock = tv.ownBlock ∨ v1.ownBlock = some w'.heap.size) →
      (∃ a c, v1 = .slice a (n + 1) c) ∧ Hid (Y1St w0 w1 s r most nx nr sv lv v1 wv Rp Rr (Tp ++ [e]) Tr b o e f bx by_) ∧ ∀ l2 cs, Block w' l2 47 cs → Block w1 l2 47 cs := by
  subst hT
  have h' := h.out.stay hb
  refine ⟨h'.t.b.p.tl, fun j u hj => ?_, h'.t.b.p.below.size, fun v1 w1 hown ho hat => ?_⟩
  · rw [Addr.add_lit, Nat.zero_add]
    exact hl.cell j (by simpa [lineC] using hj)
  · obtain ⟨a, c, e1, _⟩ := owns_shape hown
    exact ⟨⟨a, c, e1⟩, y_add (Lib.hid h') hown ho hat, fun l2 cs hl2 => hl2.only ho (not_ts (typO h'.t.b.p.tl) (Block.typ hl2) (by decide))⟩
theorem y_app2 {n l2 : Nat} (h : Hid (Y1St w0 w s r most nx nr sv lv tv wv Rp Rr Tp Tr b o e f bx by_)) (hT : Tr.length = n) (hb : Below w.heap.size w w') (hl : Block w' l2 47 #[.int .i64 f.id, .pointer (some ⟨f.dr, 0, none⟩)]) :
    w'.ownsRow w0.heap.size 47 2 wv n (fl rlineC Tr) ∧ (∀ j u, (rlineC f)[j]? = some u → w'.cell? ((⟨l2, 0, none⟩ : Addr).add j) = some u) ∧ w0.heap.size ≤ w'.heap.size ∧
    ∀ v1 w1, w1.ownsRow w0.heap.size 47 2 v1 (n + 1) (fl rlineC Tr ++ rlineC f) → Only wv.ownBlock.toList w' w1 → (v1.ownBlock = wv.ownBlock ∨ v1.ownBlock = some w'.heap.size) →
      (∃ a c, v1 = .slice a (n + 1) c) ∧ Hid (Y2St w0 w1 s r most nx nr sv lv tv v1 Rp Rr Tp (Tr ++ [f]) b o e f bx by_) := by
  subst hT
  have h' := h.out.stay hb
  refine ⟨h'.t.p.wl, fun j u hj => ?_, h'.t.p.below.size, fun v1 w1 hown ho hat => ?_⟩
  · rw [Addr.add_lit, Nat.zero_add]
    exact hl.cell j (by simpa [rlineC] using hj)
  · obtain ⟨a, c, e1, _⟩ := owns_shape hown
    exact ⟨⟨a, c, e1⟩, y1_add (Lib.hid h') hown ho hat⟩
/-- Both boxes are laid. -/
theorem y_start (hF : Hid (FSt w0 w s r most nx nr sv lv tv wv Rp Rr Tp Tr b o e f ∧ Block w bx 42 #[.int .i64 e.id, .pointer (some ⟨e.d, 0, none⟩)])) (hl : ek e = ek f) (hnx : ∀ g, tv.ownBlock = some g → g ≠ bx) (hw : w' = w.alloc (.cells #[.int .i64 f.id, .pointer (some ⟨f.dr, 0, none⟩)] 47)) (hb : by_ = w.heap.size) :
    ∃ gv m capr qs, Hid (YSt w0 w' s r most nx nr sv lv tv wv Rp Rr Tp Tr b o e f bx by_ gv m capr qs) := by
  subst hw hb
  obtain ⟨hF, hx⟩ := hF.out
  have hbn := below_new w (.cells #[.int .i64 f.id, .pointer (some ⟨f.dr, 0, none⟩)] 47)
  obtain ⟨gv, m, capr, qs, hr, hc⟩ := hF.fr.1
  refine ⟨gv, m, capr, qs, Lib.hid ⟨hF.stay hbn, hx.only (Only.of_below hbn []) (by simp), Block.made w _ _, hnx, fun g hg => ?_, hr.below hbn, ?_⟩⟩
  · have := (World.ownsRow.lt hF.b.p.wl g hg).2
    omega
  · rw [hc]
    exact (congrArg Prod.snd hl).symm
end
end Go.Proofs.Ytleooelhnnfjbaa.Lns
