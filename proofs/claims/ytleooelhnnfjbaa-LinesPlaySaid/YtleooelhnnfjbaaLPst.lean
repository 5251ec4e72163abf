/-
  lines: what LinesPlay knows from call to call; what each call makes of it.
-/
import Derived.Test.YtleooelhnnfjbaaLSame
import Derived.Test.YtleooelhnnfjbaaLRef3
import Derived.Test.YtleooelhnnfjbaaRRPutn
import Derived.Test.YtleooelhnnfjbaaRRJoin
namespace Go.Proofs.Ytleooelhnnfjbaa.Lns
open Go Go.RowKit Go.Proofs.Ytleooelhnnfjbaa.Com Go.Proofs.Ytleooelhnnfjbaa.Rw

/-! Put of a narrow rune at 0. -/
def puL (l : List Cel) (x : Int) (a : At) : List Cel := putL l 0 x false a
theorem puL_good {l : List Cel} (h : Rw.Good l) (x : Int) (a : At) : Rw.Good (puL l x a) := h.put 0 x false a
theorem puL_no {l : List Cel} {x : Int} (a : At) (h : runeB x = false) : puL l x a = l := by
  unfold puL putL
  rw [if_neg (fun hk => by rw [hk.1] at h; cases h)]
theorem puL_yes {l : List Cel} {x : Int} (a : At) (h : runeB x = true) (hl : 0 < l.length) : puL l x a = setL l 0 (cellsPut x false a) := by
  unfold puL putL
  rw [if_pos ⟨h, by omega, by simp [cellsPut]; omega⟩]
  rfl
theorem put_any' {w : World} {d g n cap : Nat} {tail : List Value} {l : List Cel} (h : RowX w d g n cap tail l) (hgd : Rw.Good l) (x : Int) (a : At) :
    Calls Try.prog 17 #[.pointer (some ⟨d, 0, none⟩), .int .i64 0, .int .i32 x, .bool false, .agg #[.int .u32 a.f, .int .u32 a.b, .int .u16 a.g]] w fun e w' => (∃ v, e = .returned v) ∧ RowX w' d g n cap tail (puL l x a) ∧ Only [g] w w' := by
  have hn := h.pos
  by_cases hx : runeB x = true
  · rw [puL_yes a hx (by rw [h.len]; exact hn)]
    exact (put_yes h hgd.whole 0 x false a hx (by simp [cellsPut]; omega)).mono fun e w' ho => ⟨⟨_, ho.1⟩, ho.2⟩
  · have hx' : runeB x = false := by simpa using hx
    rw [puL_no a hx']
    exact (put_no h 0 x (by omega) false a (.inl hx')).mono fun e w' ho => ⟨⟨_, ho.1⟩, ho.2⟩
theorem rput_any' {B : Nat} {w : World} {dr : Nat} {l : List Cel} (h : RefIn B w dr l) (hgd : Rw.Good l) (x : Int) (a : At) :
    Calls Try.prog 18 #[.pointer (some ⟨dr, 0, none⟩), .int .i64 0, .int .i32 x, .bool false, .agg #[.int .u32 a.f, .int .u32 a.b, .int .u16 a.g]] w fun e w' => (∃ v, e = .returned v) ∧ RefIn B w' dr (puL l x a) ∧ Only [dr] w w' := by
  have h0 := h
  obtain ⟨gv, n, cap, ps, hx, rfl⟩ := h
  have hn := hx.pos
  by_cases hr : runeB x = true
  · rw [puL_yes a hr (by rw [cels_length, hx.len]; exact hn)]
    exact (rputn_any hx hgd.whole 0 x a hr (by omega)).mono fun e w' ho => ⟨⟨_, ho.1⟩, ho.2.2⟩
  · have hr' : runeB x = false := by simpa using hr
    rw [puL_no a hr']
    exact (rput_no hx 0 x (by omega) false a (.inl hr')).mono fun e w' ho => ⟨⟨_, ho.1⟩, RefIn.below h0 ho.2, Only.of_below ho.2 _⟩

/-! What stays where blocks of other types turn. -/
section
variable {B : Nat} {w w' : World} {ts : List TypeId} {L : List Nat}
theorem fr_of (ho : Only L w w') (ht : ∀ k ∈ L, ∃ t ∈ ts, Typ w k t) : Fr 0 ts w w' := Fr.of_only ho fun k hk _ => ⟨Nat.zero_le _, ht k hk⟩
theorem not_ts {k : Nat} {t : TypeId} (ht : ∀ k ∈ L, ∃ t ∈ ts, Typ w k t) (h : Typ w k t) (hn : t ∉ ts) : k ∉ L := fun hm => by
  obtain ⟨t', h1, h2⟩ := ht k hm
  exact hn (Typ.inj h h2 ▸ h1)
theorem RowG.byTs {e : En} (h : RowG B w e) (ho : Only L w w') (ht : ∀ k ∈ L, ∃ t ∈ ts, Typ w k t) (h1 : 90 ∉ ts) (h2 : 93 ∉ ts) : RowG B w' e := h.only ho (not_ts ht h.typ.1 h1) (not_ts ht h.typ.2 h2)
theorem RefIn.byTs {d : Nat} {l : List Cel} (h : RefIn B w d l) (ho : Only L w w') (ht : ∀ k ∈ L, ∃ t ∈ ts, Typ w k t) (h1 : 54 ∉ ts) (h2 : 87 ∉ ts) (h3 : 21 ∉ ts) : RefIn B w' d l := RefIn.fr h (fr_of ho ht) h1 h2 h3
theorem owns_ts {e : TypeId} {s n : Nat} {v : Value} {xs : List Value} (h : w.ownsRow B e s v n xs) (ho : Only L w w') (ht : ∀ k ∈ L, ∃ t ∈ ts, Typ w k t) (h1 : e ∉ ts) : w'.ownsRow B e s v n xs := owns_only h ho fun g hg => not_ts ht (owns_typ h g hg) h1
theorem SX.byTs {s nx most : Nat} {sv : Value} {R : List En} (h : SX B w s nx most sv R) (ho : Only L w w') (ht : ∀ k ∈ L, ∃ t ∈ ts, Typ w k t) (h1 : 76 ∉ ts) (h2 : 42 ∉ ts) (h3 : 90 ∉ ts) (h4 : 93 ∉ ts) : SX B w' s nx most sv R :=
  h.only ho (not_ts ht h.typ h1) (fun g hg => not_ts ht (h.ptyp g hg).2.2 h2) (fun e he => ⟨not_ts ht (h.2 e he).typ.1 h3, not_ts ht (h.2 e he).typ.2 h4⟩)
theorem RX.byTs {r nx most : Nat} {lv : Value} {R : List En} (h : RX B w r nx most lv R) (ho : Only L w w') (ht : ∀ k ∈ L, ∃ t ∈ ts, Typ w k t) (h1 : 60 ∉ ts) (h2 : 47 ∉ ts) (h3 : 54 ∉ ts) (h4 : 87 ∉ ts) (h5 : 21 ∉ ts) : RX B w' r nx most lv R :=
  h.only ho (not_ts ht (Block.typ h.blk) h1) (fun g hg => not_ts ht (h.hit g hg).2.2 h2) (fun e he => RefIn.byTs (h.ref e he) ho ht h3 h4 h5)
theorem typ1 {k : Nat} {t : TypeId} (h : Typ w k t) : ∀ j ∈ [k], ∃ t' ∈ [t], Typ w j t' := fun j hj => by
  obtain rfl : j = k := by simpa using hj
  exact ⟨t, by simp, h⟩
theorem typO {e : TypeId} {s n : Nat} {v : Value} {xs : List Value} (h : w.ownsRow B e s v n xs) : ∀ j ∈ v.ownBlock.toList, ∃ t' ∈ [e], Typ w j t' := fun j hj => ⟨e, by simp, owns_typ h j (by simpa using hj)⟩
end

/-- What is known from call to call: the store at s and the document's at r, the lines that were told on both sides. -/
structure PSt (w0 w : World) (s r most nx nr : Nat) (sv lv tv wv : Value) (Rp Rr Tp Tr : List En) : Prop where
  sx : SX w0.heap.size w s nx most sv Rp
  rx : RX w0.heap.size w r nr most lv Rr
  tl : w.ownsRow w0.heap.size 42 2 tv Tp.length (fl lineC Tp)
  wl : w.ownsRow w0.heap.size 47 2 wv Tr.length (fl rlineC Tr)
  trow : ∀ e ∈ Tp, RowG w0.heap.size w e
  tref : ∀ e ∈ Tr, RefIn w0.heap.size w e.dr e.l
  tt : Tp.Pairwise (fun a b => a.g ≠ b.g)
  ttr : Tr.Pairwise (fun a b => a.dr ≠ b.dr)
  tr : ∀ e ∈ Rp, ∀ t ∈ Tp, e.g ≠ t.g
  trr : ∀ e ∈ Rr, ∀ t ∈ Tr, e.dr ≠ t.dr
  sp : ∀ g, sv.ownBlock = some g → tv.ownBlock ≠ some g
  lp : ∀ g, Hits lv g → wv.ownBlock ≠ some g
  below : Below w0.heap.size w0 w
section
variable {w0 w w' : World} {s r most nx nr : Nat} {sv lv tv wv : Value} {Rp Rr Tp Tr : List En}
theorem PSt.stay (h : PSt w0 w s r most nx nr sv lv tv wv Rp Rr Tp Tr) (hb : Below w.heap.size w w') : PSt w0 w' s r most nx nr sv lv tv wv Rp Rr Tp Tr :=
  have ho := Only.of_below hb []
  ⟨h.sx.below hb, h.rx.below hb, owns_only h.tl ho (by simp), owns_only h.wl ho (by simp), fun e he => (h.trow e he).below hb, fun e he => RefIn.below (h.tref e he) hb, h.tt, h.ttr, h.tr, h.trr, h.sp, h.lp, below_next h.below hb⟩
theorem PSt.lowS (h : PSt w0 w s r most nx nr sv lv tv wv Rp Rr Tp Tr) : w0.heap.size ≤ s ∧ s < w.heap.size := by
  obtain ⟨⟨o, P, h0, _⟩, _⟩ := h.sx
  exact ⟨h0.lo, h0.blk.lt⟩
/-- Only the store's block (or another store's) turns. -/
theorem PSt.turnS {x nx' : Nat} {sv' : Value} {Rp' : List En} (h : PSt w0 w s r most nx nr sv lv tv wv Rp Rr Tp Tr) {L : List Nat} (ho : Only L w w') (ht : ∀ k ∈ L, ∃ t ∈ [76, 42], Typ w k t) (hlo : ∀ k ∈ L, w0.heap.size ≤ k) (htv : ∀ g, tv.ownBlock = some g → g ∉ L)
    (hs : SX w0.heap.size w' x nx' most sv' Rp') (htr : ∀ e ∈ Rp', ∀ t ∈ Tp, e.g ≠ t.g) (hsp : ∀ g, sv'.ownBlock = some g → tv.ownBlock ≠ some g) : PSt w0 w' x r most nx' nr sv' lv tv wv Rp' Rr Tp Tr :=
  ⟨hs, h.rx.byTs ho ht (by decide) (by decide) (by decide) (by decide) (by decide), owns_only h.tl ho htv, owns_ts h.wl ho ht (by decide), fun e he => (h.trow e he).byTs ho ht (by decide) (by decide), fun e he => RefIn.byTs (h.tref e he) ho ht (by decide) (by decide) (by decide), h.tt, h.ttr, htr, h.trr, hsp, h.lp,
    h.below.trans (ho.below h.below.size hlo)⟩
theorem PSt.turnR {nr' : Nat} {lv' : Value} {Rr' : List En} (h : PSt w0 w s r most nx nr sv lv tv wv Rp Rr Tp Tr) (ho : Only [r] w w') (hs : RX w0.heap.size w' r nr' most lv' Rr') (htr : ∀ e ∈ Rr', ∀ t ∈ Tr, e.dr ≠ t.dr) (hlp : ∀ g, Hits lv' g → wv.ownBlock ≠ some g) : PSt w0 w' s r most nx nr' sv lv' tv wv Rp Rr' Tp Tr :=
  have ht := typ1 (Block.typ h.rx.blk)
  ⟨h.sx.byTs ho ht (by decide) (by decide) (by decide) (by decide), hs, owns_ts h.tl ho ht (by decide), owns_ts h.wl ho ht (by decide), fun e he => (h.trow e he).byTs ho ht (by decide) (by decide), fun e he => RefIn.byTs (h.tref e he) ho ht (by decide) (by decide) (by decide), h.tt, h.ttr, h.tr, htr, h.sp, hlp,
    h.below.trans (ho.below h.below.size (by simpa using h.rx.lo))⟩
end
end Go.Proofs.Ytleooelhnnfjbaa.Lns

namespace Go.Proofs.Ytleooelhnnfjbaa.Lns
open Go Go.RowKit Go.Proofs.Ytleooelhnnfjbaa.Com Go.Proofs.Ytleooelhnnfjbaa.Rw
section
variable {w0 w w' : World} {s r most nx nr : Nat} {sv lv tv wv : Value} {Rp Rr Tp Tr : List En}

theorem RowG.lt {B : Nat} {e : En} (h : RowG B w e) : e.d < w.heap.size ∧ e.g < w.heap.size := by
  obtain ⟨_, _, _, n, cap, tail, hx⟩ := h
  exact ⟨hx.ptr.lt, hx.row.lt⟩
theorem RowG.lower {B B' : Nat} {e : En} (h : RowG B w e) (hB : B' ≤ B) : RowG B' w e := by
  obtain ⟨h1, h2, h3, h4⟩ := h
  exact ⟨h1, Nat.le_trans hB h2, Nat.le_trans hB h3, h4⟩
/-- A line that was just told. -/
def FP (w0 w : World) (Rp Tp : List En) (e : En) : Prop := RowG w0.heap.size w e ∧ (∀ x ∈ Rp, x.g ≠ e.g) ∧ ∀ t ∈ Tp, t.g ≠ e.g
def FR (w0 w : World) (Rr Tr : List En) (e : En) : Prop := RefIn w0.heap.size w e.dr e.l ∧ (∀ x ∈ Rr, x.dr ≠ e.dr) ∧ ∀ t ∈ Tr, t.dr ≠ e.dr
theorem FP.stay {e : En} (h : FP w0 w Rp Tp e) (hb : Below w.heap.size w w') : FP w0 w' Rp Tp e := ⟨h.1.below hb, h.2⟩
theorem FR.stay {e : En} (h : FR w0 w Rr Tr e) (hb : Below w.heap.size w w') : FR w0 w' Rr Tr e := ⟨RefIn.below h.1 hb, h.2⟩
theorem FP.byTs {e : En} {L : List Nat} {ts : List TypeId} (h : FP w0 w Rp Tp e) (ho : Only L w w') (ht : ∀ k ∈ L, ∃ t ∈ ts, Typ w k t) (h1 : 90 ∉ ts) (h2 : 93 ∉ ts) : FP w0 w' Rp Tp e := ⟨h.1.byTs ho ht h1 h2, h.2⟩
theorem FR.byTs {e : En} {L : List Nat} {ts : List TypeId} (h : FR w0 w Rr Tr e) (ho : Only L w w') (ht : ∀ k ∈ L, ∃ t ∈ ts, Typ w k t) (h1 : 54 ∉ ts) (h2 : 87 ∉ ts) (h3 : 21 ∉ ts) : FR w0 w' Rr Tr e := ⟨RefIn.byTs h.1 ho ht h1 h2 h3, h.2⟩

def PFresh (w0 w : World) (s r most nx nr : Nat) (sv lv tv wv : Value) (Rp Rr Tp Tr : List En) (l : List Cel) (e : Ending) (w' : World) : Prop :=
  ∃ d g, e = .returned (.tuple #[.agg #[.int .i64 nx, .pointer (some ⟨d, 0, none⟩)], .int .i64 0]) ∧ PSt w0 w' s r most (nx + 1) nr sv lv tv wv Rp Rr Tp Tr ∧ FP w0 w' Rp Tp ⟨nx, d, g, 0, l⟩ ∧ Only [s] w w'
theorem p_fresh (h : PSt w0 w s r most nx nr sv lv tv wv Rp Rr Tp Tr) (hx : nx < 1000000) (n : Nat) (hn : 1 ≤ n) (hn5 : n ≤ 512) (a : At) : Calls Try.prog 11 #[.pointer (some ⟨s, 0, none⟩), .int .i64 n, .agg #[.int .u32 a.f, .int .u32 a.b, .int .u16 a.g]] w (PFresh w0 w s r most nx nr sv lv tv wv Rp Rr Tp Tr (freshL n a)) := by
  refine (fresh_yes h.sx hx n hn hn5 a).mono ?_
  rintro e w' ⟨d, g, he, hs, hr, ho⟩
  have ht : ∀ k ∈ [s], ∃ t ∈ [76, 42], Typ w k t := fun k hk => by
    obtain rfl : k = s := by simpa using hk
    exact ⟨_, by simp, h.sx.typ⟩
  have hg : w.heap.size ≤ g := hr.2.2.1
  refine ⟨d, g, he, h.turnS ho ht (by simpa using h.lowS.1) (fun g hg => not_in1 (owns_typ h.tl g hg) h.sx.typ (by decide)) hs h.tr h.sp, ⟨hr.lower h.below.size, fun x hx => ?_, fun t ht => ?_⟩, ho⟩
  · have := (h.sx.2 x hx).lt.2
    simp only
    omega
  · have := (h.trow t ht).lt.2
    simp only
    omega
def RFresh (w0 w : World) (s r most nx nr : Nat) (sv lv tv wv : Value) (Rp Rr Tp Tr : List En) (l : List Cel) (e : Ending) (w' : World) : Prop :=
  ∃ dr, e = .returned (.tuple #[.agg #[.int .i64 nr, .pointer (some ⟨dr, 0, none⟩)], .int .i64 0]) ∧ PSt w0 w' s r most nx (nr + 1) sv lv tv wv Rp Rr Tp Tr ∧ FR w0 w' Rr Tr ⟨nr, 0, 0, dr, l⟩ ∧ Only [r] w w'
theorem r_fresh (h : PSt w0 w s r most nx nr sv lv tv wv Rp Rr Tp Tr) (hx : nr < 1000000) (n : Nat) (hn : 1 ≤ n) (hn5 : n ≤ 512) (a : At) : Calls Try.prog 12 #[.pointer (some ⟨r, 0, none⟩), .int .i64 n, .agg #[.int .u32 a.f, .int .u32 a.b, .int .u16 a.g]] w (RFresh w0 w s r most nx nr sv lv tv wv Rp Rr Tp Tr (freshL n a)) := by
  refine (rfresh_yes h.rx hx n hn hn5 a).mono ?_
  rintro e w' ⟨dr, he, hs, hr, ho⟩
  have hlo := (RefIn.typ hr).2.2
  refine ⟨dr, he, h.turnR ho hs h.trr h.lp, ⟨RefIn.lower hr h.below.size, fun x hx => ?_, fun t ht => ?_⟩, ho⟩
  · have := (RefIn.typ (h.rx.ref x hx)).2.1
    simp only
    omega
  · have := (RefIn.typ (h.tref t ht)).2.1
    simp only
    omega
/-- A line is put behind those that were told. -/
theorem PSt.addP (h : PSt w0 w s r most nx nr sv lv tv wv Rp Rr Tp Tr) {e : En} (hf : FP w0 w Rp Tp e) {tv' : Value} (hl : w'.ownsRow w0.heap.size 42 2 tv' (Tp.length + 1) (fl lineC Tp ++ lineC e)) (ho : Only tv.ownBlock.toList w w') (hat : tv'.ownBlock = tv.ownBlock ∨ tv'.ownBlock = some w.heap.size) :
    PSt w0 w' s r most nx nr sv lv tv' wv Rp Rr (Tp ++ [e]) Tr := by
  have ht := typO h.tl
  have hs : s ∉ tv.ownBlock.toList := not_inO h.sx.typ h.tl (by decide)
  refine ⟨h.sx.only ho hs (fun g hg hm => h.sp g hg (by simpa using hm)) (fun x hx => ⟨not_ts ht (h.sx.2 x hx).typ.1 (by decide), not_ts ht (h.sx.2 x hx).typ.2 (by decide)⟩), h.rx.byTs ho ht (by decide) (by decide) (by decide) (by decide) (by decide), by rw [List.length_append, List.length_singleton, fl_app, fl_one]; exact hl, owns_ts h.wl ho ht (by decide), ?_, fun x hx => RefIn.byTs (h.tref x hx) ho ht (by decide) (by decide) (by decide), ?_, h.ttr, ?_, h.trr, ?_, h.lp,
    h.below.trans (ho.below h.below.size fun k hk => (World.ownsRow.lt h.tl k (by simpa using hk)).1)⟩
  · intro x hx
    rcases List.mem_append.1 hx with hx | hx
    · exact (h.trow x hx).byTs ho ht (by decide) (by decide)
    · obtain rfl : x = e := by simpa using hx
      exact hf.1.byTs ho ht (by decide) (by decide)
  · exact List.pairwise_append.2 ⟨h.tt, List.pairwise_singleton _ _, fun a ha b hb => by
      obtain rfl : b = e := by simpa using hb
      exact hf.2.2 a ha⟩
  · intro x hx t ht
    rcases List.mem_append.1 ht with ht | ht
    · exact h.tr x hx t ht
    · obtain rfl : t = e := by simpa using ht
      exact hf.2.1 x hx
  · intro g hg
    rcases hat with e | e
    · rw [e]; exact h.sp g hg
    · rw [e]
      intro hh
      have := (h.sx.ptyp g hg).2.1
      have := Option.some.inj hh
      omega
theorem PSt.addR (h : PSt w0 w s r most nx nr sv lv tv wv Rp Rr Tp Tr) {e : En} (hf : FR w0 w Rr Tr e) {wv' : Value} (hl : w'.ownsRow w0.heap.size 47 2 wv' (Tr.length + 1) (fl rlineC Tr ++ rlineC e)) (ho : Only wv.ownBlock.toList w w') (hat : wv'.ownBlock = wv.ownBlock ∨ wv'.ownBlock = some w.heap.size) :
    PSt w0 w' s r most nx nr sv lv tv wv' Rp Rr Tp (Tr ++ [e]) := by
  have ht := typO h.wl
  have hr : r ∉ wv.ownBlock.toList := not_inO (Block.typ h.rx.blk) h.wl (by decide)
  refine ⟨h.sx.byTs ho ht (by decide) (by decide) (by decide) (by decide), h.rx.only ho hr (fun g hg hm => h.lp g hg (by simpa using hm)) (fun x hx => RefIn.byTs (h.rx.ref x hx) ho ht (by decide) (by decide) (by decide)), owns_ts h.tl ho ht (by decide), by rw [List.length_append, List.length_singleton, fl_app, fl_one]; exact hl, fun x hx => (h.trow x hx).byTs ho ht (by decide) (by decide), ?_, h.tt, ?_, h.tr, ?_, h.sp, ?_,
    h.below.trans (ho.below h.below.size fun k hk => (World.ownsRow.lt h.wl k (by simpa using hk)).1)⟩
  · intro x hx
    rcases List.mem_append.1 hx with hx | hx
    · exact RefIn.byTs (h.tref x hx) ho ht (by decide) (by decide) (by decide)
    · obtain rfl : x = e := by simpa using hx
      exact RefIn.byTs hf.1 ho ht (by decide) (by decide) (by decide)
  · exact List.pairwise_append.2 ⟨h.ttr, List.pairwise_singleton _ _, fun a ha b hb => by
      obtain rfl : b = e := by simpa using hb
      exact hf.2.2 a ha⟩
  · intro x hx t ht
    rcases List.mem_append.1 ht with ht | ht
    · exact h.trr x hx t ht
    · obtain rfl : t = e := by simpa using ht
      exact hf.2.1 x hx
  · intro g hg
    rcases hat with e | e
    · rw [e]; exact h.lp g hg
    · rw [e]
      intro hh
      have := (h.rx.hit g hg).2.1
      have := Option.some.inj hh
      omega
end
end Go.Proofs.Ytleooelhnnfjbaa.Lns

namespace Go.Proofs.Ytleooelhnnfjbaa.Lns
open Go Go.RowKit Go.Proofs.Ytleooelhnnfjbaa.Com Go.Proofs.Ytleooelhnnfjbaa.Rw
section
variable {w0 w w' : World} {s r most nx nr : Nat} {sv lv tv wv : Value} {Rp Rr Tp Tr : List En}

theorem p_push_no (h : PSt w0 w s r most nx nr sv lv tv wv Rp Rr Tp Tr) {e0 : En} (he : e0 ∈ Tp) (id : Int) (hid : id < 1 ∨ (nx : Int) ≤ id) : Calls Try.prog 15 #[.pointer (some ⟨s, 0, none⟩), .agg #[.int .i64 id, .pointer (some ⟨e0.d, 0, none⟩)]] w fun e w' => e = .returned (.int .i64 2) ∧ PSt w0 w' s r most nx nr sv lv tv wv Rp Rr Tp Tr ∧ Below w.heap.size w w' := by
  obtain ⟨_, _, _, n, cap, tail, hx⟩ := h.trow e0 he
  exact (push_no h.sx id hid hx).mono fun e w' ho => ⟨ho.1, h.stay ho.2, ho.2⟩
def PPush (w0 w : World) (s r most nx nr : Nat) (lv tv wv : Value) (Rp Rr Tp Tr : List En) (id : Int) (l : List Cel) (e : Ending) (w' : World) : Prop :=
  ∃ sv' d g, e = .returned (.int .i64 0) ∧ PSt w0 w' s r most nx nr sv' lv tv wv (pushL most Rp ⟨id, d, g, 0, l⟩) Rr Tp Tr ∧ ∃ L, Only L w w' ∧ ∀ k ∈ L, ∃ t ∈ [76, 42], Typ w k t
theorem p_push_yes (h : PSt w0 w s r most nx nr sv lv tv wv Rp Rr Tp Tr) {e0 : En} (he : e0 ∈ Tp) (id : Int) (hid : 1 ≤ id ∧ id < nx) : Calls Try.prog 15 #[.pointer (some ⟨s, 0, none⟩), .agg #[.int .i64 id, .pointer (some ⟨e0.d, 0, none⟩)]] w (PPush w0 w s r most nx nr lv tv wv Rp Rr Tp Tr id e0.l) := by
  obtain ⟨hgd, _, _, n, cap, tail, hx⟩ := h.trow e0 he
  refine (push_yes h.sx id hid 0 hx hgd).mono ?_
  rintro e w' ⟨sv', d, g, he', hs, hd, hg, ho, hat⟩
  refine ⟨sv', d, g, he', h.turnS ho (fun k hk => ?_) (fun k hk => ?_) (fun g' hg' hm => ?_) hs (fun x hx t ht => ?_) (fun g' hg' => ?_), _, ho, fun k hk => ?_⟩
  · rcases List.mem_cons.1 hk with rfl | hk
    · exact ⟨_, by simp, h.sx.typ⟩
    · exact ⟨_, by simp, (h.sx.ptyp k (by simpa using hk)).2.2⟩
  · rcases List.mem_cons.1 hk with rfl | hk
    · exact h.lowS.1
    · exact (h.sx.ptyp k (by simpa using hk)).1
  · rcases List.mem_cons.1 hm with rfl | hm
    · exact absurd (Typ.inj (owns_typ h.tl g' hg') h.sx.typ) (by decide)
    · exact h.sp g' (by simpa using hm) hg'
  · rcases pushL_mem hx with hx | rfl
    · exact h.tr x hx t ht
    · have := (h.trow t ht).lt.2
      simp only
      omega
  · rcases hat with e | ⟨g2, e, hg2⟩
    · exact h.sp g' (by rw [← e]; exact hg')
    · rw [e] at hg'
      obtain rfl := Option.some.inj hg'
      intro hh
      have := (World.ownsRow.lt h.tl g2 hh).2
      omega
  · rcases List.mem_cons.1 hk with rfl | hk
    · exact ⟨_, by simp, h.sx.typ⟩
    · exact ⟨_, by simp, (h.sx.ptyp k (by simpa using hk)).2.2⟩
theorem r_push_no (h : PSt w0 w s r most nx nr sv lv tv wv Rp Rr Tp Tr) {e0 : En} (he : e0 ∈ Tr) (id : Int) (hid : id < 1 ∨ (nr : Int) ≤ id) : Calls Try.prog 16 #[.pointer (some ⟨r, 0, none⟩), .int .i64 id, .pointer (some ⟨e0.dr, 0, none⟩)] w fun e w' => e = .returned (.int .i64 2) ∧ w = w' :=
  rpush_no h.rx id hid (h.tref e0 he)
def RPush (w0 w : World) (s r most nx nr : Nat) (sv tv wv : Value) (Rp Rr Tp Tr : List En) (id : Int) (l : List Cel) (e : Ending) (w' : World) : Prop :=
  ∃ lv' dr, e = .returned (.int .i64 0) ∧ PSt w0 w' s r most nx nr sv lv' tv wv Rp (pushL most Rr ⟨id, 0, 0, dr, l⟩) Tp Tr ∧ Only [r] w w'
theorem r_push_yes (h : PSt w0 w s r most nx nr sv lv tv wv Rp Rr Tp Tr) (h5 : Rr.length ≤ 10000) {e0 : En} (he : e0 ∈ Tr) (hgd : Rw.Good e0.l) (id : Int) (hid : 1 ≤ id ∧ id < nr) : Calls Try.prog 16 #[.pointer (some ⟨r, 0, none⟩), .int .i64 id, .pointer (some ⟨e0.dr, 0, none⟩)] w (RPush w0 w s r most nx nr sv tv wv Rp Rr Tp Tr id e0.l) := by
  refine (rpush_yes h.rx h5 id hid (h.tref e0 he) hgd).mono ?_
  rintro e w' ⟨lv', dr, he', hs, hd, ho, hat⟩
  refine ⟨lv', dr, he', h.turnR ho hs (fun x hx t ht => ?_) (fun g' hg' hh => ?_), ho⟩
  · rcases pushL_mem hx with hx | rfl
    · exact h.trr x hx t ht
    · have := (RefIn.typ (h.tref t ht)).2.1
      simp only
      omega
  · have h1 := hat g' hg'
    have h2 := (World.ownsRow.lt h.wl g' hh).2
    omega

/-! A row that was told is written over. -/
theorem set_map {α : Type} (f : En → α) (T : List En) {k : Nat} (hk : k < T.length) (e : En) (he : f e = f T[k]) : (T.set k e).map f = T.map f := by
  rw [List.map_set, he]
  apply List.ext_getElem?
  intro i
  rw [List.getElem?_set]
  split
  · next h =>
    subst h
    simp [hk]
  · rfl
theorem set_fl (f : En → List Value) (T : List En) {k : Nat} (hk : k < T.length) (e : En) (he : f e = f T[k]) : fl f (T.set k e) = fl f T := by
  unfold fl
  rw [set_map f T hk e he]
theorem set_pair {α : Type} (f : En → α) (T : List En) {k : Nat} (hk : k < T.length) (e : En) (he : f e = f T[k]) (h : T.Pairwise (fun a b => f a ≠ f b)) : (T.set k e).Pairwise (fun a b => f a ≠ f b) := by
  have h1 : (T.map f).Pairwise (· ≠ ·) := List.pairwise_map.2 h
  rw [← set_map f T hk e he] at h1
  exact List.pairwise_map.1 h1
theorem set_mem {α : Type} (f : En → α) {T : List En} {k : Nat} (hk : k < T.length) {e x : En} (h : T.Pairwise (fun a b => f a ≠ f b)) (hx : x ∈ T.set k e) : x = e ∨ (x ∈ T ∧ f x ≠ f T[k]) := by
  obtain ⟨j, hj, rfl⟩ := List.mem_iff_getElem.1 hx
  rw [List.length_set] at hj
  by_cases c : k = j
  · subst c
    left
    simp
  · right
    rw [List.getElem_set_ne c]
    refine ⟨List.getElem_mem hj, ?_⟩
    rw [List.pairwise_iff_getElem] at h
    rcases Nat.lt_or_gt_of_ne c with c | c
    · exact fun e => h k j hk hj c e.symm
    · exact h j k hj hk c
def putE (e : En) (x : Int) (a : At) : En := ⟨e.id, e.d, e.g, e.dr, puL e.l x a⟩
theorem p_put (h : PSt w0 w s r most nx nr sv lv tv wv Rp Rr Tp Tr) {k : Nat} (hk : k < Tp.length) (x : Int) (a : At) : Calls Try.prog 17 #[.pointer (some ⟨Tp[k].d, 0, none⟩), .int .i64 0, .int .i32 x, .bool false, .agg #[.int .u32 a.f, .int .u32 a.b, .int .u16 a.g]] w fun e w' => (∃ v, e = .returned v) ∧ PSt w0 w' s r most nx nr sv lv tv wv Rp Rr (Tp.set k (putE Tp[k] x a)) Tr ∧ Only [Tp[k].g] w w' := by
  have hm := List.getElem_mem hk
  obtain ⟨hgd, hd, hg, n, cap, tail, hx⟩ := h.trow _ hm
  refine (put_any' hx hgd x a).mono ?_
  rintro e w' ⟨hv, hr, ho⟩
  have ht := typ1 (h.trow _ hm).typ.2
  refine ⟨hv, ⟨?_, h.rx.byTs ho ht (by decide) (by decide) (by decide) (by decide) (by decide), ?_, owns_ts h.wl ho ht (by decide), ?_, fun x hx => RefIn.byTs (h.tref x hx) ho ht (by decide) (by decide) (by decide), set_pair En.g Tp hk _ rfl h.tt, h.ttr, ?_, h.trr, h.sp, h.lp, h.below.trans (ho.below h.below.size (by simpa using hg))⟩, ho⟩
  · exact h.sx.only ho (not_ts ht h.sx.typ (by decide)) (fun g hg => not_ts ht (h.sx.ptyp g hg).2.2 (by decide)) (fun y hy => ⟨not_ts ht (h.sx.2 y hy).typ.1 (by decide), by simpa using h.tr y hy _ hm⟩)
  · rw [List.length_set, set_fl lineC Tp hk (putE Tp[k] x a) rfl]
    exact owns_ts h.tl ho ht (by decide)
  · intro y hy
    rcases set_mem En.g hk h.tt hy with rfl | ⟨hy, hne⟩
    · exact ⟨puL_good hgd x a, hd, hg, n, cap, tail, hr⟩
    · exact (h.trow y hy).only ho (not_ts ht (h.trow y hy).typ.1 (by decide)) (by simpa using hne)
  · intro y hy t htm
    rcases set_mem En.g hk h.tt htm with rfl | ⟨htm, _⟩
    · exact h.tr y hy Tp[k] hm
    · exact h.tr y hy t htm
theorem r_put (h : PSt w0 w s r most nx nr sv lv tv wv Rp Rr Tp Tr) {k : Nat} (hk : k < Tr.length) (hgd : Rw.Good Tr[k].l) (x : Int) (a : At) : Calls Try.prog 18 #[.pointer (some ⟨Tr[k].dr, 0, none⟩), .int .i64 0, .int .i32 x, .bool false, .agg #[.int .u32 a.f, .int .u32 a.b, .int .u16 a.g]] w fun e w' => (∃ v, e = .returned v) ∧ PSt w0 w' s r most nx nr sv lv tv wv Rp Rr Tp (Tr.set k (putE Tr[k] x a)) ∧ Only [Tr[k].dr] w w' := by
  have hm := List.getElem_mem hk
  refine (rput_any' (h.tref _ hm) hgd x a).mono ?_
  rintro e w' ⟨hv, hr, ho⟩
  have hty := (RefIn.typ (h.tref _ hm)).1
  have ht := typ1 hty
  refine ⟨hv, ⟨h.sx.byTs ho ht (by decide) (by decide) (by decide) (by decide), ?_, owns_ts h.tl ho ht (by decide), ?_, fun y hy => (h.trow y hy).byTs ho ht (by decide) (by decide), ?_, h.tt, set_pair En.dr Tr hk _ rfl h.ttr, h.tr, ?_, h.sp, h.lp, h.below.trans (ho.below h.below.size (by simpa using (RefIn.typ (h.tref _ hm)).2.2))⟩, ho⟩
  · exact h.rx.only ho (not_ts ht (Block.typ h.rx.blk) (by decide)) (fun g hg => not_ts ht (h.rx.hit g hg).2.2 (by decide)) (fun y hy => RefIn.apart (h.rx.ref y hy) ho hty (h.trr y hy _ hm))
  · rw [List.length_set, set_fl rlineC Tr hk (putE Tr[k] x a) rfl]
    exact owns_ts h.wl ho ht (by decide)
  · intro y hy
    rcases set_mem En.dr hk h.ttr hy with rfl | ⟨hy, hne⟩
    · exact hr
    · exact RefIn.apart (h.tref y hy) ho hty hne
  · intro y hy t htm
    rcases set_mem En.dr hk h.ttr htm with rfl | ⟨htm, _⟩
    · exact h.trr y hy Tr[k] hm
    · exact h.trr y hy t htm

/-! Clear. -/
theorem p_clear (h : PSt w0 w s r most nx nr sv lv tv wv Rp Rr Tp Tr) : Calls Try.prog 19 #[.pointer (some ⟨s, 0, none⟩)] w fun e w' => e = .returned (.int .i64 0) ∧ PSt w0 w' s r most nx nr (.slice none 0 0) lv tv wv [] Rr Tp Tr ∧ Only [s] w w' := by
  refine (sclear_any h.sx).mono ?_
  rintro e w' ⟨he, hs, ho⟩
  have ht : ∀ k ∈ [s], ∃ t ∈ [76, 42], Typ w k t := fun k hk => by
    obtain rfl : k = s := by simpa using hk
    exact ⟨_, by simp, h.sx.typ⟩
  exact ⟨he, h.turnS ho ht (by simpa using h.lowS.1) (fun g hg => not_in1 (owns_typ h.tl g hg) h.sx.typ (by decide)) hs (by simp) (fun g hg => by cases hg), ho⟩
theorem r_clear (h : PSt w0 w s r most nx nr sv lv tv wv Rp Rr Tp Tr) : PSt w0 (w.setCell ⟨r, 2, none⟩ (.slice none 0 0)) s r most nx nr sv (.slice none 0 0) tv wv Rp [] Tp Tr := by
  have ho : Only [r] w (w.setCell ⟨r, 2, none⟩ (.slice none 0 0)) := Only.setCell w ⟨r, 2, none⟩ _
  exact h.turnR ho ⟨h.rx.blk.set 2 _, .inl ⟨rfl, rfl⟩, by simp, h.rx.lo, h.rx.small⟩ (by simp) (by rintro g ⟨off, n, c, e⟩; cases e)

/-! Copy: the copy goes on, the old one is spoilt. -/
structure CSt (w0 w : World) (s c r most nx nr mx : Nat) (sv so lv tv wv : Value) (Rp Ro Rr Tp Tr : List En) : Prop where
  st : PSt w0 w c r most nx nr sv lv tv wv Rp Rr Tp Tr
  old : SX w0.heap.size w s mx most so Ro
  ne : c ≠ s
theorem CSt.other {c mx mx' : Nat} {so so' : Value} {Ro Ro' : List En} (h : CSt w0 w s c r most nx nr mx sv so lv tv wv Rp Ro Rr Tp Tr) (ho : Only [s] w w') (hs : SX w0.heap.size w' s mx' most so' Ro') : CSt w0 w' s c r most nx nr mx' sv so' lv tv wv Rp Ro' Rr Tp Tr := by
  have hty := h.old.typ
  have ht : ∀ k ∈ [s], ∃ t ∈ [76, 42], Typ w k t := fun k hk => by
    obtain rfl : k = s := by simpa using hk
    exact ⟨_, by simp, hty⟩
  have hlo : w0.heap.size ≤ s := by
    obtain ⟨⟨o, P, h0, _⟩, _⟩ := h.old
    exact h0.lo
  have hS : SX w0.heap.size w' c nx most sv Rp := h.st.sx.only ho (by simpa using h.ne) (fun g hg => not_in1 (h.st.sx.ptyp g hg).2.2 hty (by decide)) (fun e he => ⟨not_in1 (h.st.sx.2 e he).typ.1 hty (by decide), not_in1 (h.st.sx.2 e he).typ.2 hty (by decide)⟩)
  exact ⟨h.st.turnS ho ht (by simpa using hlo) (fun g hg => not_in1 (owns_typ h.st.tl g hg) hty (by decide)) hS h.st.tr h.st.sp, hs, h.ne⟩
theorem p_copy (h : PSt w0 w s r most nx nr sv lv tv wv Rp Rr Tp Tr) : Calls Try.prog 20 #[.pointer (some ⟨s, 0, none⟩)] w fun e w' => ∃ c sv', e = .returned (.pointer (some ⟨c, 0, none⟩)) ∧ CSt w0 w' s c r most nx nr nx sv' sv lv tv wv Rp Rp Rr Tp Tr ∧ Below w.heap.size w w' := by
  refine (scopy_any h.sx).mono ?_
  rintro e w' ⟨c, sv', he, hs, hb, hc, hp⟩
  have h' := h.stay hb
  have hlt := h.lowS.2
  refine ⟨c, sv', he, ⟨h'.turnS (L := []) (Only.refl _ _) (by simp) (by simp) (by simp) hs h.tr (fun g hg hh => ?_), h'.sx, by omega⟩, hb⟩
  have h1 := hp g hg
  have h2 := (World.ownsRow.lt h.tl g hh).2
  omega
theorem c_fresh {c mx : Nat} {so : Value} {Ro : List En} (h : CSt w0 w s c r most nx nr mx sv so lv tv wv Rp Ro Rr Tp Tr) (hx : mx < 1000000) (a : At) : Calls Try.prog 11 #[.pointer (some ⟨s, 0, none⟩), .int .i64 3, .agg #[.int .u32 a.f, .int .u32 a.b, .int .u16 a.g]] w fun e w' => (∃ v, e = .returned v) ∧ CSt w0 w' s c r most nx nr (mx + 1) sv so lv tv wv Rp Ro Rr Tp Tr ∧ Only [s] w w' := by
  refine (fresh_yes h.old hx 3 (by omega) (by omega) a).mono ?_
  rintro e w' ⟨d, g, he, hs, hr, ho⟩
  exact ⟨⟨_, he⟩, h.other ho hs, ho⟩
theorem c_clear {c mx : Nat} {so : Value} {Ro : List En} (h : CSt w0 w s c r most nx nr mx sv so lv tv wv Rp Ro Rr Tp Tr) : Calls Try.prog 19 #[.pointer (some ⟨s, 0, none⟩)] w fun e w' => (∃ v, e = .returned v) ∧ PSt w0 w' c r most nx nr sv lv tv wv Rp Rr Tp Tr ∧ Only [s] w w' := by
  refine (sclear_any h.old).mono ?_
  rintro e w' ⟨he, hs, ho⟩
  exact ⟨⟨_, he⟩, (h.other ho hs).st, ho⟩
end
end Go.Proofs.Ytleooelhnnfjbaa.Lns
