/-
  screen: the reference's screen in memory; fresh lines. screen: the reference's fresh lines. screen: what the reference builds of its lines, step by step.
-/
import Derived.Test.YtaoegfdaemmogaaGreatNMath
import Derived.Test.YtaoegfdaemmogaaGreatLRef2
import Derived.Test.YtaoegfdaemmogaaGreatLRef3
namespace Go.Proofs.YtaoegfdaemmogaaGreat.Scn
open Go Go.RowKit Go.Proofs.YtaoegfdaemmogaaGreat.Com Go.Proofs.YtaoegfdaemmogaaGreat.Rw Go.Proofs.YtaoegfdaemmogaaGreat.Lns

def RT : List TypeId := [63, 61, 71, 78]
def NoRT (ts : List TypeId) : Prop := (∀ t ∈ RT, t ∉ ts) ∧ 117 ∉ ts ∧ 21 ∉ ts
theorem owns_frR {B' : Nat} {ts : List TypeId} {w w' : World} {B : Nat} {e : TypeId} {s n : Nat} {v : Value} {xs : List Value} (h : w.ownsRow B e s v n xs) (hf : Fr B' ts w w') (ht : e ∉ ts) : w'.ownsRow B e s v n xs := by
  refine ⟨h.1, ?_⟩
  rcases h.2 with h2 | ⟨g, cap, cur, rfl, hg, hh, r⟩
  · exact .inl h2
  · exact .inr ⟨g, cap, cur, rfl, hg, (hf.block g (lt_of_block hh) (.inr fun t' ht' hT => ht (by rw [Typ.inj (w := w) ⟨cur, _, hh⟩ hT]; exact ht'))).trans hh, r⟩
theorem rl_fr {B B' : Nat} {ts : List TypeId} {w w' : World} {lv : Value} {R : List En} (h : RL B w lv R) (hf : Fr B' ts w w') (ht : 71 ∉ ts) : RL B w' lv R := by
  rcases h with h | ⟨g, off, c, rfl, hc, hm, hB, hT, hlt, hv⟩
  · exact .inl h
  · have e := hf.block g hlt (.inr fun t' ht' hT' => ht (by rw [Typ.inj hT hT']; exact ht'))
    obtain ⟨cs, fz, hT⟩ := hT
    exact .inr ⟨g, off, c, rfl, hc, hm, hB, ⟨cs, fz, e.trans hT⟩, Nat.lt_of_lt_of_le hlt hf.size, fun j v hj => (World.cell?_of_block (w := w) e).trans (hv j v hj)⟩
/-- The reference's screen at r; its store at q; its lines' cells are xs; L are rows that are there. -/
structure RmX (B : Nat) (w : World) (r q nx most : Nat) (kp : Bool) (cols : Nat) (rv lv : Value) (top bot n : Nat) (xs : List Value) (L R : List En) : Prop where
  blk : Block w r 63 #[.pointer (some ⟨q, 0, none⟩), .bool kp, .int .i64 cols, lv, .int .i64 top, .int .i64 bot]
  own : w.ownsRow B 71 2 lv n xs
  st : RX B w q nx most rv R
  apart : ∀ g, lv.ownBlock = some g → ¬ Hits rv g
  refs : ∀ e ∈ L, RefIn B w e.dr e.l ∧ Rw.Good e.l
  dd : ((L ++ R).map En.dr).Nodup
  lo : B ≤ r
  small : n ≤ 1000
section
variable {B : Nat} {w w' : World} {r q nx most cols top bot n : Nat} {kp : Bool} {rv lv : Value} {xs : List Value} {L R : List En}
theorem RmX.fr {B' : Nat} {ts : List TypeId} (h : RmX B w r q nx most kp cols rv lv top bot n xs L R) (hf : Fr B' ts w w') (hn : NoRT ts) : RmX B w' r q nx most kp cols rv lv top bot n xs L R := by
  have hR : ∀ {d l}, RefIn B w d l → RefIn B w' d l := fun hr => RefIn.fr hr hf (hn.1 _ (by simp [RT])) hn.2.1 hn.2.2
  exact ⟨Block.fr h.blk hf (.inl (hn.1 _ (by simp [RT]))), owns_frR h.own hf (hn.1 _ (by simp [RT])), ⟨Block.fr h.st.blk hf (.inl (hn.1 _ (by simp [RT]))), rl_fr h.st.row hf (hn.1 _ (by simp [RT])), fun e he => hR (h.st.ref e he), h.st.lo, h.st.small⟩, h.apart, fun e he => ⟨hR (h.refs e he).1, (h.refs e he).2⟩, h.dd, h.lo, h.small⟩
theorem RmX.below (h : RmX B w r q nx most kp cols rv lv top bot n xs L R) (hb : Below w.heap.size w w') : RmX B w' r q nx most kp cols rv lv top bot n xs L R := h.fr (Fr.of_below (B := 0) (ts := []) hb) (by simp [NoRT])
theorem RmX.cells (h : RmX B w r q nx most kp cols rv lv top bot n xs L R) : w.cell? ⟨r, 0, none⟩ = some (.pointer (some ⟨q, 0, none⟩)) ∧ w.cell? ⟨r, 1, none⟩ = some (.bool kp) ∧ w.cell? ⟨r, 2, none⟩ = some (.int .i64 cols) ∧ w.cell? ⟨r, 3, none⟩ = some lv ∧ w.cell? ⟨r, 4, none⟩ = some (.int .i64 top) ∧ w.cell? ⟨r, 5, none⟩ = some (.int .i64 bot) :=
  ⟨h.blk.cell 0 rfl, h.blk.cell 1 rfl, h.blk.cell 2 rfl, h.blk.cell 3 rfl, h.blk.cell 4 rfl, h.blk.cell 5 rfl⟩
theorem RmX.typ (h : RmX B w r q nx most kp cols rv lv top bot n xs L R) : Typ w r 63 := Block.typ h.blk
theorem RmX.ltyp (h : RmX B w r q nx most kp cols rv lv top bot n xs L R) : ∀ g, lv.ownBlock = some g → B ≤ g ∧ g < w.heap.size ∧ Typ w g 71 := fun g hg => ⟨(World.ownsRow.lt h.own g hg).1, (World.ownsRow.lt h.own g hg).2, owns_typ h.own g hg⟩
theorem RmX.lts (h : RmX B w r q nx most kp cols rv lv top bot n xs L R) : ∀ e ∈ L ++ R, e.dr < w.heap.size := fun e he => by
  rcases List.mem_append.1 he with he | he
  · exact (RefIn.typ (h.refs e he).1).2.1
  · exact (RefIn.typ (h.st.ref e he)).2.1
theorem RmX.sub (h : RmX B w r q nx most kp cols rv lv top bot n xs L R) {L' : List En} (hs : L'.Sublist L) : RmX B w r q nx most kp cols rv lv top bot n xs L' R :=
  ⟨h.blk, h.own, h.st, h.apart, fun e he => h.refs e (hs.subset he), h.dd.sublist ((List.Sublist.append hs (List.Sublist.refl R)).map _), h.lo, h.small⟩
/-- The store turns. -/
theorem RmX.stored (h : RmX B w r q nx most kp cols rv lv top bot n xs L R) {nx' : Nat} {rv' : Value} {L' R' : List En} (h1 : RX B w' q nx' most rv' R') (ho : Only [q] w w') (ha : rv' = rv ∨ ∀ g, Hits rv' g → w.heap.size ≤ g) (hl : ∀ e ∈ L', e ∈ L ∨ RefIn B w' e.dr e.l ∧ Rw.Good e.l) (hd : ((L' ++ R').map En.dr).Nodup) :
    RmX B w' r q nx' most kp cols rv' lv top bot n xs L' R' := by
  have hq : ∀ k ∈ [q], Typ w k 61 := fun k hk => by
    obtain rfl : k = q := by simpa using hk
    exact Block.typ h.st.blk
  refine ⟨h.blk.only ho (fun hm => absurd (Typ.inj h.typ (hq _ hm)) (by decide)), owns_only h.own ho (fun g hg hm => absurd (Typ.inj (h.ltyp g hg).2.2 (hq _ hm)) (by decide)), h1, fun g hg hh => ?_, fun e he => ?_, hd, h.lo, h.small⟩
  · rcases ha with rfl | ha
    · exact h.apart g hg hh
    · have := ha g hh
      have := (h.ltyp g hg).2.1
      omega
  · rcases hl e he with he | he
    · exact ⟨RefIn.other (h.refs e he).1 ho hq (by decide) (by decide) (by decide), (h.refs e he).2⟩
    · exact he
theorem RmX.qfr (h : RmX B w r q nx most kp cols rv lv top bot n xs L R) (ho : Only [q] w w') : Fr B RT w w' := Fr.of_only ho fun k hk _ => by
  obtain rfl : k = q := by simpa using hk
  exact ⟨h.st.lo, _, by simp [RT], Block.typ h.st.blk⟩
theorem RmX.rfr (h : RmX B w r q nx most kp cols rv lv top bot n xs L R) (ho : Only [r] w w') : Fr B RT w w' := Fr.of_only ho fun k hk _ => by
  obtain rfl : k = r := by simpa using hk
  exact ⟨h.lo, _, by simp [RT], h.typ⟩
theorem nodup_new' {α : Type} (f : α → Nat) {l m : List α} {N : Nat} (h : (l.map f).Nodup) (hl : ∀ e ∈ l, f e < N) {x : α} (hx : N ≤ f x) (hp : List.Perm m (x :: l)) : (m.map f).Nodup := by
  rw [(hp.map f).nodup_iff, List.map_cons, List.nodup_cons]
  refine ⟨fun hm => ?_, h⟩
  obtain ⟨e, he, e1⟩ := List.mem_map.1 hm
  have := hl e he
  omega
theorem RmX.fresh (h : RmX B w r q nx most kp cols rv lv top bot n xs L R) {dr : Nat} {l : List Cel} (h1 : RX B w' q (nx + 1) most rv R) (hr : RefIn w.heap.size w' dr l) (hg : Rw.Good l) (ho : Only [q] w w') {L' : List En} (hp : List.Perm L' (En.mk nx 0 0 dr l :: L)) :
    RmX B w' r q (nx + 1) most kp cols rv lv top bot n xs L' R := by
  have hBw : B ≤ w.heap.size := Nat.le_trans h.lo (Nat.le_of_lt h.blk.lt)
  refine h.stored h1 ho (.inl rfl) (fun e he => ?_) (nodup_new' En.dr h.dd h.lts (RefIn.typ hr).2.2 (hp.append_right R))
  rcases List.mem_cons.1 (hp.subset he) with rfl | he
  · exact .inr ⟨RefIn.lower hr hBw, hg⟩
  · exact .inl he
theorem RmX.push (h : RmX B w r q nx most kp cols rv lv top bot n xs L R) {id : Int} {l : List Cel} {e : Ending} (hp : RPushDone B w q nx most R id l e w') :
    ∃ rv' R', RmX B w' r q nx most kp cols rv' lv top bot n xs L R' ∧ vw R' = pushL most (vw R) (id, l) ∧ Only [q] w w' := by
  obtain ⟨rv', dr, _, h1, hd, ho, ha⟩ := hp
  refine ⟨rv', pushL most R (En.mk id 0 0 dr l), h.stored h1 ho (.inr ha) (fun e he => .inl he) ?_, by unfold vw; exact pushL_map _ _ _ _, ho⟩
  have h2 : ((L ++ (R ++ [En.mk id 0 0 dr l])).map En.dr).Nodup := nodup_new' En.dr h.dd h.lts hd (by rw [← List.append_assoc]; exact List.perm_append_singleton _ _)
  refine h2.sublist ((List.Sublist.append (List.Sublist.refl L) ?_).map En.dr)
  unfold pushL
  split
  · exact List.drop_sublist _ _
  · exact List.Sublist.refl _
theorem rheld_any (n : Int) (frm to : Nat) (hf : frm ≤ to + 1) (ht : to ≤ 512) (w : World) : Calls Tryz.prog 85 #[.int .i64 n, .int .i64 frm, .int .i64 to] w fun e w' => e = .returned (.int .i64 (heldF n (to + 1 - frm))) ∧ w = w' := by
  obtain ⟨k, hk⟩ : ∃ k, k = heldF n (to + 1 - frm) := ⟨_, rfl⟩
  rw [← hk]
  unfold heldF at hk
  have hw1 : IntKind.i64.wrap ((to : Int) - (frm : Int)) = (to : Int) - (frm : Int) := IntWalk.i64_in _ (by omega)
  have hw2 : IntKind.i64.wrap ((to : Int) - (frm : Int) + 1) = (to : Int) - (frm : Int) + 1 := IntWalk.i64_in _ (by omega)
  replace hk := Lib.hid hk
  by_cases h0 : n < 0
  · go_enter Tryz.func85, Tryz.ntmps85
    go_wp2
    go_ret
    exact ⟨ret_int (by have := hk.out; omega), rfl⟩
  · have h0' := decide_eq_false h0
    by_cases h1 : (to : Int) - (frm : Int) + 1 < n
    · go_enter Tryz.func85, Tryz.ntmps85
      go_wp2
      go_ret
      exact ⟨ret_int (by have := hk.out; omega), rfl⟩
    · have h1' := decide_eq_false h1
      go_enter Tryz.func85, Tryz.ntmps85
      go_wp2
      go_ret
      exact ⟨ret_int (by have := hk.out; omega), rfl⟩
/-- What fresh leaves: so many lines of its own. -/
def RFresh (B : Nat) (w : World) (r q nx most : Nat) (kp : Bool) (cols : Nat) (rv lv : Value) (top bot n : Nat) (xs : List Value) (L R : List En) (m : Nat) (a : At) (e : Ending) (w' : World) : Prop :=
  ∃ v F, e = .returned v ∧ w'.ownsRow w.heap.size 71 2 v m (fl rlineC F) ∧ vw F = freshS nx cols m a ∧ RmX B w' r q (nx + m) most kp cols rv lv top bot n xs (F ++ L) R ∧ Only [q] w w'
end
end Go.Proofs.YtaoegfdaemmogaaGreat.Scn
namespace Go.Proofs.YtaoegfdaemmogaaGreat.Scn
open Go Go.RowKit Go.Proofs.YtaoegfdaemmogaaGreat.Com Go.Proofs.YtaoegfdaemmogaaGreat.Rw Go.Proofs.YtaoegfdaemmogaaGreat.Lns
section
variable {B : Nat} {w w' : World} {r q nx most cols top bot n : Nat} {kp : Bool} {rv lv : Value} {xs : List Value} {L R : List En}
/-- Blocks of lines that are neither the screen's nor the store's turn. -/
theorem RmX.aside (h : RmX B w r q nx most kp cols rv lv top bot n xs L R) {K : List Nat} {N : Nat} (ho : Only K w w') (hK : ∀ k ∈ K, N ≤ k ∧ Typ w k 71) (hl : ∀ g, lv.ownBlock = some g → g < N) (hh : ∀ g, Hits rv g → g < N) : RmX B w' r q nx most kp cols rv lv top bot n xs L R := by
  have ht : ∀ k ∈ K, Typ w k 71 := fun k hk => (hK k hk).2
  have hR : ∀ {d l}, RefIn B w d l → RefIn B w' d l := fun hr => RefIn.other hr ho ht (by decide) (by decide) (by decide)
  exact ⟨h.blk.only ho (fun hm => absurd (Typ.inj h.typ (ht _ hm)) (by decide)), owns_only h.own ho (fun g hg hm => by have := hl g hg; have := (hK g hm).1; omega),
    h.st.only ho (fun hm => absurd (Typ.inj (Block.typ h.st.blk) (ht _ hm)) (by decide)) (fun g hg hm => by have := hh g hg; have := (hK g hm).1; omega) (fun e he => hR (h.st.ref e he)), h.apart, fun e he => ⟨hR (h.refs e he).1, (h.refs e he).2⟩, h.dd, h.lo, h.small⟩
theorem lit2 (W : World) (y : Int) (dr : Nat) : ∀ j u, [Value.int .i64 y, .pointer (some ⟨dr, 0, none⟩)][j]? = some u → (W.alloc (.cells #[.int .i64 y, .pointer (some ⟨dr, 0, none⟩)] 71)).cell? ((⟨W.heap.size, 0, none⟩ : Addr).add j) = some u := fun j u hj => by
  rw [Addr.add_lit, Nat.zero_add]
  exact (Block.made W 71 #[.int .i64 y, .pointer (some ⟨dr, 0, none⟩)]).cell j (by simpa using hj)
end
section
variable {B : Nat} {w w' : World} {r q nx most cols top bot n : Nat} {kp : Bool} {rv lv : Value} {xs : List Value} {L R : List En}
set_option maxRecDepth 100000 in
set_option maxHeartbeats 4000000 in
theorem rfresh_sc (h : RmX B w r q nx most kp cols rv lv top bot n xs L R) (m : Nat) (hm : m ≤ 600) (hnx : nx + m ≤ 1000000) (hc1 : 1 ≤ cols) (hc5 : cols ≤ 512) (a : At) :
    Calls Tryz.prog 24 #[.pointer (some ⟨r, 0, none⟩), .int .i64 m, .agg #[.int .u32 a.f, .int .u32 a.b, .int .u16 a.g]] w (RFresh B w r q nx most kp cols rv lv top bot n xs L R m a) := by
  have hb1 := below_new w (.cells #[.int .u32 a.f, .int .u32 a.b, .int .u16 a.g] 37)
  have hbx := Block.made w 37 #[.int .u32 a.f, .int .u32 a.b, .int .u16 a.g]
  have hM := h.below hb1
  have hlN := fun g hg => (h.ltyp g hg).2.1
  have hhN := fun g hg => (h.st.hit g hg).2.1
  have hqlt := h.st.blk.lt
  have hgd := freshL_good cols a
  have hfl : ∀ j, freshS nx cols (j + 1) a = _ := fun j => freshS_succ nx cols j a
  have hfy := fun w' nx' (hs : RmX B w' r q nx' most kp cols rv lv top bot n xs L R) => trivial
  have hfr := fun w' nx' L' (hs : RmX B w' r q nx' most kp cols rv lv top bot n xs L' R) (hx : nx' < 1000000) => rfresh_yes hs.st hx cols hc1 hc5 a
  generalize freshL cols a = fc at hgd hfl hfr
  obtain ⟨af, ab, ag⟩ := a
  simp only at hb1 hbx hfr ⊢
  obtain ⟨bx, hbxe⟩ : ∃ bx, bx = w.heap.size := ⟨_, rfl⟩
  replace hfl := Lib.hid hfl
  replace hfr := Lib.hid hfr
  replace hgd := Lib.hid hgd
  clear h hfy
  go_enter Tryz.func24, Tryz.ntmps24
  go_wp2
  generalize w.alloc (.cells #[.int .u32 af, .int .u32 ab, .int .u16 ag] 37) = w0 at hbx hb1 hM ⊢
  rw [← hbxe] at hbx ⊢
  have hbq : bx ≠ q := by omega
  have hb1' := Lib.hid hb1
  replace hbxe := Lib.hid hbxe
  go_loopw [7, 8] (fun v iv wr => ∃ j : Nat, j ≤ m ∧ iv = .int .i64 j ∧ Hid (∃ F, F.length = j ∧ wr.ownsRow w.heap.size 71 2 v j (fl rlineC F) ∧ vw F = freshS nx cols j ⟨af, ab, ag⟩ ∧ RmX B wr r q (nx + j) most kp cols rv lv top bot n xs (F ++ L) R ∧ Only [q] w wr ∧ Block wr bx 37 #[.int .u32 af, .int .u32 ab, .int .u16 ag]) ∧ ∃ ao c, v = .slice ao j c) (fun _ iv _ => m - (intOf iv).toNat)
  case atStart => exact ⟨0, Nat.zero_le _, rfl, Lib.hid ⟨[], rfl, World.ownsRow_nil _ _ _ _, rfl, hM, Only.of_below hb1 _, hbx⟩, none, 0, rfl⟩
  case round =>
    obtain ⟨j, hj, rfl, hR, ao, c, rfl⟩ := hrel
    obtain ⟨F, hFl, hown, hvF, hMr, hOr, hbr⟩ := hR.out
    by_cases hlt : j < m
    · have hjI : (j : Int) < (m : Int) := by omega
      have hdr : Below wr.heap.size wr wr.drew := below_dr (Below.refl _ _) 1
      have hMd := hMr.below hdr
      obtain ⟨y, hy⟩ : ∃ y, y = nx + j := ⟨_, rfl⟩
      rw [← hy] at hMd hMr
      have hfr1 := hfr.out _ _ _ hMd (by omega)
      have hS : ∀ w', Block w' bx 37 #[.int .u32 af, .int .u32 ab, .int .u16 ag] → Block w' r 63 #[.pointer (some ⟨q, 0, none⟩), .bool kp, .int .i64 cols, lv, .int .i64 top, .int .i64 bot] → w'.cell? ⟨r, 0, none⟩ = some (.pointer (some ⟨q, 0, none⟩)) ∧ w'.cell? ⟨r, 2, none⟩ = some (.int .i64 cols) ∧ w'.cell? ⟨bx, 0, none⟩ = some (.int .u32 af) ∧ w'.cell? ⟨bx, 1, none⟩ = some (.int .u32 ab) ∧ w'.cell? ⟨bx, 2, none⟩ = some (.int .u16 ag) := fun w' h1 h2 => ⟨h2.cell 0 rfl, h2.cell 2 rfl, h1.cell 0 rfl, h1.cell 1 rfl, h1.cell 2 rfl⟩
      obtain ⟨a0, a1, a2, a3, a4⟩ := hS _ hbr hMr.blk
      have hqt := Block.typ hMr.st.blk
      have hrq : r ∉ [q] := fun hm => by
        obtain rfl : r = q := by simpa using hm
        exact absurd (Typ.inj hMr.typ hqt) (by decide)
      have hq9 : q < wr.heap.size := hMr.st.blk.lt
      have hblk := hMr.blk
      have hbrl := hbr.lt
      have hS2 : Hid (∀ w', Only [q] wr w' → w'.cell? ⟨r, 0, none⟩ = some (.pointer (some ⟨q, 0, none⟩)) ∧ w'.cell? ⟨r, 2, none⟩ = some (.int .i64 cols) ∧ w'.cell? ⟨bx, 0, none⟩ = some (.int .u32 af) ∧ w'.cell? ⟨bx, 1, none⟩ = some (.int .u32 ab) ∧ w'.cell? ⟨bx, 2, none⟩ = some (.int .u16 ag)) := Lib.hid (fun w' ho => hS _ (hbr.only ho (by simpa using hbq)) (hblk.only ho hrq))
      have hA := below_new wr (.cells #[.int .i64 0, .pointer none] 71)
      have hAd : Below wr.heap.size wr (wr.alloc (.cells #[.int .i64 0, .pointer none] 71)).drew := below_dr hA 1
      have hfr2 := hfr.out _ _ _ (hMr.below hAd) (by omega)
      have k9 := (Block.made wr 71 #[.int .i64 0, .pointer none]).only (Only.drewN [] _ 1) (by simp)
      have k9' : Block (wr.alloc (.cells #[.int .i64 0, .pointer none] 71)).drew wr.heap.size 71 #[.int .i64 0, .pointer none] := k9
      have o1 : Only [q] wr wr.drew := Only.of_below hdr _
      have o2 : Only [q] wr (wr.alloc (.cells #[.int .i64 0, .pointer none] 71)).drew := Only.of_below hAd _
      have hown' := Lib.hid hown
      have hfin : Hid (∀ W7 b9 dr, RX B W7 q (y + 1) most rv R → RefIn wr.heap.size W7 dr fc → Only [q] wr W7 → Block W7 b9 71 #[.int .i64 y, .pointer (some ⟨dr, 0, none⟩)] →
          RmX B W7 r q (y + 1) most kp cols rv lv top bot n xs ((F ++ [En.mk y 0 0 dr fc]) ++ L) R ∧ Only [q] w W7 ∧ Block W7 bx 37 #[.int .u32 af, .int .u32 ab, .int .u16 ag] ∧ W7.ownsRow w.heap.size 71 2 (.slice ao j c) j (fl rlineC F)) := Lib.hid (fun W7 b9 dr g1 g2 g3 g4 =>
        ⟨hMr.fresh g1 g2 hgd.out g3 (by rw [List.append_assoc, List.singleton_append]; exact List.perm_middle), hOr.trans g3, hbr.only g3 (by simpa using hbq), owns_only hown g3 (fun g hg => not_in1 (owns_typ hown g hg) hqt (by decide))⟩)
      have hlt9 : Hid (∀ g, Hits rv g → g < wr.heap.size) := Lib.hid (fun g hg => (hMr.st.hit g hg).2.1)
      replace hfr1 := Lib.hid hfr1
      replace hfr2 := Lib.hid hfr2
      replace hy := Lib.hid hy
      replace o1 := Lib.hid o1
      replace o2 := Lib.hid o2
      replace hvF := Lib.hid hvF
      have c1 := hS2.out _ o1.out
      have c2 := hS2.out _ o2.out
      clear hS hqt hblk hMr hbr hMd hdr hA hAd k9 hown hR hOr hM
      go_wp2
      go_region_held3 (fun w' => w'.cell? ⟨r, 0, none⟩ = some (.pointer (some ⟨q, 0, none⟩)) ∧ w'.cell? ⟨r, 2, none⟩ = some (.int .i64 cols) ∧ w'.cell? ⟨bx, 0, none⟩ = some (.int .u32 af) ∧ w'.cell? ⟨bx, 1, none⟩ = some (.int .u32 ab) ∧ w'.cell? ⟨bx, 2, none⟩ = some (.int .u16 ag))
        (first | exact ⟨a0, a1, a2, a3, a4⟩ | exact c1 | exact c2 | exact hz | exact hza.out _ | exact hzb.out)
        (first
          | (go_at_call 61; (with_reducible refine hfr1.out.mono ?_); rintro r' w6 ⟨dr, rfl, h16, hr6, ho6⟩; have hz := hS2.out _ (o1.out.trans ho6); have hza := Lib.hid (fun o => hS2.out _ ((o1.out.trans ho6).trans (Only.alloc _ w6 o))); have hzb := Lib.hid trivial)
          | (go_at_call 61; (with_reducible refine hfr2.out.mono ?_); rintro r' w6 ⟨dr, rfl, h16, hr6, ho6⟩; have hz := hS2.out _ (o2.out.trans ho6); have hza := Lib.hid (fun (o : Obj) => trivial); have kk := k9'.only ho6 (by simp; omega); have p0 := kk.cell 0 rfl; have p1 := kk.cell 1 rfl; have f0 := kk.free 0; have f1 := kk.free 1; have hzb := Lib.hid (hS2.out ((w6.setCell ⟨wr.heap.size, 0, none⟩ (.int .i64 y)).setCell ⟨wr.heap.size, 1, none⟩ (.pointer (some ⟨dr, 0, none⟩))) (((o2.out.trans ho6).then (Only.setCell w6 ⟨wr.heap.size, 0, none⟩ _) (fun k hk => .inr (by simp at hk; omega))).then (Only.setCell _ ⟨wr.heap.size, 1, none⟩ _) (fun k hk => .inr (by simp at hk; omega)))))
          )
      · have hbn := below_new w6 (.cells #[.int .i64 y, .pointer (some ⟨dr, 0, none⟩)] 71)
        have hp := hfin.out _ w6.heap.size dr (h16.below hbn) (RefIn.below hr6 hbn) ((o1.out.trans ho6).trans (Only.alloc _ w6 _)) (Block.made w6 _ _)
        have hpb := Block.made w6 71 #[.int .i64 y, .pointer (some ⟨dr, 0, none⟩)]
        generalize w6.alloc (.cells #[.int .i64 y, .pointer (some ⟨dr, 0, none⟩)] 71) = WW at hp hpb ⊢
        clear h16 hr6 ho6 hz hza hzb hbn hfin hS2 c1 c2 a0 a1 a2 a3 a4 hfr1 hfr2 o1 o2 k9' hown' hlt9
        generalize w6.heap.size = b9 at hpb ⊢
        obtain ⟨r1, r2, r3, r4⟩ := hp
        replace r1 := Lib.hid r1
        replace r2 := Lib.hid r2
        replace r3 := Lib.hid r3
        have hoA := Lib.hid (owns_only r4 (Only.alloc [] _ (.cells #[.int .i64 y, .pointer (some ⟨dr, 0, none⟩)] 71)) (by simp))
        have hsz := r2.out.size
        have l0 := hpb.cell 0 rfl
        have l1 := hpb.cell 1 rfl
        have hlit := Lib.hid (lit2 WW y dr)
        go_wp2_with (first
          | (with_reducible show wpList _ _ _ (⟨some 32, .call _, _, _, _, _⟩ :: _) _ _; go_must (refine wpList_appN elemRL rfl (.tmp 29) (.tmp 31) rfl w.heap.size (.slice ao j c) j (fl rlineC F) ⟨WW.heap.size, 0, none⟩ 1 1 [.int .i64 y, .pointer (some ⟨dr, 0, none⟩)] rfl rfl hoA.out rfl hlit.out (one_line y dr) (by simp; omega) (by omega) ?_); intro v8 w8 hown8 ho8 hat8; obtain ⟨a8, c8, rfl, _⟩ := owns_shape hown8))
        have hWA := below_new WW (.cells #[.int .i64 y, .pointer (some ⟨dr, 0, none⟩)] 71)
        have hlt8 := fun g (hg : (Value.slice ao j c).ownBlock = some g) => (World.ownsRow.lt hoA.out g hg).1
        have hty8 := fun g (hg : (Value.slice ao j c).ownBlock = some g) => owns_typ hoA.out g hg
        have hM8 := (r1.out.below hWA).aside ho8 (N := w.heap.size) (fun k hk => ⟨hlt8 k (by simpa using hk), hty8 k (by simpa using hk)⟩) hlN hhN
        have hO8 := ((r2.out.trans (Only.of_below hWA _)).then ho8 (fun k hk => .inr (hlt8 k (by simpa using hk))))
        have hB8 := (r3.out.only (Only.of_below hWA []) (by simp)).only ho8 (fun hm => absurd (Typ.inj (Block.typ (r3.out.only (Only.of_below hWA []) (by simp))) (hty8 bx (by simpa using hm))) (by decide))
        have hres := Lib.hid (⟨F ++ [En.mk y 0 0 dr fc], by simp [hFl], by rw [fl_app, fl_one]; exact hown8, by rw [show vw (F ++ [En.mk y 0 0 dr fc]) = vw F ++ [((y : Int), fc)] by simp [vw], hvF.out, hfl.out, hy.out, Int.natCast_add], by rw [show nx + (j + 1) = y + 1 by have := hy.out; omega]; exact hM8, hO8, hB8⟩ : ∃ F', F'.length = j + 1 ∧ w8.ownsRow w.heap.size 71 2 (.slice a8 (j + 1) c8) (j + 1) (fl rlineC F') ∧ vw F' = freshS nx cols (j + 1) ⟨af, ab, ag⟩ ∧ RmX B w8 r q (nx + (j + 1)) most kp cols rv lv top bot n xs (F' ++ L) R ∧ Only [q] w w8 ∧ Block w8 bx 37 #[.int .u32 af, .int .u32 ab, .int .u16 ag])
        clear hown8 ho8 hat8 hM8 hO8 hB8 hWA hlt8 hty8 l0 l1 hpb r4 hoA
        go_roundw
        case rel => exact ⟨j + 1, by omega, by go_num, hres, _, _, rfl⟩
        case measure => simp [intOf]; omega
      · have ho67 : Only [wr.heap.size] w6 ((w6.setCell ⟨wr.heap.size, 0, none⟩ (.int .i64 y)).setCell ⟨wr.heap.size, 1, none⟩ (.pointer (some ⟨dr, 0, none⟩))) := (Only.setCell w6 ⟨wr.heap.size, 0, none⟩ _).trans (Only.setCell _ ⟨wr.heap.size, 1, none⟩ _)
        have ht67 : ∀ k ∈ [wr.heap.size], Typ w6 k 71 := fun k hk => by
          obtain rfl : k = wr.heap.size := by simpa using hk
          exact Block.typ kk
        have h17 : RX B _ q (y + 1) most rv R := h16.only ho67 (by simp; omega) (fun g hg hm => by have := hlt9.out g hg; simp at hm; omega) (fun e he => RefIn.other (h16.ref e he) ho67 ht67 (by decide) (by decide) (by decide))
        have hpb := (kk.set 0 (.int .i64 y)).set 1 (.pointer (some ⟨dr, 0, none⟩))
        have hp := hfin.out _ wr.heap.size dr h17 (RefIn.lower (RefIn.other hr6 ho67 ht67 (by decide) (by decide) (by decide)) (by simp)) ((o2.out.trans ho6).then ho67 (fun k hk => .inr (by simp at hk; omega))) hpb
        generalize ((w6.setCell ⟨wr.heap.size, 0, none⟩ (.int .i64 y)).setCell ⟨wr.heap.size, 1, none⟩ (.pointer (some ⟨dr, 0, none⟩))) = WW at hp hpb ⊢
        clear h16 hr6 ho6 hz hza hzb hfin hS2 c1 c2 a0 a1 a2 a3 a4 hfr1 hfr2 o1 o2 k9' hown' hlt9 ho67 ht67 h17 kk p0 p1 f0 f1
        generalize wr.heap.size = b9 at *
        obtain ⟨r1, r2, r3, r4⟩ := hp
        replace r1 := Lib.hid r1
        replace r2 := Lib.hid r2
        replace r3 := Lib.hid r3
        have hoA := Lib.hid (owns_only r4 (Only.alloc [] _ (.cells #[.int .i64 y, .pointer (some ⟨dr, 0, none⟩)] 71)) (by simp))
        have hsz := r2.out.size
        have l0 := hpb.cell 0 rfl
        have l1 := hpb.cell 1 rfl
        have hlit := Lib.hid (lit2 WW y dr)
        go_wp2_with (first
          | (with_reducible show wpList _ _ _ (⟨some 32, .call _, _, _, _, _⟩ :: _) _ _; go_must (refine wpList_appN elemRL rfl (.tmp 29) (.tmp 31) rfl w.heap.size (.slice ao j c) j (fl rlineC F) ⟨WW.heap.size, 0, none⟩ 1 1 [.int .i64 y, .pointer (some ⟨dr, 0, none⟩)] rfl rfl hoA.out rfl hlit.out (one_line y dr) (by simp; omega) (by omega) ?_); intro v8 w8 hown8 ho8 hat8; obtain ⟨a8, c8, rfl, _⟩ := owns_shape hown8))
        have hWA := below_new WW (.cells #[.int .i64 y, .pointer (some ⟨dr, 0, none⟩)] 71)
        have hlt8 := fun g (hg : (Value.slice ao j c).ownBlock = some g) => (World.ownsRow.lt hoA.out g hg).1
        have hty8 := fun g (hg : (Value.slice ao j c).ownBlock = some g) => owns_typ hoA.out g hg
        have hM8 := (r1.out.below hWA).aside ho8 (N := w.heap.size) (fun k hk => ⟨hlt8 k (by simpa using hk), hty8 k (by simpa using hk)⟩) hlN hhN
        have hO8 := ((r2.out.trans (Only.of_below hWA _)).then ho8 (fun k hk => .inr (hlt8 k (by simpa using hk))))
        have hB8 := (r3.out.only (Only.of_below hWA []) (by simp)).only ho8 (fun hm => absurd (Typ.inj (Block.typ (r3.out.only (Only.of_below hWA []) (by simp))) (hty8 bx (by simpa using hm))) (by decide))
        have hres := Lib.hid (⟨F ++ [En.mk y 0 0 dr fc], by simp [hFl], by rw [fl_app, fl_one]; exact hown8, by rw [show vw (F ++ [En.mk y 0 0 dr fc]) = vw F ++ [((y : Int), fc)] by simp [vw], hvF.out, hfl.out, hy.out, Int.natCast_add], by rw [show nx + (j + 1) = y + 1 by have := hy.out; omega]; exact hM8, hO8, hB8⟩ : ∃ F', F'.length = j + 1 ∧ w8.ownsRow w.heap.size 71 2 (.slice a8 (j + 1) c8) (j + 1) (fl rlineC F') ∧ vw F' = freshS nx cols (j + 1) ⟨af, ab, ag⟩ ∧ RmX B w8 r q (nx + (j + 1)) most kp cols rv lv top bot n xs (F' ++ L) R ∧ Only [q] w w8 ∧ Block w8 bx 37 #[.int .u32 af, .int .u32 ab, .int .u16 ag])
        clear hown8 ho8 hat8 hM8 hO8 hB8 hWA hlt8 hty8 l0 l1 hpb r4 hoA
        go_roundw
        case rel => exact ⟨j + 1, by omega, by go_num, hres, _, _, rfl⟩
        case measure => simp [intOf]; omega
    · obtain rfl : j = m := by omega
      have hres := Lib.hid (⟨_, F, rfl, hown, hvF, hMr, hOr⟩ : RFresh B w r q nx most kp cols rv lv top bot n xs L R j ⟨af, ab, ag⟩ (.returned (.slice ao j c)) wr)
      clear hown hvF hMr hOr hbr hR
      go_wp2
      go_ret
      exact hres.out
end
end Go.Proofs.YtaoegfdaemmogaaGreat.Scn
namespace Go.Proofs.YtaoegfdaemmogaaGreat.Scn
open Go Go.RowKit Go.Proofs.YtaoegfdaemmogaaGreat.Com Go.Proofs.YtaoegfdaemmogaaGreat.Rw Go.Proofs.YtaoegfdaemmogaaGreat.Lns
/-- On the way: the lines that are there, and those that were put into out. -/
structure UpSt (B : Nat) (w wr : World) (bx : Nat) (a : At) (r q nx most : Nat) (kp : Bool) (cols : Nat) (rv lv : Value) (top bot n : Nat) (xs : List Value) (L R : List En) (v : Value) (O : List En) : Prop where
  m : RmX B wr r q nx most kp cols rv lv top bot n xs L R
  own : wr.ownsRow w.heap.size 71 2 v O.length (fl rlineC O)
  ap : ∀ g, v.ownBlock = some g → ¬ Hits rv g
  lo : ∀ g, lv.ownBlock = some g → g < w.heap.size
  only : Only [q] w wr
  box : Block wr bx 37 #[.int .u32 a.f, .int .u32 a.b, .int .u16 a.g]
  bxn : bx ≠ q
  hB : B ≤ w.heap.size
  q0 : Typ w q 61
section
variable {B : Nat} {w wr w1 : World} {bx : Nat} {a : At} {r q nx most cols top bot n : Nat} {kp : Bool} {rv lv v : Value} {xs : List Value} {L L' R O : List En}
theorem owns_lower {w : World} {B B' : Nat} {e : TypeId} {s n : Nat} {v : Value} {xs : List Value} (h : w.ownsRow B e s v n xs) (hB : B' ≤ B) : w.ownsRow B' e s v n xs := by
  refine ⟨h.1, ?_⟩
  rcases h.2 with h2 | ⟨g, cap, cur, rfl, hg, r⟩
  · exact .inl h2
  · exact .inr ⟨g, cap, cur, rfl, Nat.le_trans hB hg, r⟩
theorem UpSt.below (h : UpSt B w wr bx a r q nx most kp cols rv lv top bot n xs L R v O) (hb : Below wr.heap.size wr w1) : UpSt B w w1 bx a r q nx most kp cols rv lv top bot n xs L R v O :=
  ⟨h.m.below hb, owns_only h.own (Only.of_below hb []) (by simp), h.ap, h.lo, h.only.trans (Only.of_below hb _), h.box.only (Only.of_below hb []) (by simp), h.bxn, h.hB, h.q0⟩
/-- Lines are put behind out. -/
theorem UpSt.app (h : UpSt B w wr bx a r q nx most kp cols rv lv top bot n xs L R v O) {v' : Value} {k : Nat} {M : List En} (h1 : w1.ownsRow w.heap.size 71 2 v' (O.length + k) (fl rlineC O ++ fl rlineC M)) (hk : k = M.length) (ho : Only v.ownBlock.toList wr w1) (ha : v'.ownBlock = v.ownBlock ∨ v'.ownBlock = some wr.heap.size) : UpSt B w w1 bx a r q nx most kp cols rv lv top bot n xs L R v' (O ++ M) := by
  have hty := fun g (hg : v.ownBlock = some g) => owns_typ h.own g hg
  have hlt := fun g (hg : v.ownBlock = some g) => (World.ownsRow.lt h.own g hg)
  have hK : ∀ k ∈ v.ownBlock.toList, Typ wr k 71 := fun k hk => hty k (by simpa using hk)
  have hR : ∀ {d l}, RefIn B wr d l → RefIn B w1 d l := fun hr => RefIn.other hr ho hK (by decide) (by decide) (by decide)
  refine ⟨⟨h.m.blk.only ho (fun hm => absurd (Typ.inj h.m.typ (hK _ hm)) (by decide)), owns_only h.m.own ho (fun g hg hm => by have := h.lo g hg; have := (hlt g (by simpa using hm)).1; omega),
    h.m.st.only ho (fun hm => absurd (Typ.inj (Block.typ h.m.st.blk) (hK _ hm)) (by decide)) (fun g hg hm => h.ap g (by simpa using hm) hg) (fun e he => hR (h.m.st.ref e he)), h.m.apart, fun e he => ⟨hR (h.m.refs e he).1, (h.m.refs e he).2⟩, h.m.dd, h.m.lo, h.m.small⟩, ?_, ?_, h.lo, h.only.then ho (fun k hk => .inr (hlt k (by simpa using hk)).1), h.box.only ho (fun hm => absurd (Typ.inj (Block.typ h.box) (hK _ hm)) (by decide)), h.bxn, h.hB, h.q0⟩
  · rw [List.length_append, fl_app, ← hk]
    exact h1
  · intro g hg hh
    rcases ha with ha | ha
    · exact h.ap g (ha ▸ hg) hh
    · have := (h.m.st.hit g hh).2.1
      rw [ha] at hg
      cases hg
      omega
/-- The store turns, and the lines that are there. -/
theorem UpSt.turn (h : UpSt B w wr bx a r q nx most kp cols rv lv top bot n xs L R v O) {nx' : Nat} {rv' : Value} {L' R' : List En} (h1 : RmX B w1 r q nx' most kp cols rv' lv top bot n xs L' R') (ho : Only [q] wr w1) (ha : rv' = rv ∨ ∀ g, Hits rv' g → wr.heap.size ≤ g) : UpSt B w w1 bx a r q nx' most kp cols rv' lv top bot n xs L' R' v O := by
  have hq := Block.typ h.m.st.blk
  refine ⟨h1, owns_only h.own ho (fun g hg => not_in1 (owns_typ h.own g hg) hq (by decide)), fun g hg hh => ?_, h.lo, h.only.trans ho, h.box.only ho (by simpa using h.bxn), h.bxn, h.hB, h.q0⟩
  rcases ha with rfl | ha
  · exact h.ap g hg hh
  · have := ha g hh
    have := (World.ownsRow.lt h.own g hg).2
    omega
/-- What is told in the end. -/
def RDid (B : Nat) (w : World) (r q nx most : Nat) (kp : Bool) (cols top bot : Nat) (vL vR : List Ln) (w' : World) : Prop :=
  ∃ rv' lv' L' R', RmX B w' r q nx most kp cols rv' lv' top bot L'.length (fl rlineC L') L' R' ∧ vw L' = vL ∧ vw R' = vR ∧ Fr B RT w w'
theorem UpSt.done (h : UpSt B w wr bx a r q nx most kp cols rv lv top bot n xs L R v O) (hp : ∃ L0, List.Perm O L0 ∧ L0.Sublist L) (hn : O.length ≤ 1000) {vL vR : List Ln} (hL : vw O = vL) (hR : vw R = vR) :
    RDid B w r q nx most kp cols top bot vL vR (wr.setCell ⟨r, 3, none⟩ v) := by
  have ho : Only [r] wr (wr.setCell ⟨r, 3, none⟩ v) := Only.setCell wr ⟨r, 3, none⟩ _
  have hr : ∀ k ∈ [r], Typ wr k 63 := fun k hk => by
    obtain rfl : k = r := by simpa using hk
    exact h.m.typ
  have hrf : ∀ {d l}, RefIn B wr d l → RefIn B (wr.setCell ⟨r, 3, none⟩ v) d l := fun hh => RefIn.other hh ho hr (by decide) (by decide) (by decide)
  obtain ⟨L0, hp, hs⟩ := hp
  refine ⟨rv, v, O, R, ⟨h.m.blk.set 3 v, ?_, h.m.st.other ho hr (by decide) (by decide) (by decide) (by decide) (by decide), h.ap, fun e he => ?_, ?_, h.m.lo, hn⟩, hL, hR, ?_⟩
  · have h1 := owns_only h.own ho (fun g hg => not_in1 (owns_typ h.own g hg) h.m.typ (by decide))
    exact owns_lower h1 h.hB
  · have := h.m.refs e (hs.subset (hp.subset he))
    exact ⟨hrf this.1, this.2⟩
  · rw [((hp.append_right R).map En.dr).nodup_iff]
    exact h.m.dd.sublist ((List.Sublist.append hs (List.Sublist.refl R)).map _)
  · refine (Fr.of_only h.only fun k hk _ => ?_).trans (h.m.rfr ho)
    obtain rfl : k = q := by simpa using hk
    exact ⟨h.m.st.lo, _, by simp [RT], h.q0⟩
/-- A piece of the lines that are there, as append is told of it. -/
theorem UpSt.piece (h : UpSt B w wr bx a r q nx most kp cols rv lv top bot n (fl rlineC L) L' R v O) {g cap : Nat} (hlv : lv = .slice (some ⟨g, 0, none⟩) n cap) (lo hi : Nat) (h1 : lo ≤ hi) (h2 : hi ≤ L.length) {ad : Option Addr} (had : (if cap = lo then (some ⟨g, 0, none⟩ : Option Addr) else some ⟨g, lo * 2, none⟩) = ad) :
    (fl rlineC ((L.drop lo).take (hi - lo))).length = (hi - lo) * 2 ∧ (ad = none → hi - lo = 0 ∧ cap - lo = 0) ∧ ∀ d, ad = some d → ∀ j u, (fl rlineC ((L.drop lo).take (hi - lo)))[j]? = some u → wr.cell? (d.add j) = some u := by
  have hl : (fl rlineC ((L.drop lo).take (hi - lo))).length = (hi - lo) * 2 := by rw [fl_length rlineC_length, List.length_take, List.length_drop]; omega
  have hne : ad ≠ none := by rw [← had]; split <;> simp
  refine ⟨hl, fun e => absurd e hne, fun d hd j u hj => ?_⟩
  have hjl := (List.getElem?_eq_some_iff.1 hj).1
  have hn := h.m.own.1
  rw [fl_length rlineC_length] at hn
  obtain ⟨g', cap', tail, e, hg, hb, hc, hm⟩ := own_block h.m.own (by omega)
  rw [hlv] at e
  simp only [Value.slice.injEq, Option.some.injEq, Addr.mk.injEq] at e
  obtain ⟨⟨rfl, _⟩, _, rfl⟩ := e
  rw [if_neg (by omega)] at had
  rw [hd] at had
  obtain rfl := Option.some.inj had
  rw [Addr.add_lit]
  refine hb.cell _ ?_
  rw [← fl_take rlineC_length _ _ (by rw [List.length_drop]; omega), ← fl_drop rlineC_length _ _ (by omega), List.getElem?_take_of_lt (by omega), List.getElem?_drop] at hj
  have hlt := (List.getElem?_eq_some_iff.1 hj).1
  rw [List.getElem?_toArray, List.getElem?_append_left hlt]
  exact hj
/-- The pure form of what is built. -/
theorem built {α : Type} (A F : List α) {f k b : Nat} (h : f + k ≤ b) (hb : b ≤ A.length) : ((A.drop 0).take (f - 0) ++ (A.drop (f + k)).take (b - (f + k))) ++ F ++ (A.drop b).take (A.length - b) = insA (outA A f k) (b - k) F := by
  unfold insA outA
  rw [List.drop_zero, Nat.sub_zero, List.take_of_length_le (l := A.drop b) (by rw [List.length_drop]; omega), List.take_append, List.length_take, Nat.min_eq_left (by omega), List.take_of_length_le (l := A.take f) (by rw [List.length_take]; omega), show b - k - f = b - (f + k) by omega, List.drop_append, List.length_take, Nat.min_eq_left (by omega), (List.drop_eq_nil_of_le (by rw [List.length_take]; omega) : (A.take f).drop (b - k) = []), List.nil_append, List.drop_drop, show f + k + (b - k - f) = b by omega]
  simp
theorem built2 {α : Type} (A F : List α) {f k b : Nat} (h : f + k ≤ b) (hb : b ≤ A.length) : ((A.drop 0).take (f - 0) ++ F) ++ (A.drop f).take (b - k - f) ++ (A.drop b).take (A.length - b) = insA (outA A (b - k) k) f F := by
  unfold insA outA
  rw [List.drop_zero, Nat.sub_zero, List.take_of_length_le (l := A.drop b) (by rw [List.length_drop]; omega), List.take_append_of_le_length (by rw [List.length_take]; omega), List.take_take, Nat.min_eq_left (by omega), List.drop_append_of_le_length (by rw [List.length_take]; omega), show b - k + k = b by omega, List.drop_take]
  simp
end
end Go.Proofs.YtaoegfdaemmogaaGreat.Scn
