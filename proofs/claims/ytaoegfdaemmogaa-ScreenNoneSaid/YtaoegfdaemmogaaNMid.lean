/-
  screen: memory: the lines that are there; a line is pushed; a fresh one comes.
-/
import Derived.Test.YtaoegfdaemmogaaNRoom
namespace Go.Proofs.Ytaoegfdaemmogaa.Scn
open Go Go.RowKit Go.Proofs.Ytaoegfdaemmogaa.Com Go.Proofs.Ytaoegfdaemmogaa.Rw Go.Proofs.Ytaoegfdaemmogaa.Lns

/-- A screen whose lines' cells are xs; L are rows that are there, R the scrollback's. -/
structure MidX (B : Nat) (w : World) (x s nx most : Nat) (kp : Bool) (cols : Nat) (sv lv : Value) (top bot n : Nat) (xs : List Value) (L R : List En) : Prop where
  ln : LnX B w x s nx most kp cols sv lv top bot n xs R
  rows : ∀ e ∈ L, RowG B w e
  dd : ((L ++ R).map En.d).Nodup
  gg : ((L ++ R).map En.g).Nodup
theorem rowG_lt {B : Nat} {w : World} {e : En} (h : RowG B w e) : e.d < w.heap.size ∧ e.g < w.heap.size := by
  obtain ⟨_, _, _, n, cap, tail, hx⟩ := h
  exact ⟨hx.ptr.lt, hx.row.lt⟩
theorem nodup_new {α : Type} (f : α → Nat) {l m : List α} {N : Nat} (h : (l.map f).Nodup) (hl : ∀ e ∈ l, f e < N) {x : α} (hx : N ≤ f x) (hp : List.Perm m (x :: l)) : (m.map f).Nodup := by
  rw [(hp.map f).nodup_iff, List.map_cons, List.nodup_cons]
  refine ⟨fun hm => ?_, h⟩
  obtain ⟨e, he, e1⟩ := List.mem_map.1 hm
  have := hl e he
  omega
section
variable {B : Nat} {w w' : World} {x s nx most cols top bot n : Nat} {kp : Bool} {sv lv : Value} {xs : List Value} {L R : List En}
theorem MidX.below (h : MidX B w x s nx most kp cols sv lv top bot n xs L R) (hb : Below w.heap.size w w') : MidX B w' x s nx most kp cols sv lv top bot n xs L R :=
  ⟨h.ln.below hb, fun e he => (h.rows e he).below hb, h.dd, h.gg⟩
theorem MidX.fr {B' : Nat} {ts : List TypeId} (h : MidX B w x s nx most kp cols sv lv top bot n xs L R) (hf : Fr B' ts w w') (hn : NoPT ts) : MidX B w' x s nx most kp cols sv lv top bot n xs L R :=
  ⟨h.ln.fr hf hn, fun e he => rowG_fr (h.rows e he) hf hn, h.dd, h.gg⟩
theorem MidX.sub (h : MidX B w x s nx most kp cols sv lv top bot n xs L R) {L' : List En} (hs : L'.Sublist L) : MidX B w x s nx most kp cols sv lv top bot n xs L' R :=
  ⟨h.ln, fun e he => h.rows e (hs.subset he), h.dd.sublist ((List.Sublist.append hs (List.Sublist.refl R)).map _), h.gg.sublist ((List.Sublist.append hs (List.Sublist.refl R)).map _)⟩
/-- The rows stay where the screen's block and its lines turn. -/
theorem MidX.keepRows (h : MidX B w x s nx most kp cols sv lv top bot n xs L R) (ho : Only (x :: lv.ownBlock.toList) w w') : ∀ e ∈ L, RowG B w' e := by
  have hno : ∀ {k : Nat} {t : TypeId}, Typ w k t → 60 ≠ t → 92 ≠ t → k ∉ x :: lv.ownBlock.toList := fun {k t} ht n1 n2 hm => by
    rcases List.mem_cons.1 hm with rfl | hm
    · exact n1 (Typ.inj h.ln.typ ht)
    · exact n2 (Typ.inj (h.ln.ltyp k (by simpa using hm)).2.2 ht)
  exact fun e he => (h.rows e he).only ho (hno (h.rows e he).typ.1 (by decide) (by decide)) (hno (h.rows e he).typ.2 (by decide) (by decide))
theorem MidX.ln' (h : MidX B w x s nx most kp cols sv lv top bot n xs L R) {lv' : Value} {n' : Nat} {xs' : List Value} {top' bot' cols' : Nat} (h1 : LnX B w' x s nx most kp cols' sv lv' top' bot' n' xs' R) (ho : Only (x :: lv.ownBlock.toList) w w') : MidX B w' x s nx most kp cols' sv lv' top' bot' n' xs' L R :=
  ⟨h1, h.keepRows ho, h.dd, h.gg⟩
theorem MidX.lts (h : MidX B w x s nx most kp cols sv lv top bot n xs L R) : ∀ e ∈ L ++ R, e.d < w.heap.size ∧ e.g < w.heap.size := fun e he => by
  rcases List.mem_append.1 he with he | he
  · exact rowG_lt (h.rows e he)
  · exact rowG_lt (h.ln.st.2 e he)
/-- The store turns: the screen's block and its lines stay. -/
theorem LnX.stored (h : LnX B w x s nx most kp cols sv lv top bot n xs R) {nx' : Nat} {sv' : Value} {R' : List En} {K : List Nat} (ho : Only K w w') (hx : x ∉ K) (hl : ∀ g, lv.ownBlock = some g → g ∉ K) (h1 : SX B w' s nx' most sv' R') (ha : sv'.ownBlock = sv.ownBlock ∨ ∃ g, sv'.ownBlock = some g ∧ w.heap.size ≤ g) : LnX B w' x s nx' most kp cols sv' lv top bot n xs R' := by
  refine ⟨h.blk.only ho hx, owns_only h.own ho hl, h1, fun g hg hs => ?_, h.lo, h.small⟩
  rcases ha with ha | ⟨g', ha, hge⟩
  · exact h.apart g hg (ha ▸ hs)
  · have := (h.ltyp g hg).2.1
    rw [ha] at hs
    cases hs
    omega
theorem MidX.push (h : MidX B w x s nx most kp cols sv lv top bot n xs L R) {id : Int} {dr : Nat} {l : List Cel} {e : Ending} (hp : PushDone B w s nx most sv R id dr l e w') :
    ∃ sv' R', MidX B w' x s nx most kp cols sv' lv top bot n xs L R' ∧ vw R' = pushL most (vw R) (id, l) ∧ Fr B PT w w' := by
  obtain ⟨sv', d, g, _, h1, hd, hg, ho, ha⟩ := hp
  have hno : ∀ {k : Nat} {t : TypeId}, Typ w k t → 78 ≠ t → 92 ≠ t → k ∉ s :: sv.ownBlock.toList := fun {k t} ht n1 n2 hm => by
    rcases List.mem_cons.1 hm with rfl | hm
    · exact n1 (Typ.inj h.ln.st.typ ht)
    · exact n2 (Typ.inj (h.ln.st.ptyp k (by simpa using hm)).2.2 ht)
  have hl : ∀ g, lv.ownBlock = some g → g ∉ s :: sv.ownBlock.toList := fun g hg hm => by
    rcases List.mem_cons.1 hm with rfl | hm
    · exact absurd (Typ.inj h.ln.st.typ (h.ln.ltyp g hg).2.2) (by decide)
    · exact h.ln.apart g hg (by simpa using hm)
  have hsub : ∀ (f : En → Nat), ((L ++ R).map f).Nodup → w.heap.size ≤ f (En.mk id d g dr l) → (∀ e ∈ L ++ R, f e < w.heap.size) → ((L ++ pushL most R (En.mk id d g dr l)).map f).Nodup := fun f hn hf hlt => by
    have h2 : ((L ++ (R ++ [(En.mk id d g dr l)])).map f).Nodup := nodup_new f hn hlt hf (by rw [← List.append_assoc]; exact List.perm_append_singleton _ _)
    refine h2.sublist ((List.Sublist.append (List.Sublist.refl L) ?_).map f)
    unfold pushL
    split
    · exact List.drop_sublist _ _
    · exact List.Sublist.refl _
  refine ⟨sv', pushL most R (En.mk id d g dr l), ⟨h.ln.stored ho (hno h.ln.typ (by decide) (by decide)) hl h1 ha, fun e he => (h.rows e he).only ho (hno (h.rows e he).typ.1 (by decide) (by decide)) (hno (h.rows e he).typ.2 (by decide) (by decide)), hsub En.d h.dd hd (fun e he => (h.lts e he).1), hsub En.g h.gg hg (fun e he => (h.lts e he).2)⟩, ?_, ?_⟩
  · unfold vw; exact pushL_map _ _ _ _
  · refine Fr.of_only ho fun k hk _ => ?_
    rcases List.mem_cons.1 hk with rfl | hm
    · refine ⟨?_, _, by simp [PT], h.ln.st.typ⟩
      obtain ⟨⟨o, P, h0, _⟩, _⟩ := h.ln.st
      exact h0.lo
    · have := h.ln.st.ptyp k (by simpa using hm)
      exact ⟨this.1, _, by simp [PT], this.2.2⟩
/-- Behind Fresh the line is told, and not yet the screen's. -/
theorem MidX.fresh (h : MidX B w x s nx most kp cols sv lv top bot n xs L R) {d g : Nat} {l : List Cel} (h1 : SX B w' s (nx + 1) most sv R) (hr : RowG w.heap.size w' ⟨nx, d, g, 0, l⟩) (ho : Only [s] w w') {L' : List En} (hp : List.Perm L' (⟨nx, d, g, 0, l⟩ :: L)) :
    MidX B w' x s (nx + 1) most kp cols sv lv top bot n xs L' R ∧ Fr B PT w w' := by
  have hno : ∀ {k : Nat} {t : TypeId}, Typ w k t → 78 ≠ t → k ∉ [s] := fun {k t} ht n1 hm => by
    obtain rfl : k = s := by simpa using hm
    exact n1 (Typ.inj h.ln.st.typ ht)
  have hBs : B ≤ s := by
    obtain ⟨⟨o, P, h0, _⟩, _⟩ := h.ln.st
    exact h0.lo
  have hBw : B ≤ w.heap.size := Nat.le_trans h.ln.lo (Nat.le_of_lt h.ln.blk.lt)
  obtain ⟨g1, g2, g3, g4⟩ := hr
  have hpp : List.Perm (L' ++ R) (⟨nx, d, g, 0, l⟩ :: (L ++ R)) := hp.append_right R
  refine ⟨⟨h.ln.stored ho (hno h.ln.typ (by decide)) (fun g hg => hno (h.ln.ltyp g hg).2.2 (by decide)) h1 (.inl rfl), fun e he => ?_, nodup_new En.d h.dd (fun e he => (h.lts e he).1) g2 hpp, nodup_new En.g h.gg (fun e he => (h.lts e he).2) g3 hpp⟩, ?_⟩
  · rcases List.mem_cons.1 (hp.subset he) with rfl | he
    · exact ⟨g1, Nat.le_trans hBw g2, Nat.le_trans hBw g3, g4⟩
    · exact (h.rows e he).only ho (hno (h.rows e he).typ.1 (by decide)) (hno (h.rows e he).typ.2 (by decide))
  · refine Fr.of_only ho fun k hk _ => ?_
    obtain rfl : k = s := by simpa using hk
    exact ⟨hBs, _, by simp [PT], h.ln.st.typ⟩
theorem fl_pair (A C : List En) (J : List Value) (e : En) (u v : Value) {i : Nat} (hi : A.length = i) : ((fl lineC A ++ (u :: v :: J ++ fl lineC C)).set (i * 2) (.int .i64 e.id)).set (i * 2 + 1) (.pointer (some ⟨e.d, 0, none⟩)) = fl lineC (A ++ [e]) ++ (J ++ fl lineC C) := by
  have hl : (fl lineC A).length = i * 2 := by rw [fl_length lineC_length, hi]
  rw [List.set_append_right _ _ (by omega), hl, Nat.sub_self, List.cons_append, List.set_cons_zero, List.set_append_right _ _ (by omega), hl, show i * 2 + 1 - i * 2 = 1 by omega, List.cons_append, List.set_cons_succ, List.set_cons_zero, fl_app, fl_one]
  simp [lineC]
/-- The told line takes its place. -/
theorem MidX.place {g c : Nat} {A C : List En} {J : List Value} {u v : Value} {i : Nat} (h : MidX B w x s nx most kp cols sv (.slice (some ⟨g, 0, none⟩) n c) top bot n (fl lineC A ++ (u :: v :: J ++ fl lineC C)) L R) (hi : A.length = i) (e : En) :
    MidX B ((w.setCell ⟨g, i * 2, none⟩ (.int .i64 e.id)).setCell ⟨g, i * 2 + 1, none⟩ (.pointer (some ⟨e.d, 0, none⟩))) x s nx most kp cols sv (.slice (some ⟨g, 0, none⟩) n c) top bot n (fl lineC (A ++ [e]) ++ (J ++ fl lineC C)) L R ∧
    Only [g] w ((w.setCell ⟨g, i * 2, none⟩ (.int .i64 e.id)).setCell ⟨g, i * 2 + 1, none⟩ (.pointer (some ⟨e.d, 0, none⟩))) := by
  obtain ⟨o1, _⟩ := World.ownsRow.stored h.ln.own (i * 2) (.int .i64 e.id)
  obtain ⟨o2, _⟩ := World.ownsRow.stored o1 (i * 2 + 1) (.pointer (some ⟨e.d, 0, none⟩))
  rw [fl_pair A C J e u v hi] at o2
  have ho : Only [g] w ((w.setCell ⟨g, i * 2, none⟩ (.int .i64 e.id)).setCell ⟨g, i * 2 + 1, none⟩ (.pointer (some ⟨e.d, 0, none⟩))) := (Only.setCell w ⟨g, i * 2, none⟩ _).trans (Only.setCell _ ⟨g, i * 2 + 1, none⟩ _)
  have h1 := h.ln.turned o2 (by simpa [Value.ownBlock] using ho)
  exact ⟨h.ln' h1 (ho.mono (by simp [Value.ownBlock])), ho⟩
end
end Go.Proofs.Ytaoegfdaemmogaa.Scn
