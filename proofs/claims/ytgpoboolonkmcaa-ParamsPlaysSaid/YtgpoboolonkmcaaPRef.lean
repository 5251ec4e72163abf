/-
  The reference's list: its block, the row that it owns; its calls.
-/
import Derived.Test.YtgpoboolonkmcaaPWrite
import Derived.StillTailTactics
import Derived.Deep.RegionLaw
namespace Go.Proofs.Ytgpoboolonkmcaa.Par
open Go Go.RowKit Go.Proofs.Ytgpoboolonkmcaa.Com

/-- The reference's list at r: its numbers are a row v of its own (from B on). -/
structure RefIn (w : World) (B r : Nat) (v : Value) (L : Lst) : Prop where
  blk : Block w r 28 #[v, .bool L.over]
  own : Own w B 3 .i64 v L.n
  low : B ≤ r
theorem RefIn.c0 {w : World} {B r : Nat} {v : Value} {L : Lst} (h : RefIn w B r v L) : w.cell? ⟨r, 0, none⟩ = some v := Block.cell h.blk 0 rfl
theorem RefIn.c1 {w : World} {B r : Nat} {v : Value} {L : Lst} (h : RefIn w B r v L) : w.cell? ⟨r, 1, none⟩ = some (.bool L.over) := Block.cell h.blk 1 rfl
theorem RefIn.free {w : World} {B r : Nat} {v : Value} {L : Lst} (h : RefIn w B r v L) (i : Nat) : w.frozen? ⟨r, i, none⟩ = false := Block.free h.blk i
theorem RefIn.apart {w : World} {B r : Nat} {v : Value} {L : Lst} (h : RefIn w B r v L) : v.ownBlock ≠ some r := h.own.apart h.blk (by decide)

/-- What a method of the reference leaves. -/
structure RefStep (w : World) (B r : Nat) (v : Value) (L : Lst) (v' : Value) (w' : World) : Prop where
  ref : RefIn w' B r v' L
  only : Only (r :: v.ownBlock.toList) w w'
  lies : v'.ownBlock = v.ownBlock ∨ ∀ g, v'.ownBlock = some g → w.heap.size ≤ g
def RefTurned (w : World) (B r : Nat) (v : Value) (L : Lst) (e : Ending) (w' : World) : Prop := (∃ x, e = .returned x) ∧ ∃ v', RefStep w B r v L v' w'
theorem RefStep.refl {w : World} {B r : Nat} {v : Value} {L : Lst} (h : RefIn w B r v L) : RefStep w B r v L v w := ⟨h, Only.refl _ _, .inl rfl⟩
theorem RefStep.trans {w w1 w2 : World} {B r : Nat} {v v1 v2 : Value} {L1 L2 : Lst} (h : RefStep w B r v L1 v1 w1) (g : RefStep w1 B r v1 L2 v2 w2) : RefStep w B r v L2 v2 w2 := by
  refine ⟨g.ref, h.only.then g.only (fun k hk => ?_), ?_⟩
  · rcases List.mem_cons.1 hk with rfl | hk
    · exact .inl (List.mem_cons_self ..)
    · rcases h.lies with e | e
      · left; rw [← e]; exact List.mem_cons_of_mem _ hk
      · right; exact e k (by simpa using hk)
  · rcases g.lies with e | e
    · rw [e]; exact h.lies
    · right; intro x hx; have := e x hx; have := h.only.size; omega
/-- Numbers were put behind (a literal, an append), and the row put back into the block. -/
theorem ref_app {w w1 w2 : World} {B r : Nat} {v v1 : Value} {L : Lst} {m : List Int} {o : Obj} (h : RefIn w B r v L)
    (hown : Own w1 B 3 .i64 v1 (L.n ++ m)) (ho1 : Only v.ownBlock.toList (w.alloc o) w1) (hat : v1.ownBlock = v.ownBlock ∨ v1.ownBlock = some (w.alloc o).heap.size)
    (hb2 : Block w2 r 28 #[v1, .bool L.over]) (ho2 : Only [r] w1 w2) : RefStep w B r v ⟨L.n ++ m, L.over⟩ v1 w2 := by
  refine ⟨⟨hb2, hown.only ho2 (fun g hg hm => ?_), h.low⟩, ?_, ?_⟩
  · have hg' : g = r := by simpa using hm
    subst hg'
    rcases hat with e | e
    · exact h.apart (e ▸ hg)
    · rw [e] at hg
      have := Block.lt h.blk
      simp at hg
      omega
  · exact ((Only.alloc _ w o).trans (ho1.mono (fun k hk => List.mem_cons_of_mem _ hk))).trans (ho2.mono (by simp))
  · rcases hat with e | e
    · exact .inl e
    · right; intro g hg; rw [e] at hg; simp at hg; omega

theorem sizeV : (Try.prog.info? 22).map (·.size) = some 1 := by kernel_rfl
theorem sizeI : (Try.prog.info? 3).map (·.size) = some 1 := by kernel_rfl
theorem sizeB : (Try.prog.info? 4).map (·.size) = some 1 := by kernel_rfl
/-- A row is stored into the block. -/
theorem wpList_refPut {ops : Array Oper} {rest : List Oper} {o : Oper} {a : Act} {w : World} {Q : Exit → Act → World → Prop} (hgd : o.guard = none) (x y : Operand) (ho : o.op = .store 22 x y)
    {r : Nat} {t : TypeId} {v b : Value} (hb : Block w r t #[v, b]) {ao : Option Addr} {n c : Nat} (hx : a.eval x = .pointer (some ⟨r, 0, none⟩)) (hy : a.eval y = .slice ao n c)
    (h : ∀ w', Block w' r t #[.slice ao n c, b] → Only [r] w w' → wpList Try.prog ops Q rest (a.put o.dst undef) w') : wpList Try.prog ops Q (o :: rest) a w :=
  wpList_store1 hgd _ x y ho hb _ hx hy (by simp) sizeV rfl (fun w' h1 h2 => h w' (by simpa using h1) h2)
theorem RefIn.app_only {w w1 : World} {B r : Nat} {v : Value} {L : Lst} {o : Obj} (h : RefIn w B r v L) (ho : Only v.ownBlock.toList (w.alloc o) w1) : Block w1 r 28 #[v, .bool L.over] :=
  (h.blk.alloc o).only ho (fun hm => h.apart (by simpa using hm))

set_option maxHeartbeats 1000000 in
theorem refNext_any (L : Lst) (hL : L.n.length ≤ 32) (B r : Nat) (v : Value) (w : World) (hB : B ≤ w.heap.size) (h : RefIn w B r v L) :
    Calls Try.prog 10 #[.pointer (some ⟨r, 0, none⟩)] w (RefTurned w B r v (nextF L)) := by
  have c0 := h.c0
  by_cases h0 : L.n.length = 0
  · have hE : Hid (nextF L = ⟨[0, 0], L.over⟩) := by show _ = _; unfold nextF begF; rw [if_pos h0]; rfl
    obtain ⟨n, o⟩ := L
    have hn : n = [] := List.eq_nil_of_length_eq_zero h0
    subst hn
    have hown := h.own
    obtain ⟨ao, cap, rfl, _, _, hnn⟩ := hown.shape
    simp only [List.length_nil] at c0 hown hnn h
    clear h0 hL
    go_enter Try.func10, Try.ntmps10
    go_wp2_with (first
      | (with_reducible show wpList _ _ _ (⟨some 14, .call _, _, _, _, _⟩ :: _) _ _; go_must (refine wpList_app elemI rfl (.tmp 12) (.tmp 13) rfl B (.slice ao 0 cap) [] [0] _ (w.heap.size + 1) 1 rfl rfl (hown.alloc _) (Nums.one _ _ _ _) ?_ ?_ ?_ ?_; (simp; omega); (simp); (simp [maxLen]); intro v1 w1 hown1 ho1 hat1; obtain ⟨a1, p1, rfl, _, _, _⟩ := hown1.shape; have hb1 := h.app_only ho1; simp only [List.nil_append, List.length_singleton] at hown1 hat1))
      | (with_reducible show wpList _ _ _ (⟨none, .store _ (.tmp 16) _, _, _, _, _⟩ :: _) _ _; go_must (refine wpList_refPut rfl (.tmp 16) (.tmp 14) rfl hb1 rfl rfl ?_); intro w2 hb2 ho2; have hs2 := ref_app (m := [0]) h hown1 ho1 hat1 hb2 ho2; have c2 := hs2.ref.c0; have hown2 := hs2.ref.own; have hB2 := hs2.only.size)
      | (with_reducible show wpList _ _ _ (⟨some 32, .call _, _, _, _, _⟩ :: _) _ _; go_must (refine wpList_app elemI rfl (.tmp 30) (.tmp 31) rfl B (.slice a1 1 p1) [0] [0] _ (w2.heap.size + 1) 1 rfl rfl (hown2.alloc _) (Nums.one _ _ _ _) ?_ ?_ ?_ ?_; (simp; omega); (simp); (simp [maxLen]); intro v3 w3 hown3 ho3 hat3; obtain ⟨a3, p3, rfl, _, _, _⟩ := hown3.shape; have hb3 := hs2.ref.app_only ho3))
      | (with_reducible show wpList _ _ _ (⟨none, .store _ (.tmp 34) _, _, _, _, _⟩ :: _) _ _; go_must (refine wpList_refPut rfl (.tmp 34) (.tmp 32) rfl hb3 rfl rfl ?_); intro w4 hb4 ho4; have hs4 := ref_app (m := [0]) hs2.ref hown3 ho3 hat3 hb4 ho4))
    go_end0
    exact ⟨⟨_, rfl⟩, _, by rw [hE.out]; exact hs2.trans hs4⟩
  · have h0' : 0 < L.n.length := by omega
    have hbeg := beg_of_pos h0'
    by_cases h32 : L.n.length = 32
    · have hE : Hid (nextF L = ⟨L.n, true⟩) := by show _ = _; rw [next_full (by rw [hbeg]; exact h32), hbeg]
      obtain ⟨ao, cap, rfl, _, _, hnn⟩ := h.own.shape
      rw [h32] at c0
      have hb := h.blk
      clear h0 h0' hL hbeg
      go_enter Try.func10, Try.ntmps10
      go_wp2_with (with_reducible show wpList _ _ _ (⟨none, .store _ (.tmp 25) _, _, _, _, _⟩ :: _) _ _; go_must (refine wpList_store1 rfl _ (.tmp 25) (.const (.bool true)) rfl hb (.bool true) rfl rfl (by simp) sizeB rfl ?_); intro w1 hb1 ho1)
      go_end0
      refine ⟨⟨_, rfl⟩, .slice ao L.n.length cap, ?_⟩
      rw [hE.out]
      exact ⟨⟨by simpa using hb1, h.own.only ho1 (fun g hg hm => h.apart (by simp at hm; rw [hg, hm])), h.low⟩, ho1.mono (by simp), .inl (by rw [h32])⟩
    · have hE : Hid (nextF L = ⟨L.n ++ [0], L.over⟩) := by show _ = _; rw [next_more (by rw [hbeg]; exact h32), hbeg]
      have hown := h.own
      obtain ⟨ao, cap, rfl, _, _, hnn⟩ := hown.shape
      have hl : L.n.length < 32 := by omega
      clear hL h32 hbeg
      have h0i : ((L.n.length : Int) == 0) = false := beq_eq_false_iff_ne.2 (by omega)
      go_enter Try.func10, Try.ntmps10
      go_wp2_with (first
        | (with_reducible show wpList _ _ _ (⟨some 32, .call _, _, _, _, _⟩ :: _) _ _; go_must (refine wpList_app elemI rfl (.tmp 30) (.tmp 31) rfl B (.slice ao L.n.length cap) L.n [0] _ (w.heap.size + 1) 1 rfl rfl (hown.alloc _) (Nums.one _ _ _ _) ?_ ?_ ?_ ?_; (simp; omega); (simp; omega); (simp [maxLen]; omega); intro v1 w1 hown1 ho1 hat1; obtain ⟨a1, p1, rfl, _, _, _⟩ := hown1.shape; have hb1 := h.app_only ho1; simp only [List.length_append, List.length_singleton] at hown1 hat1))
        | (with_reducible show wpList _ _ _ (⟨none, .store _ (.tmp 34) _, _, _, _, _⟩ :: _) _ _; go_must (refine wpList_refPut rfl (.tmp 34) (.tmp 32) rfl hb1 rfl rfl ?_); intro w2 hb2 ho2; have hs2 := ref_app (m := [0]) h hown1 ho1 hat1 hb2 ho2))
      go_end0
      exact ⟨⟨_, rfl⟩, _, by rw [hE.out]; exact hs2⟩

end Go.Proofs.Ytgpoboolonkmcaa.Par
