/-
  parser: what is told behind one another; controls that lead, sequences that end.
-/
import Derived.Test.YtgkpcjhnphfkgaaQLead
import Derived.Deep.RegionLaw
namespace Go.Proofs.Ytgkpcjhnphfkgaa.Prs
open Go Go.RowKit Go.Proofs.Ytgkpcjhnphfkgaa.Com Go.Proofs.Ytgkpcjhnphfkgaa.Par

section
variable {w w1 w2 w3 w4 : World} {B d : Nat} {v u x z : Value} {S S' : PS} {As Bs : List Act}
/-- The block was turned, the text not. -/
theorem ParIn.turn (h : ParIn w B d v S) (hb : PBlk w1 d S' v) (ho : Only [d] w w1) (ht : S'.text = S.text) : ParIn w1 B d v S' :=
  ⟨hb, by rw [ht]; exact h.own.only ho (fun g hg hm => h.apart (by simp at hm; rw [hg, hm])), h.low⟩
/-- What a call leaves behind a step of the caller's that turned the block alone. -/
theorem FedU.after (h : FedU w1 B d v S' As x u w2) (ho : Only [d] w w1) : FedU w B d v S' As x u w2 := by
  have hs := ho.size
  refine ⟨h.par, ?_, (h.acts.lower hs).mono (fun g _ hk => ⟨?_, hk.text, hk.block⟩), (ho.mono (by simp)).trans h.only⟩
  · rcases h.lies with e | e | ⟨g, e, hg⟩
    · exact .inl e
    · exact .inr (.inl e)
    · exact .inr (.inr ⟨g, e, by omega⟩)
  · rcases hk.from_ with e | e
    · exact .inl (by omega)
    · exact .inr e
theorem Fed.after {X : Stp} {e : Ending} (h : Fed w1 B d v X e w2) (ho : Only [d] w w1) : Fed w B d v X e w2 := by
  obtain ⟨x, u, rfl, h⟩ := h
  exact ⟨x, u, rfl, h.after ho⟩
/-- More acts were put behind. -/
theorem FedU.app (h : FedU w B d v S' As x u w1) (o1 : Only [] w1 w3) {ok2 : Nat → Prop} (hok : ∀ g, ok2 g → w1.heap.size ≤ g)
    (hz : ActsIn w4 w.heap.size (fun b => Mine w.heap.size d v u b ∨ ok2 b) z (As ++ Bs)) (o2 : Only x.ownBlock.toList w3 w4) : FedU w B d v S' (As ++ Bs) z u w4 := by
  have hs := h.only.size
  have hdlt := h.par.blk.lt
  have hul := h.par.own.lt
  have hxl := h.acts.row
  have hxd := h.acts.apart_blk h.par.blk.blk (by decide)
  have hxu := h.acts.apart_row h.par.own (by decide)
  refine ⟨(h.par.only o1 (by simp) (by simp)).only o2 (fun hm => hxd (by simpa using hm)) (fun g hg hm => hxu g (by simpa using hm) hg), h.lies, hz.mono (fun g _ hk => hk.elim id (fun hk => ?_)), ?_⟩
  · have := hok g hk
    exact ⟨.inl (by omega), fun e => by have := (hul g e).2; omega, by omega⟩
  · exact (h.only.trans (o1.mono (by simp))).then o2 (fun k hk => .inr (hxl k (by simpa using hk)).1)
theorem FedU.apartx (h : FedU w B d v S' As x u w1) {ok2 : Nat → Prop} (hok : ∀ g, ok2 g → w1.heap.size ≤ g) : ∀ b, x.ownBlock = some b → ¬ ok2 b := fun b hb hk => by
  have := (h.acts.row b hb).2
  have := hok b hk
  omega
theorem FedU.shape (h : FedU w B d v S' As x u w1) : ∃ ao n c, x = .slice ao n c := by
  obtain ⟨ao, c, e, _⟩ := h.acts.shape
  exact ⟨ao, _, c, e⟩
theorem ActsIn.slice {ok : Nat → Prop} (h : ActsIn w B ok x As) : ∃ ao n c, x = .slice ao n c := by
  obtain ⟨ao, c, e, _⟩ := h.shape
  exact ⟨ao, _, c, e⟩
/-- New acts alone, the parser as it was. -/
theorem fed_new (hd : ParIn w B d v S) (h : ActsIn w1 w.heap.size (w.heap.size ≤ ·) x As) (hb : Below w.heap.size w w1) : FedU w B d v S As x v w1 := by
  have hlt := hd.blk.lt
  have hul := hd.own.lt
  exact ⟨hd.new hb, .inl rfl, h.mono (fun g _ hk => ⟨.inl hk, fun e => by have := (hul g e).2; omega, by omega⟩), Only.of_below hb _⟩
theorem fed_none (hd : ParIn w B d v S) : Fed w B d v ([], S) (.returned (.slice none 0 0)) w :=
  ⟨_, v, rfl, fed_new hd (ActsIn.nil _ _ _) (Below.refl _ _)⟩
end
theorem lead_len1 (S : PS) : (leadA S).length ≤ 1 := lead_len S

set_option maxHeartbeats 2000000 in
theorem execLead_any (S : PS) (v : Value) (hL : S.sq.num.n.length ≤ 32) (r : Int) (B d : Nat) (w : World) (hd : ParIn w B d v S) :
    Calls Try.prog 14 #[.pointer (some ⟨d, 0, none⟩), .int .i32 r] w (Fed w B d v (execLeadF S r)) := by
  have hlead := Lib.hid (lead_any S v hL 0 B d w hd)
  have hlen := lead_len S
  go_enter Try.func14, Try.ntmps14
  go_wp2_with fail
  refine hlead.out.mono ?_
  rintro e w1 ⟨x, u, rfl, hf⟩
  simp only [leadF] at hf
  obtain ⟨ax, nx, cx, rfl⟩ := hf.shape
  go_wp2_with fail
  refine (exec_any r w1).mono ?_
  rintro e w2 ⟨rfl, hb2⟩
  have hf' := Lib.hid hf
  clear hlead hf
  go_wp2_with (with_reducible show wpList _ _ _ (⟨some 10, .call _, _, _, _, _⟩ :: _) _ _; go_must (refine wpList_acts (x := .slice ax nx cx) (ok2 := fun _ => False) rfl (.tmp 6) (.tmp 9) rfl rfl rfl (hf'.out.acts.only ((Only.of_below hb2 []).trans (Only.alloc [] w2 _)) (by simp) (by simp)) (made_acts w2 w2.heap.size (Nat.le_refl _) _ _ _ (act_bare w2 _ 2 r 0 0)) (fun _ _ h => h) (by have := hf'.out.only.size; have := hb2.size; simp; omega) (by simp; omega) ?_); go_must (intro z w4 hz ho4 hat; obtain ⟨az, nz, cz, rfl⟩ := hz.slice))
  go_ret
  exact ⟨_, u, rfl, hf'.out.app (Bs := [execA r]) ((Only.of_below hb2 []).trans (Only.alloc [] w2 _)) (ok2 := fun _ => False) (fun _ h => h.elim) hz ho4⟩

set_option maxHeartbeats 4000000 in
theorem finish_any (S : PS) (v : Value) (hL : S.sq.num.n.length ≤ 32) (hc : S.sq.cnt ≤ 2) (kind r s : Int) (B d : Nat) (w : World) (hd : ParIn w B d v S) :
    Calls Try.prog 35 #[.pointer (some ⟨d, 0, none⟩), .int .u8 kind, .int .i32 r, .int .u8 s] w (Fed w B d v (finishF S kind r s)) := by
  have hlead := Lib.hid (lead_any S v hL s B d w.drew (hd.only (only_drew [] w) (by simp) (by simp)))
  have hlen := lead_len S
  have hlen2 := acts_len (leadS S s).sq kind r
  have hok : (leadS S s).sq.num.n.length ≤ 32 ∧ (leadS S s).sq.cnt ≤ 2 := by
    unfold leadS
    simp only
    split
    · exact ⟨by simp [emptySq, empty], by simp [emptySq]⟩
    · exact ⟨hL, hc⟩
  have hacts := Lib.hid (fun u w1 (h : PBlk w1 d (leadS S s) u) => seqActs_any (leadS S s) u hok.1 hok.2 kind r d w1 h)
  clear hok
  go_enter Try.func35, Try.ntmps35
  go_wp2_with fail
  go_region_held3 (fun _ => True) (exact trivial) (first
    | (go_at_call 15; refine hlead.out.mono ?_; rintro e w1 ⟨x, u, rfl, hf⟩; simp only [leadF] at hf; obtain ⟨ax, nx, cx, rfl⟩ := hf.shape; have hf' := Lib.hid hf; clear hf)
    | (go_at_call 39; refine (hacts.out u _ hf'.out.par.blk).mono ?_; rintro e w2 ⟨y, rfl, hy, hb2⟩; obtain ⟨ay, ny, cy, rfl⟩ := hy.slice; have hy' := Lib.hid hy; clear hy)
    | (refine step_acts (x := .slice ax nx cx) (ok2 := (w1.heap.size ≤ ·)) rfl (.tmp 11) (.tmp 17) rfl rfl rfl (hf'.out.acts.only (Only.of_below hb2 []) (by simp) (by simp)) hy'.out (hf'.out.apartx (fun _ h => h)) (by have := hf'.out.only.size; have := hb2.size; omega) (by omega) ?_; intro z w4 hz ho4 hat; obtain ⟨az, nz, cz, rfl⟩ := hz.slice))
  go_wp2
  go_ret
  exact ⟨_, u, rfl, (hf'.out.app (Bs := (leadS S s).sq.acts kind r) (Only.of_below hb2 []) (ok2 := (w1.heap.size ≤ ·)) (fun _ h => h) hz ho4).after (only_drew _ _)⟩

end Go.Proofs.Ytgkpcjhnphfkgaa.Prs
