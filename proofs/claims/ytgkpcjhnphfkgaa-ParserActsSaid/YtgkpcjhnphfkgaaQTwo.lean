/-
  Two parsers of the call's own.
-/
import Derived.Test.YtgkpcjhnphfkgaaQKnow
import Derived.Test.YtgkpcjhnphfkgaaQSim
import Derived.Test.YtgkpcjhnphfkgaaIn
namespace Go.Proofs.Ytgkpcjhnphfkgaa.Prs
open Go Go.RowKit Go.Proofs.Ytgkpcjhnphfkgaa.Com Go.Proofs.Ytgkpcjhnphfkgaa.Par

structure Two (w : World) (d0 d1 : Nat) (v0 v1 : Value) (S T : PS) (wr : World) : Prop where
  p : ParIn wr w.heap.size d0 v0 S
  q : ParIn wr w.heap.size d1 v1 T
  below : Below w.heap.size w wr
  ne : d0 ≠ d1
  apart : ∀ g, v0.ownBlock = some g → v1.ownBlock ≠ some g
section
variable {w wr w1 w2 : World} {d0 d1 : Nat} {v0 v1 u u' x y : Value} {S T : PS} {X Y : Stp}
theorem Two.swap (h : Two w d0 d1 v0 v1 S T wr) : Two w d1 d0 v1 v0 T S wr := ⟨h.q, h.p, h.below, fun e => h.ne e.symm, fun g hg e => h.apart g e hg⟩
theorem Two.new (h : Two w d0 d1 v0 v1 S T wr) (hb : Below wr.heap.size wr w1) : Two w d0 d1 v0 v1 S T w1 := ⟨h.p.new hb, h.q.new hb, below_next h.below hb, h.ne, h.apart⟩
theorem Two.fed0 (h : Two w d0 d1 v0 v1 S T wr) (hf : FedU wr w.heap.size d0 v0 X.2 X.1 x u w1) : Two w d0 d1 u v1 X.2 T w1 := by
  have h01 : v0.ownBlock ≠ some d1 := h.p.own.apart h.q.blk.blk (by decide)
  have h10 : v1.ownBlock ≠ some d0 := h.q.own.apart h.p.blk.blk (by decide)
  have hl1 := h.q.own.lt
  refine ⟨hf.par, h.q.only hf.only (fun hm => ?_) (fun g hg hm => ?_), ?_, h.ne, fun g hg e => ?_⟩
  · rcases List.mem_cons.1 hm with e | e
    · exact h.ne e.symm
    · exact h01 (by simpa using e)
  · rcases List.mem_cons.1 hm with e | e
    · exact h10 (e ▸ hg)
    · exact h.apart g (by simpa using e) hg
  · refine h.below.trans (hf.only.below h.below.size (fun g hg => ?_))
    rcases List.mem_cons.1 hg with rfl | hg
    · exact h.p.low
    · exact (h.p.own.lt g (by simpa using hg)).1
  · rcases hf.lies with e' | e' | ⟨g', e', hg'⟩
    · exact h.apart g (e' ▸ hg) e
    · rw [e'] at hg; cases hg
    · rw [e'] at hg; cases hg
      have := (hl1 g e).2
      omega
theorem Two.fed1 (h : Two w d0 d1 v0 v1 S T wr) (hf : FedU wr w.heap.size d1 v1 X.2 X.1 x u w1) : Two w d0 d1 v0 u S X.2 w1 := (h.swap.fed0 hf).swap
/-- What the first one told is there when the second one has been fed. -/
theorem Two.told (h : Two w d0 d1 v0 v1 S T wr) (hf : FedU wr w.heap.size d0 v0 X.2 X.1 x u w1) (hg : FedU w1 w.heap.size d1 v1 Y.2 Y.1 y u' w2) : ActsIn w2 wr.heap.size (Mine wr.heap.size d0 v0 u) x X.1 := by
  have h01 : v0.ownBlock ≠ some d1 := h.p.own.apart h.q.blk.blk (by decide)
  have hl1 := h.q.own.lt
  have hd1 := h.q.blk.lt
  have hx := hf.acts.row
  refine hf.acts.only hg.only (fun g hm hk => ?_) (fun g hg hm => ?_)
  · rcases List.mem_cons.1 hm with rfl | e
    · rcases hk.from_ with e | e
      · omega
      · exact h01 e
    · have e : v1.ownBlock = some g := by simpa using e
      rcases hk.from_ with e' | e'
      · have := (hl1 g e).2; omega
      · exact h.apart g e' e
  · have := (hx g hg).1
    rcases List.mem_cons.1 hm with rfl | e
    · omega
    · have := (hl1 g (by simpa using e)).2; omega
end
theorem told_small {A : Act} (h : Told A) : A.Small := by
  cases h with
  | print x h => exact ⟨by simp [printA], by simp [printA], by simp [printA]⟩
  | exec x => exact ⟨by simp [execA], by simp [execA], by simp [execA]⟩
  | esc i f h => exact ⟨by simp, by simp only; omega, by simp⟩
  | csi k p f n i hk hn h => exact ⟨by simp only; omega, by simp only; omega, by simp⟩
  | osc t h => exact ⟨by simp [oscA], by simp [oscA], by simp only [oscA]; omega⟩
/-- What both told is alike. -/
theorem same_both {w wr w1 w2 : World} {d0 d1 : Nat} {v0 v1 u u' : Value} {S T : PS} {As : List Act} {X2 Y2 : PS} {ax ay : Option Addr} {nx ny cx cy : Nat} (hs : ∀ A ∈ As, Told A) (hl : As.length ≤ 2)
    (h : Two w d0 d1 v0 v1 S T wr) (hf : FedU wr w.heap.size d0 v0 X2 As (.slice ax nx cx) u w1) (hg : FedU w1 w.heap.size d1 v1 Y2 As (.slice ay ny cy) u' w2) :
    Calls Try.prog 10 #[.slice ax nx cx, .slice ay ny cy] w2 fun e w' => e = .returned (.bool true) ∧ Below w2.heap.size w2 w' := by
  obtain ⟨rfl, r1⟩ := (h.told (X := (As, X2)) (Y := (As, Y2)) hf hg).rd
  obtain ⟨rfl, r2⟩ := hg.acts.rd
  exact same_yes As (fun A hA => told_small (hs A hA)) (by omega) ax ay cx cy w2 r1 r2

/-- Two new parsers. -/
theorem two_new (w : World) : Two w w.heap.size (w.heap.size + 1) (.slice none 0 0) (.slice none 0 0) start start ((w.alloc (.cells (parL start (.slice none 0 0)).toArray 43)).alloc (.cells (parL start (.slice none 0 0)).toArray 43)) := by
  have h1 : PBlk ((w.alloc (.cells (parL start (.slice none 0 0)).toArray 43)).alloc (.cells (parL start (.slice none 0 0)).toArray 43)) (w.heap.size + 1) start (.slice none 0 0) := by
    have := Block.made (w.alloc (.cells (parL start (.slice none 0 0)).toArray 43)) 43 (parL start (.slice none 0 0)).toArray
    rw [World.size_alloc] at this
    exact this
  exact ⟨⟨(Block.made w _ _).alloc _, Own.nil _ _ _ _, Nat.le_refl _⟩, ⟨h1, Own.nil _ _ _ _, by omega⟩, below_next (below_new w _) (below_new _ _), by omega, no_block⟩
theorem below_feed {w w1 : World} {d0 d1 : Nat} {v0 v1 : Value} {S T : PS} (h : Two w d0 d1 v0 v1 S T w1) : w.heap.size ≤ w1.heap.size := h.below.size

end Go.Proofs.Ytgkpcjhnphfkgaa.Prs
