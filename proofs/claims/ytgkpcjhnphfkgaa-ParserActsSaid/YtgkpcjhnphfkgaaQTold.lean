/-
  The law's own known answers: the acts of a text.
-/
import Derived.Test.YtgkpcjhnphfkgaaQFeed
import Derived.Test.YtgkpcjhnphfkgaaQRef
import Derived.Laws.RangeAny
namespace Go.Proofs.Ytgkpcjhnphfkgaa.Prs
open Go Go.RowKit Go.Proofs.Ytgkpcjhnphfkgaa.Com Go.Proofs.Ytgkpcjhnphfkgaa.Par

theorem lt_of_block' {w : World} {b : Nat} {o : Obj} (h : w.heap[b]? = some o) : b < w.heap.size := by
  rcases Nat.lt_or_ge b w.heap.size with h1 | h1
  · exact h1
  · rw [Array.getElem?_eq_none h1] at h; cases h
theorem next_step {P : Program} {w : World} {b k : Nat} {s : ByteArray} (hit : w.heap[b]? = some (.stringIter s k)) (hk : k < s.size) (ha : (s[k]'hk).toNat < 128) :
    ∃ w1, (∀ ty, (Instr.next (.pointer (some ⟨b, 0, none⟩)) true ty).run P w = .ok (.tuple #[.bool true, .int .i64 k, .int .i32 (s[k]'hk).toNat]) w1) ∧ w1.heap[b]? = some (.stringIter s (k + 1)) ∧ Only [b] w w1 := by
  have hlt := lt_of_block' hit
  refine ⟨{ w with heap := w.heap.setIfInBounds b (.stringIter s (k + 1)) }, fun ty => ?_, ?_, rfl, rfl, rfl, ?_, fun g hg hn => ?_⟩
  · simp only [Instr.next, getObj, setObj, Sem.run_bind, Sem.run, hit, Result.andThen, hk, if_true, decode_ascii s k hk ha]
    simp [goInt]
  · simp [hlt]
  · simp
  · have : b ≠ g := fun e => hn (by simp [e])
    simp [this]
theorem next_end {P : Program} {w : World} {b k : Nat} {s : ByteArray} (hit : w.heap[b]? = some (.stringIter s k)) (hk : ¬ k < s.size) (ty : TypeId) :
    (Instr.next (.pointer (some ⟨b, 0, none⟩)) true ty).run P w = .ok (.tuple #[.bool false]) w := by
  simp [Instr.next, getObj, Sem.run, hit, hk]

/-- The runes of a text of small bytes. -/
def chars (s : ByteArray) : List Int := s.data.toList.map fun c => (c.toNat : Int)
theorem chars_len (s : ByteArray) : (chars s).length = s.size := by unfold chars; rw [List.length_map, Array.length_toList]; rfl
theorem chars_take {s : ByteArray} {k : Nat} (h : k < s.size) : (chars s).take (k + 1) = (chars s).take k ++ [((s[k]'h).toNat : Int)] := by
  rw [Com.take_snoc (by rw [chars_len]; exact h)]
  congr 2
  simp [chars]
  rfl

/-- Which blocks the lists of the acts so far lie in. -/
structure TOk (d b : Nat) (u : Value) (g : Nat) : Prop where
  block : g ≠ d
  it : g ≠ b
  text : u.ownBlock ≠ some g
/-- Where the telling stands. -/
structure TAt (w : World) (d b : Nat) (s : ByteArray) (k : Nat) (S : PS) (As : List Act) (x u : Value) (wr : World) : Prop where
  it : wr.heap[b]? = some (.stringIter s k)
  par : ParIn wr w.heap.size d u S
  acts : ActsIn wr w.heap.size (TOk d b u) x As
  below : Below w.heap.size w wr
  atb : w.heap.size ≤ b
section
variable {w wr w1 w2 w3 : World} {d b k : Nat} {s : ByteArray} {S : PS} {As : List Act} {x u : Value}
theorem no_cells {t : TypeId} {cs : Array Value} (h : wr.heap[b]? = some (.stringIter s k)) (hb : Block wr b t cs) : False := by
  unfold Block at hb
  rw [h] at hb
  cases hb
theorem TAt.db (h : TAt w d b s k S As x u wr) : d ≠ b := fun e => no_cells h.it (e ▸ h.par.blk.blk)
theorem TAt.ub (h : TAt w d b s k S As x u wr) : u.ownBlock ≠ some b := fun e => by
  rcases h.par.own.2 with ⟨rfl, _⟩ | ⟨g, cap, cur, rfl, _, hh, _⟩
  · simp [Value.ownBlock] at e
  · have e' : g = b := by simpa [Value.ownBlock] using e
    subst e'
    exact no_cells h.it hh
theorem TAt.xb (h : TAt w d b s k S As x u wr) : x.ownBlock ≠ some b := fun e => by
  obtain ⟨css, _, _, h3⟩ := h.acts.ex
  rcases h3 with ⟨rfl, _⟩ | ⟨g, cap, cur, rfl, _, hh, _⟩
  · simp [Value.ownBlock] at e
  · have e' : g = b := by simpa [Value.ownBlock] using e
    subst e'
    exact no_cells h.it hh
/-- The iterator has gone on. -/
theorem TAt.next (h : TAt w d b s k S As x u wr) (hit : w1.heap[b]? = some (.stringIter s (k + 1))) (ho : Only [b] wr w1) : TAt w d b s (k + 1) S As x u w1 :=
  ⟨hit, h.par.only ho (by simpa using h.db) (fun g hg hm => h.ub (by simp at hm; rw [hg, hm])), h.acts.only ho (fun g hg hk => hk.it (by simpa using hg)) (fun g hg hm => h.xb (by simp at hm; rw [hg, hm])), below_on h.below ho h.atb, h.atb⟩
/-- A rune was fed, and its acts put behind. -/
theorem TAt.fed {X : Stp} {y u' z : Value} (h : TAt w d b s k S As x u w1) (hf : FedU w1 w.heap.size d u X.2 X.1 y u' w2)
    (hz : ActsIn w3 w.heap.size (fun g => (TOk d b u g ∧ g < w1.heap.size) ∨ Mine w1.heap.size d u u' g) z (As ++ X.1)) (ho : Only x.ownBlock.toList w2 w3) : TAt w d b s k X.2 (As ++ X.1) z u' w3 := by
  have hdb := h.db
  have hub := h.ub
  have hxb := h.xb
  have hxd := h.acts.apart_blk h.par.blk.blk (by decide)
  have hxu := h.acts.apart_row h.par.own (by decide)
  have hxl := h.acts.row
  have hblt := lt_of_block' h.it
  have hdlt := h.par.blk.lt
  have hbel := h.below
  have hulow := h.par.own.lt
  have hu' : ∀ g, u'.ownBlock = some g → u.ownBlock = some g ∨ w1.heap.size ≤ g := fun g hg => by
    rcases hf.lies with e | e | ⟨g', e, hg'⟩
    · exact .inl (e ▸ hg)
    · rw [e] at hg; cases hg
    · rw [e] at hg; cases hg; exact .inr hg'
  have hxu' : ∀ g, x.ownBlock = some g → u'.ownBlock ≠ some g := fun g hg e => by
    rcases hu' g e with e' | e'
    · exact hxu g hg e'
    · have := (hxl g hg).2; omega
  refine ⟨?_, hf.par.only ho (fun hm => hxd (by simpa using hm)) (fun g hg hm => hxu' g (by simpa using hm) hg), hz.mono (fun g _ hk => ?_), ?_, h.atb⟩
  · have hs := hf.only.size
    rw [ho.block b (by omega) (fun hm => hxb (by simpa using hm)), hf.only.block b hblt (fun hm => by
      rcases List.mem_cons.1 hm with e | e
      · exact hdb e.symm
      · exact hub (by simpa using e))]
    exact h.it
  · rcases hk with ⟨hk, hlt⟩ | hk
    · exact ⟨hk.block, hk.it, fun e => by
        rcases hu' g e with e' | e'
        · exact hk.text e'
        · omega⟩
    · refine ⟨hk.block, fun e => ?_, hk.text⟩
      subst e
      rcases hk.from_ with e | e
      · omega
      · exact hub e
  · refine (hbel.trans (hf.only.below hbel.size (fun g hg => ?_))).trans (ho.below (Nat.le_trans hbel.size hf.only.size) (fun g hg => (hxl g (by simpa using hg)).1))
    rcases List.mem_cons.1 hg with rfl | hg
    · exact h.par.low
    · exact (hulow g (by simpa using hg)).1
theorem TAt.acts2 {X : Stp} {y u' : Value} (h : TAt w d b s k S As x u w1) (hf : FedU w1 w.heap.size d u X.2 X.1 y u' w2) : ActsIn w2 w.heap.size (fun g => TOk d b u g ∧ g < w1.heap.size) x As := by
  have hxd := h.acts.apart_blk h.par.blk.blk (by decide)
  have hxu := h.acts.apart_row h.par.own (by decide)
  refine (h.acts.mono (ok' := fun g => TOk d b u g ∧ g < w1.heap.size) (fun g hg hk => ⟨hk, hg⟩)).only hf.only (fun g hg hk => ?_) (fun g hg hm => ?_)
  · rcases List.mem_cons.1 hg with e | e
    · exact hk.1.block e
    · exact hk.1.text (by simpa using e)
  · rcases List.mem_cons.1 hm with e | e
    · exact hxd (e ▸ hg)
    · exact hxu g hg (by simpa using e)
theorem TAt.apart {X : Stp} {y u' : Value} (h : TAt w d b s k S As x u w1) (_hf : FedU w1 w.heap.size d u X.2 X.1 y u' w2) : ∀ g, x.ownBlock = some g → ¬ Mine w1.heap.size d u u' g := fun g hg hk => by
  have hxu := h.acts.apart_row h.par.own (by decide)
  have := (h.acts.row g hg).2
  rcases hk.from_ with e | e
  · omega
  · exact hxu g hg e
end

/-- What a telling leaves. -/
def Tells (w : World) (As : List Act) (e : Ending) (w' : World) : Prop := ∃ ao c, e = .returned (.slice ao As.length c) ∧ ActsRd w' ao As ∧ Below w.heap.size w w'

set_option maxRecDepth 100000 in
set_option maxHeartbeats 4000000 in
theorem told_any (s : ByteArray) (hs : ∀ k (h : k < s.size), (s[k]'h).toNat < 128) (hl : s.size ≤ 1000) (w : World) :
    Calls Try.prog 13 #[.string s] w (Tells w (actsF start (chars s))) := by
  go_enter Try.func13, Try.ntmps13
  go_wp2_with fail
  refine (new_any w).mono ?_
  rintro e w0 ⟨rfl, rfl⟩
  have hat : TAt w w.heap.size (w.heap.size + 1) s 0 start [] (.slice none 0 0) (.slice none 0 0) ((w.alloc (.cells (parL start (.slice none 0 0)).toArray 43)).alloc (.stringIter s 0)) := by
    refine ⟨?_, ⟨(Block.made w _ _).alloc _, Own.nil _ _ _ _, Nat.le_refl _⟩, ActsIn.nil _ _ _, below_next (below_new w _) (below_new _ _), by omega⟩
    have := heap_alloc_new (w.alloc (.cells (parL start (.slice none 0 0)).toArray 43)) (.stringIter s 0)
    simpa using this
  generalize hd : w.heap.size = d at hat
  obtain ⟨b, hb⟩ : ∃ b, b = d + 1 := ⟨_, rfl⟩
  go_wp2_with fail
  have hfew := fun k => acts_few start_ok ((chars s).take k)
  have hok := fun k => run_ok start_ok ((chars s).take k)
  replace hfew := Lib.hid hfew
  replace hok := Lib.hid hok
  replace hs := Lib.hid hs
  have hend : (chars s).take s.size = chars s := List.take_of_length_le (by rw [chars_len]; exact Nat.le_refl _)
  replace hend := Lib.hid hend
  rw [← hb] at hat ⊢
  replace hb := Lib.hid hb
  go_loopw [4] (fun l wr => ∃ (k : Nat) (u : Value), k ≤ s.size ∧ TAt w d b s k (runF start ((chars s).take k)) (actsF start ((chars s).take k)) l u wr) (fun _ w => s.size - w.iterPos b)
  case atStart => exact ⟨0, _, by omega, hat⟩
  case round =>
    clear hat
    obtain ⟨k, u, hk, hat⟩ := hrel
    have hpos : wr.iterPos b = k := by simp [World.iterPos, hat.it]
    obtain ⟨ax, nx, cx, rfl⟩ := hat.acts.slice
    by_cases hlt : k < s.size
    · obtain ⟨w1, hnx, hit1, ho1⟩ := next_step (P := Try.prog) hat.it hlt (hs.out k hlt)
      have hat1 := hat.next hit1 ho1
      have hE1 := Lib.hid (run_snoc start ((chars s).take k) ((s[k]'hlt).toNat : Int))
      have hE2 := Lib.hid (acts_snoc start ((chars s).take k) ((s[k]'hlt).toNat : Int))
      rw [← chars_take hlt] at hE1 hE2
      have hS := hok.out k
      have hl2 := hfew.out k
      rw [List.length_take, chars_len] at hl2
      have hl3 : (actsF start ((chars s).take k)).length ≤ 2000 := by omega
      clear hat hit1 ho1 hl2
      replace hpos := Lib.hid hpos
      generalize runF start ((chars s).take k) = S at hat1 hS hE1 hE2
      generalize actsF start ((chars s).take k) = As at hat1 hE2 hl3
      generalize ((s[k]'hlt).toNat : Int) = c at hnx hE1 hE2
      have hat' := Lib.hid hat1
      have hfeed := Lib.hid (feed_any S hS u c w.heap.size d w1 hat1.par hat1.below.size)
      have hfew1 := (feed_good hS c).few
      clear hat1
      go_wp2_with fail
      refine hfeed.out.mono ?_
      rintro e w2 ⟨y, u', rfl, hf⟩
      obtain ⟨ay, ny, cy, rfl⟩ := hf.shape
      replace hf := Lib.hid hf
      clear hnx
      go_wp2_with (with_reducible show wpList _ _ _ (⟨some 17, .call _, _, _, _, _⟩ :: _) _ _; go_must (refine wpList_acts (x := .slice ax nx cx) (ok2 := Mine w1.heap.size d u u') rfl (.tmp 13) (.tmp 16) rfl rfl rfl (hat'.out.acts2 hf.out) hf.out.acts (hat'.out.apart hf.out) (Nat.le_trans hat'.out.below.size hf.out.only.size) (by omega) ?_); go_must (intro z w3 hz ho3 _; obtain ⟨az, nz, cz, rfl⟩ := hz.slice; have hat3 := Lib.hid (hat'.out.fed hf.out hz ho3); clear hz ho3))
      have hpos3 : w3.iterPos b = k + 1 := by simp [World.iterPos, hat3.out.it]
      go_roundw
      case rel => exact ⟨k + 1, u', by omega, by rw [hE1.out, hE2.out]; exact hat3.out⟩
      case measure => rw [hpos3, hpos.out]; omega
    · have hnx := next_end (P := Try.prog) hat.it hlt
      obtain rfl : k = s.size := by omega
      obtain ⟨hn, hrd⟩ := hat.acts.rd
      have hbel := hat.below
      rw [hend.out] at hn hrd
      clear hat hfew hok hpos
      replace hn := Lib.hid hn
      go_wp2_with fail
      go_ret
      rw [hn.out]
      exact ⟨_, _, rfl, hrd, hbel⟩

end Go.Proofs.Ytgkpcjhnphfkgaa.Prs
