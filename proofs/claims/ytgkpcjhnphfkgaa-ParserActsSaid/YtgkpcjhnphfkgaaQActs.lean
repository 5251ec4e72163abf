/-
  parser: acts are made, and put behind one another.
-/
import Derived.Test.YtgkpcjhnphfkgaaQList
import Derived.Deep.RegionHeld3
import Derived.Great.BuildSlice
namespace Go.Proofs.Ytgkpcjhnphfkgaa.Prs
open Go Go.RowKit Go.Proofs.Ytgkpcjhnphfkgaa.Com Go.Proofs.Ytgkpcjhnphfkgaa.Par

/-- A row of one act, as it is made. -/
theorem made_acts (w : World) (B : Nat) (hB : B ≤ w.heap.size) (ok : Nat → Prop) (A : Act) (cs : List Value) (h : ActIs w ok A cs) :
    ActsIn (w.alloc (.cells cs.toArray 33)) B ok (.slice (some ⟨w.heap.size, 0, none⟩) 1 1) [A] := by
  have h2 : ActIs w (fun g => ok g ∧ w.heap.size ≠ g) A cs := h.mono (fun g hg hk => ⟨hk, by omega⟩)
  refine ⟨[cs], .cons ((h2.only (Only.alloc [] w _) (by simp)).mono (fun g _ hk => ⟨hk.1, fun e => hk.2 (by simpa [Value.ownBlock] using e)⟩)) .nil, ?_⟩
  have := World.ownsRow_lit w (e := 33) (base := B) (size := 7) cs.toArray 1 hB (by simp [maxLen]) (by simp [h.len])
  simpa using this
theorem numsP_new {w : World} {B : Nat} {e : TypeId} {k : IntKind} {ao : Option Addr} {n c : Nat} {l : List Int} (h : Own w B e k (.slice ao n c) l) : NumsP w (B ≤ ·) k ao l := by
  have hlt := h.lt
  obtain ⟨ao', c', e', _, _, hn⟩ := numsP_own h
  cases e'
  exact hn.mono (fun g _ hg => (hlt g hg).1)
/-- An act that names no list. -/
theorem act_bare (w : World) (ok : Nat → Prop) (k R p f : Int) : ActIs w ok ⟨k, R, p, [], [], f, []⟩ [.int .u8 k, .int .i32 R, .int .i32 p, .slice none 0 0, .slice none 0 0, .int .i32 f, .slice none 0 0] :=
  ⟨none, 0, none, 0, none, 0, rfl, NumsP.nil _ _ _ _, NumsP.nil _ _ _ _, NumsP.nil _ _ _ _⟩

/-- Acts that lie in new blocks alone. -/
def NewActs (w : World) (As : List Act) (e : Ending) (w' : World) : Prop := ∃ x, e = .returned x ∧ ActsIn w' w.heap.size (w.heap.size ≤ ·) x As ∧ Below w.heap.size w w'

theorem ground_any (r : Int) (p : Value) (w : World) :
    Calls Try.prog 24 #[p, .int .i32 r] w (NewActs w [printA r]) := by
  go_enter Try.func24, Try.ntmps24
  go_wp2
  go_ret
  exact ⟨_, rfl, made_acts w w.heap.size (Nat.le_refl _) _ _ _ (act_bare w _ 1 r 0 0), below_new _ _⟩

theorem exec_any (r : Int) (w : World) :
    Calls Try.prog 23 #[.int .i32 r] w fun e w' => e = .returned (.agg #[.int .u8 2, .int .i32 r, .int .i32 0, .slice none 0 0, .slice none 0 0, .int .i32 0, .slice none 0 0]) ∧ Below w.heap.size w w' := by
  go_enter Try.func23, Try.ntmps23
  go_wp2
  exact bodyPost_ret (v := .agg #[.int .u8 2, .int .i32 r, .int .i32 0, .slice none 0 0, .slice none 0 0, .int .i32 0, .slice none 0 0]) (by simp [results, Try.results23, go_sem]) rfl ⟨rfl, below_new _ _⟩

theorem slice_any (k : Nat) (hk : k ≤ 2) (d : Nat) (w : World) :
    (Instr.sliceAt 39 (.pointer (some ⟨d, 36, none⟩)) none (some (.int .i64 k)) none).run Try.prog w = .ok (.slice (some ⟨d, 36, none⟩) k 2) w := by
  have ht : Try.prog.underlying 39 = some (.array (Try.prog.arrayLen 39) (Try.prog.elem 39)) := by kernel_rfl
  have hl : Try.prog.arrayLen 39 = 2 := by kernel_rfl
  have hi : (Try.prog.info? (Try.prog.elem 39)).map (·.size) = some 1 := by kernel_rfl
  rw [run_sliceAt_array_h w _ ⟨d, 36, none⟩ ht .i64 k (by omega) (by rw [hl]; omega)]
  cases hq : Try.prog.info? (Try.prog.elem 39) with
  | none => simp [hq] at hi
  | some j =>
    have hs : j.size = 1 := by simpa [hq] using hi
    simp [sizeOf, typeInfo, hq, hs, slicedAt, Addr.add, hl]
theorem inter_nums {w : World} {d : Nat} {S : PS} {v : Value} (hL : S.sq.num.n.length ≤ 32) (h : PBlk w d S v) : Nums w w.heap.size .i32 (some ⟨d, 36, none⟩) S.sq.inter := fun i x hx => by
  refine ⟨_, rfl, h.lt, ?_⟩
  rw [Addr.add_lit]
  unfold Sq.inter at hx
  rw [List.getElem?_take] at hx
  split at hx
  · rcases i with _ | _ | i
    · simp at hx; subst hx; exact h.pa hL
    · simp at hx; subst hx; exact h.pb hL
    · simp at hx
  · cases hx
theorem inter_length {q : Sq} (h : q.cnt ≤ 2) : q.inter.length = q.cnt := by
  unfold Sq.inter
  simp
  omega

/-- What the region holds of the parser's block. -/
theorem keep_seq {S : PS} {v : Value} {d : Nat} {w w1 : World} (hL : S.sq.num.n.length ≤ 32) {p : Int} {k : Nat} (hp : S.sq.pr = p) (hk : S.sq.cnt = k) (h : PBlk w d S v) (hb : Only [] w w1) :
    PBlk w1 d S v ∧ w1.cell? ⟨d, 1, none⟩ = some (.int .i32 p) ∧ w1.cell? ⟨d, 38, none⟩ = some (.int .i64 k) := by
  have h' := h.only hb (by simp)
  subst hp
  subst hk
  exact ⟨h', h'.c1, h'.cnt hL⟩

set_option maxHeartbeats 4000000 in
theorem seqActs_none (S : PS) (v : Value) (hL : S.sq.num.n.length ≤ 32) (kind final : Int) (d : Nat) (w : World) (hd : PBlk w d S v) (hm : S.sq.many = true) :
    Calls Try.prog 39 #[.pointer (some ⟨d, 1, none⟩), .int .u8 kind, .int .i32 final] w (NewActs w (S.sq.acts kind final)) := by
  have h39 := hd.many hL
  rw [hm] at h39
  have hE : Hid (S.sq.acts kind final = []) := by show _ = _; unfold Sq.acts; rw [if_pos hm]
  go_enter Try.func39, Try.ntmps39
  go_wp2
  go_ret
  refine ⟨_, rfl, ?_, Below.refl _ _⟩
  rw [hE.out]
  exact ActsIn.nil _ _ _
set_option maxHeartbeats 4000000 in
theorem seqActs_one (S : PS) (v : Value) (hL : S.sq.num.n.length ≤ 32) (hc : S.sq.cnt ≤ 2) (kind final : Int) (d : Nat) (w : World) (hd : PBlk w d S v) (hm : S.sq.many = false) :
    Calls Try.prog 39 #[.pointer (some ⟨d, 1, none⟩), .int .u8 kind, .int .i32 final] w (NewActs w (S.sq.acts kind final)) := by
  have h39 := hd.many hL
  have h38 := hd.cnt hL
  have h1 := hd.c1
  rw [hm] at h39
  have hvals := Lib.hid (fun w' (h : PBlk w' d S v) => values_any S v hL d w' h)
  have hint := Lib.hid (fun w' (h : PBlk w' d S v) => inter_nums hL h)
  have hlen := inter_length hc
  obtain ⟨p, hp⟩ : ∃ p, S.sq.pr = p := ⟨_, rfl⟩
  obtain ⟨k, hk⟩ : ∃ k, S.sq.cnt = k := ⟨_, rfl⟩
  have hkeep := Lib.hid (fun w w1 (h : PBlk w d S v) (hb : Only [] w w1) => keep_seq hL hp hk h hb)
  rw [hp] at h1
  rw [hk] at h38 hlen hc
  have hE : Hid (S.sq.acts kind final = [⟨kind, 0, p, S.sq.num.n, S.sq.inter, final, []⟩]) := by show _ = _; unfold Sq.acts; rw [hm, if_neg (by simp), hp]
  have hlen' := Lib.hid hlen
  have hsl := slice_any k hc d
  generalize S.sq.num.n = ns at hvals hE
  generalize S.sq.inter = is at hint hE hlen hlen'
  clear hp hk hm hL hlen
  go_enter Try.func39, Try.ntmps39
  go_wp2
  go_region_held3 (fun w' => PBlk w' d S v ∧ w'.cell? ⟨d, 1, none⟩ = some (.int .i32 p) ∧ w'.cell? ⟨d, 38, none⟩ = some (.int .i64 k))
    (first
      | exact ⟨hd, h1, h38⟩
      | (go_split_ands; exact hkeep.out _ w1 (by assumption) (Only.of_below hb1 []))
      | (go_split_ands; exact hkeep.out _ w2 (by assumption) (by simpa [Value.ownBlock] using ho2))
      | (go_split_ands; exact hkeep.out _ _ (by assumption) (Only.alloc [] _ _))
      | go_keep)
    (first
      | (go_at_call 41; refine (hvals.out _ (by assumption)).mono ?_; rintro e w1 ⟨x1, rfl, hown1, hb1⟩; obtain ⟨a1, c1, rfl, _, _, _⟩ := hown1.shape)
      | (refine step_app elemR rfl (.const (.slice none 0 0)) (.tmp 27) rfl w.heap.size (.slice none 0 0) [] is (some ⟨d, 36, none⟩) _ 2 rfl (by rw [hlen'.out]; rfl) (Own.nil _ _ _ _) (hint.out _ (‹PBlk w1 d S v ∧ _›).1) (by first | exact Nat.le_refl _ | exact hb1.size) (by rw [hlen'.out]; simp; omega) (by rw [hlen'.out]; simp [maxLen]; omega) ?_; intro v2 w2 hown2 ho2 hat2; simp only [List.nil_append] at hown2; obtain ⟨a2, c2, rfl, _, _, _⟩ := hown2.shape))
  all_goals go_wp2
  go_ret
  have o1 : Only [] w w1 := (only_drew [] w).trans (Only.of_below hb1 [])
  have o2 : Only [] w1 w2 := by simpa [Value.ownBlock] using ho2
  refine ⟨_, rfl, ?_, ((o1.trans o2).trans (Only.alloc [] w2 _)).nil⟩
  rw [hE.out]
  exact made_acts w2 w.heap.size (o1.trans o2).size _ _ _ ⟨a1, c1, a2, c2, none, 0, rfl, numsP_new (hown1.only o2 (by simp)), numsP_new hown2, NumsP.nil _ _ _ _⟩
theorem seqActs_any (S : PS) (v : Value) (hL : S.sq.num.n.length ≤ 32) (hc : S.sq.cnt ≤ 2) (kind final : Int) (d : Nat) (w : World) (hd : PBlk w d S v) :
    Calls Try.prog 39 #[.pointer (some ⟨d, 1, none⟩), .int .u8 kind, .int .i32 final] w (NewActs w (S.sq.acts kind final)) := by
  by_cases hm : S.sq.many = true
  · exact seqActs_none S v hL kind final d w hd hm
  · exact seqActs_one S v hL hc kind final d w hd (by simpa using hm)

end Go.Proofs.Ytgkpcjhnphfkgaa.Prs
