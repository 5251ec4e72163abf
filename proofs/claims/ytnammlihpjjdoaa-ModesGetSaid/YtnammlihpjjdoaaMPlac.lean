/-
  modes: the map of places is made; what stands at each number.
-/
import Derived.Test.YtnammlihpjjdoaaMIns
import Derived.RegionTactic
namespace Go.Proofs.Ytnammlihpjjdoaa.Mds
open Go Go.RowKit Go.Proofs.Ytnammlihpjjdoaa.Com

/-- The function that answers the flag's place. -/
def funOf : Nat → Nat
  | 0 => 24
  | 1 => 25
  | 2 => 26
  | 3 => 27
  | 4 => 28
  | 5 => 29
  | 6 => 23
  | 7 => 30
  | _ => 0
def tab : List En := [⟨false, 4, 24⟩, ⟨false, 20, 25⟩, ⟨true, 1, 26⟩, ⟨true, 6, 27⟩, ⟨true, 7, 28⟩, ⟨true, 25, 29⟩, ⟨true, 47, 23⟩, ⟨true, 1047, 23⟩, ⟨true, 1049, 23⟩, ⟨true, 2004, 30⟩]
/-- The entry that the operation puts. -/
def ent : Nat → En
  | 2 => ⟨false, 4, 24⟩
  | 4 => ⟨false, 20, 25⟩
  | 6 => ⟨true, 1, 26⟩
  | 8 => ⟨true, 6, 27⟩
  | 10 => ⟨true, 7, 28⟩
  | 12 => ⟨true, 25, 29⟩
  | 15 => ⟨true, 47, 23⟩
  | 18 => ⟨true, 1047, 23⟩
  | 21 => ⟨true, 1049, 23⟩
  | 23 => ⟨true, 2004, 30⟩
  | _ => ⟨false, 0, 0⟩
def all : List Nat := [2, 4, 6, 8, 10, 12, 15, 18, 21, 23]
def tail (j : Nat) : Bool := j == 24 || j == 25
theorem tab_ent (e : En) : (∃ i ∈ all, e = ent i) ↔ e ∈ tab := by
  have h : tab = all.map ent := rfl
  rw [h, List.mem_map]
  exact ⟨fun ⟨i, hi, he⟩ => ⟨i, hi, he.symm⟩, fun ⟨i, hi, he⟩ => ⟨i, hi, he.symm⟩⟩

theorem fineL (l : List En) (h : (l.all fun e => (Lit.int .i64 e.n).wf) = true) : Fine l := fun e he => List.all_eq_true.1 h e he
theorem fine_tab : Fine tab := fineL _ (by decide)
/-- The entry at a number. -/
theorem tab_at {p : Bool} {n : Int} {e : En} (he : e ∈ tab) (hp : e.p = p) (hn : e.n = n) : spot p n < 8 ∧ e.f = funOf (spot p n) := by
  subst hp
  subst hn
  simp only [tab, List.mem_cons, List.not_mem_nil, or_false] at he
  rcases he with rfl | rfl | rfl | rfl | rfl | rfl | rfl | rfl | rfl | rfl
  all_goals exact ⟨by decide, rfl⟩
theorem spot_tab {p : Bool} {n : Int} (h : ∀ e ∈ tab, ¬ (e.p = p ∧ e.n = n)) : spot p n = 8 := by
  simp only [tab, List.mem_cons, List.not_mem_nil, or_false, forall_eq_or_imp, forall_eq] at h
  obtain ⟨h0, h1, h2, h3, h4, h5, h6, h7, h8, h9⟩ := h
  cases p
  all_goals
    unfold spot
    simp at *
  · rw [if_neg (by omega), if_neg (by omega)]
  · rw [if_neg (by omega), if_neg (by omega), if_neg (by omega), if_neg (by omega), if_neg (by omega), if_neg (by omega), if_neg (by omega), if_neg (by omega)]

/-- Block b is the map of places. -/
def Places (w : World) (b : Nat) : Prop := ∃ l, Mp w b l ∧ ∀ e, e ∈ l ↔ e ∈ tab
/-- What a look-up finds in it. -/
theorem look_place {w : World} {b : Nat} (h : Places w b) (p : Bool) {n : Int} (hw : (Lit.int .i64 n).wf = true) :
    (spot p n = 8 ∧ (Instr.lookup 41 (.map (some b)) (kv p n) true).run Try.prog w = .ok (.tuple #[.nilFunc, .bool false]) w) ∨
    (spot p n < 8 ∧ (Instr.lookup 41 (.map (some b)) (kv p n) true).run Try.prog w = .ok (.tuple #[.func (.func (funOf (spot p n))) #[] #[], .bool true]) w) := by
  obtain ⟨l, hm, hl⟩ := h
  rcases look_any hm (fun e he => fine_tab e ((hl e).1 he)) p hw with ⟨h1, h2⟩ | ⟨e, he, hp, hn, hr⟩
  · exact .inl ⟨spot_tab fun e he => h2 e ((hl e).2 he), h1⟩
  · obtain ⟨q1, q2⟩ := tab_at ((hl e).1 he) hp hn
    rw [q2] at hr
    exact .inr ⟨q1, hr⟩

set_option maxHeartbeats 2000000 in
theorem places_any (w : World) :
    Calls Try.prog 20 #[] w fun e w' => ∃ b, e = .returned (.map (some b)) ∧ Places w' b ∧ Below w.heap.size w w' := by
  go_enter Try.func20, Try.ntmps20
  go_wp2
  refine wp_region_any rfl ?_
  refine wpAny_take (i := 1) (oi := ⟨some 3, _, _, _, _, _⟩) (v := .agg #[.bool false, .int .i64 4]) rfl (by kernel_rfl) (by kernel_rfl) (by kernel_rfl) (fun _ _ _ h => h) (.inl ⟨by rfl, by intro w; go_simp⟩) ?_
  refine wpAny_take (i := 3) (oi := ⟨some 4, _, _, _, _, _⟩) (v := .agg #[.bool false, .int .i64 20]) rfl (by kernel_rfl) (by kernel_rfl) (by kernel_rfl) (fun _ _ _ h => h) (.inl ⟨by rfl, by intro w; go_simp⟩) ?_
  refine wpAny_take (i := 5) (oi := ⟨some 5, _, _, _, _, _⟩) (v := .agg #[.bool true, .int .i64 1]) rfl (by kernel_rfl) (by kernel_rfl) (by kernel_rfl) (fun _ _ _ h => h) (.inl ⟨by rfl, by intro w; go_simp⟩) ?_
  refine wpAny_take (i := 7) (oi := ⟨some 6, _, _, _, _, _⟩) (v := .agg #[.bool true, .int .i64 6]) rfl (by kernel_rfl) (by kernel_rfl) (by kernel_rfl) (fun _ _ _ h => h) (.inl ⟨by rfl, by intro w; go_simp⟩) ?_
  refine wpAny_take (i := 9) (oi := ⟨some 7, _, _, _, _, _⟩) (v := .agg #[.bool true, .int .i64 7]) rfl (by kernel_rfl) (by kernel_rfl) (by kernel_rfl) (fun _ _ _ h => h) (.inl ⟨by rfl, by intro w; go_simp⟩) ?_
  refine wpAny_take (i := 11) (oi := ⟨some 8, _, _, _, _, _⟩) (v := .agg #[.bool true, .int .i64 25]) rfl (by kernel_rfl) (by kernel_rfl) (by kernel_rfl) (fun _ _ _ h => h) (.inl ⟨by rfl, by intro w; go_simp⟩) ?_
  refine wpAny_take (i := 13) (oi := ⟨some 9, _, _, _, _, _⟩) (v := .agg #[.bool true, .int .i64 47]) rfl (by kernel_rfl) (by kernel_rfl) (by kernel_rfl) (fun _ _ _ h => h) (.inl ⟨by rfl, by intro w; go_simp⟩) ?_
  refine wpAny_take (i := 14) (oi := ⟨some 10, _, _, _, _, _⟩) (v := .func (.func 23) #[] #[]) rfl (by kernel_rfl) (by kernel_rfl) (by kernel_rfl) (fun _ _ _ h => h) (.inl ⟨by rfl, by intro w; go_simp⟩) ?_
  refine wpAny_take (i := 16) (oi := ⟨some 11, _, _, _, _, _⟩) (v := .agg #[.bool true, .int .i64 1047]) rfl (by kernel_rfl) (by kernel_rfl) (by kernel_rfl) (fun _ _ _ h => h) (.inl ⟨by rfl, by intro w; go_simp⟩) ?_
  refine wpAny_take (i := 17) (oi := ⟨some 12, _, _, _, _, _⟩) (v := .func (.func 23) #[] #[]) rfl (by kernel_rfl) (by kernel_rfl) (by kernel_rfl) (fun _ _ _ h => h) (.inl ⟨by rfl, by intro w; go_simp⟩) ?_
  refine wpAny_take (i := 19) (oi := ⟨some 13, _, _, _, _, _⟩) (v := .agg #[.bool true, .int .i64 1049]) rfl (by kernel_rfl) (by kernel_rfl) (by kernel_rfl) (fun _ _ _ h => h) (.inl ⟨by rfl, by intro w; go_simp⟩) ?_
  refine wpAny_take (i := 20) (oi := ⟨some 14, _, _, _, _, _⟩) (v := .func (.func 23) #[] #[]) rfl (by kernel_rfl) (by kernel_rfl) (by kernel_rfl) (fun _ _ _ h => h) (.inl ⟨by rfl, by intro w; go_simp⟩) ?_
  refine wpAny_take (i := 22) (oi := ⟨some 15, _, _, _, _, _⟩) (v := .agg #[.bool true, .int .i64 2004]) rfl (by kernel_rfl) (by kernel_rfl) (by kernel_rfl) (fun _ _ _ h => h) (.inl ⟨by rfl, by intro w; go_simp⟩) ?_
  refine wpAny_all (rs := [0]) (by kernel_rfl) (by simp) ?_
  intro i hi
  obtain rfl := List.mem_singleton.1 hi
  refine wpOp_makeMap (o := ⟨some 2, _, _, _, _, _⟩) rfl rfl rfl ?_
  refine inserts ent all tail ?_ ?_ (of_decide_eq_true (by kernel_rfl)) (of_decide_eq_true (by kernel_rfl)) (w.drew.alloc (.map #[] 0)) 2 ?_ 10 all [] _ _ rfl (of_decide_eq_true (by kernel_rfl)) (fun _ h => h) (by kernel_rfl) (of_decide_eq_true (by kernel_rfl)) (Mp.made w.drew) ?_ (Only.refl _ _)
  · intro i hi
    simp only [all, List.mem_cons, List.not_mem_nil, or_false] at hi
    rcases hi with rfl | rfl | rfl | rfl | rfl | rfl | rfl | rfl | rfl | rfl
    all_goals exact ⟨_, rfl, rfl, rfl, by kernel_rfl, _, _, _, rfl, rfl, rfl, rfl⟩
  · intro j hj
    simp only [tail, Bool.or_eq_true, beq_iff_eq] at hj
    rcases hj with rfl | rfl
    all_goals exact ⟨_, rfl, of_decide_eq_true (by kernel_rfl)⟩
  · intro listed l w1 hs hl hm hmem ho
    have hL := listed_eq hs hl
    subst hL
    have hb : Below w.heap.size w w1 := ((below_dr (Below.refl w.heap.size w) 1).trans (below_new w.drew _)).trans (ho.below (by simp) (by simp))
    have hP : Places w1 w.drew.heap.size := ⟨l, hm, fun e => (hmem e).trans (tab_ent e)⟩
    refine wpAny_take (i := 24) (oi := ⟨some 16, _, _, _, _, _⟩) (v := .map (some w.drew.heap.size)) rfl (by kernel_rfl) (by kernel_rfl) (by kernel_rfl) (fun _ _ _ h => h) (.inl ⟨by rfl, by intro w; go_simp⟩) ?_
    refine wpAny_take (i := 25) (oi := ⟨some 0, _, _, _, _, _⟩) (v := .map (some w.drew.heap.size)) rfl (by kernel_rfl) (by kernel_rfl) (by kernel_rfl) (fun _ _ _ h => h) (.inl ⟨by rfl, by intro w; go_simp⟩) ?_
    refine wpAny_done (by kernel_rfl) ?_ _
    dsimp only [Act.put]
    go_wp2
    go_ret
    exact ⟨_, rfl, hP, hb⟩
  · intro e
    constructor
    · intro h
      simp at h
    · rintro ⟨i, hi, h, _⟩
      exact absurd hi h

end Go.Proofs.Ytnammlihpjjdoaa.Mds
