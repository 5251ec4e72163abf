/-
  screen: lines that are inserted, and deleted there again: plain; laws on max and min. screen: ScreenBack.
-/
import Derived.Test.YtaoegfdaemmogaaNKn0
import Derived.Test.YtaoegfdaemmogaaNArg
namespace Go.Proofs.Ytaoegfdaemmogaa.Scn
open Go Go.RowKit Go.Proofs.Ytaoegfdaemmogaa.Com Go.Proofs.Ytaoegfdaemmogaa.Rw Go.Proofs.Ytaoegfdaemmogaa.Lns
section
variable {P : Program}
theorem wpList_max {ops : Array Oper} {rest : List Oper} {o : Oper} {a : Go.Act} {w : World} {Q : Exit → Go.Act → World → Prop} (hgd : o.guard = none) (x y : Operand) (ts : Array TypeId)
    (ho : o.op = .call { callee := .builtin .max, args := #[x, y], argTypes := ts }) (m n z : Int) (hx : a.eval x = .int .i64 m) (hy : a.eval y = .int .i64 n) (hz : max m n = z) (h : wpList P ops Q rest (a.put o.dst (.int .i64 z)) w) : wpList P ops Q (o :: rest) a w :=
  wpList_plain hgd fun _ hK => by
    have hrun : (Builtin.max_ ts o.type #[.int .i64 m, .int .i64 n]).run P w = .ok (.int .i64 z) w := by
      have e : (if n > m then n else m) = z := by rw [← hz]; split <;> omega
      simp [Builtin.max_, Builtin.max2, e]
    unfold Oper.wp execOp
    simp only [ho, resolve, invoke, builtin, Sem.run_bind, Sem.run_pure, Result.andThen_ok, List.map_toArray, List.map_cons, List.map_nil, hx, hy, hrun]
    exact hK _ _ h
theorem wpList_min {ops : Array Oper} {rest : List Oper} {o : Oper} {a : Go.Act} {w : World} {Q : Exit → Go.Act → World → Prop} (hgd : o.guard = none) (x y : Operand) (ts : Array TypeId)
    (ho : o.op = .call { callee := .builtin .min, args := #[x, y], argTypes := ts }) (m n z : Int) (hx : a.eval x = .int .i64 m) (hy : a.eval y = .int .i64 n) (hz : min m n = z) (h : wpList P ops Q rest (a.put o.dst (.int .i64 z)) w) : wpList P ops Q (o :: rest) a w :=
  wpList_plain hgd fun _ hK => by
    have hrun : (Builtin.min_ ts o.type #[.int .i64 m, .int .i64 n]).run P w = .ok (.int .i64 z) w := by
      have e : (if n < m then n else m) = z := by rw [← hz]; split <;> omega
      simp [Builtin.min_, Builtin.min2, e]
    unfold Oper.wp execOp
    simp only [ho, resolve, invoke, builtin, Sem.run_bind, Sem.run_pure, Result.andThen_ok, List.map_toArray, List.map_cons, List.map_nil, hx, hy, hrun]
    exact hK _ _ h
end
theorem insA_nil {α : Type} (A : List α) (i : Nat) : insA A i [] = A := by simp [insA]
theorem out_ins {α : Type} {A : List α} {t k : Nat} {F : List α} (hF : F.length = k) (ht : t ≤ A.length) : outA (insA A t F) t k = A := by
  unfold outA insA
  have hl : (A.take t).length = t := by rw [List.length_take]; omega
  rw [List.take_append_of_le_length (by omega), List.take_of_length_le (by omega), List.drop_append, hl, List.drop_eq_nil_of_le (by omega), List.nil_append, show t + k - t = k by omega, List.drop_append, hF, List.drop_eq_nil_of_le (by omega), Nat.sub_self]
  simp
theorem chg_0 (S : Scr) (f i : Nat) (a : At) (push : Bool) : chg S f 0 i 0 a push = S := by
  have h1 : insA (outA S.L f 0) i (freshS S.nx S.cols 0 a) = S.L := by
    rw [outA_0]
    exact insA_nil _ _
  unfold chg
  rw [h1]
  cases push <;> simp [pushes]
theorem up_0 (S : Scr) (f : Nat) (n : Int) (hn : n ≤ 0) (a : At) (push : Bool) : upS S f n a push = S := by
  unfold upS
  have : heldF n (S.bot + 1 - f) = 0 := by unfold heldF; omega
  rw [this]
  exact chg_0 _ _ _ _ _
theorem down_0 (S : Scr) (f : Nat) (n : Int) (hn : n ≤ 0) (a : At) : downS S f n a = S := by
  unfold downS
  have : heldF n (S.bot + 1 - f) = 0 := by unfold heldF; omega
  rw [this]
  exact chg_0 _ _ _ _ _
theorem ids_fresh (nx cols m : Nat) (a : At) : idsL (freshS nx cols m a) = (List.range m).map fun (j : Nat) => ((nx : Int) + (j : Int)) := zero_ids nx cols m a
/-- What is there behind an insertion and a deletion. -/
theorem back_L {S : Scr} {t : Nat} (ht : t ≤ S.bot) (hb : S.bot < S.L.length) (n : Int) (a : At) :
    (upS (downS S t n a) t n a false).L = S.L.take (S.bot + 1 - heldF n (S.bot + 1 - t)) ++ (freshS (S.nx + heldF n (S.bot + 1 - t)) S.cols (heldF n (S.bot + 1 - t)) a ++ S.L.drop (S.bot + 1)) ∧ (upS (downS S t n a) t n a false).R = S.R := by
  have hk := held_leN n (S.bot + 1 - t)
  refine ⟨?_, rfl⟩
  show insA (outA (insA (outA S.L (S.bot + 1 - heldF n (S.bot + 1 - t)) (heldF n (S.bot + 1 - t))) t (freshS S.nx S.cols (heldF n (S.bot + 1 - t)) a)) t (heldF n (S.bot + 1 - t))) (S.bot + 1 - heldF n (S.bot + 1 - t)) (freshS (S.nx + heldF n (S.bot + 1 - t)) S.cols (heldF n (S.bot + 1 - t)) a) = _
  generalize heldF n (S.bot + 1 - t) = k at hk ⊢
  rw [out_ins (freshS_len _ _ _ _) (by rw [outA_len _ (by omega)]; omega)]
  unfold insA outA
  have hl : (S.L.take (S.bot + 1 - k)).length = S.bot + 1 - k := by rw [List.length_take]; omega
  rw [List.take_append_of_le_length (by omega), List.take_of_length_le (by omega), List.drop_append, hl, List.drop_eq_nil_of_le (by omega), List.nil_append, Nat.sub_self, List.drop_zero, show S.bot + 1 - k + k = S.bot + 1 by omega]
/-- The ids then: those behind k rows of the bottom margin are others, the rest as before. -/
theorem back_ids {S : Scr} (hF : Fit S) {t : Nat} (ht : t ≤ S.bot) (n : Int) (a : At) :
    (idsL (upS (downS S t n a) t n a false).L).length = S.L.length ∧ ∀ i, i < S.L.length → ∃ y z, (idsL S.L)[i]? = some y ∧ (idsL (upS (downS S t n a) t n a false).L)[i]? = some z ∧ (z = y ↔ ¬ (S.bot + 1 - heldF n (S.bot + 1 - t) ≤ i ∧ i ≤ S.bot)) := by
  have hb := hF.bot
  have hk := held_leN n (S.bot + 1 - t)
  rw [(back_L ht hb n a).1]
  generalize heldF n (S.bot + 1 - t) = k at hk ⊢
  have hl : (S.L.take (S.bot + 1 - k)).length = S.bot + 1 - k := by rw [List.length_take]; omega
  have hlen : (S.L.take (S.bot + 1 - k) ++ (freshS (S.nx + k) S.cols k a ++ S.L.drop (S.bot + 1))).length = S.L.length := by
    rw [List.length_append, List.length_append, hl, freshS_len, List.length_drop]; omega
  refine ⟨by simp only [idsL, List.length_map]; exact hlen, fun i hi => ?_⟩
  have hi2 : i < (S.L.take (S.bot + 1 - k) ++ (freshS (S.nx + k) S.cols k a ++ S.L.drop (S.bot + 1))).length := by omega
  refine ⟨S.L[i].1, ((S.L.take (S.bot + 1 - k) ++ (freshS (S.nx + k) S.cols k a ++ S.L.drop (S.bot + 1)))[i]'hi2).1, by simp [idsL, hi], by simp only [idsL, List.getElem?_map, List.getElem?_eq_getElem hi2]; rfl, ?_⟩
  by_cases c1 : i < S.bot + 1 - k
  · have : (S.L.take (S.bot + 1 - k) ++ (freshS (S.nx + k) S.cols k a ++ S.L.drop (S.bot + 1)))[i]'hi2 = S.L[i] := by
      rw [List.getElem_append_left (by omega), List.getElem_take]
    rw [this]
    simp; omega
  · by_cases c2 : i ≤ S.bot
    · have hm : (S.L.take (S.bot + 1 - k) ++ (freshS (S.nx + k) S.cols k a ++ S.L.drop (S.bot + 1)))[i]'hi2 ∈ freshS (S.nx + k) S.cols k a := by
        rw [List.getElem_append_right (by omega), List.getElem_append_left (by rw [freshS_len]; omega)]
        exact List.getElem_mem _
      have h1 := (freshS_mem hm).2.1
      have h2 := (hF.ids _ (List.getElem_mem hi)).2
      constructor
      · intro e; omega
      · intro e; omega
    · have : (S.L.take (S.bot + 1 - k) ++ (freshS (S.nx + k) S.cols k a ++ S.L.drop (S.bot + 1)))[i]'hi2 = S.L[i] := by
        rw [List.getElem_append_right (by omega), List.getElem_append_right (by rw [freshS_len]; omega), List.getElem_drop]
        congr 1
        rw [freshS_len, hl]
        omega
      rw [this]
      simp; omega
section
variable {B : Nat} {w w' : World} {x s : Nat} {S : Scr}
theorem Up_0 (h : SC B w x s S) (hF : Fit S) (hnx : S.nx + 512 ≤ 1000000) (a : At) : Calls Try.prog 23 #[.pointer (some ⟨x, 0, none⟩), .int .i64 0, .agg #[.int .u32 a.f, .int .u32 a.b, .int .u16 a.g]] w (DidV B w x s S 0) := by
  by_cases hk : S.kp = true ∧ S.top = 0
  · have := Up_keep h hF 0 hnx a hk
    rwa [up_0 S S.top 0 (Int.le_refl _)] at this
  · have := Up_forget h hF 0 hnx a (by
      by_cases h1 : S.kp = true
      · exact .inr fun h2 => hk ⟨h1, h2⟩
      · exact .inl (by simpa using h1))
    rwa [up_0 S S.top 0 (Int.le_refl _)] at this
theorem Down_0 (h : SC B w x s S) (hF : Fit S) (hnx : S.nx + 512 ≤ 1000000) (a : At) : Calls Try.prog 24 #[.pointer (some ⟨x, 0, none⟩), .int .i64 (-1), .agg #[.int .u32 a.f, .int .u32 a.b, .int .u16 a.g]] w (DidV B w x s S 0) := by
  have := Down_sc h hF (-1) hnx a
  rwa [down_0 S S.top (-1) (by decide)] at this
theorem own_fr {B' : Nat} {ts : List TypeId} {k : IntKind} {e : TypeId} {v : Value} {l : List Int} (h : Own w B e k v l) (hf : Fr B' ts w w') (ht : e ∉ ts) : Own w' B e k v l := owns_fr h hf ht
end
end Go.Proofs.Ytaoegfdaemmogaa.Scn
namespace Go.Proofs.Ytaoegfdaemmogaa.Scn
open Go Go.RowKit Go.Proofs.Ytaoegfdaemmogaa.Com Go.Proofs.Ytaoegfdaemmogaa.Rw Go.Proofs.Ytaoegfdaemmogaa.Lns
section
variable {B : Nat} {w w' : World} {x s : Nat} {S : Scr}
/-- Margins are set, whatever they are. -/
def SetAny (B : Nat) (w : World) (x s : Nat) (S : Scr) (e : Ending) (w' : World) : Prop :=
  ∃ (v : Int) (S' : Scr), e = .returned (.int .i64 v) ∧ SC B w' x s S' ∧ Fit S' ∧ S'.R = S.R ∧ S'.nx = S.nx ∧ S'.L = S.L ∧ Fr B PT w w'
theorem Fit.setm (h : Fit S) {t b : Nat} (hok : okMarg S t b) : Fit { S with top := t, bot := b } := by
  have h1 := h.len
  refine ⟨h.len, h.len5, ?_, ?_, h.c1, h.c5, h.wid, h.ids, h.pos⟩
  · show b < S.L.length
    unfold okMarg at hok
    omega
  · show t ≤ b
    unfold okMarg at hok
    omega
theorem setm_any (h : SC B w x s S) (hF : Fit S) (t b : Int) : Calls Try.prog 21 #[.pointer (some ⟨x, 0, none⟩), .int .i64 t, .int .i64 b] w (SetAny B w x s S) := by
  by_cases hok : okMarg S t b
  · have h1 := hF.len
    have ht : 0 ≤ t ∧ 0 ≤ b := by unfold okMarg at hok; omega
    obtain ⟨t, rfl⟩ : ∃ n : Nat, t = n := ⟨t.toNat, by omega⟩
    obtain ⟨b, rfl⟩ : ∃ n : Nat, b = n := ⟨b.toNat, by omega⟩
    refine (setm_yes h hF t b hok).mono ?_
    rintro e w' ⟨rfl, hs, hf⟩
    exact ⟨0, _, rfl, hs, hF.setm hok, rfl, rfl, rfl, hf⟩
  · refine (setm_no h hF t b hok).mono ?_
    rintro e w' ⟨rfl, rfl⟩
    exact ⟨2, S, rfl, h, hF, rfl, rfl, rfl, Fr.refl _ _ _⟩
theorem alike_own {B1 B2 : Nat} {v1 v2 : Value} {l m : List Int} (h1 : Own w B1 3 .i64 v1 l) (h2 : Own w B2 3 .i64 v2 m) (hl : l.length ≤ 100000) : Calls Try.prog 25 #[v1, v2] w fun e w' => e = .returned (.bool (decide (l = m))) ∧ Below w.heap.size w w' := by
  obtain ⟨a1, c1, rfl, hn1⟩ := own_nums' h1
  obtain ⟨a2, c2, rfl, hn2⟩ := own_nums' h2
  exact alike_any w hn1 hn2 (Nat.le_refl _) (Nat.le_refl _) hl
theorem alike_same {B1 B2 : Nat} {v1 v2 : Value} {l : List Int} (h1 : Own w B1 3 .i64 v1 l) (h2 : Own w B2 3 .i64 v2 l) (hl : l.length ≤ 100000) : Calls Try.prog 25 #[v1, v2] w fun e w' => e = .returned (.bool true) ∧ Below w.heap.size w w' := by
  have := alike_own h1 h2 hl
  rwa [decide_eq_true rfl] at this
theorem len_0 (h : SC B w x s S) (hR : S.R = []) : Calls Try.prog 26 #[.pointer (some ⟨s, 0, none⟩)] w fun e w' => e = .returned (.int .i64 0) ∧ w = w' := by
  have := len_sc h
  rw [hR] at this
  exact this
theorem own_below {k : IntKind} {e : TypeId} {v : Value} {l : List Int} (h : Own w B e k v l) (hb : Below w.heap.size w w') : Own w' B e k v l := own_fr h (Fr.of_below (B := 0) (ts := []) hb) (by simp)
theorem idsL_len (L : List Ln) : (idsL L).length = L.length := List.length_map _
end
set_option maxRecDepth 100000 in
set_option maxHeartbeats 8000000 in
theorem back_yes (rows cols : Nat) (hr1 : 1 ≤ rows) (hr5 : rows ≤ 12) (hc1 : 1 ≤ cols) (hc5 : cols ≤ 20) (top bottom at' n : Int) (a : At) (W : World) :
    Calls Try.prog 4 #[.int .i64 rows, .int .i64 cols, .int .i64 top, .int .i64 bottom, .int .i64 at', .int .i64 n, .agg #[.int .u32 a.f, .int .u32 a.b, .int .u16 a.g]] W fun e W' => e = .returned (.bool true) ∧ Below W.heap.size W W' := by
  have hr12 : (rows : Int) ≤ 12 := by omega
  have hc20 : (cols : Int) ≤ 20 := by omega
  have hb1 := below_new W (.cells #[.int .u32 a.f, .int .u32 a.b, .int .u16 a.g] 36)
  have hbx := Block.made W 36 #[.int .u32 a.f, .int .u32 a.b, .int .u16 a.g]
  have hFit : Fit (newS 1 5 rows cols true []) := newS_fit hr1 (by omega) hc1 (by omega) (by decide)
  have hnx0 : (newS 1 5 rows cols true []).nx = 1 + rows := rfl
  have hR0 : (newS 1 5 rows cols true []).R = [] := rfl
  have hK := Lib.hid (fun w => known_any w)
  obtain ⟨S0, hS0⟩ : ∃ S0, S0 = newS 1 5 rows cols true [] := ⟨_, rfl⟩
  have hmd : Hid (∀ w, Calls Try.prog 8 #[.int .i64 rows, .int .i64 cols, .int .i64 5, .bool true] w fun e w' => ∃ x s, e = .returned (.tuple #[.pointer (some ⟨x, 0, none⟩), .pointer (some ⟨s, 0, none⟩), .bool true]) ∧ SC w.heap.size w' x s S0 ∧ Below w.heap.size w w') := Lib.hid (fun w => by
    subst hS0
    exact made_yes rows cols 5 true hr1 (by omega) hc1 (by omega) (by decide) w)
  rw [← hS0] at hFit hnx0 hR0
  replace hFit := Lib.hid hFit
  replace hnx0 := Lib.hid hnx0
  replace hR0 := Lib.hid hR0
  obtain ⟨af, ab, ag⟩ := a
  simp only at hb1 hbx ⊢
  obtain ⟨bx, hbxe⟩ : ∃ bx, bx = W.heap.size := ⟨_, rfl⟩
  rw [← hbxe] at hbx
  replace hb1 := Lib.hid hb1
  replace hbxe := Lib.hid hbxe
  clear hS0 hr1 hc1
  go_enter Try.func4, Try.ntmps4
  go_wp2_with (fail)
  generalize W.alloc (.cells #[.int .u32 af, .int .u32 ab, .int .u16 ag] 36) = W1 at hbx hb1 ⊢
  rw [← hbxe.out]
  have hbox := Lib.hid (fun w' (hf : Fr W1.heap.size PT W1 w') => (⟨(Block.fr hbx hf (.inl (by decide))).cell 0 rfl, (Block.fr hbx hf (.inl (by decide))).cell 1 rfl, (Block.fr hbx hf (.inl (by decide))).cell 2 rfl⟩ : w'.cell? ⟨bx, 0, none⟩ = some (.int .u32 af) ∧ w'.cell? ⟨bx, 1, none⟩ = some (.int .u32 ab) ∧ w'.cell? ⟨bx, 2, none⟩ = some (.int .u16 ag)))
  have hU := fun w x s S (h : SC W1.heap.size w x s S) hF hnx => Up_0 h hF hnx ⟨af, ab, ag⟩
  have hD := fun w x s S (h : SC W1.heap.size w x s S) hF hnx => Down_0 h hF hnx ⟨af, ab, ag⟩
  simp only at hU hD
  replace hU := Lib.hid hU
  replace hD := Lib.hid hD
  clear hbx
  with_reducible refine (hmd.out _).mono ?_
  rintro e w1 ⟨x, s, rfl, hs1, hb1'⟩
  have hf1 : Fr W1.heap.size PT W1 w1 := Fr.of_below hb1'
  go_wp2_with (first
    | (go_at_call 21; (with_reducible refine (setm_any hs1 hFit.out top bottom).mono ?_); rintro e w2 ⟨v2, S, rfl, hs2, hF, hR, hnx, hL, hf2⟩; have hR' := Lib.hid (hR.trans hR0.out); have hnx' : S.nx + 2000 ≤ 1000000 := by { have := hnx0.out; omega }; clear hR hL hnx)
    | (go_at_call 22; (with_reducible refine (margins_sc hs2 hF.len).mono ?_); rintro e w3 ⟨rfl, hb3⟩; have hs3 := hs2.below hb3)
    | (go_at_call 11; (with_reducible refine (ids_sc hs3 hF).mono ?_); rintro e w4 ⟨v4, rfl, hO4, hb4⟩; have hs4 := hs3.below hb4; have hf4 := hf1.trans (hf2.trans ((Fr.of_below hb3).trans (Fr.of_below hb4))); obtain ⟨x0, x1, x2⟩ := hbox.out _ hf4)
    | (go_at_call 23; (with_reducible refine (hU.out _ _ _ _ hs4 hF (by omega)).mono ?_); rintro e w5 ⟨rfl, hs5, hf5⟩; obtain ⟨y0, y1, y2⟩ := hbox.out _ (hf4.trans hf5))
    | (go_at_call 24; (with_reducible refine (hD.out _ _ _ _ hs5 hF (by omega)).mono ?_); rintro e w6 ⟨rfl, hs6, hf6⟩; have hO6 := own_fr hO4 (hf5.trans hf6) (by decide); obtain ⟨z0, z1, z2⟩ := hbox.out _ ((hf4.trans hf5).trans hf6))
    | (go_at_call 11; (with_reducible refine (ids_sc hs6 hF).mono ?_); rintro e w7 ⟨v7, rfl, hO7, hb7⟩; have hs7 := hs6.below hb7; have hO67 := own_below hO6 hb7)
    | (go_at_call 25; (with_reducible refine (alike_same hO7 hO67 (by rw [idsL_len]; have := hF.len5; omega)).mono ?_); rintro e w8 ⟨rfl, hb8⟩; have hs8 := hs7.below hb8; have hO8 := own_below hO67 hb8)
    | (go_at_call 26; (with_reducible refine (len_0 hs8 hR'.out).mono ?_); rintro e w9 ⟨rfl, rfl⟩))
  have hf8 : Fr W1.heap.size PT W1 w8 := (((hf4.trans hf5).trans hf6).trans (Fr.of_below hb7)).trans (Fr.of_below hb8)
  have hd8 : Below w8.heap.size w8 w8.drew := below_dr (Below.refl _ _) 1
  have hsd := hs8.below hd8
  have hfd : Fr W1.heap.size PT W1 w8.drew := hf8.trans (Fr.of_below hd8)
  have hOd : Own w8.drew w3.heap.size 3 .i64 v4 (idsL S.L) := own_below hO8 hd8
  obtain ⟨b0, b1, b2⟩ := hbox.out _ hf8
  have hcd := hbox.out _ hfd
  replace hf8 := Lib.hid hf8
  replace hfd := Lib.hid hfd
  replace hOd := Lib.hid hOd
  replace hsd := Lib.hid hsd
  have htop := hF.top
  have hbl := hF.bot
  have hl5 := hF.len5
  clear hs1 hs2 hs3 hs4 hs5 hs6 hs7 hs8 hf1 hf2 hf4 hf5 hf6 hb3 hb4 hb7 hb8 hb1' hO4 hO6 hO7 hO67 hO8 x0 x1 x2 y0 y1 y2 z0 z1 z2 hU hD hmd hFit hnx0 hR0 hd8
  by_cases hat : (S.top : Int) ≤ at' ∧ at' ≤ S.bot
  · obtain ⟨t, rfl⟩ : ∃ t : Nat, at' = t := ⟨at'.toNat, by omega⟩
    have ht0 : S.top ≤ t := by omega
    have ht1 : t ≤ S.bot := by omega
    have hkl := held_leN n (S.bot + 1 - t)
    have hii := fun w' (hs : SC W1.heap.size w' x s S) => ins_yes hs hF t n ht0 ht1 (by omega) ⟨af, ab, ag⟩
    have hF1 := hF.down ht1 n ⟨af, ab, ag⟩
    have hbot1 : (downS S t n ⟨af, ab, ag⟩).bot = S.bot := rfl
    have htop1 : (downS S t n ⟨af, ab, ag⟩).top = S.top := rfl
    have hnx1 : (downS S t n ⟨af, ab, ag⟩).nx = S.nx + heldF n (S.bot + 1 - t) := rfl
    have hF2 : Fit (upS (downS S t n ⟨af, ab, ag⟩) t n ⟨af, ab, ag⟩ false) := hF1.up (by rw [hbot1]; exact ht1) n ⟨af, ab, ag⟩ false
    have hde := fun w' (hs : SC W1.heap.size w' x s (downS S t n ⟨af, ab, ag⟩)) => del_yes hs hF1 t n (by rw [htop1]; exact ht0) (by rw [hbot1]; exact ht1) (by rw [hnx1]; omega) ⟨af, ab, ag⟩
    have hbk := back_ids hF ht1 n ⟨af, ab, ag⟩
    have hRR := (back_L ht1 hF.bot n ⟨af, ab, ag⟩).2
    obtain ⟨k, hk⟩ : ∃ k, k = heldF n (S.bot + 1 - t) := ⟨_, rfl⟩
    rw [← hk] at hbk hkl
    generalize upS (downS S t n ⟨af, ab, ag⟩) t n ⟨af, ab, ag⟩ false = S2 at hF2 hde hbk hRR
    generalize downS S t n ⟨af, ab, ag⟩ = S1 at hii hde hF1 hbot1 htop1 hnx1
    simp only at hii hde
    have hR2 := Lib.hid (hRR.trans hR'.out)
    have hidl := fun w' (hs : SC W1.heap.size w' x s S2) => ids_sc hs hF2
    obtain ⟨m1, hm1⟩ : ∃ m1, m1 = max n 0 := ⟨_, rfl⟩
    have hm2 : min m1 ((S.bot : Int) - (t : Int) + 1) = (k : Int) := by
      rw [hm1, hk]
      unfold heldF
      omega
    obtain ⟨N, hN⟩ : ∃ N, N = S.L.length := ⟨_, rfl⟩
    rw [← hN] at hbk hl5 hbl
    have hlI := idsL_len S.L
    have hlI2 := idsL_len S2.L
    have hlI3 : (idsL S2.L).length = N := hbk.1
    replace hbk := hbk.2
    rw [← hN] at hlI
    generalize idsL S2.L = I2 at hbk hlI2 hlI3 hidl
    generalize idsL S.L = I at hbk hlI hOd
    have hw1 : IntKind.i64.wrap ((S.bot : Int) - (t : Int)) = (S.bot : Int) - (t : Int) := IntWalk.i64_in _ (by omega)
    have hw2 : IntKind.i64.wrap ((S.bot : Int) - (t : Int) + 1) = (S.bot : Int) - (t : Int) + 1 := IntWalk.i64_in _ (by omega)
    have hw3 : IntKind.i64.wrap ((S.bot : Int) - (k : Int)) = (S.bot : Int) - (k : Int) := IntWalk.i64_in _ (by omega)
    have htI : (S.top : Int) ≤ (t : Int) := by omega
    have htI2 : (t : Int) ≤ (S.bot : Int) := by omega
    generalize S.top = tp at *
    generalize S.bot = bo at *
    replace hii := Lib.hid hii
    replace hde := Lib.hid hde
    replace hidl := Lib.hid hidl
    replace hbk := Lib.hid hbk
    replace hm1 := Lib.hid hm1
    replace hm2 := Lib.hid hm2
    replace hlI := Lib.hid hlI
    replace hlI3 := Lib.hid hlI3
    clear hN hlI2 hRR hF1 hF2 hbot1 htop1 hnx1 ht0 hat hk htop hF hnx'
    go_region_held3 (fun w' => w'.cell? ⟨bx, 0, none⟩ = some (.int .u32 af) ∧ w'.cell? ⟨bx, 1, none⟩ = some (.int .u32 ab) ∧ w'.cell? ⟨bx, 2, none⟩ = some (.int .u16 ag))
      (first | exact ⟨b0, b1, b2⟩ | exact hcd | exact hz2 | exact hz1)
      (first
        | (go_at_call 27; (with_reducible refine (hii.out _ hsd.out).mono ?_); rintro r wa ⟨rfl, hsa, hfa⟩; have hz1 := hbox.out _ (hfd.out.trans hfa))
        | (go_at_call 28; (with_reducible refine (hde.out _ hsa).mono ?_); rintro r wb ⟨rfl, hsb, hfb⟩; have hz2 := hbox.out _ ((hfd.out.trans hfa).trans hfb)))
    have hOb := own_fr hOd.out (hfa.trans hfb) (by decide)
    have hfW := Lib.hid ((hfd.out.trans hfa).trans hfb)
    obtain ⟨a4, c4, rfl, hn4⟩ := own_nums' hOb
    rw [hlI.out]
    clear hz1 hz2 hsa hfa hfb hii hde hcd b0 b1 b2
    go_wp2_with (first
      | (with_reducible show wpList _ _ _ (⟨some 109, .call _, _, _, _, _⟩ :: _) _ _; go_must (refine wpList_max rfl (.tmp 108) _ _ rfl n 0 m1 rfl rfl hm1.out.symm ?_))
      | (with_reducible show wpList _ _ _ (⟨some 114, .call _, _, _, _, _⟩ :: _) _ _; go_must (refine wpList_min rfl (.tmp 109) (.tmp 113) _ rfl m1 ((bo : Int) - (t : Int) + 1) k rfl rfl hm2.out ?_))
      | (go_at_call 11; (with_reducible refine (hidl.out _ hsb).mono ?_); rintro e wc ⟨vc, rfl, hOc, hbc⟩; obtain ⟨ac, cc, rfl, hnc⟩ := own_nums' hOc; rw [hlI3.out]))
    have hn4' := hn4.below hbc (Nat.le_refl _)
    have hsc := hsb.below hbc
    have hfc := Lib.hid (hfW.out.trans (Fr.of_below hbc))
    have hA := fun w' (hb : Below wc.heap.size wc w') => And.intro (hn4'.below hb hbc.size) (hnc.below hb (Nat.le_refl _))
    replace hA := Lib.hid hA
    replace hsc := Lib.hid hsc
    clear hn4 hn4' hnc hOc hOb hsb hbc hm1 hm2 hw1 hw2
    go_loopw [119] (fun iv wr => ∃ j : Nat, j ≤ N ∧ iv = .int .i64 j ∧ Hid (Below wc.heap.size wc wr)) (fun iv _ => N - (intOf iv).toNat)
    case atStart => exact ⟨0, Nat.zero_le _, rfl, Lib.hid (Below.refl _ _)⟩
    case round =>
      obtain ⟨j, hj, rfl, hB⟩ := hrel
      by_cases hlt : j < N
      · have hjI : (j : Int) < (N : Int) := by omega
        obtain ⟨y, z, hy, hz, hiff⟩ := hbk.out j hlt
        obtain ⟨n1, n2⟩ := hA.out _ hB.out
        obtain ⟨d1, rfl, _, q1⟩ := n1 j y hy
        obtain ⟨d2, rfl, _, q2⟩ := n2 j z hz
        have hnext := Lib.hid (fun w' (hb : Below wr.heap.size wr w') => below_next hB.out hb)
        clear hy hz n1 n2
        by_cases c : bo + 1 - k ≤ j ∧ j ≤ bo
        · have hne : (z == y) = false := beq_eq_false_iff_ne.2 (fun h => (hiff.1 h) c)
          have r1 : (bo : Int) - (k : Int) < (j : Int) := by omega
          have r2 : (j : Int) ≤ (bo : Int) := by omega
          clear hiff c
          go_wp2
          go_quiet (fail)
          go_wp2
          go_roundw
          case rel => exact ⟨j + 1, by omega, by go_num, Lib.hid (hnext.out _ (below_dr (Below.refl _ _) _))⟩
          case measure => simp [intOf]; omega
        · obtain rfl := hiff.2 c
          clear hiff
          by_cases r1 : (bo : Int) - (k : Int) < (j : Int)
          · have r2 : (bo : Int) < (j : Int) := by omega
            clear c
            go_wp2
            go_quiet (fail)
            go_wp2
            go_roundw
            case rel => exact ⟨j + 1, by omega, by go_num, Lib.hid (hnext.out _ (below_dr (Below.refl _ _) _))⟩
            case measure => simp [intOf]; omega
          · clear c
            go_wp2
            go_quiet (fail)
            go_wp2
            go_roundw
            case rel => exact ⟨j + 1, by omega, by go_num, Lib.hid (hnext.out _ (below_dr (Below.refl _ _) _))⟩
            case measure => simp [intOf]; omega
      · obtain rfl : j = N := by omega
        have hse := hsc.out.below hB.out
        go_wp2_with (first
          | (go_at_call 26; (with_reducible refine (len_0 hse hR2.out).mono ?_); rintro e w9 ⟨rfl, rfl⟩)
          | (go_at_call 7; (with_reducible refine (hK.out _).mono ?_); rintro e we ⟨rfl, hbe⟩))
        go_ret
        exact ⟨rfl, hb1.out.trans ((((hfc.out.trans (Fr.of_below hB.out)).trans (Fr.of_below hbe)).below (Nat.le_refl _)).mono hb1.out.size)⟩
  · have hii := fun w' (hs : SC W1.heap.size w' x s S) => ins_no hs hF at' n hat ⟨af, ab, ag⟩
    have hde := fun w' (hs : SC W1.heap.size w' x s S) => del_no hs hF at' n hat ⟨af, ab, ag⟩
    simp only at hii hde
    replace hii := Lib.hid hii
    replace hde := Lib.hid hde
    have hidl := fun w' (hs : SC W1.heap.size w' x s S) => ids_sc hs hF
    have hll : Hid ((idsL S.L).length ≤ 100000) := Lib.hid (by rw [idsL_len]; omega)
    replace hidl := Lib.hid hidl
    clear hl5 htop hbl
    go_region_held3 (fun w' => w'.cell? ⟨bx, 0, none⟩ = some (.int .u32 af) ∧ w'.cell? ⟨bx, 1, none⟩ = some (.int .u32 ab) ∧ w'.cell? ⟨bx, 2, none⟩ = some (.int .u16 ag))
      (first | exact ⟨b0, b1, b2⟩ | exact hcd | exact hz2 | exact hz1)
      (first
        | (go_at_call 27; (with_reducible refine (hii.out _ hsd.out).mono ?_); rintro r wa ⟨rfl, hsa, hfa⟩; have hz1 := hbox.out _ (hfd.out.trans hfa))
        | (go_at_call 28; (with_reducible refine (hde.out _ hsa).mono ?_); rintro r wb ⟨rfl, hsb, hfb⟩; have hz2 := hbox.out _ ((hfd.out.trans hfa).trans hfb)))
    have hOb := own_fr hOd.out (hfa.trans hfb) (by decide)
    have hfW := Lib.hid ((hfd.out.trans hfa).trans hfb)
    clear hz1 hz2 hsa hfa hfb hii hde hcd b0 b1 b2
    by_cases h1 : at' < (S.top : Int)
    · clear hat
      go_wp2_with (first
        | (go_at_call 11; (with_reducible refine (hidl.out _ hsb).mono ?_); rintro e wc ⟨vc, rfl, hOc, hbc⟩; have hOb' := own_below hOb hbc)
        | (go_at_call 25; (with_reducible refine (alike_same hOc hOb' hll.out).mono ?_); rintro e wd ⟨rfl, hbd⟩)
        | (go_at_call 7; (with_reducible refine (hK.out _).mono ?_); rintro e we ⟨rfl, hbe⟩))
      go_ret
      exact ⟨rfl, hb1.out.trans (((((hfW.out.trans (Fr.of_below hbc)).trans (Fr.of_below hbd)).trans (Fr.of_below hbe)).below (Nat.le_refl _)).mono hb1.out.size)⟩
    · have h2 : (S.bot : Int) < at' := by omega
      clear hat
      go_wp2_with (first
        | (go_at_call 11; (with_reducible refine (hidl.out _ hsb).mono ?_); rintro e wc ⟨vc, rfl, hOc, hbc⟩; have hOb' := own_below hOb hbc)
        | (go_at_call 25; (with_reducible refine (alike_same hOc hOb' hll.out).mono ?_); rintro e wd ⟨rfl, hbd⟩)
        | (go_at_call 7; (with_reducible refine (hK.out _).mono ?_); rintro e we ⟨rfl, hbe⟩))
      go_ret
      exact ⟨rfl, hb1.out.trans (((((hfW.out.trans (Fr.of_below hbc)).trans (Fr.of_below hbd)).trans (Fr.of_below hbe)).below (Nat.le_refl _)).mono hb1.out.size)⟩
set_option maxHeartbeats 2000000 in
theorem back_law (rows : Int) (_ : (Lit.int .i64 rows).wf = true) (cols : Int) (_ : (Lit.int .i64 cols).wf = true) (top : Int) (_ : (Lit.int .i64 top).wf = true) (bottom : Int) (_ : (Lit.int .i64 bottom).wf = true) (at' : Int) (_ : (Lit.int .i64 at').wf = true) (n : Int) (_ : (Lit.int .i64 n).wf = true) (a : At) (_ : AtOk a) (W : World) :
    Calls Try.prog 4 #[.int .i64 rows, .int .i64 cols, .int .i64 top, .int .i64 bottom, .int .i64 at', .int .i64 n, .agg (attV a).toArray] W fun e W' => e = .returned (.bool true) ∧ Below W.heap.size W W' := by
  have hV : (attV a).toArray = #[.int .u32 a.f, .int .u32 a.b, .int .u16 a.g] := rfl
  rw [hV]
  have hb1 := below_new W (.cells #[.int .u32 a.f, .int .u32 a.b, .int .u16 a.g] 36)
  have hK := Lib.hid (fun w => known_any w)
  by_cases c1 : 12 < rows
  · obtain ⟨af, ab, ag⟩ := a
    simp only at hb1 ⊢
    replace hb1 := Lib.hid hb1
    go_enter Try.func4, Try.ntmps4
    go_wp2_with ((go_at_call 7; (with_reducible refine (hK.out _).mono ?_); rintro e we ⟨rfl, hbe⟩))
    go_ret
    exact ⟨rfl, below_next hb1.out hbe⟩
  · by_cases c2 : 20 < cols
    · have c1' := decide_eq_false c1
      obtain ⟨af, ab, ag⟩ := a
      simp only at hb1 ⊢
      replace hb1 := Lib.hid hb1
      go_enter Try.func4, Try.ntmps4
      go_wp2_with ((go_at_call 7; (with_reducible refine (hK.out _).mono ?_); rintro e we ⟨rfl, hbe⟩))
      go_ret
      exact ⟨rfl, below_next hb1.out hbe⟩
    · by_cases c3 : 1 ≤ rows ∧ 1 ≤ cols
      · obtain ⟨r, rfl⟩ : ∃ r : Nat, rows = r := ⟨rows.toNat, by omega⟩
        obtain ⟨c, rfl⟩ : ∃ c : Nat, cols = c := ⟨cols.toNat, by omega⟩
        exact back_yes r c (by omega) (by omega) (by omega) (by omega) top bottom at' n a W
      · have hN := Lib.hid (fun w => made_no rows cols 5 true (fun h => c3 ⟨h.1.1, h.2.1.1⟩) w)
        have c1' := decide_eq_false c1
        have c2' := decide_eq_false c2
        obtain ⟨af, ab, ag⟩ := a
        simp only at hb1 ⊢
        replace hb1 := Lib.hid hb1
        clear c3
        go_enter Try.func4, Try.ntmps4
        go_wp2_with (first
          | (go_at_call 8; (with_reducible refine (hN.out _).mono ?_); rintro e w1 ⟨q, rfl, hbm⟩)
          | (go_at_call 7; (with_reducible refine (hK.out _).mono ?_); rintro e we ⟨rfl, hbe⟩))
        go_ret
        exact ⟨rfl, below_next (below_next hb1.out hbm) hbe⟩
end Go.Proofs.Ytaoegfdaemmogaa.Scn
