/- Part 5 of the proof that the card of EmuNone holds. -/
import Derived.Test.YtkjpjegmanpbfaaGreatDoorPN04
set_option maxHeartbeats 16000000
set_option maxRecDepth 100000
namespace Go.Proofs.YtkjpjegmanpbfaaGreatDoor.Rw
open Go
def putOk (l : List Cel) (col x : Int) (wide : Bool) (a : At) : Prop := runeB x = true ∧ 0 ≤ col ∧ col + ((cellsPut x wide a).length : Int) ≤ l.length
instance (l : List Cel) (col x : Int) (wide : Bool) (a : At) : Decidable (putOk l col x wide a) := by unfold putOk; infer_instance
def putL (l : List Cel) (col x : Int) (wide : Bool) (a : At) : List Cel := if putOk l col x wide a then setL l col.toNat (cellsPut x wide a) else l
def putV (l : List Cel) (col x : Int) (wide : Bool) (a : At) : Int := if putOk l col x wide a then 0 else 2
def joiOk (l : List Cel) (col x : Int) : Prop := runeB x = true ∧ 0 ≤ col ∧ col < l.length
instance (l : List Cel) (col x : Int) : Decidable (joiOk l col x) := by unfold joiOk; infer_instance
def joiL (l : List Cel) (col x : Int) : List Cel := if joiOk l col x then joinL l col.toNat x else l
def joiV (l : List Cel) (col x : Int) : Int := if joiOk l col x then joinV l col.toNat else 2
def eraL (l : List Cel) (lo hi : Int) (a : At) : List Cel := eraseL l (heldF lo l.length) (heldF hi l.length) a
def inL (l : List Cel) (col k : Int) (a : At) : List Cel := insL l (heldF col l.length) (heldF k (l.length - heldF col l.length)) a
def deL (l : List Cel) (col k : Int) (a : At) : List Cel := delL l (heldF col l.length) (heldF k (l.length - heldF col l.length)) a
theorem held_le (i : Int) (n : Nat) : heldF i n ≤ n := Nat.min_le_right _ _
theorem held_in (c k : Int) (n : Nat) : heldF c n + heldF k (n - heldF c n) ≤ n := by
 have := held_le c n
 have := held_le k (n - heldF c n)
 omega
structure Keeps (P : Cel → Prop) : Prop where
 bl : ∀ c, P c → P (blank1 c)
 cl : ∀ a, P (clr a)
 jn : ∀ c x, P c → c.wide ≠ 2 → c.m.length < 4 → P (addMark c x)
theorem all_mend {P : Cel → Prop} (hP : Keeps P) {l : List Cel} (h : ∀ c ∈ l, P c) : ∀ c ∈ mendAll l, P c := by
 intro c hc
 obtain ⟨i, hi⟩ := List.getElem?_of_mem hc
 rw [mendAll_at] at hi
 cases hq : l[i]? with
 | none => simp [hq] at hi
 | some z =>
  rw [hq] at hi
  simp only [Option.map_some, Option.some.injEq] at hi
  have hz := h z (List.mem_of_getElem? hq)
  subst hi
  split
  ·exact hP.bl _ hz
  ·exact hz
theorem all_splice {P : Cel → Prop} {l cs : List Cel} {col : Nat} (h : ∀ c ∈ l, P c) (h2 : ∀ c ∈ cs, P c) : ∀ c ∈ splice l col cs, P c := by
 intro c hc
 unfold splice at hc
 rcases List.mem_append.1 hc with hc | hc
 ·exact h c (List.mem_of_mem_take hc)
 ·rcases List.mem_append.1 hc with hc | hc
  ·exact h2 c hc
  ·exact h c (List.mem_of_mem_drop hc)
theorem all_clr {P : Cel → Prop} (hP : Keeps P) (n : Nat) (a : At) : ∀ c ∈ List.replicate n (clr a), P c := fun c hc => by rw [(List.mem_replicate.1 hc).2]; exact hP.cl a
theorem all_set {P : Cel → Prop} (hP : Keeps P) {l cs : List Cel} {col : Nat} (h : ∀ c ∈ l, P c) (h2 : ∀ c ∈ cs, P c) : ∀ c ∈ setL l col cs, P c := all_mend hP (all_splice h h2)
theorem all_put {P : Cel → Prop} (hP : Keeps P) {l : List Cel} {col x : Int} {wide : Bool} {a : At} (h : ∀ c ∈ l, P c) (h2 : runeB x = true → ∀ c ∈ cellsPut x wide a, P c) : ∀ c ∈ putL l col x wide a, P c := by
 unfold putL
 split
 ·next hk => exact all_set hP h (h2 hk.1)
 ·exact h
theorem all_era {P : Cel → Prop} (hP : Keeps P) {l : List Cel} {lo hi : Int} {a : At} (h : ∀ c ∈ l, P c) : ∀ c ∈ eraL l lo hi a, P c := by
 unfold eraL eraseL
 split
 ·exact all_set hP h (all_clr hP _ _)
 ·exact h
theorem all_in {P : Cel → Prop} (hP : Keeps P) {l : List Cel} {col k : Int} {a : At} (h : ∀ c ∈ l, P c) : ∀ c ∈ inL l col k a, P c := by
 unfold inL insL
 refine all_mend hP fun c hc => ?_
 unfold insX at hc
 rcases List.mem_append.1 hc with hc | hc
 ·exact h c (List.mem_of_mem_take hc)
 ·rcases List.mem_append.1 hc with hc | hc
  ·exact all_clr hP _ _ c hc
  ·exact h c (List.mem_of_mem_drop (List.mem_of_mem_take hc))
theorem all_de {P : Cel → Prop} (hP : Keeps P) {l : List Cel} {col k : Int} {a : At} (h : ∀ c ∈ l, P c) : ∀ c ∈ deL l col k a, P c := by
 unfold deL delL
 intro c hc
 unfold delX at hc
 have hs := all_set hP (col := heldF col l.length) h (all_clr hP (heldF k (l.length - heldF col l.length)) a)
 rcases List.mem_append.1 hc with hc | hc
 ·exact hs c (List.mem_of_mem_take hc)
 ·rcases List.mem_append.1 hc with hc | hc
  ·exact hs c (List.mem_of_mem_drop hc)
  ·exact all_clr hP _ _ c hc
theorem joinAt_wide {l : List Cel} (hw : Whole l) {i : Nat} (hi : i < l.length) : W l (joinAt l i) ≠ 2 := by
 rw [whole_iff] at hw
 unfold joinAt
 split
 ·next h2 =>
  rcases i with _ | i
  ·exact absurd h2 hw.1
  ·rw [Nat.add_sub_cancel, (hw.2 i).2 h2]; decide
 ·assumption
theorem joiL_cases {l : List Cel} (hw : Whole l) (col x : Int) : joiL l col x = l ∨ ∃ (j : Nat) (hj : j < l.length), l[j].wide ≠ 2 ∧ l[j].m.length < 4 ∧ joiL l col x = l.set j (addMark l[j] x) := by
 unfold joiL
 split
 ·next hk =>
  obtain ⟨_, h0, h1⟩ := hk
  have hi : col.toNat < l.length := by omega
  have hj := joinAt_lt hi
  have hne := joinAt_wide hw hi
  unfold joinL
  rw [List.getElem?_eq_getElem hj]
  simp only
  split
  ·next h4 => exact .inr ⟨_, hj, by rwa [W_at hj] at hne, h4, rfl⟩
  ·exact .inl rfl
 ·exact .inl rfl
theorem all_joi {P : Cel → Prop} (hP : Keeps P) {l : List Cel} (hw : Whole l) {col x : Int} (h : ∀ c ∈ l, P c) : ∀ c ∈ joiL l col x, P c := by
 rcases joiL_cases hw col x with e | ⟨j, hj, h2, h4, e⟩
 ·rw [e]; exact h
 ·rw [e]
  intro c hc
  rcases List.mem_or_eq_of_mem_set hc with hc | rfl
  ·exact h c hc
  ·exact hP.jn _ _ (h _ (List.getElem_mem hj)) h2 h4
def Pairs (l : List Cel) : Prop := ∀ (i : Nat) (c c' : Cel), l[i]? = some c → l[i + 1]? = some c' → c.wide = 1 → c'.wide = 2 → c'.a = c.a
theorem Pairs.take {l : List Cel} (h : Pairs l) (k : Nat) : Pairs (l.take k) := fun i c c' h1 h2 => by
 rw [List.getElem?_take] at h1 h2
 split at h1
 ·split at h2
  ·exact h i c c' h1 h2
  ·cases h2
 ·cases h1
theorem Pairs.drop {l : List Cel} (h : Pairs l) (k : Nat) : Pairs (l.drop k) := fun i c c' h1 h2 => by
 rw [List.getElem?_drop] at h1 h2
 exact h (k + i) c c' h1 (by rw [← h2]; congr 1)
theorem Pairs.app {l l' : List Cel} (h : Pairs l) (h' : Pairs l') (hb : ∀ c c', l[l.length - 1]? = some c → l'[0]? = some c' → 0 < l.length → c.wide = 1 → c'.wide = 2 → c'.a = c.a) : Pairs (l ++ l') := fun i c c' h1 h2 => by
 rcases Nat.lt_or_ge (i + 1) l.length with hi | hi
 ·rw [List.getElem?_append_left (by omega)] at h1
  rw [List.getElem?_append_left hi] at h2
  exact h i c c' h1 h2
 ·rw [List.getElem?_append_right hi] at h2
  rcases Nat.lt_or_ge i l.length with hi2 | hi2
  ·rw [List.getElem?_append_left hi2] at h1
   obtain rfl : i = l.length - 1 := by omega
   exact hb c c' h1 (by rw [← h2]; congr 1; omega) (by omega)
  ·rw [List.getElem?_append_right hi2] at h1
   exact h' (i - l.length) c c' h1 (by rw [← h2]; congr 1; omega)
theorem pairs_zero {l : List Cel} (h : ∀ c ∈ l, c.wide = 0) : Pairs l := fun i c c' h1 _ h3 => by
 have := h c (List.mem_of_getElem? h1)
 omega
theorem pairs_clr (n : Nat) (a : At) : Pairs (List.replicate n (clr a)) := pairs_zero (fun c hc => by rw [(List.mem_replicate.1 hc).2]; rfl)
theorem pairs_put (x : Int) (wide : Bool) (a : At) : Pairs (cellsPut x wide a) := by
 cases wide
 ·exact pairs_zero (by simp [cellsPut])
 ·intro i c c' h1 h2 _ _
  rcases i with _ | i
  ·simp [cellsPut] at h1 h2
   rw [← h1, ← h2]
  ·simp [cellsPut] at h2
theorem Pairs.mend {l : List Cel} (h : Pairs l) : Pairs (mendAll l) := fun i c c' h1 h2 hw1 hw2 => by
 rw [mendAll_at] at h1 h2
 cases hq : l[i]? with
 | none => simp [hq] at h1
 | some z =>
  cases hq' : l[i + 1]? with
  | none => simp [hq'] at h2
  | some z' =>
   rw [hq] at h1
   rw [hq'] at h2
   simp only [Option.map_some, Option.some.injEq] at h1 h2
   split at h1
   ·subst h1; simp [blank1] at hw1
   ·split at h2
    ·subst h2; simp [blank1] at hw2
    ·subst h1 h2
     exact h i z z' hq hq' hw1 hw2
theorem Pairs.spl {l cs : List Cel} {col : Nat} (h : Pairs l) (hc : Pairs cs) (h0 : 0 < cs.length) (h1 : W cs 0 ≠ 2) (h2 : W cs (cs.length - 1) ≠ 1) : Pairs (splice l col cs) := by
 unfold splice
 refine (h.take col).app (hc.app (h.drop _) fun c c' e1 e2 _ w1 _ => ?_) fun c c' e1 e2 _ _ w2 => ?_
 ·exact absurd (by unfold W; rw [e1]; exact w1) h2
 ·rw [List.getElem?_append_left h0] at e2
  exact absurd (by unfold W; rw [e2]; exact w2) h1
theorem Pairs.set {l cs : List Cel} {col : Nat} (h : Pairs l) (hc : Pairs cs) (h0 : 0 < cs.length) (h1 : W cs 0 ≠ 2) (h2 : W cs (cs.length - 1) ≠ 1) : Pairs (setL l col cs) := (h.spl hc h0 h1 h2).mend
theorem W_rep (n : Nat) (a : At) (i : Nat) : W (List.replicate n (clr a)) i = 0 := W_whole0 (fun c hc => by rw [(List.mem_replicate.1 hc).2]; rfl) i
theorem Pairs.setClr {l : List Cel} {col : Nat} (h : Pairs l) (hw : Whole l) (n : Nat) (a : At) : Pairs (setL l col (List.replicate n (clr a))) := by
 rcases Nat.eq_zero_or_pos n with rfl | hn
 ·rw [List.replicate_zero, setL_nil hw]; exact h
 ·exact h.set (pairs_clr _ _) (by simpa using hn) (by rw [W_rep]; decide) (by rw [W_rep]; decide)
structure CelOk (c : Cel) : Prop where
 four : c.m.length ≤ 4
 wide : c.wide = 0 ∨ c.wide = 1 ∨ c.wide = 2
 rune : c.wide ≠ 2 → runeB c.r = true
 none : c.wide = 2 → c.r = 0 ∧ c.m = []
structure Good (l : List Cel) : Prop where
 whole : Whole l
 cell : ∀ c ∈ l, CelOk c
 pairs : Pairs l
theorem keeps_ok : Keeps CelOk := ⟨fun c _ => ⟨by simp [blank1], .inl rfl, fun _ => rfl, fun h => by simp [blank1] at h⟩, fun a => ⟨by simp [clr], .inl rfl, fun _ => rfl, fun h => by simp [clr] at h⟩, fun c x h h2 h4 => ⟨by simp [addMark]; omega, h.wide, h.rune, fun e => absurd e h2⟩⟩
theorem ok_put {x : Int} (hx : runeB x = true) (wide : Bool) (a : At) : ∀ c ∈ cellsPut x wide a, CelOk c := by
 cases wide
 ·intro c hc
  obtain rfl : c = ⟨x, [], 0, a⟩ := by simpa [cellsPut] using hc
  exact ⟨by simp, .inl rfl, fun _ => hx, fun h => by simp at h⟩
 ·intro c hc
  rcases (by simpa [cellsPut] using hc : c = ⟨x, [], 1, a⟩ ∨ c = ⟨0, [], 2, a⟩) with rfl | rfl
  ·exact ⟨by simp, .inr (.inl rfl), fun _ => hx, fun h => by simp at h⟩
  ·exact ⟨by simp, .inr (.inr rfl), fun h => by simp at h, fun _ => ⟨rfl, rfl⟩⟩
theorem Good.put {l : List Cel} (h : Good l) (col x : Int) (wide : Bool) (a : At) : Good (putL l col x wide a) := by
 refine ⟨?_, all_put keeps_ok h.cell (fun hx => ok_put hx wide a), ?_⟩
 ·unfold putL; split
  ·exact whole_setL _ _ _
  ·exact h.whole
 ·unfold putL; split
  ·refine h.pairs.set (pairs_put _ _ _) ?_ ?_ ?_ <;> cases wide <;> simp [cellsPut, W]
  ·exact h.pairs
theorem Good.joi {l : List Cel} (h : Good l) (col x : Int) : Good (joiL l col x) := by
 refine ⟨?_, all_joi keeps_ok h.whole h.cell, ?_⟩
 ·rcases joiL_cases h.whole col x with e | ⟨j, hj, h2, h4, e⟩
  ·rw [e]; exact h.whole
  ·rw [e]
   have hW : ∀ i, W (l.set j (addMark l[j] x)) i = W l i := fun i => by
    unfold W
    rw [List.getElem?_set]
    by_cases hji : j = i
    ·subst hji
     rw [if_pos rfl, if_pos hj, List.getElem?_eq_getElem hj]
     rfl
    ·rw [if_neg hji]
   have := h.whole
   rw [whole_iff] at this ⊢
   simp only [hW]
   exact this
 ·rcases joiL_cases h.whole col x with e | ⟨j, hj, h2, h4, e⟩
  ·rw [e]; exact h.pairs
  ·rw [e]
   have hA : ∀ (i : Nat) (c : Cel), (l.set j (addMark l[j] x))[i]? = some c → ∃ z : Cel, l[i]? = some z ∧ z.wide = c.wide ∧ z.a = c.a := fun i c hi => by
    rw [List.getElem?_set] at hi
    by_cases hji : j = i
    ·subst hji
     rw [if_pos rfl, if_pos hj] at hi
     simp only [Option.some.injEq] at hi
     exact ⟨_, List.getElem?_eq_getElem hj, by rw [← hi]; rfl, by rw [← hi]; rfl⟩
    ·rw [if_neg hji] at hi
     exact ⟨_, hi, rfl, rfl⟩
   intro i c c' h1 h3 w1 w2
   obtain ⟨z, hz, a1, a2⟩ := hA i c h1
   obtain ⟨z', hz', b1, b2⟩ := hA (i + 1) c' h3
   rw [← a2, ← b2]
   exact h.pairs i z z' hz hz' (a1.trans w1) (b1.trans w2)
theorem Good.era {l : List Cel} (h : Good l) (lo hi : Int) (a : At) : Good (eraL l lo hi a) := by
 refine ⟨?_, all_era keeps_ok h.cell, ?_⟩
 ·unfold eraL eraseL; split
  ·exact whole_setL _ _ _
  ·exact h.whole
 ·unfold eraL eraseL; split
  ·exact h.pairs.setClr h.whole _ _
  ·exact h.pairs
theorem Good.ins {l : List Cel} (h : Good l) (col k : Int) (a : At) : Good (inL l col k a) := by
 refine ⟨whole_mendAll _, all_in keeps_ok h.cell, ?_⟩
 unfold inL insL
 refine Pairs.mend ?_
 generalize heldF k (l.length - heldF col l.length) = n
 generalize heldF col l.length = c0
 rcases Nat.eq_zero_or_pos n with rfl | hn
 ·unfold insX
  rw [List.replicate_zero, List.nil_append, Nat.sub_zero, List.take_of_length_le (l := l.drop c0) (by rw [List.length_drop]; exact Nat.le_refl _), List.take_append_drop]
  exact h.pairs
 ·unfold insX
  refine (h.pairs.take c0).app ((pairs_clr _ _).app ((h.pairs.drop _).take _) fun c c' e1 e2 _ w1 _ => ?_) fun c c' e1 e2 _ _ w2 => ?_
  ·have := W_rep n a ((List.replicate n (clr a)).length - 1)
   unfold W at this
   rw [e1] at this
   simp only at this
   omega
  ·rw [List.getElem?_append_left (by simpa using hn)] at e2
   have := W_rep n a 0
   unfold W at this
   rw [e2] at this
   simp only at this
   omega
theorem Good.del {l : List Cel} (h : Good l) (col k : Int) (a : At) : Good (deL l col k a) := by
 have hin := held_in col k l.length
 refine ⟨?_, all_de keeps_ok h.cell, ?_⟩
 ·exact whole_delX a hin h.whole
 ·unfold deL delL
  generalize heldF k (l.length - heldF col l.length) = n at hin
  generalize heldF col l.length = c0 at hin
  have hs := h.pairs.setClr (col := c0) h.whole n a
  have hws := whole_setL l (List.replicate n (clr a)) c0
  unfold delX
  rcases Nat.eq_zero_or_pos n with rfl | hn
  ·rw [List.replicate_zero, List.append_nil, Nat.add_zero, List.take_append_drop]
   rw [List.replicate_zero] at hs
   exact hs
  ·have h0 := W_set_clr a hin (Nat.le_refl c0) (by omega)
   refine (hs.take c0).app ((hs.drop _).app (pairs_clr _ _) fun c c' e1 e2 _ _ w2 => ?_) fun c c' e1 e2 hp w1 _ => ?_
   ·have := W_rep n a 0
    unfold W at this
    rw [e2] at this
    simp only at this
    omega
   ·have hlen : ((setL l c0 (List.replicate n (clr a))).take c0).length = c0 := by
     rw [List.length_take, setL_length (by simpa using hin)]
     omega
    rw [hlen] at e1 hp
    rw [List.getElem?_take, if_pos (by omega)] at e1
    rw [whole_iff] at hws
    have h1 : W (setL l c0 (List.replicate n (clr a))) (c0 - 1) = 1 := by unfold W; rw [e1]; exact w1
    have h2 := (hws.2 (c0 - 1)).1 h1
    rw [show c0 - 1 + 1 = c0 by omega, h0] at h2
    omega
theorem good_new (n : Nat) : Good (List.replicate n (clr zeroAt)) := ⟨whole_clr _ _, all_clr keeps_ok _ _, pairs_clr _ _⟩
theorem joiL_len (l : List Cel) (col x : Int) : (joiL l col x).length = l.length := by
 unfold joiL; split
 ·unfold joinL
  split
  ·split
   ·simp
   ·rfl
  ·rfl
 ·rfl
theorem eraL_len (l : List Cel) (lo hi : Int) (a : At) : (eraL l lo hi a).length = l.length := by
 have := held_le hi l.length
 unfold eraL eraseL; split
 ·exact setL_length (by simp; omega)
 ·rfl
theorem inL_len (l : List Cel) (col k : Int) (a : At) : (inL l col k a).length = l.length := by
 unfold inL insL
 rw [mendAll_length]
 exact insX_length a (held_in col k l.length)
theorem deL_len (l : List Cel) (col k : Int) (a : At) : (deL l col k a).length = l.length := delX_length a (held_in col k l.length)
end Go.Proofs.YtkjpjegmanpbfaaGreatDoor.Rw
namespace Go.Proofs.YtkjpjegmanpbfaaGreatDoor.Rw
open Go Go.RowKit Go.Proofs.YtkjpjegmanpbfaaGreatDoor.Com
def apiC (c : Cel) (v : Value) : List Value := .int .i32 c.r :: v :: .int .u8 c.wide :: attV c.a
def apiP (p : Cel × Value) : List Value := apiC p.1 p.2
theorem apiP_length (p : Cel × Value) : (apiP p).length = 6 := rfl
theorem Own.one {w : World} {B : Nat} {e : TypeId} {k : IntKind} {v : Value} {l : List Int} (h : Own w B e k v l) : v.oneCell' = true := by
 obtain ⟨ao, c, rfl, _⟩ := h.shape
 rfl
theorem Own.typ {w : World} {B : Nat} {e : TypeId} {k : IntKind} {v : Value} {l : List Int} (h : Own w B e k v l) {g : Nat} (hg : v.ownBlock = some g) : Typ w g e := by
 rcases h.2 with ⟨rfl, _⟩ | ⟨x, cap, cur, rfl, _, hh, _⟩
 ·cases hg
 ·obtain rfl : x = g := by simpa [Value.ownBlock] using hg
  exact ⟨cur, _, hh⟩
theorem Own.fr {B B' : Nat} {ts : List TypeId} {w w' : World} {e : TypeId} {k : IntKind} {v : Value} {l : List Int} (h : Own w B e k v l) (hf : Fr B' ts w w') (he : e ∉ ts) : Own w' B e k v l := by
 have hty := fun g hg => Own.typ h (g := g) hg
 have hlt := fun g hg => (h.lt g hg).2
 refine ⟨h.1, ?_⟩
 rcases h.2 with h2 | ⟨g, cap, cur, rfl, hg, hh, r⟩
 ·exact .inl h2
 ·refine .inr ⟨g, cap, cur, rfl, hg, (hf.block g (hlt g rfl) (.inr fun t ht hT => he ?_)).trans hh, r⟩
  rw [Typ.inj (hty g rfl) hT]
  exact ht
structure Api (B : Nat) (w : World) (v : Value) (ps : List (Cel × Value)) : Prop where
 own : w.ownsRow B 64 6 v ps.length (fl apiP ps)
 comb : ∀ p ∈ ps, Own w B 21 .i32 p.2 p.1.m
theorem ownsRow_fr {B B' : Nat} {ts : List TypeId} {w w' : World} {e : TypeId} {s n : Nat} {v : Value} {xs : List Value} (h : w.ownsRow B e s v n xs) (hf : Fr B' ts w w') (he : e ∉ ts) : w'.ownsRow B e s v n xs := by
 have hlt := World.ownsRow.lt h
 refine ⟨h.1, ?_⟩
 rcases h.2 with h2 | ⟨g, cap, cur, rfl, hg, hh, r⟩
 ·exact .inl h2
 ·refine .inr ⟨g, cap, cur, rfl, hg, (hf.block g (hlt g rfl).2 (.inr fun t ht hT => he ?_)).trans hh, r⟩
  rw [Typ.inj (⟨cur, _, hh⟩ : Typ w g e) hT]
  exact ht
theorem Api.fr {B B' : Nat} {ts : List TypeId} {w w' : World} {v : Value} {ps : List (Cel × Value)} (h : Api B w v ps) (hf : Fr B' ts w w') (h1 : 64 ∉ ts) (h2 : 21 ∉ ts) : Api B w' v ps := ⟨ownsRow_fr h.own hf h1, fun p hp => Own.fr (h.comb p hp) hf h2⟩
theorem Api.below {B : Nat} {w w' : World} {v : Value} {ps : List (Cel × Value)} (h : Api B w v ps) (hb : Below w.heap.size w w') : Api B w' v ps := h.fr (Fr.of_below (B := 0) (ts := []) hb) (by simp) (by simp)
theorem Api.lower {B B' : Nat} {w : World} {v : Value} {ps : List (Cel × Value)} (h : Api B w v ps) (hB : B' ≤ B) : Api B' w v ps := ⟨by
 refine ⟨h.own.1, ?_⟩
 rcases h.own.2 with h2 | ⟨g, cap, cur, e, hg, r⟩
 ·exact .inl h2
 ·exact .inr ⟨g, cap, cur, e, Nat.le_trans hB hg, r⟩, fun p hp => (h.comb p hp).lower hB⟩
theorem elemI : Elem Tryz.prog 23 21 .i32 4 := by
 have h : (Tryz.prog.info? 21).map (fun i => (i.zero, i.size, i.bytes)) = some (some (.int .i32 0), 1, 4) := by kernel_rfl
 obtain ⟨i, h0, h1, h2, h3⟩ := info_parts h
 exact ⟨Tryz.underlying23, i, h0, h1, h2, h3⟩
theorem info48 : (Tryz.prog.info? 64).map (·.size) = some 6 := by kernel_rfl
theorem info48' (c : Cel) (v : Value) : (Tryz.prog.info? 64).map (·.size) = some (apiC c v).length := info48
theorem apiC_one {c : Cel} {v : Value} (h : v.oneCell' = true) : ∀ u ∈ apiC c v, u.oneCell' = true := by
 intro u hu
 simp only [apiC, attV, List.mem_cons, List.not_mem_nil, or_false] at hu
 rcases hu with rfl | rfl | rfl | rfl | rfl | rfl
 ·rfl
 ·exact h
 ·rfl
 ·rfl
 ·rfl
 ·rfl
theorem marks_slice (k : Nat) (hk : k ≤ 4) (bx : Nat) (w : World) :
  (Instr.sliceAt 155 (.pointer (some ⟨bx, 1, none⟩)) none (some (.int .u8 k)) none).run Tryz.prog w = .ok (.slice (some ⟨bx, 1, none⟩) k 4) w := by
 have ht : Tryz.prog.underlying 155 = some (.array (Tryz.prog.arrayLen 155) (Tryz.prog.elem 155)) := by kernel_rfl
 have hl : Tryz.prog.arrayLen 155 = 4 := by kernel_rfl
 have hi : (Tryz.prog.info? (Tryz.prog.elem 155)).map (·.size) = some 1 := by kernel_rfl
 rw [run_sliceAt_array_h w _ ⟨bx, 1, none⟩ ht .u8 k (by omega) (by rw [hl]; omega)]
 cases hq : Tryz.prog.info? (Tryz.prog.elem 155) with
 | none => simp [hq] at hi
 | some j =>
  have hs : j.size = 1 := by simpa [hq] using hi
  simp [sizeOf, typeInfo, hq, hs, slicedAt, hl, Addr.add]
theorem wpList_appk {P : Program} {t e : TypeId} {k : IntKind} {bytes : Nat} (E : Elem P t e k bytes) {w : World} {ops : Array Oper} {rest : List Oper} {o : Oper} {a : Go.Act} {Q : Exit → Go.Act → World → Prop} (hgd : Region.wanted o (yielded ops a.tmps) = true) (s x : Operand)
  (ho : o.op = .call { callee := .builtin .append, args := #[s, x], argTypes := #[t, t] })
  (B : Nat) (v : Value) (l m : List Int) (n : Nat) (hn' : n = m.length) (ao : Option Addr) (B' c : Nat) (hs : a.eval s = v) (hxe : a.eval x = .slice ao n c)
  (h : Own w B e k v l) (hm : Nums w B' k ao m) (hB : B ≤ w.heap.size) (hn : (l.length + n) * bytes ≤ 140737488355328) (hx : l.length + n ≤ maxLen)
  (hK : ∀ v' w', Own w' B e k v' (l ++ m) → Only v.ownBlock.toList w w' → (v'.ownBlock = v.ownBlock ∨ v'.ownBlock = some w.heap.size) → wpList P ops Q rest (a.put o.dst v') w') : wpList P ops Q (o :: rest) a w := by
 subst hn'
 exact wpList_app E hgd s x ho B v l m ao B' c hs hxe h hm hB hn hx hK
def ToldC (w : World) (c : Cel) (e : Ending) (w' : World) : Prop := ∃ v, e = .returned (.agg (apiC c v).toArray) ∧ Own w' w.heap.size 21 .i32 v c.m ∧ Below w.heap.size w w'
theorem told_any (c : Cel) (hm : c.m.length ≤ 4) (w : World) : Calls Tryz.prog 92 #[.agg (cellC c).toArray] w (ToldC w c) := by
 obtain ⟨r, m, wd, ⟨af, ab, ag⟩⟩ := c
 simp only at hm
 obtain ⟨p0, p1, p2, p3, hp⟩ : ∃ p0 p1 p2 p3, pad4 m = [p0, p1, p2, p3] := by
  match m, hm with
  | [], _ => exact ⟨_, _, _, _, rfl⟩
  | [_], _ => exact ⟨_, _, _, _, rfl⟩
  | [_, _], _ => exact ⟨_, _, _, _, rfl⟩
  | [_, _, _], _ => exact ⟨_, _, _, _, rfl⟩
  | [_, _, _, _], _ => exact ⟨_, _, _, _, rfl⟩
 have hmi : ∀ (i : Nat) (x : Int), m[i]? = some x → [p0, p1, p2, p3][i]? = some x := by
  intro i x hx
  rw [← hp, pad4, List.getElem?_take, if_pos (by have := (List.getElem?_eq_some_iff.1 hx).1; omega), List.getElem?_append_left (List.getElem?_eq_some_iff.1 hx).1]
  exact hx
 have hC : (cellC ⟨r, m, wd, ⟨af, ab, ag⟩⟩).toArray = #[.int .i32 r, .int .i32 p0, .int .i32 p1, .int .i32 p2, .int .i32 p3, .int .u8 m.length, .int .u8 wd, .int .u32 af, .int .u32 ab, .int .u16 ag] := by simp [cellC, hp, attV]
 rw [hC]
 have hbx := Block.made w 157 #[.int .i32 r, .int .i32 p0, .int .i32 p1, .int .i32 p2, .int .i32 p3, .int .u8 m.length, .int .u8 wd, .int .u32 af, .int .u32 ab, .int .u16 ag]
 have hnums : ∀ W, Block W w.heap.size 157 #[.int .i32 r, .int .i32 p0, .int .i32 p1, .int .i32 p2, .int .i32 p3, .int .u8 m.length, .int .u8 wd, .int .u32 af, .int .u32 ab, .int .u16 ag] → Nums W W.heap.size .i32 (some ⟨w.heap.size, 1, none⟩) m := by
  intro W hW i x hx
  refine ⟨_, rfl, hW.lt, ?_⟩
  rw [Addr.add_lit]
  refine hW.cell _ ?_
  have := hmi i x hx
  match i, this with
  | 0, h => simp at h; simp [h]
  | 1, h => simp at h; simp [h]
  | 2, h => simp at h; simp [h]
  | 3, h => simp at h; simp [h]
 have hsl := fun W => marks_slice m.length hm w.heap.size W
 have hb1 := hbx.alloc (.cells #[.int .i32 0, .slice none 0 0, .int .u8 0, .int .u32 0, .int .u32 0, .int .u16 0] 64)
 have hr1 : Block ((w.alloc (.cells #[.int .i32 r, .int .i32 p0, .int .i32 p1, .int .i32 p2, .int .i32 p3, .int .u8 m.length, .int .u8 wd, .int .u32 af, .int .u32 ab, .int .u16 ag] 157)).alloc (.cells #[.int .i32 0, .slice none 0 0, .int .u8 0, .int .u32 0, .int .u32 0, .int .u16 0] 64)) (w.heap.size + 1) 64 #[.int .i32 0, .slice none 0 0, .int .u8 0, .int .u32 0, .int .u32 0, .int .u16 0] := by
  have := Block.made (w.alloc (.cells #[.int .i32 r, .int .i32 p0, .int .i32 p1, .int .i32 p2, .int .i32 p3, .int .u8 m.length, .int .u8 wd, .int .u32 af, .int .u32 ab, .int .u16 ag] 157)) 64 #[.int .i32 0, .slice none 0 0, .int .u8 0, .int .u32 0, .int .u32 0, .int .u16 0]
  simpa using this
 have hbel : Below w.heap.size w ((w.alloc (.cells #[.int .i32 r, .int .i32 p0, .int .i32 p1, .int .i32 p2, .int .i32 p3, .int .u8 m.length, .int .u8 wd, .int .u32 af, .int .u32 ab, .int .u16 ag] 157)).alloc (.cells #[.int .i32 0, .slice none 0 0, .int .u8 0, .int .u32 0, .int .u32 0, .int .u16 0] 64)) := ((Below.refl _ _).alloc (Nat.le_refl _) _).alloc (by simp) _
 obtain ⟨k, hk⟩ : ∃ k, k = m.length := ⟨_, rfl⟩
 rw [← hk] at hsl hm
 have hkk := Lib.hid hk
 replace hnums := Lib.hid hnums
 clear hp hmi hC hbx
 rw [← hk] at hnums hb1 hr1 hbel ⊢
 clear hk
 replace hb1 := Lib.hid hb1
 replace hr1 := Lib.hid hr1
 replace hbel := Lib.hid hbel
 go_enter Tryz.func92, Tryz.ntmps92
 go_wp2_with (first
  | (with_reducible show wpList _ _ _ (⟨some 8, .call _, _, _, _, _⟩ :: _) _ _; go_must (refine wpList_appk elemI rfl (.const (.slice none 0 0)) (.tmp 7) rfl w.heap.size (.slice none 0 0) [] m k hkk.out (some ⟨w.heap.size, 1, none⟩) (w.heap.size + 2) 4 rfl rfl (Own.nil _ _ _ _) (by simpa using hnums.out _ hb1.out) (by simp; omega) (by simp; omega) (by simp [maxLen]; omega) ?_); intro v2 w2 hown2 ho2 hat2; obtain ⟨a2, n2, c2, rfl⟩ := own_slice hown2; have ho2' := only_none ho2; have hbx2 := hb1.out.only ho2' (by simp); have hr2 := hr1.out.only ho2' (by simp); have f0 := hbx2.cell 0 rfl; have f6 := hbx2.cell 6 rfl; have f7 := hbx2.cell 7 rfl; have f8 := hbx2.cell 8 rfl; have f9 := hbx2.cell 9 rfl)
  | (with_reducible show wpList _ _ _ (⟨none, .store _ (.tmp 2) _, _, _, _, _⟩ :: _) _ _; go_must (refine wpList_storeN rfl 64 (.tmp 2) (.tmp 16) rfl (g := (w.heap.size + 1)) (i := 0) hr2 (apiC ⟨r, m, wd, ⟨af, ab, ag⟩⟩ (.slice a2 n2 c2)) rfl rfl (by simp [apiC, attV]) (info48' _ _) (apiC_one rfl) ?_); intro w3 hr3 ho3))
 have hn1 : w.heap.size + 1 ∉ (Value.slice a2 n2 c2).ownBlock.toList := fun hm => by
  have := Own.typ hown2 (by simpa using hm)
  exact absurd (Typ.inj this (Block.typ hr2)) (by decide)
 have hown3 := hown2.only ho3 (fun g hg hm => hn1 (by simp at hm; subst hm; rw [hg]; simp))
 rw [List.nil_append] at hown3
 have hb3 : Block w3 (w.heap.size + 1) 64 (apiC ⟨r, m, wd, ⟨af, ab, ag⟩⟩ (.slice a2 n2 c2)).toArray := by
  have := hr3.out
  simpa [splice, apiC, attV] using this
 have hbel2 : Below w.heap.size w w2 := hbel.out.trans (ho2'.nil.mono (by simp; omega))
 exact bodyPost_ret (v := .agg (apiC ⟨r, m, wd, ⟨af, ab, ag⟩⟩ (.slice a2 n2 c2)).toArray) (results_cell_row rfl _ _ (w.heap.size + 1) 64 _ (0, 0) _ rfl hb3 Tryz.underlying64 rfl (info48' _ _)) rfl ⟨_, rfl, Own.lower hown3 (by simp), hbel2.trans (ho3.below hbel2.size (by simp))⟩
end Go.Proofs.YtkjpjegmanpbfaaGreatDoor.Rw
