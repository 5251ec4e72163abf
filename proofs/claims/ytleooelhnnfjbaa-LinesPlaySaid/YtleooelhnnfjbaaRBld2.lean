/-
  row: what is built, as plain lists: the document's own calls and the program's.
-/
import Derived.Test.YtleooelhnnfjbaaRBld
namespace Go.Proofs.Ytleooelhnnfjbaa.Rw
open Go Go.RowKit Go.Proofs.Ytleooelhnnfjbaa.Com

theorem info44 : (Try.prog.info? 51).map (·.size) = some 1 := by kernel_rfl
theorem lit_at (w : World) (V : List Value) : ∀ j u, V[j]? = some u → (w.alloc (.cells V.toArray 87)).cell? ((⟨w.heap.size, 0, none⟩ : Addr).add j) = some u := fun j u hj => by
  rw [Addr.add_lit, Nat.zero_add]
  exact (Block.made w 87 V.toArray).cell j (by simpa using hj)
def RefDone (B : Nat) (w : World) (d : Nat) (l : List Cel) (e : Ending) (w' : World) : Prop := (∃ v, e = .returned v) ∧ RefIn B w' d l ∧ Only [d] w w'
theorem bld_start {B : Nat} {w w1 : World} {d gv n cap : Nat} {ps : List (Cel × Value)} {a : At} (h : RefX B w d gv n cap ps) (hb : Block w1 w.heap.size 36 (attV a).toArray) (hbel : Below w.heap.size w w1 := by exact below_new _ _) : Bld B w w1 d gv n cap ps w.heap.size true a (.slice none 0 0) [] (.slice none 0 0) [] :=
  ⟨h.below hbel, fun _ => hb, World.ownsRow_nil _ _ _ _, by simp, Own.nil _ _ _ _, hbel, h.ptr.lt, (h.api.lt gv rfl).2⟩

theorem ref_done {B B2 : Nat} {w wr w2 w3 : World} {d gv n cap : Nat} {ps : List (Cel × Value)} {bx : Nat} {bo : Bool} {a : At} {m gl cl gw cw : Nat} {qs : List (Cel × Value)} {ws : List Int} {tail : List Value} {f : Nat → Int} {l : List Cel} {v : Value} {lv wv : Value}
    (hB : Bld B w wr d gv n cap ps bx bo a lv qs wv ws) (ho : Only [d] wr w2) (hW : WSt B B2 w2 w3 d gl gw m cl cw tail qs f m)
    (hqk : qs.length = m) (h0 : 0 < m) (h5 : m ≤ 512) (h1 : m ≤ cl) (h2 : cl ≤ maxLen) (hgl : w.heap.size ≤ gl) (hgw : w.heap.size ≤ gw) (h7 : (fl apiP qs ++ tail).length = cl * 6) (hX : wholeTo (cels qs) f m = l) : RefDone B w d l (.returned v) w3 := by
  have hlo := hB.lo
  have hbel := hB.below
  refine ⟨⟨v, rfl⟩, ⟨gl, m, cl, psTo qs f m, hW.ref hqk h0 h5 h1 h2 (by omega) hB.ref.lo h7, by rw [psTo_cels, hX]⟩, ?_⟩
  exact ((Only.of_below hbel [d]).trans ho).then hW.only (fun k hk => .inr (by simp at hk; omega))

def qSet (ps : List (Cel × Value)) (lo hi : Nat) (a : At) (i : Nat) : Cel × Value := if lo ≤ i ∧ i < hi then (clr a, .slice none 0 0) else ps.getD i zp
theorem cels_range (n : Nat) (qF : Nat → Cel × Value) : cels ((List.range n).map qF) = (List.range n).map (fun i => (qF i).1) := by simp [cels]
theorem W_range (n : Nat) (g : Nat → Cel) (i : Nat) : W ((List.range n).map g) i = if i < n then (g i).wide else 0 := by
  unfold W
  by_cases h : i < n
  · rw [if_pos h]; simp [h]
  · rw [if_neg h]; simp [h]
theorem W_cels (ps : List (Cel × Value)) (i : Nat) : W (cels ps) i = (ps.getD i zp).1.wide := by
  unfold W
  by_cases h : i < ps.length
  · simp [cels, h]
  · simp [cels, h, zp, zeroCel]
theorem cels_length (ps : List (Cel × Value)) : (cels ps).length = ps.length := by simp [cels]
def gSet (lo hi : Nat) (i : Nat) : Int := if 1000 < i then -1 else if lo ≤ i ∧ i < hi then -1 else i
theorem W_qSet {ps : List (Cel × Value)} {lo hi : Nat} {a : At} (i : Nat) : W (cels ((List.range ps.length).map (qSet ps lo hi a))) i = if i < ps.length then (if lo ≤ i ∧ i < hi then 0 else W (cels ps) i) else 0 := by
  rw [cels_range, W_range]
  by_cases h : i < ps.length
  · rw [if_pos h, if_pos h, W_cels]
    unfold qSet
    split <;> rfl
  · rw [if_neg h, if_neg h]
theorem cels_at (n : Nat) (qF : Nat → Cel × Value) (i : Nat) : (cels ((List.range n).map qF))[i]? = if i < n then some (qF i).1 else none := by
  rw [cels_range, List.getElem?_map]
  by_cases h : i < n
  · rw [if_pos h, List.getElem?_range h]; rfl
  · rw [if_neg h, List.getElem?_eq_none (by simpa using h)]; rfl
theorem cels_get (ps : List (Cel × Value)) (i : Nat) (h : i < ps.length) : (cels ps)[i]? = some (ps.getD i zp).1 := by
  simp [cels, h]
theorem cels_out (ps : List (Cel × Value)) (i : Nat) (h : ps.length ≤ i) : (cels ps)[i]? = none := List.getElem?_eq_none (by rw [cels_length]; exact h)
theorem cels_set {ps : List (Cel × Value)} {lo hi : Nat} {a : At} (h2 : hi ≤ ps.length) (h : lo < hi) : cels ((List.range ps.length).map (qSet ps lo hi a)) = splice (cels ps) lo (List.replicate (hi - lo) (clr a)) := by
  apply List.ext_getElem?
  intro i
  rw [cels_at]
  unfold splice
  have hl1 : ((cels ps).take lo).length = lo := by rw [List.length_take, cels_length]; omega
  by_cases c1 : i < lo
  · rw [if_pos (by omega), List.getElem?_append_left (by omega), List.getElem?_take, if_pos c1, cels_get _ _ (by omega)]
    unfold qSet
    rw [if_neg (by omega)]
  · rw [List.getElem?_append_right (by omega), hl1]
    by_cases c2 : i < hi
    · rw [if_pos (by omega), List.getElem?_append_left (by simp; omega), List.getElem?_replicate, if_pos (by omega)]
      unfold qSet
      rw [if_pos ⟨by omega, c2⟩]
    · rw [List.getElem?_append_right (by simp; omega), List.getElem?_drop, List.length_replicate, show lo + (hi - lo) + (i - lo - (hi - lo)) = i by omega]
      by_cases c3 : i < ps.length
      · rw [if_pos c3, cels_get _ _ c3]
        unfold qSet
        rw [if_neg (by omega)]
      · rw [if_neg c3, cels_out _ _ (by omega)]
theorem cels_same {ps : List (Cel × Value)} {lo hi : Nat} {a : At} (h : ¬ lo < hi) : cels ((List.range ps.length).map (qSet ps lo hi a)) = cels ps := by
  apply List.ext_getElem?
  intro i
  rw [cels_at]
  by_cases c3 : i < ps.length
  · rw [if_pos c3, cels_get _ _ c3]
    unfold qSet
    rw [if_neg (by omega)]
  · rw [if_neg c3, cels_out _ _ (by omega)]
theorem ref_erase {ps : List (Cel × Value)} (hw : Whole (cels ps)) (lo hi : Nat) (a : At) (h2 : hi ≤ ps.length) (h5 : ps.length ≤ 512) :
    Ready (cels ((List.range ps.length).map (qSet ps lo hi a))) (gSet lo hi) ∧ wholeTo (cels ((List.range ps.length).map (qSet ps lo hi a))) (gSet lo hi) ps.length = eraseL (cels ps) lo hi a := by
  have hP : Prov (cels ps) (cels ((List.range ps.length).map (qSet ps lo hi a))) (gSet lo hi) := by
    refine ⟨fun k hk => ?_, fun k => ?_, fun k => ?_⟩
    · have hk' : k < ps.length := by simpa [cels] using hk
      rw [W_qSet, if_pos hk']
      unfold gSet
      rw [if_neg (by omega)]
      by_cases c : lo ≤ k ∧ k < hi
      · rw [if_pos c, if_pos c]; exact .inl ⟨rfl, rfl⟩
      · rw [if_neg c, if_neg c]; exact .inr ⟨k, rfl, by rw [cels_length]; exact hk', rfl⟩
    · unfold gSet; split <;> (try split) <;> omega
    · unfold gSet; split <;> (try split) <;> omega
  refine ⟨hP.ready hw, ?_⟩
  have hX : (cels ((List.range ps.length).map (qSet ps lo hi a))).length = ps.length := by simp [cels]
  have := hP.whole hw (fun k h1 h3 => by
    have k1 : k + 1 < ps.length := by
      have := lt_of_W (l := cels ((List.range ps.length).map (qSet ps lo hi a))) (k := k + 1) (by omega)
      rwa [hX] at this
    rw [W_qSet, if_pos (by omega)] at h1 h3
    have c1 : ¬ (lo ≤ k ∧ k < hi) := fun c => by rw [if_pos c] at h1; omega
    have c2 : ¬ (lo ≤ k + 1 ∧ k + 1 < hi) := fun c => by rw [if_pos c] at h3; omega
    unfold gSet
    rw [if_neg (by omega), if_neg c2, if_neg (by omega), if_neg c1]
    omega)
  rw [hX] at this
  rw [this]
  unfold eraseL
  by_cases h : lo < hi
  · rw [if_pos h, cels_set h2 h]; rfl
  · rw [if_neg h, cels_same h, mendAll_whole hw]
theorem getD_zp {ps : List (Cel × Value)} {k : Nat} (h : k < ps.length) : ps.getD k zp = ps[k] := by rw [List.getD_eq_getElem?_getD, List.getElem?_eq_getElem h]; rfl
end Go.Proofs.Ytleooelhnnfjbaa.Rw
