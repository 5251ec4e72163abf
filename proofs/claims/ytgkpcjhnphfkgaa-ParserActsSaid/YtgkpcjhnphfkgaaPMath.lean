/-
  The numbers of a control function as a plain machine (layer 3).
-/
import Derived.Lib.Hide
namespace Go.Proofs.Ytgkpcjhnphfkgaa.Par

structure Lst where
  n : List Int
  over : Bool

def empty : Lst := ⟨[], false⟩
def begF (n : List Int) : List Int := if n.length = 0 then [0] else n
def lastF (n : List Int) : Int := n.getD (n.length - 1) 0
def capF (x : Int) : Int := if 65535 < x then 65535 else x
def putF (n : List Int) (d : Int) : List Int := n.set (n.length - 1) (capF (lastF n * 10 + d))
def digitF (L : Lst) (d : Int) : Lst := if d < 0 ∨ 9 < d ∨ L.over = true then L else ⟨putF (begF L.n) d, false⟩
def nextF (L : Lst) : Lst := if (begF L.n).length = 32 then ⟨begF L.n, true⟩ else ⟨begF L.n ++ [0], L.over⟩
def atF (n : List Int) (i none : Int) : Int := if i < 0 ∨ (n.length : Int) ≤ i then none else if n.getD i.toNat 0 = 0 then none else n.getD i.toNat 0

structure Lst.Ok (L : Lst) : Prop where
  len : L.n.length ≤ 32
  lo : ∀ x ∈ L.n, 0 ≤ x
  hi : ∀ x ∈ L.n, x ≤ 65535

theorem empty_ok : empty.Ok := ⟨by simp [empty], by simp [empty], by simp [empty]⟩
theorem beg_pos (n : List Int) : 0 < (begF n).length := by
  unfold begF; split
  · simp
  · omega
theorem beg_len {n : List Int} (h : n.length ≤ 32) : (begF n).length ≤ 32 := by
  unfold begF; split
  · simp
  · exact h
theorem beg_beg (n : List Int) : begF (begF n) = begF n := by
  have h := beg_pos n
  generalize begF n = m at h
  unfold begF
  rw [if_neg (by omega)]
theorem beg_of_pos {n : List Int} (h : 0 < n.length) : begF n = n := by unfold begF; rw [if_neg (by omega)]
theorem beg_all {p : Int → Prop} {n : List Int} (h0 : p 0) (h : ∀ x ∈ n, p x) : ∀ x ∈ begF n, p x := by
  unfold begF
  split
  · intro x hx; simp at hx; subst hx; exact h0
  · exact h
theorem Lst.Ok.beg {L : Lst} (h : L.Ok) (b : Bool) : Lst.Ok ⟨begF L.n, b⟩ := ⟨beg_len h.len, beg_all (by omega) h.lo, beg_all (by omega) h.hi⟩
theorem put_len (n : List Int) (d : Int) : (putF n d).length = n.length := by simp [putF]
theorem last_mem {n : List Int} (h : 0 < n.length) : lastF n ∈ n := by
  unfold lastF
  rw [List.getD_eq_getElem?_getD, List.getElem?_eq_getElem (by omega)]
  exact List.getElem_mem _
theorem put_mem {n : List Int} {d x : Int} (h : x ∈ putF n d) : x ∈ n ∨ x = capF (lastF n * 10 + d) := List.mem_or_eq_of_mem_set h
theorem digit_ok {L : Lst} (h : L.Ok) (d : Int) : (digitF L d).Ok := by
  unfold digitF
  split
  · exact h
  · rename_i hd
    have hb := h.beg false
    have hp := beg_pos L.n
    have h0 : 0 ≤ lastF (begF L.n) := hb.lo _ (last_mem hp)
    refine ⟨by rw [put_len]; exact hb.len, fun x hx => ?_, fun x hx => ?_⟩
    · rcases put_mem hx with hx | rfl
      · exact hb.lo x hx
      · unfold capF; split <;> omega
    · rcases put_mem hx with hx | rfl
      · exact hb.hi x hx
      · unfold capF; split <;> omega
theorem next_ok {L : Lst} (h : L.Ok) : (nextF L).Ok := by
  have hb := h.beg L.over
  have h32 := hb.len
  unfold nextF
  split
  · exact h.beg true
  · refine ⟨by simp at h32 ⊢; omega, fun x hx => ?_, fun x hx => ?_⟩
    · rcases List.mem_append.1 hx with hx | hx
      · exact hb.lo x hx
      · simp at hx; omega
    · rcases List.mem_append.1 hx with hx | hx
      · exact hb.hi x hx
      · simp at hx; omega
theorem getD_at {l : List Int} {k : Nat} (h : k < l.length) : l.getD k 0 = l[k] := by rw [List.getD_eq_getElem?_getD, List.getElem?_eq_getElem h]; rfl
theorem at_none {n : List Int} {i none : Int} (h : i < 0 ∨ (n.length : Int) ≤ i) : atF n i none = none := if_pos h
theorem at_in {n : List Int} {i none : Int} (h : 0 ≤ i) (h2 : i < n.length) : atF n i none = if n[i.toNat]'(by omega) = 0 then none else n[i.toNat]'(by omega) := by
  unfold atF
  rw [if_neg (by omega), getD_at (by omega)]

end Go.Proofs.Ytgkpcjhnphfkgaa.Par
