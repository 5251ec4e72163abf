/-
  tabs: the reference's calls that only read, and Put, ClearAll.
-/
import Derived.Test.YtihmagpgbjlggaaDoorTBool
import Derived.Test.YtihmagpgbjlggaaDoorTMath3
import Derived.Test.YtihmagpgbjlggaaDoorTTab
namespace Go.Proofs.YtihmagpgbjlggaaDoor.Tbs
open Go Go.RowKit Go.Proofs.YtihmagpgbjlggaaDoor.Com

def flags (f : Nat → Bool) (n : Nat) : List Bool := (List.range n).map f
theorem flags_len (f : Nat → Bool) (n : Nat) : (flags f n).length = n := by simp [flags]
theorem flags_at (f : Nat → Bool) {n i : Nat} (h : i < n) : (flags f n)[i]? = some (f i) := by simp [flags, h]
theorem flags_set (f : Nat → Bool) (n c : Nat) (b : Bool) : (flags f n).set c b = flags (putF f c b) n := by
  apply List.ext_getElem?
  intro j
  by_cases hj : j < n
  · rw [flags_at _ hj]
    unfold putF
    by_cases e : j = c
    · subst e
      rw [List.getElem?_set_self (by rw [flags_len]; exact hj), if_pos rfl]
    · rw [List.getElem?_set_ne (fun e' => e e'.symm), flags_at f hj, if_neg e]
  · rw [List.getElem?_eq_none (by rw [List.length_set, flags_len]; omega), List.getElem?_eq_none (by rw [flags_len]; omega)]
theorem flags_congr {f g : Nat → Bool} {n : Nat} (h : ∀ c, c < n → f c = g c) : flags f n = flags g n := by
  unfold flags
  exact List.map_congr_left fun c hc => h c (List.mem_range.1 hc)
theorem flags_succ (f : Nat → Bool) (n : Nat) : flags f (n + 1) = flags f n ++ [f n] := by simp [flags, List.range_succ]

theorem may_ref (n : Int) (w : World) : Calls Tryd.prog 7 #[.int .i64 n] w fun e w' => e = .returned (.bool (mayB n)) ∧ w = w' := by
  by_cases h1 : 1 ≤ n
  · by_cases h2 : n ≤ 512
    · rw [may_true ⟨h1, h2⟩]
      go_enter Tryd.func7, Tryd.ntmps7
      go_wp2
      go_ret
      exact ⟨rfl, rfl⟩
    · rw [may_false (by omega)]
      go_enter Tryd.func7, Tryd.ntmps7
      go_wp2
      go_ret
      exact ⟨ret_bool (by simp), rfl⟩
  · rw [may_false (by omega)]
    go_enter Tryd.func7, Tryd.ntmps7
    go_wp2
    go_ret
    exact ⟨ret_bool (by simp), rfl⟩

/-- The reference's box and its row of n flags. -/
structure Ref (B : Nat) (w : World) (r : Nat) (v : Value) (n : Nat) (f : Nat → Bool) : Prop where
  box : Block w r 40 #[v]
  row : OwnB w B v (flags f n)
theorem Ref.cell {B : Nat} {w : World} {r : Nat} {v : Value} {n : Nat} {f : Nat → Bool} (h : Ref B w r v n f) : w.cell? ⟨r, 0, none⟩ = some v := h.box.cell 0 rfl
theorem Ref.slice {B : Nat} {w : World} {r : Nat} {v : Value} {n : Nat} {f : Nat → Bool} (h : Ref B w r v n f) (hn : 1 ≤ n) : ∃ g cap, v = .slice (some ⟨g, 0, none⟩) n cap ∧ B ≤ g ∧ (∀ i, i < n → w.cell? ⟨g, i, none⟩ = some (.bool (f i))) ∧ ∀ i, w.frozen? ⟨g, i, none⟩ = false := by
  obtain ⟨g, cap, rfl, hg, hc, hf⟩ := h.row.form (by rw [flags_len]; omega)
  rw [flags_len]
  exact ⟨g, cap, rfl, hg, fun i hi => hc i _ (flags_at f hi), hf⟩
theorem Ref.below {B : Nat} {w w' : World} {r : Nat} {v : Value} {n : Nat} {f : Nat → Bool} (h : Ref B w r v n f) (hb : Below w.heap.size w w') : Ref B w' r v n f :=
  ⟨h.box.only (Only.of_below hb []) (by simp), h.row.below hb⟩

theorem rheld_any {B : Nat} {w : World} {r : Nat} {v : Value} {n : Nat} {f : Nat → Bool} (h : Ref B w r v n f) (hn : 1 ≤ n) (hn2 : n ≤ 512) (c : Int) : Calls Tryd.prog 37 #[.pointer (some ⟨r, 0, none⟩), .int .i64 c] w (Err w (heldF n c)) := by
  obtain ⟨g, cap, rfl, _⟩ := h.slice hn
  have h0 := h.cell
  clear h
  by_cases h1 : c < 0
  · have hE : Hid (0 = ((heldF n c : Nat) : Int)) := by show _ = _; unfold heldF; rw [if_pos h1]; rfl
    go_enter Tryd.func37, Tryd.ntmps37
    go_wp2
    go_ret
    exact ⟨ret_int (by rw [← hE.out]), rfl⟩
  by_cases h2 : (n : Int) ≤ c
  · have hE : Hid ((n : Int) - 1 = ((heldF n c : Nat) : Int)) := by show _ = _; unfold heldF; rw [if_neg h1, if_pos h2]; omega
    go_enter Tryd.func37, Tryd.ntmps37
    go_wp2
    go_ret
    exact ⟨ret_int (by rw [← hE.out]), rfl⟩
  · obtain ⟨k, rfl⟩ : ∃ k : Nat, c = k := ⟨c.toNat, by omega⟩
    have hE : Hid ((k : Int) = ((heldF n k : Nat) : Int)) := by show _ = _; unfold heldF; rw [if_neg h1, if_neg h2]; omega
    have h1' : decide ((k : Int) < 0) = false := by simp
    have h2' : k < n := by omega
    go_enter Tryd.func37, Tryd.ntmps37
    go_wp2
    go_ret
    exact ⟨ret_int (by rw [← hE.out]), rfl⟩

/-- What Put leaves. -/
def RPut (B : Nat) (w : World) (r : Nat) (v : Value) (n : Nat) (f : Nat → Bool) (k : Int) (e : Ending) (w' : World) : Prop := e = .returned (.int .i64 k) ∧ Ref B w' r v n f ∧ Only v.ownBlock.toList w w'
theorem rput_bad {B : Nat} {w : World} {r : Nat} {v : Value} {n : Nat} {f : Nat → Bool} (h : Ref B w r v n f) (hn : 1 ≤ n) (c : Int) (b : Bool) (hc : c < 0 ∨ (n : Int) ≤ c) : Calls Tryd.prog 11 #[.pointer (some ⟨r, 0, none⟩), .int .i64 c, .bool b] w (Err w 2) := by
  obtain ⟨g, cap, rfl, _⟩ := h.slice hn
  have h0 := h.cell
  clear h
  by_cases h1 : c < 0
  · clear hc
    go_enter Tryd.func11, Tryd.ntmps11
    go_wp2
    go_ret
    exact ⟨rfl, rfl⟩
  · have h2 : (n : Int) ≤ c := by omega
    clear hc
    go_enter Tryd.func11, Tryd.ntmps11
    go_wp2
    go_ret
    exact ⟨rfl, rfl⟩
theorem rput_ok {B : Nat} {w : World} {r : Nat} {v : Value} {n : Nat} {f : Nat → Bool} (h : Ref B w r v n f) (c : Nat) (b : Bool) (hc : c < n) : Calls Tryd.prog 11 #[.pointer (some ⟨r, 0, none⟩), .int .i64 c, .bool b] w (RPut B w r v n (putF f c b) 0) := by
  obtain ⟨g, cap, rfl, _, hcell, hfr⟩ := h.slice (by omega)
  have h0 := h.cell
  have h1 : decide ((c : Int) < 0) = false := by simp
  have hc1 := hcell c hc
  have hf1 := hfr c
  have hst := h.row.stored (by rw [flags_len]) c b
  rw [flags_set] at hst
  have hbx : Block (w.setCell ⟨g, c, none⟩ (.bool b)) r 40 #[.slice (some ⟨g, 0, none⟩) n cap] := h.box.only (Only.setCell w ⟨g, c, none⟩ (.bool b)) (by
    have := h.row.apart h.box (by decide)
    simp [Value.ownBlock] at this
    simpa using fun e => this e.symm)
  have hE : Hid (RPut B w r (.slice (some ⟨g, 0, none⟩) n cap) n (putF f c b) 0 (.returned (.int .i64 0)) (w.setCell ⟨g, c, none⟩ (.bool b))) := Lib.hid ⟨rfl, ⟨hbx, hst⟩, by simpa [Value.ownBlock] using Only.setCell w ⟨g, c, none⟩ (.bool b)⟩
  clear h hcell hfr hst hbx
  go_enter Tryd.func11, Tryd.ntmps11
  go_wp2
  go_ret
  exact hE.out

end Go.Proofs.YtihmagpgbjlggaaDoor.Tbs
