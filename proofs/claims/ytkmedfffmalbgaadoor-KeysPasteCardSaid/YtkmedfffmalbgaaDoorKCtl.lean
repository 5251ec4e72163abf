/-
  keys: control (numbers behind one another), whatever they are.
-/
import Derived.Test.YtkmedfffmalbgaaDoorKNum
import Derived.LoopTactic
import Derived.IntWalk
import Derived.Deep.DeepMust
namespace Go.Proofs.YtkmedfffmalbgaaDoor.Kys
open Go Go.RowKit Go.Proofs.YtkmedfffmalbgaaDoor.Com

/-- The library's table is there. -/
def Tab (w : World) : Prop := Lib.TabIs Tryd.prog w "internal/strconv.uint64pow10" .u64 Lib.pow10Tab
theorem Tab.is {w : World} (h : Tab w) : Lib.TabIs Tryd.prog w "internal/strconv.uint64pow10" .u64 Lib.pow10Tab := h
theorem Tab.below {w w' : World} (h : Tab w) (hb : Below w.heap.size w w') : Tab w' := Lib.tabBelow_of_tabIs h.is w' hb
theorem Tab.alloc {w : World} (h : Tab w) (o : Obj) : Tab (w.alloc o) := h.below (below_new w o)

/-- Numbers that can be told so. -/
def Nat64 (xs : List Int) : Prop := ∀ x ∈ xs, 0 ≤ x ∧ x ≤ 9223372036854775807
theorem dg_le {x : Int} (h : 0 ≤ x ∧ x ≤ 9223372036854775807) : (dgF x).length ≤ 20 := by
  obtain ⟨u, rfl⟩ : ∃ u : Nat, x = u := ⟨x.toNat, by omega⟩
  have := dg_len (u := u) (by omega)
  omega
theorem tail_le : ∀ {xs : List Int}, Nat64 xs → (tailF xs).length ≤ 21 * xs.length
  | [], _ => by simp [tailF]
  | x :: t, h => by
    have h1 := dg_le (h x (by simp))
    have h2 := tail_le (xs := t) fun y hy => h y (by simp [hy])
    simp [tailF]
    omega
theorem nums_le {xs : List Int} (h : Nat64 xs) : (numsF xs).length ≤ 21 * xs.length := by
  rcases xs with _ | ⟨x, t⟩
  · simp [numsF]
  · have h1 := dg_le (h x (by simp))
    have h2 := tail_le (xs := t) fun y hy => h y (by simp [hy])
    simp [numsF]
    omega
theorem nums_at0 {xs : List Int} (h : 0 < xs.length) (bs : List Int) : bs ++ numsF (xs.take (0 + 1)) = bs ++ numsF (xs.take 0) ++ dgF xs[0] := by
  rw [List.take_succ_eq_append_getElem h]
  simp [numsF, tailF]
theorem nums_at {xs : List Int} {k : Nat} (hk : 0 < k) (h : k < xs.length) (bs : List Int) : bs ++ numsF (xs.take (k + 1)) = bs ++ numsF (xs.take k) ++ [59] ++ dgF xs[k] := by
  rw [List.take_succ_eq_append_getElem h, nums_snoc (by intro e; have := congrArg List.length e; rw [List.length_take, List.length_nil] at this; omega)]
  simp

/-- What is known at the loop's head. -/
structure CtlAt (w : World) (bs xs : List Int) (k : Nat) (v : Value) (wr : World) : Prop where
  row : Row wr w.heap.size 5 v (bs ++ numsF (xs.take k))
  below : Below w.heap.size w wr
set_option maxHeartbeats 2000000 in
theorem control_any (b : ByteArray) (bs : List Int) (hb : Lib.strCells b = bs.map (Value.int .u8)) (hbl : bs.length ≤ 1000) (f : Int) (xs : List Int) (hx : Nat64 xs) (hxl : xs.length ≤ 1000) (ao : Option Addr) (c : Nat) (w : World) (hn : Nums w w.heap.size .i64 ao xs) (hT : Tab w) :
    Calls Tryd.prog 19 #[.string b, .int .u8 f, .slice ao xs.length c] w (Put w.heap.size (ctlF bs xs f) w) := by
  have hlen := fun k => nums_le (xs := xs.take k) fun y hy => hx y (List.mem_of_mem_take hy)
  have hlen' : ∀ k, (bs ++ numsF (xs.take k)).length ≤ 22000 := fun k => by
    have h1 := hlen k
    have h2 : (xs.take k).length ≤ xs.length := by rw [List.length_take]; omega
    rw [List.length_append]
    omega
  replace hlen' := Lib.hid hlen'
  clear hlen
  go_enter Tryd.func19, Tryd.ntmps19
  go_wp2_with ((with_reducible show wpList _ _ _ (⟨some 11, .convert _ _ _, _, _, _, _⟩ :: _) _ _; go_must (refine wpList_bytes Tryd.underlying9 Tryd.underlying26 Tryd.underlying5 rfl (.tmp 10) rfl w.heap.size b bs hb rfl (Nat.le_refl _) (by omega) ?_); intro v0 w0 h0 hb0))
  have hst : Hid (CtlAt w bs xs 0 v0 w0) := ⟨by simpa [numsF] using h0, hb0⟩
  clear h0 hb0 hb
  go_loopw [7, 14] (fun v i wr => ∃ k : Nat, i = .int .i64 k ∧ k ≤ xs.length ∧ Hid (CtlAt w bs xs k v wr)) (fun _ i _ => xs.length - (intOf i).toNat)
  case atStart => exact ⟨0, rfl, by omega, hst⟩
  case round =>
    obtain ⟨k, rfl, hk, hat⟩ := hrel
    have hsz := hat.out.below.size
    by_cases hlt : k < xs.length
    · obtain ⟨ad, rfl, _, hcell⟩ := (hn.below hat.out.below (Nat.le_refl _)).at hlt
      obtain ⟨u, hu⟩ : ∃ u : Nat, xs[k] = (u : Int) := ⟨xs[k].toNat, by have := hx _ (List.getElem_mem hlt); omega⟩
      have hul : u ≤ 9223372036854775807 := by have := hx _ (List.getElem_mem hlt); omega
      have htr := Lib.hid (hT.below hat.out.below)
      have hL := Lib.hid (hlen'.out k)
      by_cases h0 : k = 0
      · subst h0
        have hnext := Lib.hid (nums_at0 hlt bs)
        rw [hu] at hnext hcell
        have hcell0 : wr.cell? ad = some (.int .i64 u) := by simpa [Addr.add] using hcell
        clear hu hx hn hT hcell
        go_wp2_with ((go_at_call 36; refine (appendInt_any w.heap.size u hul _ _ _ hat.out.row hsz (by have := hL.out; omega) htr.out.is).mono ?_; rintro e w1 ⟨v1, rfl, h1, hb1⟩; replace h1 := Lib.hid h1; replace hb1 := Lib.hid hb1))
        go_roundw
        case rel => exact ⟨0 + 1, by go_num, by omega, ⟨by rw [hnext.out]; exact h1.out, hat.out.below.trans hb1.out⟩⟩
        case measure => simp [intOf]; omega
      · have hnext := Lib.hid (nums_at (by omega) hlt bs)
        rw [hu] at hnext hcell
        have hrow := hat.out.row
        have hbel := Lib.hid hat.out.below
        have hT' := Lib.hid hT
        obtain ⟨acc, hacc⟩ : ∃ acc, acc = bs ++ numsF (xs.take k) := ⟨_, rfl⟩
        rw [← hacc] at hrow hnext hL
        clear hu hx hn hT hat hacc htr
        go_wp2_with (first
          | (at_builtin; refine wpList_appR elemB rfl (.tmp 21) (.tmp 22) rfl w.heap.size _ acc [59] _ _ 1 rfl rfl (hrow.alloc _) (Nums.one wr _ .u8 59) (by simp; omega) (by have := hL.out; simp; omega) ?_; intro v2 w2 h2 ho2; have hb2 := Lib.hid (row_below (hbel.out.trans ((Below.refl _ _).alloc hsz _)) (hrow.alloc _) (by simp; omega) ho2); have hs2 := hb2.out.size; replace h2 := Lib.hid h2; clear ho2)
          | (go_at_call 36; refine (appendInt_any w.heap.size u hul _ _ _ h2.out hs2 (by have := hL.out; simp; omega) (hT'.out.below hb2.out).is).mono ?_; rintro e w1 ⟨v1, rfl, h1, hb1⟩; replace h1 := Lib.hid h1; replace hb1 := Lib.hid hb1))
        go_roundw
        case rel => exact ⟨k + 1, by go_num, by omega, ⟨by rw [hnext.out]; exact h1.out, hb2.out.trans hb1.out⟩⟩
        case measure => simp [intOf]; omega
    · have hkl : xs.take k = xs := List.take_of_length_le (by omega)
      have hrow := hat.out.row
      have hbel := Lib.hid hat.out.below
      have hL := hlen'.out k
      rw [hkl] at hrow hL
      replace hL := Lib.hid hL
      have hE : Hid (ctlF bs xs f = bs ++ numsF xs ++ [f]) := rfl
      obtain ⟨acc, hacc⟩ : ∃ acc, acc = bs ++ numsF xs := ⟨_, rfl⟩
      rw [← hacc] at hrow hL hE
      clear hkl hat hn hT hacc
      go_wp2_with (first
          | (at_builtin; refine wpList_appR elemB rfl (.tmp 28) (.tmp 30) rfl w.heap.size _ acc [f] _ _ 1 rfl rfl (hrow.alloc _) (Nums.one wr _ .u8 f) (by simp; omega) (by have := hL.out; simp; omega) ?_; intro v2 w2 h2 ho2; have hb2 := Lib.hid (row_below (hbel.out.trans ((Below.refl _ _).alloc hsz _)) (hrow.alloc _) (by simp; omega) ho2); replace h2 := Lib.hid h2; clear ho2))
      go_ret
      exact ⟨v2, rfl, by rw [hE.out]; exact h2.out, hb2.out⟩

end Go.Proofs.YtkmedfffmalbgaaDoor.Kys
