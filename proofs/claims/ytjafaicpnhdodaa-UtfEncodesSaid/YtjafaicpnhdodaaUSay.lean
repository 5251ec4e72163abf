/-
  The reference's Say and Decode.
-/
import Derived.Test.YtjafaicpnhdodaaURef
namespace Go.Proofs.Ytjafaicpnhdodaa.Utf
open Go Go.RowKit Go.Proofs.Ytjafaicpnhdodaa.Com

theorem elemR : Elem Try.prog 25 21 .i32 4 := by
  have h : (Try.prog.info? 21).map (fun i => (i.zero, i.size, i.bytes)) = some (some (.int .i32 0), 1, 4) := by kernel_rfl
  obtain ⟨i, h0, h1, h2, h3⟩ := info_parts h
  exact ⟨Try.underlying25, i, h0, h1, h2, h3⟩
theorem elemB : Elem Try.prog 22 5 .u8 1 := by
  have h : (Try.prog.info? 5).map (fun i => (i.zero, i.size, i.bytes)) = some (some (.int .u8 0), 1, 1) := by kernel_rfl
  obtain ⟨i, h0, h1, h2, h3⟩ := info_parts h
  exact ⟨Try.underlying22, i, h0, h1, h2, h3⟩

theorem val_piece (l : List Int) (k n s : Nat) : ∀ j, j < n → valF ((l.take (k + n)).drop k) s j = valF (l.drop k) s j := by
  have hg : ∀ j, j < n → ((l.take (k + n)).drop k).getD j 0 = (l.drop k).getD j 0 := fun j hj => by
    simp only [List.getD, List.getElem?_drop, List.getElem?_take]
    rw [if_pos (by omega)]
  intro j
  induction j with
  | zero => intro h; simp only [valF]; rw [hg 0 h]
  | succ j ih => intro h; simp only [valF]; rw [ih (by omega), hg (j + 1) h]

theorem say_end {l m out : List Int} {n : Int} (hrun : runF zero l = ((runF zero m).1, out ++ (runF zero m).2)) (h2 : (runF zero m).2 = []) (h1 : (runF zero m).1.o = n) : (runF zero l).2 = out ∧ (runF zero l).1.o = n := by
  rw [hrun]; exact ⟨by simp [h2], h1⟩

theorem ret_two {v : Value} {k : IntKind} {a b : Int} (h : a = b) : Ending.returned (.tuple #[v, .int k a]) = .returned (.tuple #[v, .int k b]) := by rw [h]

def SayTold (w : World) (l : List Int) (e : Ending) (w' : World) : Prop :=
  ∃ v, e = .returned (.tuple #[v, .int .i64 (runF zero l).1.o]) ∧ Own w' w.heap.size 21 .i32 v (runF zero l).2 ∧ Below w.heap.size w w'

/-- What Say has told, and what is left. -/
structure SayAt (w : World) (l : List Int) (v : Value) (k : Nat) (wr : World) (out : List Int) : Prop where
  own : Own wr w.heap.size 21 .i32 v out
  below : Below w.heap.size w wr
  at_ : k ≤ l.length
  short : out.length ≤ k
  run : runF zero l = ((runF zero (l.drop k)).1, out ++ (runF zero (l.drop k)).2)

set_option maxHeartbeats 2000000 in
theorem say_any (l : List Int) (hb : Bytes l) (ao : Option Addr) (c : Nat) (w : World) (hl : l.length ≤ 1048576) (hc : l.length ≤ c) (h : Nums w w.heap.size .u8 ao l) :
    Calls Try.prog 18 #[.slice ao l.length c] w (SayTold w l) := by
  go_enter Try.func18, Try.ntmps18
  go_wp2
  go_loopw [4, 5] (fun v i wr => ∃ (k : Nat) (out : List Int), i = .int .i64 k ∧ SayAt w l v k wr out) (fun _ i _ => l.length - (intOf i).toNat)
  case atStart => exact ⟨0, [], rfl, Own.nil _ _ _ _, Below.refl _ _, by omega, by simp, by simp⟩
  case round =>
    obtain ⟨k, out, rfl, ⟨hown, hbel, hk, hsh, hrun⟩⟩ := hrel
    replace hrun := Lib.hid hrun
    by_cases hlt : k < l.length
    · have hn := h.below hbel (Nat.le_refl _)
      obtain ⟨ad, rfl, _, hcell⟩ := hn.at hlt
      obtain ⟨hx1, hx2⟩ := hb _ (List.getElem_mem hlt)
      generalize hX : l[k] = x at hcell hx1 hx2
      have hm : (l.drop k).getD 0 0 = x := by rw [getD_drop, Nat.add_zero, getD_at hlt, hX]
      have hml : (l.drop k).length = l.length - k := by simp
      have hcn := begins_counted (l.drop k)
      have hs1 := hcn.size
      have hs2 := hcn.len
      have hs3 := sizeF_le x
      rw [hm] at hs1
      rw [hml] at hs2
      clear hcn
      have hB := hbel.size
      have hpos : 0 < (l.drop k).length := by omega
      have SN : beginsF (l.drop k) = 0 → Hid (runF zero (l.drop k) = ((runF zero (l.drop (k + 1))).1, [65533] ++ (runF zero (l.drop (k + 1))).2)) := fun e => by
        have := step_none hpos e; rw [List.drop_drop] at this; exact this
      have SW : beginsF (l.drop k) ≠ 0 → beginsF (l.drop k) = sizeF x → Hid (runF zero (l.drop k) = ((runF zero (l.drop (k + beginsF (l.drop k)))).1, [valF (l.drop k) (beginsF (l.drop k)) (beginsF (l.drop k) - 1)] ++ (runF zero (l.drop (k + beginsF (l.drop k)))).2)) := fun e e' => by
        have := step_whole hpos e (by rw [hm]; exact e'); rw [List.drop_drop] at this; exact this
      have SO : beginsF (l.drop k) ≠ sizeF x → beginsF (l.drop k) = l.length - k → Hid ((runF zero (l.drop k)).2 = [] ∧ (runF zero (l.drop k)).1.o = (l.length - k : Nat)) := fun e e' => by
        have := step_open hpos (by rw [hm]; exact e) (by rw [hml]; exact e'); rw [hml] at this; exact this
      have SP : beginsF (l.drop k) ≠ 0 → beginsF (l.drop k) ≠ sizeF x → beginsF (l.drop k) ≠ l.length - k → Hid (runF zero (l.drop k) = ((runF zero (l.drop (k + beginsF (l.drop k)))).1, [65533] ++ (runF zero (l.drop (k + beginsF (l.drop k)))).2)) := fun e e' e'' => by
        have := step_part hpos e (by rw [hm]; exact e') (by rw [hml]; exact e''); rw [List.drop_drop] at this; exact this
      have hm' := Lib.hid hm
      have hml' := Lib.hid hml
      have hX' := Lib.hid hX
      clear hm hml hX hpos
      have hcall := Lib.hid (begins_any l hb (some ad) c k wr _ hl hlt hn)
      generalize hnn : beginsF (l.drop k) = n at hcall hs1 hs2 SN SW SO SP
      have hnn' := Lib.hid hnn
      clear hnn
      by_cases h0 : n = 0
      · subst h0
        have SN' := SN rfl
        clear SN SW SO SP hs1 hs2
        go_wp2_with (first
          | (go_at_call 24; refine (hcall.out).mono ?_; rintro e w' ⟨rfl, rfl⟩)
          | (at_builtin; refine wpList_app elemR rfl _ _ rfl w.heap.size _ out [65533] _ (wr.heap.size + 1) 1 rfl rfl (hown.alloc _) (Nums.one _ _ _ _) ?_ ?_ ?_ ?_; (simp; omega); (simp; omega); (simp [maxLen]; omega); intro v' w1 hown1 ho1 hat1))
        go_roundw
        case rel => exact ⟨k + 1, out ++ [65533], by go_num, hown1, below_app hbel hown hB _ ho1, by omega, by simp; omega, by rw [hrun.out, SN'.out]; simp⟩
        case measure => simp [intOf]; omega
      · have hn0 : 0 < n := by omega
        clear SN
        by_cases hs : n = sizeF x
        · have SW' := SW h0 hs
          clear SW SO SP
          subst hs
          clear h0 hs1
          have hsz := Lib.hid (size_any x hx1 hx2 wr)
          have hpl : ((l.take (k + sizeF x)).drop k).length = sizeF x := by simp; omega
          have hpv : valF ((l.take (k + sizeF x)).drop k) (sizeF x) (sizeF x - 1) = valF (l.drop k) (sizeF x) (sizeF x - 1) := val_piece l k (sizeF x) (sizeF x) (sizeF x - 1) (by omega)
          have hv := value_any ((l.take (k + sizeF x)).drop k) (fun y hy => hb y (List.mem_of_mem_take (List.mem_of_mem_drop hy))) (sizeF x) hpl (by omega) hs3 (some (ad.add k)) (c - k) wr _ (hn.piece k (k + sizeF x))
          rw [hpv] at hv
          replace hv := Lib.hid hv
          clear hpl hpv
          go_wp2_with (first
            | (go_at_call 24; refine (hcall.out).mono ?_; rintro e w' ⟨rfl, rfl⟩)
            | (go_at_call 25; refine (hsz.out).mono ?_; rintro e w' ⟨rfl, rfl⟩)
            | (go_at_call 26; refine (hv.out).mono ?_; rintro e w' ⟨rfl, rfl⟩)
            | (at_builtin; refine wpList_app elemR rfl _ _ rfl w.heap.size _ out [_] _ (wr.heap.size + 1) 1 rfl rfl (hown.alloc _) (Nums.one _ _ _ _) ?_ ?_ ?_ ?_; (simp; omega); (simp; omega); (simp [maxLen]; omega); intro v' w1 hown1 ho1 hat1))
          go_roundw
          case rel => exact ⟨k + sizeF x, _, by go_num, hown1, below_app hbel hown hB _ ho1, by omega, by simp; omega, by rw [hrun.out, SW'.out]; simp⟩
          case measure => simp [intOf]; omega
        · have hne : Hid (¬ n = sizeF x) := hs
          by_cases hend : n = l.length - k
          · have SO' := SO hs hend
            clear SW SO SP
            have hsz := Lib.hid (size_any x hx1 hx2 wr)
            have hlt2 : n < sizeF x := by omega
            have hkn : k + n = l.length := by omega
            have hkn' := Lib.hid hkn
            have hkn2 : ((k : Int) + n == l.length) = true := by simp; omega
            clear hkn hend hs h0
            go_wp2_with (first
              | (go_at_call 24; refine (hcall.out).mono ?_; rintro e w' ⟨rfl, rfl⟩)
              | (go_at_call 25; refine (hsz.out).mono ?_; rintro e w' ⟨rfl, rfl⟩))
            go_ret2
            obtain ⟨e2, e3⟩ := say_end hrun.out SO'.out.1 SO'.out.2
            exact ⟨_, ret_two (by rw [e3]; have := hkn'.out; omega), by rw [e2]; exact hown, hbel⟩
          · have SP' := SP h0 hs hend
            clear SW SO SP
            have hsz := Lib.hid (size_any x hx1 hx2 wr)
            have hlt2 : n < sizeF x := by omega
            have hkn : k + n < l.length := by omega
            clear hend hs h0
            go_wp2_with (first
              | (go_at_call 24; refine (hcall.out).mono ?_; rintro e w' ⟨rfl, rfl⟩)
              | (go_at_call 25; refine (hsz.out).mono ?_; rintro e w' ⟨rfl, rfl⟩)
              | (at_builtin; refine wpList_app elemR rfl _ _ rfl w.heap.size _ out [65533] _ (wr.heap.size + 1) 1 rfl rfl (hown.alloc _) (Nums.one _ _ _ _) ?_ ?_ ?_ ?_; (simp; omega); (simp; omega); (simp [maxLen]; omega); intro v' w1 hown1 ho1 hat1))
            go_roundw
            case rel => exact ⟨k + n, _, by go_num, hown1, below_app hbel hown hB _ ho1, by omega, by simp; omega, by rw [hrun.out, SP'.out]; simp⟩
            case measure => simp [intOf]; omega
    · have e : k = l.length := by omega
      subst e
      go_wp2
      go_ret2
      obtain ⟨e2, e3⟩ := say_end (n := 0) hrun.out (by rw [List.drop_length]; rfl) (by rw [List.drop_length]; rfl)
      exact ⟨_, ret_two e3.symm, by rw [e2]; exact hown, hbel⟩

def DecTold (w : World) (l : List Int) (e : Ending) (w' : World) : Prop :=
  ∃ v, e = .returned v ∧ Own w' w.heap.size 21 .i32 v (decF l) ∧ Below w.heap.size w w'

set_option maxHeartbeats 1000000 in
theorem refDecode_any (l : List Int) (hb : Bytes l) (ao : Option Addr) (c : Nat) (w : World) (hl : l.length ≤ 1048576) (hc : l.length ≤ c) (h : Nums w w.heap.size .u8 ao l) :
    Calls Try.prog 12 #[.slice ao l.length c] w (DecTold w l) := by
  have hs := Lib.hid (say_any l hb ao c w hl hc h)
  have ho := (run_ok l zero_ok hb).o0
  have hlen := run_len hb
  have hD : Hid (decF l = (runF zero l).2 ++ (endF (runF zero l).1).2) := rfl
  have hz : Hid (∀ n : Int, (runF zero l).1.o = n → (endF (runF zero l).1).2 = if n = 0 then [] else [65533]) := by
    intro n e
    unfold endF
    rw [e]
    split <;> rfl
  generalize (endF (runF zero l).1).2 = E at hD hz
  unfold SayTold at hs
  generalize (runF zero l).1.o = n at hs ho hz
  generalize (runF zero l).2 = out at hs hlen hD
  by_cases hn : 0 < n
  · replace hz := Lib.hid (hz.out n rfl)
    rw [if_neg (by omega)] at hz
    go_enter Try.func12, Try.ntmps12
    go_wp2_with (first
      | (go_at_call 18; refine hs.out.mono ?_; rintro e w1 ⟨v, rfl, hown, hbel⟩; have hB := hbel.size)
      | (at_builtin; refine wpList_app elemR rfl _ _ rfl w.heap.size _ out [65533] _ (w1.heap.size + 1) 1 rfl rfl (hown.alloc _) (Nums.one _ _ _ _) ?_ ?_ ?_ ?_; (simp; omega); (simp; omega); (simp [maxLen]; omega); intro v' w2 hown1 ho1 hat1))
    go_ret
    exact ⟨v', rfl, by rw [hD.out, hz.out]; exact hown1, below_app hbel hown hB _ ho1⟩
  · have hn0 : n = 0 := by omega
    subst hn0
    replace hz := Lib.hid (hz.out 0 rfl)
    rw [if_pos rfl] at hz
    go_enter Try.func12, Try.ntmps12
    go_wp2_with (go_at_call 18; refine hs.out.mono ?_; rintro e w1 ⟨v, rfl, hown, hbel⟩)
    go_ret
    exact ⟨v, rfl, by rw [hD.out, hz.out, List.append_nil]; exact hown, hbel⟩

end Go.Proofs.Ytjafaicpnhdodaa.Utf
