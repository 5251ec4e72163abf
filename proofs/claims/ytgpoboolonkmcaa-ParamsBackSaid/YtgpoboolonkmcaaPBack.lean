/-
  The law ParamsBack.
-/
import Derived.Test.YtgpoboolonkmcaaPTell
namespace Go.Proofs.Ytgpoboolonkmcaa.Par
open Go Go.RowKit Go.Proofs.Ytgpoboolonkmcaa.Com

/-- The list behind k of the numbers. -/
def backF (l : List Int) (k : Nat) : Lst := ⟨l.take (min k 32), decide (32 < k)⟩
theorem back_zero (l : List Int) : backF l 0 = empty := rfl
theorem take_snoc {l : List Int} {k : Nat} (h : k < l.length) : l.take (k + 1) = l.take k ++ [l[k]] := by
  rw [List.take_add_one, List.getElem?_eq_getElem h]
  rfl
theorem back_lo {l : List Int} {k : Nat} (h : k ≤ 32) : backF l k = ⟨l.take k, false⟩ := by
  unfold backF
  rw [Nat.min_eq_left h, decide_eq_false (by omega)]
theorem back_hi {l : List Int} {k : Nat} (h : 32 < k) : backF l k = ⟨l.take 32, true⟩ := by
  unfold backF
  rw [Nat.min_eq_right (by omega), decide_eq_true h]
theorem back_ok {l : List Int} (hl : ∀ x ∈ l, 0 ≤ x ∧ x ≤ 65535) (k : Nat) : (backF l k).Ok :=
  lst_ok (by simp; omega) (fun x hx => hl x (List.mem_of_mem_take hx))
theorem back_next {l : List Int} {k : Nat} (h0 : 0 < k) (h : k < 32) (hk : k < l.length) : nextF (backF l k) = ⟨l.take k ++ [0], false⟩ := by
  have hlen : (l.take k).length = k := by simp; omega
  have hb : begF (l.take k) = l.take k := beg_of_pos (by omega)
  rw [back_lo (by omega), next_more (by rw [hb, hlen]; omega), hb]
theorem back_full {l : List Int} {k : Nat} (h : 32 ≤ k) (hk : k < l.length) : nextF (backF l k) = backF l (k + 1) := by
  have hlen : (l.take 32).length = 32 := by simp; omega
  have hb : begF (l.take 32) = l.take 32 := beg_of_pos (by omega)
  have hn : (backF l k).n = l.take 32 := by unfold backF; rw [Nat.min_eq_right h]
  rw [next_full (by rw [hn, hb]; exact hlen), hn, hb, back_hi (by omega)]
theorem back_told {l : List Int} {k : Nat} (h : k < 32) (hk : k < l.length) : (⟨l.take k ++ [l[k]], false⟩ : Lst) = backF l (k + 1) := by
  rw [back_lo (by omega), take_snoc hk]

/-- The list of the call's own, so far. -/
structure BackAt (w : World) (d : Nat) (l : List Int) (k : Nat) (wr : World) : Prop where
  list : ListIn wr d (backF l k)
  below : Below w.heap.size w wr

set_option maxRecDepth 100000 in
set_option maxHeartbeats 4000000 in
theorem lawBack (l : List Int) (hf : Fits .u16 l) (ao : Option Addr) (c : Nat) (_hc : l.length ≤ c) (hm : c ≤ maxLen) (w : World)
    (hn : Nums w w.heap.size .u16 ao l) :
    Calls Try.prog 5 #[.slice ao l.length c] w fun e w' => e = .returned (.bool true) ∧ Below w.heap.size w w' := by
  have hb : ∀ x ∈ l, 0 ≤ x ∧ x ≤ 65535 := fun x hx => bounds_u16 (hf x hx)
  have h63 : l.length ≤ 9223372036854775807 := by simp only [maxLen] at hm; omega
  clear hm hf
  by_cases h0 : 60 < l.length
  · go_enter Try.func5, Try.ntmps5
    go_wp2_with ((go_at_call 7; refine (known_any _).mono ?_; rintro e w1 ⟨rfl, hb1⟩))
    go_ret
    exact ⟨rfl, hb1⟩
  have h0' : l.length ≤ 60 := by omega
  clear h0
  go_enter Try.func5, Try.ntmps5
  go_wp2_with fail
  refine (new_any w).mono ?_
  rintro e w1 ⟨rfl, hd1, ho1⟩
  rw [← back_zero l] at hd1
  have hb1 := ho1.nil
  clear ho1
  generalize hd0 : w.heap.size = d0 at hd1
  have hle : w.heap.size ≤ d0 := Nat.le_of_eq hd0
  go_wp2_with fail
  go_loopw [15] (fun i wr => ∃ k : Nat, i = .int .i64 k ∧ k ≤ l.length ∧ BackAt w d0 l k wr) (fun i _ => l.length - (intOf i).toNat)
  case atStart => exact ⟨0, rfl, by omega, hd1, hb1⟩
  case round =>
    clear hd1 hb1
    obtain ⟨k, rfl, hk, hat⟩ := hrel
    by_cases hlt : k < l.length
    · obtain ⟨ad, rfl, _, hcell⟩ := (hn.below hat.below (Nat.le_refl _)).at hlt
      obtain ⟨hx0, hx1⟩ := hb _ (List.getElem_mem hlt)
      have hok := back_ok hb k
      have hall : ∀ x ∈ l.take k, 0 ≤ x ∧ x ≤ 65535 := fun x hx => hb x (List.mem_of_mem_take hx)
      have hfin := fun h => Lib.hid (back_told (l := l) h hlt)
      have hnx := fun h h' => Lib.hid (back_next (l := l) h h' hlt)
      have hfl := fun h => Lib.hid (back_full (l := l) (k := k) h hlt)
      have hov := fun (h : 32 ≤ k) => Lib.hid (show (backF l (k + 1)).over = true by rw [back_hi (by omega)])
      have hok1 := Lib.hid (back_ok hb (k + 1))
      have htl : (l.take k).length = k := by simp; omega
      replace htl := Lib.hid htl
      generalize l[k] = x at hcell hx0 hx1 hfin
      by_cases hk0 : k = 0
      · subst hk0
        have hlike : LikeB [] (backF l 0) 0 := .inl ⟨back_zero l, rfl, rfl⟩
        have hcell0 : wr.cell? ad = some (.int .u16 x) := by simpa [Addr.add] using hcell
        clear hcell
        go_wp2_with fail
        refine (tell_put [] (by simp) (by simp) _ hlike x hx0 hx1 d0 _ hat.list).mono ?_
        rintro e w3 ⟨⟨v3, rfl⟩, hd3, ho3⟩
        have hat3 : BackAt w d0 l (0 + 1) w3 := ⟨by rw [← (hfin (by omega)).out]; exact hd3, below_on hat.below ho3 hle⟩
        go_wp2_with fail
        go_roundw
        case rel => exact ⟨1, by go_num, by omega, hat3⟩
        case measure => simp [intOf]; omega
      · have hk0' : 0 < k := by omega
        clear hk0
        go_wp2_with fail
        refine (next_any _ hok.len d0 _ hat.list).mono ?_
        rintro e w2 ⟨⟨v2, rfl⟩, hd2, ho2⟩
        have hb2 := below_on hat.below ho2 hle
        by_cases h32 : k < 32
        · rw [(hnx hk0' h32).out] at hd2
          have hlike : LikeB (l.take k) ⟨l.take k ++ [0], false⟩ 0 := .inr rfl
          go_wp2_with fail
          refine (tell_put (l.take k) (by rw [htl.out]; omega) hall _ hlike x hx0 hx1 d0 _ hd2).mono ?_
          rintro e w3 ⟨⟨v3, rfl⟩, hd3, ho3⟩
          have hat3 : BackAt w d0 l (k + 1) w3 := ⟨by rw [← (hfin h32).out]; exact hd3, below_on hb2 ho3 hle⟩
          go_wp2_with fail
          go_roundw
          case rel => exact ⟨k + 1, by go_num, by omega, hat3⟩
          case measure => simp [intOf]; omega
        · rw [(hfl (by omega)).out] at hd2
          go_wp2_with fail
          refine (tell_skip _ hok1.out (hov (by omega)).out x hx0 hx1 d0 _ hd2).mono ?_
          rintro e w3 ⟨⟨v3, rfl⟩, hd3, ho3⟩
          have hat3 : BackAt w d0 l (k + 1) w3 := ⟨hd3, below_on hb2 ho3 hle⟩
          go_wp2_with fail
          go_roundw
          case rel => exact ⟨k + 1, by go_num, by omega, hat3⟩
          case measure => simp [intOf]; omega
    · have hkl : k = l.length := by omega
      subst hkl
      have hok := back_ok hb l.length
      have hlist := hat.list
      have hbel := hat.below
      obtain ⟨T, hT⟩ : ∃ T, T = (backF l l.length).n := ⟨_, rfl⟩
      have hTl : T.length = min l.length 32 := by rw [hT]; unfold backF; simp
      have hTg : ∀ (i : Nat) (h : i < T.length) (h' : i < l.length), T[i] = l[i] := fun i h h' => by
        have e : T[i]? = l[i]? := by
          rw [hT]
          unfold backF
          simp only [List.getElem?_take]
          rw [if_pos (by omega)]
        rw [List.getElem?_eq_getElem h, List.getElem?_eq_getElem h'] at e
        exact Option.some.inj e
      have hval := Lib.hid (values_any _ hok.len d0 _ hlist)
      have hatF := fun i none w' hd' => Lib.hid (at_any _ hok.len d0 i none w' hd')
      rw [← hT] at hval hatF
      replace hT := Lib.hid hT
      clear hat
      go_wp2_with fail
      refine hval.out.mono ?_
      rintro e w2 ⟨v2, rfl, hown2, hb2⟩
      obtain ⟨a2, c2, rfl, _, _, hn2⟩ := hown2.shape
      have hB2 := below_next hbel hb2
      have hlist2 := hlist.new hb2
      have hTs : T.length ≤ l.length := by omega
      have hT32 : T.length ≤ 32 := by omega
      rcases (show (l.length ≤ 32 ∧ T.length = l.length) ∨ (32 < l.length ∧ T.length = 32) by omega) with ⟨h32, hN⟩ | ⟨h32, hN⟩
      · clear hown2 hlist hval hlt hTl
        go_wp2_with fail
        go_loopw [39] (fun i wr => ∃ k : Nat, i = .int .i64 k ∧ k ≤ l.length ∧ Below w2.heap.size w2 wr) (fun i _ => l.length - (intOf i).toNat)
        case atStart => exact ⟨0, rfl, by omega, Below.refl _ _⟩
        case round =>
          obtain ⟨k, rfl, hk, hbr⟩ := hrel
          by_cases hlt : k < l.length
          · have hlT : k < T.length := by omega
            have hll : k < l.length := by omega
            obtain ⟨ad, rfl, _, hcell⟩ := (hn.below (below_next hB2 hbr) (Nat.le_refl _)).at hll
            obtain ⟨vd, rfl, _, hvell⟩ := (hn2.below hbr (Nat.le_refl _)).at hlT
            obtain ⟨hx0, hx1⟩ := hb _ (List.getElem_mem hll)
            have hat : atF T k (-1) = if T[k] = 0 then -1 else T[k] := at_in (n := T) (i := (k : Int)) (none := -1) (by omega) (by omega)
            have hlist3 := hlist2.new hbr
            have hcall := fun m => Lib.hid (hatF k (-1) (wr.drewN m) hlist3).out
            rw [hTg k hlT hll] at hat hvell
            generalize l[k] = x at hcell hvell hx0 hx1 hat
            rw [hat] at hcall
            clear hn hn2 hat hTg hatF hlT
            by_cases hx : x = 0
            · subst hx
              simp only [if_true] at hcall
              go_wp2_with fail
              go_quiet ((go_at_call 18; exact Calls.quiet_of (hcall _).out))
              go_wp2_with fail
              go_roundw
              case rel => exact ⟨k + 1, by go_num, by omega, below_dr hbr _⟩
              case measure => simp [intOf]; omega
            · simp only [if_neg hx] at hcall
              go_wp2_with fail
              go_quiet ((go_at_call 18; exact Calls.quiet_of (hcall _).out))
              go_wp2_with fail
              go_roundw
              case rel => exact ⟨k + 1, by go_num, by omega, below_dr hbr _⟩
              case measure => simp [intOf]; omega
          · clear hn hn2 hTg hatF
            go_wp2_with ((go_at_call 7; refine (known_any _).mono ?_; rintro e w7 ⟨rfl, hb7⟩))
            go_ret
            exact ⟨rfl, below_next (below_next hB2 hbr) hb7⟩
      · clear hown2 hlist hval hlt hTl
        go_wp2_with fail
        go_loopw [39] (fun i wr => ∃ k : Nat, i = .int .i64 k ∧ k ≤ 32 ∧ Below w2.heap.size w2 wr) (fun i _ => 32 - (intOf i).toNat)
        case atStart => exact ⟨0, rfl, by omega, Below.refl _ _⟩
        case round =>
          obtain ⟨k, rfl, hk, hbr⟩ := hrel
          by_cases hlt : k < 32
          · have hlT : k < T.length := by omega
            have hll : k < l.length := by omega
            obtain ⟨ad, rfl, _, hcell⟩ := (hn.below (below_next hB2 hbr) (Nat.le_refl _)).at hll
            obtain ⟨vd, rfl, _, hvell⟩ := (hn2.below hbr (Nat.le_refl _)).at hlT
            obtain ⟨hx0, hx1⟩ := hb _ (List.getElem_mem hll)
            have hat : atF T k (-1) = if T[k] = 0 then -1 else T[k] := at_in (n := T) (i := (k : Int)) (none := -1) (by omega) (by omega)
            have hlist3 := hlist2.new hbr
            have hcall := fun m => Lib.hid (hatF k (-1) (wr.drewN m) hlist3).out
            rw [hTg k hlT hll] at hat hvell
            generalize l[k] = x at hcell hvell hx0 hx1 hat
            rw [hat] at hcall
            clear hn hn2 hat hTg hatF hlT
            by_cases hx : x = 0
            · subst hx
              simp only [if_true] at hcall
              go_wp2_with fail
              go_quiet ((go_at_call 18; exact Calls.quiet_of (hcall _).out))
              go_wp2_with fail
              go_roundw
              case rel => exact ⟨k + 1, by go_num, by omega, below_dr hbr _⟩
              case measure => simp [intOf]; omega
            · simp only [if_neg hx] at hcall
              go_wp2_with fail
              go_quiet ((go_at_call 18; exact Calls.quiet_of (hcall _).out))
              go_wp2_with fail
              go_roundw
              case rel => exact ⟨k + 1, by go_num, by omega, below_dr hbr _⟩
              case measure => simp [intOf]; omega
          · clear hn hn2 hTg hatF
            go_wp2_with ((go_at_call 7; refine (known_any _).mono ?_; rintro e w7 ⟨rfl, hb7⟩))
            go_ret
            exact ⟨rfl, below_next (below_next hB2 hbr) hb7⟩

end Go.Proofs.Ytgpoboolonkmcaa.Par
