/-
  row: the reference's whole.
-/
import Derived.Test.YtaoegfdaemmogaaGreatRWmem
namespace Go.Proofs.YtaoegfdaemmogaaGreat.Rw
open Go Go.RowKit Go.Proofs.YtaoegfdaemmogaaGreat.Com

def WholeDone (B B2 : Nat) (w : World) (d gv gw n cap cw : Nat) (tail : List Value) (ps : List (Cel × Value)) (f : Nat → Int) (e : Ending) (w' : World) : Prop := (∃ v, e = .returned v) ∧ WSt B B2 w w' d gv gw n cap cw tail ps f n
set_option maxRecDepth 100000 in
set_option maxHeartbeats 16000000 in
theorem whole_any {B B2 : Nat} {w : World} {d gv gw n cap cw : Nat} {tail : List Value} {ps : List (Cel × Value)} {f : Nat → Int} (h : WSt B B2 w w d gv gw n cap cw tail ps f 0) (hr : Ready (cels ps) f) (hn : n = ps.length) (hn5 : n ≤ 512) (hc : n ≤ cap) (hcw : n ≤ cw) :
    Calls Tryz.prog 71 #[.pointer (some ⟨d, 0, none⟩), .slice (some ⟨gw, 0, none⟩) n cw] w (WholeDone B B2 w d gv gw n cap cw tail ps f) := by
  replace h := Lib.hid h
  replace hr := Lib.hid hr
  replace hn := Lib.hid hn
  go_enter Tryz.func71, Tryz.ntmps71
  go_wp2
  go_loopw [4] (fun i wr => ∃ k : Nat, k ≤ n ∧ i = .int .i64 k ∧ Hid (WSt B B2 w wr d gv gw n cap cw tail ps f k)) (fun i _ => n - (intOf i).toNat)
  case atStart => exact ⟨0, Nat.zero_le _, rfl, h⟩
  case round =>
    obtain ⟨k, hk, rfl, hS⟩ := hrel
    have hs := hS.out.slice
    by_cases hlt : k < n
    · have hkp : k < ps.length := by have := hn.out; omega
      have hkc : k < (cels ps).length := by simpa [cels] using hkp
      have hlen : (cels ps).length = n := by rw [hn.out]; simp [cels]
      obtain ⟨c0, c1, c2, c3, c4, c5⟩ := hS.out.cells hkp
      have hW : W (cels ps) k = ps[k].1.wide := by rw [W_at hkc]; simp [cels]
      have hy : aloneW (cels ps) f k → ∀ q, WSt B B2 w ((turn6 (wr.drewN q) gv (k * 6) ps[k].1.a.f ps[k].1.a.b ps[k].1.a.g).setCell ⟨gw, k, none⟩ (.int .i64 (-2))) d gv gw n cap cw tail ps f (k + 1) := fun ha q => hS.out.turn hkp q ha
      have hno : ¬ aloneW (cels ps) f k → ∀ q, WSt B B2 w (wr.drewN q) d gv gw n cap cw tail ps f (k + 1) := fun ha q => hS.out.skip q ha
      have wk := hS.out.wcell hkp
      rw [wasTo, if_neg (by omega)] at wk
      have hlo := hr.out.low k
      have hhi := hr.out.high k
      have fr0 := fun j => hS.out.row.free j
      have frw : wr.frozen? ⟨gw, k, none⟩ = false := by
        obtain ⟨g, c, e, _, _, hz⟩ := own_form hS.out.was (by rw [wsTo_length]; omega)
        cases e
        exact hz k
      obtain ⟨n1, n2, n3⟩ := hS.out.ne
      have wn : k + 1 < n → wr.cell? ⟨gw, k + 1, none⟩ = some (.int .i64 (f (k + 1))) := fun h1 => by
        have := hS.out.wcell (i := k + 1) (by have := hn.out; omega)
        rw [wasTo, if_neg (by omega)] at this
        exact this
      have hpos := hr.out.pos k
      have hseq := hr.out.seq (k - 1)
      have wp : 0 < k → wr.cell? ⟨gw, k - 1, none⟩ = some (.int .i64 (wasTo (cels ps) f k (k - 1))) := fun h1 => hS.out.wcell (by omega)
      have hup := hr.out.high (k + 1)
      have hdn := hr.out.low (k + 1)
      have hlp : -2 ≤ wasTo (cels ps) f k (k - 1) := by unfold wasTo; split; decide; exact hr.out.low _
      have hwas : wasTo (cels ps) f k (k - 1) = if k - 1 < k ∧ aloneW (cels ps) f (k - 1) then -2 else f (k - 1) := rfl
      have haw : aloneW (cels ps) f k ↔ (W (cels ps) k = 1 ∧ (k + 1 = n ∨ f (k + 1) ≠ f k + 1)) ∨ (W (cels ps) k = 2 ∧ (k = 0 ∨ f (k - 1) ≠ f k - 1)) := by unfold aloneW; rw [hlen]
      rw [hW] at haw hpos
      have hW1 : 0 < k → ps[k].1.wide = 2 → aloneW (cels ps) f (k - 1) → aloneW (cels ps) f k := fun h1 h2 h3 => by
        have := hseq (by rw [show k - 1 + 1 = k by omega, hW]; exact h2) h3
        rwa [show k - 1 + 1 = k by omega] at this
      generalize ps[k] = q0 at c0 c1 c2 c3 c4 c5 hy haw hpos hW1
      obtain ⟨⟨cr, cm, x, ⟨af, ab, ag⟩⟩, cv⟩ := q0
      simp only at c0 c1 c2 c3 c4 c5 hy haw hpos hW1
      clear hW hseq
      by_cases hx1 : x = 1
      · subst hx1
        have hp0 := hpos (by omega)
        by_cases ha : k + 1 = n
        · have hb1 : (((k : Int) + 1) == (n : Int)) = true := by simp; omega
          have hA := Lib.hid (hy (haw.2 (.inl ⟨rfl, .inl ha⟩)))
          have hw1 : IntKind.i64.wrap ((k : Int) + 1) = (k : Int) + 1 := IntWalk.i64_in _ (by omega)
          have hw2 : (0 : Int) ≤ (k : Int) + 1 := by omega
          have hw3 : ((k : Int) + 1).toNat = k + 1 := by omega
          have hw4 : IntKind.i64.wrap (f k + 1) = f k + 1 := IntWalk.i64_in _ (by omega)
          clear haw hy hno wn wp hpos hW1 hwas
          go_wp2
          go_quiet (fail)
          go_wp2
          go_region
          go_wp2
          go_roundw
          case rel => exact ⟨k + 1, by omega, by go_num, Lib.hid (by first | exact hA.out _ | (have := hA.out 0; simpa [turn6] using this) | (have := hA.out 1; simpa [turn6] using this) | (have := hA.out 2; simpa [turn6] using this))⟩
          case measure => simp [intOf]; omega
        · have hb1 : (((k : Int) + 1) == (n : Int)) = false := by simp; omega
          have hw5 : (k : Int) + 1 < (n : Int) := by omega
          have wk1 := wn (by omega)
          have hw6 : (k : Int) + 1 ≤ (cw : Int) := by omega
          by_cases hb : f (k + 1) = f k + 1
          · have hb2 : (f (k + 1) != f k + 1) = false := by simpa using hb
            have hb3 : decide (f k < 0) = false := by simp; omega
            have hA := Lib.hid (hno (fun h => by rcases haw.1 h with ⟨_, h2⟩ | ⟨h2, _⟩ <;> omega))
            have hw1 : IntKind.i64.wrap ((k : Int) + 1) = (k : Int) + 1 := IntWalk.i64_in _ (by omega)
            have hw2 : (0 : Int) ≤ (k : Int) + 1 := by omega
            have hw3 : ((k : Int) + 1).toNat = k + 1 := by omega
            have hw4 : IntKind.i64.wrap (f k + 1) = f k + 1 := IntWalk.i64_in _ (by omega)
            generalize f (k + 1) = fk1 at wk1 hb hb2 hup hdn
            generalize f k = fk at *
            clear haw hy hno wn wp hpos hW1 hwas
            go_wp2
            go_quiet (fail)
            go_wp2
            go_roundw
            case rel => exact ⟨k + 1, by omega, by go_num, Lib.hid (hA.out _)⟩
            case measure => simp [intOf]; omega
          · have hb2 : (f (k + 1) != f k + 1) = true := by simpa using hb
            have hA := Lib.hid (hy (haw.2 (.inl ⟨rfl, .inr hb⟩)))
            have hw1 : IntKind.i64.wrap ((k : Int) + 1) = (k : Int) + 1 := IntWalk.i64_in _ (by omega)
            have hw2 : (0 : Int) ≤ (k : Int) + 1 := by omega
            have hw3 : ((k : Int) + 1).toNat = k + 1 := by omega
            have hw4 : IntKind.i64.wrap (f k + 1) = f k + 1 := IntWalk.i64_in _ (by omega)
            generalize f (k + 1) = fk1 at wk1 hb hb2 hup hdn
            clear haw hy hno wn wp hpos hW1 hwas
            go_wp2
            go_quiet (fail)
            go_wp2
            go_region
            go_wp2
            go_roundw
            case rel => exact ⟨k + 1, by omega, by go_num, Lib.hid (by first | exact hA.out _ | (have := hA.out 0; simpa [turn6] using this) | (have := hA.out 1; simpa [turn6] using this) | (have := hA.out 2; simpa [turn6] using this))⟩
            case measure => simp [intOf]; omega
      · have hx1' : (x == 1) = false := by simpa using hx1
        by_cases hx2 : x = 2
        · subst hx2
          have hp0 := hpos (by omega)
          by_cases ha : k = 0
          · subst ha
            have hb1 : (((0 : Nat) : Int) == 0) = true := rfl
            have hA := Lib.hid (hy (haw.2 (.inr ⟨rfl, .inl rfl⟩)))
            clear haw hy hno wn wp hpos hW1 hwas
            go_wp2
            go_quiet (fail)
            go_wp2
            go_region
            go_wp2
            go_roundw
            case rel => exact ⟨1, by omega, by go_num, Lib.hid (by first | exact hA.out _ | (have := hA.out 0; simpa [turn6] using this) | (have := hA.out 1; simpa [turn6] using this) | (have := hA.out 2; simpa [turn6] using this))⟩
            case measure => simp [intOf]; omega
          · have hb1 : ((k : Int) == 0) = false := by simp; omega
            have wk1 := wp (by omega)
            have hw1 : IntKind.i64.wrap ((k : Int) - 1) = (k : Int) - 1 := IntWalk.i64_in _ (by omega)
            have hw2 : (0 : Int) ≤ (k : Int) - 1 := by omega
            have hw3 : ((k : Int) - 1).toNat = k - 1 := by omega
            have hw4 : IntKind.i64.wrap (f k - 1) = f k - 1 := IntWalk.i64_in _ (by omega)
            have hw5 : (k : Int) - 1 < (n : Int) := by omega
            have hw6 : (1 : Int) ≤ (k : Int) := by omega
            have hcase : (wasTo (cels ps) f k (k - 1) = f k - 1 ∧ ¬ aloneW (cels ps) f k) ∨ (wasTo (cels ps) f k (k - 1) ≠ f k - 1 ∧ aloneW (cels ps) f k) := by
              by_cases hp : aloneW (cels ps) f (k - 1)
              · rw [hwas, if_pos ⟨by omega, hp⟩]
                exact .inr ⟨by omega, hW1 (by omega) rfl hp⟩
              · rw [hwas, if_neg (fun h => hp h.2)]
                by_cases he : f (k - 1) = f k - 1
                · exact .inl ⟨he, fun h => by rcases haw.1 h with ⟨h2, _⟩ | ⟨_, h2⟩ <;> omega⟩
                · exact .inr ⟨he, haw.2 (.inr ⟨rfl, .inr he⟩)⟩
            rcases hcase with ⟨hb, hal⟩ | ⟨hb, hal⟩
            · have hb2 : (wasTo (cels ps) f k (k - 1) != f k - 1) = false := by simpa using hb
              have hb3 : decide (f k < 0) = false := by simp; omega
              have hA := Lib.hid (hno hal)
              clear hwas
              generalize wasTo (cels ps) f k (k - 1) = fk1 at wk1 hb hb2 hlp
              clear haw hy hno wn wp hpos hW1
              go_wp2
              go_quiet (fail)
              go_wp2
              go_roundw
              case rel => exact ⟨k + 1, by omega, by go_num, Lib.hid (hA.out _)⟩
              case measure => simp [intOf]; omega
            · have hb2 : (wasTo (cels ps) f k (k - 1) != f k - 1) = true := by simpa using hb
              have hA := Lib.hid (hy hal)
              clear hwas
              generalize wasTo (cels ps) f k (k - 1) = fk1 at wk1 hb hb2 hlp
              clear haw hy hno wn wp hpos hW1
              go_wp2
              go_quiet (fail)
              go_wp2
              go_region
              go_wp2
              go_roundw
              case rel => exact ⟨k + 1, by omega, by go_num, Lib.hid (by first | exact hA.out _ | (have := hA.out 0; simpa [turn6] using this) | (have := hA.out 1; simpa [turn6] using this) | (have := hA.out 2; simpa [turn6] using this))⟩
              case measure => simp [intOf]; omega
        · have hx2' : (x == 2) = false := by simpa using hx2
          have hA := Lib.hid (hno (fun h => by rcases haw.1 h with ⟨h2, _⟩ | ⟨h2, _⟩ <;> omega))
          clear haw hy hno wn wp hpos hW1 hwas
          go_wp2
          go_roundw
          case rel => exact ⟨k + 1, by omega, by go_num, Lib.hid (hA.out 0)⟩
          case measure => simp [intOf]; omega
    · obtain rfl : k = n := by omega
      clear h
      go_wp2
      go_end0
      exact ⟨⟨_, rfl⟩, hS.out⟩
end Go.Proofs.YtaoegfdaemmogaaGreat.Rw
