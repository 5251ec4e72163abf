/-
  The law ParamsBack: a number's digits are told.
-/
import Derived.Test.YtgpoboolonkmcaaPHeld
namespace Go.Proofs.Ytgpoboolonkmcaa.Par
open Go Go.RowKit Go.Proofs.Ytgpoboolonkmcaa.Com

/-- A list whose last number is x, behind base; or an empty one. -/
def LikeB (base : List Int) (S : Lst) (x : Int) : Prop := (S = empty ∧ base = [] ∧ x = 0) ∨ S = ⟨base ++ [x], false⟩
theorem put_last (base : List Int) (x d : Int) : putF (base ++ [x]) d = base ++ [capF (x * 10 + d)] := by
  have hl : lastF (base ++ [x]) = x := by
    unfold lastF
    simp
  unfold putF
  rw [hl]
  simp
theorem LikeB.digit {base : List Int} {S : Lst} {x d : Int} (h : LikeB base S x) (h0 : 0 ≤ d) (h1 : d ≤ 9) : digitF S d = ⟨base ++ [capF (x * 10 + d)], false⟩ := by
  rcases h with ⟨rfl, rfl, rfl⟩ | rfl
  · rw [digit_put h0 h1 rfl]; rfl
  · rw [digit_put h0 h1 rfl, beg_of_pos (by simp), put_last]
theorem LikeB.ok {base : List Int} {S : Lst} {x : Int} (h : LikeB base S x) (hb : base.length ≤ 31) (hall : ∀ y ∈ base, 0 ≤ y ∧ y ≤ 65535) (h0 : 0 ≤ x) (h1 : x ≤ 65535) : S.Ok := by
  rcases h with ⟨rfl, _, _⟩ | rfl
  · exact empty_ok
  · refine lst_ok (by simp; omega) (fun y hy => ?_)
    rcases List.mem_append.1 hy with hy | hy
    · exact hall y hy
    · simp at hy; subst hy; exact ⟨h0, h1⟩
theorem cap_in {y z : Int} (h : y = z) (h1 : z ≤ 65535) : capF y = z := by subst h; exact if_neg (by omega)

/-- Where the telling stands. -/
structure TellAt (w : World) (d : Nat) (base : List Int) (n p : Int) (wr : World) : Prop where
  ex : ∃ S x, LikeB base S x ∧ x = n / (10 * p) ∧ ListIn wr d S
  only : Only [d] w wr
structure TellEnd (w : World) (d : Nat) (base : List Int) (n : Int) (wr : World) : Prop where
  list : ListIn wr d ⟨base ++ [n], false⟩
  only : Only [d] w wr

set_option maxHeartbeats 2000000 in
theorem tell_put (base : List Int) (hbl : base.length ≤ 31) (hall : ∀ y ∈ base, 0 ≤ y ∧ y ≤ 65535) (S : Lst) (hS : LikeB base S 0) (n : Int) (h0 : 0 ≤ n) (h1 : n ≤ 65535) (d : Nat) (w : World) (hd : ListIn w d S) :
    Calls Try.prog 20 #[.pointer (some ⟨d, 0, none⟩), .int .i64 n] w (Turned w d ⟨base ++ [n], false⟩) := by
  go_enter Try.func20, Try.ntmps20
  go_wp2_with fail
  go_loopw [4] (fun i wr => ∃ p : Int, i = .int .i64 p ∧ (((p = 10000 ∨ p = 1000 ∨ p = 100 ∨ p = 10 ∨ p = 1) ∧ TellAt w d base n p wr) ∨ (p = 0 ∧ TellEnd w d base n wr))) (fun i _ => (intOf i).toNat)
  case atStart => exact ⟨10000, rfl, .inl ⟨.inl rfl, ⟨S, 0, hS, by omega, hd⟩, Only.refl _ _⟩⟩
  case round =>
    clear hd hS
    obtain ⟨p, rfl, hrel | ⟨rfl, hend⟩⟩ := hrel
    · obtain ⟨hp, ⟨S, x, hS, hx, hd⟩, ho⟩ := hrel
      have hd0 : 0 ≤ n / p % 10 := by omega
      have hd1 : n / p % 10 ≤ 9 := by omega
      have hSok := hS.ok hbl hall (x := x) (by rcases hp with rfl | rfl | rfl | rfl | rfl <;> omega) (by rcases hp with rfl | rfl | rfl | rfl | rfl <;> omega)
      have hE := Lib.hid (hS.digit hd0 hd1)
      have hdig := Lib.hid (digit_any S hSok (n / p % 10) d _ hd)
      have hc : capF (x * 10 + n / p % 10) = n / p := cap_in (by rcases hp with rfl | rfl | rfl | rfl | rfl <;> omega) (by rcases hp with rfl | rfl | rfl | rfl | rfl <;> omega)
      rw [hc] at hE
      have hlow : n < p → p ≠ 1 → TellAt w d base n (p / 10) _ := fun h h' => ⟨⟨S, x, hS, by rcases hp with rfl | rfl | rfl | rfl | rfl <;> omega, hd⟩, ho⟩
      replace hlow := Lib.hid hlow
      have hS' := Lib.hid hS
      clear hS hc hx hSok hd
      rcases hp with rfl | rfl | rfl | rfl | rfl
      · by_cases hge : n < 10000
        · go_wp2_with fail
          go_roundw
          case rel => exact ⟨1000, by go_num, .inl ⟨by simp, hlow.out hge (by omega)⟩⟩
          case measure => simp [intOf]
        · go_wp2_with ((go_at_call 13; refine (hdig.out).mono ?_; rintro e w1 ⟨⟨v1, rfl⟩, hdA, hoA⟩))
          go_roundw
          case rel => exact ⟨1000, by go_num, .inl ⟨by simp, ⟨_, _, .inr hE.out, by omega, hdA⟩, ho.trans hoA⟩⟩
          case measure => simp [intOf]
      · by_cases hge : n < 1000
        · go_wp2_with fail
          go_roundw
          case rel => exact ⟨100, by go_num, .inl ⟨by simp, hlow.out hge (by omega)⟩⟩
          case measure => simp [intOf]
        · go_wp2_with ((go_at_call 13; refine (hdig.out).mono ?_; rintro e w1 ⟨⟨v1, rfl⟩, hdA, hoA⟩))
          go_roundw
          case rel => exact ⟨100, by go_num, .inl ⟨by simp, ⟨_, _, .inr hE.out, by omega, hdA⟩, ho.trans hoA⟩⟩
          case measure => simp [intOf]
      · by_cases hge : n < 100
        · go_wp2_with fail
          go_roundw
          case rel => exact ⟨10, by go_num, .inl ⟨by simp, hlow.out hge (by omega)⟩⟩
          case measure => simp [intOf]
        · go_wp2_with ((go_at_call 13; refine (hdig.out).mono ?_; rintro e w1 ⟨⟨v1, rfl⟩, hdA, hoA⟩))
          go_roundw
          case rel => exact ⟨10, by go_num, .inl ⟨by simp, ⟨_, _, .inr hE.out, by omega, hdA⟩, ho.trans hoA⟩⟩
          case measure => simp [intOf]
      · by_cases hge : n < 10
        · go_wp2_with fail
          go_roundw
          case rel => exact ⟨1, by go_num, .inl ⟨by simp, hlow.out hge (by omega)⟩⟩
          case measure => simp [intOf]
        · go_wp2_with ((go_at_call 13; refine (hdig.out).mono ?_; rintro e w1 ⟨⟨v1, rfl⟩, hdA, hoA⟩))
          go_roundw
          case rel => exact ⟨1, by go_num, .inl ⟨by simp, ⟨_, _, .inr hE.out, by omega, hdA⟩, ho.trans hoA⟩⟩
          case measure => simp [intOf]
      · have hdig1 := hdig.out
        have hE1 := hE.out
        rw [Int.ediv_one] at hdig1 hE1
        replace hdig1 := Lib.hid hdig1
        replace hE1 := Lib.hid hE1
        clear hdig hE hd0 hd1 hlow
        by_cases hge : n < 1
        · go_wp2_with ((go_at_call 13; refine (hdig1.out).mono ?_; rintro e w1 ⟨⟨v1, rfl⟩, hdA, hoA⟩))
          go_roundw
          case rel => exact ⟨0, by go_num, .inr ⟨rfl, by rw [hE1.out] at hdA; exact hdA, ho.trans hoA⟩⟩
          case measure => simp [intOf]
        · go_wp2_with ((go_at_call 13; refine (hdig1.out).mono ?_; rintro e w1 ⟨⟨v1, rfl⟩, hdA, hoA⟩))
          go_roundw
          case rel => exact ⟨0, by go_num, .inr ⟨rfl, by rw [hE1.out] at hdA; exact hdA, ho.trans hoA⟩⟩
          case measure => simp [intOf]
    · go_wp2_with fail
      go_end0
      exact ⟨⟨_, rfl⟩, hend.list, hend.only⟩

set_option maxHeartbeats 2000000 in
theorem tell_skip (S : Lst) (hS : S.Ok) (hov : S.over = true) (n : Int) (h0 : 0 ≤ n) (h1 : n ≤ 65535) (d : Nat) (w : World) (hd : ListIn w d S) :
    Calls Try.prog 20 #[.pointer (some ⟨d, 0, none⟩), .int .i64 n] w (Turned w d S) := by
  go_enter Try.func20, Try.ntmps20
  go_wp2_with fail
  go_loopw [4] (fun i wr => ∃ p : Int, i = .int .i64 p ∧ (p = 10000 ∨ p = 1000 ∨ p = 100 ∨ p = 10 ∨ p = 1 ∨ p = 0) ∧ ListIn wr d S ∧ Only [d] w wr) (fun i _ => (intOf i).toNat)
  case atStart => exact ⟨10000, rfl, .inl rfl, hd, Only.refl _ _⟩
  case round =>
    clear hd
    obtain ⟨p, rfl, hp, hd, ho⟩ := hrel
    have hd0 : 0 ≤ n / p % 10 := by omega
    have hd1 : n / p % 10 ≤ 9 := by omega
    have hdig := digit_any S hS (n / p % 10) d _ hd
    rw [digit_skip (Or.inr (Or.inr hov))] at hdig
    replace hdig := Lib.hid hdig
    have hd' := Lib.hid hd
    clear hd
    rcases hp with rfl | rfl | rfl | rfl | rfl | rfl
    · by_cases hge : n < 10000
      · go_wp2_with ((go_at_call 13; refine (hdig.out).mono ?_; rintro e w1 ⟨⟨v1, rfl⟩, hdA, hoA⟩))
        go_roundw
        case rel => exact ⟨1000, by go_num, by simp, hd'.out, ho⟩
        case measure => simp [intOf]
      · go_wp2_with ((go_at_call 13; refine (hdig.out).mono ?_; rintro e w1 ⟨⟨v1, rfl⟩, hdA, hoA⟩))
        go_roundw
        case rel => exact ⟨1000, by go_num, by simp, hdA, ho.trans hoA⟩
        case measure => simp [intOf]
    · by_cases hge : n < 1000
      · go_wp2_with ((go_at_call 13; refine (hdig.out).mono ?_; rintro e w1 ⟨⟨v1, rfl⟩, hdA, hoA⟩))
        go_roundw
        case rel => exact ⟨100, by go_num, by simp, hd'.out, ho⟩
        case measure => simp [intOf]
      · go_wp2_with ((go_at_call 13; refine (hdig.out).mono ?_; rintro e w1 ⟨⟨v1, rfl⟩, hdA, hoA⟩))
        go_roundw
        case rel => exact ⟨100, by go_num, by simp, hdA, ho.trans hoA⟩
        case measure => simp [intOf]
    · by_cases hge : n < 100
      · go_wp2_with ((go_at_call 13; refine (hdig.out).mono ?_; rintro e w1 ⟨⟨v1, rfl⟩, hdA, hoA⟩))
        go_roundw
        case rel => exact ⟨10, by go_num, by simp, hd'.out, ho⟩
        case measure => simp [intOf]
      · go_wp2_with ((go_at_call 13; refine (hdig.out).mono ?_; rintro e w1 ⟨⟨v1, rfl⟩, hdA, hoA⟩))
        go_roundw
        case rel => exact ⟨10, by go_num, by simp, hdA, ho.trans hoA⟩
        case measure => simp [intOf]
    · by_cases hge : n < 10
      · go_wp2_with ((go_at_call 13; refine (hdig.out).mono ?_; rintro e w1 ⟨⟨v1, rfl⟩, hdA, hoA⟩))
        go_roundw
        case rel => exact ⟨1, by go_num, by simp, hd'.out, ho⟩
        case measure => simp [intOf]
      · go_wp2_with ((go_at_call 13; refine (hdig.out).mono ?_; rintro e w1 ⟨⟨v1, rfl⟩, hdA, hoA⟩))
        go_roundw
        case rel => exact ⟨1, by go_num, by simp, hdA, ho.trans hoA⟩
        case measure => simp [intOf]
    · have hdig1 := hdig.out
      rw [Int.ediv_one] at hdig1
      replace hdig1 := Lib.hid hdig1
      clear hdig hd0 hd1
      by_cases hge : n < 1
      · go_wp2_with ((go_at_call 13; refine (hdig1.out).mono ?_; rintro e w1 ⟨⟨v1, rfl⟩, hdA, hoA⟩))
        go_roundw
        case rel => exact ⟨0, by go_num, by simp, hdA, ho.trans hoA⟩
        case measure => simp [intOf]
      · go_wp2_with ((go_at_call 13; refine (hdig1.out).mono ?_; rintro e w1 ⟨⟨v1, rfl⟩, hdA, hoA⟩))
        go_roundw
        case rel => exact ⟨0, by go_num, by simp, hdA, ho.trans hoA⟩
        case measure => simp [intOf]
    · go_wp2_with fail
      go_end0
      exact ⟨⟨_, rfl⟩, hd'.out, ho⟩

end Go.Proofs.Ytgpoboolonkmcaa.Par
