/-
  Name of chartab and of its reference; the reference's Charset.
-/
import Derived.Test.YtjffiikdfoejhaaDoorName
import Derived.RegionTactic
import Derived.ChangeAlike
namespace Go.Proofs.YtjffiikdfoejhaaDoor.Cht
open Go Go.RowKit Go.Maps

theorem nameKeys : ∀ x ∈ nameTab, WideAt.IsKeyLit (.int .i32 x.1) := fun x hx => by
  have hall : ∀ x ∈ nameTab.map (·.1), -2147483648 ≤ x ∧ x ≤ 2147483647 := by decide +kernel
  obtain ⟨h1, h2⟩ := hall x.1 (List.mem_map_of_mem hx)
  exact keys.key (keyAt x.1 h1 h2)

theorem ret_name {s s' : ByteArray} {n n' : Int} (h1 : s = s') (h2 : n = n') : Ending.returned (.tuple #[.string s, .int .i64 n]) = .returned (.tuple #[.string s', .int .i64 n']) := by rw [h1, h2]

set_option maxHeartbeats 1000000 in
theorem name_any (r : Int) (w : World) (T : Tabs w) (h1 : -2147483648 ≤ r) (h2 : r ≤ 2147483647) :
    Calls Tryd.prog 24 #[.int .i32 r] w fun e w' => e = .returned (.tuple #[.string (nameF r).1, .int .i64 (nameF r).2]) ∧ Below w.heap.size w w' := by
  have TT := Lib.hid T; clear T
  by_cases h : classF r = 5
  · have hb : (classF r != 5) = false := by simpa using h
    clear h
    go_enter Tryd.func24, Tryd.ntmps24
    go_wp2_with (first | (go_at_call 16; refine (class_any _ _ TT.out).mono ?_; rintro e w' ⟨rfl, rfl⟩) | (go_at_call 36; refine (names_any _).mono ?_; rintro e w1 ⟨rfl, hown, hbel⟩; obtain ⟨v, ps, hrun, hv⟩ := hown.lookup keys Tryd.underlying39 (zero_name w1) (show nameElem (.agg #[.string ⟨#[]⟩, .int .i64 0]) = some (nameDatum ⟨#[]⟩ 0, []) from rfl) (keyAt r h1 h2); obtain ⟨s, n, rfl, hz⟩ := nameElem_inv hv; have HZ := Lib.hid hz; clear hz hv hown))
    go_region
    go_wp2
    go_ret2
    obtain ⟨e1, e2⟩ : (nameF r).1 = s ∧ (nameF r).2 = n := by
      have hz := congrArg Prod.fst HZ.out
      simp only at hz
      rw [putRows_at r nameTab nameKeys] at hz
      exact nameDatum_inj hz
    refine ⟨ret_name e1.symm e2.symm, ?_⟩
    exact (hbel.alloc hbel.size _).drew
  · have hb : (classF r != 5) = true := by simpa using h
    have HN : Hid (nameF r = (⟨#[]⟩, 0)) := name_none h
    clear h
    go_enter Tryd.func24, Tryd.ntmps24
    go_wp2_with (go_at_call 16; refine (class_any _ _ TT.out).mono ?_; rintro e w' ⟨rfl, rfl⟩)
    go_ret2
    exact ⟨ret_name (by rw [HN.out]) (by rw [HN.out]), Below.refl _ _⟩

set_option maxHeartbeats 4000000 in
set_option maxRecDepth 100000 in
theorem refGraphic_any (r : Int) (w : World) (h1 : 96 ≤ r) (h2 : r < 127) :
    Calls Tryd.prog 35 #[.int .i32 r] w fun e w' => e = .returned (.int .i32 (graphicF r)) ∧ Below w.heap.size w w' := by
  have HL : Hid (graphicF r = graphs.getD (r - 96).toNat 0) := by show _ = _; unfold graphicF; rw [if_neg (by omega), if_pos ⟨h1, h2⟩]
  have hget : (graphs.map (Value.int .i32))[(r - 96).toNat]? = some (.int .i32 (graphs.getD (r - 96).toNat 0)) := by
    have hlt : (r - 96).toNat < graphs.length := by show _ < 31; omega
    simp [List.getD, hlt]
  generalize graphs.getD (r - 96).toNat 0 = g at hget HL
  simp only [graphs, List.map_cons, List.map_nil] at hget
  go_enter Tryd.func35, Tryd.ntmps35
  go_wp2
  go_ret
  exact ⟨ret_int (by rw [HL.out]), (Below.refl _ _).alloc (Nat.le_refl _) _⟩

set_option maxHeartbeats 1000000 in
theorem refCharset_any (s r : Int) (w : World) :
    Calls Tryd.prog 23 #[.int .u8 s, .int .i32 r] w fun e w' => e = .returned (.int .i32 (charsetF s r)) ∧ Below w.heap.size w w' := by
  by_cases h1 : s = 1
  · subst h1
    by_cases h35 : r = 35
    · subst h35
      go_enter Tryd.func23, Tryd.ntmps23
      go_wp2_with fail
      go_ret
      exact ⟨rfl, Below.refl _ _⟩
    · have hb : (r == 35) = false := by simpa using h35
      have HL : Hid (charsetF 1 r = r) := by show _ = _; simp [charsetF, britishF, h35]
      clear h35
      go_enter Tryd.func23, Tryd.ntmps23
      go_wp2_with fail
      go_ret
      exact ⟨ret_int (by rw [HL.out]), Below.refl _ _⟩
  · by_cases h2 : s = 2
    · subst h2
      clear h1
      by_cases h95 : r = 95
      · subst h95
        go_enter Tryd.func23, Tryd.ntmps23
        go_wp2_with fail
        go_ret
        exact ⟨rfl, Below.refl _ _⟩
      · have hb : (r == 95) = false := by simpa using h95
        have HL : Hid (charsetF 2 r = graphicF r) := by show _ = _; simp [charsetF]
        cases hin : inB r 96 126 with
        | true =>
          obtain ⟨h1, h2⟩ : 96 ≤ r ∧ r < 127 := by
            simp [inB] at hin
            omega
          clear h95
          go_enter Tryd.func23, Tryd.ntmps23
          go_wp2_with (first | (go_at_call 30; refine (in_any _ _ _ _).mono ?_; rintro e w' ⟨rfl, rfl⟩) | (go_at_call 35; refine (refGraphic_any _ _ h1 h2).mono ?_; rintro e w1 ⟨rfl, hbel⟩))
          go_ret
          exact ⟨ret_int (by rw [HL.out]), hbel⟩
        | false =>
          have HG : Hid (graphicF r = r) := by
            show _ = _
            unfold graphicF
            rw [if_neg h95, if_neg]
            intro hh
            rw [show inB r 96 126 = true by simp [inB]; omega] at hin
            cases hin
          clear h95
          go_enter Tryd.func23, Tryd.ntmps23
          go_wp2_with (go_at_call 30; refine (in_any _ _ _ _).mono ?_; rintro e w' ⟨rfl, rfl⟩)
          go_ret
          exact ⟨ret_int (by rw [HL.out, HG.out]), Below.refl _ _⟩
    · have hb1 : (s == 1) = false := by simpa using h1
      have hb2 : (s == 2) = false := by simpa using h2
      have HL : Hid (charsetF s r = r) := by show _ = _; simp [charsetF, h1, h2]
      clear h1 h2
      go_enter Tryd.func23, Tryd.ntmps23
      go_wp2_with fail
      go_ret
      exact ⟨ret_int (by rw [HL.out]), Below.refl _ _⟩

/-! What the reference's two lists of names make of a sign: each row alone; all other runes have none. -/
theorem nameF_of {r k : Int} (h : (r == k) = true) : nameF r = nameF k := by rw [eq_of_beq h]

set_option maxHeartbeats 4000000 in
theorem refLater_any (r : Int) (w : World) (h : r < 33 ∨ 47 < r) :
    Calls Tryd.prog 37 #[.int .i32 r] w fun e w' => e = .returned (.tuple #[.string (nameF r).1, .int .i64 (nameF r).2]) ∧ w = w' := by
  have H := Lib.hid h; clear h
  go_enter Tryd.func37, Tryd.ntmps37
  go_wp2
  all_goals go_ret2
  all_goals
    first
    | (have hx := nameF_of ‹(r == _) = true›
       exact ⟨ret_name (by rw [hx]; decide +kernel) (by rw [hx]; decide +kernel), rfl⟩)
    | (have hn : nameF r = (⟨#[]⟩, 0) := by
         have h := H.out
         simp only [beq_eq_false_iff_ne, ne_eq] at *
         simp only [nameF, nameTab, nameFind]
         repeat rw [if_neg (by omega)]
       exact ⟨ret_name (by rw [hn]) (by rw [hn]), rfl⟩)

set_option maxHeartbeats 4000000 in
theorem refName_any (r : Int) (w : World) :
    Calls Tryd.prog 25 #[.int .i32 r] w fun e w' => e = .returned (.tuple #[.string (nameF r).1, .int .i64 (nameF r).2]) ∧ w = w' := by
  by_cases h1 : r < 33
  · go_enter Tryd.func25, Tryd.ntmps25
    go_wp2_with (go_at_call 37; refine (refLater_any _ _ (Or.inl h1)).mono ?_; rintro e w' ⟨rfl, rfl⟩)
    go_ret2
    exact ⟨rfl, rfl⟩
  · by_cases h2 : 47 < r
    · go_enter Tryd.func25, Tryd.ntmps25
      go_wp2_with (go_at_call 37; refine (refLater_any _ _ (Or.inr h2)).mono ?_; rintro e w' ⟨rfl, rfl⟩)
      go_ret2
      exact ⟨rfl, rfl⟩
    · have hr : r = 33 ∨ r = 34 ∨ r = 35 ∨ r = 36 ∨ r = 37 ∨ r = 38 ∨ r = 39 ∨ r = 40 ∨ r = 41 ∨ r = 42 ∨ r = 43 ∨ r = 44 ∨ r = 45 ∨ r = 46 ∨ r = 47 := by omega
      clear h1 h2
      rcases hr with rfl | rfl | rfl | rfl | rfl | rfl | rfl | rfl | rfl | rfl | rfl | rfl | rfl | rfl | rfl
      all_goals
        go_enter Tryd.func25, Tryd.ntmps25
        go_wp2
        go_ret2
        exact ⟨ret_name (by decide +kernel) (by decide +kernel), rfl⟩

end Go.Proofs.YtjffiikdfoejhaaDoor.Cht
