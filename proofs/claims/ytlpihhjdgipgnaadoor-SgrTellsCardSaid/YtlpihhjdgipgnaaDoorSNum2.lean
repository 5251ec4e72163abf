/-
  sgr: Numbers, and the reference's: all numbers of an attribute.
-/
import Derived.Test.YtlpihhjdgipgnaaDoorSNum
namespace Go.Proofs.YtlpihhjdgipgnaaDoor.Sgr
open Go Go.RowKit Go.Proofs.YtlpihhjdgipgnaaDoor.Com

/-- While numbers are put behind one another: the attribute's block, the row. -/
structure NumAt (w0 w : World) (d : Nat) (a : At) (v : Value) (l : List Int) : Prop where
  att : AIn w d a
  own : Own w w0.heap.size 3 .i64 v l
  low : w0.heap.size ≤ d
  below : Below w0.heap.size w0 w
section
variable {w0 w w' : World} {d : Nat} {a : At} {v v' : Value} {l l' : List Int}
theorem NumAt.new (h : NumAt w0 w d a v l) (hb : Below w.heap.size w w') : NumAt w0 w' d a v l := ⟨h.att.new hb, h.own.only (Only.of_below hb []) (by simp), h.low, below_next h.below hb⟩
theorem NumAt.app (h : NumAt w0 w d a v l) (hown : Own w' w0.heap.size 3 .i64 v' l') (ho : Only v.ownBlock.toList w w') : NumAt w0 w' d a v' l' :=
  ⟨h.att.only ho (att_apart h.own h.att), hown, h.low, below_app0 h.below h.own h.below.size ho⟩
theorem NumAt.slice (h : NumAt w0 w d a v l) : ∃ ao n c, v = .slice ao n c := own_slice h.own
end
theorem flags_next (g : Int) (k : Nat) : flagsTo g (k + 1) = flagsTo g k ++ (if hasF g (flagF (tab.getD k 0)) then [tab.getD k 0] else []) := rfl
theorem flags_yes {g x F : Int} {k : Nat} (hx : tab.getD k 0 = x) (hF : flagF x = F) (h : (bits .and .u16 g F != 0) = true) : flagsTo g (k + 1) = flagsTo g k ++ [x] := by
  rw [flags_next, hx, hF, if_pos (show hasF g F = true from h)]
theorem flags_no {g x F : Int} {k : Nat} (hx : tab.getD k 0 = x) (hF : flagF x = F) (h : (bits .and .u16 g F != 0) = false) : flagsTo g (k + 1) = flagsTo g k := by
  rw [flags_next, hx, hF, if_neg (by rw [hasF, h]; simp), List.append_nil]

def NumsE (w : World) (l : List Int) (e : Ending) (w' : World) : Prop := ∃ v, e = .returned (.tuple #[v, .int .i64 0]) ∧ Own w' w.heap.size 3 .i64 v l ∧ Below w.heap.size w w'

theorem numbers_no (a : At) (h : mayF a = false) (w : World) :
    Calls Tryd.prog 13 #[.agg #[.int .u32 a.f, .int .u32 a.b, .int .u16 a.g]] w fun e w' => e = .returned (.tuple #[.slice none 0 0, .int .i64 2]) ∧ Below w.heap.size w w' := by
  have hb0 := Lib.hid (below_new w (.cells #[.int .u32 a.f, .int .u32 a.b, .int .u16 a.g] 25))
  have hm := fun w' => may_any a w'
  rw [h] at hm
  replace hm := Lib.hid hm
  clear h
  go_enter Tryd.func13, Tryd.ntmps13
  go_wp2_with (go_at_call 10; refine (hm.out _).mono ?_; rintro e w' ⟨rfl, hb1⟩)
  go_ret2
  exact ⟨rfl, below_next hb0.out hb1⟩

set_option maxRecDepth 100000 in
set_option maxHeartbeats 4000000 in
theorem numbers_any (a : At) (h : mayF a = true) (ha : a.Ok) (w : World) (T : Tab w) :
    Calls Tryd.prog 13 #[.agg #[.int .u32 a.f, .int .u32 a.b, .int .u16 a.g]] w (NumsE w (numbersF a)) := by
  have hp := may_p ha h
  have hb0 := below_new w (.cells #[.int .u32 a.f, .int .u32 a.b, .int .u16 a.g] 25)
  have hat0 := AIn.made w a
  have hm := fun w' => may_any a w'
  rw [h] at hm
  replace hm := Lib.hid hm
  have hF := Lib.hid (fun w' => nums_any 30 82 38 39 a.f (by omega) (by omega) ha.f0 hp.f w')
  have hB := Lib.hid (fun w' => nums_any 40 92 48 49 a.b (by omega) (by omega) ha.b0 hp.b w')
  obtain ⟨NN, hNN⟩ : ∃ NN, NN = numbersF a := ⟨_, rfl⟩
  rw [← hNN]
  have hE : NN = (0 :: flagsTo a.g 8) ++ numF 30 82 38 a.f ++ numF 40 92 48 a.b := hNN
  clear hNN
  have hlenF := num_len 30 82 38 a.f
  have hlenB := num_len 40 92 48 a.b
  have hlenG := flags_len a.g
  clear h hp ha
  obtain ⟨f, b, g⟩ := a
  simp only at hF hB hE hm hat0 hlenF hlenB hlenG
  generalize numF 30 82 38 f = LF at hF hE hlenF
  generalize numF 40 92 48 b = LB at hB hE hlenB
  replace hE := Lib.hid hE
  replace hb0 := Lib.hid hb0
  replace hat0 := Lib.hid hat0
  go_enter Tryd.func13, Tryd.ntmps13
  go_wp2_with fail
  refine (hm.out _).mono ?_
  rintro e w2 ⟨rfl, hb2⟩
  have hT2 := Lib.hid (T.below (below_next (below_next hb0.out hb2) (below_new w2 (.cells #[.int .i64 0] 3))))
  have c0 := hT2.out.cells 0 (by omega); have c1 := hT2.out.cells 1 (by omega); have c2 := hT2.out.cells 2 (by omega); have c3 := hT2.out.cells 3 (by omega)
  have c4 := hT2.out.cells 4 (by omega); have c5 := hT2.out.cells 5 (by omega); have c6 := hT2.out.cells 6 (by omega); have c7 := hT2.out.cells 7 (by omega)
  simp only [tab, List.getD_cons_zero, List.getD_cons_succ] at c0 c1 c2 c3 c4 c5 c6 c7
  have hN0 : NumAt w (w2.alloc (.cells #[.int .i64 0] 3)) w.heap.size ⟨f, b, g⟩ (.slice (some ⟨w2.heap.size, 0, none⟩) 1 1) (0 :: flagsTo g 0) :=
    ⟨(hat0.out.new hb2).new (below_new _ _), by simpa [flagsTo] using Own.lit w2 w.heap.size 3 .i64 [0] (below_next hb0.out hb2).size (by simp [maxLen]), Nat.le_refl _, below_next (below_next hb0.out hb2) (below_new _ _)⟩
  replace hN0 := Lib.hid hN0
  clear hb0 hat0 hT2 T hm
  go_wp2_with fail
  clear c0 c1 c2 c3 c4 c5 c6 c7
  generalize (w2.alloc (.cells #[.int .i64 0] 3)) = w3 at hN0 ⊢
  generalize (⟨w2.heap.size, 0, none⟩ : Addr) = ad0 at hN0 ⊢
  obtain ⟨d, hd⟩ : ∃ d, d = w.heap.size := ⟨_, rfl⟩
  rw [← hd] at hN0 ⊢
  clear hd
  go_loopw [12, 4] (fun i v wq => ∃ (k : Nat) (wr : World), i = .int .i64 k ∧ k ≤ 8 ∧ wr = wq ∧ Hid (NumAt w wr d ⟨f, b, g⟩ v (0 :: flagsTo g k))) (fun i _ _ => 8 - (intOf i).toNat)
  case atStart => exact ⟨0, _, rfl, by omega, rfl, hN0⟩
  case round =>
    obtain ⟨k, wr, rfl, hk, rfl, hat⟩ := hrel
    clear hN0
    obtain ⟨av, nv, cv, rfl⟩ := hat.out.slice
    by_cases hlt : k < 8
    · have hix := Lib.hid (idx k hlt)
      have hsh := shl_at k hlt
      have hyes := Lib.hid (fun x (hx : tab.getD k 0 = x) => flags_yes (g := g) (F := IntKind.u16.wrap (2 ^ k)) (k := k) hx (by rw [← hx]; exact hsh))
      have hno := Lib.hid (fun x (hx : tab.getD k 0 = x) => flags_no (g := g) (F := IntKind.u16.wrap (2 ^ k)) (k := k) hx (by rw [← hx]; exact hsh))
      have hlen := hlenG k
      clear hsh
      obtain ⟨x, hx⟩ : ∃ x, tab.getD k 0 = x := ⟨_, rfl⟩
      rw [hx] at hix
      replace hx := Lib.hid hx
      have m2 := hat.out.att.c2
      rcases hbit : (bits .and .u16 g (IntKind.u16.wrap (2 ^ k)) != 0) with _ | _
      · have hnext := Lib.hid (hno.out x hx.out hbit)
        go_wp2_with (with_reducible show wpList _ _ _ (⟨some 15, .index _ _ _, _, _, _, _⟩ :: _) _ _; go_must (refine wpList_idx rfl hix.out (.tmp 11) (.tmp 12) rfl rfl rfl ?_))
        go_quiet (fail)
        have hat2 := Lib.hid (hat.out.new (below_dr (Below.refl _ _) nq))
        go_wp2_with fail
        go_roundw
        case rel => exact ⟨k + 1, _, by go_num, by omega, rfl, Lib.hid (by rw [hnext.out]; exact hat2.out)⟩
        case measure => simp [intOf]; omega
      · have hnext := Lib.hid (hyes.out x hx.out hbit)
        go_wp2_with (with_reducible show wpList _ _ _ (⟨some 15, .index _ _ _, _, _, _, _⟩ :: _) _ _; go_must (refine wpList_idx rfl hix.out (.tmp 11) (.tmp 12) rfl rfl rfl ?_))
        go_quiet (fail)
        have hat2 := Lib.hid (hat.out.new (below_dr (Below.refl _ _) nq))
        have hat3 := Lib.hid (hat2.out.new (below_new _ (.cells #[.int .i64 x] 3)))
        go_wp2_with (with_reducible show wpList _ _ _ (⟨some 25, .call _, _, _, _, _⟩ :: _) _ _; go_must (refine wpList_app elemI rfl (.tmp 22) (.tmp 24) rfl w.heap.size (.slice av nv cv) (0 :: flagsTo g k) [x] (some ⟨_, 0, none⟩) _ 1 rfl rfl hat3.out.own (Nums.one _ _ _ _) ?_ ?_ ?_ ?_; (exact hat3.out.below.size); (simp; omega); (simp [maxLen]; omega); intro v3 w5 hown3 ho3 hl3; obtain ⟨a3, n3, c3', rfl⟩ := own_slice hown3))
        go_roundw
        case rel => exact ⟨k + 1, _, by go_num, by omega, rfl, Lib.hid (by rw [hnext.out]; exact hat3.out.app hown3 ho3)⟩
        case measure => simp [intOf]; omega
    · have hk8 : k = 8 := by omega
      subst hk8
      have hlen := hlenG 8
      go_wp2_with fail
      have hS0 := Lib.hid (fun w' (hb : Below wr.heap.size wr w') => (show w'.cell? ⟨d, 0, none⟩ = some (.int .u32 f) ∧ w'.cell? ⟨d, 1, none⟩ = some (.int .u32 b) from ⟨(hat.out.att.new hb).c0, (hat.out.att.new hb).c1⟩))
      have hb51 : Below wr.heap.size wr wr.drew := below_dr (Below.refl _ _) 1
      have hl5 : (0 :: flagsTo g 8 : List Int).length ≤ 9 := by simp; omega
      go_region_held3 (fun w' => w'.cell? ⟨d, 0, none⟩ = some (.int .u32 f) ∧ w'.cell? ⟨d, 1, none⟩ = some (.int .u32 b))
        (first
          | exact hS0.out _ (by assumption)
          | exact ⟨(hat8.out.att).c0, (hat8.out.att).c1⟩
          | go_keep)
        (first
          | (go_at_call 22; refine (foreground_any _).mono ?_; rintro e w6 ⟨rfl, hb6'⟩; have hb6 : Below wr.heap.size wr w6 := below_next (by assumption) hb6')
          | (go_at_call 23; refine (hF.out _).mono ?_; rintro e w7 ⟨v7, rfl, hown7, hb7'⟩; have hb7 : Below wr.heap.size wr w7 := below_next hb6 hb7'; obtain ⟨a7, c7, rfl, _, _, hn7⟩ := hown7.shape; have hat7 := Lib.hid (hat.out.new hb7))
          | (refine step_app elemI rfl (.tmp 27) (.tmp 31) rfl w.heap.size (.slice av nv cv) (0 :: flagsTo g 8) LF a7 w7.heap.size c7 rfl rfl hat7.out.own hn7 hat7.out.below.size (by omega) (by simp only [maxLen]; omega) ?_; intro v8 w8 hown8 ho8 hat8'; have hat8 := Lib.hid (hat7.out.app hown8 ho8); obtain ⟨a8, n8, c8, rfl⟩ := own_slice hown8))
      have hl8 : (0 :: flagsTo g 8 ++ LF : List Int).length ≤ 14 := by rw [List.length_append]; omega
      have hlenB' := Lib.hid hlenB
      generalize (0 :: flagsTo g 8 ++ LF : List Int) = L8 at hat8 hE hl8
      clear hat hat7 hown7 hn7 hS0 hb51 hb6 hb7 hlen hlenG
      go_wp2_with fail
      have hS1 := Lib.hid (fun w' (hb : Below w8.heap.size w8 w') => (show w'.cell? ⟨d, 0, none⟩ = some (.int .u32 f) ∧ w'.cell? ⟨d, 1, none⟩ = some (.int .u32 b) from ⟨(hat8.out.att.new hb).c0, (hat8.out.att.new hb).c1⟩))
      have hb81 : Below w8.heap.size w8 w8.drew := below_dr (Below.refl _ _) 1
      go_region_held3 (fun w' => w'.cell? ⟨d, 0, none⟩ = some (.int .u32 f) ∧ w'.cell? ⟨d, 1, none⟩ = some (.int .u32 b))
        (first
          | exact hS1.out _ (by assumption)
          | exact ⟨(hat11.out.att).c0, (hat11.out.att).c1⟩
          | go_keep)
        (first
          | (go_at_call 24; refine (background_any _).mono ?_; rintro e w9 ⟨rfl, hb9'⟩; have hb9 : Below w8.heap.size w8 w9 := below_next (by assumption) hb9')
          | (go_at_call 23; refine (hB.out _).mono ?_; rintro e w10 ⟨v10, rfl, hown10, hb10'⟩; have hb10 : Below w8.heap.size w8 w10 := below_next hb9 hb10'; obtain ⟨a10, c10, rfl, _, _, hn10⟩ := hown10.shape; have hat10 := Lib.hid (hat8.out.new hb10))
          | (refine step_app elemI rfl (.tmp 33) (.tmp 37) rfl w.heap.size (.slice a8 n8 c8) L8 LB a10 w10.heap.size c10 rfl rfl hat10.out.own hn10 hat10.out.below.size (by omega) (by simp only [maxLen]; omega) ?_; intro v11 w11 hown11 ho11 hat11'; have hat11 := Lib.hid (hat10.out.app hown11 ho11); obtain ⟨a11, n11, c11, rfl⟩ := own_slice hown11))
      go_wp2
      go_ret2
      exact ⟨_, rfl, by rw [hE.out]; exact hat11.out.own, hat11.out.below⟩

end Go.Proofs.YtlpihhjdgipgnaaDoor.Sgr
