/-
  keys: KeysBrackets.
-/
import Derived.Test.YtkmedfffmalbgaaDoorKPas2
import Derived.Test.YtkmedfffmalbgaaDoorKLaw1
namespace Go.Proofs.YtkmedfffmalbgaaDoor.Kys
open Go Go.RowKit Go.Proofs.YtkmedfffmalbgaaDoor.Com Go.Proofs.YtkmedfffmalbgaaDoor.Mds

/-- A byte that may stand between the brackets. -/
def okB (x : Int) : Prop := (32 ≤ x ∧ x ≠ 127) ∨ x = 9 ∨ x = 13
theorem enc_ok {r : Int} (h : pasted r) : ∀ x ∈ encF r, okB x := by
  intro x hx
  unfold okB
  rcases h with h | ⟨h1, h2⟩ | ⟨h1, h2⟩
  · subst h
    have : x = 9 := by simpa [encF] using hx
    omega
  · have he : encF r = [r] := by
      unfold encF
      rw [if_neg (by omega), if_pos (by omega)]
    rw [he] at hx
    have : x = r := by simpa using hx
    omega
  · obtain ⟨h3, h4, h5⟩ := h2
    unfold encF at hx
    rw [if_neg (by omega), if_neg (by omega)] at hx
    split at hx
    · simp at hx; omega
    · split at hx <;> (simp at hx; omega)
theorem one_ok (p : Bool) (r : Int) : ∀ x ∈ oneP p r, okB x := by
  intro x hx
  unfold oneP at hx
  split at hx
  · split at hx
    · simp at hx
    · simp at hx; exact .inr (.inr hx)
  · split at hx
    · simp at hx; exact .inr (.inr hx)
    · split at hx
      · exact enc_ok ‹pasted r› x hx
      · simp at hx
theorem plain_ok : ∀ (l : List Int) (p : Bool), ∀ x ∈ plainP p l, okB x
  | [], _, x, hx => by simp [plainP] at hx
  | r :: t, p, x, hx => by
    rcases List.mem_append.1 hx with h | h
    · exact one_ok p r x h
    · exact plain_ok t _ x h
theorem plain_app : ∀ (a b : List Int) (p : Bool), plainP p (a ++ b) = plainP p a ++ plainP (if a = [] then p else is13 (a.getLast?.getD 0)) b
  | [], b, p => by simp [plainP]
  | r :: t, b, p => by
    have h := plain_app t b (is13 r)
    simp only [List.cons_append, plainP, h, List.append_assoc]
    congr 2
    rcases t with _ | ⟨y, t⟩
    · simp
    · simp [List.getLast?_cons_cons]
theorem plain_head {b : List Int} (h : ∀ (hb : 0 < b.length), b[0] ≠ 10) (p : Bool) : plainP p b = plainP false b := by
  rcases b with _ | ⟨y, t⟩
  · rfl
  · have hy := h (by simp)
    have hy' : ¬ y = 10 := hy
    have e : ∀ q, oneP q y = oneP false y := fun q => by simp only [oneP, if_neg hy']
    simp only [plainP, e p]
/-- Pasted in two parts it is both. -/
theorem plain_two {a b : List Int} (h : ¬ (∃ (ha : 0 < a.length) (hb : 0 < b.length), a[a.length - 1] = 13 ∧ b[0] = 10)) : plainP false (a ++ b) = plainP false a ++ plainP false b := by
  rw [plain_app]
  congr 1
  by_cases ha : a = []
  · rw [if_pos ha]
  · rw [if_neg ha]
    have hal : 0 < a.length := List.length_pos_iff.2 ha
    have hla : a.getLast?.getD 0 = a[a.length - 1] := by rw [List.getLast?_eq_getElem?, List.getElem?_eq_getElem (by omega)]; rfl
    rw [hla]
    by_cases h13 : a[a.length - 1] = 13
    · exact plain_head (fun hb h10 => h ⟨hal, hb, h13, h10⟩) _
    · rw [show is13 a[a.length - 1] = false by simp [is13, h13]]

theorem brackets_long (a0 b0 : Option Addr) (n k c d : Nat) (hl : 1000 < n ∨ 1000 < k) (W : World) (hT : Tab W) : Calls Tryd.prog 7 #[.slice a0 n c, .slice b0 k d] W (Yes W) := by
  have hk := Lib.hid (known_any _ hT)
  clear hT
  by_cases hn : 1000 < n
  · have hl' : (1000 : Int) < (n : Int) := by omega
    clear hl
    go_enter Tryd.func7, Tryd.ntmps7
    go_wp2_with ((go_at_call 8; (with_reducible refine (hk.out).mono ?_); rintro e w1 ⟨rfl, hb1⟩))
    go_ret
    exact ⟨rfl, hb1⟩
  · have hl' : (1000 : Int) < (k : Int) := by omega
    have hn' : (n : Int) ≤ 1000 := by omega
    clear hl hn
    go_enter Tryd.func7, Tryd.ntmps7
    go_wp2_with ((go_at_call 8; (with_reducible refine (hk.out).mono ?_); rintro e w1 ⟨rfl, hb1⟩))
    go_ret
    exact ⟨rfl, hb1⟩
/-- What is known behind the two pastes. -/
structure BSt (W : World) (a0 b0 ap : Option Addr) (a b PL : List Int) (wr : World) : Prop where
  fst : Nums wr wr.heap.size .i32 a0 a
  snd : Nums wr wr.heap.size .i32 b0 b
  pl : Nums wr wr.heap.size .u8 ap PL
  below : Below W.heap.size W wr
theorem BSt.drew {W wr : World} {a0 b0 ap : Option Addr} {a b PL : List Int} (h : BSt W a0 b0 ap a b PL wr) : BSt W a0 b0 ap a b PL wr.drew := ⟨nums_drew h.fst, nums_drew h.snd, nums_drew h.pl, below_drew h.below⟩
theorem BSt.next {W wr w' : World} {a0 b0 ap : Option Addr} {a b PL : List Int} (h : BSt W a0 b0 ap a b PL wr) (hb : Below wr.heap.size wr w') : BSt W a0 b0 ap a b PL w' := ⟨nums_next h.fst hb, nums_next h.snd hb, nums_next h.pl hb, below_next h.below hb⟩
theorem add_str {x : ByteArray} {l m : List Int} (hx : x = strOfNums l) (hl : l.length + m.length ≤ 9223372036854775807) (w : World) : (Op.stringOp .add x (strOfNums m)).run Tryd.prog w = .ok (.string (strOfNums (l ++ m))) w := by
  rw [hx, run_string_add_sum w _ _ (by rw [strOfNums_size, strOfNums_size]; exact hl), str_app]
theorem add_str' {x : ByteArray} {l m : List Int} (hx : x = strOfNums m) (hl : l.length + m.length ≤ 9223372036854775807) (w : World) : (Op.stringOp .add (strOfNums l) x).run Tryd.prog w = .ok (.string (strOfNums (l ++ m))) w := by
  rw [hx]
  exact add_str rfl hl w
set_option maxHeartbeats 8000000 in
theorem brackets_met (a0 b0 : Option Addr) (c d : Nat) (a b : List Int) (ha : a.length ≤ 1000) (hb : b.length ≤ 1000) (h0 : 0 < a.length) (h1 : 0 < b.length) (h13 : a[a.length - 1] = 13) (h10 : b[0] = 10) (W : World) (hna : Nums W W.heap.size .i32 a0 a) (hnb : Nums W W.heap.size .i32 b0 b) (hT : Tab W) :
    Calls Tryd.prog 7 #[.slice a0 a.length c, .slice b0 b.length d] W (Yes W) := by
  replace h13 := Lib.hid h13
  replace h10 := Lib.hid h10
  have hlit := Own.lit W W.heap.size 21 .i32 [] (Nat.le_refl _) (by simp [maxLen])
  replace hlit := Lib.hid hlit
  have hna0 := Lib.hid (hna.alloc (Nat.le_refl _) (.cells #[] 21))
  have hnb0 := Lib.hid (hnb.alloc (Nat.le_refl _) (.cells #[] 21))
  have hbA := Lib.hid (below_new W (.cells #[] 21))
  obtain ⟨all, hall⟩ : ∃ all, all = a ++ b := ⟨_, rfl⟩
  have hlen : all.length ≤ 2000 := by rw [hall, List.length_append]; omega
  have hP : ∀ (x : Option Addr) (c' : Nat) (w' : World), Nums w' w'.heap.size .i32 x all → Tab w' → Calls Tryd.prog 9 #[.agg #[.bool false, .bool false, .bool false, .bool false, .bool false, .bool false, .bool false, .bool false], .slice x all.length c'] w' (Put w'.heap.size (plainP false all) w') := fun x c' w' h1 h2 => paste_any ⟨false, false, false, false, false, false, false, false⟩ x c' all (by omega) w' h1 h2
  have hO : ∀ (x : Option Addr) (c' : Nat) (w' : World), Nums w' w'.heap.size .i32 x all → Tab w' → Calls Tryd.prog 9 #[.agg #[.bool false, .bool false, .bool false, .bool false, .bool false, .bool false, .bool false, .bool true], .slice x all.length c'] w' (Put w'.heap.size (b200 ++ plainP false all ++ b201) w') := fun x c' w' h1 h2 => paste_any ⟨false, false, false, false, false, false, false, true⟩ x c' all (by omega) w' h1 h2
  have hok := plain_ok all false
  have hPlen := plain_len all false
  obtain ⟨PL, hPL⟩ : ∃ PL, PL = plainP false all := ⟨_, rfl⟩
  rw [← hPL] at hP hO hok hPlen
  have hPb : PL.length ≤ 8000 := by omega
  have h200 : b200.length = 6 := rfl
  have h201 : b201.length = 6 := rfl
  have hadd1 := fun w' => add_str (x := { data := #[27, 91, 50, 48, 48, 126] }) (l := b200) (m := PL) rfl (by omega) w'
  obtain ⟨Q1, hQ1⟩ : ∃ Q1, Q1 = b200 ++ PL := ⟨_, rfl⟩
  have hadd2 := fun w' => add_str' (x := { data := #[27, 91, 50, 48, 49, 126] }) (l := Q1) (m := b201) rfl (by rw [hQ1, List.length_append]; omega) w'
  rw [← hQ1] at hadd1 hO
  obtain ⟨ON, hON⟩ : ∃ ON, ON = Q1 ++ b201 := ⟨_, rfl⟩
  rw [← hON] at hadd2 hO
  replace hP := Lib.hid hP
  replace hO := Lib.hid hO
  replace hok := Lib.hid hok
  replace hlen := Lib.hid hlen
  replace hall := Lib.hid hall
  have hla : (a.length : Int) ≤ 1000 := by omega
  have hlb : (b.length : Int) ≤ 1000 := by omega
  replace hT := Lib.hid hT
  clear hQ1 hON h200 h201 hPlen hPL
  go_enter Tryd.func7, Tryd.ntmps7
  go_wp2_with (first
    | (at_builtin; refine wpList_app elemR rfl (.tmp 19) (.tmp 20) rfl W.heap.size (.slice (some ⟨W.heap.size, 0, none⟩) 0 0) [] a a0 W.heap.size c rfl rfl hlit.out hna0.out (by simp) (by simp; omega) (by simp [maxLen]; omega) ?_; intro v1 w1 hown1 ho1 hat1; rw [List.nil_append] at hown1; have hb1 := Lib.hid (hbA.out.trans (ho1.below hbA.out.size (by simp [Value.ownBlock]))); have hna1 := Lib.hid (hna0.out.only ho1 hbA.out.size (by simp [Value.ownBlock])); have hnb1 := Lib.hid (hnb0.out.only ho1 hbA.out.size (by simp [Value.ownBlock])); replace hown1 := Lib.hid hown1; clear ho1 hat1 hlit)
    | (at_builtin; refine wpList_app elemR rfl (.tmp 21) (.tmp 22) rfl W.heap.size v1 a b b0 W.heap.size d rfl rfl hown1.out hnb1.out hb1.out.size (by omega) (by simp [maxLen]; omega) ?_; intro v2 w2 hown2 ho2 hat2; rw [← hall.out] at hown2; have hlt1 := hown1.out.lt; have hb2 := Lib.hid (hb1.out.trans (ho2.below hb1.out.size (by intro x hx; exact (hlt1 x (by simpa using hx)).1))); have hna2 := Lib.hid ((hna1.out.only ho2 hb1.out.size (by intro x hx; exact (hlt1 x (by simpa using hx)).1)).more hb2.out.size); have hnb2 := Lib.hid ((hnb1.out.only ho2 hb1.out.size (by intro x hx; exact (hlt1 x (by simpa using hx)).1)).more hb2.out.size); obtain ⟨a5, c5, rfl, _, _, hn5⟩ := hown2.shape; replace hn5 := Lib.hid hn5; clear ho2 hat2 hlt1 hown2)
    | (go_at_call 9; (with_reducible refine (hP.out a5 c5 _ hn5.out (hT.out.below hb2.out)).mono ?_); rintro e w3 ⟨v3, rfl, hr3, hc3⟩; obtain ⟨ap, cp, rfl, _, _, hn3⟩ := hr3.shape; have hst3 : Hid (BSt W a0 b0 ap a b PL w3) := ⟨nums_next hna2.out hc3, nums_next hnb2.out hc3, hn3, below_next hb2.out hc3⟩; have hn6 := Lib.hid (nums_next hn5.out hc3); clear hn5 hn3 hr3 hc3 hna2 hnb2 hb2)
    | (go_at_call 9; (with_reducible refine (hO.out a5 c5 _ hn6.out (hT.out.below hst3.out.below)).mono ?_); rintro e w4 ⟨v4, rfl, hr4, hc4⟩; obtain ⟨aq, cq, rfl, _, _, hn4⟩ := hr4.shape; replace hn4 := Lib.hid hn4; have hst4 := Lib.hid (hst3.out.next hc4); clear hn6 hr4 hc4)
    | (with_reducible show wpList _ _ _ (⟨some 31, .convert _ _ _, _, _, _, _⟩ :: _) _ _; go_must (refine wpList_text rfl (.tmp 30) rfl Tryd.underlying26 Tryd.underlying5 Tryd.underlying9 cq hn4.out rfl ?_))
    | (with_reducible show wpList _ _ _ (⟨some 33, .convert _ _ _, _, _, _, _⟩ :: _) _ _; go_must (refine wpList_text rfl (.tmp 32) rfl Tryd.underlying26 Tryd.underlying5 Tryd.underlying9 cp hst4.out.pl rfl ?_)))
  clear hadd1 hadd2 hP hO hn4 hst3 hall
  go_loop [39] (fun i => ∃ k : Nat, i = .int .i64 k ∧ k ≤ PL.length) (fun i => PL.length - (intOf i).toNat)
  case atStart => exact ⟨0, rfl, by omega⟩
  case round =>
    obtain ⟨k, rfl, hk⟩ := hrel
    by_cases hlt : k < PL.length
    · obtain ⟨ad, rfl, _, hcell⟩ := hst4.out.pl.at hlt
      have hx := hok.out _ (List.getElem_mem hlt)
      clear hst4 hok
      generalize PL[k] = x at hcell hx
      rcases hx with ⟨h1, h2⟩ | h1 | h1
      all_goals
        try subst h1
        go_wp2_with fail
        go_round
        case rel => exact ⟨k + 1, by go_num, by omega⟩
        case measure => simp [intOf]; omega
    · clear hok
      obtain ⟨xa, e1, _, hca⟩ := hst4.out.fst.at (show a.length - 1 < a.length by omega)
      obtain ⟨xb, e2, _, hcb⟩ := hst4.out.snd.at h1
      rw [h13.out] at hca
      rw [h10.out] at hcb
      have hcb0 : w4.cell? xb = some (.int .i32 10) := by simpa [Addr.add] using hcb
      obtain ⟨na, hna'⟩ : ∃ na : Nat, na = a.length - 1 := ⟨_, rfl⟩
      rw [← hna'] at hca
      have hw : IntKind.i64.wrap ((a.length : Int) - 1) = (na : Int) := by rw [IntKind.wrap_i64]; omega
      have hlt' : na < a.length := by omega
      subst e1
      subst e2
      clear hcb h13 h10 hna'
      go_wp2_with ((go_at_call 8; (with_reducible refine (known_any _ (hT.out.below hst4.out.below)).mono ?_); rintro e w5 ⟨rfl, hc5⟩))
      go_ret
      exact ⟨rfl, below_next hst4.out.below hc5⟩

end Go.Proofs.YtkmedfffmalbgaaDoor.Kys
