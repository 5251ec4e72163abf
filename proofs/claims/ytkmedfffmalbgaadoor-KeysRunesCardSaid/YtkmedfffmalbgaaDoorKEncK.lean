/-
  keys: Encode of the program, at every key and by every mode.
-/
import Derived.Test.YtkmedfffmalbgaaDoorKTyp
import Derived.Deep.RegionHeld3
import Derived.BigRegion
namespace Go.Proofs.YtkmedfffmalbgaaDoor.Kys
open Go Go.RowKit Go.Proofs.YtkmedfffmalbgaaDoor.Com Go.Proofs.YtkmedfffmalbgaaDoor.Mds

/-- What Encode says of a key that may be; of another one. -/
def EncIs (l : List Int) (w : World) (e : Ending) (w' : World) : Prop := ∃ v, e = .returned (.tuple #[v, .int .i64 0]) ∧ Row w' w.heap.size 5 v l ∧ Below w.heap.size w w'
def NoKey (w : World) (e : Ending) (w' : World) : Prop := e = .returned (.tuple #[.slice none 0 0, .int .i64 2]) ∧ Below w.heap.size w w'
theorem md_small {k : Ky} (hk : k.Ok) (hm : k.may) : 0 ≤ k.md ∧ k.md ≤ 7 := ⟨hk.md.1, hm.2.2.1⟩
theorem let_ne {k : Ky} (h : letF k ≠ 0) (m : Md) : encK m.a2 m.a1 k = letteredF m.a2 k (letF k) := if_pos h
theorem num_ne {k : Ky} (h : letF k = 0) (hn : numF k ≠ 0) (m : Md) : encK m.a2 m.a1 k = numberedF k (numF k) := by
  unfold encK
  rw [if_neg (by rw [h]; decide), if_pos hn]
theorem typ_is {k : Ky} (h : letF k = 0) (hn : numF k = 0) (m : Md) : encK m.a2 m.a1 k = altF k (typedF m.a1 k) := by
  unfold encK
  rw [if_neg (by rw [h]; decide), if_neg (by rw [hn]; decide)]
theorem num_in {k : Ky} (hm : k.may) : 0 ≤ numF k ∧ numF k ≤ 9223372036854775807 := by
  rcases num_ways k hm with ⟨_, e⟩ | ⟨_, e⟩ | ⟨_, e⟩ | ⟨_, e⟩ | ⟨_, _, e⟩ | ⟨_, _, e⟩ | ⟨_, _, e⟩ | ⟨_, _, e⟩ | ⟨_, _, e⟩ | ⟨_, _, e⟩ | ⟨_, _, e⟩ | ⟨_, _, e⟩ | ⟨_, _, e⟩ | ⟨_, e⟩ <;> omega
theorem typed_len (nl : Bool) (k : Ky) : (typedF nl k).length ≤ 4 := by
  have h1 := enc_len k.r
  have h2 : (ctrlF k.r).length ≤ 4 := by
    unfold ctrlF
    split
    · simp
    · split
      · simp
      · split
        · simp
        · omega
  unfold typedF
  split
  · split <;> simp
  · split
    · split <;> simp
    · split
      · split <;> simp
      · split
        · simp
        · split <;> omega
set_option maxHeartbeats 2000000 in
theorem encode_no (m : Md) (k : Ky) (hk : k.Ok) (hn : ¬ k.may) (w : World) : Calls Tryd.prog 17 #[.agg (mA m), .agg (kA k)] w (NoKey w) := by
  have hb0 := Lib.hid (two_below w m k)
  have hm0 := Lib.hid (two_m w m k)
  have hd0 := Lib.hid (two_k w m k)
  have hmay := fun w' => may_any k hk w'
  rw [decide_eq_false hn] at hmay
  replace hmay := Lib.hid hmay
  clear hk hn
  go_enter Tryd.func17, Tryd.ntmps17
  go_wp2_with (first
    | (with_reducible show wpList _ _ _ (⟨some 8, .load _ (.tmp 3), _, _, _, _⟩ :: _) _ _; go_must (refine wpList_load_k rfl (.tmp 3) rfl rfl hd0.out ?_))
    | (go_at_call 28; (with_reducible refine (hmay.out _).mono ?_); rintro e w1 ⟨rfl, hc1⟩; have hd1 := Lib.hid (hd0.out.below hc1); have hm1 := Lib.hid (hm0.out.below hc1); have hb1 := Lib.hid (below_next hb0.out hc1); clear hc1 hd0 hm0 hb0))
  go_ret2
  exact ⟨rfl, hb1.out⟩
set_option maxHeartbeats 2000000 in
theorem encode_let (m : Md) (k : Ky) (hk : k.Ok) (hm : k.may) (h0 : letF k ≠ 0) (w : World) (hT : Tab w) : Calls Tryd.prog 17 #[.agg (mA m), .agg (kA k)] w (EncIs (encK m.a2 m.a1 k) w) := by
  rw [let_ne h0 m]
  have hb0 := Lib.hid (two_below w m k)
  have hm0 := Lib.hid (two_m w m k)
  have hd0 := Lib.hid (two_k w m k)
  have hmay := fun w' => may_any k hk w'
  rw [decide_eq_true hm] at hmay
  replace hmay := Lib.hid hmay
  have hlet := fun w' => letter_any k hm w'
  have hput := fun w' hT' => lettered_any m k hk (letF k) w' hT'
  generalize letteredF m.a2 k (letF k) = out at *
  generalize letF k = x at *
  replace hput := Lib.hid hput
  replace hlet := Lib.hid hlet
  replace hT := Lib.hid hT
  clear hk hm
  go_enter Tryd.func17, Tryd.ntmps17
  go_wp2_with (first
    | (with_reducible show wpList _ _ _ (⟨some 8, .load _ (.tmp 3), _, _, _, _⟩ :: _) _ _; go_must (refine wpList_load_k rfl (.tmp 3) rfl rfl hd0.out ?_))
    | (go_at_call 28; (with_reducible refine (hmay.out _).mono ?_); rintro e w1 ⟨rfl, hc1⟩; have hd1 := Lib.hid (hd0.out.below hc1); have hm1 := Lib.hid (hm0.out.below hc1); have hb1 := Lib.hid (below_next hb0.out hc1); clear hc1 hd0 hm0 hb0)
    | (with_reducible show wpList _ _ _ (⟨some 11, .load _ (.tmp 3), _, _, _, _⟩ :: _) _ _; go_must (refine wpList_load_k rfl (.tmp 3) rfl rfl hd1.out ?_))
    | (go_at_call 29; (with_reducible refine (hlet.out _).mono ?_); rintro e w2 ⟨rfl, hc2⟩; have hd2 := Lib.hid (hd1.out.below hc2); have hm2 := Lib.hid (hm1.out.below hc2); have hb2 := Lib.hid (below_next hb1.out hc2); clear hc2 hd1 hm1 hb1)
    | (with_reducible show wpList _ _ _ (⟨some 15, .load _ (.tmp 2), _, _, _, _⟩ :: _) _ _; go_must (refine wpList_load_m rfl (.tmp 2) rfl rfl hm2.out ?_))
    | (with_reducible show wpList _ _ _ (⟨some 16, .load _ (.tmp 3), _, _, _, _⟩ :: _) _ _; go_must (refine wpList_load_k rfl (.tmp 3) rfl rfl hd2.out ?_))
    | (go_at_call 30; (with_reducible refine (hput.out _ (hT.out.below hb2.out)).mono ?_); rintro e w3 ⟨v, rfl, hr, hc3⟩))
  go_ret2
  exact ⟨v, rfl, hr.lower hb2.out.size, below_next hb2.out hc3⟩
set_option maxHeartbeats 2000000 in
theorem encode_num (m : Md) (k : Ky) (hk : k.Ok) (hm : k.may) (h0 : letF k = 0) (hn : numF k ≠ 0) (w : World) (hT : Tab w) : Calls Tryd.prog 17 #[.agg (mA m), .agg (kA k)] w (EncIs (encK m.a2 m.a1 k) w) := by
  rw [num_ne h0 hn m]
  have hb0 := Lib.hid (two_below w m k)
  have hm0 := Lib.hid (two_m w m k)
  have hd0 := Lib.hid (two_k w m k)
  have hmay := fun w' => may_any k hk w'
  rw [decide_eq_true hm] at hmay
  replace hmay := Lib.hid hmay
  have hlet := fun w' => letter_any k hm w'
  rw [h0] at hlet
  have hnum := fun w' => number_any k hm w'
  have hput := fun w' hT' => numbered_any k hk (numF k) (num_in hm) w' hT'
  generalize numberedF k (numF k) = out at *
  generalize numF k = x at *
  replace hput := Lib.hid hput
  replace hnum := Lib.hid hnum
  replace hlet := Lib.hid hlet
  replace hT := Lib.hid hT
  clear hk hm h0
  go_enter Tryd.func17, Tryd.ntmps17
  go_wp2_with (first
    | (with_reducible show wpList _ _ _ (⟨some 8, .load _ (.tmp 3), _, _, _, _⟩ :: _) _ _; go_must (refine wpList_load_k rfl (.tmp 3) rfl rfl hd0.out ?_))
    | (go_at_call 28; (with_reducible refine (hmay.out _).mono ?_); rintro e w1 ⟨rfl, hc1⟩; have hd1 := Lib.hid (hd0.out.below hc1); have hm1 := Lib.hid (hm0.out.below hc1); have hb1 := Lib.hid (below_next hb0.out hc1); clear hc1 hd0 hm0 hb0)
    | (with_reducible show wpList _ _ _ (⟨some 11, .load _ (.tmp 3), _, _, _, _⟩ :: _) _ _; go_must (refine wpList_load_k rfl (.tmp 3) rfl rfl hd1.out ?_))
    | (go_at_call 29; (with_reducible refine (hlet.out _).mono ?_); rintro e w2 ⟨rfl, hc2⟩; have hd2 := Lib.hid (hd1.out.below hc2); have hm2 := Lib.hid (hm1.out.below hc2); have hb2 := Lib.hid (below_next hb1.out hc2); clear hc2 hd1 hm1 hb1)
    | (with_reducible show wpList _ _ _ (⟨some 19, .load _ (.tmp 3), _, _, _, _⟩ :: _) _ _; go_must (refine wpList_load_k rfl (.tmp 3) rfl rfl hd2.out ?_))
    | (go_at_call 31; (with_reducible refine (hnum.out _).mono ?_); rintro e w3 ⟨rfl, hc3⟩; have hd3 := Lib.hid (hd2.out.below hc3); have hm3 := Lib.hid (hm2.out.below hc3); have hb3 := Lib.hid (below_next hb2.out hc3); clear hc3 hd2 hm2 hb2)
    | (with_reducible show wpList _ _ _ (⟨some 23, .load _ (.tmp 3), _, _, _, _⟩ :: _) _ _; go_must (refine wpList_load_k rfl (.tmp 3) rfl rfl hd3.out ?_))
    | (go_at_call 32; (with_reducible refine (hput.out _ (hT.out.below hb3.out)).mono ?_); rintro e w4 ⟨v, rfl, hr, hc4⟩))
  go_ret2
  exact ⟨v, rfl, hr.lower hb3.out.size, below_next hb3.out hc4⟩
theorem kcells {w : World} {g : Nat} {x0 x1 x2 x3 : Int} (h : KB w g ⟨x0, x1, x2, x3⟩) : w.cell? ⟨g, 0, none⟩ = some (.int .u8 x0) ∧ w.cell? ⟨g, 1, none⟩ = some (.int .i32 x1) ∧ w.cell? ⟨g, 2, none⟩ = some (.int .i64 x2) ∧ w.cell? ⟨g, 3, none⟩ = some (.int .u8 x3) := ⟨h.c0, h.c1, h.c2, h.c3⟩
theorem mcells {w : World} {g : Nat} {a0 a1 a2 a3 a4 a5 a6 a7 : Bool} (h : MB w g ⟨a0, a1, a2, a3, a4, a5, a6, a7⟩) :
    w.cell? ⟨g, 0, none⟩ = some (.bool a0) ∧ w.cell? ⟨g, 1, none⟩ = some (.bool a1) ∧ w.cell? ⟨g, 2, none⟩ = some (.bool a2) ∧ w.cell? ⟨g, 3, none⟩ = some (.bool a3) ∧ w.cell? ⟨g, 4, none⟩ = some (.bool a4) ∧ w.cell? ⟨g, 5, none⟩ = some (.bool a5) ∧ w.cell? ⟨g, 6, none⟩ = some (.bool a6) ∧ w.cell? ⟨g, 7, none⟩ = some (.bool a7) :=
  ⟨h.cell (k := 0) (by omega), h.cell (k := 1) (by omega), h.cell (k := 2) (by omega), h.cell (k := 3) (by omega), h.cell (k := 4) (by omega), h.cell (k := 5) (by omega), h.cell (k := 6) (by omega), h.cell (k := 7) (by omega)⟩
theorem all12 {w : World} {g g' : Nat} {a0 a1 a2 a3 a4 a5 a6 a7 : Bool} {x0 x1 x2 x3 : Int} (h : MB w g ⟨a0, a1, a2, a3, a4, a5, a6, a7⟩) (h' : KB w g' ⟨x0, x1, x2, x3⟩) :
    w.cell? ⟨g, 0, none⟩ = some (.bool a0) ∧ w.cell? ⟨g, 1, none⟩ = some (.bool a1) ∧ w.cell? ⟨g, 2, none⟩ = some (.bool a2) ∧ w.cell? ⟨g, 3, none⟩ = some (.bool a3) ∧ w.cell? ⟨g, 4, none⟩ = some (.bool a4) ∧ w.cell? ⟨g, 5, none⟩ = some (.bool a5) ∧ w.cell? ⟨g, 6, none⟩ = some (.bool a6) ∧ w.cell? ⟨g, 7, none⟩ = some (.bool a7) ∧
    w.cell? ⟨g', 0, none⟩ = some (.int .u8 x0) ∧ w.cell? ⟨g', 1, none⟩ = some (.int .i32 x1) ∧ w.cell? ⟨g', 2, none⟩ = some (.int .i64 x2) ∧ w.cell? ⟨g', 3, none⟩ = some (.int .u8 x3) :=
  ⟨h.cell (k := 0) (by omega), h.cell (k := 1) (by omega), h.cell (k := 2) (by omega), h.cell (k := 3) (by omega), h.cell (k := 4) (by omega), h.cell (k := 5) (by omega), h.cell (k := 6) (by omega), h.cell (k := 7) (by omega), h'.c0, h'.c1, h'.c2, h'.c3⟩
theorem mb_drew {w : World} {g : Nat} {m : Md} (h : MB w g m) : MB w.drew g m := h
theorem KB.drew {w : World} {g : Nat} {k : Ky} (h : KB w g k) : KB w.drew g k := h
theorem below_drew {w w' : World} {B : Nat} (h : Below B w w') : Below B w w'.drew := below_drewN h 1
set_option maxHeartbeats 4000000 in
theorem encode_typ (m : Md) (k : Ky) (hk : k.Ok) (hm : k.may) (h0 : letF k = 0) (hn : numF k = 0) (w : World) (hT : Tab w) : Calls Tryd.prog 17 #[.agg (mA m), .agg (kA k)] w (EncIs (encK m.a2 m.a1 k) w) := by
  rw [typ_is h0 hn m]
  have hb0 := Lib.hid (two_below w m k)
  have hm0 := Lib.hid (two_m w m k)
  have hd0 := Lib.hid (two_k w m k)
  have hmay := fun w' => may_any k hk w'
  rw [decide_eq_true hm] at hmay
  replace hmay := Lib.hid hmay
  have hlet := fun w' => letter_any k hm w'
  rw [h0] at hlet
  have hnum := fun w' => number_any k hm w'
  rw [hn] at hnum
  have hput := fun w' hT' => typed_any m k (md_small hk hm) w' hT'
  have halt := fun B v (w' : World) h hB => alt_any k (md_small hk hm) B v (typedF m.a1 k) (by have := typed_len m.a1 k; omega) w' h hB
  obtain ⟨l, hl⟩ : ∃ l, l = typedF m.a1 k := ⟨_, rfl⟩
  rw [← hl] at hput halt
  rw [← hl]
  obtain ⟨out, hout⟩ : ∃ out, out = altF k l := ⟨_, rfl⟩
  rw [← hout] at halt
  rw [← hout]
  clear hl hout
  obtain ⟨a0, a1, a2, a3, a4, a5, a6, a7⟩ := m
  obtain ⟨x0, x1, x2, x3⟩ := k
  replace hput := Lib.hid (show ∀ w', Tab w' → Calls Tryd.prog 34 #[.agg #[.bool a0, .bool a1, .bool a2, .bool a3, .bool a4, .bool a5, .bool a6, .bool a7], .agg #[.int .u8 x0, .int .i32 x1, .int .i64 x2, .int .u8 x3]] w' (Put w'.heap.size l w') from hput)
  replace halt := Lib.hid (show ∀ B v (w' : World), Row w' B 5 v l → B ≤ w'.heap.size → Calls Tryd.prog 33 #[.agg #[.int .u8 x0, .int .i32 x1, .int .i64 x2, .int .u8 x3], v] w' (Put B out w') from halt)
  replace hnum := Lib.hid hnum
  replace hlet := Lib.hid hlet
  replace hT := Lib.hid hT
  clear hk hm h0 hn
  go_enter Tryd.func17, Tryd.ntmps17
  go_wp2_with (first
    | (with_reducible show wpList _ _ _ (⟨some 8, .load _ (.tmp 3), _, _, _, _⟩ :: _) _ _; go_must (refine wpList_load_k rfl (.tmp 3) rfl rfl hd0.out ?_))
    | (go_at_call 28; (with_reducible refine (hmay.out _).mono ?_); rintro e w1 ⟨rfl, hc1⟩; have hd1 := Lib.hid (hd0.out.below hc1); have hm1 := Lib.hid (hm0.out.below hc1); have hb1 := Lib.hid (below_next hb0.out hc1); clear hc1 hd0 hm0 hb0)
    | (with_reducible show wpList _ _ _ (⟨some 11, .load _ (.tmp 3), _, _, _, _⟩ :: _) _ _; go_must (refine wpList_load_k rfl (.tmp 3) rfl rfl hd1.out ?_))
    | (go_at_call 29; (with_reducible refine (hlet.out _).mono ?_); rintro e w2 ⟨rfl, hc2⟩; have hd2 := Lib.hid (hd1.out.below hc2); have hm2 := Lib.hid (hm1.out.below hc2); have hb2 := Lib.hid (below_next hb1.out hc2); clear hc2 hd1 hm1 hb1)
    | (with_reducible show wpList _ _ _ (⟨some 19, .load _ (.tmp 3), _, _, _, _⟩ :: _) _ _; go_must (refine wpList_load_k rfl (.tmp 3) rfl rfl hd2.out ?_))
    | (go_at_call 31; (with_reducible refine (hnum.out _).mono ?_); rintro e w3 ⟨rfl, hc3⟩; have hd3 := Lib.hid (hd2.out.below hc3); have hm3 := Lib.hid (hm2.out.below hc3); have hb3 := Lib.hid (below_next hb2.out hc3); clear hc3 hd2 hm2 hb2))
  have hd4 := Lib.hid hd3.out.drew
  have hm4 := Lib.hid (mb_drew hm3.out)
  have hb4 := Lib.hid (below_drew hb3.out)
  have hT4 := Lib.hid (hT.out.below hb4.out)
  have hs4 := hb4.out.size
  clear hd3 hm3 hb3
  go_region_held3 (fun w' => w'.cell? ⟨w.heap.size, 0, none⟩ = some (.bool a0) ∧ w'.cell? ⟨w.heap.size, 1, none⟩ = some (.bool a1) ∧ w'.cell? ⟨w.heap.size, 2, none⟩ = some (.bool a2) ∧ w'.cell? ⟨w.heap.size, 3, none⟩ = some (.bool a3) ∧ w'.cell? ⟨w.heap.size, 4, none⟩ = some (.bool a4) ∧ w'.cell? ⟨w.heap.size, 5, none⟩ = some (.bool a5) ∧ w'.cell? ⟨w.heap.size, 6, none⟩ = some (.bool a6) ∧ w'.cell? ⟨w.heap.size, 7, none⟩ = some (.bool a7) ∧ w'.cell? ⟨w.heap.size + 1, 0, none⟩ = some (.int .u8 x0) ∧ w'.cell? ⟨w.heap.size + 1, 1, none⟩ = some (.int .i32 x1) ∧ w'.cell? ⟨w.heap.size + 1, 2, none⟩ = some (.int .i64 x2) ∧ w'.cell? ⟨w.heap.size + 1, 3, none⟩ = some (.int .u8 x3))
    (first | exact all12 hm4.out hd4.out | exact all12 hm5.out hd5.out | exact all12 hm6.out hd6.out)
    (first
      | (go_at_call 34; refine (hput.out _ hT4.out).mono ?_; rintro e w5 ⟨v5, rfl, hr5, hc5⟩; have hd5 := Lib.hid (hd4.out.below hc5); have hm5 := Lib.hid (hm4.out.below hc5); have hb5 := Lib.hid (below_next hb4.out hc5); have hg5 := hc5.size)
      | (go_at_call 33; refine (halt.out _ v5 _ hr5 hg5).mono ?_; rintro e w6 ⟨v6, rfl, hr6, hc6⟩; have hd6 := Lib.hid (hd4.out.below (hc5.trans hc6)); have hm6 := Lib.hid (hm4.out.below (hc5.trans hc6)); have hb6 := Lib.hid (below_next hb4.out (hc5.trans hc6))))
  go_wp2
  go_ret2
  exact ⟨v6, rfl, hr6.lower hs4, hb6.out⟩
theorem encode_yes (m : Md) (k : Ky) (hk : k.Ok) (hm : k.may) (w : World) (hT : Tab w) : Calls Tryd.prog 17 #[.agg (mA m), .agg (kA k)] w (EncIs (encK m.a2 m.a1 k) w) := by
  by_cases h0 : letF k = 0
  · by_cases hn : numF k = 0
    · exact encode_typ m k hk hm h0 hn w hT
    · exact encode_num m k hk hm h0 hn w hT
  · exact encode_let m k hk hm h0 w hT

end Go.Proofs.YtkmedfffmalbgaaDoor.Kys
