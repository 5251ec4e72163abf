/-
  keys: the bytes of a key with a letter, with a number, of a typed one; what Alt does.
-/
import Derived.Test.YtkmedfffmalbgaaDoorKLet
import Derived.Test.YtkmedfffmalbgaaDoorKEnc
namespace Go.Proofs.YtkmedfffmalbgaaDoor.Kys
open Go Go.RowKit Go.Proofs.YtkmedfffmalbgaaDoor.Com Go.Proofs.YtkmedfffmalbgaaDoor.Mds

theorem put_on {w w1 : World} {l : List Int} {e : Ending} {w' : World} (hb : Below w.heap.size w w1) (h : Put w1.heap.size l w1 e w') : Put w.heap.size l w e w' := by
  obtain ⟨v, he, hr, hb1⟩ := h
  exact ⟨v, he, hr.lower hb.size, below_next hb hb1⟩
theorem csi_b : Lib.strCells { data := #[27, 91] } = ([27, 91] : List Int).map (Value.int .u8) := rfl
theorem ss3_b : Lib.strCells { data := #[27, 79] } = ([27, 79] : List Int).map (Value.int .u8) := rfl
theorem dev_b : Lib.strCells { data := #[27, 91, 63] } = ([27, 91, 63] : List Int).map (Value.int .u8) := rfl
theorem ctl0 (b : ByteArray) (bs : List Int) (hb : Lib.strCells b = bs.map (Value.int .u8)) (hbl : bs.length ≤ 1000) (f : Int) (w : World) (hT : Tab w) : Calls Tryd.prog 19 #[.string b, .int .u8 f, .slice none 0 0] w (Put w.heap.size (ctlF bs [] f) w) :=
  control_any b bs hb hbl f [] (by simp [Nat64]) (by simp) none 0 w (Nums.nil _ _ _ _) hT
theorem ctl1 (b : ByteArray) (bs : List Int) (hb : Lib.strCells b = bs.map (Value.int .u8)) (hbl : bs.length ≤ 1000) (f : Int) (w : World) (hT : Tab w) {x : Int} (hx : 0 ≤ x ∧ x ≤ 9223372036854775807) :
    Calls Tryd.prog 19 #[.string b, .int .u8 f, .slice (some ⟨w.heap.size, 0, none⟩) 1 1] (w.alloc (.cells #[.int .i64 x] 3)) (Put w.heap.size (ctlF bs [x] f) w) :=
  (control_any b bs hb hbl f [x] (by simp [Nat64]; exact hx) (by simp) _ 1 _ ((Nums.lit w 3 .i64 [x]).more (by simp)) (hT.alloc _)).mono fun _ _ h => put_on (below_new _ _) h
theorem ctl2 (b : ByteArray) (bs : List Int) (hb : Lib.strCells b = bs.map (Value.int .u8)) (hbl : bs.length ≤ 1000) (f : Int) (w : World) (hT : Tab w) {x y : Int} (hx : 0 ≤ x ∧ x ≤ 9223372036854775807) (hy : 0 ≤ y ∧ y ≤ 9223372036854775807) :
    Calls Tryd.prog 19 #[.string b, .int .u8 f, .slice (some ⟨w.heap.size, 0, none⟩) 2 2] (w.alloc (.cells #[.int .i64 x, .int .i64 y] 3)) (Put w.heap.size (ctlF bs [x, y] f) w) :=
  (control_any b bs hb hbl f [x, y] (by simp [Nat64]; exact ⟨hx, hy⟩) (by simp) _ 2 _ ((Nums.lit w 3 .i64 [x, y]).more (by simp)) (hT.alloc _)).mono fun _ _ h => put_on (below_new _ _) h

/-- The world with both boxes. -/
theorem two_below (w : World) (m : Md) (k : Ky) : Below w.heap.size w ((w.alloc (.cells (mA m) 23)).alloc (.cells (kA k) 34)) := below_next (below_new w _) (below_new _ _)
theorem two_m (w : World) (m : Md) (k : Ky) : MB ((w.alloc (.cells (mA m) 23)).alloc (.cells (kA k) 34)) w.heap.size m := (MB.made w m).alloc _
theorem two_k (w : World) (m : Md) (k : Ky) : KB ((w.alloc (.cells (mA m) 23)).alloc (.cells (kA k) 34)) (w.heap.size + 1) k := by
  have := KB.made (w.alloc (.cells (mA m) 23)) k
  simpa using this

set_option maxHeartbeats 2000000 in
theorem lettered_any (m : Md) (k : Ky) (hk : k.Ok) (f : Int) (w : World) (hT : Tab w) : Calls Tryd.prog 30 #[.agg (mA m), .agg (kA k), .int .u8 f] w (Put w.heap.size (letteredF m.a2 k f) w) := by
  have hb0 := Lib.hid (two_below w m k)
  have hm := Lib.hid (two_m w m k)
  have hd := Lib.hid (two_k w m k)
  have hc0 := hd.out.c0
  have hc3 := hd.out.c3
  have hm2 := hm.out.cell (k := 2) (by omega)
  rw [show m.get 2 = m.a2 from rfl] at hm2
  have hmods := Lib.hid (fun w' => mods_any k hk w')
  have hmd := hk.md
  by_cases h3 : k.md = 0
  · by_cases h0 : k.kd = 12
    · have e := Lib.hid (show letteredF m.a2 k f = ctlF [27, 79] [] f by simp [letteredF, h3, h0])
      rw [h3] at hc3
      rw [h0] at hc0
      have hc := Lib.hid (ctl0 _ _ ss3_b (by simp) f _ (hT.below hb0.out))
      clear h3 h0 hk hmd hT hmods
      go_enter Tryd.func30, Tryd.ntmps30
      go_wp2_with ((go_at_call 19; (with_reducible refine (hc.out).mono ?_); rintro e w1 ⟨v1, rfl, h1, hb1⟩))
      go_ret
      rw [e.out]
      exact put_on hb0.out ⟨_, rfl, h1, hb1⟩
    · by_cases hcur : m.a2 = true
      · have e := Lib.hid (show letteredF m.a2 k f = ctlF [27, 79] [] f by simp [letteredF, h3, hcur])
        rw [h3] at hc3
        rw [hcur] at hm2
        have hc := Lib.hid (ctl0 _ _ ss3_b (by simp) f _ (hT.below hb0.out))
        clear h3 hk hmd hT hmods hcur
        generalize k.kd = x0 at *
        go_enter Tryd.func30, Tryd.ntmps30
        go_wp2_with ((go_at_call 19; (with_reducible refine (hc.out).mono ?_); rintro e w1 ⟨v1, rfl, h1, hb1⟩))
        go_ret
        rw [e.out]
        exact put_on hb0.out ⟨_, rfl, h1, hb1⟩
      · have hcur' : m.a2 = false := by simpa using hcur
        have e := Lib.hid (show letteredF m.a2 k f = ctlF [27, 91] [] f by simp [letteredF, h3, h0, hcur'])
        rw [h3] at hc3
        rw [hcur'] at hm2
        have hc := Lib.hid (ctl0 _ _ csi_b (by simp) f _ (hT.below hb0.out))
        clear h3 hk hmd hT hmods hcur hcur'
        generalize k.kd = x0 at *
        go_enter Tryd.func30, Tryd.ntmps30
        go_wp2_with ((go_at_call 19; (with_reducible refine (hc.out).mono ?_); rintro e w1 ⟨v1, rfl, h1, hb1⟩))
        go_ret
        rw [e.out]
        exact put_on hb0.out ⟨_, rfl, h1, hb1⟩
  · have e := Lib.hid (show letteredF m.a2 k f = ctlF [27, 91] [1, k.md + 1] f by simp [letteredF, h3])
    have hy : 0 ≤ k.md + 1 ∧ k.md + 1 ≤ 9223372036854775807 := by omega
    have hc := Lib.hid (fun w' hT' => ctl2 _ _ csi_b (by simp) f w' hT' (x := 1) (by omega) hy)
    have hT2 := Lib.hid (hT.below hb0.out)
    clear hk hmd hT hy
    generalize k.md = x3 at *
    go_enter Tryd.func30, Tryd.ntmps30
    go_wp2_with (first
      | (with_reducible show wpList _ _ _ (⟨some 12, .load _ (.tmp 4), _, _, _, _⟩ :: _) _ _; go_must (refine wpList_load_k rfl (.tmp 4) rfl rfl hd.out ?_))
      | (go_at_call 38; (with_reducible refine (hmods.out _).mono ?_); rintro e w1 ⟨rfl, hb1⟩; have hT3 := Lib.hid (hT2.out.below hb1); have hb2 := Lib.hid (below_next hb0.out hb1); clear hb1 hT2)
      | (go_at_call 19; (with_reducible refine (hc.out _ hT3.out).mono ?_); rintro e w2 ⟨v2, rfl, h2, hb3⟩))
    go_ret
    rw [e.out]
    exact put_on hb2.out ⟨_, rfl, h2, hb3⟩

set_option maxHeartbeats 2000000 in
theorem numbered_any (k : Ky) (hk : k.Ok) (n : Int) (hn : 0 ≤ n ∧ n ≤ 9223372036854775807) (w : World) (hT : Tab w) : Calls Tryd.prog 32 #[.agg (kA k), .int .i64 n] w (Put w.heap.size (numberedF k n) w) := by
  have hb0 := Lib.hid (below_new w (.cells (kA k) 34))
  have hd := Lib.hid (KB.made w k)
  have hc3 := hd.out.c3
  have hmods := Lib.hid (fun w' => mods_any k hk w')
  have hmd := hk.md
  have hT2 := Lib.hid (hT.below hb0.out)
  by_cases h3 : k.md = 0
  · have e := Lib.hid (show numberedF k n = ctlF [27, 91] [n] 126 by simp [numberedF, h3])
    rw [h3] at hc3
    have hc := (ctl1 _ _ csi_b (by simp) 126 _ hT2.out (x := n) hn).mono fun _ _ h => put_on hb0.out h
    rw [show (w.alloc (.cells (kA k) 34)).heap.size = w.heap.size + 1 by simp] at hc
    replace hc := Lib.hid hc
    clear h3 hk hmd hT hmods hn
    go_enter Tryd.func32, Tryd.ntmps32
    go_wp2_with ((go_at_call 19; (with_reducible refine (hc.out).mono ?_); rintro e w1 ⟨v1, rfl, h1, hb1⟩))
    go_ret
    rw [e.out]
    exact ⟨_, rfl, h1, hb1⟩
  · have e := Lib.hid (show numberedF k n = ctlF [27, 91] [n, k.md + 1] 126 by simp [numberedF, h3])
    have hy : 0 ≤ k.md + 1 ∧ k.md + 1 ≤ 9223372036854775807 := by omega
    have hc := Lib.hid (fun w' hT' => ctl2 _ _ csi_b (by simp) 126 w' hT' (x := n) hn hy)
    clear hk hmd hT hy hn
    generalize k.md = x3 at *
    go_enter Tryd.func32, Tryd.ntmps32
    go_wp2_with (first
      | (with_reducible show wpList _ _ _ (⟨some 9, .load _ (.tmp 2), _, _, _, _⟩ :: _) _ _; go_must (refine wpList_load_k rfl (.tmp 2) rfl rfl hd.out ?_))
      | (go_at_call 38; (with_reducible refine (hmods.out _).mono ?_); rintro e w1 ⟨rfl, hb1⟩; have hT3 := Lib.hid (hT2.out.below hb1); have hb2 := Lib.hid (below_next hb0.out hb1); clear hb1 hT2)
      | (go_at_call 19; (with_reducible refine (hc.out _ hT3.out).mono ?_); rintro e w2 ⟨v2, rfl, h2, hb3⟩))
    go_ret
    rw [e.out]
    exact put_on hb2.out ⟨_, rfl, h2, hb3⟩

theorem and_small {x : Int} (h : 0 ≤ x ∧ x ≤ 7) : bits .and .u8 x 1 = x % 2 ∧ bits .and .u8 x 2 = x / 2 % 2 * 2 ∧ bits .and .u8 x 4 = x / 4 % 2 * 4 := by
  have key : ∀ n : Fin 8, bits .and .u8 (n.val : Int) 1 = (n.val : Int) % 2 ∧ bits .and .u8 (n.val : Int) 2 = (n.val : Int) / 2 % 2 * 2 ∧ bits .and .u8 (n.val : Int) 4 = (n.val : Int) / 4 % 2 * 4 := by decide
  have := key ⟨x.toNat, by omega⟩
  rwa [show ((x.toNat : Nat) : Int) = x by omega] at this
theorem and_31 {x : Int} (h : 0 ≤ x ∧ x ≤ 127) : bits .and .i32 x 31 = x % 32 := by
  have key : ∀ n : Fin 128, bits .and .i32 (n.val : Int) 31 = (n.val : Int) % 32 := by decide
  have := key ⟨x.toNat, by omega⟩
  rwa [show ((x.toNat : Nat) : Int) = x by omega] at this

theorem ctrl_ways (r : Int) : (64 ≤ r ∧ r ≤ 95 ∧ ctrlF r = [r % 32]) ∨ (97 ≤ r ∧ r ≤ 122 ∧ ctrlF r = [r % 32]) ∨ (r = 32 ∧ ctrlF r = [0]) ∨ (r = 63 ∧ ctrlF r = [127]) ∨ ((r < 64 ∧ r ≠ 32 ∧ r ≠ 63) ∧ ctrlF r = encF r) ∨ (r = 96 ∧ ctrlF r = encF r) ∨ (122 < r ∧ ctrlF r = encF r) := by
  by_cases a : 64 ≤ r ∧ r ≤ 95
  · exact .inl ⟨a.1, a.2, by simp [ctrlF, a]⟩
  by_cases b : 97 ≤ r ∧ r ≤ 122
  · exact .inr (.inl ⟨b.1, b.2, by simp [ctrlF, b]⟩)
  have hno : ¬ (64 ≤ r ∧ r ≤ 95 ∨ 97 ≤ r ∧ r ≤ 122) := fun h => h.elim a b
  by_cases c : r = 32
  · exact .inr (.inr (.inl ⟨c, by unfold ctrlF; rw [if_neg hno, if_pos c]⟩))
  by_cases d : r = 63
  · exact .inr (.inr (.inr (.inl ⟨d, by unfold ctrlF; rw [if_neg hno, if_neg c, if_pos d]⟩)))
  have he : ctrlF r = encF r := by unfold ctrlF; rw [if_neg hno, if_neg c, if_neg d]
  by_cases f : r < 64
  · exact .inr (.inr (.inr (.inr (.inl ⟨⟨f, c, d⟩, he⟩))))
  by_cases g : r = 96
  · exact .inr (.inr (.inr (.inr (.inr (.inl ⟨g, he⟩)))))
  · exact .inr (.inr (.inr (.inr (.inr (.inr ⟨by omega, he⟩)))))
set_option maxHeartbeats 2000000 in
theorem ctrl_any (r : Int) (w : World) : Calls Tryd.prog 39 #[.int .i32 r] w (Put w.heap.size (ctrlF r) w) := by
  rcases ctrl_ways r with ⟨h1, h2, e⟩ | ⟨h1, h2, e⟩ | ⟨h1, e⟩ | ⟨h1, e⟩ | ⟨⟨h1, h2, h3⟩, e⟩ | ⟨h1, e⟩ | ⟨h1, e⟩
  · have ha := and_31 (x := r) (by omega)
    rw [e]
    clear e
    go_enter Tryd.func39, Tryd.ntmps39
    go_wp2_with fail
    go_ret
    exact ⟨_, rfl, put_lit w [r % 32] (by simp), below_new _ _⟩
  · have ha := and_31 (x := r) (by omega)
    rw [e]
    clear e
    go_enter Tryd.func39, Tryd.ntmps39
    go_wp2_with fail
    go_ret
    exact ⟨_, rfl, put_lit w [r % 32] (by simp), below_new _ _⟩
  · rw [e]
    clear e
    subst h1
    go_enter Tryd.func39, Tryd.ntmps39
    go_wp2_with fail
    go_ret
    exact ⟨_, rfl, put_lit w [0] (by simp), below_new _ _⟩
  · rw [e]
    clear e
    subst h1
    go_enter Tryd.func39, Tryd.ntmps39
    go_wp2_with fail
    go_ret
    exact ⟨_, rfl, put_lit w [127] (by simp), below_new _ _⟩
  all_goals
    rw [e]
    clear e
    try subst h1
    have hc := Lib.hid (fun (x : Int) w' => encode_any x w')
    go_enter Tryd.func39, Tryd.ntmps39
    go_wp2_with ((go_at_call 18; (with_reducible refine (hc.out _ _).mono ?_); rintro e w1 ⟨v1, rfl, h1, hb1⟩))
    go_ret
    exact ⟨_, rfl, h1, hb1⟩

theorem typed_ways (k : Ky) (nl : Bool) : (k.kd = 13 ∧ nl = true ∧ typedF nl k = [13, 10]) ∨ (k.kd = 13 ∧ nl = false ∧ typedF nl k = [13]) ∨ (k.kd = 14 ∧ k.md % 2 = 1 ∧ typedF nl k = [27, 91, 90]) ∨ (k.kd = 14 ∧ k.md % 2 = 0 ∧ typedF nl k = [9]) ∨
    (k.kd = 15 ∧ k.md / 4 % 2 = 1 ∧ typedF nl k = [8]) ∨ (k.kd = 15 ∧ k.md / 4 % 2 = 0 ∧ typedF nl k = [127]) ∨ (k.kd = 16 ∧ typedF nl k = [27]) ∨
    ((k.kd ≠ 13 ∧ k.kd ≠ 14 ∧ k.kd ≠ 15 ∧ k.kd ≠ 16) ∧ k.md / 4 % 2 = 1 ∧ typedF nl k = ctrlF k.r) ∨ ((k.kd ≠ 13 ∧ k.kd ≠ 14 ∧ k.kd ≠ 15 ∧ k.kd ≠ 16) ∧ k.md / 4 % 2 = 0 ∧ typedF nl k = encF k.r) := by
  unfold typedF
  by_cases a : k.kd = 13
  · rw [if_pos a]
    rcases nl with _ | _
    · exact .inr (.inl ⟨a, rfl, rfl⟩)
    · exact .inl ⟨a, rfl, rfl⟩
  rw [if_neg a]
  by_cases b : k.kd = 14
  · rw [if_pos b]
    by_cases c : k.md % 2 = 1
    · exact .inr (.inr (.inl ⟨b, c, if_pos c⟩))
    · exact .inr (.inr (.inr (.inl ⟨b, by omega, if_neg c⟩)))
  rw [if_neg b]
  by_cases d : k.kd = 15
  · rw [if_pos d]
    by_cases c : k.md / 4 % 2 = 1
    · exact .inr (.inr (.inr (.inr (.inl ⟨d, c, if_pos c⟩))))
    · exact .inr (.inr (.inr (.inr (.inr (.inl ⟨d, by omega, if_neg c⟩)))))
  rw [if_neg d]
  by_cases f : k.kd = 16
  · rw [if_pos f]
    exact .inr (.inr (.inr (.inr (.inr (.inr (.inl ⟨f, rfl⟩))))))
  rw [if_neg f]
  by_cases c : k.md / 4 % 2 = 1
  · exact .inr (.inr (.inr (.inr (.inr (.inr (.inr (.inl ⟨⟨a, b, d, f⟩, c, if_pos c⟩)))))))
  · exact .inr (.inr (.inr (.inr (.inr (.inr (.inr (.inr ⟨⟨a, b, d, f⟩, by omega, if_neg c⟩)))))))
theorem made_lit {w w2 : World} (hb : Below w.heap.size w w2) (l : List Int) (hl : l.length ≤ 16) : Put w.heap.size l w (.returned (.slice (some ⟨w2.heap.size, 0, none⟩) l.length l.length)) (w2.alloc (.cells (l.map (Value.int .u8)).toArray 5)) :=
  ⟨_, rfl, Row.lit w2 _ _ l hb.size (by simp [maxLen]; omega), below_next hb (below_new _ _)⟩
set_option maxHeartbeats 4000000 in
theorem typed_any (m : Md) (k : Ky) (hk : 0 ≤ k.md ∧ k.md ≤ 7) (w : World) (hT : Tab w) : Calls Tryd.prog 34 #[.agg (mA m), .agg (kA k)] w (Put w.heap.size (typedF m.a1 k) w) := by
  have hb0 := Lib.hid (two_below w m k)
  have hsz : ((w.alloc (.cells (mA m) 23)).alloc (.cells (kA k) 34)).heap.size = w.heap.size + 1 + 1 := by simp
  have hd := two_k w m k
  have hc0 := hd.c0
  have hc1 := hd.c1
  have hc3 := hd.c3
  have hm1 := (two_m w m k).cell (k := 1) (by omega)
  rw [show m.get 1 = m.a1 from rfl] at hm1
  have ha := and_small hk
  have hT2 := hT.below hb0.out
  have hlit := fun l hl => made_lit hb0.out l hl
  rw [hsz] at hlit
  replace hlit := Lib.hid hlit
  have hz := Lib.hid ((ctl0 _ _ csi_b (by simp) 90 _ hT2).mono fun _ _ h => put_on hb0.out h)
  have hen := Lib.hid ((encode_any k.r ((w.alloc (.cells (mA m) 23)).alloc (.cells (kA k) 34))).mono fun _ _ h => put_on hb0.out h)
  have hct := Lib.hid ((ctrl_any k.r ((w.alloc (.cells (mA m) 23)).alloc (.cells (kA k) 34))).mono fun _ _ h => put_on hb0.out h)
  clear hd hT hT2 hsz
  rcases typed_ways k m.a1 with ⟨h1, h2, e⟩ | ⟨h1, h2, e⟩ | ⟨h1, h2, e⟩ | ⟨h1, h2, e⟩ | ⟨h1, h2, e⟩ | ⟨h1, h2, e⟩ | ⟨h1, e⟩ | ⟨⟨h1, h3, h4, h5⟩, h2, e⟩ | ⟨⟨h1, h3, h4, h5⟩, h2, e⟩
  · rw [e]
    rw [h1] at hc0
    rw [h2] at hm1
    clear e h1 h2 ha hk
    go_enter Tryd.func34, Tryd.ntmps34
    go_wp2_with fail
    go_ret
    exact hlit.out [13, 10] (by simp)
  · rw [e]
    rw [h1] at hc0
    rw [h2] at hm1
    clear e h1 h2 ha hk
    go_enter Tryd.func34, Tryd.ntmps34
    go_wp2_with fail
    go_ret
    exact hlit.out [13] (by simp)
  · rw [e]
    rw [h1] at hc0
    obtain ⟨ha, _, _⟩ := ha
    rw [h2] at ha
    clear e h1 h2 hk
    generalize k.md = x3 at *
    go_enter Tryd.func34, Tryd.ntmps34
    go_wp2_with ((go_at_call 19; (with_reducible refine (hz.out).mono ?_); rintro e w1 ⟨v1, rfl, h1, hb1⟩))
    go_ret
    exact ⟨_, rfl, h1, hb1⟩
  · rw [e]
    rw [h1] at hc0
    obtain ⟨ha, _, _⟩ := ha
    rw [h2] at ha
    clear e h1 h2 hk
    generalize k.md = x3 at *
    go_enter Tryd.func34, Tryd.ntmps34
    go_wp2_with fail
    go_ret
    exact hlit.out [9] (by simp)
  · rw [e]
    rw [h1] at hc0
    obtain ⟨_, _, ha⟩ := ha
    rw [h2] at ha
    clear e h1 h2 hk
    generalize k.md = x3 at *
    go_enter Tryd.func34, Tryd.ntmps34
    go_wp2_with fail
    go_ret
    exact hlit.out [8] (by simp)
  · rw [e]
    rw [h1] at hc0
    obtain ⟨_, _, ha⟩ := ha
    rw [h2] at ha
    clear e h1 h2 hk
    generalize k.md = x3 at *
    go_enter Tryd.func34, Tryd.ntmps34
    go_wp2_with fail
    go_ret
    exact hlit.out [127] (by simp)
  · rw [e]
    rw [h1] at hc0
    clear e h1 hk ha
    go_enter Tryd.func34, Tryd.ntmps34
    go_wp2_with fail
    go_ret
    exact hlit.out [27] (by simp)
  · rw [e]
    obtain ⟨_, _, ha⟩ := ha
    rw [h2] at ha
    clear e h2 hk
    generalize k.md = x3 at *
    generalize k.kd = x0 at *
    generalize k.r = x1 at *
    go_enter Tryd.func34, Tryd.ntmps34
    go_wp2_with ((go_at_call 39; (with_reducible refine (hct.out).mono ?_); rintro e w1 ⟨v1, rfl, h1, hb1⟩))
    go_ret
    exact ⟨_, rfl, h1, hb1⟩
  · rw [e]
    obtain ⟨_, _, ha⟩ := ha
    rw [h2] at ha
    clear e h2 hk
    generalize k.md = x3 at *
    generalize k.kd = x0 at *
    generalize k.r = x1 at *
    go_enter Tryd.func34, Tryd.ntmps34
    go_wp2_with ((go_at_call 18; (with_reducible refine (hen.out).mono ?_); rintro e w1 ⟨v1, rfl, h1, hb1⟩))
    go_ret
    exact ⟨_, rfl, h1, hb1⟩

set_option maxHeartbeats 2000000 in
/-- A byte 27 ahead of a row, if Alt is held. -/
theorem alt_any (k : Ky) (hk : 0 ≤ k.md ∧ k.md ≤ 7) (B : Nat) (v : Value) (l : List Int) (hl : l.length ≤ 1000) (w : World) (h : Row w B 5 v l) (hB : B ≤ w.heap.size) : Calls Tryd.prog 33 #[.agg (kA k), v] w (Put B (altF k l) w) := by
  have hb0 := Lib.hid (below_new w (.cells (kA k) 34))
  have hc3 := (KB.made w k).c3
  have ha := (and_small hk).2.1
  have hr := h.alloc (.cells (kA k) 34)
  have hlr := Row.lit (w.alloc (.cells (kA k) 34)) w.heap.size 5 [27] (by simp) (by simp [maxLen])
  rw [show (w.alloc (.cells (kA k) 34)).heap.size = w.heap.size + 1 by simp] at hlr
  replace hlr := Lib.hid hlr
  obtain ⟨ao, c, rfl, _, _, hn⟩ := h.shape
  have hn2 := hn.below hb0.out (Nat.le_refl _)
  clear hn
  by_cases h2 : k.md / 2 % 2 = 1
  · have e := Lib.hid (show altF k l = [27] ++ l by simp [altF, h2])
    rw [h2] at ha
    clear h2 hk
    generalize k.md = x3 at *
    go_enter Tryd.func33, Tryd.ntmps33
    go_wp2_with ((at_builtin; refine wpList_appR elemB rfl (.tmp 10) (.tmp 11) rfl w.heap.size _ [27] l ao w.heap.size c rfl rfl hlr.out (hn2.alloc (by simp) _) (by simp; omega) (by simp; omega) ?_; intro v2 w2 h2 ho2; have hb2 := Lib.hid (row_below (below_next hb0.out (below_new _ _)) hlr.out (by simp; omega) ho2); replace h2 := Lib.hid h2; clear ho2))
    go_ret
    rw [e.out]
    exact ⟨_, rfl, h2.out.lower hB, hb2.out.mono hB⟩
  · have e := Lib.hid (show altF k l = l by simp [altF, h2])
    rw [show k.md / 2 % 2 * 2 = 0 by omega] at ha
    clear h2 hk
    generalize k.md = x3 at *
    go_enter Tryd.func33, Tryd.ntmps33
    go_wp2_with fail
    go_ret
    rw [e.out]
    exact ⟨_, rfl, hr, hb0.out.mono hB⟩

end Go.Proofs.YtkmedfffmalbgaaDoor.Kys
