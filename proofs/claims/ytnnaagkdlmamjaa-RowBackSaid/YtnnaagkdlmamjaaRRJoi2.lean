/-
  row: the reference's Join.
-/
import Derived.Test.YtnnaagkdlmamjaaRRJoin
namespace Go.Proofs.Ytnnaagkdlmamjaa.Rw
open Go Go.RowKit Go.Proofs.Ytnnaagkdlmamjaa.Com

theorem ref_set {B : Nat} {w w5 w6 : World} {d gv n cap : Nat} {ps : List (Cel × Value)} {v : Value} (h : RefX B w5 d gv n cap ps) (hb : Below w.heap.size w w5) (ho : Only [gv] w5 w6) {l : List Cel} {ps' : List (Cel × Value)} (h6 : RefX B w6 d gv n cap ps') (hc : cels ps' = l) : RefDone B w d l (.returned v) w6 := by
  obtain ⟨tail, hbk, _⟩ := h.block
  have hf : Fr 0 [] w w5 := Fr.of_below hb
  refine ⟨⟨v, rfl⟩, ⟨gv, n, cap, ps', h6, hc⟩, Fr.trans (Fr.of_below hb) (Fr.of_only ho fun k hk _ => ?_)⟩
  simp at hk
  subst hk
  exact ⟨(h.api.lt _ rfl).1, 48, by simp, Block.typ hbk⟩

theorem api_mem {w : World} {b : Nat} {c : Cel} {v : Value} (h : Block w b 48 (apiC c v).toArray) : w.cell? ⟨b, 1, none⟩ = some v := h.cell 1 rfl
theorem api_all {w : World} {b : Nat} {c : Cel} {v : Value} (h : Block w b 48 (apiC c v).toArray) : w.cell? ⟨b, 0, none⟩ = some (.int .i32 c.r) ∧ w.cell? ⟨b, 1, none⟩ = some v ∧ w.cell? ⟨b, 2, none⟩ = some (.int .u8 c.wide) ∧ w.cell? ⟨b, 3, none⟩ = some (.int .u32 c.a.f) ∧ w.cell? ⟨b, 4, none⟩ = some (.int .u32 c.a.b) ∧ w.cell? ⟨b, 5, none⟩ = some (.int .u16 c.a.g) := ⟨h.cell 0 rfl, h.cell 1 rfl, h.cell 2 rfl, h.cell 3 rfl, h.cell 4 rfl, h.cell 5 rfl⟩
theorem api_lit {w : World} {b : Nat} {r wd f g a : Int} {m : List Int} {v : Value} (h : Block w b 48 (apiC ⟨r, m, wd, ⟨f, g, a⟩⟩ v).toArray) : Block w b 48 #[.int .i32 r, v, .int .u8 wd, .int .u32 f, .int .u32 g, .int .u16 a] := h
theorem own_off {wa w3 : World} {B b : Nat} {v : Value} {m : List Int} {C : Array Value} (ho : Own wa B 21 .i32 v m) (hr : Block wa b 48 C) (h3 : Only [b] wa w3) : Own w3 B 21 .i32 v m := ho.only h3 (fun g hg hm => by
  simp at hm; subst hm
  exact absurd (Typ.inj (Own.typ ho hg) (Block.typ hr)) (by decide))
theorem block_off {wa w3 : World} {B b : Nat} {v : Value} {m : List Int} {C : Array Value} (hr : Block wa b 48 C) (ho : Own wa B 21 .i32 v m) (h3 : Only v.ownBlock.toList wa w3) : Block w3 b 48 C := hr.only h3 (fun hm =>
  absurd (Typ.inj (Own.typ ho (g := b) (by simpa using hm)) (Block.typ hr)) (by decide))
theorem only_size {w1 w3 : World} {o : Obj} {b : Nat} (h : Only [b] (w1.alloc o) w3) : w1.heap.size + 1 ≤ w3.heap.size := by have := h.size; simpa using this
theorem join_below {w w1 w3 w4 w5 : World} {o o2 : Obj} {v : Value} {m : List Int} (hb1 : Below w.heap.size w w1) (ho3 : Only [w1.heap.size] (w1.alloc o) w3) (ho : Own (w3.alloc o2) w.heap.size 21 .i32 v m) (ho4 : Only v.ownBlock.toList (w3.alloc o2) w4) (ho5 : Only [w1.heap.size] w4 w5) : Below w.heap.size w w5 := by
  have s1 := hb1.size
  have h2 := hb1.trans ((below_new w1 o).mono s1)
  have h3 := h2.trans (ho3.below h2.size (by simpa using s1))
  have h4 := h3.trans ((below_new w3 o2).mono h3.size)
  have h5 := h4.trans (ho4.below h4.size (fun g hg => (ho.lt g (by simpa using hg)).1))
  exact h5.trans (ho5.below h5.size (by simpa using s1))

set_option maxRecDepth 100000 in
set_option maxHeartbeats 8000000 in
theorem rjoin_full {B : Nat} {w : World} {d gv n cap : Nat} {ps : List (Cel × Value)} (h : RefX B w d gv n cap ps) (j : Nat) (x : Int) (hx : runeB x = true) (hjl : j < ps.length) (hcl : j < ps.length) (hwide : ps[j].1.wide ≠ 2) (hm4 : ps[j].1.m.length = 4) :
    Calls Try.prog 33 #[.pointer (some ⟨d, 0, none⟩), .int .i64 ((j : Nat) : Int), .int .i32 x] w fun e w' => e = .returned (.int .i64 8) ∧ w = w' := by
  have hn := h.pos
  have hn5 := h.small
  have hlen := h.len
  have hs := h.slice
  have hdw := h.ptr.lt
  have hru := rune_any x
  rw [hx] at hru
  replace hru := Lib.hid hru
  have tw := (h.cells hcl).2.2.1
  generalize ps[j].1.wide = wd0 at hwide tw
  obtain ⟨t0, t1, t2, t3, t4, t5⟩ := h.cells hjl
  have hcm := h.api.comb _ (List.getElem_mem hjl)
  obtain ⟨aj, cj, hvj, _⟩ := hcm.shape
  rw [hvj] at t1
  skip
  rw [hm4] at t1
  clear t0 t2 t3 t4 t5 hcm hvj h hx hm4
  go_enter Try.func33, Try.ntmps33
  go_wp2_with ((go_at_call 18; (with_reducible refine (hru.out _).mono ?_); rintro e w' ⟨rfl, rfl⟩))
  go_ret
  exact ⟨rfl, rfl⟩

set_option maxRecDepth 100000 in
set_option maxHeartbeats 8000000 in
theorem rjoin_fullh {B : Nat} {w : World} {d gv n cap : Nat} {ps : List (Cel × Value)} (h : RefX B w d gv n cap ps) (j : Nat) (x : Int) (hx : runeB x = true) (hjl : j < ps.length) (hcl : (j + 1) < ps.length) (hwide : ps[(j + 1)].1.wide = 2) (hm4 : ps[j].1.m.length = 4) :
    Calls Try.prog 33 #[.pointer (some ⟨d, 0, none⟩), .int .i64 (((j + 1) : Nat) : Int), .int .i32 x] w fun e w' => e = .returned (.int .i64 8) ∧ w = w' := by
  have hn := h.pos
  have hn5 := h.small
  have hlen := h.len
  have hs := h.slice
  have hdw := h.ptr.lt
  have hru := rune_any x
  rw [hx] at hru
  replace hru := Lib.hid hru
  have tw := (h.cells hcl).2.2.1
  generalize ps[(j + 1)].1.wide = wd0 at hwide tw
  obtain ⟨t0, t1, t2, t3, t4, t5⟩ := h.cells hjl
  have hcm := h.api.comb _ (List.getElem_mem hjl)
  obtain ⟨aj, cj, hvj, _⟩ := hcm.shape
  rw [hvj] at t1
  rw [hwide] at tw
  rw [hm4] at t1
  clear t0 t2 t3 t4 t5 hcm hvj h hx hm4
  go_enter Try.func33, Try.ntmps33
  go_wp2_with ((go_at_call 18; (with_reducible refine (hru.out _).mono ?_); rintro e w' ⟨rfl, rfl⟩))
  go_ret
  exact ⟨rfl, rfl⟩

set_option maxRecDepth 100000 in
set_option maxHeartbeats 8000000 in
theorem rjoin_add {B : Nat} {w : World} {d gv n cap : Nat} {ps : List (Cel × Value)} (h : RefX B w d gv n cap ps) (hBw : B ≤ w.heap.size) (j : Nat) (x : Int) (hx : runeB x = true) (hjl : j < ps.length) (hcl : j < ps.length) (hwide : ps[j].1.wide ≠ 2) (hm4 : ps[j].1.m.length < 4) :
    Calls Try.prog 33 #[.pointer (some ⟨d, 0, none⟩), .int .i64 ((j : Nat) : Int), .int .i32 x] w fun e w' => e = .returned (.int .i64 0) ∧ RefDone B w d ((cels ps).set j (addMark ps[j].1 x)) e w' := by
  have hn := h.pos
  have hn5 := h.small
  have hlen := h.len
  have hs := h.slice
  have hdw := h.ptr.lt
  have hru := rune_any x
  rw [hx] at hru
  replace hru := Lib.hid hru
  have tw := (h.cells hcl).2.2.1
  generalize ps[j].1.wide = wd0 at hwide tw
  obtain ⟨t0, t1, t2, t3, t4, t5⟩ := h.cells hjl
  have hcm := h.api.comb _ (List.getElem_mem hjl)
  obtain ⟨aj, cj, hvj, _⟩ := hcm.shape
  rw [hvj] at t1
  skip
  have hld := h.api.load hjl
  have hone := apiC_one (c := ps[j].1) (Own.one hcm)
  have hinf : (Try.prog.info? 48).map (·.size) = some (apiC ps[j].1 ps[j].2).length := info48
  have how := own_any ps[j].1 ps[j].2 w hcm (Nat.le_of_lt hm4)
  have hput := fun (w5 : World) (hb : Below w.heap.size w w5) (v5 : Value) (ho : Own w5 B 21 .i32 v5 (addMark ps[j].1 x).m) => (h.below hb).put6 hjl (addMark ps[j].1 x) v5 ho
  obtain ⟨l, hl⟩ : ∃ l, l = (cels ps).set j (addMark ps[j].1 x) := ⟨_, rfl⟩
  rw [← hl]
  have hP : apiP ps[j] = apiC ps[j].1 ps[j].2 := rfl
  rw [hP] at hld
  clear t0 t2 t3 t4 t5 hP
  obtain ⟨k4, hk4⟩ : ∃ k4, k4 = ps[j].1.m.length := ⟨_, rfl⟩
  rw [← hk4] at t1 hm4 hvj
  generalize ps[j] = q at hld hone hinf how hput hl hk4 hvj hcm
  obtain ⟨⟨r, m, wd, ⟨af, ab, ag⟩⟩, v⟩ := q
  simp only at hvj
  subst hvj
  have hC : (apiC ⟨r, m, wd, ⟨af, ab, ag⟩⟩ (.slice aj k4 cj)) = [.int .i32 r, .slice aj k4 cj, .int .u8 wd, .int .u32 af, .int .u32 ab, .int .u16 ag] := rfl
  simp only [addMark] at hld hone hinf how hput hl hk4
  rw [hC] at hld hinf hone how
  have hdn := fun (w5 : World) (v5 : Value) (hb : Below w.heap.size w w5) (ho : Own w5 B 21 .i32 v5 (m ++ [x])) => ref_set (v := .int .i64 0) (h.below hb) hb ((put6_only w5 gv (j * 6) (.int .i32 r) v5 (.int .u8 wd) (.int .u32 af) (.int .u32 ab) (.int .u16 ag)).trans (Only.drewN _ _ 1)) ((hput w5 hb v5 ho).drawn 1) ((cels_set1 ps j _ v5).trans hl.symm)
  replace hld := Lib.hid hld
  replace hone := Lib.hid hone
  replace hinf := Lib.hid hinf
  replace how := Lib.hid how
  replace hdn := Lib.hid hdn
  replace h := Lib.hid h
  replace hk4 := Lib.hid hk4
  clear hput hC hl hcm
  go_enter Try.func33, Try.ntmps33
  go_wp2_with (first
    | (go_at_call 18; (with_reducible refine (hru.out _).mono ?_); rintro e w' ⟨rfl, rfl⟩)
    | (with_reducible show wpList _ _ _ (⟨some 51, .load _ (.tmp 50), _, _, _, _⟩ :: _) _ _; go_must (refine wpList_loadAt rfl 48 (.tmp 50) rfl ⟨gv, j * 6, none⟩ rfl _ _ hld.out Try.underlying48 rfl hinf.out ?_)))
  with_reducible refine how.out.mono ?_
  rintro e w1 ⟨v1, rfl, ho1, hb1⟩
  obtain ⟨a1, n1, c1, rfl⟩ := own_slice ho1
  have hr0 := fresh_api w1
  have ho1' := ho1.alloc (.cells #[.int .i32 0, .slice none 0 0, .int .u8 0, .int .u32 0, .int .u32 0, .int .u16 0] 48)
  have hk4' := hk4.out
  have hone' := Lib.hid (apiC_one (c := ⟨r, m, wd, ⟨af, ab, ag⟩⟩) (v := .slice a1 n1 c1) rfl)
  replace hr0 := Lib.hid hr0
  replace ho1' := Lib.hid ho1'
  have hb1s := hb1.size
  replace hb1 := Lib.hid hb1
  clear ho1
  go_wp2_with (first
    | (with_reducible show wpList _ _ _ (⟨none, .store _ (.tmp 7) _, _, _, _, _⟩ :: _) _ _; go_must (refine wpList_storeN rfl 48 (.tmp 7) (.tmp 52) rfl (g := w1.heap.size) (i := 0) hr0.out (apiC ⟨r, m, wd, ⟨af, ab, ag⟩⟩ (.slice a1 n1 c1)) rfl rfl (by simp [apiC, attV]) (info48' _ _) (hone'.out) ?_); intro w3 hr3 ho3; have hr3' := stored_api hr3.out; have hown3 := own_off ho1'.out hr0.out ho3; have hcb := api_mem hr3'; have hz3 := only_size ho3)
    | (with_reducible show wpList _ _ _ (⟨some 57, .call _, _, _, _, _⟩ :: _) _ _; go_must (refine wpList_app elemI rfl (.tmp 54) (.tmp 56) rfl w.heap.size (.slice a1 n1 c1) m [x] (some ⟨w3.heap.size, 0, none⟩) (w3.heap.size + 1) 1 rfl rfl (hown3.alloc _) (Nums.one _ _ _ _) (by simp; omega) (by simp; omega) (by simp [maxLen]; omega) ?_); intro v4 w4 hown4 ho4 _; obtain ⟨a4, n4, c4, rfl⟩ := own_slice hown4; have hb4 := api_lit (block_off (hr3'.alloc _) (hown3.alloc _) ho4))
    | (with_reducible show wpList _ _ _ (⟨none, .store _ (.tmp 58) _, _, _, _, _⟩ :: _) _ _; go_must (refine wpList_store1 rfl _ (.tmp 58) (.tmp 57) rfl hb4 (.slice _ _ _) rfl rfl (by simp) (by exact info46) rfl ?_); intro w5 hb5 ho5; have hb5' := box_put (m := m ++ [x]) hb5; have hown5 := own_off hown4 hb4 ho5; have hbel := join_below hb1.out ho3 (hown3.alloc _) ho4 ho5))
  have hres := Lib.hid (hdn.out w5 (.slice a4 n4 c4) hbel (hown5.lower hBw))
  have hR5 := h.out.below hbel
  have hs5 := hR5.slice
  have hfz := hR5.free
  have hd5 := hR5.ptr.lt
  clear t1 tw hs
  obtain ⟨t0, t1, t2, t3, t4, t5⟩ := hR5.cells hjl
  generalize ps[j] = q3 at t0 t1 t2 t3 t4 t5
  obtain ⟨⟨r3, m3, x3, ⟨f3, g3, a3⟩⟩, v3⟩ := q3
  simp only at t0 t1 t2 t3 t4 t5
  obtain ⟨b0, b1, b2, b3, b4, b5⟩ := api_all hb5'
  have hjn : (j : Int) < (n : Int) := by omega
  clear hR5 hb5' hown5 hbel hb5 ho5 hown4 ho4 hb4 hr3' hown3 hr3 ho3 hcb hz3 hld hone hinf hdn h hone' hr0 ho1' hb1
  go_region
  go_wp2
  go_ret
  exact ⟨rfl, hres.out⟩

set_option maxRecDepth 100000 in
set_option maxHeartbeats 8000000 in
theorem rjoin_addh {B : Nat} {w : World} {d gv n cap : Nat} {ps : List (Cel × Value)} (h : RefX B w d gv n cap ps) (hBw : B ≤ w.heap.size) (j : Nat) (x : Int) (hx : runeB x = true) (hjl : j < ps.length) (hcl : (j + 1) < ps.length) (hwide : ps[(j + 1)].1.wide = 2) (hm4 : ps[j].1.m.length < 4) :
    Calls Try.prog 33 #[.pointer (some ⟨d, 0, none⟩), .int .i64 (((j + 1) : Nat) : Int), .int .i32 x] w fun e w' => e = .returned (.int .i64 0) ∧ RefDone B w d ((cels ps).set j (addMark ps[j].1 x)) e w' := by
  have hn := h.pos
  have hn5 := h.small
  have hlen := h.len
  have hs := h.slice
  have hdw := h.ptr.lt
  have hru := rune_any x
  rw [hx] at hru
  replace hru := Lib.hid hru
  have tw := (h.cells hcl).2.2.1
  generalize ps[(j + 1)].1.wide = wd0 at hwide tw
  obtain ⟨t0, t1, t2, t3, t4, t5⟩ := h.cells hjl
  have hcm := h.api.comb _ (List.getElem_mem hjl)
  obtain ⟨aj, cj, hvj, _⟩ := hcm.shape
  rw [hvj] at t1
  rw [hwide] at tw
  have hld := h.api.load hjl
  have hone := apiC_one (c := ps[j].1) (Own.one hcm)
  have hinf : (Try.prog.info? 48).map (·.size) = some (apiC ps[j].1 ps[j].2).length := info48
  have how := own_any ps[j].1 ps[j].2 w hcm (Nat.le_of_lt hm4)
  have hput := fun (w5 : World) (hb : Below w.heap.size w w5) (v5 : Value) (ho : Own w5 B 21 .i32 v5 (addMark ps[j].1 x).m) => (h.below hb).put6 hjl (addMark ps[j].1 x) v5 ho
  obtain ⟨l, hl⟩ : ∃ l, l = (cels ps).set j (addMark ps[j].1 x) := ⟨_, rfl⟩
  rw [← hl]
  have hP : apiP ps[j] = apiC ps[j].1 ps[j].2 := rfl
  rw [hP] at hld
  clear t0 t2 t3 t4 t5 hP
  obtain ⟨k4, hk4⟩ : ∃ k4, k4 = ps[j].1.m.length := ⟨_, rfl⟩
  rw [← hk4] at t1 hm4 hvj
  generalize ps[j] = q at hld hone hinf how hput hl hk4 hvj hcm
  obtain ⟨⟨r, m, wd, ⟨af, ab, ag⟩⟩, v⟩ := q
  simp only at hvj
  subst hvj
  have hC : (apiC ⟨r, m, wd, ⟨af, ab, ag⟩⟩ (.slice aj k4 cj)) = [.int .i32 r, .slice aj k4 cj, .int .u8 wd, .int .u32 af, .int .u32 ab, .int .u16 ag] := rfl
  simp only [addMark] at hld hone hinf how hput hl hk4
  rw [hC] at hld hinf hone how
  have hdn := fun (w5 : World) (v5 : Value) (hb : Below w.heap.size w w5) (ho : Own w5 B 21 .i32 v5 (m ++ [x])) => ref_set (v := .int .i64 0) (h.below hb) hb ((put6_only w5 gv (j * 6) (.int .i32 r) v5 (.int .u8 wd) (.int .u32 af) (.int .u32 ab) (.int .u16 ag)).trans (Only.drewN _ _ 1)) ((hput w5 hb v5 ho).drawn 1) ((cels_set1 ps j _ v5).trans hl.symm)
  replace hld := Lib.hid hld
  replace hone := Lib.hid hone
  replace hinf := Lib.hid hinf
  replace how := Lib.hid how
  replace hdn := Lib.hid hdn
  replace h := Lib.hid h
  replace hk4 := Lib.hid hk4
  clear hput hC hl hcm
  go_enter Try.func33, Try.ntmps33
  go_wp2_with (first
    | (go_at_call 18; (with_reducible refine (hru.out _).mono ?_); rintro e w' ⟨rfl, rfl⟩)
    | (with_reducible show wpList _ _ _ (⟨some 51, .load _ (.tmp 50), _, _, _, _⟩ :: _) _ _; go_must (refine wpList_loadAt rfl 48 (.tmp 50) rfl ⟨gv, j * 6, none⟩ rfl _ _ hld.out Try.underlying48 rfl hinf.out ?_)))
  with_reducible refine how.out.mono ?_
  rintro e w1 ⟨v1, rfl, ho1, hb1⟩
  obtain ⟨a1, n1, c1, rfl⟩ := own_slice ho1
  have hr0 := fresh_api w1
  have ho1' := ho1.alloc (.cells #[.int .i32 0, .slice none 0 0, .int .u8 0, .int .u32 0, .int .u32 0, .int .u16 0] 48)
  have hk4' := hk4.out
  have hone' := Lib.hid (apiC_one (c := ⟨r, m, wd, ⟨af, ab, ag⟩⟩) (v := .slice a1 n1 c1) rfl)
  replace hr0 := Lib.hid hr0
  replace ho1' := Lib.hid ho1'
  have hb1s := hb1.size
  replace hb1 := Lib.hid hb1
  clear ho1
  go_wp2_with (first
    | (with_reducible show wpList _ _ _ (⟨none, .store _ (.tmp 7) _, _, _, _, _⟩ :: _) _ _; go_must (refine wpList_storeN rfl 48 (.tmp 7) (.tmp 52) rfl (g := w1.heap.size) (i := 0) hr0.out (apiC ⟨r, m, wd, ⟨af, ab, ag⟩⟩ (.slice a1 n1 c1)) rfl rfl (by simp [apiC, attV]) (info48' _ _) (hone'.out) ?_); intro w3 hr3 ho3; have hr3' := stored_api hr3.out; have hown3 := own_off ho1'.out hr0.out ho3; have hcb := api_mem hr3'; have hz3 := only_size ho3)
    | (with_reducible show wpList _ _ _ (⟨some 57, .call _, _, _, _, _⟩ :: _) _ _; go_must (refine wpList_app elemI rfl (.tmp 54) (.tmp 56) rfl w.heap.size (.slice a1 n1 c1) m [x] (some ⟨w3.heap.size, 0, none⟩) (w3.heap.size + 1) 1 rfl rfl (hown3.alloc _) (Nums.one _ _ _ _) (by simp; omega) (by simp; omega) (by simp [maxLen]; omega) ?_); intro v4 w4 hown4 ho4 _; obtain ⟨a4, n4, c4, rfl⟩ := own_slice hown4; have hb4 := api_lit (block_off (hr3'.alloc _) (hown3.alloc _) ho4))
    | (with_reducible show wpList _ _ _ (⟨none, .store _ (.tmp 58) _, _, _, _, _⟩ :: _) _ _; go_must (refine wpList_store1 rfl _ (.tmp 58) (.tmp 57) rfl hb4 (.slice _ _ _) rfl rfl (by simp) (by exact info46) rfl ?_); intro w5 hb5 ho5; have hb5' := box_put (m := m ++ [x]) hb5; have hown5 := own_off hown4 hb4 ho5; have hbel := join_below hb1.out ho3 (hown3.alloc _) ho4 ho5))
  have hres := Lib.hid (hdn.out w5 (.slice a4 n4 c4) hbel (hown5.lower hBw))
  have hR5 := h.out.below hbel
  have hs5 := hR5.slice
  have hfz := hR5.free
  have hd5 := hR5.ptr.lt
  clear t1 tw hs
  obtain ⟨t0, t1, t2, t3, t4, t5⟩ := hR5.cells hjl
  generalize ps[j] = q3 at t0 t1 t2 t3 t4 t5
  obtain ⟨⟨r3, m3, x3, ⟨f3, g3, a3⟩⟩, v3⟩ := q3
  simp only at t0 t1 t2 t3 t4 t5
  obtain ⟨b0, b1, b2, b3, b4, b5⟩ := api_all hb5'
  have hjn : (j : Int) < (n : Int) := by omega
  clear hR5 hb5' hown5 hbel hb5 ho5 hown4 ho4 hb4 hr3' hown3 hr3 ho3 hcb hz3 hld hone hinf hdn h hone' hr0 ho1' hb1
  go_region
  go_wp2
  go_ret
  exact ⟨rfl, hres.out⟩

theorem rjoin_yes {B : Nat} {w : World} {d gv n cap : Nat} {ps : List (Cel × Value)} (h : RefX B w d gv n cap ps) (hBw : B ≤ w.heap.size) (hwh : Whole (cels ps)) (h4 : ∀ p ∈ ps, p.1.m.length ≤ 4) (col : Nat) (x : Int) (hx : runeB x = true) (hcol : col < n) :
    Calls Try.prog 33 #[.pointer (some ⟨d, 0, none⟩), .int .i64 col, .int .i32 x] w fun e w' => e = .returned (.int .i64 (joinV (cels ps) col)) ∧ RefDone B w d (joinL (cels ps) col x) e w' := by
  have hlen := h.len
  have hcl : col < ps.length := by omega
  have hWc : W (cels ps) col = ps[col].1.wide := by rw [W_cels, getD_zp hcl]
  have hL : ∀ j (hj : j < ps.length), joinAt (cels ps) col = j → joinL (cels ps) col x = (if ps[j].1.m.length < 4 then (cels ps).set j (addMark ps[j].1 x) else cels ps) ∧ joinV (cels ps) col = if ps[j].1.m.length < 4 then 0 else 8 := by
    intro j hj e
    have e2 : (cels ps)[j]? = some ps[j].1 := by rw [cels_get _ _ hj, getD_zp hj]
    unfold joinL joinV
    rw [e, e2]
    exact ⟨rfl, rfl⟩
  have hfull : ∀ (e : Ending) (w' : World), (e = .returned (.int .i64 8) ∧ w = w') → e = .returned (.int .i64 8) ∧ RefDone B w d (cels ps) e w' := by
    rintro e w' ⟨rfl, rfl⟩
    exact ⟨rfl, ⟨_, rfl⟩, ⟨gv, n, cap, ps, h, rfl⟩, Fr.refl _ _ _⟩
  by_cases h2 : W (cels ps) col = 2
  · have hpos : col ≠ 0 := fun e => ((whole_iff _).1 hwh).1 (by rw [← e]; exact h2)
    obtain ⟨j, rfl⟩ : ∃ j, col = j + 1 := ⟨col - 1, by omega⟩
    have hj : j < ps.length := by omega
    obtain ⟨e1, e2⟩ := hL j hj (by unfold joinAt; rw [if_pos h2]; rfl)
    rw [e1, e2]
    have hm := h4 ps[j] (List.getElem_mem hj)
    by_cases hm4 : ps[j].1.m.length < 4
    · rw [if_pos hm4, if_pos hm4]
      exact rjoin_addh h hBw j x hx hj hcl (by rw [← hWc]; exact h2) hm4
    · rw [if_neg hm4, if_neg hm4]
      exact (rjoin_fullh h j x hx hj hcl (by rw [← hWc]; exact h2) (by omega)).mono hfull
  · obtain ⟨e1, e2⟩ := hL col hcl (by unfold joinAt; rw [if_neg h2])
    rw [e1, e2]
    have hm := h4 ps[col] (List.getElem_mem hcl)
    by_cases hm4 : ps[col].1.m.length < 4
    · rw [if_pos hm4, if_pos hm4]
      exact rjoin_add h hBw col x hx hcl hcl (by rw [← hWc]; exact h2) hm4
    · rw [if_neg hm4, if_neg hm4]
      exact (rjoin_full h col x hx hcl hcl (by rw [← hWc]; exact h2) (by omega)).mono hfull
end Go.Proofs.Ytnnaagkdlmamjaa.Rw
