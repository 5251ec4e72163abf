/-
  row: the reference's Put that refuses, and Join. row: the reference's SameCell and Same.
-/
import Derived.Test.YtaoegfdaemmogaaGreatRRNew
import Derived.Test.YtaoegfdaemmogaaGreatRJoin
namespace Go.Proofs.YtaoegfdaemmogaaGreat.Rw
open Go Go.RowKit Go.Proofs.YtaoegfdaemmogaaGreat.Com

set_option maxRecDepth 100000 in
set_option maxHeartbeats 4000000 in
theorem rput_no {B : Nat} {w : World} {d gv n cap : Nat} {ps : List (Cel × Value)} (h : RefX B w d gv n cap ps) (col x : Int) (hc : -9223372036854775808 ≤ col ∧ col ≤ 9223372036854775807) (wide : Bool) (a : At) (hno : runeB x = false ∨ col < 0 ∨ (n : Int) ≤ col ∨ (wide = true ∧ (n : Int) ≤ col + 1)) :
    Calls Tryz.prog 34 #[.pointer (some ⟨d, 0, none⟩), .int .i64 col, .int .i32 x, .bool wide, .agg #[.int .u32 a.f, .int .u32 a.b, .int .u16 a.g]] w fun e w' => e = .returned (.int .i64 2) ∧ Below w.heap.size w w' := by
  obtain ⟨af, ab, ag⟩ := a
  have hn := h.pos
  have hn5 := h.small
  have hs := (h.below (below_new w (.cells #[.int .u32 af, .int .u32 ab, .int .u16 ag] 37))).slice
  have hdw := h.ptr.lt
  have hres := Lib.hid (below_new w (.cells #[.int .u32 af, .int .u32 ab, .int .u16 ag] 37))
  have hru := rune_any x
  simp only
  clear h
  by_cases h1 : runeB x = false
  · rw [h1] at hru
    replace hru := Lib.hid hru
    clear hno
    cases wide
    all_goals
      go_enter Tryz.func34, Tryz.ntmps34
      go_wp2_with ((go_at_call 70; (with_reducible refine (hru.out _).mono ?_); rintro e w' ⟨rfl, rfl⟩))
      go_ret
      exact ⟨rfl, hres.out⟩
  have h1 : runeB x = true := by simpa using h1
  rw [h1] at hru
  replace hru := Lib.hid hru
  by_cases h2 : col < 0
  · clear hno
    cases wide
    all_goals
      go_enter Tryz.func34, Tryz.ntmps34
      go_wp2_with ((go_at_call 70; (with_reducible refine (hru.out _).mono ?_); rintro e w' ⟨rfl, rfl⟩))
      go_ret
      exact ⟨rfl, hres.out⟩
  by_cases h3 : (n : Int) ≤ col
  · clear hno
    cases wide
    all_goals
      go_enter Tryz.func34, Tryz.ntmps34
      go_wp2_with ((go_at_call 70; (with_reducible refine (hru.out _).mono ?_); rintro e w' ⟨rfl, rfl⟩))
      go_ret
      exact ⟨rfl, hres.out⟩
  obtain ⟨rfl, h4⟩ : wide = true ∧ (n : Int) ≤ col + 1 := by
    rcases hno with hh | hh | hh | hh
    · simp [h1] at hh
    · omega
    · omega
    · exact hh
  have h5 : (n : Int) < col + 2 := by omega
  go_enter Tryz.func34, Tryz.ntmps34
  go_wp2_with ((go_at_call 70; (with_reducible refine (hru.out _).mono ?_); rintro e w' ⟨rfl, rfl⟩))
  go_ret
  exact ⟨rfl, hres.out⟩

end Go.Proofs.YtaoegfdaemmogaaGreat.Rw
namespace Go.Proofs.YtaoegfdaemmogaaGreat.Rw
open Go Go.RowKit Go.Proofs.YtaoegfdaemmogaaGreat.Com

structure SameSt (w wr : World) (C C' : Array Value) (ao ao' : Option Addr) (m : List Int) : Prop where
  b1 : Block wr w.heap.size 117 C
  b2 : Block wr (w.heap.size + 1) 117 C'
  n1 : Nums wr w.heap.size .i32 ao m
  n2 : Nums wr w.heap.size .i32 ao' m
  below : Below w.heap.size w wr
theorem SameSt.drawn {w wr : World} {C C' : Array Value} {ao ao' : Option Addr} {m : List Int} (h : SameSt w wr C C' ao ao' m) (q : Nat) : SameSt w (wr.drewN q) C C' ao ao' m := by
  have ho := Only.drewN [] wr q
  exact ⟨h.b1.only ho (by simp), h.b2.only ho (by simp), h.n1.only ho h.below.size (by simp), h.n2.only ho h.below.size (by simp), h.below.trans (ho.below h.below.size (by simp))⟩
theorem SameSt.start {w : World} {C C' : Array Value} {ao ao' : Option Addr} {m : List Int} (h1 : Nums w w.heap.size .i32 ao m) (h2 : Nums w w.heap.size .i32 ao' m) : SameSt w ((w.alloc (.cells C 117)).alloc (.cells C' 117)) C C' ao ao' m := by
  refine ⟨(Block.made w _ _).alloc _, ?_, (h1.alloc (Nat.le_refl _) _).alloc (by simp) _, (h2.alloc (Nat.le_refl _) _).alloc (by simp) _, ((Below.refl _ _).alloc (Nat.le_refl _) _).alloc (by simp) _⟩
  have := Block.made (w.alloc (.cells C 117)) 117 C'
  simpa using this

set_option maxRecDepth 100000 in
set_option maxHeartbeats 4000000 in
theorem samecell_any {B B' : Nat} (c : Cel) (v v' : Value) (w : World) (h : Own w B 21 .i32 v c.m) (h' : Own w B' 21 .i32 v' c.m) (hm : c.m.length ≤ 4) : Calls Tryz.prog 72 #[.agg (apiC c v).toArray, .agg (apiC c v').toArray] w fun e w' => e = .returned (.bool true) ∧ Below w.heap.size w w' := by
  obtain ⟨ao, cp, rfl, hc1, hc2, hnums⟩ := h.shape
  obtain ⟨ao', cp', rfl, hc1', hc2', hnums'⟩ := h'.shape
  obtain ⟨r, m, wd, ⟨af, ab, ag⟩⟩ := c
  simp only at hm hnums hnums' hc1 hc1' ⊢
  have hC : ∀ ao cp, (apiC ⟨r, m, wd, ⟨af, ab, ag⟩⟩ (.slice ao m.length cp)).toArray = #[.int .i32 r, .slice ao m.length cp, .int .u8 wd, .int .u32 af, .int .u32 ab, .int .u16 ag] := fun _ _ => rfl
  rw [hC, hC]
  clear hC h h'
  obtain ⟨n, hn⟩ : ∃ n, n = m.length := ⟨_, rfl⟩
  rw [← hn] at hm hc1 hc1' ⊢
  have hst := Lib.hid (SameSt.start (C := #[.int .i32 r, .slice ao n cp, .int .u8 wd, .int .u32 af, .int .u32 ab, .int .u16 ag]) (C' := #[.int .i32 r, .slice ao' n cp', .int .u8 wd, .int .u32 af, .int .u32 ab, .int .u16 ag]) hnums hnums')
  replace hn := Lib.hid hn
  clear hnums hnums'
  go_enter Tryz.func72, Tryz.ntmps72
  go_wp2
  go_loopw [5] (fun i wr => ∃ k : Nat, k ≤ n ∧ i = .int .i64 k ∧ Hid (SameSt w wr #[.int .i32 r, .slice ao n cp, .int .u8 wd, .int .u32 af, .int .u32 ab, .int .u16 ag] #[.int .i32 r, .slice ao' n cp', .int .u8 wd, .int .u32 af, .int .u32 ab, .int .u16 ag] ao ao' m)) (fun i _ => n - (intOf i).toNat)
  case atStart => exact ⟨0, Nat.zero_le _, rfl, hst⟩
  case round =>
    obtain ⟨k, hk, rfl, hR⟩ := hrel
    have hR := hR.out
    have c1 := hR.b1.cell 1 rfl
    have c2 := hR.b2.cell 1 rfl
    by_cases hlt : k < n
    · have hkm : k < m.length := by rw [← hn.out]; exact hlt
      obtain ⟨ad, rfl, _, hx⟩ := hR.n1.at hkm
      obtain ⟨ad', rfl, _, hx'⟩ := hR.n2.at hkm
      generalize m[k] = y at hx hx'
      have hnx := Lib.hid (fun q => hR.drawn q)
      have hki : (k : Int) < (n : Int) := by omega
      clear hR hst
      go_wp2
      go_region
      go_wp2
      go_roundw
      case rel => exact ⟨k + 1, by omega, by go_num, Lib.hid (hnx.out 1)⟩
      case measure => simp [intOf]; omega
    · obtain rfl : k = n := by omega
      have hb := Lib.hid hR.below
      clear hR hst
      go_wp2
      go_ret
      exact ⟨rfl, hb.out⟩

theorem api6 {B : Nat} {w : World} {g n cap : Nat} {ps : List (Cel × Value)} (h : Api B w (.slice (some ⟨g, 0, none⟩) n cap) ps) {i : Nat} (hi : i < ps.length) : w.cell? ⟨g, i * 6, none⟩ = some (.int .i32 ps[i].1.r) ∧ w.cell? ⟨g, i * 6 + 1, none⟩ = some ps[i].2 ∧ w.cell? ⟨g, i * 6 + 2, none⟩ = some (.int .u8 ps[i].1.wide) ∧ w.cell? ⟨g, i * 6 + 3, none⟩ = some (.int .u32 ps[i].1.a.f) ∧ w.cell? ⟨g, i * 6 + 4, none⟩ = some (.int .u32 ps[i].1.a.b) ∧ w.cell? ⟨g, i * 6 + 5, none⟩ = some (.int .u16 ps[i].1.a.g) := by
  have hl := h.load hi
  have e := fun j v hj => by have := hl j v hj; rw [Addr.add_lit] at this; exact this
  exact ⟨e 0 _ rfl, e 1 _ rfl, e 2 _ rfl, e 3 _ rfl, e 4 _ rfl, e 5 _ rfl⟩
set_option maxRecDepth 100000 in
set_option maxHeartbeats 4000000 in
theorem same_any {B B' : Nat} {w : World} {g g' n cap cap' : Nat} {ps ps' : List (Cel × Value)} (hA : Api B w (.slice (some ⟨g, 0, none⟩) n cap) ps) (hA' : Api B' w (.slice (some ⟨g', 0, none⟩) n cap') ps') (hl : ps.length = n) (hc : ps'.map (·.1) = ps.map (·.1)) (h5 : n ≤ 512) (h4 : ∀ p ∈ ps, p.1.m.length ≤ 4) :
    Calls Tryz.prog 41 #[.slice (some ⟨g, 0, none⟩) n cap, .slice (some ⟨g', 0, none⟩) n cap'] w fun e w' => e = .returned (.bool true) ∧ Below w.heap.size w w' := by
  have hl' : ps'.length = n := by have := congrArg List.length hc; simpa [hl] using this
  replace hA := Lib.hid hA
  replace hA' := Lib.hid hA'
  replace hc := Lib.hid hc
  replace h4 := Lib.hid h4
  go_enter Tryz.func41, Tryz.ntmps41
  go_wp2
  go_loopw [5] (fun i wr => ∃ k : Nat, k ≤ n ∧ i = .int .i64 k ∧ Hid (Below w.heap.size w wr)) (fun i _ => n - (intOf i).toNat)
  case atStart => exact ⟨0, Nat.zero_le _, rfl, Lib.hid (Below.refl _ _)⟩
  case round =>
    obtain ⟨k, hk, rfl, hR⟩ := hrel
    have hB := hR.out
    by_cases hlt : k < n
    · have hkp : k < ps.length := by omega
      have hkp' : k < ps'.length := by omega
      have he : ps'[k].1 = ps[k].1 := by
        have := congrArg (fun l => l[k]?) hc.out
        simpa [hkp, hkp'] using this
      have hS := fun w' (hb : Below wr.heap.size wr w') => And.intro (api6 ((hA.out.below hB).below hb) hkp) (api6 ((hA'.out.below hB).below hb) hkp')
      have hcall := fun w' (hb : Below wr.heap.size wr w') (h'' : Own w' B' 21 .i32 ps'[k].2 ps[k].1.m) => samecell_any ps[k].1 ps[k].2 ps'[k].2 w' (((hA.out.below hB).below hb).comb _ (List.getElem_mem hkp)) h'' (h4.out _ (List.getElem_mem hkp))
      have ho := fun w' (hb : Below wr.heap.size wr w') => ((hA'.out.below hB).below hb).comb _ (List.getElem_mem hkp')
      rw [he] at ho
      have hcall2 := fun w' (hb : Below wr.heap.size wr w') => hcall w' hb (ho w' hb)
      simp only [he] at hS
      have hv1 := Own.one (ho wr (Below.refl _ _))
      have hv2 := Own.one ((hA.out.below hB).comb _ (List.getElem_mem hkp))
      clear hcall ho he
      generalize ps[k] = q at hS hcall2 hv2
      generalize ps'[k].2 = v' at hS hcall2 hv1
      obtain ⟨⟨r, m, wd, ⟨af, ab, ag⟩⟩, v⟩ := q
      have hC : ∀ v, (apiC ⟨r, m, wd, ⟨af, ab, ag⟩⟩ v).toArray = #[.int .i32 r, v, .int .u8 wd, .int .u32 af, .int .u32 ab, .int .u16 ag] := fun _ => rfl
      simp only [hC] at hS hcall2 hv2
      clear hC
      have hnx := Lib.hid (fun w' (hb : Below wr.heap.size wr w') => below_next hB hb)
      replace hS := Lib.hid hS
      replace hcall2 := Lib.hid hcall2
      replace hkp := Lib.hid hkp
      replace hkp' := Lib.hid hkp'
      have hki : (k : Int) < (n : Int) := by omega
      have hdr : Below wr.heap.size wr wr.drew := below_dr (a := wr) (b := wr) (Below.refl wr.heap.size wr) 1
      replace hdr := Lib.hid hdr
      clear hR hB
      go_wp2
      go_region_held3 (fun w' => (w'.cell? ⟨g, k * 6, none⟩ = some (.int .i32 r) ∧ w'.cell? ⟨g, k * 6 + 1, none⟩ = some v ∧ w'.cell? ⟨g, k * 6 + 2, none⟩ = some (.int .u8 wd) ∧ w'.cell? ⟨g, k * 6 + 3, none⟩ = some (.int .u32 af) ∧ w'.cell? ⟨g, k * 6 + 4, none⟩ = some (.int .u32 ab) ∧ w'.cell? ⟨g, k * 6 + 5, none⟩ = some (.int .u16 ag)) ∧ w'.cell? ⟨g', k * 6, none⟩ = some (.int .i32 r) ∧ w'.cell? ⟨g', k * 6 + 1, none⟩ = some v' ∧ w'.cell? ⟨g', k * 6 + 2, none⟩ = some (.int .u8 wd) ∧ w'.cell? ⟨g', k * 6 + 3, none⟩ = some (.int .u32 af) ∧ w'.cell? ⟨g', k * 6 + 4, none⟩ = some (.int .u32 ab) ∧ w'.cell? ⟨g', k * 6 + 5, none⟩ = some (.int .u16 ag))
        (first | exact hS.out _ (Below.refl _ _) | exact hS.out _ hdr.out | exact hS.out _ (below_next hdr.out hb6) | go_keep)
        (first
          | (go_at_call 72; with_reducible refine (hcall2.out _ ?_).mono ?_; exact hdr.out; rintro e w6 ⟨rfl, hb6⟩))
      have hn6 := Lib.hid (hnx.out _ (below_next hdr.out hb6))
      clear hb6
      go_wp2
      go_roundw
      case rel => exact ⟨k + 1, by omega, by go_num, hn6⟩
      case measure => simp [intOf]; omega
    · obtain rfl : k = n := by omega
      have hb := Lib.hid hB
      clear hR hB
      go_wp2
      go_ret
      exact ⟨rfl, hb.out⟩
end Go.Proofs.YtaoegfdaemmogaaGreat.Rw
