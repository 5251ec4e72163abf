/- Part 45 of the proof that the card of EmuNone holds. -/
import Derived.Test.YtkjpjegmanpbfaaGreatDoorPN43
import Derived.Test.YtkjpjegmanpbfaaGreatDoorPN44
import Derived.Test.YtkjpjegmanpbfaaGreatDoorPN33
import Derived.Test.YtkjpjegmanpbfaaGreatDoorPN07
import Derived.Test.YtkjpjegmanpbfaaGreatDoorPN42
import Derived.Test.YtkjpjegmanpbfaaGreatDoorPN00
set_option maxHeartbeats 16000000
set_option maxRecDepth 100000
namespace Go.Proofs.YtkjpjegmanpbfaaGreatDoor.Emu
open Go Go.RowKit Go.Proofs.YtkjpjegmanpbfaaGreatDoor.Com Go.Proofs.YtkjpjegmanpbfaaGreatDoor.Rw Go.Proofs.YtkjpjegmanpbfaaGreatDoor.Lns Go.Proofs.YtkjpjegmanpbfaaGreatDoor.Scn
section
variable {Z : Zn} {w w' : World} {d t : Nat} {T : Ter} {P : Pt} {B : Nat} {cv iv : Value} {rs : List TRow}
theorem GridT.lower {B' : Nat} (h : GridT B w T cv iv rs) (hB : B' ≤ B) : GridT B' w T cv iv rs := ⟨h.rws.lower hB, h.len, h.got⟩
theorem GridT.fr {B' : Nat} {ts : List TypeId} (h : GridT B w T cv iv rs) (hf : Rw.Fr B' ts w w') (h1 : 62 ∉ ts) (h2 : 3 ∉ ts) (h3 : 64 ∉ ts) (h4 : 21 ∉ ts) : GridT B w' T cv iv rs := ⟨h.rws.fr hf h1 h2 h3 h4, h.len, h.got⟩
theorem GridT.below (h : GridT B w T cv iv rs) (hb : Below w.heap.size w w') : GridT B w' T cv iv rs := ⟨h.rws.below hb, h.len, h.got⟩
theorem GridT.one (h : GridT B w T cv iv rs) : (gridA cv iv (gridG T)).all (·.oneCell') = true := by
 obtain ⟨a, c, rfl, _⟩ := owns_shape h.rws.rows
 obtain ⟨a2, c2, rfl, _⟩ := h.rws.ids.shape
 simp [gridA, gridG, Value.oneCell']
theorem gridA_info (cv iv : Value) (T : Ter) : (Tryz.prog.info? 43).map (·.size) = some (gridA cv iv (gridG T)).size := by kernel_rfl
theorem tgrid_any (h : TV Z w d t T) (ok : Ok T) : Calls Tryz.prog 12 #[.pointer (some ⟨d, 0, none⟩)] w (GotGrid w T) := by
 have hbn := below_new w (.cells #[.slice none 0 0, .slice none 0 0, .int .i64 0, .int .i64 0, .bool false, .bool false, .bool false, .int .i64 0, .int .i64 0, .int .u32 0, .int .u32 0, .int .u16 0] 43)
 have hbx := Block.made w 43 #[.slice none 0 0, .slice none 0 0, .int .i64 0, .int .i64 0, .bool false, .bool false, .bool false, .int .i64 0, .int .i64 0, .int .u32 0, .int .u32 0, .int .u16 0]
 have hlt := hbx.lt
 replace h := h.below hbn
 generalize hw0 : w.alloc (.cells #[.slice none 0 0, .slice none 0 0, .int .i64 0, .int .i64 0, .bool false, .bool false, .bool false, .int .i64 0, .int .i64 0, .int .u32 0, .int .u32 0, .int .u16 0] 43) = w0 at h hbn hbx hlt
 have hm := Lib.hid (isMade_yes h)
 have cd := h.blk.cell 0 (v := .pointer (some ⟨t, 0, none⟩)) rfl
 obtain ⟨P, hT⟩ := h.tm
 have hg := Lib.hid (grid_any hT ok)
 have hbx1 := Lib.hid (fun w1 (hb : Below w0.heap.size w0 w1) => (Block.only hbx (Only.of_below hb []) (by simp) : Block w1 w.heap.size 43 _))
 clear h hT ok
 go_enter Tryz.func12, Tryz.ntmps12
 go_wp2_with (first
  | (go_at_call 24; (with_reducible refine (hm.out).mono ?_); rintro e w1 ⟨rfl, rfl⟩)
  | (go_at_call 28; (with_reducible refine (hg.out).mono ?_); rintro e w1 ⟨cv, iv, rs, rfl, hG, hb1⟩); have hbx2 := hbx1.out _ hb1; have hone := hG.one; have hinf := gridA_info cv iv T
  | (with_reducible show wpList _ _ _ (⟨none, .store _ (.tmp 2) _, _, _, _, _⟩ :: _) _ _; go_must (refine wpList_storeAll rfl _ (.tmp 2) (.tmp 11) rfl hbx2 (gridA cv iv (gridG T)) rfl rfl hinf (gridA_size hinf) hone ?_); intro w8 hb8 ho8))
 have hfr : Rw.Fr 0 [43] w1 w8 := Rw.Fr.of_only ho8 fun k hk _ => by
  obtain rfl : k = w.heap.size := by simpa using hk
  exact ⟨Nat.zero_le _, _, by simp, Block.typ hbx2⟩
 have hb2 : Below w.heap.size w w1 := below_next hbn hb1
 exact bodyPost_ret (results_cell_row rfl _ _ _ _ _ _ _ rfl hb8 Tryz.underlying43 rfl hinf) rfl ⟨cv, iv, rs, rfl, (hG.lower (by omega)).fr hfr (by decide) (by decide) (by decide) (by decide), hb2.trans (ho8.below hb2.size fun k hk => by obtain rfl : k = w.heap.size := (by simpa using hk); exact Nat.le_refl _)⟩
end
def charsT (s : ByteArray) : List Int := s.data.toList.map fun b => (b.toNat : Int)
theorem charsT_len (s : ByteArray) : (charsT s).length = s.size := by
 unfold charsT
 rw [List.length_map, Array.length_toList]
 rfl
theorem charsT_at (s : ByteArray) {k : Nat} (h : k < s.size) : (charsT s)[k]? = some ((s[k]'h).toNat : Int) := by
 have h' : k < s.data.toList.length := h
 unfold charsT
 rw [List.getElem?_map, List.getElem?_eq_getElem h']
 rfl
theorem charsT_take (s : ByteArray) {k : Nat} (h : k < s.size) : (charsT s).take (k + 1) = (charsT s).take k ++ [((s[k]'h).toNat : Int)] := by
 rw [List.take_add_one, charsT_at s h]
 rfl
def prV (r : Int) : List Value := [.int .u8 1, .int .i32 r, .int .i32 0, .slice none 0 0, .slice none 0 0, .int .i32 0, .slice none 0 0]
theorem prV_length (r : Int) : (prV r).length = 7 := rfl
theorem prV_one (r : Int) : ∀ v ∈ prV r, v.oneCell' = true := by
 intro v hv
 simp only [prV, List.mem_cons, List.not_mem_nil, or_false] at hv
 rcases hv with rfl | rfl | rfl | rfl | rfl | rfl | rfl <;> rfl
theorem elemAc : ElemN Tryz.prog 72 25 (.agg #[.int .u8 0, .int .i32 0, .int .i32 0, .slice none 0 0, .slice none 0 0, .int .i32 0, .slice none 0 0]) 7 := by
 have h : (Tryz.prog.info? 25).map (fun i => (i.zero, i.size, decide (i.bytes ≤ 100))) = some (some (.agg #[.int .u8 0, .int .i32 0, .int .i32 0, .slice none 0 0, .slice none 0 0, .int .i32 0, .slice none 0 0]), 7, true) := by kernel_rfl
 refine ⟨Tryz.underlying72, ?_, rfl, by omega⟩
 cases hq : Tryz.prog.info? 25 with
 | none => simp [hq] at h
 | some i =>
  simp only [hq, Option.map_some, Option.some.injEq, Prod.mk.injEq, decide_eq_true_eq] at h
  exact ⟨i, rfl, h.1, h.2.1, h.2.2⟩
structure TxSt (w wr : World) (b : Nat) (s : ByteArray) (k : Nat) (v : Value) : Prop where
 it : wr.heap[b]? = some (.stringIter s k)
 rows : wr.ownsRow w.heap.size 25 7 v k (fl prV ((charsT s).take k))
 below : Below w.heap.size w wr
 hb : w.heap.size ≤ b
def TextT (w : World) (s : ByteArray) (e : Ending) (w' : World) : Prop := ∃ v, e = .returned v ∧ w'.ownsRow w.heap.size 25 7 v s.size (fl prV (charsT s)) ∧ Below w.heap.size w w'
theorem TxSt.more {w wr w1 w2 : World} {b k : Nat} {s : ByteArray} {v v2 : Value} (h : TxSt w wr b s k v) (hk : k < s.size) (hit1 : w1.heap[b]? = some (.stringIter s (k + 1))) (ho1 : Only [b] wr w1) {o : Obj}
  (hown : w2.ownsRow w.heap.size 25 7 v2 (k + 1) (fl prV ((charsT s).take k) ++ prV ((s[k]'hk).toNat : Int))) (ho : Only v.ownBlock.toList (w1.alloc o) w2) : TxSt w w2 b s (k + 1) v2 := by
 have hlt := lt_of_block' hit1
 have hbl1 : Below w.heap.size w w1 := h.below.trans (ho1.below h.below.size fun g hg => by obtain rfl : g = b := (by simpa using hg); exact h.hb)
 have hbl2 : Below w.heap.size w (w1.alloc o) := hbl1.trans ((below_new w1 o).mono hbl1.size)
 have hit2 : (w1.alloc o).heap[b]? = some (.stringIter s (k + 1)) := ((below_new w1 o).block b hlt).trans hit1
 have hlow : ∀ g, v.ownBlock = some g → w.heap.size ≤ g := fun g hg => (World.ownsRow.lt h.rows g hg).1
 have hne : b ∉ v.ownBlock.toList := fun hm => by
  obtain ⟨cs, fz, e⟩ := owns_typ h.rows b (by simpa using hm)
  have := h.it
  rw [e] at this
  cases this
 refine ⟨(ho.block b (lt_of_block' hit2) hne).trans hit2, ?_, hbl2.trans (ho.below hbl2.size fun g hg => hlow g (by simpa using hg)), h.hb⟩
 rw [charsT_take s hk, fl_app, fl_one]
 exact hown
theorem text_any (s : ByteArray) (hs : ∀ k (h : k < s.size), (s[k]'h).toNat < 128) (hl : s.size ≤ 1000) (w : World) : Calls Tryz.prog 22 #[.string s] w (TextT w s) := by
 go_enter Tryz.func22, Tryz.ntmps22
 go_wp2_with fail
 have hat : TxSt w (w.alloc (.stringIter s 0)) w.heap.size s 0 (.slice none 0 0) := ⟨heap_alloc_new w _, World.ownsRow_nil _ _ _ _, below_new w _, Nat.le_refl _⟩
 generalize w.heap.size = b at hat ⊢
 change TxSt w (w.iter s 0) b s 0 (.slice none 0 0) at hat
 generalize w.iter s 0 = w0 at hat ⊢
 replace hs := Lib.hid hs
 go_loopw [3] (fun sv wr => ∃ (k : Nat) (v : Value), k ≤ s.size ∧ v = sv ∧ TxSt w wr b s k v) (fun _ w => s.size - w.iterPos b)
 case atStart => exact ⟨0, _, Nat.zero_le _, rfl, hat⟩
 case round =>
  clear hat
  obtain ⟨k, v, hk, rfl, hat⟩ := hrel
  have hpos : wr.iterPos b = k := by simp [World.iterPos, hat.it]
  by_cases hlt : k < s.size
  ·obtain ⟨w1, hnx, hit1, ho1⟩ := next_step (P := Tryz.prog) hat.it hlt (hs.out k hlt)
   have hmore := Lib.hid (fun w2 v2 o => hat.more (w2 := w2) (v2 := v2) (o := o) hlt hit1 ho1)
   have hbl1 : Below w.heap.size w w1 := hat.below.trans (ho1.below hat.below.size fun g hg => by obtain rfl : g = b := (by simpa using hg); exact hat.hb)
   have hne : b ∉ v.ownBlock.toList := fun hm => by
    obtain ⟨cs, fz, e⟩ := owns_typ hat.rows b (by simpa using hm)
    have := hat.it
    rw [e] at this
    cases this
   have hown1 := owns_only hat.rows ho1 (fun g hg => by intro hm; obtain rfl : g = b := (by simpa using hm); exact hne (by simpa using hg))
   obtain ⟨av, cvp, hvs, _, _⟩ := owns_shape hat.rows
   subst hvs
   generalize ((s[k]'hlt).toNat : Int) = c at hnx hmore
   have hownA := Lib.hid (owns_only hown1 (Only.of_below (below_new w1 (.cells #[.int .u8 1, .int .i32 c, .int .i32 0, .slice none 0 0, .slice none 0 0, .int .i32 0, .slice none 0 0] 25)) []) (by simp))
   have hBs := Nat.le_trans hbl1.size (below_new w1 (.cells #[.int .u8 1, .int .i32 c, .int .i32 0, .slice none 0 0, .slice none 0 0, .int .i32 0, .slice none 0 0] 25)).size
   replace hpos := Lib.hid hpos
   clear hat hit1 ho1 hown1 hbl1 hne
   go_wp2_with ((with_reducible show wpList _ _ _ (⟨some 15, .call _, _, _, _, _⟩ :: _) _ _; go_must (refine wpList_appN elemAc rfl (.tmp 11) (.tmp 14) rfl w.heap.size (.slice av k cvp) k (fl prV ((charsT s).take k)) ⟨w1.heap.size, 0, none⟩ 1 1 (prV c) rfl rfl hownA.out rfl (fun j u hj => by rw [Addr.add_lit, Nat.zero_add]; exact (Block.made w1 25 #[.int .u8 1, .int .i32 c, .int .i32 0, .slice none 0 0, .slice none 0 0, .int .i32 0, .slice none 0 0]).cell j (by simpa [prV] using hj)) (prV_one _) hBs (by omega) ?_); intro v2 w7 hown2 ho2 _))
   have hat2 := hmore.out _ _ _ hown2 ho2
   have hpos3 : w7.iterPos b = k + 1 := by simp [World.iterPos, hat2.it]
   replace hat2 := Lib.hid hat2
   clear hown2 ho2 hownA hnx hBs hmore
   go_roundw
   case rel => exact ⟨k + 1, _, by omega, rfl, hat2.out⟩
   case measure => rw [hpos3, hpos.out]; omega
  ·have hnx := next_end (P := Tryz.prog) hat.it hlt
   obtain rfl : k = s.size := by omega
   have e : (charsT s).take s.size = charsT s := List.take_of_length_le (by rw [charsT_len]; exact Nat.le_refl _)
   obtain ⟨av, cvp, hvs, _, _⟩ := owns_shape hat.rows
   subst hvs
   have hres : TextT w s (.returned (.slice av s.size cvp)) wr := ⟨_, rfl, e ▸ hat.rows, hat.below⟩
   replace hres := Lib.hid hres
   clear hat e hpos
   go_wp2_with fail
   go_ret
   exact hres.out
section
variable {w w' : World} {pa ia ta : Option Addr} {pn pc im ic tn tc : Nat} {k r pr f : Int}
theorem csi_any (f : Int) (a : Option Addr) (n c : Nat) (w : World) : Calls Tryz.prog 23 #[.int .i32 f, .slice a n c] w fun e w' => e = .returned (.agg #[.int .u8 4, .int .i32 0, .int .i32 0, .slice a n c, .slice none 0 0, .int .i32 f, .slice none 0 0]) ∧ Below w.heap.size w w' := by
 have hbn := below_new w (.cells #[.int .u8 0, .int .i32 0, .int .i32 0, .slice none 0 0, .slice none 0 0, .int .i32 0, .slice none 0 0] 25)
 have hbx := Block.made w 25 #[.int .u8 0, .int .i32 0, .int .i32 0, .slice none 0 0, .slice none 0 0, .int .i32 0, .slice none 0 0]
 have hinf : (Tryz.prog.info? 25).map (·.size) = some (#[.int .u8 4, .int .i32 0, .int .i32 0, .slice a n c, .slice none 0 0, .int .i32 f, .slice none 0 0] : Array Value).size := by kernel_rfl
 go_enter Tryz.func23, Tryz.ntmps23
 go_wp2_with ((with_reducible show wpList _ _ _ (⟨none, .store _ (.tmp 4) _, _, _, _, _⟩ :: _) _ _; go_must (refine wpList_storeAll rfl _ (.tmp 4) (.tmp 7) rfl hbx #[.int .u8 4, .int .i32 0, .int .i32 0, .slice a n c, .slice none 0 0, .int .i32 f, .slice none 0 0] rfl rfl hinf rfl (by simp [Value.oneCell']) ?_); intro w8 hb8 ho8))
 exact bodyPost_ret (results_cell_row rfl _ _ _ _ _ _ _ rfl hb8 Tryz.underlying25 rfl hinf) rfl ⟨rfl, hbn.trans (ho8.below hbn.size (by simp))⟩
def greatB (pn im tn : Nat) : Bool := decide (40 < pn) || (decide (10 < im) || decide (2000 < tn))
theorem great_any (w : World) : Calls Tryz.prog 7 #[.agg #[.int .u8 k, .int .i32 r, .int .i32 pr, .slice pa pn pc, .slice ia im ic, .int .i32 f, .slice ta tn tc]] w fun e w' => e = .returned (.bool (greatB pn im tn)) ∧ Below w.heap.size w w' := by
 have hbn := below_new w (.cells #[.int .u8 k, .int .i32 r, .int .i32 pr, .slice pa pn pc, .slice ia im ic, .int .i32 f, .slice ta tn tc] 25)
 unfold greatB
 by_cases h1 : 40 < pn
 ·have d1 : decide ((40 : Int) < (pn : Int)) = true := decide_eq_true (by omega)
  rw [decide_eq_true h1]
  go_enter Tryz.func7, Tryz.ntmps7
  go_wp2
  go_ret
  exact ⟨rfl, hbn⟩
 have d1 : decide ((40 : Int) < (pn : Int)) = false := decide_eq_false (by omega)
 rw [decide_eq_false h1]
 by_cases h2 : 10 < im
 ·have d2 : decide ((10 : Int) < (im : Int)) = true := decide_eq_true (by omega)
  rw [decide_eq_true h2]
  go_enter Tryz.func7, Tryz.ntmps7
  go_wp2
  go_ret
  exact ⟨rfl, hbn⟩
 have d2 : decide ((10 : Int) < (im : Int)) = false := decide_eq_false (by omega)
 rw [decide_eq_false h2]
 by_cases h3 : 2000 < tn
 ·have d3 : decide ((2000 : Int) < (tn : Int)) = true := decide_eq_true (by omega)
  rw [decide_eq_true h3]
  go_enter Tryz.func7, Tryz.ntmps7
  go_wp2
  go_ret
  exact ⟨rfl, hbn⟩
 have d3 : decide ((2000 : Int) < (tn : Int)) = false := decide_eq_false (by omega)
 rw [decide_eq_false h3]
 go_enter Tryz.func7, Tryz.ntmps7
 go_wp2
 go_ret
 exact ⟨rfl, hbn⟩
end
end Go.Proofs.YtkjpjegmanpbfaaGreatDoor.Emu
