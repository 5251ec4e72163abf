/- Part 42 of the proof that the card of EmuNone holds. -/
import Derived.Test.YtkjpjegmanpbfaaGreatDoorPN41
import Derived.Orders
import Derived.Test.YtkjpjegmanpbfaaGreatDoorPN33
set_option maxHeartbeats 16000000
set_option maxRecDepth 100000
namespace Go.Proofs.YtkjpjegmanpbfaaGreatDoor.Emu
open Go Go.RowKit Go.Proofs.YtkjpjegmanpbfaaGreatDoor.Com Go.Proofs.YtkjpjegmanpbfaaGreatDoor.Rw Go.Proofs.YtkjpjegmanpbfaaGreatDoor.Lns Go.Proofs.YtkjpjegmanpbfaaGreatDoor.Scn
section
variable {Z Z1 : Zn} {w w' : World} {t x s d b : Nat} {S : Scr} {T : Ter} {P : Pt} {v : Value} {l : List Int} {pa ia ta : Option Addr} {pn pc im ic tn tc : Nat} {k r pr f : Int}
theorem addr_zero (ad : Addr) : ad.add 0 = ad := by cases ad; rfl
theorem choose_any (h : TMx Z w t T P) (hl : l ≠ []) (hra : RA Z w ia l) (hfi : Fits .i32 l) (hff : (Lit.int .i32 f).wf = true) : Calls Tryz.prog 69 #[.pointer (some ⟨t, 0, none⟩), .agg #[.int .u8 k, .int .i32 r, .int .i32 pr, .slice pa pn pc, .slice ia l.length ic, .int .i32 f, .slice ta tn tc]] w (Does Z w t (choF T l f)) := by
 obtain ⟨r0, q, rfl⟩ : ∃ r0 q, l = r0 :: q := by
  cases l with
  | nil => exact absurd rfl hl
  | cons r0 q => exact ⟨r0, q, rfl⟩
 obtain ⟨ad, rfl, _, _⟩ := hra 0 r0 rfl
 have hx : ∀ w1, Below w.heap.size w w1 → w1.cell? ad = some (.int .i32 r0) := fun w1 hb => by
  obtain ⟨ad', e, _, hc⟩ := (hra.below hb) 0 r0 rfl
  obtain rfl : ad = ad' := by simpa using e
  rw [addr_zero] at hc
  exact hc
 have hr0 : (Lit.int .i32 r0).wf = true := hfi r0 (by simp)
 refine Calls.mono (choose_in h r0 hr0 hff (by simp) hx) fun e w' hd => ?_
 by_cases hq : (r0 :: q).length = 1
 ·rw [if_pos hq] at hd
  obtain rfl : q = [] := by cases q with | nil => rfl | cons => simp at hq
  exact hd
 ·rw [if_neg hq] at hd
  rw [choF_many hq]
  exact hd
theorem seq_inter (h : TMx Z w t T P) (him : 1 ≤ im) : Calls Tryz.prog 35 #[.pointer (some ⟨t, 0, none⟩), .agg #[.int .u8 k, .int .i32 r, .int .i32 pr, .slice pa pn pc, .slice ia im ic, .int .i32 f, .slice ta tn tc]] w (Does Z w t T) := by
 have hbn := below_new w (.cells #[.int .u8 k, .int .i32 r, .int .i32 pr, .slice pa pn pc, .slice ia im ic, .int .i32 f, .slice ta tn tc] 25)
 have hbx := Block.made w 25 #[.int .u8 k, .int .i32 r, .int .i32 pr, .slice pa pn pc, .slice ia im ic, .int .i32 f, .slice ta tn tc]
 have hip : (0 : Int) < (im : Int) := by omega
 have hip2 : 0 < im := him
 have hT := h.below hbn
 clear h
 go_enter Tryz.func35, Tryz.ntmps35
 go_upto_region 1 with (fail)
 generalize w.alloc (.cells #[.int .u8 k, .int .i32 r, .int .i32 pr, .slice pa pn pc, .slice ia im ic, .int .i32 f, .slice ta tn tc] 25) = w0 at hbn hbx hT ⊢
 have x4 := hbx.cell 4 (v := .slice ia im ic) rfl
 clear hbx
 go_wp2
 go_end0
 exact ⟨⟨_, rfl⟩, hT.tm, fr_below hbn⟩
theorem esc_inter (h : TMx Z w t T P) (hl : l ≠ []) (hra : RA Z w ia l) (hfi : Fits .i32 l) (hff : (Lit.int .i32 f).wf = true) : Calls Tryz.prog 34 #[.pointer (some ⟨t, 0, none⟩), .agg #[.int .u8 k, .int .i32 r, .int .i32 pr, .slice pa pn pc, .slice ia l.length ic, .int .i32 f, .slice ta tn tc]] w (Does Z w t (choF T l f)) := by
 have hbn := below_new w (.cells #[.int .u8 k, .int .i32 r, .int .i32 pr, .slice pa pn pc, .slice ia l.length ic, .int .i32 f, .slice ta tn tc] 25)
 have hbx := Block.made w 25 #[.int .u8 k, .int .i32 r, .int .i32 pr, .slice pa pn pc, .slice ia l.length ic, .int .i32 f, .slice ta tn tc]
 have him : 1 ≤ l.length := List.length_pos_iff.2 hl
 have hip : (0 : Int) < (l.length : Int) := by omega
 have hch := Lib.hid (choose_any (k := k) (r := r) (pr := pr) (pa := pa) (pn := pn) (pc := pc) (ic := ic) (ta := ta) (tn := tn) (tc := tc) (h.below hbn) hl (hra.below hbn) hfi hff)
 generalize choF T l f = T2 at hch ⊢
 generalize l.length = im at *
 clear h hra hfi hl
 go_enter Tryz.func34, Tryz.ntmps34
 go_upto_region 1 with (fail)
 generalize w.alloc (.cells #[.int .u8 k, .int .i32 r, .int .i32 pr, .slice pa pn pc, .slice ia im ic, .int .i32 f, .slice ta tn tc] 25) = w0 at hbn hbx hch ⊢
 have x0 := hbx.cell 0 (v := .int .u8 k) rfl
 have x1 := hbx.cell 1 (v := .int .i32 r) rfl
 have x2 := hbx.cell 2 (v := .int .i32 pr) rfl
 have x3 := hbx.cell 3 (v := .slice pa pn pc) rfl
 have x4 := hbx.cell 4 (v := .slice ia im ic) rfl
 have x5 := hbx.cell 5 (v := .int .i32 f) rfl
 have x6 := hbx.cell 6 (v := .slice ta tn tc) rfl
 clear hbx
 go_wp2_with (first
  | (go_at_call 69; (with_reducible refine (hch.out).mono ?_); rintro e w3 ⟨⟨v3, rfl⟩, h3, hf3⟩))
 go_end0
 exact ⟨⟨_, rfl⟩, h3, (fr_below hbn).trans hf3⟩
theorem look_nil (n : Int) (hwf : (Lit.int .i32 n).wf = true) (w : World) : (Instr.lookup 132 (.map none) (.int .i32 n) false).run Tryz.prog w = .ok .nilFunc w := by
 have hz : (zeroValue 134).run Tryz.prog w = .ok .nilFunc w := mtCsi.zero w
 obtain ⟨k, hk⟩ := mtCsi.key n hwf
 rcases mtCsi.law.find w hk ([] : List MapEntry) (by simp) with ⟨h1, -⟩ | ⟨j, e0, h1, h2, -⟩
 ·simp [Instr.lookup, run_underlying mtCsi.und, mtCsi.law.check w _ hk, h1, hz, Result.andThen]
 ·simp at h2
theorem seq_other (h : TMx Z w t T P) (h0 : pr ≠ 0) (h1 : pr ≠ 63) (hff : (Lit.int .i32 f).wf = true) : Calls Tryz.prog 35 #[.pointer (some ⟨t, 0, none⟩), .agg #[.int .u8 k, .int .i32 r, .int .i32 pr, .slice pa pn pc, .slice ia 0 ic, .int .i32 f, .slice ta tn tc]] w (Does Z w t T) := by
 have hbn := below_new w (.cells #[.int .u8 k, .int .i32 r, .int .i32 pr, .slice pa pn pc, .slice ia 0 ic, .int .i32 f, .slice ta tn tc] 25)
 have hbx := Block.made w 25 #[.int .u8 k, .int .i32 r, .int .i32 pr, .slice pa pn pc, .slice ia 0 ic, .int .i32 f, .slice ta tn tc]
 have hd0 : (pr == 0) = false := by simpa using h0
 have he0 : decide (pr = 0) = false := decide_eq_false h0
 have hd1 : (pr == 63) = false := by simpa using h1
 have he1 : decide (pr = 63) = false := decide_eq_false h1
 have hneqn := neqn_csi
 have hT := h.below hbn
 clear h
 go_enter Tryz.func35, Tryz.ntmps35
 go_upto_region 1 with (fail)
 generalize w.alloc (.cells #[.int .u8 k, .int .i32 r, .int .i32 pr, .slice pa pn pc, .slice ia 0 ic, .int .i32 f, .slice ta tn tc] 25) = w0 at hbn hbx hT ⊢
 have x4 := hbx.cell 4 (v := .slice ia 0 ic) rfl
 have x2 := hbx.cell 2 (v := .int .i32 pr) rfl
 have x5 := hbx.cell 5 (v := .int .i32 f) rfl
 have hlk := look_nil f hff w0
 clear hbx
 go_wp2
 go_end0
 exact ⟨⟨_, rfl⟩, hT.tm, fr_below hbn⟩
end
section
variable {Z Z1 : Zn} {w w' : World} {t s d b : Nat} {x : AcT} {S : Scr} {T : Ter} {P : Pt} {v : Value} {l : List Int} {pa ia ta : Option Addr} {pn pc im ic tn tc : Nat} {k r pr f : Int}
theorem neq_kin (f : FuncId) (w : World) : (binOp .neq 91 (.func (.func f) #[] #[]) .nilFunc).run Tryz.prog w = .ok (.bool true) w := by kernel_rfl
theorem neqn_kin (w : World) : (binOp .neq 91 .nilFunc .nilFunc).run Tryz.prog w = .ok (.bool false) w := by kernel_rfl
def kinL : List Ent := [(1, .func (.func 32) #[] #[]), (2, .func (.func 33) #[] #[]), (3, .func (.func 34) #[] #[]), (4, .func (.func 35) #[] #[])]
theorem kinL_none {n : Int} (h0 : n ≠ 1) (h1 : n ≠ 2) (h2 : n ≠ 3) (h3 : n ≠ 4) : findM kinL n = none := by
 simp [kinL, findM, h0, h1, h2, h3]
structure Roomy (T : Ter) (x : AcT) : Prop where
 jr : T.jr.length ≤ 88000
 pr : T.prints ≤ 999000
 rp : T.rp.length ≤ 1000000
 par : x.params.length ≤ 100
 nx : T.nx + 100 * T.main.L.length ≤ 990000
structure Wf (x : AcT) : Prop where
 kind : (Lit.int .u8 x.kind).wf = true
 r : (Lit.int .i32 x.r).wf = true
 fin : (Lit.int .i32 x.fin).wf = true
 inter : Fits .i32 x.inter
theorem roomy_nx (h : Roomy T x) : T.nx ≤ 990000 := by have := h.nx; omega
theorem roomy_par (h : Roomy T x) : T.nx + x.params.length * T.main.L.length ≤ 990000 := by
 have := h.nx
 have := Nat.mul_le_mul_right T.main.L.length h.par
 omega
theorem esc_any (h : TM Z w t T) (ok : Ok T) (hw : Wf x) (hR : Roomy T x) (hra : RA Z w ia x.inter) : Calls Tryz.prog 34 #[.pointer (some ⟨t, 0, none⟩), .agg #[.int .u8 x.kind, .int .i32 x.r, .int .i32 x.priv, .slice pa pn pc, .slice ia x.inter.length ic, .int .i32 x.fin, .slice ta tn tc]] w (Does Z w t (escape T x)) := by
 have hj := hR.jr
 by_cases hi : x.inter = []
 ·have e : escape T x = escF T x.fin := by unfold escape; rw [if_pos hi]; rfl
  rw [e, hi]
  exact escape_go h ok (by omega) (roomy_nx hR) hw.fin
 ·have e : escape T x = choF T x.inter x.fin := by unfold escape; rw [if_neg hi]; rfl
  rw [e]
  obtain ⟨P, h⟩ := h
  exact esc_inter h hi hra hw.inter hw.fin
theorem seq_any (h : TM Z w t T) (ok : Ok T) (hw : Wf x) (hR : Roomy T x) (hp : NA Z w (.slice pa pn pc) x.params) : Calls Tryz.prog 35 #[.pointer (some ⟨t, 0, none⟩), .agg #[.int .u8 x.kind, .int .i32 x.r, .int .i32 x.priv, .slice pa pn pc, .slice ia x.inter.length ic, .int .i32 x.fin, .slice ta tn tc]] w (Does Z w t (sequence T x)) := by
 have hj := hR.jr
 have hpar := hR.par
 unfold sequence
 by_cases hi : x.inter = []
 ·rw [if_pos hi, hi]
  by_cases h0 : x.priv = 0
  ·rw [if_pos h0, h0]
   exact seq_plain h ok (by omega) (roomy_nx hR) hR.rp hp hw.fin
  ·rw [if_neg h0]
   by_cases h1 : x.priv = 63
   ·rw [if_pos h1, h1]
    exact seq_priv h ok (by omega) (roomy_par hR) hp hw.fin
   ·rw [if_neg h1]
    obtain ⟨P, h⟩ := h
    exact seq_other h h0 h1 hw.fin
 ·rw [if_neg hi]
  obtain ⟨P, h⟩ := h
  exact seq_inter h (List.length_pos_iff.2 hi)
theorem do_any (h : TM Z w t T) (ok : Ok T) (hw : Wf x) (hR : Roomy T x) (hp : NA Z w (.slice pa pn pc) x.params) (hra : RA Z w ia x.inter) : Calls Tryz.prog 25 #[.pointer (some ⟨t, 0, none⟩), .agg #[.int .u8 x.kind, .int .i32 x.r, .int .i32 x.priv, .slice pa pn pc, .slice ia x.inter.length ic, .int .i32 x.fin, .slice ta tn tc]] w (Does Z w t (doT T x)) := by
 obtain ⟨T2, hT2⟩ : ∃ T2, T2 = doT T x := ⟨_, rfl⟩
 rw [← hT2]
 replace hT2 := Lib.hid hT2
 have hbn := below_new w (.cells #[.int .u8 x.kind, .int .i32 x.r, .int .i32 x.priv, .slice pa pn pc, .slice ia x.inter.length ic, .int .i32 x.fin, .slice ta tn tc] 25)
 have hbx := Block.made w 25 #[.int .u8 x.kind, .int .i32 x.r, .int .i32 x.priv, .slice pa pn pc, .slice ia x.inter.length ic, .int .i32 x.fin, .slice ta tn tc]
 have hmm := @run_makeMap Tryz.prog
 have hneq := neq_kin
 have hneqn := neqn_kin
 go_enter Tryz.func25, Tryz.ntmps25
 go_upto_region 1 with (fail)
 generalize w.alloc (.cells #[.int .u8 x.kind, .int .i32 x.r, .int .i32 x.priv, .slice pa pn pc, .slice ia x.inter.length ic, .int .i32 x.fin, .slice ta tn tc] 25) = w0 at hbn hbx ⊢
 have hmp := MpN.made w0 .u8
 have hbm := below_new w0 (.map #[] 0)
 have hsz : (w0.alloc (.map #[] 0)).heap.size = w0.heap.size + 1 := by simp
 go_upto_region 2 with (refine upon_ent mtKinds hmp ?_ ?_ ?_; rfl; decide; clear hmp; intro wn hmp hon; replace hbm := hbm.trans (hon.below hbm.size (by simp)); clear hon)
 change MpN _ _ _ kinL at hmp
 clear hsz
 have hx9 := Block.only hbx (Only.of_below hbm []) (by simp)
 have x0 := hx9.cell 0 (v := .int .u8 x.kind) rfl
 have x1 := hx9.cell 1 (v := .int .i32 x.r) rfl
 have x2 := hx9.cell 2 (v := .int .i32 x.priv) rfl
 have x3 := hx9.cell 3 (v := .slice pa pn pc) rfl
 have x4 := hx9.cell 4 (v := .slice ia x.inter.length ic) rfl
 have x5 := hx9.cell 5 (v := .int .i32 x.fin) rfl
 have x6 := hx9.cell 6 (v := .slice ta tn tc) rfl
 have hlk0 := (lookM mtKinds hmp x.kind hw.kind).1
 have hb := below_next hbn hbm
 have hT := h.below hb
 have hf0 : Scn.Fr Z TT w wn := Scn.Fr.of_below hb
 have hp9 := hp.below hb
 have hra9 := hra.below hb
 have hj := hR.jr
 have hpr := hR.pr
 clear hmp hbm hbn hbx hmm h hb hx9 hp hra
 by_cases e0 : x.kind = 1
 ·have hc := print_any (k := x.kind) (r := x.r) (pr := x.priv) (pa := pa) (pn := pn) (pc := pc) (ia := ia) (im := x.inter.length) (ic := ic) (f := x.fin) (ta := ta) (tn := tn) (tc := tc) hT ok (by omega) (by omega) (roomy_nx hR)
  rw [show printT T x.r = doT T x by simp [doT, e0], ← hT2.out, e0] at hc
  rw [e0] at hlk0 x0
  have hlk : (Instr.lookup 92 (.map (some w0.heap.size)) (.int .u8 1) false).run Tryz.prog wn = .ok (.func (.func 32) #[] #[]) wn := hlk0
  replace hc := Lib.hid hc
  generalize x.inter.length = im at *
  generalize x.fin = f at *
  generalize x.r = r at *
  generalize x.priv = pr at *
  clear hT2 hT ok hlk0 hw hR hp9 hra9 hj hpr e0
  go_wp2_with (first
   | (go_at_call 32; (with_reducible refine (hc.out).mono ?_); rintro e w3 ⟨⟨v3, rfl⟩, h3, hf3⟩))
  go_end0
  exact ⟨⟨_, rfl⟩, h3, hf0.trans hf3⟩
 by_cases e1 : x.kind = 2
 ·have hc := control_go (k := x.kind) (r := x.r) (pr := x.priv) (pa := pa) (pn := pn) (pc := pc) (ia := ia) (im := x.inter.length) (ic := ic) (f := x.fin) (ta := ta) (tn := tn) (tc := tc) hT ok (by omega) (roomy_nx hR) hw.r
  rw [show control T x.r = doT T x by simp [doT, e1], ← hT2.out, e1] at hc
  rw [e1] at hlk0 x0
  have hlk : (Instr.lookup 92 (.map (some w0.heap.size)) (.int .u8 2) false).run Tryz.prog wn = .ok (.func (.func 33) #[] #[]) wn := hlk0
  replace hc := Lib.hid hc
  generalize x.inter.length = im at *
  generalize x.fin = f at *
  generalize x.r = r at *
  generalize x.priv = pr at *
  clear hT2 hT ok hlk0 hw hR hp9 hra9 hj hpr e1 e0
  go_wp2_with (first
   | (go_at_call 33; (with_reducible refine (hc.out).mono ?_); rintro e w3 ⟨⟨v3, rfl⟩, h3, hf3⟩))
  go_end0
  exact ⟨⟨_, rfl⟩, h3, hf0.trans hf3⟩
 by_cases e2 : x.kind = 3
 ·have hc := esc_any (pa := pa) (pn := pn) (pc := pc) (ia := ia) (ic := ic) (ta := ta) (tn := tn) (tc := tc) hT ok hw hR hra9
  rw [show escape T x = doT T x by simp [doT, e2], ← hT2.out, e2] at hc
  rw [e2] at hlk0 x0
  have hlk : (Instr.lookup 92 (.map (some w0.heap.size)) (.int .u8 3) false).run Tryz.prog wn = .ok (.func (.func 34) #[] #[]) wn := hlk0
  replace hc := Lib.hid hc
  generalize x.inter.length = im at *
  generalize x.fin = f at *
  generalize x.r = r at *
  generalize x.priv = pr at *
  clear hT2 hT ok hlk0 hw hR hp9 hra9 hj hpr e2 e0 e1
  go_wp2_with (first
   | (go_at_call 34; (with_reducible refine (hc.out).mono ?_); rintro e w3 ⟨⟨v3, rfl⟩, h3, hf3⟩))
  go_end0
  exact ⟨⟨_, rfl⟩, h3, hf0.trans hf3⟩
 by_cases e3 : x.kind = 4
 ·have hc := seq_any (pa := pa) (pn := pn) (pc := pc) (ia := ia) (ic := ic) (ta := ta) (tn := tn) (tc := tc) hT ok hw hR hp9
  rw [show sequence T x = doT T x by simp [doT, e3], ← hT2.out, e3] at hc
  rw [e3] at hlk0 x0
  have hlk : (Instr.lookup 92 (.map (some w0.heap.size)) (.int .u8 4) false).run Tryz.prog wn = .ok (.func (.func 35) #[] #[]) wn := hlk0
  replace hc := Lib.hid hc
  generalize x.inter.length = im at *
  generalize x.fin = f at *
  generalize x.r = r at *
  generalize x.priv = pr at *
  clear hT2 hT ok hlk0 hw hR hp9 hra9 hj hpr e3 e0 e1 e2
  go_wp2_with (first
   | (go_at_call 35; (with_reducible refine (hc.out).mono ?_); rintro e w3 ⟨⟨v3, rfl⟩, h3, hf3⟩))
  go_end0
  exact ⟨⟨_, rfl⟩, h3, hf0.trans hf3⟩
 have he : T2 = T := by rw [hT2.out]; simp [doT, e0, e1, e2, e3]
 subst he
 have hlk : (Instr.lookup 92 (.map (some w0.heap.size)) (.int .u8 x.kind) false).run Tryz.prog wn = .ok .nilFunc wn := by
  rw [hlk0, kinL_none e0 e1 e2 e3]
  rfl
 clear hT2 ok hlk0 hw hR hp9 hra9 hj hpr e0 e1 e2 e3
 generalize x.inter.length = im at *
 generalize x.kind = k at *
 go_wp2
 go_end0
 exact ⟨⟨_, rfl⟩, hT, hf0⟩
end
def NoT (w : World) (v : Value) : Prop := v = .pointer none ∨ ∃ d, v = .pointer (some ⟨d, 0, none⟩) ∧ Block w d 30 #[.pointer none]
section
variable {w w' : World} {v : Value} {pa ia ta : Option Addr} {pn pc im ic tn tc : Nat} {k r pr f : Int}
theorem NoT.below (h : NoT w v) (hb : Below w.heap.size w w') : NoT w' v := h.imp id fun ⟨d, e, hB⟩ => ⟨d, e, Block.only hB (Only.of_below hb []) (by simp)⟩
theorem isMade_no (h : NoT w v) : Calls Tryz.prog 24 #[v] w fun e w' => e = .returned (.bool false) ∧ w = w' := by
 rcases h with rfl | ⟨d, rfl, hB⟩
 ·go_enter Tryz.func24, Tryz.ntmps24
  go_wp2
  go_ret
  exact ⟨rfl, rfl⟩
 ·have c0 := hB.cell 0 (v := .pointer none) rfl
  clear hB
  go_enter Tryz.func24, Tryz.ntmps24
  go_wp2
  go_ret
  exact ⟨rfl, rfl⟩
theorem tdo_no (h : NoT w v) : Calls Tryz.prog 9 #[v, .agg #[.int .u8 k, .int .i32 r, .int .i32 pr, .slice pa pn pc, .slice ia im ic, .int .i32 f, .slice ta tn tc]] w fun e w' => e = .returned (.int .i64 1) ∧ Below w.heap.size w w' := by
 have hbn := below_new w (.cells #[.int .u8 k, .int .i32 r, .int .i32 pr, .slice pa pn pc, .slice ia im ic, .int .i32 f, .slice ta tn tc] 25)
 have hm := Lib.hid (isMade_no (h.below hbn))
 clear h
 go_enter Tryz.func9, Tryz.ntmps9
 go_wp2_with ((go_at_call 24; (with_reducible refine (hm.out).mono ?_); rintro e w1 ⟨rfl, rfl⟩))
 go_ret
 exact ⟨rfl, hbn⟩
theorem tres_no (h : NoT w v) (a b : Int) : Calls Tryz.prog 10 #[v, .int .i64 a, .int .i64 b] w fun e w' => e = .returned (.int .i64 1) ∧ w = w' := by
 have hm := Lib.hid (isMade_no h)
 clear h
 go_enter Tryz.func10, Tryz.ntmps10
 go_wp2_with ((go_at_call 24; (with_reducible refine (hm.out).mono ?_); rintro e w1 ⟨rfl, rfl⟩))
 go_ret
 exact ⟨rfl, rfl⟩
theorem tback_no (h : NoT w v) : Calls Tryz.prog 14 #[v] w fun e w' => e = .returned (.slice none 0 0) ∧ w = w' := by
 have hm := Lib.hid (isMade_no h)
 clear h
 go_enter Tryz.func14, Tryz.ntmps14
 go_wp2_with ((go_at_call 24; (with_reducible refine (hm.out).mono ?_); rintro e w1 ⟨rfl, rfl⟩))
 go_ret
 exact ⟨rfl, rfl⟩
theorem tjour_no (h : NoT w v) : Calls Tryz.prog 15 #[v] w fun e w' => e = .returned (.slice none 0 0) ∧ w = w' := by
 have hm := Lib.hid (isMade_no h)
 clear h
 go_enter Tryz.func15, Tryz.ntmps15
 go_wp2_with ((go_at_call 24; (with_reducible refine (hm.out).mono ?_); rintro e w1 ⟨rfl, rfl⟩))
 go_ret
 exact ⟨rfl, rfl⟩
theorem trepl_no (h : NoT w v) : Calls Tryz.prog 16 #[v] w fun e w' => e = .returned (.slice none 0 0) ∧ w = w' := by
 have hm := Lib.hid (isMade_no h)
 clear h
 go_enter Tryz.func16, Tryz.ntmps16
 go_wp2_with ((go_at_call 24; (with_reducible refine (hm.out).mono ?_); rintro e w1 ⟨rfl, rfl⟩))
 go_ret
 exact ⟨rfl, rfl⟩
theorem tprin_no (h : NoT w v) : Calls Tryz.prog 17 #[v] w fun e w' => e = .returned (.int .u64 0) ∧ w = w' := by
 have hm := Lib.hid (isMade_no h)
 clear h
 go_enter Tryz.func17, Tryz.ntmps17
 go_wp2_with ((go_at_call 24; (with_reducible refine (hm.out).mono ?_); rintro e w1 ⟨rfl, rfl⟩))
 go_ret
 exact ⟨rfl, rfl⟩
theorem tgrid_no (h : NoT w v) : Calls Tryz.prog 12 #[v] w fun e w' => e = .returned (.agg #[.slice none 0 0, .slice none 0 0, .int .i64 0, .int .i64 0, .bool false, .bool false, .bool false, .int .i64 0, .int .i64 0, .int .u32 0, .int .u32 0, .int .u16 0]) ∧ Below w.heap.size w w' := by
 have hbn := below_new w (.cells #[.slice none 0 0, .slice none 0 0, .int .i64 0, .int .i64 0, .bool false, .bool false, .bool false, .int .i64 0, .int .i64 0, .int .u32 0, .int .u32 0, .int .u16 0] 43)
 have hbx := Block.made w 43 #[.slice none 0 0, .slice none 0 0, .int .i64 0, .int .i64 0, .bool false, .bool false, .bool false, .int .i64 0, .int .i64 0, .int .u32 0, .int .u32 0, .int .u16 0]
 have hinf : (Tryz.prog.info? 43).map (·.size) = some (#[.slice none 0 0, .slice none 0 0, .int .i64 0, .int .i64 0, .bool false, .bool false, .bool false, .int .i64 0, .int .i64 0, .int .u32 0, .int .u32 0, .int .u16 0] : Array Value).size := by kernel_rfl
 have hm := Lib.hid (isMade_no (h.below hbn))
 clear h
 go_enter Tryz.func12, Tryz.ntmps12
 go_wp2_with ((go_at_call 24; (with_reducible refine (hm.out).mono ?_); rintro e w1 ⟨rfl, rfl⟩))
 exact bodyPost_ret (results_cell_row rfl _ _ _ _ _ _ _ rfl hbx Tryz.underlying43 rfl hinf) rfl ⟨rfl, hbn⟩
theorem tmods_no (h : NoT w v) : Calls Tryz.prog 13 #[v] w fun e w' => e = .returned (.agg #[.bool false, .bool false, .bool false, .bool false, .bool false, .bool false, .bool false, .bool false]) ∧ Below w.heap.size w w' := by
 have hbn := below_new w (.cells #[.bool false, .bool false, .bool false, .bool false, .bool false, .bool false, .bool false, .bool false] 46)
 have hbx := Block.made w 46 #[.bool false, .bool false, .bool false, .bool false, .bool false, .bool false, .bool false, .bool false]
 have hinf : (Tryz.prog.info? 46).map (·.size) = some (#[.bool false, .bool false, .bool false, .bool false, .bool false, .bool false, .bool false, .bool false] : Array Value).size := by kernel_rfl
 have hm := Lib.hid (isMade_no (h.below hbn))
 clear h
 go_enter Tryz.func13, Tryz.ntmps13
 go_wp2_with ((go_at_call 24; (with_reducible refine (hm.out).mono ?_); rintro e w1 ⟨rfl, rfl⟩))
 exact bodyPost_ret (results_cell_row rfl _ _ _ _ _ _ _ rfl hbx Tryz.underlying46 rfl hinf) rfl ⟨rfl, hbn⟩
end
section
variable {w w' : World}
def base0 (most : Nat) : Ter := ⟨Mds.none0, cur0, pen0, 1, most, [], ⟨0, 0, 0, [], sav0⟩, none, 0, fun _ => false, 0, ev0, [], []⟩
def termZ (s : Nat) : Array Value := #[.bool false, .bool false, .bool false, .bool false, .bool false, .bool false, .bool false, .bool false, .int .i64 0, .int .i64 0, .bool false, .int .u32 0, .int .u32 0, .int .u16 0, .int .u8 0, .int .u8 0, .int .i64 0, .pointer (some ⟨s, 0, none⟩), .pointer none, .pointer none, .pointer none, .int .u64 0,
 .int .u8 0, .int .u64 0, .int .i64 0, .int .i64 0, .bool false, .int .i32 0, .bool false, .bool false, .bool false, .bool false, .slice none 0 0, .slice none 0 0]
theorem termZ_eq (s most : Nat) : termZ s = terB (base0 most) s (.pointer none) (.pointer none) (.pointer none) (.slice none 0 0) (.slice none 0 0) := by kernel_rfl
def Newly (w : World) (T : Ter) (e : Ending) (w' : World) : Prop := ∃ d t, e = .returned (.tuple #[.pointer (some ⟨d, 0, none⟩), .int .i64 0]) ∧ w.heap.size ≤ d ∧ Block w' d 30 #[.pointer (some ⟨t, 0, none⟩)] ∧ TM (fun k => w.heap.size ≤ k) w' t T ∧ Below w.heap.size w w'
theorem sx_zero {B s nx most : Nat} {sv : Value} {R : List En} (h : SX B w s nx most sv R) : SX 0 w s nx most sv R := by
 obtain ⟨⟨o, P, h0, hR⟩, hg⟩ := h
 refine ⟨⟨o, P, ⟨h0.blk, ⟨h0.own.1, ?_⟩, h0.le, h0.old, h0.olt, h0.most, h0.pos, h0.small, Nat.zero_le _⟩, hR⟩, fun e he => ?_⟩
 ·rcases h0.own.2 with h2 | ⟨g, cap, cur, e, _, r⟩
  ·exact .inl h2
  ·exact .inr ⟨g, cap, cur, e, Nat.zero_le _, r⟩
 ·obtain ⟨g1, _, _, g4⟩ := hg e he
  exact ⟨g1, Nat.zero_le _, Nat.zero_le _, g4⟩
theorem tnew_yes (hT : Tbl w) (rows cols most : Nat) (hr1 : 1 ≤ rows) (hr5 : rows ≤ 512) (hc1 : 1 ≤ cols) (hc5 : cols ≤ 512) (hm : most ≤ 10000) : Calls Tryz.prog 18 #[.int .i64 rows, .int .i64 cols, .int .i64 most] w (Newly w (newT rows cols most)) := by
 have hln := Lib.hid (new_yes most hm w)
 have hbg : Hid (∀ w1, SX w.heap.size w1 w.heap.size 1 most (.slice none 0 0) [] → Below w.heap.size w w1 → Calls Tryz.prog 31 #[.pointer (some ⟨w1.heap.size, 0, none⟩), .int .i64 rows, .int .i64 cols] (w1.alloc (.cells (termZ w.heap.size) 88)) fun e w' => e = .returned (.int .i64 0) ∧ TM (fun k => w.heap.size ≤ k) w' w1.heap.size (newT rows cols most) ∧ Below w.heap.size w w') := Lib.hid fun w1 hs hb => by
  have hba := below_new w1 (.cells (termZ w.heap.size) 88)
  have hb2 := below_next hb hba
  have hbl := Block.made w1 88 (termZ w.heap.size)
  rw [termZ_eq w.heap.size most] at hbl
  have hsz := hb.size
  have h6 := hT.1
  have hbare : Bare (fun k => w.heap.size ≤ k) (w1.alloc (.cells (termZ w.heap.size) 88)) w1.heap.size (base0 most) w.heap.size (.slice none 0 0) (.slice none 0 0) (.pointer none) (.pointer none) (.pointer none) :=
   ⟨by rw [termZ_eq w.heap.size most]; exact hbl, World.ownsRow_nil _ _ _ _, Kys.Row.nil _ _ _, hsz, fun g hg => (by cases hg), fun g hg => (by cases hg), fun k hk => Nat.le_trans hb2.size hk, fun k hk hz => (by omega), hT.below hb2⟩
  have hsto : Sto (fun k => w.heap.size ≤ k) (w1.alloc (.cells (termZ w.heap.size) 88)) w.heap.size 1 most (.slice none 0 0) [] :=
   ⟨(sx_zero hs).below hba, ⟨Nat.le_refl _, fun g hg => (by cases hg), fun e he => (by cases he), fun k hk => Nat.le_trans hb2.size hk⟩, by simp, by simp⟩
  refine (begin_any (T := base0 most) hbare hsto rows cols hr1 hr5 hc1 hc5 (by show 1 + 512 ≤ 1000000; omega)).mono fun e w' ⟨he, h1, hf⟩ => ⟨he, h1, ?_⟩
  exact ⟨hf.os.trans hb2.os, hf.tape.trans hb2.tape, hf.output.trans hb2.output, Nat.le_trans hb2.size hf.size, fun k hk => (hf.block k (Nat.lt_of_lt_of_le hk hb2.size) (.inl (by omega))).trans (hb2.block k hk)⟩
 simp only [termZ] at hbg
 generalize newT rows cols most = T at hbg ⊢
 clear hT
 go_enter Tryz.func18, Tryz.ntmps18
 go_wp2_with (first
  | (go_at_call 30; (with_reducible refine (hln.out).mono ?_); rintro e w1 ⟨rfl, hs, hb1⟩)
  | (go_at_call 31; (with_reducible refine (hbg.out _ hs hb1).mono ?_); rintro e w3 ⟨rfl, h3, hb3⟩))
 have hb4 := below_new w3 (.cells #[.pointer (some ⟨w1.heap.size, 0, none⟩)] 30)
 go_ret2
 exact ⟨_, _, rfl, hb3.size, Block.made w3 30 #[.pointer (some ⟨w1.heap.size, 0, none⟩)], h3.below hb4, below_next hb3 hb4⟩
end
structure TV (Z : Zn) (w : World) (d t : Nat) (T : Ter) : Prop where
 blk : Block w d 30 #[.pointer (some ⟨t, 0, none⟩)]
 tm : TM Z w t T
section
variable {Z : Zn} {w w' : World} {d t : Nat} {T : Ter} {x : AcT} {pa ia ta : Option Addr} {pn pc ic tn tc : Nat}
theorem TV.below (h : TV Z w d t T) (hb : Below w.heap.size w w') : TV Z w' d t T := ⟨Block.only h.blk (Only.of_below hb []) (by simp), h.tm.below hb⟩
theorem TV.turn {T' : Ter} (h : TV Z w d t T) (h1 : TM Z w' t T') (hf : Scn.Fr Z TT w w') : TV Z w' d t T' := ⟨Scn.Block.fr h.blk hf (.inl (by decide)), h1⟩
theorem isMade_yes (h : TV Z w d t T) : Calls Tryz.prog 24 #[.pointer (some ⟨d, 0, none⟩)] w fun e w' => e = .returned (.bool true) ∧ w = w' := by
 have c0 := h.blk.cell 0 (v := .pointer (some ⟨t, 0, none⟩)) rfl
 clear h
 go_enter Tryz.func24, Tryz.ntmps24
 go_wp2
 go_ret
 exact ⟨rfl, rfl⟩
theorem tdo_any (h : TV Z w d t T) (ok : Ok T) (hw : Wf x) (hR : Roomy T x) (hp : NA Z w (.slice pa pn pc) x.params) (hra : RA Z w ia x.inter) : Calls Tryz.prog 9 #[.pointer (some ⟨d, 0, none⟩), .agg #[.int .u8 x.kind, .int .i32 x.r, .int .i32 x.priv, .slice pa pn pc, .slice ia x.inter.length ic, .int .i32 x.fin, .slice ta tn tc]] w fun e w' => e = .returned (.int .i64 0) ∧ TV Z w' d t (doT T x) ∧ Scn.Fr Z TT w w' := by
 have hbn := below_new w (.cells #[.int .u8 x.kind, .int .i32 x.r, .int .i32 x.priv, .slice pa pn pc, .slice ia x.inter.length ic, .int .i32 x.fin, .slice ta tn tc] 25)
 have hbx := Block.made w 25 #[.int .u8 x.kind, .int .i32 x.r, .int .i32 x.priv, .slice pa pn pc, .slice ia x.inter.length ic, .int .i32 x.fin, .slice ta tn tc]
 have hm := Lib.hid (isMade_yes (h.below hbn))
 have hdo := Lib.hid (fun w1 (hb : Below w.heap.size w w1) => do_any (pa := pa) (pn := pn) (pc := pc) (ia := ia) (ic := ic) (ta := ta) (tn := tn) (tc := tc) (h.below hb).tm ok hw hR (hp.below hb) (hra.below hb))
 have hcd := Lib.hid (fun w1 (hb : Below w.heap.size w w1) => (h.below hb).blk.cell 0 (v := .pointer (some ⟨t, 0, none⟩)) rfl)
 have hend := Lib.hid (fun w1 w2 (hb : Below w.heap.size w w1) (h2 : TM Z w2 t (doT T x)) (hf : Scn.Fr Z TT w1 w2) => (⟨(h.below hb).turn h2 hf, (Scn.Fr.of_below hb).trans hf⟩ : TV Z w2 d t (doT T x) ∧ Scn.Fr Z TT w w2))
 generalize doT T x = T2 at hdo hend ⊢
 generalize x.inter.length = im at *
 generalize x.fin = f at *
 generalize x.r = r at *
 generalize x.priv = pr at *
 generalize x.kind = k at *
 clear h ok hw hR hp hra
 go_enter Tryz.func9, Tryz.ntmps9
 go_upto_region 1 with (fail)
 generalize w.alloc (.cells #[.int .u8 k, .int .i32 r, .int .i32 pr, .slice pa pn pc, .slice ia im ic, .int .i32 f, .slice ta tn tc] 25) = w0 at hbn hbx hm ⊢
 have hxk := fun k' : Eqt.Ext w0 => Block.only hbx (Only.of_below k'.below []) (by simp)
 have x0 := fun k' : Eqt.Ext w0 => (hxk k').cell 0 (v := .int .u8 k) rfl
 have x1 := fun k' : Eqt.Ext w0 => (hxk k').cell 1 (v := .int .i32 r) rfl
 have x2 := fun k' : Eqt.Ext w0 => (hxk k').cell 2 (v := .int .i32 pr) rfl
 have x3 := fun k' : Eqt.Ext w0 => (hxk k').cell 3 (v := .slice pa pn pc) rfl
 have x4 := fun k' : Eqt.Ext w0 => (hxk k').cell 4 (v := .slice ia im ic) rfl
 have x5 := fun k' : Eqt.Ext w0 => (hxk k').cell 5 (v := .int .i32 f) rfl
 have x6 := fun k' : Eqt.Ext w0 => (hxk k').cell 6 (v := .slice ta tn tc) rfl
 have cd := fun k' : Eqt.Ext w0 => hcd.out _ (below_next hbn k'.below)
 clear hbx hxk
 go_wp2_with ((go_at_call 24; (with_reducible refine (hm.out).mono ?_); rintro e w1 ⟨rfl, rfl⟩))
 refine Eqt.region_ext_tail 5 (by kernel_rfl) (by kernel_rfl) ?_
 simp only [List.take_succ_cons, List.take_zero, List.drop_succ_cons, List.drop_zero]
 repeat (go_big_quiet_step (fail))
 refine wpQuiet_nil ?_
 intro w9 hw9
 obtain ⟨k9, rfl⟩ := hw9
 have hb9 := k9.below
 generalize k9.w = w9 at hb9 ⊢
 have hb := below_next hbn hb9
 go_wp2_with ((go_at_call 25; (with_reducible refine (hdo.out _ hb).mono ?_); rintro e w3 ⟨⟨v3, rfl⟩, h3, hf3⟩))
 go_ret
 exact ⟨rfl, hend.out _ _ hb h3 hf3⟩
theorem tprints_any (h : TV Z w d t T) : Calls Tryz.prog 17 #[.pointer (some ⟨d, 0, none⟩)] w fun e w' => e = .returned (.int .u64 T.prints) ∧ w = w' := by
 have hm := Lib.hid (isMade_yes h)
 have c0 := h.blk.cell 0 (v := .pointer (some ⟨t, 0, none⟩)) rfl
 obtain ⟨P, hT⟩ := h.tm
 have c21 := hT.c21
 clear h hT
 go_enter Tryz.func17, Tryz.ntmps17
 go_wp2_with ((go_at_call 24; (with_reducible refine (hm.out).mono ?_); rintro e w1 ⟨rfl, rfl⟩))
 go_ret
 exact ⟨rfl, rfl⟩
end
end Go.Proofs.YtkjpjegmanpbfaaGreatDoor.Emu
