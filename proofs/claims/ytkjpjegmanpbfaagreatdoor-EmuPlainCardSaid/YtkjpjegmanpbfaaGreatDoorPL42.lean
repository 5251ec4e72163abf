/- Part 42 of the proof that the card of EmuPlain holds. -/
import Derived.Test.YtkjpjegmanpbfaaGreatDoorPL41
set_option maxHeartbeats 16000000
set_option maxRecDepth 100000
namespace Go.Proofs.YtkjpjegmanpbfaaGreatDoor.Emu
open Go Go.RowKit Go.Proofs.YtkjpjegmanpbfaaGreatDoor.Com Go.Proofs.YtkjpjegmanpbfaaGreatDoor.Rw Go.Proofs.YtkjpjegmanpbfaaGreatDoor.Lns Go.Proofs.YtkjpjegmanpbfaaGreatDoor.Scn
section
variable {Z Z1 : Zn} {w w' : World} {t x s d b : Nat} {S : Scr} {T : Ter} {P : Pt} {v : Value} {l : List Int} {pa ia ta : Option Addr} {pn pc im ic tn tc : Nat} {k r pr f : Int}
theorem addr_zero (ad : Addr) : ad.add 0 = ad := by cases ad; rfl
theorem choose_any (h : TMx Z w t T P) (hl : l ≠ []) (hra : RA Z w ia l) (hfi : Fits .i32 l) (hff : (Lit.int .i32 f).wf = true) : Calls Tryz.prog 69 #[.pointer (some ⟨t, 0, none⟩), .agg #[.int .u8 k, .int .i32 r, .int .i32 pr, .slice pa pn pc, .slice ia l.length ic, .int .i32 f, .slice ta tn tc]] w (Does Z w t (choF T l f)) := by
 obtain ⟨r0, q, rfl⟩ : ∃ r0 q, l = r0 :: q := by
  cases l with
  | nil => exact absurd rfl hl
  | cons r0 q => exact ⟨r0, q, rfl⟩
 obtain ⟨ad, rfl, _, _⟩ := hra 0 r0 rfl
 have hx : ∀ w1, Below w.heap.size w w1 → w1.cell? ad = some (.int .i32 r0) := fun w1 hb => by
  obtain ⟨ad', e, _, hc⟩ := (hra.below hb) 0 r0 rfl
  obtain rfl : ad = ad' := by simpa using e
  rw [addr_zero] at hc
  exact hc
 have hr0 : (Lit.int .i32 r0).wf = true := hfi r0 (by simp)
 refine Calls.mono (choose_in h r0 hr0 hff (by simp) hx) fun e w' hd => ?_
 by_cases hq : (r0 :: q).length = 1
 ·rw [if_pos hq] at hd
  obtain rfl : q = [] := by cases q with | nil => rfl | cons => simp at hq
  exact hd
 ·rw [if_neg hq] at hd
  rw [choF_many hq]
  exact hd
theorem seq_inter (h : TMx Z w t T P) (him : 1 ≤ im) : Calls Tryz.prog 35 #[.pointer (some ⟨t, 0, none⟩), .agg #[.int .u8 k, .int .i32 r, .int .i32 pr, .slice pa pn pc, .slice ia im ic, .int .i32 f, .slice ta tn tc]] w (Does Z w t T) := by
 have hbn := below_new w (.cells #[.int .u8 k, .int .i32 r, .int .i32 pr, .slice pa pn pc, .slice ia im ic, .int .i32 f, .slice ta tn tc] 25)
 have hbx := Block.made w 25 #[.int .u8 k, .int .i32 r, .int .i32 pr, .slice pa pn pc, .slice ia im ic, .int .i32 f, .slice ta tn tc]
 have hip : (0 : Int) < (im : Int) := by omega
 have hip2 : 0 < im := him
 have hT := h.below hbn
 clear h
 go_enter Tryz.func35, Tryz.ntmps35
 go_upto_region 1 with (fail)
 generalize w.alloc (.cells #[.int .u8 k, .int .i32 r, .int .i32 pr, .slice pa pn pc, .slice ia im ic, .int .i32 f, .slice ta tn tc] 25) = w0 at hbn hbx hT ⊢
 have x4 := hbx.cell 4 (v := .slice ia im ic) rfl
 clear hbx
 go_wp2
 go_end0
 exact ⟨⟨_, rfl⟩, hT.tm, fr_below hbn⟩
theorem esc_inter (h : TMx Z w t T P) (hl : l ≠ []) (hra : RA Z w ia l) (hfi : Fits .i32 l) (hff : (Lit.int .i32 f).wf = true) : Calls Tryz.prog 34 #[.pointer (some ⟨t, 0, none⟩), .agg #[.int .u8 k, .int .i32 r, .int .i32 pr, .slice pa pn pc, .slice ia l.length ic, .int .i32 f, .slice ta tn tc]] w (Does Z w t (choF T l f)) := by
 have hbn := below_new w (.cells #[.int .u8 k, .int .i32 r, .int .i32 pr, .slice pa pn pc, .slice ia l.length ic, .int .i32 f, .slice ta tn tc] 25)
 have hbx := Block.made w 25 #[.int .u8 k, .int .i32 r, .int .i32 pr, .slice pa pn pc, .slice ia l.length ic, .int .i32 f, .slice ta tn tc]
 have him : 1 ≤ l.length := List.length_pos_iff.2 hl
 have hip : (0 : Int) < (l.length : Int) := by omega
 have hch := Lib.hid (choose_any (k := k) (r := r) (pr := pr) (pa := pa) (pn := pn) (pc := pc) (ic := ic) (ta := ta) (tn := tn) (tc := tc) (h.below hbn) hl (hra.below hbn) hfi hff)
 generalize choF T l f = T2 at hch ⊢
 generalize l.length = im at *
 clear h hra hfi hl
 go_enter Tryz.func34, Tryz.ntmps34
 go_upto_region 1 with (fail)
 generalize w.alloc (.cells #[.int .u8 k, .int .i32 r, .int .i32 pr, .slice pa pn pc, .slice ia im ic, .int .i32 f, .slice ta tn tc] 25) = w0 at hbn hbx hch ⊢
 have x0 := hbx.cell 0 (v := .int .u8 k) rfl
 have x1 := hbx.cell 1 (v := .int .i32 r) rfl
 have x2 := hbx.cell 2 (v := .int .i32 pr) rfl
 have x3 := hbx.cell 3 (v := .slice pa pn pc) rfl
 have x4 := hbx.cell 4 (v := .slice ia im ic) rfl
 have x5 := hbx.cell 5 (v := .int .i32 f) rfl
 have x6 := hbx.cell 6 (v := .slice ta tn tc) rfl
 clear hbx
 go_wp2_with (first
  | (go_at_call 69; (with_reducible refine (hch.out).mono ?_); rintro e w3 ⟨⟨v3, rfl⟩, h3, hf3⟩))
 go_end0
 exact ⟨⟨_, rfl⟩, h3, (fr_below hbn).trans hf3⟩
theorem look_nil (n : Int) (hwf : (Lit.int .i32 n).wf = true) (w : World) : (Instr.lookup 132 (.map none) (.int .i32 n) false).run Tryz.prog w = .ok .nilFunc w := by
 have hz : (zeroValue 134).run Tryz.prog w = .ok .nilFunc w := mtCsi.zero w
 obtain ⟨k, hk⟩ := mtCsi.key n hwf
 rcases mtCsi.law.find w hk ([] : List MapEntry) (by simp) with ⟨h1, -⟩ | ⟨j, e0, h1, h2, -⟩
 ·simp [Instr.lookup, run_underlying mtCsi.und, mtCsi.law.check w _ hk, h1, hz, Result.andThen]
 ·simp at h2
theorem seq_other (h : TMx Z w t T P) (h0 : pr ≠ 0) (h1 : pr ≠ 63) (hff : (Lit.int .i32 f).wf = true) : Calls Tryz.prog 35 #[.pointer (some ⟨t, 0, none⟩), .agg #[.int .u8 k, .int .i32 r, .int .i32 pr, .slice pa pn pc, .slice ia 0 ic, .int .i32 f, .slice ta tn tc]] w (Does Z w t T) := by
 have hbn := below_new w (.cells #[.int .u8 k, .int .i32 r, .int .i32 pr, .slice pa pn pc, .slice ia 0 ic, .int .i32 f, .slice ta tn tc] 25)
 have hbx := Block.made w 25 #[.int .u8 k, .int .i32 r, .int .i32 pr, .slice pa pn pc, .slice ia 0 ic, .int .i32 f, .slice ta tn tc]
 have hd0 : (pr == 0) = false := by simpa using h0
 have he0 : decide (pr = 0) = false := decide_eq_false h0
 have hd1 : (pr == 63) = false := by simpa using h1
 have he1 : decide (pr = 63) = false := decide_eq_false h1
 have hneqn := neqn_csi
 have hT := h.below hbn
 clear h
 go_enter Tryz.func35, Tryz.ntmps35
 go_upto_region 1 with (fail)
 generalize w.alloc (.cells #[.int .u8 k, .int .i32 r, .int .i32 pr, .slice pa pn pc, .slice ia 0 ic, .int .i32 f, .slice ta tn tc] 25) = w0 at hbn hbx hT ⊢
 have x4 := hbx.cell 4 (v := .slice ia 0 ic) rfl
 have x2 := hbx.cell 2 (v := .int .i32 pr) rfl
 have x5 := hbx.cell 5 (v := .int .i32 f) rfl
 have hlk := look_nil f hff w0
 clear hbx
 go_wp2
 go_end0
 exact ⟨⟨_, rfl⟩, hT.tm, fr_below hbn⟩
end
section
variable {Z Z1 : Zn} {w w' : World} {t s d b : Nat} {x : AcT} {S : Scr} {T : Ter} {P : Pt} {v : Value} {l : List Int} {pa ia ta : Option Addr} {pn pc im ic tn tc : Nat} {k r pr f : Int}
theorem neq_kin (f : FuncId) (w : World) : (binOp .neq 91 (.func (.func f) #[] #[]) .nilFunc).run Tryz.prog w = .ok (.bool true) w := by kernel_rfl
theorem neqn_kin (w : World) : (binOp .neq 91 .nilFunc .nilFunc).run Tryz.prog w = .ok (.bool false) w := by kernel_rfl
def kinL : List Ent := [(1, .func (.func 32) #[] #[]), (2, .func (.func 33) #[] #[]), (3, .func (.func 34) #[] #[]), (4, .func (.func 35) #[] #[])]
theorem kinL_none {n : Int} (h0 : n ≠ 1) (h1 : n ≠ 2) (h2 : n ≠ 3) (h3 : n ≠ 4) : findM kinL n = none := by
 simp [kinL, findM, h0, h1, h2, h3]
structure Roomy (T : Ter) (x : AcT) : Prop where
 jr : T.jr.length ≤ 88000
 pr : T.prints ≤ 999000
 rp : T.rp.length ≤ 1000000
 par : x.params.length ≤ 100
 nx : T.nx + 100 * T.main.L.length ≤ 990000
structure Wf (x : AcT) : Prop where
 kind : (Lit.int .u8 x.kind).wf = true
 r : (Lit.int .i32 x.r).wf = true
 fin : (Lit.int .i32 x.fin).wf = true
 inter : Fits .i32 x.inter
theorem roomy_nx (h : Roomy T x) : T.nx ≤ 990000 := by have := h.nx; omega
theorem roomy_par (h : Roomy T x) : T.nx + x.params.length * T.main.L.length ≤ 990000 := by
 have := h.nx
 have := Nat.mul_le_mul_right T.main.L.length h.par
 omega
theorem esc_any (h : TM Z w t T) (ok : Ok T) (hw : Wf x) (hR : Roomy T x) (hra : RA Z w ia x.inter) : Calls Tryz.prog 34 #[.pointer (some ⟨t, 0, none⟩), .agg #[.int .u8 x.kind, .int .i32 x.r, .int .i32 x.priv, .slice pa pn pc, .slice ia x.inter.length ic, .int .i32 x.fin, .slice ta tn tc]] w (Does Z w t (escape T x)) := by
 have hj := hR.jr
 by_cases hi : x.inter = []
 ·have e : escape T x = escF T x.fin := by unfold escape; rw [if_pos hi]; rfl
  rw [e, hi]
  exact escape_go h ok (by omega) (roomy_nx hR) hw.fin
 ·have e : escape T x = choF T x.inter x.fin := by unfold escape; rw [if_neg hi]; rfl
  rw [e]
  obtain ⟨P, h⟩ := h
  exact esc_inter h hi hra hw.inter hw.fin
theorem seq_any (h : TM Z w t T) (ok : Ok T) (hw : Wf x) (hR : Roomy T x) (hp : NA Z w (.slice pa pn pc) x.params) : Calls Tryz.prog 35 #[.pointer (some ⟨t, 0, none⟩), .agg #[.int .u8 x.kind, .int .i32 x.r, .int .i32 x.priv, .slice pa pn pc, .slice ia x.inter.length ic, .int .i32 x.fin, .slice ta tn tc]] w (Does Z w t (sequence T x)) := by
 have hj := hR.jr
 have hpar := hR.par
 unfold sequence
 by_cases hi : x.inter = []
 ·rw [if_pos hi, hi]
  by_cases h0 : x.priv = 0
  ·rw [if_pos h0, h0]
   exact seq_plain h ok (by omega) (roomy_nx hR) hR.rp hp hw.fin
  ·rw [if_neg h0]
   by_cases h1 : x.priv = 63
   ·rw [if_pos h1, h1]
    exact seq_priv h ok (by omega) (roomy_par hR) hp hw.fin
   ·rw [if_neg h1]
    obtain ⟨P, h⟩ := h
    exact seq_other h h0 h1 hw.fin
 ·rw [if_neg hi]
  obtain ⟨P, h⟩ := h
  exact seq_inter h (List.length_pos_iff.2 hi)
theorem do_any (h : TM Z w t T) (ok : Ok T) (hw : Wf x) (hR : Roomy T x) (hp : NA Z w (.slice pa pn pc) x.params) (hra : RA Z w ia x.inter) : Calls Tryz.prog 25 #[.pointer (some ⟨t, 0, none⟩), .agg #[.int .u8 x.kind, .int .i32 x.r, .int .i32 x.priv, .slice pa pn pc, .slice ia x.inter.length ic, .int .i32 x.fin, .slice ta tn tc]] w (Does Z w t (doT T x)) := by
 obtain ⟨T2, hT2⟩ : ∃ T2, T2 = doT T x := ⟨_, rfl⟩
 rw [← hT2]
 replace hT2 := Lib.hid hT2
 have hbn := below_new w (.cells #[.int .u8 x.kind, .int .i32 x.r, .int .i32 x.priv, .slice pa pn pc, .slice ia x.inter.length ic, .int .i32 x.fin, .slice ta tn tc] 25)
 have hbx := Block.made w 25 #[.int .u8 x.kind, .int .i32 x.r, .int .i32 x.priv, .slice pa pn pc, .slice ia x.inter.length ic, .int .i32 x.fin, .slice ta tn tc]
 have hmm := @run_makeMap Tryz.prog
 have hneq := neq_kin
 have hneqn := neqn_kin
 go_enter Tryz.func25, Tryz.ntmps25
 go_upto_region 1 with (fail)
 generalize w.alloc (.cells #[.int .u8 x.kind, .int .i32 x.r, .int .i32 x.priv, .slice pa pn pc, .slice ia x.inter.length ic, .int .i32 x.fin, .slice ta tn tc] 25) = w0 at hbn hbx ⊢
 have hmp := MpN.made w0 .u8
 have hbm := below_new w0 (.map #[] 0)
 have hsz : (w0.alloc (.map #[] 0)).heap.size = w0.heap.size + 1 := by simp
 go_upto_region 2 with (refine upon_ent mtKinds hmp ?_ ?_ ?_; rfl; decide; clear hmp; intro wn hmp hon; replace hbm := hbm.trans (hon.below hbm.size (by simp)); clear hon)
 change MpN _ _ _ kinL at hmp
 clear hsz
 have hx9 := Block.only hbx (Only.of_below hbm []) (by simp)
 have x0 := hx9.cell 0 (v := .int .u8 x.kind) rfl
 have x1 := hx9.cell 1 (v := .int .i32 x.r) rfl
 have x2 := hx9.cell 2 (v := .int .i32 x.priv) rfl
 have x3 := hx9.cell 3 (v := .slice pa pn pc) rfl
 have x4 := hx9.cell 4 (v := .slice ia x.inter.length ic) rfl
 have x5 := hx9.cell 5 (v := .int .i32 x.fin) rfl
 have x6 := hx9.cell 6 (v := .slice ta tn tc) rfl
 have hlk0 := (lookM mtKinds hmp x.kind hw.kind).1
 have hb := below_next hbn hbm
 have hT := h.below hb
 have hf0 : Scn.Fr Z TT w wn := Scn.Fr.of_below hb
 have hp9 := hp.below hb
 have hra9 := hra.below hb
 have hj := hR.jr
 have hpr := hR.pr
 clear hmp hbm hbn hbx hmm h hb hx9 hp hra
 by_cases e0 : x.kind = 1
 ·have hc := print_any (k := x.kind) (r := x.r) (pr := x.priv) (pa := pa) (pn := pn) (pc := pc) (ia := ia) (im := x.inter.length) (ic := ic) (f := x.fin) (ta := ta) (tn := tn) (tc := tc) hT ok (by omega) (by omega) (roomy_nx hR)
  rw [show printT T x.r = doT T x by simp [doT, e0], ← hT2.out, e0] at hc
  rw [e0] at hlk0 x0
  have hlk : (Instr.lookup 92 (.map (some w0.heap.size)) (.int .u8 1) false).run Tryz.prog wn = .ok (.func (.func 32) #[] #[]) wn := hlk0
  replace hc := Lib.hid hc
  generalize x.inter.length = im at *
  generalize x.fin = f at *
  generalize x.r = r at *
  generalize x.priv = pr at *
  clear hT2 hT ok hlk0 hw hR hp9 hra9 hj hpr e0
  go_wp2_with (first
   | (go_at_call 32; (with_reducible refine (hc.out).mono ?_); rintro e w3 ⟨⟨v3, rfl⟩, h3, hf3⟩))
  go_end0
  exact ⟨⟨_, rfl⟩, h3, hf0.trans hf3⟩
 by_cases e1 : x.kind = 2
 ·have hc := control_go (k := x.kind) (r := x.r) (pr := x.priv) (pa := pa) (pn := pn) (pc := pc) (ia := ia) (im := x.inter.length) (ic := ic) (f := x.fin) (ta := ta) (tn := tn) (tc := tc) hT ok (by omega) (roomy_nx hR) hw.r
  rw [show control T x.r = doT T x by simp [doT, e1], ← hT2.out, e1] at hc
  rw [e1] at hlk0 x0
  have hlk : (Instr.lookup 92 (.map (some w0.heap.size)) (.int .u8 2) false).run Tryz.prog wn = .ok (.func (.func 33) #[] #[]) wn := hlk0
  replace hc := Lib.hid hc
  generalize x.inter.length = im at *
  generalize x.fin = f at *
  generalize x.r = r at *
  generalize x.priv = pr at *
  clear hT2 hT ok hlk0 hw hR hp9 hra9 hj hpr e1 e0
  go_wp2_with (first
   | (go_at_call 33; (with_reducible refine (hc.out).mono ?_); rintro e w3 ⟨⟨v3, rfl⟩, h3, hf3⟩))
  go_end0
  exact ⟨⟨_, rfl⟩, h3, hf0.trans hf3⟩
 by_cases e2 : x.kind = 3
 ·have hc := esc_any (pa := pa) (pn := pn) (pc := pc) (ia := ia) (ic := ic) (ta := ta) (tn := tn) (tc := tc) hT ok hw hR hra9
  rw [show escape T x = doT T x by simp [doT, e2], ← hT2.out, e2] at hc
  rw [e2] at hlk0 x0
  have hlk : (Instr.lookup 92 (.map (some w0.heap.size)) (.int .u8 3) false).run Tryz.prog wn = .ok (.func (.func 34) #[] #[]) wn := hlk0
  replace hc := Lib.hid hc
  generalize x.inter.length = im at *
  generalize x.fin = f at *
  generalize x.r = r at *
  generalize x.priv = pr at *
  clear hT2 hT ok hlk0 hw hR hp9 hra9 hj hpr e2 e0 e1
  go_wp2_with (first
   | (go_at_call 34; (with_reducible refine (hc.out).mono ?_); rintro e w3 ⟨⟨v3, rfl⟩, h3, hf3⟩))
  go_end0
  exact ⟨⟨_, rfl⟩, h3, hf0.trans hf3⟩
 by_cases e3 : x.kind = 4
 ·have hc := seq_any (pa := pa) (pn := pn) (pc := pc) (ia := ia) (ic := ic) (ta := ta) (tn := tn) (tc := tc) hT ok hw hR hp9
  rw [show sequence T x = doT T x by simp [doT, e3], ← hT2.out, e3] at hc
  rw [e3] at hlk0 x0
  have hlk : (Instr.lookup 92 (.map (some w0.heap.size)) (.int .u8 4) false).run Tryz.prog wn = .ok (.func (.func 35) #[] #[]) wn := hlk0
  replace hc := Lib.hid hc
  generalize x.inter.length = im at *
  generalize x.fin = f at *
  generalize x.r = r at *
  generalize x.priv = pr at *
  clear hT2 hT ok hlk0 hw hR hp9 hra9 hj hpr e3 e0 e1 e2
  go_wp2_with (first
   | (go_at_call 35; (with_reducible refine (hc.out).mono ?_); rintro e w3 ⟨⟨v3, rfl⟩, h3, hf3⟩))
  go_end0
  exact ⟨⟨_, rfl⟩, h3, hf0.trans hf3⟩
 have he : T2 = T := by rw [hT2.out]; simp [doT, e0, e1, e2, e3]
 subst he
 have hlk : (Instr.lookup 92 (.map (some w0.heap.size)) (.int .u8 x.kind) false).run Tryz.prog wn = .ok .nilFunc wn := by
  rw [hlk0, kinL_none e0 e1 e2 e3]
  rfl
 clear hT2 ok hlk0 hw hR hp9 hra9 hj hpr e0 e1 e2 e3
 generalize x.inter.length = im at *
 generalize x.kind = k at *
 go_wp2
 go_end0
 exact ⟨⟨_, rfl⟩, hT, hf0⟩
end
end Go.Proofs.YtkjpjegmanpbfaaGreatDoor.Emu
