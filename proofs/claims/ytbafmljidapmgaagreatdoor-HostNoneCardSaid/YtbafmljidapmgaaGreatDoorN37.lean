/- Part 37 of the proof that the card of HostNone holds. -/
import Derived.Test.YtbafmljidapmgaaGreatDoorN36
set_option maxHeartbeats 16000000
set_option maxRecDepth 100000
namespace Go.Proofs.YtbafmljidapmgaaGreatDoor.Emu
open Go RowKit Com Rw Lns Scn
section
variable {Z Z1:Zn} {w w':World} {t x s d b:Nat} {S:Scr} {T:Ter} {P:Pt} {v:Value} {l:List Int} {pa ia ta:Option Addr} {pn pc im ic tn tc:Nat} {k r pr f:Int}
theorem Ch4 (f:FuncId) (w:World):(binOp .neq 314 (.func (.func f) #[] #[]) .nilFunc).run Tryz.prog w=.ok (.bool true) w:=by kernel_rfl
theorem Bz3 (w:World):(binOp .neq 314 .nilFunc .nilFunc).run Tryz.prog w=.ok (.bool false) w:=by kernel_rfl
def ctlL:List Ent:=[(8,.func (.func 269) #[] #[]),(9,.func (.func 270) #[] #[]),(10,.func (.func 271) #[] #[]),(11,.func (.func 271) #[] #[]),(12,.func (.func 271) #[] #[]),(13,.func (.func 272) #[] #[]),(14,.func (.func 273) #[] #[]),(15,.func (.func 274) #[] #[]),(132,.func (.func 275) #[] #[]),(133,.func (.func 276) #[] #[]),(136,.func (.func 277) #[] #[]),(141,.func (.func 278) #[] #[])]
theorem ctlL_none {n:Int} (h0:n≠8) (h1:n≠9) (h2:n≠10) (h3:n≠11) (h4:n≠12) (h5:n≠13) (h6:n≠14) (h7:n≠15) (h8:n≠132) (h9:n≠133) (h10:n≠136) (h11:n≠141):findM ctlL n=none:=by
 simp [ctlL,findM,h0,h1,h2,h3,h4,h5,h6,h7,h8,h9,h10,h11]
theorem control_go (h:TM Z w t T) (ok:Ok T) (hj:T.jr.length<=90000000) (hnx:T.nx<=9900000000) (hwf:(Lit.int .i32 r).wf=true):Calls Tryz.prog 202 #[.pointer (some ⟨t,0,none⟩),.agg #[.int .u8 k,.int .i32 r,.int .i32 pr,.slice pa pn pc,.slice ia im ic,.int .i32 f,.slice ta tn tc]] w (Does Z w t (control T r)):=by
 have hbn:=Aa1 w (.cells #[.int .u8 k,.int .i32 r,.int .i32 pr,.slice pa pn pc,.slice ia im ic,.int .i32 f,.slice ta tn tc] 112)
 have hbx:=Block.made w 112 #[.int .u8 k,.int .i32 r,.int .i32 pr,.slice pa pn pc,.slice ia im ic,.int .i32 f,.slice ta tn tc]
 have hmm:=@run_makeMap Tryz.prog
 have hneq:=Ch4
 have hneqn:=Bz3
 go_enter Tryz.func202,Tryz.ntmps202
 go_upto_region 1 with (fail)
 generalize w.alloc (.cells #[.int .u8 k,.int .i32 r,.int .i32 pr,.slice pa pn pc,.slice ia im ic,.int .i32 f,.slice ta tn tc] 112)=w0 at hbn hbx |-
 have hmp:=MpN.made w0 .i32
 have hbm:=Aa1 w0 (.map #[] 0)
 have hsz:(w0.alloc (.map #[] 0)).heap.size=w0.heap.size+1:=by simp
 go_upto_region 2 with (refine Am1 Cl7 hmp ?_ ?_ ?_;rfl;decide;clear hmp;intro wn hmp hon;replace hbm:=hbm.trans (hon.below hbm.size (by simp));clear hon)
 change MpN _ _ _ ctlL at hmp
 clear hsz
 have xk:=(Block.only hbx (Only.of_below hbm []) (by simp)).cell 1 (v:=.int .i32 r) rfl
 have hlk0:=(Bq6 Cl7 hmp r hwf).1
 have hb:=Aa0 hbn hbm
 have hT:=h.below hb
 have hf0:Scn.Fr Z TT w wn:=Scn.Fr.of_below hb
 clear hmp hbm hbn hbx hmm h hb
 by_cases e0:r=8
 ·subst e0
  have hlk:(Instr.lookup 315 (.map (some w0.heap.size)) (.int .i32 8) false).run Tryz.prog wn=.ok (.func (.func 269) #[] #[]) wn:=hlk0
  have hc:=stepBack_any hT ok hj
  rw [show (stepBack T)=control T 8 by simp [control]] at hc
  replace hc:=J0 hc
  clear hT ok hj hnx hlk0
  go_wp2_with (first
   |(go_at_call 269;(with_reducible refine (hc.out).mono ?_);rintro e w3 ⟨⟨v3,rfl⟩,h3,hf3⟩))
  go_end0
  exact ⟨⟨_,rfl⟩,h3,hf0.trans hf3⟩
 by_cases e1:r=9
 ·subst e1
  have hlk:(Instr.lookup 315 (.map (some w0.heap.size)) (.int .i32 9) false).run Tryz.prog wn=.ok (.func (.func 270) #[] #[]) wn:=hlk0
  have hc:=nextTab_any hT ok hj
  rw [show (nextTab T)=control T 9 by simp [control]] at hc
  replace hc:=J0 hc
  clear hT ok hj hnx hlk0
  go_wp2_with (first
   |(go_at_call 270;(with_reducible refine (hc.out).mono ?_);rintro e w3 ⟨⟨v3,rfl⟩,h3,hf3⟩))
  go_end0
  exact ⟨⟨_,rfl⟩,h3,hf0.trans hf3⟩
 by_cases e2:r=10
 ·subst e2
  have hlk:(Instr.lookup 315 (.map (some w0.heap.size)) (.int .i32 10) false).run Tryz.prog wn=.ok (.func (.func 271) #[] #[]) wn:=hlk0
  have hc:=At2 hT ok hj hnx
  rw [show (newLine T)=control T 10 by simp [control]] at hc
  replace hc:=J0 hc
  clear hT ok hj hnx hlk0
  go_wp2_with (first
   |(go_at_call 271;(with_reducible refine (hc.out).mono ?_);rintro e w3 ⟨⟨v3,rfl⟩,h3,hf3⟩))
  go_end0
  exact ⟨⟨_,rfl⟩,h3,hf0.trans hf3⟩
 by_cases e3:r=11
 ·subst e3
  have hlk:(Instr.lookup 315 (.map (some w0.heap.size)) (.int .i32 11) false).run Tryz.prog wn=.ok (.func (.func 271) #[] #[]) wn:=hlk0
  have hc:=At2 hT ok hj hnx
  rw [show (newLine T)=control T 11 by simp [control]] at hc
  replace hc:=J0 hc
  clear hT ok hj hnx hlk0
  go_wp2_with (first
   |(go_at_call 271;(with_reducible refine (hc.out).mono ?_);rintro e w3 ⟨⟨v3,rfl⟩,h3,hf3⟩))
  go_end0
  exact ⟨⟨_,rfl⟩,h3,hf0.trans hf3⟩
 by_cases e4:r=12
 ·subst e4
  have hlk:(Instr.lookup 315 (.map (some w0.heap.size)) (.int .i32 12) false).run Tryz.prog wn=.ok (.func (.func 271) #[] #[]) wn:=hlk0
  have hc:=At2 hT ok hj hnx
  rw [show (newLine T)=control T 12 by simp [control]] at hc
  replace hc:=J0 hc
  clear hT ok hj hnx hlk0
  go_wp2_with (first
   |(go_at_call 271;(with_reducible refine (hc.out).mono ?_);rintro e w3 ⟨⟨v3,rfl⟩,h3,hf3⟩))
  go_end0
  exact ⟨⟨_,rfl⟩,h3,hf0.trans hf3⟩
 by_cases e5:r=13
 ·subst e5
  have hlk:(Instr.lookup 315 (.map (some w0.heap.size)) (.int .i32 13) false).run Tryz.prog wn=.ok (.func (.func 272) #[] #[]) wn:=hlk0
  have hc:=lineBegin_any hT ok hj
  rw [show (lineBegin T)=control T 13 by simp [control]] at hc
  replace hc:=J0 hc
  clear hT ok hj hnx hlk0
  go_wp2_with (first
   |(go_at_call 272;(with_reducible refine (hc.out).mono ?_);rintro e w3 ⟨⟨v3,rfl⟩,h3,hf3⟩))
  go_end0
  exact ⟨⟨_,rfl⟩,h3,hf0.trans hf3⟩
 by_cases e6:r=14
 ·subst e6
  have hlk:(Instr.lookup 315 (.map (some w0.heap.size)) (.int .i32 14) false).run Tryz.prog wn=.ok (.func (.func 273) #[] #[]) wn:=hlk0
  have hc:=secondSet_any hT
  rw [show (setWh T true)=control T 14 by simp [control]] at hc
  replace hc:=J0 hc
  clear hT ok hj hnx hlk0
  go_wp2_with (first
   |(go_at_call 273;(with_reducible refine (hc.out).mono ?_);rintro e w3 ⟨⟨v3,rfl⟩,h3,hf3⟩))
  go_end0
  exact ⟨⟨_,rfl⟩,h3,hf0.trans hf3⟩
 by_cases e7:r=15
 ·subst e7
  have hlk:(Instr.lookup 315 (.map (some w0.heap.size)) (.int .i32 15) false).run Tryz.prog wn=.ok (.func (.func 274) #[] #[]) wn:=hlk0
  have hc:=firstSet_any hT
  rw [show (setWh T false)=control T 15 by simp [control]] at hc
  replace hc:=J0 hc
  clear hT ok hj hnx hlk0
  go_wp2_with (first
   |(go_at_call 274;(with_reducible refine (hc.out).mono ?_);rintro e w3 ⟨⟨v3,rfl⟩,h3,hf3⟩))
  go_end0
  exact ⟨⟨_,rfl⟩,h3,hf0.trans hf3⟩
 by_cases e8:r=132
 ·subst e8
  have hlk:(Instr.lookup 315 (.map (some w0.heap.size)) (.int .i32 132) false).run Tryz.prog wn=.ok (.func (.func 275) #[] #[]) wn:=hlk0
  have hc:=At5 hT ok hj hnx
  rw [show (rowDown T)=control T 132 by simp [control]] at hc
  replace hc:=J0 hc
  clear hT ok hj hnx hlk0
  go_wp2_with (first
   |(go_at_call 275;(with_reducible refine (hc.out).mono ?_);rintro e w3 ⟨⟨v3,rfl⟩,h3,hf3⟩))
  go_end0
  exact ⟨⟨_,rfl⟩,h3,hf0.trans hf3⟩
 by_cases e9:r=133
 ·subst e9
  have hlk:(Instr.lookup 315 (.map (some w0.heap.size)) (.int .i32 133) false).run Tryz.prog wn=.ok (.func (.func 276) #[] #[]) wn:=hlk0
  have hc:=Ba7 hT ok hj hnx
  rw [show (nextLine T)=control T 133 by simp [control]] at hc
  replace hc:=J0 hc
  clear hT ok hj hnx hlk0
  go_wp2_with (first
   |(go_at_call 276;(with_reducible refine (hc.out).mono ?_);rintro e w3 ⟨⟨v3,rfl⟩,h3,hf3⟩))
  go_end0
  exact ⟨⟨_,rfl⟩,h3,hf0.trans hf3⟩
 by_cases e10:r=136
 ·subst e10
  have hlk:(Instr.lookup 315 (.map (some w0.heap.size)) (.int .i32 136) false).run Tryz.prog wn=.ok (.func (.func 277) #[] #[]) wn:=hlk0
  have hc:=Bi9 hT ok
  rw [show (setTab T)=control T 136 by simp [control]] at hc
  replace hc:=J0 hc
  clear hT ok hj hnx hlk0
  go_wp2_with (first
   |(go_at_call 277;(with_reducible refine (hc.out).mono ?_);rintro e w3 ⟨⟨v3,rfl⟩,h3,hf3⟩))
  go_end0
  exact ⟨⟨_,rfl⟩,h3,hf0.trans hf3⟩
 by_cases e11:r=141
 ·subst e11
  have hlk:(Instr.lookup 315 (.map (some w0.heap.size)) (.int .i32 141) false).run Tryz.prog wn=.ok (.func (.func 278) #[] #[]) wn:=hlk0
  have hc:=Bs3 hT ok hj hnx
  rw [show (rowUp T)=control T 141 by simp [control]] at hc
  replace hc:=J0 hc
  clear hT ok hj hnx hlk0
  go_wp2_with (first
   |(go_at_call 278;(with_reducible refine (hc.out).mono ?_);rintro e w3 ⟨⟨v3,rfl⟩,h3,hf3⟩))
  go_end0
  exact ⟨⟨_,rfl⟩,h3,hf0.trans hf3⟩
 have hlk:(Instr.lookup 315 (.map (some w0.heap.size)) (.int .i32 r) false).run Tryz.prog wn=.ok .nilFunc wn:=by
  rw [hlk0,ctlL_none e0 e1 e2 e3 e4 e5 e6 e7 e8 e9 e10 e11]
  rfl
 have he:control T r=T:=by simp [control,e0,e1,e2,e3,e4,e5,e6,e7,e8,e9,e10,e11]
 clear ok hj hnx hlk0
 go_wp2
 go_end0
 exact ⟨⟨_,rfl⟩,(by rw [he];exact hT),hf0⟩
end
section
variable {Z Z1:Zn} {w w':World} {t x s d b:Nat} {S:Scr} {T:Ter} {P:Pt} {v:Value} {l:List Int} {pa ia ta:Option Addr} {pn pc im ic tn tc:Nat} {k r pr f:Int}
def escL:List Ent:=[(55,.func (.func 280) #[] #[]),(56,.func (.func 281) #[] #[]),(68,.func (.func 275) #[] #[]),(69,.func (.func 276) #[] #[]),(72,.func (.func 277) #[] #[]),(77,.func (.func 278) #[] #[]),(99,.func (.func 282) #[] #[])]
theorem escL_none {n:Int} (h0:n≠55) (h1:n≠56) (h2:n≠68) (h3:n≠69) (h4:n≠72) (h5:n≠77) (h6:n≠99):findM escL n=none:=by
 simp [escL,findM,h0,h1,h2,h3,h4,h5,h6]
def escF (T:Ter) (f:Int):Ter:=if f=55 then save T else if f=56 then restore T else if f=68 then rowDown T else if f=69 then nextLine T else if f=72 then setTab T else if f=77 then rowUp T else if f=99 then reset T else T
theorem escape_go (h:TM Z w t T) (ok:Ok T) (hj:T.jr.length<=90000000) (hnx:T.nx<=9900000000) (hwf:(Lit.int .i32 f).wf=true):Calls Tryz.prog 203 #[.pointer (some ⟨t,0,none⟩),.agg #[.int .u8 k,.int .i32 r,.int .i32 pr,.slice pa pn pc,.slice ia 0 ic,.int .i32 f,.slice ta tn tc]] w (Does Z w t (escF T f)):=by
 have hbn:=Aa1 w (.cells #[.int .u8 k,.int .i32 r,.int .i32 pr,.slice pa pn pc,.slice ia 0 ic,.int .i32 f,.slice ta tn tc] 112)
 have hbx:=Block.made w 112 #[.int .u8 k,.int .i32 r,.int .i32 pr,.slice pa pn pc,.slice ia 0 ic,.int .i32 f,.slice ta tn tc]
 have hmm:=@run_makeMap Tryz.prog
 have hneq:=Ch4
 have hneqn:=Bz3
 go_enter Tryz.func203,Tryz.ntmps203
 go_upto_region 1 with (fail)
 generalize w.alloc (.cells #[.int .u8 k,.int .i32 r,.int .i32 pr,.slice pa pn pc,.slice ia 0 ic,.int .i32 f,.slice ta tn tc] 112)=w0 at hbn hbx |-
 have x4:=hbx.cell 4 (v:=.slice ia 0 ic) rfl
 have hmp:=MpN.made w0 .i32
 have hbm:=Aa1 w0 (.map #[] 0)
 have hsz:(w0.alloc (.map #[] 0)).heap.size=w0.heap.size+1:=by simp
 go_upto_region 4 with (refine Am1 Cl7 hmp ?_ ?_ ?_;rfl;decide;clear hmp;intro wn hmp hon;replace hbm:=hbm.trans (hon.below hbm.size (by simp));clear hon)
 change MpN _ _ _ escL at hmp
 clear hsz
 have xk:=(Block.only hbx (Only.of_below hbm []) (by simp)).cell 5 (v:=.int .i32 f) rfl
 have hlk0:=(Bq6 Cl7 hmp f hwf).1
 have hb:=Aa0 hbn hbm
 have hT:=h.below hb
 have hf0:Scn.Fr Z TT w wn:=Scn.Fr.of_below hb
 clear hmp hbm hbn hbx hmm h hb
 by_cases e0:f=55
 ·subst e0
  have hlk:(Instr.lookup 315 (.map (some w0.heap.size)) (.int .i32 55) false).run Tryz.prog wn=.ok (.func (.func 280) #[] #[]) wn:=hlk0
  have hc:=Bm9 hT
  rw [show (save T)=escF T 55 by simp [escF]] at hc
  replace hc:=J0 hc
  clear hT ok hlk0
  go_wp2_with (first
   |(go_at_call 280;(with_reducible refine (hc.out).mono ?_);rintro e w3 ⟨⟨v3,rfl⟩,h3,hf3⟩))
  go_end0
  exact ⟨⟨_,rfl⟩,h3,hf0.trans hf3⟩
 by_cases e1:f=56
 ·subst e1
  have hlk:(Instr.lookup 315 (.map (some w0.heap.size)) (.int .i32 56) false).run Tryz.prog wn=.ok (.func (.func 281) #[] #[]) wn:=hlk0
  have hc:=At4 hT ok hj
  rw [show (restore T)=escF T 56 by simp [escF]] at hc
  replace hc:=J0 hc
  clear hT ok hlk0
  go_wp2_with (first
   |(go_at_call 281;(with_reducible refine (hc.out).mono ?_);rintro e w3 ⟨⟨v3,rfl⟩,h3,hf3⟩))
  go_end0
  exact ⟨⟨_,rfl⟩,h3,hf0.trans hf3⟩
 by_cases e2:f=68
 ·subst e2
  have hlk:(Instr.lookup 315 (.map (some w0.heap.size)) (.int .i32 68) false).run Tryz.prog wn=.ok (.func (.func 275) #[] #[]) wn:=hlk0
  have hc:=At5 hT ok hj hnx
  rw [show (rowDown T)=escF T 68 by simp [escF]] at hc
  replace hc:=J0 hc
  clear hT ok hlk0
  go_wp2_with (first
   |(go_at_call 275;(with_reducible refine (hc.out).mono ?_);rintro e w3 ⟨⟨v3,rfl⟩,h3,hf3⟩))
  go_end0
  exact ⟨⟨_,rfl⟩,h3,hf0.trans hf3⟩
 by_cases e3:f=69
 ·subst e3
  have hlk:(Instr.lookup 315 (.map (some w0.heap.size)) (.int .i32 69) false).run Tryz.prog wn=.ok (.func (.func 276) #[] #[]) wn:=hlk0
  have hc:=Ba7 hT ok hj hnx
  rw [show (nextLine T)=escF T 69 by simp [escF]] at hc
  replace hc:=J0 hc
  clear hT ok hlk0
  go_wp2_with (first
   |(go_at_call 276;(with_reducible refine (hc.out).mono ?_);rintro e w3 ⟨⟨v3,rfl⟩,h3,hf3⟩))
  go_end0
  exact ⟨⟨_,rfl⟩,h3,hf0.trans hf3⟩
 by_cases e4:f=72
 ·subst e4
  have hlk:(Instr.lookup 315 (.map (some w0.heap.size)) (.int .i32 72) false).run Tryz.prog wn=.ok (.func (.func 277) #[] #[]) wn:=hlk0
  have hc:=Bi9 hT ok
  rw [show (setTab T)=escF T 72 by simp [escF]] at hc
  replace hc:=J0 hc
  clear hT ok hlk0
  go_wp2_with (first
   |(go_at_call 277;(with_reducible refine (hc.out).mono ?_);rintro e w3 ⟨⟨v3,rfl⟩,h3,hf3⟩))
  go_end0
  exact ⟨⟨_,rfl⟩,h3,hf0.trans hf3⟩
 by_cases e5:f=77
 ·subst e5
  have hlk:(Instr.lookup 315 (.map (some w0.heap.size)) (.int .i32 77) false).run Tryz.prog wn=.ok (.func (.func 278) #[] #[]) wn:=hlk0
  have hc:=Bs3 hT ok hj hnx
  rw [show (rowUp T)=escF T 77 by simp [escF]] at hc
  replace hc:=J0 hc
  clear hT ok hlk0
  go_wp2_with (first
   |(go_at_call 278;(with_reducible refine (hc.out).mono ?_);rintro e w3 ⟨⟨v3,rfl⟩,h3,hf3⟩))
  go_end0
  exact ⟨⟨_,rfl⟩,h3,hf0.trans hf3⟩
 by_cases e6:f=99
 ·subst e6
  have hlk:(Instr.lookup 315 (.map (some w0.heap.size)) (.int .i32 99) false).run Tryz.prog wn=.ok (.func (.func 282) #[] #[]) wn:=hlk0
  have hc:=reset_any hT ok hj hnx
  rw [show (reset T)=escF T 99 by simp [escF]] at hc
  replace hc:=J0 hc
  clear hT ok hlk0
  go_wp2_with (first
   |(go_at_call 282;(with_reducible refine (hc.out).mono ?_);rintro e w3 ⟨⟨v3,rfl⟩,h3,hf3⟩))
  go_end0
  exact ⟨⟨_,rfl⟩,h3,hf0.trans hf3⟩
 have hlk:(Instr.lookup 315 (.map (some w0.heap.size)) (.int .i32 f) false).run Tryz.prog wn=.ok .nilFunc wn:=by
  rw [hlk0,escL_none e0 e1 e2 e3 e4 e5 e6]
  rfl
 have he:escF T f=T:=by simp [escF,e0,e1,e2,e3,e4,e5,e6]
 clear ok hlk0
 go_wp2
 go_end0
 exact ⟨⟨_,rfl⟩,(by rw [he];exact hT),hf0⟩
end
section
variable {Z Z1:Zn} {w w':World} {t x s d b:Nat} {S:Scr} {T:Ter} {P:Pt} {v:Value} {l:List Int} {pa ia ta:Option Addr} {pn pc im ic tn tc:Nat} {k r pr f:Int}
theorem Ch3 (f:FuncId) (w:World):(binOp .neq 318 (.func (.func f) #[] #[]) .nilFunc).run Tryz.prog w=.ok (.bool true) w:=by kernel_rfl
theorem Bm7 (w:World):(binOp .neq 318 .nilFunc .nilFunc).run Tryz.prog w=.ok (.bool false) w:=by kernel_rfl
def Ca2:List Ent:=[(65,.func (.func 321) #[] #[]),(66,.func (.func 322) #[] #[]),(67,.func (.func 323) #[] #[]),(68,.func (.func 324) #[] #[]),(69,.func (.func 325) #[] #[]),(70,.func (.func 326) #[] #[]),(71,.func (.func 327) #[] #[]),(96,.func (.func 327) #[] #[]),(72,.func (.func 328) #[] #[]),(102,.func (.func 328) #[] #[]),(100,.func (.func 329) #[] #[]),(73,.func (.func 330) #[] #[]),(90,.func (.func 331) #[] #[]),(74,.func (.func 332) #[] #[]),(75,.func (.func 333) #[] #[]),(88,.func (.func 334) #[] #[]),(64,.func (.func 335) #[] #[]),(80,.func (.func 336) #[] #[]),(76,.func (.func 337) #[] #[]),(77,.func (.func 338) #[] #[]),(83,.func (.func 339) #[] #[]),(84,.func (.func 340) #[] #[]),(114,.func (.func 341) #[] #[]),(103,.func (.func 342) #[] #[]),(109,.func (.func 343) #[] #[]),(104,.func (.func 344) #[] #[]),(108,.func (.func 345) #[] #[]),(110,.func (.func 346) #[] #[]),(99,.func (.func 347) #[] #[])]
theorem plainL_none {n:Int} (h0:n≠65) (h1:n≠66) (h2:n≠67) (h3:n≠68) (h4:n≠69) (h5:n≠70) (h6:n≠71) (h7:n≠96) (h8:n≠72) (h9:n≠102) (h10:n≠100) (h11:n≠73) (h12:n≠90) (h13:n≠74) (h14:n≠75) (h15:n≠88) (h16:n≠64) (h17:n≠80) (h18:n≠76) (h19:n≠77) (h20:n≠83) (h21:n≠84) (h22:n≠114) (h23:n≠103) (h24:n≠109) (h25:n≠104) (h26:n≠108) (h27:n≠110) (h28:n≠99):findM Ca2 n=none:=by
 simp [Ca2,findM,h0,h1,h2,h3,h4,h5,h6,h7,h8,h9,h10,h11,h12,h13,h14,h15,h16,h17,h18,h19,h20,h21,h22,h23,h24,h25,h26,h27,h28]
theorem plain_any (w:World):Calls Tryz.prog 283 #[] w fun e w'=>e=.returned (.map (some w.heap.size))/\MpN w' w.heap.size .i32 Ca2/\Below w.heap.size w w':=by
 have hmm:=@run_makeMap Tryz.prog
 have hmp:=MpN.made w .i32
 have hbm:=Aa1 w (.map #[] 0)
 have hsz:(w.alloc (.map #[] 0)).heap.size=w.heap.size+1:=by simp
 go_enter Tryz.func283,Tryz.ntmps283
 go_wp2_with (refine Am1 mtCsi hmp ?_ ?_ ?_;rfl;decide;clear hmp;intro wn hmp hon;replace hbm:=hbm.trans (hon.below hbm.size (by simp));clear hon)
 change MpN _ _ _ Ca2 at hmp
 go_ret
 exact ⟨rfl,hmp,hbm⟩
def Cl9:List Ent:=[(104,.func (.func 348) #[] #[]),(108,.func (.func 349) #[] #[])]
theorem privL_none {n:Int} (h0:n≠104) (h1:n≠108):findM Cl9 n=none:=by
 simp [Cl9,findM,h0,h1]
theorem private_any (w:World):Calls Tryz.prog 284 #[] w fun e w'=>e=.returned (.map (some w.heap.size))/\MpN w' w.heap.size .i32 Cl9/\Below w.heap.size w w':=by
 have hmm:=@run_makeMap Tryz.prog
 have hmp:=MpN.made w .i32
 have hbm:=Aa1 w (.map #[] 0)
 have hsz:(w.alloc (.map #[] 0)).heap.size=w.heap.size+1:=by simp
 go_enter Tryz.func284,Tryz.ntmps284
 go_wp2_with (refine Am1 mtCsi hmp ?_ ?_ ?_;rfl;decide;clear hmp;intro wn hmp hon;replace hbm:=hbm.trans (hon.below hbm.size (by simp));clear hon)
 change MpN _ _ _ Cl9 at hmp
 go_ret
 exact ⟨rfl,hmp,hbm⟩
end
