/- Part 37 of the proof that the card of EmuAside holds. -/
import Derived.Test.YtkjpjegmanpbfaaGreatDoorPA36
set_option maxHeartbeats 16000000
set_option maxRecDepth 100000
namespace Go.Proofs.YtkjpjegmanpbfaaGreatDoor.Emu
open Go RowKit Com Rw Lns Scn
section
variable {Z Z1:Zn} {w w':World} {t x s d b:Nat} {S:Scr} {T:Ter} {P:Pt} {v:Value} {l:List Int} {pa ia ta:Option Addr} {pn pc im ic tn tc:Nat} {k r pr f:Int}
theorem Cf3 (f:FuncId) (w:World):(binOp .neq 130 (.func (.func f) #[] #[]) .nilFunc).run Tryz.prog w=.ok (.bool true) w:=by kernel_rfl
theorem Bw7 (w:World):(binOp .neq 130 .nilFunc .nilFunc).run Tryz.prog w=.ok (.bool false) w:=by kernel_rfl
def ctlL:List Ent:=[(8,.func (.func 59) #[] #[]),(9,.func (.func 60) #[] #[]),(10,.func (.func 61) #[] #[]),(11,.func (.func 61) #[] #[]),(12,.func (.func 61) #[] #[]),(13,.func (.func 62) #[] #[]),(14,.func (.func 63) #[] #[]),(15,.func (.func 64) #[] #[]),(132,.func (.func 65) #[] #[]),(133,.func (.func 66) #[] #[]),(136,.func (.func 67) #[] #[]),(141,.func (.func 68) #[] #[])]
theorem ctlL_none {n:Int} (h0:n≠8) (h1:n≠9) (h2:n≠10) (h3:n≠11) (h4:n≠12) (h5:n≠13) (h6:n≠14) (h7:n≠15) (h8:n≠132) (h9:n≠133) (h10:n≠136) (h11:n≠141):findM ctlL n=none:=by
 simp [ctlL,findM,h0,h1,h2,h3,h4,h5,h6,h7,h8,h9,h10,h11]
theorem control_go (h:TM Z w t T) (ok:Ok T) (hj:T.jr.length<=90000) (hnx:T.nx<=990000) (hwf:(Lit.int .i32 r).wf=true):Calls Tryz.prog 33 #[.pointer (some ⟨t,0,none⟩),.agg #[.int .u8 k,.int .i32 r,.int .i32 pr,.slice pa pn pc,.slice ia im ic,.int .i32 f,.slice ta tn tc]] w (Does Z w t (control T r)):=by
 have hbn:=Aa1 w (.cells #[.int .u8 k,.int .i32 r,.int .i32 pr,.slice pa pn pc,.slice ia im ic,.int .i32 f,.slice ta tn tc] 25)
 have hbx:=Block.made w 25 #[.int .u8 k,.int .i32 r,.int .i32 pr,.slice pa pn pc,.slice ia im ic,.int .i32 f,.slice ta tn tc]
 have hmm:=@run_makeMap Tryz.prog
 have hneq:=Cf3
 have hneqn:=Bw7
 go_enter Tryz.func33,Tryz.ntmps33
 go_upto_region 1 with (fail)
 generalize w.alloc (.cells #[.int .u8 k,.int .i32 r,.int .i32 pr,.slice pa pn pc,.slice ia im ic,.int .i32 f,.slice ta tn tc] 25)=w0 at hbn hbx |-
 have hmp:=MpN.made w0 .i32
 have hbm:=Aa1 w0 (.map #[] 0)
 have hsz:(w0.alloc (.map #[] 0)).heap.size=w0.heap.size+1:=by simp
 go_upto_region 2 with (refine Al5 Ci2 hmp ?_ ?_ ?_;rfl;decide;clear hmp;intro wn hmp hon;replace hbm:=hbm.trans (hon.below hbm.size (by simp));clear hon)
 change MpN _ _ _ ctlL at hmp
 clear hsz
 have xk:=(Block.only hbx (Only.of_below hbm []) (by simp)).cell 1 (v:=.int .i32 r) rfl
 have hlk0:=(Bo6 Ci2 hmp r hwf).1
 have hb:=Aa0 hbn hbm
 have hT:=h.below hb
 have hf0:Scn.Fr Z TT w wn:=Scn.Fr.of_below hb
 clear hmp hbm hbn hbx hmm h hb
 by_cases e0:r=8
 ·subst e0
  have hlk:(Instr.lookup 131 (.map (some w0.heap.size)) (.int .i32 8) false).run Tryz.prog wn=.ok (.func (.func 59) #[] #[]) wn:=hlk0
  have hc:=stepBack_any hT ok hj
  rw [show (stepBack T)=control T 8 by simp [control]] at hc
  replace hc:=J0 hc
  clear hT ok hj hnx hlk0
  go_wp2_with (first
   |(go_at_call 59;(with_reducible refine (hc.out).mono ?_);rintro e w3 ⟨⟨v3,rfl⟩,h3,hf3⟩))
  go_end0
  exact ⟨⟨_,rfl⟩,h3,hf0.trans hf3⟩
 by_cases e1:r=9
 ·subst e1
  have hlk:(Instr.lookup 131 (.map (some w0.heap.size)) (.int .i32 9) false).run Tryz.prog wn=.ok (.func (.func 60) #[] #[]) wn:=hlk0
  have hc:=nextTab_any hT ok hj
  rw [show (nextTab T)=control T 9 by simp [control]] at hc
  replace hc:=J0 hc
  clear hT ok hj hnx hlk0
  go_wp2_with (first
   |(go_at_call 60;(with_reducible refine (hc.out).mono ?_);rintro e w3 ⟨⟨v3,rfl⟩,h3,hf3⟩))
  go_end0
  exact ⟨⟨_,rfl⟩,h3,hf0.trans hf3⟩
 by_cases e2:r=10
 ·subst e2
  have hlk:(Instr.lookup 131 (.map (some w0.heap.size)) (.int .i32 10) false).run Tryz.prog wn=.ok (.func (.func 61) #[] #[]) wn:=hlk0
  have hc:=At1 hT ok hj hnx
  rw [show (newLine T)=control T 10 by simp [control]] at hc
  replace hc:=J0 hc
  clear hT ok hj hnx hlk0
  go_wp2_with (first
   |(go_at_call 61;(with_reducible refine (hc.out).mono ?_);rintro e w3 ⟨⟨v3,rfl⟩,h3,hf3⟩))
  go_end0
  exact ⟨⟨_,rfl⟩,h3,hf0.trans hf3⟩
 by_cases e3:r=11
 ·subst e3
  have hlk:(Instr.lookup 131 (.map (some w0.heap.size)) (.int .i32 11) false).run Tryz.prog wn=.ok (.func (.func 61) #[] #[]) wn:=hlk0
  have hc:=At1 hT ok hj hnx
  rw [show (newLine T)=control T 11 by simp [control]] at hc
  replace hc:=J0 hc
  clear hT ok hj hnx hlk0
  go_wp2_with (first
   |(go_at_call 61;(with_reducible refine (hc.out).mono ?_);rintro e w3 ⟨⟨v3,rfl⟩,h3,hf3⟩))
  go_end0
  exact ⟨⟨_,rfl⟩,h3,hf0.trans hf3⟩
 by_cases e4:r=12
 ·subst e4
  have hlk:(Instr.lookup 131 (.map (some w0.heap.size)) (.int .i32 12) false).run Tryz.prog wn=.ok (.func (.func 61) #[] #[]) wn:=hlk0
  have hc:=At1 hT ok hj hnx
  rw [show (newLine T)=control T 12 by simp [control]] at hc
  replace hc:=J0 hc
  clear hT ok hj hnx hlk0
  go_wp2_with (first
   |(go_at_call 61;(with_reducible refine (hc.out).mono ?_);rintro e w3 ⟨⟨v3,rfl⟩,h3,hf3⟩))
  go_end0
  exact ⟨⟨_,rfl⟩,h3,hf0.trans hf3⟩
 by_cases e5:r=13
 ·subst e5
  have hlk:(Instr.lookup 131 (.map (some w0.heap.size)) (.int .i32 13) false).run Tryz.prog wn=.ok (.func (.func 62) #[] #[]) wn:=hlk0
  have hc:=lineBegin_any hT ok hj
  rw [show (lineBegin T)=control T 13 by simp [control]] at hc
  replace hc:=J0 hc
  clear hT ok hj hnx hlk0
  go_wp2_with (first
   |(go_at_call 62;(with_reducible refine (hc.out).mono ?_);rintro e w3 ⟨⟨v3,rfl⟩,h3,hf3⟩))
  go_end0
  exact ⟨⟨_,rfl⟩,h3,hf0.trans hf3⟩
 by_cases e6:r=14
 ·subst e6
  have hlk:(Instr.lookup 131 (.map (some w0.heap.size)) (.int .i32 14) false).run Tryz.prog wn=.ok (.func (.func 63) #[] #[]) wn:=hlk0
  have hc:=secondSet_any hT
  rw [show (setWh T true)=control T 14 by simp [control]] at hc
  replace hc:=J0 hc
  clear hT ok hj hnx hlk0
  go_wp2_with (first
   |(go_at_call 63;(with_reducible refine (hc.out).mono ?_);rintro e w3 ⟨⟨v3,rfl⟩,h3,hf3⟩))
  go_end0
  exact ⟨⟨_,rfl⟩,h3,hf0.trans hf3⟩
 by_cases e7:r=15
 ·subst e7
  have hlk:(Instr.lookup 131 (.map (some w0.heap.size)) (.int .i32 15) false).run Tryz.prog wn=.ok (.func (.func 64) #[] #[]) wn:=hlk0
  have hc:=firstSet_any hT
  rw [show (setWh T false)=control T 15 by simp [control]] at hc
  replace hc:=J0 hc
  clear hT ok hj hnx hlk0
  go_wp2_with (first
   |(go_at_call 64;(with_reducible refine (hc.out).mono ?_);rintro e w3 ⟨⟨v3,rfl⟩,h3,hf3⟩))
  go_end0
  exact ⟨⟨_,rfl⟩,h3,hf0.trans hf3⟩
 by_cases e8:r=132
 ·subst e8
  have hlk:(Instr.lookup 131 (.map (some w0.heap.size)) (.int .i32 132) false).run Tryz.prog wn=.ok (.func (.func 65) #[] #[]) wn:=hlk0
  have hc:=At4 hT ok hj hnx
  rw [show (rowDown T)=control T 132 by simp [control]] at hc
  replace hc:=J0 hc
  clear hT ok hj hnx hlk0
  go_wp2_with (first
   |(go_at_call 65;(with_reducible refine (hc.out).mono ?_);rintro e w3 ⟨⟨v3,rfl⟩,h3,hf3⟩))
  go_end0
  exact ⟨⟨_,rfl⟩,h3,hf0.trans hf3⟩
 by_cases e9:r=133
 ·subst e9
  have hlk:(Instr.lookup 131 (.map (some w0.heap.size)) (.int .i32 133) false).run Tryz.prog wn=.ok (.func (.func 66) #[] #[]) wn:=hlk0
  have hc:=Az3 hT ok hj hnx
  rw [show (nextLine T)=control T 133 by simp [control]] at hc
  replace hc:=J0 hc
  clear hT ok hj hnx hlk0
  go_wp2_with (first
   |(go_at_call 66;(with_reducible refine (hc.out).mono ?_);rintro e w3 ⟨⟨v3,rfl⟩,h3,hf3⟩))
  go_end0
  exact ⟨⟨_,rfl⟩,h3,hf0.trans hf3⟩
 by_cases e10:r=136
 ·subst e10
  have hlk:(Instr.lookup 131 (.map (some w0.heap.size)) (.int .i32 136) false).run Tryz.prog wn=.ok (.func (.func 67) #[] #[]) wn:=hlk0
  have hc:=Bg6 hT ok
  rw [show (setTab T)=control T 136 by simp [control]] at hc
  replace hc:=J0 hc
  clear hT ok hj hnx hlk0
  go_wp2_with (first
   |(go_at_call 67;(with_reducible refine (hc.out).mono ?_);rintro e w3 ⟨⟨v3,rfl⟩,h3,hf3⟩))
  go_end0
  exact ⟨⟨_,rfl⟩,h3,hf0.trans hf3⟩
 by_cases e11:r=141
 ·subst e11
  have hlk:(Instr.lookup 131 (.map (some w0.heap.size)) (.int .i32 141) false).run Tryz.prog wn=.ok (.func (.func 68) #[] #[]) wn:=hlk0
  have hc:=Bq2 hT ok hj hnx
  rw [show (rowUp T)=control T 141 by simp [control]] at hc
  replace hc:=J0 hc
  clear hT ok hj hnx hlk0
  go_wp2_with (first
   |(go_at_call 68;(with_reducible refine (hc.out).mono ?_);rintro e w3 ⟨⟨v3,rfl⟩,h3,hf3⟩))
  go_end0
  exact ⟨⟨_,rfl⟩,h3,hf0.trans hf3⟩
 have hlk:(Instr.lookup 131 (.map (some w0.heap.size)) (.int .i32 r) false).run Tryz.prog wn=.ok .nilFunc wn:=by
  rw [hlk0,ctlL_none e0 e1 e2 e3 e4 e5 e6 e7 e8 e9 e10 e11]
  rfl
 have he:control T r=T:=by simp [control,e0,e1,e2,e3,e4,e5,e6,e7,e8,e9,e10,e11]
 clear ok hj hnx hlk0
 go_wp2
 go_end0
 exact ⟨⟨_,rfl⟩,(by rw [he];exact hT),hf0⟩
end
section
variable {Z Z1:Zn} {w w':World} {t x s d b:Nat} {S:Scr} {T:Ter} {P:Pt} {v:Value} {l:List Int} {pa ia ta:Option Addr} {pn pc im ic tn tc:Nat} {k r pr f:Int}
def escL:List Ent:=[(55,.func (.func 70) #[] #[]),(56,.func (.func 71) #[] #[]),(68,.func (.func 65) #[] #[]),(69,.func (.func 66) #[] #[]),(72,.func (.func 67) #[] #[]),(77,.func (.func 68) #[] #[]),(99,.func (.func 72) #[] #[])]
theorem escL_none {n:Int} (h0:n≠55) (h1:n≠56) (h2:n≠68) (h3:n≠69) (h4:n≠72) (h5:n≠77) (h6:n≠99):findM escL n=none:=by
 simp [escL,findM,h0,h1,h2,h3,h4,h5,h6]
def escF (T:Ter) (f:Int):Ter:=if f=55 then save T else if f=56 then restore T else if f=68 then rowDown T else if f=69 then nextLine T else if f=72 then setTab T else if f=77 then rowUp T else if f=99 then reset T else T
theorem escape_go (h:TM Z w t T) (ok:Ok T) (hj:T.jr.length<=90000) (hnx:T.nx<=990000) (hwf:(Lit.int .i32 f).wf=true):Calls Tryz.prog 34 #[.pointer (some ⟨t,0,none⟩),.agg #[.int .u8 k,.int .i32 r,.int .i32 pr,.slice pa pn pc,.slice ia 0 ic,.int .i32 f,.slice ta tn tc]] w (Does Z w t (escF T f)):=by
 have hbn:=Aa1 w (.cells #[.int .u8 k,.int .i32 r,.int .i32 pr,.slice pa pn pc,.slice ia 0 ic,.int .i32 f,.slice ta tn tc] 25)
 have hbx:=Block.made w 25 #[.int .u8 k,.int .i32 r,.int .i32 pr,.slice pa pn pc,.slice ia 0 ic,.int .i32 f,.slice ta tn tc]
 have hmm:=@run_makeMap Tryz.prog
 have hneq:=Cf3
 have hneqn:=Bw7
 go_enter Tryz.func34,Tryz.ntmps34
 go_upto_region 1 with (fail)
 generalize w.alloc (.cells #[.int .u8 k,.int .i32 r,.int .i32 pr,.slice pa pn pc,.slice ia 0 ic,.int .i32 f,.slice ta tn tc] 25)=w0 at hbn hbx |-
 have x4:=hbx.cell 4 (v:=.slice ia 0 ic) rfl
 have hmp:=MpN.made w0 .i32
 have hbm:=Aa1 w0 (.map #[] 0)
 have hsz:(w0.alloc (.map #[] 0)).heap.size=w0.heap.size+1:=by simp
 go_upto_region 4 with (refine Al5 Ci2 hmp ?_ ?_ ?_;rfl;decide;clear hmp;intro wn hmp hon;replace hbm:=hbm.trans (hon.below hbm.size (by simp));clear hon)
 change MpN _ _ _ escL at hmp
 clear hsz
 have xk:=(Block.only hbx (Only.of_below hbm []) (by simp)).cell 5 (v:=.int .i32 f) rfl
 have hlk0:=(Bo6 Ci2 hmp f hwf).1
 have hb:=Aa0 hbn hbm
 have hT:=h.below hb
 have hf0:Scn.Fr Z TT w wn:=Scn.Fr.of_below hb
 clear hmp hbm hbn hbx hmm h hb
 by_cases e0:f=55
 ·subst e0
  have hlk:(Instr.lookup 131 (.map (some w0.heap.size)) (.int .i32 55) false).run Tryz.prog wn=.ok (.func (.func 70) #[] #[]) wn:=hlk0
  have hc:=Bk8 hT
  rw [show (save T)=escF T 55 by simp [escF]] at hc
  replace hc:=J0 hc
  clear hT ok hlk0
  go_wp2_with (first
   |(go_at_call 70;(with_reducible refine (hc.out).mono ?_);rintro e w3 ⟨⟨v3,rfl⟩,h3,hf3⟩))
  go_end0
  exact ⟨⟨_,rfl⟩,h3,hf0.trans hf3⟩
 by_cases e1:f=56
 ·subst e1
  have hlk:(Instr.lookup 131 (.map (some w0.heap.size)) (.int .i32 56) false).run Tryz.prog wn=.ok (.func (.func 71) #[] #[]) wn:=hlk0
  have hc:=At3 hT ok hj
  rw [show (restore T)=escF T 56 by simp [escF]] at hc
  replace hc:=J0 hc
  clear hT ok hlk0
  go_wp2_with (first
   |(go_at_call 71;(with_reducible refine (hc.out).mono ?_);rintro e w3 ⟨⟨v3,rfl⟩,h3,hf3⟩))
  go_end0
  exact ⟨⟨_,rfl⟩,h3,hf0.trans hf3⟩
 by_cases e2:f=68
 ·subst e2
  have hlk:(Instr.lookup 131 (.map (some w0.heap.size)) (.int .i32 68) false).run Tryz.prog wn=.ok (.func (.func 65) #[] #[]) wn:=hlk0
  have hc:=At4 hT ok hj hnx
  rw [show (rowDown T)=escF T 68 by simp [escF]] at hc
  replace hc:=J0 hc
  clear hT ok hlk0
  go_wp2_with (first
   |(go_at_call 65;(with_reducible refine (hc.out).mono ?_);rintro e w3 ⟨⟨v3,rfl⟩,h3,hf3⟩))
  go_end0
  exact ⟨⟨_,rfl⟩,h3,hf0.trans hf3⟩
 by_cases e3:f=69
 ·subst e3
  have hlk:(Instr.lookup 131 (.map (some w0.heap.size)) (.int .i32 69) false).run Tryz.prog wn=.ok (.func (.func 66) #[] #[]) wn:=hlk0
  have hc:=Az3 hT ok hj hnx
  rw [show (nextLine T)=escF T 69 by simp [escF]] at hc
  replace hc:=J0 hc
  clear hT ok hlk0
  go_wp2_with (first
   |(go_at_call 66;(with_reducible refine (hc.out).mono ?_);rintro e w3 ⟨⟨v3,rfl⟩,h3,hf3⟩))
  go_end0
  exact ⟨⟨_,rfl⟩,h3,hf0.trans hf3⟩
 by_cases e4:f=72
 ·subst e4
  have hlk:(Instr.lookup 131 (.map (some w0.heap.size)) (.int .i32 72) false).run Tryz.prog wn=.ok (.func (.func 67) #[] #[]) wn:=hlk0
  have hc:=Bg6 hT ok
  rw [show (setTab T)=escF T 72 by simp [escF]] at hc
  replace hc:=J0 hc
  clear hT ok hlk0
  go_wp2_with (first
   |(go_at_call 67;(with_reducible refine (hc.out).mono ?_);rintro e w3 ⟨⟨v3,rfl⟩,h3,hf3⟩))
  go_end0
  exact ⟨⟨_,rfl⟩,h3,hf0.trans hf3⟩
 by_cases e5:f=77
 ·subst e5
  have hlk:(Instr.lookup 131 (.map (some w0.heap.size)) (.int .i32 77) false).run Tryz.prog wn=.ok (.func (.func 68) #[] #[]) wn:=hlk0
  have hc:=Bq2 hT ok hj hnx
  rw [show (rowUp T)=escF T 77 by simp [escF]] at hc
  replace hc:=J0 hc
  clear hT ok hlk0
  go_wp2_with (first
   |(go_at_call 68;(with_reducible refine (hc.out).mono ?_);rintro e w3 ⟨⟨v3,rfl⟩,h3,hf3⟩))
  go_end0
  exact ⟨⟨_,rfl⟩,h3,hf0.trans hf3⟩
 by_cases e6:f=99
 ·subst e6
  have hlk:(Instr.lookup 131 (.map (some w0.heap.size)) (.int .i32 99) false).run Tryz.prog wn=.ok (.func (.func 72) #[] #[]) wn:=hlk0
  have hc:=reset_any hT ok hj hnx
  rw [show (reset T)=escF T 99 by simp [escF]] at hc
  replace hc:=J0 hc
  clear hT ok hlk0
  go_wp2_with (first
   |(go_at_call 72;(with_reducible refine (hc.out).mono ?_);rintro e w3 ⟨⟨v3,rfl⟩,h3,hf3⟩))
  go_end0
  exact ⟨⟨_,rfl⟩,h3,hf0.trans hf3⟩
 have hlk:(Instr.lookup 131 (.map (some w0.heap.size)) (.int .i32 f) false).run Tryz.prog wn=.ok .nilFunc wn:=by
  rw [hlk0,escL_none e0 e1 e2 e3 e4 e5 e6]
  rfl
 have he:escF T f=T:=by simp [escF,e0,e1,e2,e3,e4,e5,e6]
 clear ok hlk0
 go_wp2
 go_end0
 exact ⟨⟨_,rfl⟩,(by rw [he];exact hT),hf0⟩
end
section
variable {Z Z1:Zn} {w w':World} {t x s d b:Nat} {S:Scr} {T:Ter} {P:Pt} {v:Value} {l:List Int} {pa ia ta:Option Addr} {pn pc im ic tn tc:Nat} {k r pr f:Int}
theorem Cf2 (f:FuncId) (w:World):(binOp .neq 134 (.func (.func f) #[] #[]) .nilFunc).run Tryz.prog w=.ok (.bool true) w:=by kernel_rfl
theorem Bk6 (w:World):(binOp .neq 134 .nilFunc .nilFunc).run Tryz.prog w=.ok (.bool false) w:=by kernel_rfl
def Bx4:List Ent:=[(65,.func (.func 118) #[] #[]),(66,.func (.func 119) #[] #[]),(67,.func (.func 120) #[] #[]),(68,.func (.func 121) #[] #[]),(69,.func (.func 122) #[] #[]),(70,.func (.func 123) #[] #[]),(71,.func (.func 124) #[] #[]),(96,.func (.func 124) #[] #[]),(72,.func (.func 125) #[] #[]),(102,.func (.func 125) #[] #[]),(100,.func (.func 126) #[] #[]),(73,.func (.func 127) #[] #[]),(90,.func (.func 128) #[] #[]),(74,.func (.func 129) #[] #[]),(75,.func (.func 130) #[] #[]),(88,.func (.func 131) #[] #[]),(64,.func (.func 132) #[] #[]),(80,.func (.func 133) #[] #[]),(76,.func (.func 134) #[] #[]),(77,.func (.func 135) #[] #[]),(83,.func (.func 136) #[] #[]),(84,.func (.func 137) #[] #[]),(114,.func (.func 138) #[] #[]),(103,.func (.func 139) #[] #[]),(109,.func (.func 140) #[] #[]),(104,.func (.func 141) #[] #[]),(108,.func (.func 142) #[] #[]),(110,.func (.func 143) #[] #[]),(99,.func (.func 144) #[] #[])]
theorem plainL_none {n:Int} (h0:n≠65) (h1:n≠66) (h2:n≠67) (h3:n≠68) (h4:n≠69) (h5:n≠70) (h6:n≠71) (h7:n≠96) (h8:n≠72) (h9:n≠102) (h10:n≠100) (h11:n≠73) (h12:n≠90) (h13:n≠74) (h14:n≠75) (h15:n≠88) (h16:n≠64) (h17:n≠80) (h18:n≠76) (h19:n≠77) (h20:n≠83) (h21:n≠84) (h22:n≠114) (h23:n≠103) (h24:n≠109) (h25:n≠104) (h26:n≠108) (h27:n≠110) (h28:n≠99):findM Bx4 n=none:=by
 simp [Bx4,findM,h0,h1,h2,h3,h4,h5,h6,h7,h8,h9,h10,h11,h12,h13,h14,h15,h16,h17,h18,h19,h20,h21,h22,h23,h24,h25,h26,h27,h28]
theorem plain_any (w:World):Calls Tryz.prog 73 #[] w fun e w'=>e=.returned (.map (some w.heap.size))/\MpN w' w.heap.size .i32 Bx4/\Below w.heap.size w w':=by
 have hmm:=@run_makeMap Tryz.prog
 have hmp:=MpN.made w .i32
 have hbm:=Aa1 w (.map #[] 0)
 have hsz:(w.alloc (.map #[] 0)).heap.size=w.heap.size+1:=by simp
 go_enter Tryz.func73,Tryz.ntmps73
 go_wp2_with (refine Al5 mtCsi hmp ?_ ?_ ?_;rfl;decide;clear hmp;intro wn hmp hon;replace hbm:=hbm.trans (hon.below hbm.size (by simp));clear hon)
 change MpN _ _ _ Bx4 at hmp
 go_ret
 exact ⟨rfl,hmp,hbm⟩
def Ci4:List Ent:=[(104,.func (.func 145) #[] #[]),(108,.func (.func 146) #[] #[])]
theorem privL_none {n:Int} (h0:n≠104) (h1:n≠108):findM Ci4 n=none:=by
 simp [Ci4,findM,h0,h1]
theorem private_any (w:World):Calls Tryz.prog 74 #[] w fun e w'=>e=.returned (.map (some w.heap.size))/\MpN w' w.heap.size .i32 Ci4/\Below w.heap.size w w':=by
 have hmm:=@run_makeMap Tryz.prog
 have hmp:=MpN.made w .i32
 have hbm:=Aa1 w (.map #[] 0)
 have hsz:(w.alloc (.map #[] 0)).heap.size=w.heap.size+1:=by simp
 go_enter Tryz.func74,Tryz.ntmps74
 go_wp2_with (refine Al5 mtCsi hmp ?_ ?_ ?_;rfl;decide;clear hmp;intro wn hmp hon;replace hbm:=hbm.trans (hon.below hbm.size (by simp));clear hon)
 change MpN _ _ _ Ci4 at hmp
 go_ret
 exact ⟨rfl,hmp,hbm⟩
end
