/- Part 38 of the proof that the card of HostNone holds. -/
import Derived.Test.YtbafmljidapmgaaGreatDoorN37
set_option maxHeartbeats 16000000
set_option maxRecDepth 100000
namespace Go.Proofs.YtbafmljidapmgaaGreatDoor.Emu
open Go RowKit Com Rw Lns Scn
section
variable {Z Z1:Zn} {w w':World} {t x s d b:Nat} {S:Scr} {T:Ter} {P:Pt} {v:Value} {l:List Int} {pa ia ta:Option Addr} {pn pc im ic tn tc:Nat} {k r pr f:Int}
theorem seq_plain (h:TM Z w t T) (ok:Ok T) (hj:T.jr.length<=90000000) (hnx:T.nx<=9900000000) (hr:T.rp.length<=10000000000) (hp:NA Z w (.slice pa pn pc) l) (hwf:(Lit.int .i32 f).wf=true):Calls Tryz.prog 204 #[.pointer (some ⟨t,0,none⟩),.agg #[.int .u8 k,.int .i32 r,.int .i32 0,.slice pa pn pc,.slice ia 0 ic,.int .i32 f,.slice ta tn tc]] w (Does Z w t (plain T f l)):=by
 have hbn:=Aa1 w (.cells #[.int .u8 k,.int .i32 r,.int .i32 0,.slice pa pn pc,.slice ia 0 ic,.int .i32 f,.slice ta tn tc] 112)
 have hbx:=Block.made w 112 #[.int .u8 k,.int .i32 r,.int .i32 0,.slice pa pn pc,.slice ia 0 ic,.int .i32 f,.slice ta tn tc]
 have hmm:=@run_makeMap Tryz.prog
 have hneq:=Ch3
 have hneqn:=Bm7
 go_enter Tryz.func204,Tryz.ntmps204
 go_upto_region 1 with (fail)
 generalize w.alloc (.cells #[.int .u8 k,.int .i32 r,.int .i32 0,.slice pa pn pc,.slice ia 0 ic,.int .i32 f,.slice ta tn tc] 112)=w0 at hbn hbx |-
 have x4:=hbx.cell 4 (v:=.slice ia 0 ic) rfl
 have x2:=hbx.cell 2 (v:=.int .i32 0) rfl
 have hpm:=J0 (plain_any w0)
 go_upto_region 8 with ((go_at_call 283;(with_reducible refine (hpm.out).mono ?_);rintro e wn ⟨rfl,hmp,hbm⟩))
 have xk:=(Block.only hbx (Only.of_below hbm []) (by simp)).cell 5 (v:=.int .i32 f) rfl
 have xp:=(Block.only hbx (Only.of_below hbm []) (by simp)).cell 3 (v:=.slice pa pn pc) rfl
 have hlk0:=(Bq6 mtCsi hmp f hwf).1
 have hb:=Aa0 hbn hbm
 have hT:=h.below hb
 have hf0:Scn.Fr Z TT w wn:=Scn.Fr.of_below hb
 have hp9:=hp.below hb
 clear hmp hbm hbn hbx hmm h hb
 by_cases e0:f=65
 ·subst e0
  have hlk:(Instr.lookup 316 (.map (some w0.heap.size)) (.int .i32 65) false).run Tryz.prog wn=.ok (.func (.func 321) #[] #[]) wn:=hlk0
  have hc:=goUp_any hT ok hj hp9
  rw [show (goUp T l)=plain T 65 l by simp [plain]] at hc
  replace hc:=J0 hc
  clear hT ok hlk0
  go_wp2_with (first
   |(go_at_call 321;(with_reducible refine (hc.out).mono ?_);rintro e w3 ⟨⟨v3,rfl⟩,h3,hf3⟩))
  go_end0
  exact ⟨⟨_,rfl⟩,h3,hf0.trans hf3⟩
 by_cases e1:f=66
 ·subst e1
  have hlk:(Instr.lookup 316 (.map (some w0.heap.size)) (.int .i32 66) false).run Tryz.prog wn=.ok (.func (.func 322) #[] #[]) wn:=hlk0
  have hc:=goDown_any hT ok hj hp9
  rw [show (goDown T l)=plain T 66 l by simp [plain]] at hc
  replace hc:=J0 hc
  clear hT ok hlk0
  go_wp2_with (first
   |(go_at_call 322;(with_reducible refine (hc.out).mono ?_);rintro e w3 ⟨⟨v3,rfl⟩,h3,hf3⟩))
  go_end0
  exact ⟨⟨_,rfl⟩,h3,hf0.trans hf3⟩
 by_cases e2:f=67
 ·subst e2
  have hlk:(Instr.lookup 316 (.map (some w0.heap.size)) (.int .i32 67) false).run Tryz.prog wn=.ok (.func (.func 323) #[] #[]) wn:=hlk0
  have hc:=Bl5 hT ok hj hp9
  rw [show (goOn T l)=plain T 67 l by simp [plain]] at hc
  replace hc:=J0 hc
  clear hT ok hlk0
  go_wp2_with (first
   |(go_at_call 323;(with_reducible refine (hc.out).mono ?_);rintro e w3 ⟨⟨v3,rfl⟩,h3,hf3⟩))
  go_end0
  exact ⟨⟨_,rfl⟩,h3,hf0.trans hf3⟩
 by_cases e3:f=68
 ·subst e3
  have hlk:(Instr.lookup 316 (.map (some w0.heap.size)) (.int .i32 68) false).run Tryz.prog wn=.ok (.func (.func 324) #[] #[]) wn:=hlk0
  have hc:=goBack_any hT ok hj hp9
  rw [show (goBack T l)=plain T 68 l by simp [plain]] at hc
  replace hc:=J0 hc
  clear hT ok hlk0
  go_wp2_with (first
   |(go_at_call 324;(with_reducible refine (hc.out).mono ?_);rintro e w3 ⟨⟨v3,rfl⟩,h3,hf3⟩))
  go_end0
  exact ⟨⟨_,rfl⟩,h3,hf0.trans hf3⟩
 by_cases e4:f=69
 ·subst e4
  have hlk:(Instr.lookup 316 (.map (some w0.heap.size)) (.int .i32 69) false).run Tryz.prog wn=.ok (.func (.func 325) #[] #[]) wn:=hlk0
  have hc:=goDownB_any hT ok hj hp9
  rw [show (Bt8 T l)=plain T 69 l by simp [plain]] at hc
  replace hc:=J0 hc
  clear hT ok hlk0
  go_wp2_with (first
   |(go_at_call 325;(with_reducible refine (hc.out).mono ?_);rintro e w3 ⟨⟨v3,rfl⟩,h3,hf3⟩))
  go_end0
  exact ⟨⟨_,rfl⟩,h3,hf0.trans hf3⟩
 by_cases e5:f=70
 ·subst e5
  have hlk:(Instr.lookup 316 (.map (some w0.heap.size)) (.int .i32 70) false).run Tryz.prog wn=.ok (.func (.func 326) #[] #[]) wn:=hlk0
  have hc:=goUpB_any hT ok hj hp9
  rw [show (Cp4 T l)=plain T 70 l by simp [plain]] at hc
  replace hc:=J0 hc
  clear hT ok hlk0
  go_wp2_with (first
   |(go_at_call 326;(with_reducible refine (hc.out).mono ?_);rintro e w3 ⟨⟨v3,rfl⟩,h3,hf3⟩))
  go_end0
  exact ⟨⟨_,rfl⟩,h3,hf0.trans hf3⟩
 by_cases e6:f=71
 ·subst e6
  have hlk:(Instr.lookup 316 (.map (some w0.heap.size)) (.int .i32 71) false).run Tryz.prog wn=.ok (.func (.func 327) #[] #[]) wn:=hlk0
  have hc:=Bs9 hT ok hj hp9
  rw [show (toCol T l)=plain T 71 l by simp [plain]] at hc
  replace hc:=J0 hc
  clear hT ok hlk0
  go_wp2_with (first
   |(go_at_call 327;(with_reducible refine (hc.out).mono ?_);rintro e w3 ⟨⟨v3,rfl⟩,h3,hf3⟩))
  go_end0
  exact ⟨⟨_,rfl⟩,h3,hf0.trans hf3⟩
 by_cases e7:f=96
 ·subst e7
  have hlk:(Instr.lookup 316 (.map (some w0.heap.size)) (.int .i32 96) false).run Tryz.prog wn=.ok (.func (.func 327) #[] #[]) wn:=hlk0
  have hc:=Bs9 hT ok hj hp9
  rw [show (toCol T l)=plain T 96 l by simp [plain]] at hc
  replace hc:=J0 hc
  clear hT ok hlk0
  go_wp2_with (first
   |(go_at_call 327;(with_reducible refine (hc.out).mono ?_);rintro e w3 ⟨⟨v3,rfl⟩,h3,hf3⟩))
  go_end0
  exact ⟨⟨_,rfl⟩,h3,hf0.trans hf3⟩
 by_cases e8:f=72
 ·subst e8
  have hlk:(Instr.lookup 316 (.map (some w0.heap.size)) (.int .i32 72) false).run Tryz.prog wn=.ok (.func (.func 328) #[] #[]) wn:=hlk0
  have hc:=Bg5 hT ok hj hp9
  rw [show (toPlace T l)=plain T 72 l by simp [plain]] at hc
  replace hc:=J0 hc
  clear hT ok hlk0
  go_wp2_with (first
   |(go_at_call 328;(with_reducible refine (hc.out).mono ?_);rintro e w3 ⟨⟨v3,rfl⟩,h3,hf3⟩))
  go_end0
  exact ⟨⟨_,rfl⟩,h3,hf0.trans hf3⟩
 by_cases e9:f=102
 ·subst e9
  have hlk:(Instr.lookup 316 (.map (some w0.heap.size)) (.int .i32 102) false).run Tryz.prog wn=.ok (.func (.func 328) #[] #[]) wn:=hlk0
  have hc:=Bg5 hT ok hj hp9
  rw [show (toPlace T l)=plain T 102 l by simp [plain]] at hc
  replace hc:=J0 hc
  clear hT ok hlk0
  go_wp2_with (first
   |(go_at_call 328;(with_reducible refine (hc.out).mono ?_);rintro e w3 ⟨⟨v3,rfl⟩,h3,hf3⟩))
  go_end0
  exact ⟨⟨_,rfl⟩,h3,hf0.trans hf3⟩
 by_cases e10:f=100
 ·subst e10
  have hlk:(Instr.lookup 316 (.map (some w0.heap.size)) (.int .i32 100) false).run Tryz.prog wn=.ok (.func (.func 329) #[] #[]) wn:=hlk0
  have hc:=toRow_any hT ok hj hp9
  rw [show (toRow T l)=plain T 100 l by simp [plain]] at hc
  replace hc:=J0 hc
  clear hT ok hlk0
  go_wp2_with (first
   |(go_at_call 329;(with_reducible refine (hc.out).mono ?_);rintro e w3 ⟨⟨v3,rfl⟩,h3,hf3⟩))
  go_end0
  exact ⟨⟨_,rfl⟩,h3,hf0.trans hf3⟩
 by_cases e11:f=73
 ·subst e11
  have hlk:(Instr.lookup 316 (.map (some w0.heap.size)) (.int .i32 73) false).run Tryz.prog wn=.ok (.func (.func 330) #[] #[]) wn:=hlk0
  have hc:=tabsOn_any hT ok hj hp9
  rw [show (tabsOn T l)=plain T 73 l by simp [plain]] at hc
  replace hc:=J0 hc
  clear hT ok hlk0
  go_wp2_with (first
   |(go_at_call 330;(with_reducible refine (hc.out).mono ?_);rintro e w3 ⟨⟨v3,rfl⟩,h3,hf3⟩))
  go_end0
  exact ⟨⟨_,rfl⟩,h3,hf0.trans hf3⟩
 by_cases e12:f=90
 ·subst e12
  have hlk:(Instr.lookup 316 (.map (some w0.heap.size)) (.int .i32 90) false).run Tryz.prog wn=.ok (.func (.func 331) #[] #[]) wn:=hlk0
  have hc:=tabsBack_any hT ok hj hp9
  rw [show (tabsBack T l)=plain T 90 l by simp [plain]] at hc
  replace hc:=J0 hc
  clear hT ok hlk0
  go_wp2_with (first
   |(go_at_call 331;(with_reducible refine (hc.out).mono ?_);rintro e w3 ⟨⟨v3,rfl⟩,h3,hf3⟩))
  go_end0
  exact ⟨⟨_,rfl⟩,h3,hf0.trans hf3⟩
 by_cases e13:f=74
 ·subst e13
  have hlk:(Instr.lookup 316 (.map (some w0.heap.size)) (.int .i32 74) false).run Tryz.prog wn=.ok (.func (.func 332) #[] #[]) wn:=hlk0
  have hc:=eraseScr_any hT ok hj hp9
  rw [show (Aq5 T (atN l 0))=plain T 74 l by simp [plain]] at hc
  replace hc:=J0 hc
  clear hT ok hlk0
  go_wp2_with (first
   |(go_at_call 332;(with_reducible refine (hc.out).mono ?_);rintro e w3 ⟨⟨v3,rfl⟩,h3,hf3⟩))
  go_end0
  exact ⟨⟨_,rfl⟩,h3,hf0.trans hf3⟩
 by_cases e14:f=75
 ·subst e14
  have hlk:(Instr.lookup 316 (.map (some w0.heap.size)) (.int .i32 75) false).run Tryz.prog wn=.ok (.func (.func 333) #[] #[]) wn:=hlk0
  have hc:=Af7 hT ok hj hp9
  rw [show (eraseLine T (atN l 0))=plain T 75 l by simp [plain]] at hc
  replace hc:=J0 hc
  clear hT ok hlk0
  go_wp2_with (first
   |(go_at_call 333;(with_reducible refine (hc.out).mono ?_);rintro e w3 ⟨⟨v3,rfl⟩,h3,hf3⟩))
  go_end0
  exact ⟨⟨_,rfl⟩,h3,hf0.trans hf3⟩
 by_cases e15:f=88
 ·subst e15
  have hlk:(Instr.lookup 316 (.map (some w0.heap.size)) (.int .i32 88) false).run Tryz.prog wn=.ok (.func (.func 334) #[] #[]) wn:=hlk0
  have hc:=eraseCells_any hT ok hj hp9
  rw [show (eraseCells T l)=plain T 88 l by simp [plain]] at hc
  replace hc:=J0 hc
  clear hT ok hlk0
  go_wp2_with (first
   |(go_at_call 334;(with_reducible refine (hc.out).mono ?_);rintro e w3 ⟨⟨v3,rfl⟩,h3,hf3⟩))
  go_end0
  exact ⟨⟨_,rfl⟩,h3,hf0.trans hf3⟩
 by_cases e16:f=64
 ·subst e16
  have hlk:(Instr.lookup 316 (.map (some w0.heap.size)) (.int .i32 64) false).run Tryz.prog wn=.ok (.func (.func 335) #[] #[]) wn:=hlk0
  have hc:=insertCells_any hT ok hj hp9
  rw [show (insertCells T l)=plain T 64 l by simp [plain]] at hc
  replace hc:=J0 hc
  clear hT ok hlk0
  go_wp2_with (first
   |(go_at_call 335;(with_reducible refine (hc.out).mono ?_);rintro e w3 ⟨⟨v3,rfl⟩,h3,hf3⟩))
  go_end0
  exact ⟨⟨_,rfl⟩,h3,hf0.trans hf3⟩
 by_cases e17:f=80
 ·subst e17
  have hlk:(Instr.lookup 316 (.map (some w0.heap.size)) (.int .i32 80) false).run Tryz.prog wn=.ok (.func (.func 336) #[] #[]) wn:=hlk0
  have hc:=deleteCells_any hT ok hj hp9
  rw [show (deleteCells T l)=plain T 80 l by simp [plain]] at hc
  replace hc:=J0 hc
  clear hT ok hlk0
  go_wp2_with (first
   |(go_at_call 336;(with_reducible refine (hc.out).mono ?_);rintro e w3 ⟨⟨v3,rfl⟩,h3,hf3⟩))
  go_end0
  exact ⟨⟨_,rfl⟩,h3,hf0.trans hf3⟩
 by_cases e18:f=76
 ·subst e18
  have hlk:(Instr.lookup 316 (.map (some w0.heap.size)) (.int .i32 76) false).run Tryz.prog wn=.ok (.func (.func 337) #[] #[]) wn:=hlk0
  have hc:=insertLines_any hT ok hj hnx hp9
  rw [show (insertLines T l)=plain T 76 l by simp [plain]] at hc
  replace hc:=J0 hc
  clear hT ok hlk0
  go_wp2_with (first
   |(go_at_call 337;(with_reducible refine (hc.out).mono ?_);rintro e w3 ⟨⟨v3,rfl⟩,h3,hf3⟩))
  go_end0
  exact ⟨⟨_,rfl⟩,h3,hf0.trans hf3⟩
 by_cases e19:f=77
 ·subst e19
  have hlk:(Instr.lookup 316 (.map (some w0.heap.size)) (.int .i32 77) false).run Tryz.prog wn=.ok (.func (.func 338) #[] #[]) wn:=hlk0
  have hc:=deleteLines_any hT ok hj hnx hp9
  rw [show (deleteLines T l)=plain T 77 l by simp [plain]] at hc
  replace hc:=J0 hc
  clear hT ok hlk0
  go_wp2_with (first
   |(go_at_call 338;(with_reducible refine (hc.out).mono ?_);rintro e w3 ⟨⟨v3,rfl⟩,h3,hf3⟩))
  go_end0
  exact ⟨⟨_,rfl⟩,h3,hf0.trans hf3⟩
 by_cases e20:f=83
 ·subst e20
  have hlk:(Instr.lookup 316 (.map (some w0.heap.size)) (.int .i32 83) false).run Tryz.prog wn=.ok (.func (.func 339) #[] #[]) wn:=hlk0
  have hc:=scrollUp_any hT ok hj hnx hp9
  rw [show (scrollUp T l)=plain T 83 l by simp [plain]] at hc
  replace hc:=J0 hc
  clear hT ok hlk0
  go_wp2_with (first
   |(go_at_call 339;(with_reducible refine (hc.out).mono ?_);rintro e w3 ⟨⟨v3,rfl⟩,h3,hf3⟩))
  go_end0
  exact ⟨⟨_,rfl⟩,h3,hf0.trans hf3⟩
 by_cases e21:f=84
 ·subst e21
  have hlk:(Instr.lookup 316 (.map (some w0.heap.size)) (.int .i32 84) false).run Tryz.prog wn=.ok (.func (.func 340) #[] #[]) wn:=hlk0
  have hc:=scrollDown_any hT ok hj hnx hp9
  rw [show (scrollDown T l)=plain T 84 l by simp [plain]] at hc
  replace hc:=J0 hc
  clear hT ok hlk0
  go_wp2_with (first
   |(go_at_call 340;(with_reducible refine (hc.out).mono ?_);rintro e w3 ⟨⟨v3,rfl⟩,h3,hf3⟩))
  go_end0
  exact ⟨⟨_,rfl⟩,h3,hf0.trans hf3⟩
 by_cases e22:f=114
 ·subst e22
  have hlk:(Instr.lookup 316 (.map (some w0.heap.size)) (.int .i32 114) false).run Tryz.prog wn=.ok (.func (.func 341) #[] #[]) wn:=hlk0
  have hc:=setMargins_any hT ok hj hp9
  rw [show (setMargins T l)=plain T 114 l by simp [plain]] at hc
  replace hc:=J0 hc
  clear hT ok hlk0
  go_wp2_with (first
   |(go_at_call 341;(with_reducible refine (hc.out).mono ?_);rintro e w3 ⟨⟨v3,rfl⟩,h3,hf3⟩))
  go_end0
  exact ⟨⟨_,rfl⟩,h3,hf0.trans hf3⟩
 by_cases e23:f=103
 ·subst e23
  have hlk:(Instr.lookup 316 (.map (some w0.heap.size)) (.int .i32 103) false).run Tryz.prog wn=.ok (.func (.func 342) #[] #[]) wn:=hlk0
  have hc:=clearTabs_any hT ok hp9
  rw [show (clearTabs T l)=plain T 103 l by simp [plain]] at hc
  replace hc:=J0 hc
  clear hT ok hlk0
  go_wp2_with (first
   |(go_at_call 342;(with_reducible refine (hc.out).mono ?_);rintro e w3 ⟨⟨v3,rfl⟩,h3,hf3⟩))
  go_end0
  exact ⟨⟨_,rfl⟩,h3,hf0.trans hf3⟩
 by_cases e24:f=109
 ·subst e24
  have hlk:(Instr.lookup 316 (.map (some w0.heap.size)) (.int .i32 109) false).run Tryz.prog wn=.ok (.func (.func 343) #[] #[]) wn:=hlk0
  have hc:=Bm5 hT hp9
  rw [show (look T l)=plain T 109 l by simp [plain]] at hc
  replace hc:=J0 hc
  clear hT ok hlk0
  go_wp2_with (first
   |(go_at_call 343;(with_reducible refine (hc.out).mono ?_);rintro e w3 ⟨⟨v3,rfl⟩,h3,hf3⟩))
  go_end0
  exact ⟨⟨_,rfl⟩,h3,hf0.trans hf3⟩
 by_cases e25:f=104
 ·subst e25
  have hlk:(Instr.lookup 316 (.map (some w0.heap.size)) (.int .i32 104) false).run Tryz.prog wn=.ok (.func (.func 344) #[] #[]) wn:=hlk0
  have hc:=modesOn_any hT hp9
  rw [show (setModes T l true)=plain T 104 l by simp [plain]] at hc
  replace hc:=J0 hc
  clear hT ok hlk0
  go_wp2_with (first
   |(go_at_call 344;(with_reducible refine (hc.out).mono ?_);rintro e w3 ⟨⟨v3,rfl⟩,h3,hf3⟩))
  go_end0
  exact ⟨⟨_,rfl⟩,h3,hf0.trans hf3⟩
 by_cases e26:f=108
 ·subst e26
  have hlk:(Instr.lookup 316 (.map (some w0.heap.size)) (.int .i32 108) false).run Tryz.prog wn=.ok (.func (.func 345) #[] #[]) wn:=hlk0
  have hc:=modesOff_any hT hp9
  rw [show (setModes T l false)=plain T 108 l by simp [plain]] at hc
  replace hc:=J0 hc
  clear hT ok hlk0
  go_wp2_with (first
   |(go_at_call 345;(with_reducible refine (hc.out).mono ?_);rintro e w3 ⟨⟨v3,rfl⟩,h3,hf3⟩))
  go_end0
  exact ⟨⟨_,rfl⟩,h3,hf0.trans hf3⟩
 by_cases e27:f=110
 ·subst e27
  have hlk:(Instr.lookup 316 (.map (some w0.heap.size)) (.int .i32 110) false).run Tryz.prog wn=.ok (.func (.func 346) #[] #[]) wn:=hlk0
  have hc:=report_any hT ok hr hp9
  rw [show (report T l)=plain T 110 l by simp [plain]] at hc
  replace hc:=J0 hc
  clear hT ok hlk0
  go_wp2_with (first
   |(go_at_call 346;(with_reducible refine (hc.out).mono ?_);rintro e w3 ⟨⟨v3,rfl⟩,h3,hf3⟩))
  go_end0
  exact ⟨⟨_,rfl⟩,h3,hf0.trans hf3⟩
 by_cases e28:f=99
 ·subst e28
  have hlk:(Instr.lookup 316 (.map (some w0.heap.size)) (.int .i32 99) false).run Tryz.prog wn=.ok (.func (.func 347) #[] #[]) wn:=hlk0
  have hc:=device_any hT hr hp9
  rw [show (device T l)=plain T 99 l by simp [plain]] at hc
  replace hc:=J0 hc
  clear hT ok hlk0
  go_wp2_with (first
   |(go_at_call 347;(with_reducible refine (hc.out).mono ?_);rintro e w3 ⟨⟨v3,rfl⟩,h3,hf3⟩))
  go_end0
  exact ⟨⟨_,rfl⟩,h3,hf0.trans hf3⟩
 have hlk:(Instr.lookup 316 (.map (some w0.heap.size)) (.int .i32 f) false).run Tryz.prog wn=.ok .nilFunc wn:=by
  rw [hlk0,plainL_none e0 e1 e2 e3 e4 e5 e6 e7 e8 e9 e10 e11 e12 e13 e14 e15 e16 e17 e18 e19 e20 e21 e22 e23 e24 e25 e26 e27 e28]
  rfl
 have he:plain T f l=T:=by simp [plain,e0,e1,e2,e3,e4,e5,e6,e7,e8,e9,e10,e11,e12,e13,e14,e15,e16,e17,e18,e19,e20,e21,e22,e23,e24,e25,e26,e27,e28]
 clear ok hlk0
 go_wp2
 go_end0
 exact ⟨⟨_,rfl⟩,(by rw [he];exact hT),hf0⟩
def Bu9 (T:Ter) (f:Int) (l:List Int):Ter:=if f=104 then Ac1 T l true else if f=108 then Ac1 T l false else T
theorem seq_priv (h:TM Z w t T) (ok:Ok T) (hj9:T.jr.length+l.length*2<=89000000) (hnx9:T.nx+l.length*T.main.L.length<=9900000000) (hp:NA Z w (.slice pa pn pc) l) (hwf:(Lit.int .i32 f).wf=true):Calls Tryz.prog 204 #[.pointer (some ⟨t,0,none⟩),.agg #[.int .u8 k,.int .i32 r,.int .i32 63,.slice pa pn pc,.slice ia 0 ic,.int .i32 f,.slice ta tn tc]] w (Does Z w t (Bu9 T f l)):=by
 have hbn:=Aa1 w (.cells #[.int .u8 k,.int .i32 r,.int .i32 63,.slice pa pn pc,.slice ia 0 ic,.int .i32 f,.slice ta tn tc] 112)
 have hbx:=Block.made w 112 #[.int .u8 k,.int .i32 r,.int .i32 63,.slice pa pn pc,.slice ia 0 ic,.int .i32 f,.slice ta tn tc]
 have hmm:=@run_makeMap Tryz.prog
 have hneq:=Ch3
 have hneqn:=Bm7
 go_enter Tryz.func204,Tryz.ntmps204
 go_upto_region 1 with (fail)
 generalize w.alloc (.cells #[.int .u8 k,.int .i32 r,.int .i32 63,.slice pa pn pc,.slice ia 0 ic,.int .i32 f,.slice ta tn tc] 112)=w0 at hbn hbx |-
 have x4:=hbx.cell 4 (v:=.slice ia 0 ic) rfl
 have x2:=hbx.cell 2 (v:=.int .i32 63) rfl
 have hpm:=J0 (private_any w0)
 go_upto_region 8 with ((go_at_call 284;(with_reducible refine (hpm.out).mono ?_);rintro e wn ⟨rfl,hmp,hbm⟩))
 have xk:=(Block.only hbx (Only.of_below hbm []) (by simp)).cell 5 (v:=.int .i32 f) rfl
 have xp:=(Block.only hbx (Only.of_below hbm []) (by simp)).cell 3 (v:=.slice pa pn pc) rfl
 have hlk0:=(Bq6 mtCsi hmp f hwf).1
 have hb:=Aa0 hbn hbm
 have hT:=h.below hb
 have hf0:Scn.Fr Z TT w wn:=Scn.Fr.of_below hb
 have hp9:=hp.below hb
 clear hmp hbm hbn hbx hmm h hb
 by_cases e0:f=104
 ·subst e0
  have hlk:(Instr.lookup 316 (.map (some w0.heap.size)) (.int .i32 104) false).run Tryz.prog wn=.ok (.func (.func 348) #[] #[]) wn:=hlk0
  have hc:=privatesOn_any hT ok hj9 hnx9 hp9
  rw [show (Ac1 T l true)=Bu9 T 104 l by simp [Bu9]] at hc
  replace hc:=J0 hc
  clear hT ok hlk0
  go_wp2_with (first
   |(go_at_call 348;(with_reducible refine (hc.out).mono ?_);rintro e w3 ⟨⟨v3,rfl⟩,h3,hf3⟩))
  go_end0
  exact ⟨⟨_,rfl⟩,h3,hf0.trans hf3⟩
 by_cases e1:f=108
 ·subst e1
  have hlk:(Instr.lookup 316 (.map (some w0.heap.size)) (.int .i32 108) false).run Tryz.prog wn=.ok (.func (.func 349) #[] #[]) wn:=hlk0
  have hc:=privatesOff_any hT ok hj9 hnx9 hp9
  rw [show (Ac1 T l false)=Bu9 T 108 l by simp [Bu9]] at hc
  replace hc:=J0 hc
  clear hT ok hlk0
  go_wp2_with (first
   |(go_at_call 349;(with_reducible refine (hc.out).mono ?_);rintro e w3 ⟨⟨v3,rfl⟩,h3,hf3⟩))
  go_end0
  exact ⟨⟨_,rfl⟩,h3,hf0.trans hf3⟩
 have hlk:(Instr.lookup 316 (.map (some w0.heap.size)) (.int .i32 f) false).run Tryz.prog wn=.ok .nilFunc wn:=by
  rw [hlk0,privL_none e0 e1]
  rfl
 have he:Bu9 T f l=T:=by simp [Bu9,e0,e1]
 clear ok hlk0
 go_wp2
 go_end0
 exact ⟨⟨_,rfl⟩,(by rw [he];exact hT),hf0⟩
end
section
variable {Z Z1:Zn} {w w':World} {t x s d b:Nat} {S:Scr} {T:Ter} {P:Pt} {v:Value} {l:List Int} {pa ia ta:Option Addr} {pn pc im ic tn tc:Nat} {k r pr f:Int}
def Ck9:List Ent:=[(40,.int .i64 0),(41,.int .i64 1)]
def Cp7:List Ent:=[(48,.int .u8 2),(65,.int .u8 1),(66,.int .u8 0)]
def RA (Z:Zn) (w:World) (ao:Option Addr) (l:List Int):Prop:=NumsP w (Kept Z w) .i32 ao l
theorem RA.below (h:RA Z w ia l) (hb:Below w.heap.size w w'):RA Z w' ia l:=fun i x hx=>by
 obtain ⟨ad,e,hk,hc⟩:=h i x hx
 have hf:=Scn.Fr.of_below (B:=Z) (ts:=TT) hb
 exact ⟨ad,e,(hk.fr hf).1,(World.cell?_of_block (w:=w) (by rw [Ad3];exact (hk.fr hf).2)).trans hc⟩
theorem TMx.setG (h:TMx Z w t T P) (v:Int):(TMx Z (w.setCell ⟨t,14,none⟩ (.int .u8 v)) t (setG T false v) P/\Scn.Fr Z TT w (w.setCell ⟨t,14,none⟩ (.int .u8 v)))/\(TMx Z (w.setCell ⟨t,15,none⟩ (.int .u8 v)) t (setG T true v) P/\Scn.Fr Z TT w (w.setCell ⟨t,15,none⟩ (.int .u8 v))) :=
 ⟨h.turn (m:=T.m) (c:=T.c) (p:={ T.p with g0:=v }) (n:=T.prints) (e:=T.last) (Only.setCell w ⟨t,14,none⟩ _) (h.blk.set 14 _),h.turn (m:=T.m) (c:=T.c) (p:={ T.p with g1:=v }) (n:=T.prints) (e:=T.last) (Only.setCell w ⟨t,15,none⟩ _) (h.blk.set 15 _)⟩
def wv (b:Bool):Value:=.int .i64 (if b then 1 else 0)
theorem find_which (r:Int):findM Ck9 r=(At9 r).map wv:=by
 unfold At9
 by_cases h0:r=40
 ·rw [if_pos h0,h0];rfl
 ·by_cases h1:r=41
  ·rw [if_neg h0,if_pos h1,h1];rfl
  ·rw [if_neg h0,if_neg h1]
   simp [Ck9,findM,h0,h1]
theorem find_set (f:Int):findM Cp7 f=(Bn0 f).map (Value.int .u8):=by
 unfold Bn0
 by_cases h0:f=48
 ·rw [if_pos h0,h0];rfl
 ·by_cases h1:f=65
  ·rw [if_neg h0,if_pos h1,h1];rfl
  ·by_cases h2:f=66
   ·rw [if_neg h0,if_neg h1,if_pos h2,h2];rfl
   ·rw [if_neg h0,if_neg h1,if_neg h2]
    simp [Cp7,findM,h0,h1,h2]
def choF (T:Ter) (l:List Int) (f:Int):Ter:=match l with
 |[r]=>match At9 r,Bn0 f with
  |some b,some v=>setG T b v
  |_,_=>T
 |_=>T
theorem choF_many {T:Ter} {l:List Int} (h:l.length≠1) (f:Int):choF T l f=T:=by
 unfold choF
 split
 ·exact absurd rfl h
 ·rfl
theorem choose_in {ad:Addr} (h:TMx Z w t T P) (r0:Int) (hr0:(Lit.int .i32 r0).wf=true) (hf0:(Lit.int .i32 f).wf=true) (hm1:1<=im) (hx:∀ w1,Below w.heap.size w w1->w1.cell? ad=some (.int .i32 r0)):Calls Tryz.prog 279 #[.pointer (some ⟨t,0,none⟩),.agg #[.int .u8 k,.int .i32 r,.int .i32 pr,.slice pa pn pc,.slice (some ad) im ic,.int .i32 f,.slice ta tn tc]] w (Does Z w t (if im=1 then choF T [r0] f else T)):=by
 have hbn:=Aa1 w (.cells #[.int .u8 k,.int .i32 r,.int .i32 pr,.slice pa pn pc,.slice (some ad) im ic,.int .i32 f,.slice ta tn tc] 112)
 have hbx:=Block.made w 112 #[.int .u8 k,.int .i32 r,.int .i32 pr,.slice pa pn pc,.slice (some ad) im ic,.int .i32 f,.slice ta tn tc]
 have hmm:=@run_makeMap Tryz.prog
 have hip:(0:Int)<(im:Int):=by omega
 go_enter Tryz.func279,Tryz.ntmps279
 go_upto_region 1 with (fail)
 generalize w.alloc (.cells #[.int .u8 k,.int .i32 r,.int .i32 pr,.slice pa pn pc,.slice (some ad) im ic,.int .i32 f,.slice ta tn tc] 112)=w0 at hbn hbx |-
 have hmp:=MpN.made w0 .i32
 have hbm:=Aa1 w0 (.map #[] 0)
 have hsz:(w0.alloc (.map #[] 0)).heap.size=w0.heap.size+1:=by simp
 go_upto_region 2 with (refine Am1 Ch2 hmp ?_ ?_ ?_;rfl;decide;clear hmp;intro wn hmp hon;replace hbm:=hbm.trans (hon.below hbm.size (by simp));clear hon)
 change MpN _ _ _ Ck9 at hmp
 clear hsz
 generalize hb1e:w0.heap.size=b1 at hmp |-
 have hmq:=MpN.made wn .i32
 have hbq:=Aa1 wn (.map #[] 0)
 have hsz:(wn.alloc (.map #[] 0)).heap.size=wn.heap.size+1:=by simp
 go_upto_region 3 with (refine Am1 Cn7 hmq ?_ ?_ ?_;rfl;decide;clear hmq;intro wm hmq hon;replace hbq:=hbq.trans (hon.below hbq.size (by simp));clear hon)
 change MpN _ _ _ Cp7 at hmq
 clear hsz
 generalize wn.heap.size=b2 at hmq |-
 have hlk1:=(Bq6 Ch2 (hmp.below hbq) r0 hr0).2
 have hlk2:=(Bq6 Cn7 hmq f hf0).2
 rw [find_which] at hlk1
 rw [find_set] at hlk2
 have hb0:=Aa0 hbm hbq
 have hB:=Aa0 hbn hb0
 have hxb:=Block.only hbx (Only.of_below hb0 []) (by simp)
 have x4:=hxb.cell 4 (v:=.slice (some ad) im ic) rfl
 have x5:=hxb.cell 5 (v:=.int .i32 f) rfl
 have y0:=hx _ hB
 have hT:=h.below hB
 have hf1:Scn.Fr Z TT w wm:=Scn.Fr.of_below hB
 clear hmp hbm hbn hbx hmm hmq hbq hb0 hB hxb hx h
 by_cases him:im=1
 ·subst him
  rw [if_pos rfl]
  cases e1:At9 r0 with
  |none =>
   have hc:=J0 (show choF T [r0] f=T by simp [choF,e1])
   rw [e1] at hlk1
   generalize ((Bn0 f).map (Value.int .u8)).getD (.int .u8 0)=v2 at hlk2
   generalize ((Bn0 f).map (Value.int .u8)).isSome=o2 at hlk2
   simp only [Option.map_none,Option.getD_none,Option.isSome_none] at hlk1
   clear e1
   go_wp2
   go_end0
   rw [hc.out]
   exact ⟨⟨_,rfl⟩,hT.tm,hf1⟩
  |some b =>
   rw [e1] at hlk1
   simp only [Option.map_some,Option.getD_some,Option.isSome_some] at hlk1
   cases e2:Bn0 f with
   |none =>
    have hc:=J0 (show choF T [r0] f=T by simp [choF,e1,e2])
    rw [e2] at hlk2
    simp only [Option.map_none,Option.getD_none,Option.isSome_none] at hlk2
    clear e1 e2
    go_wp2
    go_end0
    rw [hc.out]
    exact ⟨⟨_,rfl⟩,hT.tm,hf1⟩
   |some v =>
    have hc:=J0 (show choF T [r0] f=setG T b v by simp [choF,e1,e2])
    rw [e2] at hlk2
    simp only [Option.map_some,Option.getD_some,Option.isSome_some] at hlk2
    have d14:=hT.c14
    have d15:=hT.c15
    have q14:=hT.free 14
    have q15:=hT.free 15
    have hG:=hT.setG v
    clear e1 e2
    cases b with
    |false =>
     obtain ⟨h6,hf6⟩:=hG.1
     simp only [wv,if_false,Bool.false_eq_true] at hlk1
     go_wp2
     go_end0
     rw [hc.out]
     exact ⟨⟨_,rfl⟩,h6.tm,hf1.trans hf6⟩
    |true =>
     obtain ⟨h6,hf6⟩:=hG.2
     simp only [wv,if_true] at hlk1
     go_wp2
     go_end0
     rw [hc.out]
     exact ⟨⟨_,rfl⟩,h6.tm,hf1.trans hf6⟩
 ·have hd1:decide ((im:Int)=1)=false:=decide_eq_false (by omega)
  have hd2:((im:Int) == 1)=false:=beq_eq_false_iff_ne.2 (by omega)
  have hd3:decide (im=1)=false:=decide_eq_false him
  rw [if_neg him]
  generalize ((Bn0 f).map (Value.int .u8)).getD (.int .u8 0)=v2 at hlk2
  generalize ((Bn0 f).map (Value.int .u8)).isSome=o2 at hlk2
  generalize ((At9 r0).map wv).getD (.int .i64 0)=v1 at hlk1
  generalize ((At9 r0).map wv).isSome=o1 at hlk1
  go_wp2
  go_end0
  exact ⟨⟨_,rfl⟩,hT.tm,hf1⟩
end
section
variable {Z Z1:Zn} {w w':World} {t x s d b:Nat} {S:Scr} {T:Ter} {P:Pt} {v:Value} {l:List Int} {pa ia ta:Option Addr} {pn pc im ic tn tc:Nat} {k r pr f:Int}
theorem addr_zero (ad:Addr):ad.add 0=ad:=by cases ad;rfl
theorem choose_any (h:TMx Z w t T P) (hl:l≠[]) (hra:RA Z w ia l) (hfi:Fits .i32 l) (hff:(Lit.int .i32 f).wf=true):Calls Tryz.prog 279 #[.pointer (some ⟨t,0,none⟩),.agg #[.int .u8 k,.int .i32 r,.int .i32 pr,.slice pa pn pc,.slice ia l.length ic,.int .i32 f,.slice ta tn tc]] w (Does Z w t (choF T l f)):=by
 obtain ⟨r0,q,rfl⟩:∃ r0 q,l=r0::q:=by
  cases l with
  |nil=>exact absurd rfl hl
  |cons r0 q=>exact ⟨r0,q,rfl⟩
 obtain ⟨ad,rfl,_,_⟩:=hra 0 r0 rfl
 have hx:∀ w1,Below w.heap.size w w1->w1.cell? ad=some (.int .i32 r0):=fun w1 hb=>by
  obtain ⟨ad',e,_,hc⟩:=(hra.below hb) 0 r0 rfl
  obtain rfl:ad=ad':=by simpa using e
  rw [addr_zero] at hc
  exact hc
 have hr0:(Lit.int .i32 r0).wf=true:=hfi r0 (by simp)
 refine Calls.mono (choose_in h r0 hr0 hff (by simp) hx) fun e w' hd=>?_
 by_cases hq:(r0::q).length=1
 ·rw [if_pos hq] at hd
  obtain rfl:q=[]:=by cases q with|nil=>rfl|cons=>simp at hq
  exact hd
 ·rw [if_neg hq] at hd
  rw [choF_many hq]
  exact hd
theorem seq_inter (h:TMx Z w t T P) (him:1<=im):Calls Tryz.prog 204 #[.pointer (some ⟨t,0,none⟩),.agg #[.int .u8 k,.int .i32 r,.int .i32 pr,.slice pa pn pc,.slice ia im ic,.int .i32 f,.slice ta tn tc]] w (Does Z w t T):=by
 have hbn:=Aa1 w (.cells #[.int .u8 k,.int .i32 r,.int .i32 pr,.slice pa pn pc,.slice ia im ic,.int .i32 f,.slice ta tn tc] 112)
 have hbx:=Block.made w 112 #[.int .u8 k,.int .i32 r,.int .i32 pr,.slice pa pn pc,.slice ia im ic,.int .i32 f,.slice ta tn tc]
 have hip:(0:Int)<(im:Int):=by omega
 have hip2:0<im:=him
 have hT:=h.below hbn
 clear h
 go_enter Tryz.func204,Tryz.ntmps204
 go_upto_region 1 with (fail)
 generalize w.alloc (.cells #[.int .u8 k,.int .i32 r,.int .i32 pr,.slice pa pn pc,.slice ia im ic,.int .i32 f,.slice ta tn tc] 112)=w0 at hbn hbx hT |-
 have x4:=hbx.cell 4 (v:=.slice ia im ic) rfl
 clear hbx
 go_wp2
 go_end0
 exact ⟨⟨_,rfl⟩,hT.tm,Aa9 hbn⟩
theorem esc_inter (h:TMx Z w t T P) (hl:l≠[]) (hra:RA Z w ia l) (hfi:Fits .i32 l) (hff:(Lit.int .i32 f).wf=true):Calls Tryz.prog 203 #[.pointer (some ⟨t,0,none⟩),.agg #[.int .u8 k,.int .i32 r,.int .i32 pr,.slice pa pn pc,.slice ia l.length ic,.int .i32 f,.slice ta tn tc]] w (Does Z w t (choF T l f)):=by
 have hbn:=Aa1 w (.cells #[.int .u8 k,.int .i32 r,.int .i32 pr,.slice pa pn pc,.slice ia l.length ic,.int .i32 f,.slice ta tn tc] 112)
 have hbx:=Block.made w 112 #[.int .u8 k,.int .i32 r,.int .i32 pr,.slice pa pn pc,.slice ia l.length ic,.int .i32 f,.slice ta tn tc]
 have him:1<=l.length:=List.length_pos_iff.2 hl
 have hip:(0:Int)<(l.length:Int):=by omega
 have hch:=J0 (choose_any (k:=k) (r:=r) (pr:=pr) (pa:=pa) (pn:=pn) (pc:=pc) (ic:=ic) (ta:=ta) (tn:=tn) (tc:=tc) (h.below hbn) hl (hra.below hbn) hfi hff)
 generalize choF T l f=T2 at hch |-
 generalize l.length=im at *
 clear h hra hfi hl
 go_enter Tryz.func203,Tryz.ntmps203
 go_upto_region 1 with (fail)
 generalize w.alloc (.cells #[.int .u8 k,.int .i32 r,.int .i32 pr,.slice pa pn pc,.slice ia im ic,.int .i32 f,.slice ta tn tc] 112)=w0 at hbn hbx hch |-
 have x0:=hbx.cell 0 (v:=.int .u8 k) rfl
 have x1:=hbx.cell 1 (v:=.int .i32 r) rfl
 have x2:=hbx.cell 2 (v:=.int .i32 pr) rfl
 have x3:=hbx.cell 3 (v:=.slice pa pn pc) rfl
 have x4:=hbx.cell 4 (v:=.slice ia im ic) rfl
 have x5:=hbx.cell 5 (v:=.int .i32 f) rfl
 have x6:=hbx.cell 6 (v:=.slice ta tn tc) rfl
 clear hbx
 go_wp2_with (first
  |(go_at_call 279;(with_reducible refine (hch.out).mono ?_);rintro e w3 ⟨⟨v3,rfl⟩,h3,hf3⟩))
 go_end0
 exact ⟨⟨_,rfl⟩,h3,(Aa9 hbn).trans hf3⟩
theorem look_nil (n:Int) (hwf:(Lit.int .i32 n).wf=true) (w:World):(Instr.lookup 316 (.map none) (.int .i32 n) false).run Tryz.prog w=.ok .nilFunc w:=by
 have hz:(zeroValue 318).run Tryz.prog w=.ok .nilFunc w:=mtCsi.zero w
 obtain ⟨k,hk⟩:=mtCsi.key n hwf
 rcases mtCsi.law.find w hk ([]:List MapEntry) (by simp) with ⟨h1,-⟩|⟨j,e0,h1,h2,-⟩
 ·simp [Instr.lookup,run_underlying mtCsi.und,mtCsi.law.check w _ hk,h1,hz,Result.andThen]
 ·simp at h2
theorem seq_other (h:TMx Z w t T P) (h0:pr≠0) (h1:pr≠63) (hff:(Lit.int .i32 f).wf=true):Calls Tryz.prog 204 #[.pointer (some ⟨t,0,none⟩),.agg #[.int .u8 k,.int .i32 r,.int .i32 pr,.slice pa pn pc,.slice ia 0 ic,.int .i32 f,.slice ta tn tc]] w (Does Z w t T):=by
 have hbn:=Aa1 w (.cells #[.int .u8 k,.int .i32 r,.int .i32 pr,.slice pa pn pc,.slice ia 0 ic,.int .i32 f,.slice ta tn tc] 112)
 have hbx:=Block.made w 112 #[.int .u8 k,.int .i32 r,.int .i32 pr,.slice pa pn pc,.slice ia 0 ic,.int .i32 f,.slice ta tn tc]
 have hd0:(pr == 0)=false:=by simpa using h0
 have he0:decide (pr=0)=false:=decide_eq_false h0
 have hd1:(pr == 63)=false:=by simpa using h1
 have he1:decide (pr=63)=false:=decide_eq_false h1
 have hneqn:=Bm7
 have hT:=h.below hbn
 clear h
 go_enter Tryz.func204,Tryz.ntmps204
 go_upto_region 1 with (fail)
 generalize w.alloc (.cells #[.int .u8 k,.int .i32 r,.int .i32 pr,.slice pa pn pc,.slice ia 0 ic,.int .i32 f,.slice ta tn tc] 112)=w0 at hbn hbx hT |-
 have x4:=hbx.cell 4 (v:=.slice ia 0 ic) rfl
 have x2:=hbx.cell 2 (v:=.int .i32 pr) rfl
 have x5:=hbx.cell 5 (v:=.int .i32 f) rfl
 have hlk:=look_nil f hff w0
 clear hbx
 go_wp2
 go_end0
 exact ⟨⟨_,rfl⟩,hT.tm,Aa9 hbn⟩
end
