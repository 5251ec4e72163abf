/- Part 41 of HostSplits. -/
import Derived.Test.YtecnpoigegiooaaGreatDoorP40
set_option maxHeartbeats 16000000
set_option maxRecDepth 100000
namespace Go.Proofs.YtecnpoigegiooaaGreatDoor.Emu
open Go RowKit Com Rw Lns Scn
section
variable {Z Z1:Zn}{w w':World}{t x s d b:Nat}{S:Scr}{T:Ter}{P:Pt}{v:Value}{l:List Int}{pa ia ta:Option Addr}{pn pc im ic tn tc:Nat}{k r pr f:Int}
theorem seq_plain (h:TM Z w t T) (ok:Ok T) (hj:T.jr.length<=90000000) (hnx:T.nx<=9900000000) (hr:T.rp.length<=10000000000) (hp:NA Z w (.slice pa pn pc) l) (hwf:(Lit.int .i32 f).wf=true):Calls Tryz.prog 93 #[.pointer (some ⟨t,0,none⟩),.agg #[.int .u8 k,.int .i32 r,.int .i32 0,.slice pa pn pc,.slice ia 0 ic,.int .i32 f,.slice ta tn tc]] w (Does Z w t (plain T f l)):=by
 have hbn:=Aa1 w (.cells #[.int .u8 k,.int .i32 r,.int .i32 0,.slice pa pn pc,.slice ia 0 ic,.int .i32 f,.slice ta tn tc] 151)
 have hbx:=Block.made w 151 #[.int .u8 k,.int .i32 r,.int .i32 0,.slice pa pn pc,.slice ia 0 ic,.int .i32 f,.slice ta tn tc]
 have hmm:=@run_makeMap Tryz.prog
 have hneq:=Cj7
 have hneqn:=Bp0
 go_enter Tryz.func93,Tryz.ntmps93
 go_upto_region 1 with (fail)
 generalize w.alloc (.cells #[.int .u8 k,.int .i32 r,.int .i32 0,.slice pa pn pc,.slice ia 0 ic,.int .i32 f,.slice ta tn tc] 151)=w0 at hbn hbx |-
 have x4:=hbx.cell 4 (v:=.slice ia 0 ic) rfl
 have x2:=hbx.cell 2 (v:=.int .i32 0) rfl
 have hpm:=J0 (plain_any w0)
 go_upto_region 8 with ((go_at_call 141;(with_reducible refine(hpm.out).mono ?_);rintro e wn ⟨rfl,hmp,hbm⟩))
 have xk:=(Block.only hbx (Only.of_below hbm []) (by simp)).cell 5 (v:=.int .i32 f) rfl
 have xp:=(Block.only hbx (Only.of_below hbm []) (by simp)).cell 3 (v:=.slice pa pn pc) rfl
 have hlk0:=(Bt5 mtCsi hmp f hwf).1
 have hb:=Aa0 hbn hbm
 have hT:=h.below hb
 have hf0:Scn.Fr Z TT w wn:=Scn.Fr.of_below hb
 have hp9:=hp.below hb
 clear hmp hbm hbn hbx hmm h hb
 have hd:(∃F,findM Bk7 f=some (.func (.func F) #[] #[])/\(∀a w,(callFunc F a).run Tryz.prog w=.ok (.enter F a) w)/\Calls Tryz.prog F #[.pointer (some ⟨t,0,none⟩),.slice pa pn pc] wn (Does Z wn t (plain T f l)))\/(findM Bk7 f=none/\plain T f l=T):=by
  by_cases e0:f=65
  ·subst e0;exact .inl ⟨_,rfl,enters_of Tryz.func179 (by kernel_rfl) rfl,(show (goUp T l)=plain T 65 l by simp[plain])▸goUp_any hT ok hj hp9⟩
  by_cases e1:f=66
  ·subst e1;exact .inl ⟨_,rfl,enters_of Tryz.func180 (by kernel_rfl) rfl,(show (goDown T l)=plain T 66 l by simp[plain])▸goDown_any hT ok hj hp9⟩
  by_cases e2:f=67
  ·subst e2;exact .inl ⟨_,rfl,enters_of Tryz.func181 (by kernel_rfl) rfl,(show (goOn T l)=plain T 67 l by simp[plain])▸Bn8 hT ok hj hp9⟩
  by_cases e3:f=68
  ·subst e3;exact .inl ⟨_,rfl,enters_of Tryz.func182 (by kernel_rfl) rfl,(show (goBack T l)=plain T 68 l by simp[plain])▸goBack_any hT ok hj hp9⟩
  by_cases e4:f=69
  ·subst e4;exact .inl ⟨_,rfl,enters_of Tryz.func183 (by kernel_rfl) rfl,(show (Bw2 T l)=plain T 69 l by simp[plain])▸goDownB_any hT ok hj hp9⟩
  by_cases e5:f=70
  ·subst e5;exact .inl ⟨_,rfl,enters_of Tryz.func184 (by kernel_rfl) rfl,(show (Cs5 T l)=plain T 70 l by simp[plain])▸goUpB_any hT ok hj hp9⟩
  by_cases e6:f=71
  ·subst e6;exact .inl ⟨_,rfl,enters_of Tryz.func185 (by kernel_rfl) rfl,(show (toCol T l)=plain T 71 l by simp[plain])▸Bv6 hT ok hj hp9⟩
  by_cases e7:f=96
  ·subst e7;exact .inl ⟨_,rfl,enters_of Tryz.func185 (by kernel_rfl) rfl,(show (toCol T l)=plain T 96 l by simp[plain])▸Bv6 hT ok hj hp9⟩
  by_cases e8:f=72
  ·subst e8;exact .inl ⟨_,rfl,enters_of Tryz.func186 (by kernel_rfl) rfl,(show (toPlace T l)=plain T 72 l by simp[plain])▸Bi2 hT ok hj hp9⟩
  by_cases e9:f=102
  ·subst e9;exact .inl ⟨_,rfl,enters_of Tryz.func186 (by kernel_rfl) rfl,(show (toPlace T l)=plain T 102 l by simp[plain])▸Bi2 hT ok hj hp9⟩
  by_cases e10:f=100
  ·subst e10;exact .inl ⟨_,rfl,enters_of Tryz.func187 (by kernel_rfl) rfl,(show (toRow T l)=plain T 100 l by simp[plain])▸toRow_any hT ok hj hp9⟩
  by_cases e11:f=73
  ·subst e11;exact .inl ⟨_,rfl,enters_of Tryz.func188 (by kernel_rfl) rfl,(show (tabsOn T l)=plain T 73 l by simp[plain])▸tabsOn_any hT ok hj hp9⟩
  by_cases e12:f=90
  ·subst e12;exact .inl ⟨_,rfl,enters_of Tryz.func189 (by kernel_rfl) rfl,(show (tabsBack T l)=plain T 90 l by simp[plain])▸tabsBack_any hT ok hj hp9⟩
  by_cases e13:f=74
  ·subst e13;exact .inl ⟨_,rfl,enters_of Tryz.func190 (by kernel_rfl) rfl,(show (Al6 T (atN l 0))=plain T 74 l by simp[plain])▸eraseScr_any hT ok hj hp9⟩
  by_cases e14:f=75
  ·subst e14;exact .inl ⟨_,rfl,enters_of Tryz.func191 (by kernel_rfl) rfl,(show (eraseLine T (atN l 0))=plain T 75 l by simp[plain])▸Af1 hT ok hj hp9⟩
  by_cases e15:f=88
  ·subst e15;exact .inl ⟨_,rfl,enters_of Tryz.func192 (by kernel_rfl) rfl,(show (eraseCells T l)=plain T 88 l by simp[plain])▸eraseCells_any hT ok hj hp9⟩
  by_cases e16:f=64
  ·subst e16;exact .inl ⟨_,rfl,enters_of Tryz.func193 (by kernel_rfl) rfl,(show (insertCells T l)=plain T 64 l by simp[plain])▸insertCells_any hT ok hj hp9⟩
  by_cases e17:f=80
  ·subst e17;exact .inl ⟨_,rfl,enters_of Tryz.func194 (by kernel_rfl) rfl,(show (deleteCells T l)=plain T 80 l by simp[plain])▸deleteCells_any hT ok hj hp9⟩
  by_cases e18:f=76
  ·subst e18;exact .inl ⟨_,rfl,enters_of Tryz.func195 (by kernel_rfl) rfl,(show (insertLines T l)=plain T 76 l by simp[plain])▸insertLines_any hT ok hj hnx hp9⟩
  by_cases e19:f=77
  ·subst e19;exact .inl ⟨_,rfl,enters_of Tryz.func196 (by kernel_rfl) rfl,(show (deleteLines T l)=plain T 77 l by simp[plain])▸deleteLines_any hT ok hj hnx hp9⟩
  by_cases e20:f=83
  ·subst e20;exact .inl ⟨_,rfl,enters_of Tryz.func197 (by kernel_rfl) rfl,(show (scrollUp T l)=plain T 83 l by simp[plain])▸scrollUp_any hT ok hj hnx hp9⟩
  by_cases e21:f=84
  ·subst e21;exact .inl ⟨_,rfl,enters_of Tryz.func198 (by kernel_rfl) rfl,(show (scrollDown T l)=plain T 84 l by simp[plain])▸scrollDown_any hT ok hj hnx hp9⟩
  by_cases e22:f=114
  ·subst e22;exact .inl ⟨_,rfl,enters_of Tryz.func199 (by kernel_rfl) rfl,(show (setMargins T l)=plain T 114 l by simp[plain])▸setMargins_any hT ok hj hp9⟩
  by_cases e23:f=103
  ·subst e23;exact .inl ⟨_,rfl,enters_of Tryz.func200 (by kernel_rfl) rfl,(show (clearTabs T l)=plain T 103 l by simp[plain])▸clearTabs_any hT ok hp9⟩
  by_cases e24:f=109
  ·subst e24;exact .inl ⟨_,rfl,enters_of Tryz.func201 (by kernel_rfl) rfl,(show (look T l)=plain T 109 l by simp[plain])▸Bo9 hT hp9⟩
  by_cases e25:f=104
  ·subst e25;exact .inl ⟨_,rfl,enters_of Tryz.func202 (by kernel_rfl) rfl,(show (setModes T l true)=plain T 104 l by simp[plain])▸modesOn_any hT hp9⟩
  by_cases e26:f=108
  ·subst e26;exact .inl ⟨_,rfl,enters_of Tryz.func203 (by kernel_rfl) rfl,(show (setModes T l false)=plain T 108 l by simp[plain])▸modesOff_any hT hp9⟩
  by_cases e27:f=110
  ·subst e27;exact .inl ⟨_,rfl,enters_of Tryz.func204 (by kernel_rfl) rfl,(show (report T l)=plain T 110 l by simp[plain])▸report_any hT ok hr hp9⟩
  by_cases e28:f=99
  ·subst e28;exact .inl ⟨_,rfl,enters_of Tryz.func205 (by kernel_rfl) rfl,(show (device T l)=plain T 99 l by simp[plain])▸device_any hT hr hp9⟩
  exact .inr ⟨plainL_none e0 e1 e2 e3 e4 e5 e6 e7 e8 e9 e10 e11 e12 e13 e14 e15 e16 e17 e18 e19 e20 e21 e22 e23 e24 e25 e26 e27 e28,by simp[plain,e0,e1,e2,e3,e4,e5,e6,e7,e8,e9,e10,e11,e12,e13,e14,e15,e16,e17,e18,e19,e20,e21,e22,e23,e24,e25,e26,e27,e28]⟩
 rcases hd with ⟨F,hF,hE,hc⟩|⟨hF,he⟩
 ·rw[hF] at hlk0
  have hlk:(Instr.lookup 209 (.map (some w0.heap.size)) (.int .i32 f) false).run Tryz.prog wn=.ok (.func (.func F) #[] #[]) wn:=hlk0
  replace hc:=J0 hc
  clear hT ok hlk0 hF
  go_wp2_with ((with_reducible refine(hc.out).mono ?_);rintro e w3 ⟨⟨v3,rfl⟩,h3,hf3⟩)
  go_end0
  exact⟨⟨_,rfl⟩,h3,hf0.trans hf3⟩
 ·rw[hF] at hlk0
  have hlk:(Instr.lookup 209 (.map (some w0.heap.size)) (.int .i32 f) false).run Tryz.prog wn=.ok .nilFunc wn:=hlk0
  clear ok hlk0 hF
  go_wp2
  go_end0
  exact⟨⟨_,rfl⟩,(by rw[he];exact hT),hf0⟩
def Bu7 (T:Ter) (f:Int) (l:List Int):Ter:=if f=104 then Ac2 T l true else if f=108 then Ac2 T l false else T
theorem seq_priv (h:TM Z w t T) (ok:Ok T) (hj9:T.jr.length+l.length*2<=89000000) (hnx9:T.nx+l.length*T.main.L.length<=9900000000) (hp:NA Z w (.slice pa pn pc) l) (hwf:(Lit.int .i32 f).wf=true):Calls Tryz.prog 93 #[.pointer (some ⟨t,0,none⟩),.agg #[.int .u8 k,.int .i32 r,.int .i32 63,.slice pa pn pc,.slice ia 0 ic,.int .i32 f,.slice ta tn tc]] w (Does Z w t (Bu7 T f l)):=by
 have hbn:=Aa1 w (.cells #[.int .u8 k,.int .i32 r,.int .i32 63,.slice pa pn pc,.slice ia 0 ic,.int .i32 f,.slice ta tn tc] 151)
 have hbx:=Block.made w 151 #[.int .u8 k,.int .i32 r,.int .i32 63,.slice pa pn pc,.slice ia 0 ic,.int .i32 f,.slice ta tn tc]
 have hmm:=@run_makeMap Tryz.prog
 have hneq:=Cj7
 have hneqn:=Bp0
 go_enter Tryz.func93,Tryz.ntmps93
 go_upto_region 1 with (fail)
 generalize w.alloc (.cells #[.int .u8 k,.int .i32 r,.int .i32 63,.slice pa pn pc,.slice ia 0 ic,.int .i32 f,.slice ta tn tc] 151)=w0 at hbn hbx |-
 have x4:=hbx.cell 4 (v:=.slice ia 0 ic) rfl
 have x2:=hbx.cell 2 (v:=.int .i32 63) rfl
 have hpm:=J0 (private_any w0)
 go_upto_region 8 with ((go_at_call 142;(with_reducible refine(hpm.out).mono ?_);rintro e wn ⟨rfl,hmp,hbm⟩))
 have xk:=(Block.only hbx (Only.of_below hbm []) (by simp)).cell 5 (v:=.int .i32 f) rfl
 have xp:=(Block.only hbx (Only.of_below hbm []) (by simp)).cell 3 (v:=.slice pa pn pc) rfl
 have hlk0:=(Bt5 mtCsi hmp f hwf).1
 have hb:=Aa0 hbn hbm
 have hT:=h.below hb
 have hf0:Scn.Fr Z TT w wn:=Scn.Fr.of_below hb
 have hp9:=hp.below hb
 clear hmp hbm hbn hbx hmm h hb
 have hd:(∃F,findM Ce4 f=some (.func (.func F) #[] #[])/\(∀a w,(callFunc F a).run Tryz.prog w=.ok (.enter F a) w)/\Calls Tryz.prog F #[.pointer (some ⟨t,0,none⟩),.slice pa pn pc] wn (Does Z wn t (Bu7 T f l)))\/(findM Ce4 f=none/\Bu7 T f l=T):=by
  by_cases e0:f=104
  ·subst e0;exact .inl ⟨_,rfl,enters_of Tryz.func206 (by kernel_rfl) rfl,(show (Ac2 T l true)=Bu7 T 104 l by simp[Bu7])▸privatesOn_any hT ok hj9 hnx9 hp9⟩
  by_cases e1:f=108
  ·subst e1;exact .inl ⟨_,rfl,enters_of Tryz.func207 (by kernel_rfl) rfl,(show (Ac2 T l false)=Bu7 T 108 l by simp[Bu7])▸privatesOff_any hT ok hj9 hnx9 hp9⟩
  exact .inr ⟨privL_none e0 e1,by simp[Bu7,e0,e1]⟩
 rcases hd with ⟨F,hF,hE,hc⟩|⟨hF,he⟩
 ·rw[hF] at hlk0
  have hlk:(Instr.lookup 209 (.map (some w0.heap.size)) (.int .i32 f) false).run Tryz.prog wn=.ok (.func (.func F) #[] #[]) wn:=hlk0
  replace hc:=J0 hc
  clear hT ok hlk0 hF
  go_wp2_with ((with_reducible refine(hc.out).mono ?_);rintro e w3 ⟨⟨v3,rfl⟩,h3,hf3⟩)
  go_end0
  exact⟨⟨_,rfl⟩,h3,hf0.trans hf3⟩
 ·rw[hF] at hlk0
  have hlk:(Instr.lookup 209 (.map (some w0.heap.size)) (.int .i32 f) false).run Tryz.prog wn=.ok .nilFunc wn:=hlk0
  clear ok hlk0 hF
  go_wp2
  go_end0
  exact⟨⟨_,rfl⟩,(by rw[he];exact hT),hf0⟩
end
section
variable {Z Z1:Zn}{w w':World}{t x s d b:Nat}{S:Scr}{T:Ter}{P:Pt}{v:Value}{l:List Int}{pa ia ta:Option Addr}{pn pc im ic tn tc:Nat}{k r pr f:Int}
def Co1:List Ent:=[(40,.int .i64 0),(41,.int .i64 1)]
def Cs8:List Ent:=[(48,.int .u8 2),(65,.int .u8 1),(66,.int .u8 0)]
def RA (Z:Zn) (w:World) (ao:Option Addr) (l:List Int):Prop:=NumsP w (Kept Z w) .i32 ao l
theorem RA.below (h:RA Z w ia l) (hb:Below w.heap.size w w'):RA Z w' ia l:=fun i x hx=>by
 obtain⟨ad,e,hk,hc⟩:=h i x hx
 have hf:=Scn.Fr.of_below (B:=Z) (ts:=TT) hb
 exact⟨ad,e,(hk.fr hf).1,(World.cell?_of_block (w:=w) (by rw[Ac5];exact(hk.fr hf).2)).trans hc⟩
theorem TMx.setG (h:TMx Z w t T P) (v:Int):(TMx Z (w.setCell ⟨t,14,none⟩ (.int .u8 v)) t (setG T false v) P/\Scn.Fr Z TT w (w.setCell ⟨t,14,none⟩ (.int .u8 v)))/\(TMx Z (w.setCell ⟨t,15,none⟩ (.int .u8 v)) t (setG T true v) P/\Scn.Fr Z TT w (w.setCell ⟨t,15,none⟩ (.int .u8 v))) :=
 ⟨h.turn (m:=T.m) (c:=T.c) (p:={ T.p with g0:=v }) (n:=T.prints) (e:=T.last) (Only.setCell w ⟨t,14,none⟩ _) (h.blk.set 14 _),h.turn (m:=T.m) (c:=T.c) (p:={ T.p with g1:=v }) (n:=T.prints) (e:=T.last) (Only.setCell w ⟨t,15,none⟩ _) (h.blk.set 15 _)⟩
def wv (b:Bool):Value:=.int .i64 (if b then 1 else 0)
theorem find_which (r:Int):findM Co1 r=(Au4 r).map wv:=by
 unfold Au4
 by_cases h0:r=40
 ·rw[if_pos h0,h0];rfl
 ·by_cases h1:r=41
  ·rw[if_neg h0,if_pos h1,h1];rfl
  ·rw[if_neg h0,if_neg h1]
   simp[Co1,findM,h0,h1]
theorem find_set (f:Int):findM Cs8 f=(Bp7 f).map (Value.int .u8):=by
 unfold Bp7
 by_cases h0:f=48
 ·rw[if_pos h0,h0];rfl
 ·by_cases h1:f=65
  ·rw[if_neg h0,if_pos h1,h1];rfl
  ·by_cases h2:f=66
   ·rw[if_neg h0,if_neg h1,if_pos h2,h2];rfl
   ·rw[if_neg h0,if_neg h1,if_neg h2]
    simp[Cs8,findM,h0,h1,h2]
def choF (T:Ter) (l:List Int) (f:Int):Ter:=match l with
 |[r]=>match Au4 r,Bp7 f with
  |some b,some v=>setG T b v
  |_,_=>T
 |_=>T
theorem choF_many {T:Ter} {l:List Int} (h:l.length≠1) (f:Int):choF T l f=T:=by
 unfold choF
 split
 ·exact absurd rfl h
 ·rfl
theorem choose_in {ad:Addr} (h:TMx Z w t T P) (r0:Int) (hr0:(Lit.int .i32 r0).wf=true) (hf0:(Lit.int .i32 f).wf=true) (hm1:1<=im) (hx:∀w1,Below w.heap.size w w1->w1.cell? ad=some (.int .i32 r0)):Calls Tryz.prog 137 #[.pointer (some ⟨t,0,none⟩),.agg #[.int .u8 k,.int .i32 r,.int .i32 pr,.slice pa pn pc,.slice (some ad) im ic,.int .i32 f,.slice ta tn tc]] w (Does Z w t (if im=1 then choF T [r0] f else T)):=by
 have hbn:=Aa1 w (.cells #[.int .u8 k,.int .i32 r,.int .i32 pr,.slice pa pn pc,.slice (some ad) im ic,.int .i32 f,.slice ta tn tc] 151)
 have hbx:=Block.made w 151 #[.int .u8 k,.int .i32 r,.int .i32 pr,.slice pa pn pc,.slice (some ad) im ic,.int .i32 f,.slice ta tn tc]
 have hmm:=@run_makeMap Tryz.prog
 have hip:(0:Int)<(im:Int):=by omega
 go_enter Tryz.func137,Tryz.ntmps137
 go_upto_region 1 with (fail)
 generalize w.alloc (.cells #[.int .u8 k,.int .i32 r,.int .i32 pr,.slice pa pn pc,.slice (some ad) im ic,.int .i32 f,.slice ta tn tc] 151)=w0 at hbn hbx |-
 have hmp:=MpN.made w0 .i32
 have hbm:=Aa1 w0 (.map #[] 0)
 have hsz:(w0.alloc (.map #[] 0)).heap.size=w0.heap.size+1:=by simp
 go_upto_region 2 with (refine Am6 Cj6 hmp ?_ ?_ ?_;rfl;decide;clear hmp;intro wn hmp hon;replace hbm:=hbm.trans (hon.below hbm.size (by simp));clear hon)
 change MpN _ _ _ Co1 at hmp
 clear hsz
 generalize hb1e:w0.heap.size=b1 at hmp |-
 have hmq:=MpN.made wn .i32
 have hbq:=Aa1 wn (.map #[] 0)
 have hsz:(wn.alloc (.map #[] 0)).heap.size=wn.heap.size+1:=by simp
 go_upto_region 3 with (refine Am6 Cq8 hmq ?_ ?_ ?_;rfl;decide;clear hmq;intro wm hmq hon;replace hbq:=hbq.trans (hon.below hbq.size (by simp));clear hon)
 change MpN _ _ _ Cs8 at hmq
 clear hsz
 generalize wn.heap.size=b2 at hmq |-
 have hlk1:=(Bt5 Cj6 (hmp.below hbq) r0 hr0).2
 have hlk2:=(Bt5 Cq8 hmq f hf0).2
 rw[find_which] at hlk1
 rw[find_set] at hlk2
 have hb0:=Aa0 hbm hbq
 have hB:=Aa0 hbn hb0
 have hxb:=Block.only hbx (Only.of_below hb0 []) (by simp)
 have x4:=hxb.cell 4 (v:=.slice (some ad) im ic) rfl
 have x5:=hxb.cell 5 (v:=.int .i32 f) rfl
 have y0:=hx _ hB
 have hT:=h.below hB
 have hf1:Scn.Fr Z TT w wm:=Scn.Fr.of_below hB
 clear hmp hbm hbn hbx hmm hmq hbq hb0 hB hxb hx h
 by_cases him:im=1
 ·subst him
  rw[if_pos rfl]
  cases e1:Au4 r0 with
  |none =>
   have hc:=J0 (show choF T [r0] f=T by simp[choF,e1])
   rw[e1] at hlk1
   generalize ((Bp7 f).map (Value.int .u8)).getD (.int .u8 0)=v2 at hlk2
   generalize ((Bp7 f).map (Value.int .u8)).isSome=o2 at hlk2
   simp only[Option.map_none,Option.getD_none,Option.isSome_none] at hlk1
   clear e1
   go_wp2
   go_end0
   rw[hc.out]
   exact⟨⟨_,rfl⟩,hT.tm,hf1⟩
  |some b =>
   rw[e1] at hlk1
   simp only[Option.map_some,Option.getD_some,Option.isSome_some] at hlk1
   cases e2:Bp7 f with
   |none =>
    have hc:=J0 (show choF T [r0] f=T by simp[choF,e1,e2])
    rw[e2] at hlk2
    simp only[Option.map_none,Option.getD_none,Option.isSome_none] at hlk2
    clear e1 e2
    go_wp2
    go_end0
    rw[hc.out]
    exact⟨⟨_,rfl⟩,hT.tm,hf1⟩
   |some v =>
    have hc:=J0 (show choF T [r0] f=setG T b v by simp[choF,e1,e2])
    rw[e2] at hlk2
    simp only[Option.map_some,Option.getD_some,Option.isSome_some] at hlk2
    have d14:=hT.c14
    have d15:=hT.c15
    have q14:=hT.free 14
    have q15:=hT.free 15
    have hG:=hT.setG v
    clear e1 e2
    cases b with
    |false =>
     obtain⟨h6,hf6⟩:=hG.1
     simp only[wv,if_false,Bool.false_eq_true] at hlk1
     go_wp2
     go_end0
     rw[hc.out]
     exact⟨⟨_,rfl⟩,h6.tm,hf1.trans hf6⟩
    |true =>
     obtain⟨h6,hf6⟩:=hG.2
     simp only[wv,if_true] at hlk1
     go_wp2
     go_end0
     rw[hc.out]
     exact⟨⟨_,rfl⟩,h6.tm,hf1.trans hf6⟩
 ·have hd1:decide ((im:Int)=1)=false:=decide_eq_false (by omega)
  have hd2:((im:Int) == 1)=false:=beq_eq_false_iff_ne.2 (by omega)
  have hd3:decide (im=1)=false:=decide_eq_false him
  rw[if_neg him]
  generalize ((Bp7 f).map (Value.int .u8)).getD (.int .u8 0)=v2 at hlk2
  generalize ((Bp7 f).map (Value.int .u8)).isSome=o2 at hlk2
  generalize ((Au4 r0).map wv).getD (.int .i64 0)=v1 at hlk1
  generalize ((Au4 r0).map wv).isSome=o1 at hlk1
  go_wp2
  go_end0
  exact⟨⟨_,rfl⟩,hT.tm,hf1⟩
end
section
variable {Z Z1:Zn}{w w':World}{t x s d b:Nat}{S:Scr}{T:Ter}{P:Pt}{v:Value}{l:List Int}{pa ia ta:Option Addr}{pn pc im ic tn tc:Nat}{k r pr f:Int}
theorem addr_zero (ad:Addr):ad.add 0=ad:=by cases ad;rfl
theorem choose_any (h:TMx Z w t T P) (hl:l≠[]) (hra:RA Z w ia l) (hfi:Fits .i32 l) (hff:(Lit.int .i32 f).wf=true):Calls Tryz.prog 137 #[.pointer (some ⟨t,0,none⟩),.agg #[.int .u8 k,.int .i32 r,.int .i32 pr,.slice pa pn pc,.slice ia l.length ic,.int .i32 f,.slice ta tn tc]] w (Does Z w t (choF T l f)):=by
 obtain⟨r0,q,rfl⟩:∃r0 q,l=r0::q:=by
  cases l with
  |nil=>exact absurd rfl hl
  |cons r0 q=>exact⟨r0,q,rfl⟩
 obtain⟨ad,rfl,_,_⟩:=hra 0 r0 rfl
 have hx:∀w1,Below w.heap.size w w1->w1.cell? ad=some (.int .i32 r0):=fun w1 hb=>by
  obtain⟨ad',e,_,hc⟩:=(hra.below hb) 0 r0 rfl
  obtain rfl:ad=ad':=by simpa using e
  rw[addr_zero] at hc
  exact hc
 have hr0:(Lit.int .i32 r0).wf=true:=hfi r0 (by simp)
 refine Calls.mono (choose_in h r0 hr0 hff (by simp) hx) fun e w' hd=>?_
 by_cases hq:(r0::q).length=1
 ·rw[if_pos hq] at hd
  obtain rfl:q=[]:=by cases q with|nil=>rfl|cons=>simp at hq
  exact hd
 ·rw[if_neg hq] at hd
  rw[choF_many hq]
  exact hd
theorem seq_inter (h:TMx Z w t T P) (him:1<=im):Calls Tryz.prog 93 #[.pointer (some ⟨t,0,none⟩),.agg #[.int .u8 k,.int .i32 r,.int .i32 pr,.slice pa pn pc,.slice ia im ic,.int .i32 f,.slice ta tn tc]] w (Does Z w t T):=by
 have hbn:=Aa1 w (.cells #[.int .u8 k,.int .i32 r,.int .i32 pr,.slice pa pn pc,.slice ia im ic,.int .i32 f,.slice ta tn tc] 151)
 have hbx:=Block.made w 151 #[.int .u8 k,.int .i32 r,.int .i32 pr,.slice pa pn pc,.slice ia im ic,.int .i32 f,.slice ta tn tc]
 have hip:(0:Int)<(im:Int):=by omega
 have hip2:0<im:=him
 have hT:=h.below hbn
 clear h
 go_enter Tryz.func93,Tryz.ntmps93
 go_upto_region 1 with (fail)
 generalize w.alloc (.cells #[.int .u8 k,.int .i32 r,.int .i32 pr,.slice pa pn pc,.slice ia im ic,.int .i32 f,.slice ta tn tc] 151)=w0 at hbn hbx hT |-
 have x4:=hbx.cell 4 (v:=.slice ia im ic) rfl
 clear hbx
 go_wp2
 go_end0
 exact⟨⟨_,rfl⟩,hT.tm,Aa9 hbn⟩
theorem esc_inter (h:TMx Z w t T P) (hl:l≠[]) (hra:RA Z w ia l) (hfi:Fits .i32 l) (hff:(Lit.int .i32 f).wf=true):Calls Tryz.prog 92 #[.pointer (some ⟨t,0,none⟩),.agg #[.int .u8 k,.int .i32 r,.int .i32 pr,.slice pa pn pc,.slice ia l.length ic,.int .i32 f,.slice ta tn tc]] w (Does Z w t (choF T l f)):=by
 have hbn:=Aa1 w (.cells #[.int .u8 k,.int .i32 r,.int .i32 pr,.slice pa pn pc,.slice ia l.length ic,.int .i32 f,.slice ta tn tc] 151)
 have hbx:=Block.made w 151 #[.int .u8 k,.int .i32 r,.int .i32 pr,.slice pa pn pc,.slice ia l.length ic,.int .i32 f,.slice ta tn tc]
 have him:1<=l.length:=List.length_pos_iff.2 hl
 have hip:(0:Int)<(l.length:Int):=by omega
 have hch:=J0 (choose_any (k:=k) (r:=r) (pr:=pr) (pa:=pa) (pn:=pn) (pc:=pc) (ic:=ic) (ta:=ta) (tn:=tn) (tc:=tc) (h.below hbn) hl (hra.below hbn) hfi hff)
 generalize choF T l f=T2 at hch |-
 generalize l.length=im at *
 clear h hra hfi hl
 go_enter Tryz.func92,Tryz.ntmps92
 go_upto_region 1 with (fail)
 generalize w.alloc (.cells #[.int .u8 k,.int .i32 r,.int .i32 pr,.slice pa pn pc,.slice ia im ic,.int .i32 f,.slice ta tn tc] 151)=w0 at hbn hbx hch |-
 have x0:=hbx.cell 0 (v:=.int .u8 k) rfl
 have x1:=hbx.cell 1 (v:=.int .i32 r) rfl
 have x2:=hbx.cell 2 (v:=.int .i32 pr) rfl
 have x3:=hbx.cell 3 (v:=.slice pa pn pc) rfl
 have x4:=hbx.cell 4 (v:=.slice ia im ic) rfl
 have x5:=hbx.cell 5 (v:=.int .i32 f) rfl
 have x6:=hbx.cell 6 (v:=.slice ta tn tc) rfl
 clear hbx
 go_wp2_with (first
  |(go_at_call 137;(with_reducible refine(hch.out).mono ?_);rintro e w3 ⟨⟨v3,rfl⟩,h3,hf3⟩))
 go_end0
 exact⟨⟨_,rfl⟩,h3,(Aa9 hbn).trans hf3⟩
theorem look_nil (n:Int) (hwf:(Lit.int .i32 n).wf=true) (w:World):(Instr.lookup 209 (.map none) (.int .i32 n) false).run Tryz.prog w=.ok .nilFunc w:=by
 have hz:(zeroValue 211).run Tryz.prog w=.ok .nilFunc w:=mtCsi.zero w
 obtain⟨k,hk⟩:=mtCsi.key n hwf
 rcases mtCsi.law.find w hk ([]:List MapEntry) (by simp) with ⟨h1,-⟩|⟨j,e0,h1,h2,-⟩
 ·simp[Instr.lookup,run_underlying mtCsi.und,mtCsi.law.check w _ hk,h1,hz,Result.andThen]
 ·simp at h2
theorem seq_other (h:TMx Z w t T P) (h0:pr≠0) (h1:pr≠63) (hff:(Lit.int .i32 f).wf=true):Calls Tryz.prog 93 #[.pointer (some ⟨t,0,none⟩),.agg #[.int .u8 k,.int .i32 r,.int .i32 pr,.slice pa pn pc,.slice ia 0 ic,.int .i32 f,.slice ta tn tc]] w (Does Z w t T):=by
 have hbn:=Aa1 w (.cells #[.int .u8 k,.int .i32 r,.int .i32 pr,.slice pa pn pc,.slice ia 0 ic,.int .i32 f,.slice ta tn tc] 151)
 have hbx:=Block.made w 151 #[.int .u8 k,.int .i32 r,.int .i32 pr,.slice pa pn pc,.slice ia 0 ic,.int .i32 f,.slice ta tn tc]
 have hd0:(pr == 0)=false:=by simpa using h0
 have he0:decide (pr=0)=false:=decide_eq_false h0
 have hd1:(pr == 63)=false:=by simpa using h1
 have he1:decide (pr=63)=false:=decide_eq_false h1
 have hneqn:=Bp0
 have hT:=h.below hbn
 clear h
 go_enter Tryz.func93,Tryz.ntmps93
 go_upto_region 1 with (fail)
 generalize w.alloc (.cells #[.int .u8 k,.int .i32 r,.int .i32 pr,.slice pa pn pc,.slice ia 0 ic,.int .i32 f,.slice ta tn tc] 151)=w0 at hbn hbx hT |-
 have x4:=hbx.cell 4 (v:=.slice ia 0 ic) rfl
 have x2:=hbx.cell 2 (v:=.int .i32 pr) rfl
 have x5:=hbx.cell 5 (v:=.int .i32 f) rfl
 have hlk:=look_nil f hff w0
 clear hbx
 go_wp2
 go_end0
 exact⟨⟨_,rfl⟩,hT.tm,Aa9 hbn⟩
end
section
variable {Z Z1:Zn}{w w':World}{t s d b:Nat}{x:AcT}{S:Scr}{T:Ter}{P:Pt}{v:Value}{l:List Int}{pa ia ta:Option Addr}{pn pc im ic tn tc:Nat}{k r pr f:Int}
theorem neq_kin (f:FuncId) (w:World):(binOp .neq 183 (.func (.func f) #[] #[]) .nilFunc).run Tryz.prog w=.ok (.bool true) w:=by kernel_rfl
theorem neqn_kin (w:World):(binOp .neq 183 .nilFunc .nilFunc).run Tryz.prog w=.ok (.bool false) w:=by kernel_rfl
def kinL:List Ent:=[(1,.func (.func 90) #[] #[]),(2,.func (.func 91) #[] #[]),(3,.func (.func 92) #[] #[]),(4,.func (.func 93) #[] #[])]
theorem kinL_none {n:Int} (h0:n≠1) (h1:n≠2) (h2:n≠3) (h3:n≠4):findM kinL n=none:=by
 simp[kinL,findM,h0,h1,h2,h3]
structure Roomy (T:Ter) (x:AcT):Prop where
 jr:T.jr.length<=88000000
 pr:T.prints<=9990000000
 rp:T.rp.length<=10000000000
 par:x.params.length<=100
 nx:T.nx+100*T.main.L.length<=9900000000
structure Wf (x:AcT):Prop where
 kind:(Lit.int .u8 x.kind).wf=true
 r:(Lit.int .i32 x.r).wf=true
 fin:(Lit.int .i32 x.fin).wf=true
 inter:Fits .i32 x.inter
theorem Bd4 (h:Roomy T x):T.nx<=9900000000:=by have:=h.nx;omega
theorem roomy_par (h:Roomy T x):T.nx+x.params.length*T.main.L.length<=9900000000:=by
 have:=h.nx
 have:=Nat.mul_le_mul_right T.main.L.length h.par
 omega
theorem esc_any (h:TM Z w t T) (ok:Ok T) (hw:Wf x) (hR:Roomy T x) (hra:RA Z w ia x.inter):Calls Tryz.prog 92 #[.pointer (some ⟨t,0,none⟩),.agg #[.int .u8 x.kind,.int .i32 x.r,.int .i32 x.priv,.slice pa pn pc,.slice ia x.inter.length ic,.int .i32 x.fin,.slice ta tn tc]] w (Does Z w t (escape T x)):=by
 have hj:=hR.jr
 by_cases hi:x.inter=[]
 ·have e:escape T x=escF T x.fin:=by unfold escape;rw[if_pos hi];rfl
  rw[e,hi]
  exact escape_go h ok (by omega) (Bd4 hR) hw.fin
 ·have e:escape T x=choF T x.inter x.fin:=by unfold escape;rw[if_neg hi];rfl
  rw[e]
  obtain⟨P,h⟩:=h
  exact esc_inter h hi hra hw.inter hw.fin
theorem seq_any (h:TM Z w t T) (ok:Ok T) (hw:Wf x) (hR:Roomy T x) (hp:NA Z w (.slice pa pn pc) x.params):Calls Tryz.prog 93 #[.pointer (some ⟨t,0,none⟩),.agg #[.int .u8 x.kind,.int .i32 x.r,.int .i32 x.priv,.slice pa pn pc,.slice ia x.inter.length ic,.int .i32 x.fin,.slice ta tn tc]] w (Does Z w t (sequence T x)):=by
 have hj:=hR.jr
 have hpar:=hR.par
 unfold sequence
 by_cases hi:x.inter=[]
 ·rw[if_pos hi,hi]
  by_cases h0:x.priv=0
  ·rw[if_pos h0,h0]
   exact seq_plain h ok (by omega) (Bd4 hR) hR.rp hp hw.fin
  ·rw[if_neg h0]
   by_cases h1:x.priv=63
   ·rw[if_pos h1,h1]
    exact seq_priv h ok (by omega) (roomy_par hR) hp hw.fin
   ·rw[if_neg h1]
    obtain⟨P,h⟩:=h
    exact seq_other h h0 h1 hw.fin
 ·rw[if_neg hi]
  obtain⟨P,h⟩:=h
  exact seq_inter h (List.length_pos_iff.2 hi)
theorem do_any (h:TM Z w t T) (ok:Ok T) (hw:Wf x) (hR:Roomy T x) (hp:NA Z w (.slice pa pn pc) x.params) (hra:RA Z w ia x.inter):Calls Tryz.prog 60 #[.pointer (some ⟨t,0,none⟩),.agg #[.int .u8 x.kind,.int .i32 x.r,.int .i32 x.priv,.slice pa pn pc,.slice ia x.inter.length ic,.int .i32 x.fin,.slice ta tn tc]] w (Does Z w t (doT T x)):=by
 obtain⟨T2,hT2⟩:∃T2,T2=doT T x:=⟨_,rfl⟩
 rw[<- hT2]
 replace hT2:=J0 hT2
 have hbn:=Aa1 w (.cells #[.int .u8 x.kind,.int .i32 x.r,.int .i32 x.priv,.slice pa pn pc,.slice ia x.inter.length ic,.int .i32 x.fin,.slice ta tn tc] 151)
 have hbx:=Block.made w 151 #[.int .u8 x.kind,.int .i32 x.r,.int .i32 x.priv,.slice pa pn pc,.slice ia x.inter.length ic,.int .i32 x.fin,.slice ta tn tc]
 have hmm:=@run_makeMap Tryz.prog
 have hneq:=neq_kin
 have hneqn:=neqn_kin
 go_enter Tryz.func60,Tryz.ntmps60
 go_upto_region 1 with (fail)
 generalize w.alloc (.cells #[.int .u8 x.kind,.int .i32 x.r,.int .i32 x.priv,.slice pa pn pc,.slice ia x.inter.length ic,.int .i32 x.fin,.slice ta tn tc] 151)=w0 at hbn hbx |-
 have hmp:=MpN.made w0 .u8
 have hbm:=Aa1 w0 (.map #[] 0)
 have hsz:(w0.alloc (.map #[] 0)).heap.size=w0.heap.size+1:=by simp
 go_upto_region 2 with (refine Am6 Cj5 hmp ?_ ?_ ?_;rfl;decide;clear hmp;intro wn hmp hon;replace hbm:=hbm.trans (hon.below hbm.size (by simp));clear hon)
 change MpN _ _ _ kinL at hmp
 clear hsz
 have hx9:=Block.only hbx (Only.of_below hbm []) (by simp)
 have x0:=hx9.cell 0 (v:=.int .u8 x.kind) rfl
 have x1:=hx9.cell 1 (v:=.int .i32 x.r) rfl
 have x2:=hx9.cell 2 (v:=.int .i32 x.priv) rfl
 have x3:=hx9.cell 3 (v:=.slice pa pn pc) rfl
 have x4:=hx9.cell 4 (v:=.slice ia x.inter.length ic) rfl
 have x5:=hx9.cell 5 (v:=.int .i32 x.fin) rfl
 have x6:=hx9.cell 6 (v:=.slice ta tn tc) rfl
 have hlk0:=(Bt5 Cj5 hmp x.kind hw.kind).1
 have hb:=Aa0 hbn hbm
 have hT:=h.below hb
 have hf0:Scn.Fr Z TT w wn:=Scn.Fr.of_below hb
 have hp9:=hp.below hb
 have hra9:=hra.below hb
 have hj:=hR.jr
 have hpr:=hR.pr
 clear hmp hbm hbn hbx hmm h hb hx9 hp hra
 by_cases e0:x.kind=1
 ·have hc:=print_any (k:=x.kind) (r:=x.r) (pr:=x.priv) (pa:=pa) (pn:=pn) (pc:=pc) (ia:=ia) (im:=x.inter.length) (ic:=ic) (f:=x.fin) (ta:=ta) (tn:=tn) (tc:=tc) hT ok (by omega) (by omega) (Bd4 hR)
  rw[show Bb9 T x.r=doT T x by simp[doT,e0],<- hT2.out,e0] at hc
  rw[e0] at hlk0 x0
  have hlk:(Instr.lookup 184 (.map (some w0.heap.size)) (.int .u8 1) false).run Tryz.prog wn=.ok (.func (.func 90) #[] #[]) wn:=hlk0
  replace hc:=J0 hc
  generalize x.inter.length=im at *
  generalize x.fin=f at *
  generalize x.r=r at *
  generalize x.priv=pr at *
  clear hT2 hT ok hlk0 hw hR hp9 hra9 hj hpr e0
  go_wp2_with (first
   |(go_at_call 90;(with_reducible refine(hc.out).mono ?_);rintro e w3 ⟨⟨v3,rfl⟩,h3,hf3⟩))
  go_end0
  exact⟨⟨_,rfl⟩,h3,hf0.trans hf3⟩
 by_cases e1:x.kind=2
 ·have hc:=control_go (k:=x.kind) (r:=x.r) (pr:=x.priv) (pa:=pa) (pn:=pn) (pc:=pc) (ia:=ia) (im:=x.inter.length) (ic:=ic) (f:=x.fin) (ta:=ta) (tn:=tn) (tc:=tc) hT ok (by omega) (Bd4 hR) hw.r
  rw[show control T x.r=doT T x by simp[doT,e1],<- hT2.out,e1] at hc
  rw[e1] at hlk0 x0
  have hlk:(Instr.lookup 184 (.map (some w0.heap.size)) (.int .u8 2) false).run Tryz.prog wn=.ok (.func (.func 91) #[] #[]) wn:=hlk0
  replace hc:=J0 hc
  generalize x.inter.length=im at *
  generalize x.fin=f at *
  generalize x.r=r at *
  generalize x.priv=pr at *
  clear hT2 hT ok hlk0 hw hR hp9 hra9 hj hpr e1 e0
  go_wp2_with (first
   |(go_at_call 91;(with_reducible refine(hc.out).mono ?_);rintro e w3 ⟨⟨v3,rfl⟩,h3,hf3⟩))
  go_end0
  exact⟨⟨_,rfl⟩,h3,hf0.trans hf3⟩
 by_cases e2:x.kind=3
 ·have hc:=esc_any (pa:=pa) (pn:=pn) (pc:=pc) (ia:=ia) (ic:=ic) (ta:=ta) (tn:=tn) (tc:=tc) hT ok hw hR hra9
  rw[show escape T x=doT T x by simp[doT,e2],<- hT2.out,e2] at hc
  rw[e2] at hlk0 x0
  have hlk:(Instr.lookup 184 (.map (some w0.heap.size)) (.int .u8 3) false).run Tryz.prog wn=.ok (.func (.func 92) #[] #[]) wn:=hlk0
  replace hc:=J0 hc
  generalize x.inter.length=im at *
  generalize x.fin=f at *
  generalize x.r=r at *
  generalize x.priv=pr at *
  clear hT2 hT ok hlk0 hw hR hp9 hra9 hj hpr e2 e0 e1
  go_wp2_with (first
   |(go_at_call 92;(with_reducible refine(hc.out).mono ?_);rintro e w3 ⟨⟨v3,rfl⟩,h3,hf3⟩))
  go_end0
  exact⟨⟨_,rfl⟩,h3,hf0.trans hf3⟩
 by_cases e3:x.kind=4
 ·have hc:=seq_any (pa:=pa) (pn:=pn) (pc:=pc) (ia:=ia) (ic:=ic) (ta:=ta) (tn:=tn) (tc:=tc) hT ok hw hR hp9
  rw[show sequence T x=doT T x by simp[doT,e3],<- hT2.out,e3] at hc
  rw[e3] at hlk0 x0
  have hlk:(Instr.lookup 184 (.map (some w0.heap.size)) (.int .u8 4) false).run Tryz.prog wn=.ok (.func (.func 93) #[] #[]) wn:=hlk0
  replace hc:=J0 hc
  generalize x.inter.length=im at *
  generalize x.fin=f at *
  generalize x.r=r at *
  generalize x.priv=pr at *
  clear hT2 hT ok hlk0 hw hR hp9 hra9 hj hpr e3 e0 e1 e2
  go_wp2_with (first
   |(go_at_call 93;(with_reducible refine(hc.out).mono ?_);rintro e w3 ⟨⟨v3,rfl⟩,h3,hf3⟩))
  go_end0
  exact⟨⟨_,rfl⟩,h3,hf0.trans hf3⟩
 have he:T2=T:=by rw[hT2.out];simp[doT,e0,e1,e2,e3]
 subst he
 have hlk:(Instr.lookup 184 (.map (some w0.heap.size)) (.int .u8 x.kind) false).run Tryz.prog wn=.ok .nilFunc wn:=by
  rw[hlk0,kinL_none e0 e1 e2 e3]
  rfl
 clear hT2 ok hlk0 hw hR hp9 hra9 hj hpr e0 e1 e2 e3
 generalize x.inter.length=im at *
 generalize x.kind=k at *
 go_wp2
 go_end0
 exact⟨⟨_,rfl⟩,hT,hf0⟩
end
