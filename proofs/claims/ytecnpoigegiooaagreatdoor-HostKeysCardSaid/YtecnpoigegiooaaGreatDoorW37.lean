/- Part 37 of HostKeys. -/
import Derived.Test.YtecnpoigegiooaaGreatDoorW36
set_option maxHeartbeats 16000000
set_option maxRecDepth 100000
namespace Go.Proofs.YtecnpoigegiooaaGreatDoor.Emu
open Go.Proofs.Tryz
open Go RowKit Com Rw Lns Scn
section
variable {Z Z1:Zn}{w w':World}{t x s d b:Nat}{S:Scr}{T:Ter}{P:Pt}{v:Value}{l:List Int}{pa ia ta:Option Addr}{pn pc im ic tn tc:Nat}{k r pr f:Int}
theorem Bmd(f:FuncId)(w:World):(binOp .neq 207 (.func (.func f) #[] #[]) .nilFunc).run prog w=.ok (.bool true) w:=by kernel_rfl
theorem Bjt(w:World):(binOp .neq 207 .nilFunc .nilFunc).run prog w=.ok (.bool false) w:=by kernel_rfl
def Arx:List Ent:=[(8,.func (.func 127) #[] #[]),(9,.func (.func 128) #[] #[]),(10,.func (.func 129) #[] #[]),(11,.func (.func 129) #[] #[]),(12,.func (.func 129) #[] #[]),(13,.func (.func 130) #[] #[]),(14,.func (.func 131) #[] #[]),(15,.func (.func 132) #[] #[]),(132,.func (.func 133) #[] #[]),(133,.func (.func 134) #[] #[]),(136,.func (.func 135) #[] #[]),(141,.func (.func 136) #[] #[])]
theorem Bzr{n:Int}(h0:n≠8)(h1:n≠9)(h2:n≠10)(h3:n≠11)(h4:n≠12)(h5:n≠13)(h6:n≠14)(h7:n≠15)(h8:n≠132)(h9:n≠133)(h10:n≠136)(h11:n≠141):H8 Arx n=none:=by
 simp[Arx,H8,h0,h1,h2,h3,h4,h5,h6,h7,h8,h9,h10,h11]
theorem Bwk(h:TM Z w t T)(ok:Ok T)(hj:T.jr.length<=90000000)(hnx:T.nx<=9900000000)(hwf:(Lit.int .i32 r).wf=true):Calls prog 91 #[.pointer (some ⟨t,0,none⟩),.agg #[.int .u8 k,.int .i32 r,.int .i32 pr,.slice pa pn pc,.slice ia im ic,.int .i32 f,.slice ta tn tc]] w (A7 Z w t (control T r)):=by
 have hbn:=A3 w (.cells #[.int .u8 k,.int .i32 r,.int .i32 pr,.slice pa pn pc,.slice ia im ic,.int .i32 f,.slice ta tn tc] 151)
 have hbx:=Block.made w 151 #[.int .u8 k,.int .i32 r,.int .i32 pr,.slice pa pn pc,.slice ia im ic,.int .i32 f,.slice ta tn tc]
 have hmm:=@run_makeMap prog
 have Asp:=Bmd
 have Anu:=Bjt
 go_enter func91,ntmps91
 go_upto_region 1 with(fail)
 generalize w.alloc (.cells #[.int .u8 k,.int .i32 r,.int .i32 pr,.slice pa pn pc,.slice ia im ic,.int .i32 f,.slice ta tn tc] 151)=w0 at hbn hbx |-
 have hmp:=MpN.made w0 .i32
 have hbm:=A3 w0 (.map #[] 0)
 have hsz:(w0.alloc (.map #[] 0)).heap.size=w0.heap.size+1:=by simp
 go_upto_region 2 with(refine Ajm Awz hmp ?_ ?_ ?_;rfl;decide;clear hmp;intro wn hmp hon;replace hbm:=hbm.trans (hon.below hbm.size (by simp));clear hon)
 change MpN _ _ _ Arx at hmp
 clear hsz
 have xk:=(Block.only hbx (A0.A1 hbm []) (by simp)).cell 1 (v:=.int .i32 r) rfl
 have F3:=(Akb Awz hmp r hwf).1
 have hb:=A2 hbn hbm
 have hT:=h.below hb
 have hf0:Scn.Fr Z TT w wn:=Scn.Fr.A1 hb
 clear hmp hbm hbn hbx hmm h hb
 have hd:(∃F,H8 Arx r=some (.func (.func F) #[] #[])/\(∀a w,(callFunc F a).run prog w=.ok (.enter F a) w)/\Calls prog F #[.pointer (some ⟨t,0,none⟩)] wn (A7 Z wn t (control T r)))\/(H8 Arx r=none/\control T r=T):=by
  by_cases e0:r=8
  ·subst e0;exact .inl ⟨_,rfl,enters_of func127 (by kernel_rfl) rfl,(show(Avd T)=control T 8 by simp[control])▸Btw hT ok hj⟩
  by_cases e1:r=9
  ·subst e1;exact .inl ⟨_,rfl,enters_of func128 (by kernel_rfl) rfl,(show(Avt T)=control T 9 by simp[control])▸Bvf hT ok hj⟩
  by_cases e2:r=10
  ·subst e2;exact .inl ⟨_,rfl,enters_of func129 (by kernel_rfl) rfl,(show(Ajo T)=control T 10 by simp[control])▸Ayp hT ok hj hnx⟩
  by_cases e3:r=11
  ·subst e3;exact .inl ⟨_,rfl,enters_of func129 (by kernel_rfl) rfl,(show(Ajo T)=control T 11 by simp[control])▸Ayp hT ok hj hnx⟩
  by_cases e4:r=12
  ·subst e4;exact .inl ⟨_,rfl,enters_of func129 (by kernel_rfl) rfl,(show(Ajo T)=control T 12 by simp[control])▸Ayp hT ok hj hnx⟩
  by_cases e5:r=13
  ·subst e5;exact .inl ⟨_,rfl,enters_of func130 (by kernel_rfl) rfl,(show(Auh T)=control T 13 by simp[control])▸Bsn hT ok hj⟩
  by_cases e6:r=14
  ·subst e6;exact .inl ⟨_,rfl,enters_of func131 (by kernel_rfl) rfl,(show(Agj T true)=control T 14 by simp[control])▸Bso hT ⟩
  by_cases e7:r=15
  ·subst e7;exact .inl ⟨_,rfl,enters_of func132 (by kernel_rfl) rfl,(show(Agj T false)=control T 15 by simp[control])▸Btd hT ⟩
  by_cases e8:r=132
  ·subst e8;exact .inl ⟨_,rfl,enters_of func133 (by kernel_rfl) rfl,(show(Aho T)=control T 132 by simp[control])▸Ays hT ok hj hnx⟩
  by_cases e9:r=133
  ·subst e9;exact .inl ⟨_,rfl,enters_of func134 (by kernel_rfl) rfl,(show(Aji T)=control T 133 by simp[control])▸Bfh hT ok hj hnx⟩
  by_cases e10:r=136
  ·subst e10;exact .inl ⟨_,rfl,enters_of func135 (by kernel_rfl) rfl,(show(Alj T)=control T 136 by simp[control])▸Bgy hT ok⟩
  by_cases e11:r=141
  ·subst e11;exact .inl ⟨_,rfl,enters_of func136 (by kernel_rfl) rfl,(show(Aii T)=control T 141 by simp[control])▸Bip hT ok hj hnx⟩
  exact .inr ⟨Bzr e0 e1 e2 e3 e4 e5 e6 e7 e8 e9 e10 e11,by simp[control,e0,e1,e2,e3,e4,e5,e6,e7,e8,e9,e10,e11]⟩
 rcases hd with⟨F,hF,hE,hc⟩|⟨hF,he⟩
 ·rw[hF]at F3
  have hlk:(Instr.lookup 208 (.map (some w0.heap.size)) (.int .i32 r) false).run prog wn=.ok (.func (.func F) #[] #[]) wn:=F3
  replace hc:=J0 hc
  clear hT ok hj hnx F3 hF
  go_wp2_with((with_reducible refine(hc.out).mono ?_);rintro e w3 ⟨⟨v3,rfl⟩,h3,hf3⟩)
  go_end0
  exact⟨⟨_,rfl⟩,h3,hf0.trans hf3⟩
 ·rw[hF]at F3
  have hlk:(Instr.lookup 208 (.map (some w0.heap.size)) (.int .i32 r) false).run prog wn=.ok .nilFunc wn:=F3
  clear ok hj hnx F3 hF
  go_wp2
  go_end0
  exact⟨⟨_,rfl⟩,(by rw[he];exact hT),hf0⟩
end
section
variable {Z Z1:Zn}{w w':World}{t x s d b:Nat}{S:Scr}{T:Ter}{P:Pt}{v:Value}{l:List Int}{pa ia ta:Option Addr}{pn pc im ic tn tc:Nat}{k r pr f:Int}
def Asa:List Ent:=[(55,.func (.func 138) #[] #[]),(56,.func (.func 139) #[] #[]),(68,.func (.func 133) #[] #[]),(69,.func (.func 134) #[] #[]),(72,.func (.func 135) #[] #[]),(77,.func (.func 136) #[] #[]),(99,.func (.func 140) #[] #[])]
theorem Cab{n:Int}(h0:n≠55)(h1:n≠56)(h2:n≠68)(h3:n≠69)(h4:n≠72)(h5:n≠77)(h6:n≠99):H8 Asa n=none:=by
 simp[Asa,H8,h0,h1,h2,h3,h4,h5,h6]
def W0(T:Ter)(f:Int):Ter:=if f=55 then save T else if f=56 then restore T else if f=68 then Aho T else if f=69 then Aji T else if f=72 then Alj T else if f=77 then Aii T else if f=99 then reset T else T
theorem Cad(h:TM Z w t T)(ok:Ok T)(hj:T.jr.length<=90000000)(hnx:T.nx<=9900000000)(hwf:(Lit.int .i32 f).wf=true):Calls prog 92 #[.pointer (some ⟨t,0,none⟩),.agg #[.int .u8 k,.int .i32 r,.int .i32 pr,.slice pa pn pc,.slice ia 0 ic,.int .i32 f,.slice ta tn tc]] w (A7 Z w t (W0 T f)):=by
 have hbn:=A3 w (.cells #[.int .u8 k,.int .i32 r,.int .i32 pr,.slice pa pn pc,.slice ia 0 ic,.int .i32 f,.slice ta tn tc] 151)
 have hbx:=Block.made w 151 #[.int .u8 k,.int .i32 r,.int .i32 pr,.slice pa pn pc,.slice ia 0 ic,.int .i32 f,.slice ta tn tc]
 have hmm:=@run_makeMap prog
 have Asp:=Bmd
 have Anu:=Bjt
 go_enter func92,ntmps92
 go_upto_region 1 with(fail)
 generalize w.alloc (.cells #[.int .u8 k,.int .i32 r,.int .i32 pr,.slice pa pn pc,.slice ia 0 ic,.int .i32 f,.slice ta tn tc] 151)=w0 at hbn hbx |-
 have x4:=hbx.cell 4 (v:=.slice ia 0 ic) rfl
 have hmp:=MpN.made w0 .i32
 have hbm:=A3 w0 (.map #[] 0)
 have hsz:(w0.alloc (.map #[] 0)).heap.size=w0.heap.size+1:=by simp
 go_upto_region 4 with(refine Ajm Awz hmp ?_ ?_ ?_;rfl;decide;clear hmp;intro wn hmp hon;replace hbm:=hbm.trans (hon.below hbm.size (by simp));clear hon)
 change MpN _ _ _ Asa at hmp
 clear hsz
 have xk:=(Block.only hbx (A0.A1 hbm []) (by simp)).cell 5 (v:=.int .i32 f) rfl
 have F3:=(Akb Awz hmp f hwf).1
 have hb:=A2 hbn hbm
 have hT:=h.below hb
 have hf0:Scn.Fr Z TT w wn:=Scn.Fr.A1 hb
 clear hmp hbm hbn hbx hmm h hb
 have hd:(∃F,H8 Asa f=some (.func (.func F) #[] #[])/\(∀a w,(callFunc F a).run prog w=.ok (.enter F a) w)/\Calls prog F #[.pointer (some ⟨t,0,none⟩)] wn (A7 Z wn t (W0 T f)))\/(H8 Asa f=none/\W0 T f=T):=by
  by_cases e0:f=55
  ·subst e0;exact .inl ⟨_,rfl,enters_of func138 (by kernel_rfl) rfl,(show(save T)=W0 T 55 by simp[W0])▸Bbb hT ⟩
  by_cases e1:f=56
  ·subst e1;exact .inl ⟨_,rfl,enters_of func139 (by kernel_rfl) rfl,(show(restore T)=W0 T 56 by simp[W0])▸Ayr hT ok hj⟩
  by_cases e2:f=68
  ·subst e2;exact .inl ⟨_,rfl,enters_of func133 (by kernel_rfl) rfl,(show(Aho T)=W0 T 68 by simp[W0])▸Ays hT ok hj hnx⟩
  by_cases e3:f=69
  ·subst e3;exact .inl ⟨_,rfl,enters_of func134 (by kernel_rfl) rfl,(show(Aji T)=W0 T 69 by simp[W0])▸Bfh hT ok hj hnx⟩
  by_cases e4:f=72
  ·subst e4;exact .inl ⟨_,rfl,enters_of func135 (by kernel_rfl) rfl,(show(Alj T)=W0 T 72 by simp[W0])▸Bgy hT ok⟩
  by_cases e5:f=77
  ·subst e5;exact .inl ⟨_,rfl,enters_of func136 (by kernel_rfl) rfl,(show(Aii T)=W0 T 77 by simp[W0])▸Bip hT ok hj hnx⟩
  by_cases e6:f=99
  ·subst e6;exact .inl ⟨_,rfl,enters_of func140 (by kernel_rfl) rfl,(show(reset T)=W0 T 99 by simp[W0])▸Cbt hT ok hj hnx⟩
  exact .inr ⟨Cab e0 e1 e2 e3 e4 e5 e6,by simp[W0,e0,e1,e2,e3,e4,e5,e6]⟩
 rcases hd with⟨F,hF,hE,hc⟩|⟨hF,he⟩
 ·rw[hF]at F3
  have hlk:(Instr.lookup 208 (.map (some w0.heap.size)) (.int .i32 f) false).run prog wn=.ok (.func (.func F) #[] #[]) wn:=F3
  replace hc:=J0 hc
  clear hT ok F3 hF
  go_wp2_with((with_reducible refine(hc.out).mono ?_);rintro e w3 ⟨⟨v3,rfl⟩,h3,hf3⟩)
  go_end0
  exact⟨⟨_,rfl⟩,h3,hf0.trans hf3⟩
 ·rw[hF]at F3
  have hlk:(Instr.lookup 208 (.map (some w0.heap.size)) (.int .i32 f) false).run prog wn=.ok .nilFunc wn:=F3
  clear ok F3 hF
  go_wp2
  go_end0
  exact⟨⟨_,rfl⟩,(by rw[he];exact hT),hf0⟩
end
section
variable {Z Z1:Zn}{w w':World}{t x s d b:Nat}{S:Scr}{T:Ter}{P:Pt}{v:Value}{l:List Int}{pa ia ta:Option Addr}{pn pc im ic tn tc:Nat}{k r pr f:Int}
theorem Bmc(f:FuncId)(w:World):(binOp .neq 211 (.func (.func f) #[] #[]) .nilFunc).run prog w=.ok (.bool true) w:=by kernel_rfl
theorem Bax(w:World):(binOp .neq 211 .nilFunc .nilFunc).run prog w=.ok (.bool false) w:=by kernel_rfl
def Anp:List Ent:=[(65,.func (.func 179) #[] #[]),(66,.func (.func 180) #[] #[]),(67,.func (.func 181) #[] #[]),(68,.func (.func 182) #[] #[]),(69,.func (.func 183) #[] #[]),(70,.func (.func 184) #[] #[]),(71,.func (.func 185) #[] #[]),(96,.func (.func 185) #[] #[]),(72,.func (.func 186) #[] #[]),(102,.func (.func 186) #[] #[]),(100,.func (.func 187) #[] #[]),(73,.func (.func 188) #[] #[]),(90,.func (.func 189) #[] #[]),(74,.func (.func 190) #[] #[]),(75,.func (.func 191) #[] #[]),(88,.func (.func 192) #[] #[]),(64,.func (.func 193) #[] #[]),(80,.func (.func 194) #[] #[]),(76,.func (.func 195) #[] #[]),(77,.func (.func 196) #[] #[]),(83,.func (.func 197) #[] #[]),(84,.func (.func 198) #[] #[]),(114,.func (.func 199) #[] #[]),(103,.func (.func 200) #[] #[]),(109,.func (.func 201) #[] #[]),(104,.func (.func 202) #[] #[]),(108,.func (.func 203) #[] #[]),(110,.func (.func 204) #[] #[]),(99,.func (.func 205) #[] #[])]
theorem Bvk{n:Int}(h0:n≠65)(h1:n≠66)(h2:n≠67)(h3:n≠68)(h4:n≠69)(h5:n≠70)(h6:n≠71)(h7:n≠96)(h8:n≠72)(h9:n≠102)(h10:n≠100)(h11:n≠73)(h12:n≠90)(h13:n≠74)(h14:n≠75)(h15:n≠88)(h16:n≠64)(h17:n≠80)(h18:n≠76)(h19:n≠77)(h20:n≠83)(h21:n≠84)(h22:n≠114)(h23:n≠103)(h24:n≠109)(h25:n≠104)(h26:n≠108)(h27:n≠110)(h28:n≠99):H8 Anp n=none:=by
 simp[Anp,H8,h0,h1,h2,h3,h4,h5,h6,h7,h8,h9,h10,h11,h12,h13,h14,h15,h16,h17,h18,h19,h20,h21,h22,h23,h24,h25,h26,h27,h28]
theorem Cbp(w:World):Calls prog 141 #[] w fun e w'=>e=.returned (.map (some w.heap.size))/\MpN w' w.heap.size .i32 Anp/\Below w.heap.size w w':=by
 have hmm:=@run_makeMap prog
 have hmp:=MpN.made w .i32
 have hbm:=A3 w (.map #[] 0)
 have hsz:(w.alloc (.map #[] 0)).heap.size=w.heap.size+1:=by simp
 go_enter func141,ntmps141
 go_wp2_with(refine Ajm Aif hmp ?_ ?_ ?_;rfl;decide;clear hmp;intro wn hmp hon;replace hbm:=hbm.trans (hon.below hbm.size (by simp));clear hon)
 change MpN _ _ _ Anp at hmp
 go_ret
 exact⟨rfl,hmp,hbm⟩
def Aoc:List Ent:=[(104,.func (.func 206) #[] #[]),(108,.func (.func 207) #[] #[])]
theorem Byg{n:Int}(h0:n≠104)(h1:n≠108):H8 Aoc n=none:=by
 simp[Aoc,H8,h0,h1]
theorem Bvl(w:World):Calls prog 142 #[] w fun e w'=>e=.returned (.map (some w.heap.size))/\MpN w' w.heap.size .i32 Aoc/\Below w.heap.size w w':=by
 have hmm:=@run_makeMap prog
 have hmp:=MpN.made w .i32
 have hbm:=A3 w (.map #[] 0)
 have hsz:(w.alloc (.map #[] 0)).heap.size=w.heap.size+1:=by simp
 go_enter func142,ntmps142
 go_wp2_with(refine Ajm Aif hmp ?_ ?_ ?_;rfl;decide;clear hmp;intro wn hmp hon;replace hbm:=hbm.trans (hon.below hbm.size (by simp));clear hon)
 change MpN _ _ _ Aoc at hmp
 go_ret
 exact⟨rfl,hmp,hbm⟩
end
section
variable {Z Z1:Zn}{w w':World}{t x s d b:Nat}{S:Scr}{T:Ter}{P:Pt}{v:Value}{l:List Int}{pa ia ta:Option Addr}{pn pc im ic tn tc:Nat}{k r pr f:Int}
theorem Ccf(h:TM Z w t T)(ok:Ok T)(hj:T.jr.length<=90000000)(hnx:T.nx<=9900000000)(hr:T.rp.length<=10000000000)(hp:NA Z w (.slice pa pn pc) l)(hwf:(Lit.int .i32 f).wf=true):Calls prog 93 #[.pointer (some ⟨t,0,none⟩),.agg #[.int .u8 k,.int .i32 r,.int .i32 0,.slice pa pn pc,.slice ia 0 ic,.int .i32 f,.slice ta tn tc]] w (A7 Z w t (plain T f l)):=by
 have hbn:=A3 w (.cells #[.int .u8 k,.int .i32 r,.int .i32 0,.slice pa pn pc,.slice ia 0 ic,.int .i32 f,.slice ta tn tc] 151)
 have hbx:=Block.made w 151 #[.int .u8 k,.int .i32 r,.int .i32 0,.slice pa pn pc,.slice ia 0 ic,.int .i32 f,.slice ta tn tc]
 have hmm:=@run_makeMap prog
 have Asp:=Bmc
 have Anu:=Bax
 go_enter func93,ntmps93
 go_upto_region 1 with(fail)
 generalize w.alloc (.cells #[.int .u8 k,.int .i32 r,.int .i32 0,.slice pa pn pc,.slice ia 0 ic,.int .i32 f,.slice ta tn tc] 151)=w0 at hbn hbx |-
 have x4:=hbx.cell 4 (v:=.slice ia 0 ic) rfl
 have x2:=hbx.cell 2 (v:=.int .i32 0) rfl
 have hpm:=J0 (Cbp w0)
 go_upto_region 8 with((go_at_call 141;(with_reducible refine(hpm.out).mono ?_);rintro e wn ⟨rfl,hmp,hbm⟩))
 have xk:=(Block.only hbx (A0.A1 hbm []) (by simp)).cell 5 (v:=.int .i32 f) rfl
 have xp:=(Block.only hbx (A0.A1 hbm []) (by simp)).cell 3 (v:=.slice pa pn pc) rfl
 have F3:=(Akb Aif hmp f hwf).1
 have hb:=A2 hbn hbm
 have hT:=h.below hb
 have hf0:Scn.Fr Z TT w wn:=Scn.Fr.A1 hb
 have hp9:=hp.below hb
 clear hmp hbm hbn hbx hmm h hb
 have hd:(∃F,H8 Anp f=some (.func (.func F) #[] #[])/\(∀a w,(callFunc F a).run prog w=.ok (.enter F a) w)/\Calls prog F #[.pointer (some ⟨t,0,none⟩),.slice pa pn pc] wn (A7 Z wn t (plain T f l)))\/(H8 Anp f=none/\plain T f l=T):=by
  by_cases e0:f=65
  ·subst e0;exact .inl ⟨_,rfl,enters_of func179 (by kernel_rfl) rfl,(show(goUp T l)=plain T 65 l by simp[plain])▸(go8 hT ok hj hp9).1⟩
  by_cases e1:f=66
  ·subst e1;exact .inl ⟨_,rfl,enters_of func180 (by kernel_rfl) rfl,(show(goDown T l)=plain T 66 l by simp[plain])▸(go8 hT ok hj hp9).2.1⟩
  by_cases e2:f=67
  ·subst e2;exact .inl ⟨_,rfl,enters_of func181 (by kernel_rfl) rfl,(show(Asb T l)=plain T 67 l by simp[plain])▸(go8 hT ok hj hp9).2.2.1⟩
  by_cases e3:f=68
  ·subst e3;exact .inl ⟨_,rfl,enters_of func182 (by kernel_rfl) rfl,(show(Aqt T l)=plain T 68 l by simp[plain])▸(go8 hT ok hj hp9).2.2.2.1⟩
  by_cases e4:f=69
  ·subst e4;exact .inl ⟨_,rfl,enters_of func183 (by kernel_rfl) rfl,(show(Aqg T l)=plain T 69 l by simp[plain])▸(go3 hT ok hj hp9).1⟩
  by_cases e5:f=70
  ·subst e5;exact .inl ⟨_,rfl,enters_of func184 (by kernel_rfl) rfl,(show(Arh T l)=plain T 70 l by simp[plain])▸(go3 hT ok hj hp9).2.1⟩
  by_cases e6:f=71
  ·subst e6;exact .inl ⟨_,rfl,enters_of func185 (by kernel_rfl) rfl,(show(Aoh T l)=plain T 71 l by simp[plain])▸(go8 hT ok hj hp9).2.2.2.2.1⟩
  by_cases e7:f=96
  ·subst e7;exact .inl ⟨_,rfl,enters_of func185 (by kernel_rfl) rfl,(show(Aoh T l)=plain T 96 l by simp[plain])▸(go8 hT ok hj hp9).2.2.2.2.1⟩
  by_cases e8:f=72
  ·subst e8;exact .inl ⟨_,rfl,enters_of func186 (by kernel_rfl) rfl,(show(Anm T l)=plain T 72 l by simp[plain])▸(go3 hT ok hj hp9).2.2⟩
  by_cases e9:f=102
  ·subst e9;exact .inl ⟨_,rfl,enters_of func186 (by kernel_rfl) rfl,(show(Anm T l)=plain T 102 l by simp[plain])▸(go3 hT ok hj hp9).2.2⟩
  by_cases e10:f=100
  ·subst e10;exact .inl ⟨_,rfl,enters_of func187 (by kernel_rfl) rfl,(show(Ars T l)=plain T 100 l by simp[plain])▸(go8 hT ok hj hp9).2.2.2.2.2.1⟩
  by_cases e11:f=73
  ·subst e11;exact .inl ⟨_,rfl,enters_of func188 (by kernel_rfl) rfl,(show(Aqz T l)=plain T 73 l by simp[plain])▸(go8 hT ok hj hp9).2.2.2.2.2.2.1⟩
  by_cases e12:f=90
  ·subst e12;exact .inl ⟨_,rfl,enters_of func189 (by kernel_rfl) rfl,(show(Aqa T l)=plain T 90 l by simp[plain])▸(go8 hT ok hj hp9).2.2.2.2.2.2.2⟩
  by_cases e13:f=74
  ·subst e13;exact .inl ⟨_,rfl,enters_of func190 (by kernel_rfl) rfl,(show(Ana T (atN l 0))=plain T 74 l by simp[plain])▸Btc hT ok hj hp9⟩
  by_cases e14:f=75
  ·subst e14;exact .inl ⟨_,rfl,enters_of func191 (by kernel_rfl) rfl,(show(Ado T (atN l 0))=plain T 75 l by simp[plain])▸Ami hT ok hj hp9⟩
  by_cases e15:f=88
  ·subst e15;exact .inl ⟨_,rfl,enters_of func192 (by kernel_rfl) rfl,(show(Azb T l)=plain T 88 l by simp[plain])▸Bsd hT ok hj hp9⟩
  by_cases e16:f=64
  ·subst e16;exact .inl ⟨_,rfl,enters_of func193 (by kernel_rfl) rfl,(show(Atn T l)=plain T 64 l by simp[plain])▸Brz hT ok hj hp9⟩
  by_cases e17:f=80
  ·subst e17;exact .inl ⟨_,rfl,enters_of func194 (by kernel_rfl) rfl,(show(Atl T l)=plain T 80 l by simp[plain])▸Brx hT ok hj hp9⟩
  by_cases e18:f=76
  ·subst e18;exact .inl ⟨_,rfl,enters_of func195 (by kernel_rfl) rfl,(show(Amm T l)=plain T 76 l by simp[plain])▸Bsa hT ok hj hnx hp9⟩
  by_cases e19:f=77
  ·subst e19;exact .inl ⟨_,rfl,enters_of func196 (by kernel_rfl) rfl,(show(Aml T l)=plain T 77 l by simp[plain])▸Bry hT ok hj hnx hp9⟩
  by_cases e20:f=83
  ·subst e20;exact .inl ⟨_,rfl,enters_of func197 (by kernel_rfl) rfl,(show(Apx T l)=plain T 83 l by simp[plain])▸Bts hT ok hj hnx hp9⟩
  by_cases e21:f=84
  ·subst e21;exact .inl ⟨_,rfl,enters_of func198 (by kernel_rfl) rfl,(show(Apg T l)=plain T 84 l by simp[plain])▸Bsi hT ok hj hnx hp9⟩
  by_cases e22:f=114
  ·subst e22;exact .inl ⟨_,rfl,enters_of func199 (by kernel_rfl) rfl,(show(Amu T l)=plain T 114 l by simp[plain])▸Bsj hT ok hj hp9⟩
  by_cases e23:f=103
  ·subst e23;exact .inl ⟨_,rfl,enters_of func200 (by kernel_rfl) rfl,(show(Amv T l)=plain T 103 l by simp[plain])▸Bsk hT ok hp9⟩
  by_cases e24:f=109
  ·subst e24;exact .inl ⟨_,rfl,enters_of func201 (by kernel_rfl) rfl,(show(look T l)=plain T 109 l by simp[plain])▸Baw hT hp9⟩
  by_cases e25:f=104
  ·subst e25;exact .inl ⟨_,rfl,enters_of func202 (by kernel_rfl) rfl,(show(W9 T l true)=plain T 104 l by simp[plain])▸Bve hT hp9⟩
  by_cases e26:f=108
  ·subst e26;exact .inl ⟨_,rfl,enters_of func203 (by kernel_rfl) rfl,(show(W9 T l false)=plain T 108 l by simp[plain])▸Btm hT hp9⟩
  by_cases e27:f=110
  ·subst e27;exact .inl ⟨_,rfl,enters_of func204 (by kernel_rfl) rfl,(show(report T l)=plain T 110 l by simp[plain])▸Byi hT ok hr hp9⟩
  by_cases e28:f=99
  ·subst e28;exact .inl ⟨_,rfl,enters_of func205 (by kernel_rfl) rfl,(show(device T l)=plain T 99 l by simp[plain])▸Ayz hT hr hp9⟩
  exact .inr ⟨Bvk e0 e1 e2 e3 e4 e5 e6 e7 e8 e9 e10 e11 e12 e13 e14 e15 e16 e17 e18 e19 e20 e21 e22 e23 e24 e25 e26 e27 e28,by simp[plain,e0,e1,e2,e3,e4,e5,e6,e7,e8,e9,e10,e11,e12,e13,e14,e15,e16,e17,e18,e19,e20,e21,e22,e23,e24,e25,e26,e27,e28]⟩
 rcases hd with⟨F,hF,hE,hc⟩|⟨hF,he⟩
 ·rw[hF]at F3
  have hlk:(Instr.lookup 209 (.map (some w0.heap.size)) (.int .i32 f) false).run prog wn=.ok (.func (.func F) #[] #[]) wn:=F3
  replace hc:=J0 hc
  clear hT ok F3 hF
  go_wp2_with((with_reducible refine(hc.out).mono ?_);rintro e w3 ⟨⟨v3,rfl⟩,h3,hf3⟩)
  go_end0
  exact⟨⟨_,rfl⟩,h3,hf0.trans hf3⟩
 ·rw[hF]at F3
  have hlk:(Instr.lookup 209 (.map (some w0.heap.size)) (.int .i32 f) false).run prog wn=.ok .nilFunc wn:=F3
  clear ok F3 hF
  go_wp2
  go_end0
  exact⟨⟨_,rfl⟩,(by rw[he];exact hT),hf0⟩
def Akc(T:Ter)(f:Int)(l:List Int):Ter:=if f=104 then S7 T l true else if f=108 then S7 T l false else T
theorem Chq(h:TM Z w t T)(ok:Ok T)(hj9:T.jr.length+l.length*2<=89000000)(Brf:T.nx+l.length*T.main.L.length<=9900000000)(hp:NA Z w (.slice pa pn pc) l)(hwf:(Lit.int .i32 f).wf=true):Calls prog 93 #[.pointer (some ⟨t,0,none⟩),.agg #[.int .u8 k,.int .i32 r,.int .i32 63,.slice pa pn pc,.slice ia 0 ic,.int .i32 f,.slice ta tn tc]] w (A7 Z w t (Akc T f l)):=by
 have hbn:=A3 w (.cells #[.int .u8 k,.int .i32 r,.int .i32 63,.slice pa pn pc,.slice ia 0 ic,.int .i32 f,.slice ta tn tc] 151)
 have hbx:=Block.made w 151 #[.int .u8 k,.int .i32 r,.int .i32 63,.slice pa pn pc,.slice ia 0 ic,.int .i32 f,.slice ta tn tc]
 have hmm:=@run_makeMap prog
 have Asp:=Bmc
 have Anu:=Bax
 go_enter func93,ntmps93
 go_upto_region 1 with(fail)
 generalize w.alloc (.cells #[.int .u8 k,.int .i32 r,.int .i32 63,.slice pa pn pc,.slice ia 0 ic,.int .i32 f,.slice ta tn tc] 151)=w0 at hbn hbx |-
 have x4:=hbx.cell 4 (v:=.slice ia 0 ic) rfl
 have x2:=hbx.cell 2 (v:=.int .i32 63) rfl
 have hpm:=J0 (Bvl w0)
 go_upto_region 8 with((go_at_call 142;(with_reducible refine(hpm.out).mono ?_);rintro e wn ⟨rfl,hmp,hbm⟩))
 have xk:=(Block.only hbx (A0.A1 hbm []) (by simp)).cell 5 (v:=.int .i32 f) rfl
 have xp:=(Block.only hbx (A0.A1 hbm []) (by simp)).cell 3 (v:=.slice pa pn pc) rfl
 have F3:=(Akb Aif hmp f hwf).1
 have hb:=A2 hbn hbm
 have hT:=h.below hb
 have hf0:Scn.Fr Z TT w wn:=Scn.Fr.A1 hb
 have hp9:=hp.below hb
 clear hmp hbm hbn hbx hmm h hb
 have hd:(∃F,H8 Aoc f=some (.func (.func F) #[] #[])/\(∀a w,(callFunc F a).run prog w=.ok (.enter F a) w)/\Calls prog F #[.pointer (some ⟨t,0,none⟩),.slice pa pn pc] wn (A7 Z wn t (Akc T f l)))\/(H8 Aoc f=none/\Akc T f l=T):=by
  by_cases e0:f=104
  ·subst e0;exact .inl ⟨_,rfl,enters_of func206 (by kernel_rfl) rfl,(show(S7 T l true)=Akc T 104 l by simp[Akc])▸Bsg hT ok hj9 Brf hp9⟩
  by_cases e1:f=108
  ·subst e1;exact .inl ⟨_,rfl,enters_of func207 (by kernel_rfl) rfl,(show(S7 T l false)=Akc T 108 l by simp[Akc])▸Bsb hT ok hj9 Brf hp9⟩
  exact .inr ⟨Byg e0 e1,by simp[Akc,e0,e1]⟩
 rcases hd with⟨F,hF,hE,hc⟩|⟨hF,he⟩
 ·rw[hF]at F3
  have hlk:(Instr.lookup 209 (.map (some w0.heap.size)) (.int .i32 f) false).run prog wn=.ok (.func (.func F) #[] #[]) wn:=F3
  replace hc:=J0 hc
  clear hT ok F3 hF
  go_wp2_with((with_reducible refine(hc.out).mono ?_);rintro e w3 ⟨⟨v3,rfl⟩,h3,hf3⟩)
  go_end0
  exact⟨⟨_,rfl⟩,h3,hf0.trans hf3⟩
 ·rw[hF]at F3
  have hlk:(Instr.lookup 209 (.map (some w0.heap.size)) (.int .i32 f) false).run prog wn=.ok .nilFunc wn:=F3
  clear ok F3 hF
  go_wp2
  go_end0
  exact⟨⟨_,rfl⟩,(by rw[he];exact hT),hf0⟩
end
section
variable {Z Z1:Zn}{w w':World}{t x s d b:Nat}{S:Scr}{T:Ter}{P:Pt}{v:Value}{l:List Int}{pa ia ta:Option Addr}{pn pc im ic tn tc:Nat}{k r pr f:Int}
def Bct:List Ent:=[(40,.int .i64 0),(41,.int .i64 1)]
def Bdj:List Ent:=[(48,.int .u8 2),(65,.int .u8 1),(66,.int .u8 0)]
def RA(Z:Zn)(w:World)(ao:Option Addr)(l:List Int):Prop:=I2 w (Kept Z w) .i32 ao l
theorem RA.below(h:RA Z w ia l)(hb:Below w.heap.size w w'):RA Z w' ia l:=fun i x hx=>by
 obtain⟨ad,e,hk,hc⟩:=h i x hx
 have hf:=Scn.Fr.A1 (B:=Z) (ts:=TT) hb
 exact⟨ad,e,(hk.fr hf).1,(World.cell?_of_block (w:=w) (by rw[Aa1];exact(hk.fr hf).2)).trans hc⟩
theorem TMx.Akl(h:TMx Z w t T P)(v:Int):(TMx Z (w.setCell ⟨t,14,none⟩ (.int .u8 v)) t (Akl T false v) P/\Scn.Fr Z TT w (w.setCell ⟨t,14,none⟩ (.int .u8 v)))/\(TMx Z (w.setCell ⟨t,15,none⟩ (.int .u8 v)) t (Akl T true v) P/\Scn.Fr Z TT w (w.setCell ⟨t,15,none⟩ (.int .u8 v))) :=
 ⟨h.G9 (m:=T.m) (c:=T.c) (p:={ T.p with g0:=v }) (n:=T.C5) (e:=T.last) (A0.setCell w ⟨t,14,none⟩ _) (h.blk.set 14 _),h.G9 (m:=T.m) (c:=T.c) (p:={ T.p with g1:=v }) (n:=T.C5) (e:=T.last) (A0.setCell w ⟨t,15,none⟩ _) (h.blk.set 15 _)⟩
def wv(b:Bool):Value:=.int .i64 (if b then 1 else 0)
theorem Bxk(r:Int):H8 Bct r=(Ale r).map wv:=by
 unfold Ale
 by_cases h0:r=40
 ·rw[if_pos h0,h0];rfl
 ·by_cases h1:r=41
  ·rw[if_neg h0,if_pos h1,h1];rfl
  ·rw[if_neg h0,if_neg h1]
   simp[Bct,H8,h0,h1]
theorem Ceh(f:Int):H8 Bdj f=(Aa9 f).map (Value.int .u8):=by
 unfold Aa9
 by_cases h0:f=48
 ·rw[if_pos h0,h0];rfl
 ·by_cases h1:f=65
  ·rw[if_neg h0,if_pos h1,h1];rfl
  ·by_cases h2:f=66
   ·rw[if_neg h0,if_neg h1,if_pos h2,h2];rfl
   ·rw[if_neg h0,if_neg h1,if_neg h2]
    simp[Bdj,H8,h0,h1,h2]
def Ade(T:Ter)(l:List Int)(f:Int):Ter:=match l with
 |[r]=>match Ale r,Aa9 f with
  |some b,some v=>Akl T b v
  |_,_=>T
 |_=>T
theorem Bzm{T:Ter}{l:List Int}(h:l.length≠1)(f:Int):Ade T l f=T:=by
 unfold Ade
 split
 ·exact absurd rfl h
 ·rfl
theorem Bzn{ad:Addr}(h:TMx Z w t T P)(r0:Int)(hr0:(Lit.int .i32 r0).wf=true)(hf0:(Lit.int .i32 f).wf=true)(hm1:1<=im)(hx:∀w1,Below w.heap.size w w1->w1.cell? ad=some (.int .i32 r0)):Calls prog 137 #[.pointer (some ⟨t,0,none⟩),.agg #[.int .u8 k,.int .i32 r,.int .i32 pr,.slice pa pn pc,.slice (some ad) im ic,.int .i32 f,.slice ta tn tc]] w (A7 Z w t (if im=1 then Ade T [r0] f else T)):=by
 have hbn:=A3 w (.cells #[.int .u8 k,.int .i32 r,.int .i32 pr,.slice pa pn pc,.slice (some ad) im ic,.int .i32 f,.slice ta tn tc] 151)
 have hbx:=Block.made w 151 #[.int .u8 k,.int .i32 r,.int .i32 pr,.slice pa pn pc,.slice (some ad) im ic,.int .i32 f,.slice ta tn tc]
 have hmm:=@run_makeMap prog
 have hip:(0:Int)<(im:Int):=by omega
 go_enter func137,ntmps137
 go_upto_region 1 with(fail)
 generalize w.alloc (.cells #[.int .u8 k,.int .i32 r,.int .i32 pr,.slice pa pn pc,.slice (some ad) im ic,.int .i32 f,.slice ta tn tc] 151)=w0 at hbn hbx |-
 have hmp:=MpN.made w0 .i32
 have hbm:=A3 w0 (.map #[] 0)
 have hsz:(w0.alloc (.map #[] 0)).heap.size=w0.heap.size+1:=by simp
 go_upto_region 2 with(refine Ajm Bmb hmp ?_ ?_ ?_;rfl;decide;clear hmp;intro wn hmp hon;replace hbm:=hbm.trans (hon.below hbm.size (by simp));clear hon)
 change MpN _ _ _ Bct at hmp
 clear hsz
 generalize hb1e:w0.heap.size=b1 at hmp |-
 have hmq:=MpN.made wn .i32
 have hbq:=A3 wn (.map #[] 0)
 have hsz:(wn.alloc (.map #[] 0)).heap.size=wn.heap.size+1:=by simp
 go_upto_region 3 with(refine Ajm Boh hmq ?_ ?_ ?_;rfl;decide;clear hmq;intro wm hmq hon;replace hbq:=hbq.trans (hon.below hbq.size (by simp));clear hon)
 change MpN _ _ _ Bdj at hmq
 clear hsz
 generalize wn.heap.size=b2 at hmq |-
 have Ait:=(Akb Bmb (hmp.below hbq) r0 hr0).2
 have Aiu:=(Akb Boh hmq f hf0).2
 rw[Bxk]at Ait
 rw[Ceh]at Aiu
 have hb0:=A2 hbm hbq
 have hB:=A2 hbn hb0
 have hxb:=Block.only hbx (A0.A1 hb0 []) (by simp)
 have x4:=hxb.cell 4 (v:=.slice (some ad) im ic) rfl
 have x5:=hxb.cell 5 (v:=.int .i32 f) rfl
 have y0:=hx _ hB
 have hT:=h.below hB
 have hf1:Scn.Fr Z TT w wm:=Scn.Fr.A1 hB
 clear hmp hbm hbn hbx hmm hmq hbq hb0 hB hxb hx h
 by_cases him:im=1
 ·subst him
  rw[if_pos rfl]
  cases e1:Ale r0 with
  |none =>
   have hc:=J0 (show Ade T [r0] f=T by simp[Ade,e1])
   rw[e1]at Ait
   generalize ((Aa9 f).map (Value.int .u8)).getD (.int .u8 0)=v2 at Aiu
   generalize ((Aa9 f).map (Value.int .u8)).isSome=o2 at Aiu
   simp only[Option.map_none,Option.getD_none,Option.isSome_none]at Ait
   clear e1
   go_wp2
   go_end0
   rw[hc.out]
   exact⟨⟨_,rfl⟩,hT.tm,hf1⟩
  |some b =>
   rw[e1]at Ait
   simp only[Option.map_some,Option.getD_some,Option.isSome_some]at Ait
   cases e2:Aa9 f with
   |none =>
    have hc:=J0 (show Ade T [r0] f=T by simp[Ade,e1,e2])
    rw[e2]at Aiu
    simp only[Option.map_none,Option.getD_none,Option.isSome_none]at Aiu
    clear e1 e2
    go_wp2
    go_end0
    rw[hc.out]
    exact⟨⟨_,rfl⟩,hT.tm,hf1⟩
   |some v =>
    have hc:=J0 (show Ade T [r0] f=Akl T b v by simp[Ade,e1,e2])
    rw[e2]at Aiu
    simp only[Option.map_some,Option.getD_some,Option.isSome_some]at Aiu
    have d14:=hT.c14
    have d15:=hT.c15
    have q14:=hT.free 14
    have q15:=hT.free 15
    have hG:=hT.Akl v
    clear e1 e2
    cases b with
    |false =>
     obtain⟨h6,hf6⟩:=hG.1
     simp only[wv,if_false,Bool.false_eq_true]at Ait
     go_wp2
     go_end0
     rw[hc.out]
     exact⟨⟨_,rfl⟩,h6.tm,hf1.trans hf6⟩
    |true =>
     obtain⟨h6,hf6⟩:=hG.2
     simp only[wv,if_true]at Ait
     go_wp2
     go_end0
     rw[hc.out]
     exact⟨⟨_,rfl⟩,h6.tm,hf1.trans hf6⟩
 ·have hd1:decide ((im:Int)=1)=false:=decide_eq_false (by omega)
  have hd2:((im:Int)==1)=false:=beq_eq_false_iff_ne.2 (by omega)
  have hd3:decide (im=1)=false:=decide_eq_false him
  rw[if_neg him]
  generalize ((Aa9 f).map (Value.int .u8)).getD (.int .u8 0)=v2 at Aiu
  generalize ((Aa9 f).map (Value.int .u8)).isSome=o2 at Aiu
  generalize ((Ale r0).map wv).getD (.int .i64 0)=v1 at Ait
  generalize ((Ale r0).map wv).isSome=o1 at Ait
  go_wp2
  go_end0
  exact⟨⟨_,rfl⟩,hT.tm,hf1⟩
end
