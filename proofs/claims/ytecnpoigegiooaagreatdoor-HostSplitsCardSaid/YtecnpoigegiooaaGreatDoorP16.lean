/- Part 16 of HostSplits. -/
import Derived.Test.YtecnpoigegiooaaGreatDoorP15
set_option maxHeartbeats 16000000
set_option maxRecDepth 100000
namespace Go.Proofs.YtecnpoigegiooaaGreatDoor.Scn
open Go RowKit Com Rw Lns
section
variable {B:Zn}{w w':World}{x s:Nat}{S:Scr}
theorem fate_keep (h:SC B w x s S) (hk:S.kp=true) (v:Value) (hv:v=.int .i64 0):Calls Tryz.prog 266 #[.pointer (some ⟨x,0,none⟩),v] w fun e w'=>e=.returned (.func (.func 283) #[.pointer (some ⟨x,0,none⟩)] #[])/\w=w':=by
 obtain⟨_,c1,_,_,_,_⟩:=h.cells
 rw[hk] at c1
 have hmf:=mkf
 subst hv
 clear h hk
 go_enter Tryz.func266,Tryz.ntmps266
 go_wp2
 go_ret
 exact⟨rfl,rfl⟩
theorem fate_forget (h:SC B w x s S) (frm:Nat) (hk:S.kp=false\/frm≠0):Calls Tryz.prog 266 #[.pointer (some ⟨x,0,none⟩),.int .i64 frm] w fun e w'=>e=.returned (.func (.func 77) #[.pointer (some ⟨x,0,none⟩)] #[])/\w=w':=by
 obtain⟨_,c1,_,_,_,_⟩:=h.cells
 have hmf:=mkf
 generalize S.kp=kp at c1 hk
 clear h
 cases kp
 ·clear hk
  go_enter Tryz.func266,Tryz.ntmps266
  go_wp2
  go_ret
  exact⟨rfl,rfl⟩
 ·have h0:((frm:Int) == 0)=false:=beq_eq_false_iff_ne.2 (by
   rcases hk with hk|hk
   ·cases hk
   ·omega)
  clear hk
  go_enter Tryz.func266,Tryz.ntmps266
  go_wp2
  go_ret
  exact⟨rfl,rfl⟩
theorem Up_forget (h:SC B w x s S) (hF:Fit S) (n:Int) (hnx:S.nx+512<=10000000000) (a:At) (hk:S.kp=false\/S.top≠0) :
  Calls Tryz.prog 223 #[.pointer (some ⟨x,0,none⟩),.int .i64 n,.agg #[.int .u32 a.f,.int .u32 a.b,.int .u16 a.g]] w (DidV B w x s (upS S S.top n a false) 0):=by
 have hb1:=Aa1 w (.cells #[.int .u32 a.f,.int .u32 a.b,.int .u16 a.g] 51)
 have hbx:=Block.made w 51 #[.int .u32 a.f,.int .u32 a.b,.int .u16 a.g]
 have hmade:=Ak8 (h.below hb1) hF.len
 have h1:=h.below hb1
 have htb:=hF.top
 obtain⟨af,ab,ag⟩:=a
 simp only at hb1 hbx hmade |-
 obtain⟨bx,hbxe⟩:∃bx,bx=w.heap.size:=⟨_,rfl⟩
 replace hmade:=J0 hmade
 clear h
 go_enter Tryz.func223,Tryz.ntmps223
 go_wp2_with ((go_at_call 97;(with_reducible refine(hmade.out).mono ?_);rintro e w' ⟨rfl,rfl⟩))
 generalize w.alloc (.cells #[.int .u32 af,.int .u32 ab,.int .u16 ag] 51)=w0 at hbx hb1 h1 |-
 rw[<- hbxe] at hbx |-
 replace hbxe:=J0 hbxe
 have hd0:Below w0.heap.size w0 w0.drew:=Aa4 (Below.refl _ _) 1
 have hS:∀w' S',SC B w' x s S'->S'.top=S.top->Fr B PT w0 w'->w'.cell? ⟨x,4,none⟩=some (.int .i64 S.top)/\w'.cell? ⟨bx,0,none⟩=some (.int .u32 af)/\w'.cell? ⟨bx,1,none⟩=some (.int .u32 ab)/\w'.cell? ⟨bx,2,none⟩=some (.int .u16 ag):=fun w' S' hs hb hf=>by
  have hbx':=Block.fr hbx hf (.inl (by decide))
  have:=hs.cells.2.2.2.2.1
  rw[hb] at this
  exact⟨this,hbx'.cell 0 rfl,hbx'.cell 1 rfl,hbx'.cell 2 rfl⟩
 obtain⟨a0,a1,a2,a3⟩:=hS _ _ h1 rfl (Fr.refl _ _ _)
 have c1:=hS _ _ (h1.below hd0) rfl (Fr.of_below hd0)
 have hfa:=fate_forget (h1.below hd0) S.top hk
 have hch:=Cs9 (.inl ⟨rfl,rfl⟩) (h1.below hd0) hF S.top htb n hnx ⟨af,ab,ag⟩
 have hpt:=J0 (fun w' hs=>hS w' (upS S S.top n ⟨af,ab,ag⟩ false) hs rfl)
 have hfr1:Fr B PT w w0.drew:=(Fr.of_below hb1).trans (Fr.of_below hd0)
 have hfr0:Fr B PT w0 w0.drew:=Fr.of_below hd0
 obtain⟨S',hS'⟩:∃S',S'=upS S S.top n ⟨af,ab,ag⟩ false:=⟨_,rfl⟩
 rw[<- hS'] at hch hpt
 replace hS':=J0 hS'
 simp only at hch
 generalize S.top=tp at a0 c1 hpt hfa hch hk
 replace hch:=J0 hch
 replace hfa:=J0 hfa
 replace hfr1:=J0 hfr1
 replace hfr0:=J0 hfr0
 clear hS hbx h1 hb1 hd0 hF hnx htb hk
 go_region_held3 (fun w'=>w'.cell? ⟨x,4,none⟩=some (.int .i64 tp)/\w'.cell? ⟨bx,0,none⟩=some (.int .u32 af)/\w'.cell? ⟨bx,1,none⟩=some (.int .u32 ab)/\w'.cell? ⟨bx,2,none⟩=some (.int .u16 ag))
  (first|exact⟨a0,a1,a2,a3⟩|exact c1|exact hz)
  (first
   |(go_at_call 266;(with_reducible refine hfa.out.mono ?_);rintro r w1 ⟨rfl,rfl⟩)
   |(go_at_call 265;(with_reducible refine hch.out.mono ?_);rintro r w2 ⟨⟨v2,rfl⟩,hs2,hf2⟩;have hz:=hpt.out _ hs2 (hfr0.out.trans hf2)))
 have hres:=J0 (And.intro hs2 (hfr1.out.trans hf2))
 clear hs2 hf2 hz a0 a1 a2 a3 c1
 go_wp2
 go_ret
 exact⟨rfl,by rw[<- hS'.out];exact hres.out⟩
theorem Up_keep (h:SC B w x s S) (hF:Fit S) (n:Int) (hnx:S.nx+512<=10000000000) (a:At) (hk:S.kp=true/\S.top=0) :
  Calls Tryz.prog 223 #[.pointer (some ⟨x,0,none⟩),.int .i64 n,.agg #[.int .u32 a.f,.int .u32 a.b,.int .u16 a.g]] w (DidV B w x s (upS S S.top n a true) 0):=by
 have hb1:=Aa1 w (.cells #[.int .u32 a.f,.int .u32 a.b,.int .u16 a.g] 51)
 have hbx:=Block.made w 51 #[.int .u32 a.f,.int .u32 a.b,.int .u16 a.g]
 have hmade:=Ak8 (h.below hb1) hF.len
 have h1:=h.below hb1
 have htb:=hF.top
 obtain⟨af,ab,ag⟩:=a
 simp only at hb1 hbx hmade |-
 obtain⟨bx,hbxe⟩:∃bx,bx=w.heap.size:=⟨_,rfl⟩
 replace hmade:=J0 hmade
 clear h
 go_enter Tryz.func223,Tryz.ntmps223
 go_wp2_with ((go_at_call 97;(with_reducible refine(hmade.out).mono ?_);rintro e w' ⟨rfl,rfl⟩))
 generalize w.alloc (.cells #[.int .u32 af,.int .u32 ab,.int .u16 ag] 51)=w0 at hbx hb1 h1 |-
 rw[<- hbxe] at hbx |-
 replace hbxe:=J0 hbxe
 have hd0:Below w0.heap.size w0 w0.drew:=Aa4 (Below.refl _ _) 1
 have hS:∀w' S',SC B w' x s S'->S'.top=S.top->Fr B PT w0 w'->w'.cell? ⟨x,4,none⟩=some (.int .i64 S.top)/\w'.cell? ⟨bx,0,none⟩=some (.int .u32 af)/\w'.cell? ⟨bx,1,none⟩=some (.int .u32 ab)/\w'.cell? ⟨bx,2,none⟩=some (.int .u16 ag):=fun w' S' hs hb hf=>by
  have hbx':=Block.fr hbx hf (.inl (by decide))
  have:=hs.cells.2.2.2.2.1
  rw[hb] at this
  exact⟨this,hbx'.cell 0 rfl,hbx'.cell 1 rfl,hbx'.cell 2 rfl⟩
 obtain⟨a0,a1,a2,a3⟩:=hS _ _ h1 rfl (Fr.refl _ _ _)
 have c1:=hS _ _ (h1.below hd0) rfl (Fr.of_below hd0)
 have hfa:=fate_keep (h1.below hd0) hk.1 (.int .i64 S.top) (by rw[hk.2];rfl)
 have hch:=Cs9 (.inr ⟨rfl,rfl⟩) (h1.below hd0) hF S.top htb n hnx ⟨af,ab,ag⟩
 have hpt:=J0 (fun w' hs=>hS w' (upS S S.top n ⟨af,ab,ag⟩ true) hs rfl)
 have hfr1:Fr B PT w w0.drew:=(Fr.of_below hb1).trans (Fr.of_below hd0)
 have hfr0:Fr B PT w0 w0.drew:=Fr.of_below hd0
 obtain⟨S',hS'⟩:∃S',S'=upS S S.top n ⟨af,ab,ag⟩ true:=⟨_,rfl⟩
 rw[<- hS'] at hch hpt
 replace hS':=J0 hS'
 simp only at hch
 generalize S.top=tp at a0 c1 hpt hfa hch hk
 replace hch:=J0 hch
 replace hfa:=J0 hfa
 replace hfr1:=J0 hfr1
 replace hfr0:=J0 hfr0
 clear hS hbx h1 hb1 hd0 hF hnx htb hk
 go_region_held3 (fun w'=>w'.cell? ⟨x,4,none⟩=some (.int .i64 tp)/\w'.cell? ⟨bx,0,none⟩=some (.int .u32 af)/\w'.cell? ⟨bx,1,none⟩=some (.int .u32 ab)/\w'.cell? ⟨bx,2,none⟩=some (.int .u16 ag))
  (first|exact⟨a0,a1,a2,a3⟩|exact c1|exact hz)
  (first
   |(go_at_call 266;(with_reducible refine hfa.out.mono ?_);rintro r w1 ⟨rfl,rfl⟩)
   |(go_at_call 265;(with_reducible refine hch.out.mono ?_);rintro r w2 ⟨⟨v2,rfl⟩,hs2,hf2⟩;have hz:=hpt.out _ hs2 (hfr0.out.trans hf2)))
 have hres:=J0 (And.intro hs2 (hfr1.out.trans hf2))
 clear hs2 hf2 hz a0 a1 a2 a3 c1
 go_wp2
 go_ret
 exact⟨rfl,by rw[<- hS'.out];exact hres.out⟩
theorem Cf2 (h:SC B w x s S) (hF:Fit S) (n:Int) (hnx:S.nx+512<=10000000000) (a:At) :
  Calls Tryz.prog 177 #[.pointer (some ⟨x,0,none⟩),.int .i64 n,.agg #[.int .u32 a.f,.int .u32 a.b,.int .u16 a.g]] w (DidV B w x s (Ag0 S S.top n a) 0):=by
 have hb1:=Aa1 w (.cells #[.int .u32 a.f,.int .u32 a.b,.int .u16 a.g] 51)
 have hbx:=Block.made w 51 #[.int .u32 a.f,.int .u32 a.b,.int .u16 a.g]
 have hmade:=Ak8 (h.below hb1) hF.len
 have h1:=h.below hb1
 have htb:=hF.top
 obtain⟨af,ab,ag⟩:=a
 simp only at hb1 hbx hmade |-
 obtain⟨bx,hbxe⟩:∃bx,bx=w.heap.size:=⟨_,rfl⟩
 replace hmade:=J0 hmade
 clear h
 go_enter Tryz.func177,Tryz.ntmps177
 go_wp2_with ((go_at_call 97;(with_reducible refine(hmade.out).mono ?_);rintro e w' ⟨rfl,rfl⟩))
 generalize w.alloc (.cells #[.int .u32 af,.int .u32 ab,.int .u16 ag] 51)=w0 at hbx hb1 h1 |-
 rw[<- hbxe] at hbx |-
 replace hbxe:=J0 hbxe
 have hd0:Below w0.heap.size w0 w0.drew:=Aa4 (Below.refl _ _) 1
 have hS:∀w' S',SC B w' x s S'->S'.top=S.top->Fr B PT w0 w'->w'.cell? ⟨x,4,none⟩=some (.int .i64 S.top)/\w'.cell? ⟨bx,0,none⟩=some (.int .u32 af)/\w'.cell? ⟨bx,1,none⟩=some (.int .u32 ab)/\w'.cell? ⟨bx,2,none⟩=some (.int .u16 ag):=fun w' S' hs hb hf=>by
  have hbx':=Block.fr hbx hf (.inl (by decide))
  have:=hs.cells.2.2.2.2.1
  rw[hb] at this
  exact⟨this,hbx'.cell 0 rfl,hbx'.cell 1 rfl,hbx'.cell 2 rfl⟩
 obtain⟨a0,a1,a2,a3⟩:=hS _ _ h1 rfl (Fr.refl _ _ _)
 have c1:=hS _ _ (h1.below hd0) rfl (Fr.of_below hd0)
 have hch:=Cg9 (h1.below hd0) hF S.top htb n hnx ⟨af,ab,ag⟩
 have hpt:=J0 (fun w' hs=>hS w' (Ag0 S S.top n ⟨af,ab,ag⟩) hs rfl)
 have hfr1:Fr B PT w w0.drew:=(Fr.of_below hb1).trans (Fr.of_below hd0)
 have hfr0:Fr B PT w0 w0.drew:=Fr.of_below hd0
 obtain⟨S',hS'⟩:∃S',S'=Ag0 S S.top n ⟨af,ab,ag⟩:=⟨_,rfl⟩
 rw[<- hS'] at hch hpt
 replace hS':=J0 hS'
 simp only at hch
 generalize S.top=tp at a0 c1 hpt hch
 replace hch:=J0 hch
 replace hfr1:=J0 hfr1
 replace hfr0:=J0 hfr0
 clear hS hbx h1 hb1 hd0 hF hnx htb
 go_region_held3 (fun w'=>w'.cell? ⟨x,4,none⟩=some (.int .i64 tp)/\w'.cell? ⟨bx,0,none⟩=some (.int .u32 af)/\w'.cell? ⟨bx,1,none⟩=some (.int .u32 ab)/\w'.cell? ⟨bx,2,none⟩=some (.int .u16 ag))
  (first|exact⟨a0,a1,a2,a3⟩|exact c1|exact hz)
  (first
   |(go_at_call 235;(with_reducible refine hch.out.mono ?_);rintro r w2 ⟨⟨v2,rfl⟩,hs2,hf2⟩;have hz:=hpt.out _ hs2 (hfr0.out.trans hf2)))
 have hres:=J0 (And.intro hs2 (hfr1.out.trans hf2))
 clear hs2 hf2 hz a0 a1 a2 a3 c1
 go_wp2
 go_ret
 exact⟨rfl,by rw[<- hS'.out];exact hres.out⟩
theorem ins_no (h:SC B w x s S) (hF:Fit S) (at' n:Int) (hat:¬((S.top:Int)<=at'/\at'<=S.bot)) (a:At) :
  Calls Tryz.prog 245 #[.pointer (some ⟨x,0,none⟩),.int .i64 at',.int .i64 n,.agg #[.int .u32 a.f,.int .u32 a.b,.int .u16 a.g]] w (DidV B w x s S 2):=by
 have hb1:=Aa1 w (.cells #[.int .u32 a.f,.int .u32 a.b,.int .u16 a.g] 51)
 have hmade:=Ak8 (h.below hb1) hF.len
 have hw:=Az0 (h.below hb1) at'
 rw[decide_eq_false hat] at hw
 have hres:=J0 (fun w' hb=>(⟨h.below hb,Fr.of_below hb⟩:SC B w' x s S/\Fr B PT w w'))
 obtain⟨af,ab,ag⟩:=a
 simp only at hb1 hmade hw |-
 replace hmade:=J0 hmade
 replace hw:=J0 hw
 replace hb1:=J0 hb1
 clear h hF hat
 go_enter Tryz.func245,Tryz.ntmps245
 go_wp2_with (first
  |(go_at_call 97;(with_reducible refine(hmade.out).mono ?_);rintro e w' ⟨rfl,rfl⟩)
  |(go_at_call 272;(with_reducible refine(hw.out).mono ?_);rintro e w1 ⟨rfl,hbw⟩))
 go_ret
 exact⟨rfl,hres.out _ (Aa0 hb1.out hbw)⟩
theorem ins_yes (h:SC B w x s S) (hF:Fit S) (at':Nat) (n:Int) (h0:S.top<=at') (h1:at'<=S.bot) (hnx:S.nx+512<=10000000000) (a:At) :
  Calls Tryz.prog 245 #[.pointer (some ⟨x,0,none⟩),.int .i64 at',.int .i64 n,.agg #[.int .u32 a.f,.int .u32 a.b,.int .u16 a.g]] w (DidV B w x s (Ag0 S at' n a) 0):=by
 have hb1:=Aa1 w (.cells #[.int .u32 a.f,.int .u32 a.b,.int .u16 a.g] 51)
 have hbx:=Block.made w 51 #[.int .u32 a.f,.int .u32 a.b,.int .u16 a.g]
 have hmade:=Ak8 (h.below hb1) hF.len
 have hw:=Az0 (h.below hb1) at'
 rw[decide_eq_true (by omega)] at hw
 have hch:=fun w' hb=>Cg9 (h.below (w':=w') hb) hF at' h1 n hnx a
 obtain⟨af,ab,ag⟩:=a
 generalize Ag0 S at' n ⟨af,ab,ag⟩=S' at hch |-
 simp only at hb1 hbx hmade hw hch |-
 have hmf:=mkf
 replace hmade:=J0 hmade
 replace hw:=J0 hw
 replace hch:=J0 hch
 replace hb1:=J0 hb1
 obtain⟨bx,hbxe⟩:∃bx,bx=w.heap.size:=⟨_,rfl⟩
 clear h hF h0 h1 hnx
 go_enter Tryz.func245,Tryz.ntmps245
 go_wp2_with (first
  |(go_at_call 97;(with_reducible refine(hmade.out).mono ?_);rintro e w' ⟨rfl,rfl⟩)
  |(go_at_call 272;(with_reducible refine(hw.out).mono ?_);rintro e w1 ⟨rfl,hbw⟩;have hb2:=hbx.only (Only.of_below hbw []) (by simp);have a0:=hb2.cell 0 rfl;have a1:=hb2.cell 1 rfl;have a2:=hb2.cell 2 rfl;have hbb:=Aa0 hb1.out hbw)
  |(go_at_call 235;(with_reducible refine(hch.out _ hbb).mono ?_);rintro r w2 ⟨⟨v2,rfl⟩,hs2,hf2⟩))
 go_ret
 exact⟨rfl,hs2,(Fr.of_below hbb).trans hf2⟩
theorem del_no (h:SC B w x s S) (hF:Fit S) (at' n:Int) (hat:¬((S.top:Int)<=at'/\at'<=S.bot)) (a:At) :
  Calls Tryz.prog 246 #[.pointer (some ⟨x,0,none⟩),.int .i64 at',.int .i64 n,.agg #[.int .u32 a.f,.int .u32 a.b,.int .u16 a.g]] w (DidV B w x s S 2):=by
 have hb1:=Aa1 w (.cells #[.int .u32 a.f,.int .u32 a.b,.int .u16 a.g] 51)
 have hmade:=Ak8 (h.below hb1) hF.len
 have hw:=Az0 (h.below hb1) at'
 rw[decide_eq_false hat] at hw
 have hres:=J0 (fun w' hb=>(⟨h.below hb,Fr.of_below hb⟩:SC B w' x s S/\Fr B PT w w'))
 obtain⟨af,ab,ag⟩:=a
 simp only at hb1 hmade hw |-
 replace hmade:=J0 hmade
 replace hw:=J0 hw
 replace hb1:=J0 hb1
 clear h hF hat
 go_enter Tryz.func246,Tryz.ntmps246
 go_wp2_with (first
  |(go_at_call 97;(with_reducible refine(hmade.out).mono ?_);rintro e w' ⟨rfl,rfl⟩)
  |(go_at_call 272;(with_reducible refine(hw.out).mono ?_);rintro e w1 ⟨rfl,hbw⟩))
 go_ret
 exact⟨rfl,hres.out _ (Aa0 hb1.out hbw)⟩
theorem del_yes (h:SC B w x s S) (hF:Fit S) (at':Nat) (n:Int) (h0:S.top<=at') (h1:at'<=S.bot) (hnx:S.nx+512<=10000000000) (a:At) :
  Calls Tryz.prog 246 #[.pointer (some ⟨x,0,none⟩),.int .i64 at',.int .i64 n,.agg #[.int .u32 a.f,.int .u32 a.b,.int .u16 a.g]] w (DidV B w x s (upS S at' n a false) 0):=by
 have hb1:=Aa1 w (.cells #[.int .u32 a.f,.int .u32 a.b,.int .u16 a.g] 51)
 have hbx:=Block.made w 51 #[.int .u32 a.f,.int .u32 a.b,.int .u16 a.g]
 have hmade:=Ak8 (h.below hb1) hF.len
 have hw:=Az0 (h.below hb1) at'
 rw[decide_eq_true (by omega)] at hw
 have hch:=fun w' hb=>Cs9 (.inl ⟨rfl,rfl⟩) (h.below (w':=w') hb) hF at' h1 n hnx a
 obtain⟨af,ab,ag⟩:=a
 generalize upS S at' n ⟨af,ab,ag⟩ false=S' at hch |-
 simp only at hb1 hbx hmade hw hch |-
 have hmf:=mkf
 replace hmade:=J0 hmade
 replace hw:=J0 hw
 replace hch:=J0 hch
 replace hb1:=J0 hb1
 obtain⟨bx,hbxe⟩:∃bx,bx=w.heap.size:=⟨_,rfl⟩
 clear h hF h0 h1 hnx
 go_enter Tryz.func246,Tryz.ntmps246
 go_wp2_with (first
  |(go_at_call 97;(with_reducible refine(hmade.out).mono ?_);rintro e w' ⟨rfl,rfl⟩)
  |(go_at_call 272;(with_reducible refine(hw.out).mono ?_);rintro e w1 ⟨rfl,hbw⟩;have hb2:=hbx.only (Only.of_below hbw []) (by simp);have a0:=hb2.cell 0 rfl;have a1:=hb2.cell 1 rfl;have a2:=hb2.cell 2 rfl;have hbb:=Aa0 hb1.out hbw)
  |(go_at_call 265;(with_reducible refine(hch.out _ hbb).mono ?_);rintro r w2 ⟨⟨v2,rfl⟩,hs2,hf2⟩))
 go_ret
 exact⟨rfl,hs2,(Fr.of_below hbb).trans hf2⟩
def Ax1 (S:Scr) (t b:Int):Prop:=(t=0/\b=(S.L.length:Int) - 1)\/(0<=t/\t<b/\b<=(S.L.length:Int) - 1)
instance (S:Scr) (t b:Int):Decidable (Ax1 S t b):=by unfold Ax1;infer_instance
theorem may_sc (h:SC B w x s S) (h5:S.L.length<=512) (t b:Int):Calls Tryz.prog 273 #[.pointer (some ⟨x,0,none⟩),.int .i64 t,.int .i64 b] w fun e w'=>e=.returned (.bool (decide (Ax1 S t b)))/\w=w':=by
 obtain⟨_,_,_,⟨ao,c,c3⟩,_,_⟩:=h.cells
 have hy:decide (Ax1 S t b)=true↔((t=0/\b=(S.L.length:Int) - 1)\/(0<=t/\t<b/\b<=(S.L.length:Int) - 1)):=decide_eq_true_iff
 generalize decide (Ax1 S t b)=y at hy |-
 generalize S.L.length=n at c3 h5 hy
 have hw:IntKind.i64.wrap ((n:Int) - 1)=(n:Int) - 1:=IntWalk.i64_in _ (by omega)
 replace hy:=J0 hy
 clear h
 go_enter Tryz.func273,Tryz.ntmps273
 go_wp2
 all_goals
  go_ret
  exact⟨Ab6 (by rw[Bool.eq_iff_iff,hy.out];simp<;>omega),rfl⟩
theorem Bp9 (h:SC B w x s S) (hF:Fit S) (t b:Nat) (hok:Ax1 S t b):Calls Tryz.prog 247 #[.pointer (some ⟨x,0,none⟩),.int .i64 t,.int .i64 b] w (DidV B w x s { S with top:=t,bot:=b } 0):=by
 have hmade:=J0 (Ak8 h hF.len)
 have hm:=may_sc h hF.len5 t b
 rw[decide_eq_true hok] at hm
 obtain⟨_,_,_,_,c4,c5⟩:=h.cells
 have f4:=h.free 4
 have f5:=h.free 5
 have hres:=J0 (h.setMarg t b)
 replace hm:=J0 hm
 generalize ({ S with top:=t,bot:=b }:Scr)=S' at hres |-
 clear h hF hok
 go_enter Tryz.func247,Tryz.ntmps247
 go_wp2_with (first
  |(go_at_call 97;(with_reducible refine(hmade.out).mono ?_);rintro e w' ⟨rfl,rfl⟩)
  |(go_at_call 273;(with_reducible refine(hm.out).mono ?_);rintro e w' ⟨rfl,rfl⟩))
 try go_region
 try go_wp2
 go_ret
 exact⟨rfl,hres.out⟩
end
section
variable {B:Zn}{w w':World}{x s:Nat}{S:Scr}
theorem Bd1 (n:Int) (w:World):Calls Tryz.prog 74 #[.int .i64 n] w fun e w'=>e=.returned (.bool (decide (1<=n/\n<=512)))/\w=w':=by
 have hy:decide (1<=n/\n<=512)=true↔(1<=n/\n<=512):=decide_eq_true_iff
 generalize decide (1<=n/\n<=512)=y at hy |-
 replace hy:=J0 hy
 by_cases h1:1<=n
 ·go_enter Tryz.func74,Tryz.ntmps74
  go_wp2
  all_goals
   go_ret
   exact⟨Ab6 (by rw[Bool.eq_iff_iff,hy.out];simp<;>omega),rfl⟩
 ·have h2:decide (1<=n)=false:=decide_eq_false h1
  go_enter Tryz.func74,Tryz.ntmps74
  go_wp2
  all_goals
   go_ret
   exact⟨Ab6 (by symm;rw[Bool.eq_false_iff];intro h3;have:=hy.out.1 h3;omega),rfl⟩
end
section
variable {B:Zn}{w w':World}{x s nx most:Nat}{sv:Value}{R:List En}{S:Scr}
def newS (nx most rows cols:Nat) (kp:Bool) (R:List Ln):Scr:=Co8 (chg { nx:=nx,most:=most,kp:=kp,cols:=cols,top:=0,bot:=0,L:=[],R:=R } 0 0 0 rows zeroAt false)
theorem Cj9 (nx most rows cols:Nat) (kp:Bool) (R:List Ln):(newS nx most rows cols kp R).L=Ae9 nx cols rows zeroAt:=by
 show insA (outA [] 0 0) 0 (Ae9 nx cols rows zeroAt)=_
 simp[insA,outA]
theorem newS_fit {nx most rows cols:Nat} {kp:Bool} {R:List Ln} (h1:1<=rows) (h5:rows<=512) (c1:1<=cols) (c5:cols<=512) (hn:1<=nx):Fit (newS nx most rows cols kp R):=by
 have hL:=Cj9 nx most rows cols kp R
 have hl:(newS nx most rows cols kp R).L.length=rows:=by rw[hL,Af2]
 have hb:(newS nx most rows cols kp R).bot=(newS nx most rows cols kp R).L.length - 1:=rfl
 refine⟨by omega,by omega,by omega,Nat.zero_le _,c1,c5,fun p hp=>?_,fun p hp=>?_,Nat.le_trans hn (Nat.le_add_right _ _)⟩
 ·rw[hL] at hp
  exact(Aq9 hp).1
 ·rw[hL] at hp
  have:=Aq9 hp
  refine⟨by omega,?_⟩
  show p.1<((nx+rows:Nat):Int)
  omega
theorem there_any (h:SX 0 w s nx most sv R):Calls Tryz.prog 75 #[.pointer (some ⟨s,0,none⟩)] w fun e w'=>e=.returned (.bool true)/\w=w':=by
 have hn:=J0 (next_any h)
 have hp:(0:Int)<(nx:Int):=by
  obtain⟨⟨o,P,h0,_⟩,_⟩:=h
  have:=h0.pos
  omega
 clear h
 go_enter Tryz.func75,Tryz.ntmps75
 go_wp2_with ((go_at_call 101;(with_reducible refine(hn.out).mono ?_);rintro e w' ⟨rfl,rfl⟩))
 go_ret
 first|exact⟨rfl,rfl⟩|exact⟨Ab6 (decide_eq_true (by omega)),rfl⟩
theorem there_nil (w:World):Calls Tryz.prog 75 #[.pointer none] w fun e w'=>e=.returned (.bool false)/\w=w':=by
 have hm:∀w,Calls Tryz.prog 79 #[.pointer none] w fun e w'=>e=.returned (.bool false)/\w=w':=fun w=>by
  go_enter Tryz.func79,Tryz.ntmps79
  go_wp2
  go_ret
  exact⟨rfl,rfl⟩
 have hn:∀w,Calls Tryz.prog 101 #[.pointer none] w fun e w'=>e=.returned (.int .i64 0)/\w=w':=fun w=>by
  replace hm:=J0 hm
  go_enter Tryz.func101,Tryz.ntmps101
  go_wp2_with ((go_at_call 79;(with_reducible refine(hm.out _).mono ?_);rintro e w' ⟨rfl,rfl⟩))
  go_ret
  exact⟨rfl,rfl⟩
 replace hn:=J0 hn
 clear hm
 go_enter Tryz.func75,Tryz.ntmps75
 go_wp2_with ((go_at_call 101;(with_reducible refine(hn.out _).mono ?_);rintro e w' ⟨rfl,rfl⟩))
 go_ret
 exact⟨rfl,rfl⟩
theorem snew_no (rows cols:Int) (p:Option Addr) (kp:Bool) (w:World) (hno:¬(1<=rows/\rows<=512)\/¬(1<=cols/\cols<=512)\/p=none):Calls Tryz.prog 54 #[.int .i64 rows,.int .i64 cols,.pointer p,.bool kp] w fun e w'=>e=.returned (.tuple #[.pointer none,.int .i64 2])/\w=w':=by
 have h1:=fun w=>Bd1 rows w
 have h2:=fun w=>Bd1 cols w
 have h3:=J0 (fun w=>there_nil w)
 by_cases q1:1<=rows/\rows<=512
 ·rw[decide_eq_true q1] at h1
  by_cases q2:1<=cols/\cols<=512
  ·rw[decide_eq_true q2] at h2
   obtain rfl:p=none:=by
    rcases hno with h|h|h
    ·exact absurd q1 h
    ·exact absurd q2 h
    ·exact h
   replace h1:=J0 h1
   replace h2:=J0 h2
   clear hno q1 q2
   go_enter Tryz.func54,Tryz.ntmps54
   go_wp2_with (first
    |(go_at_call 74;(with_reducible refine(h1.out _).mono ?_);rintro e w' ⟨rfl,rfl⟩)
    |(go_at_call 74;(with_reducible refine(h2.out _).mono ?_);rintro e w' ⟨rfl,rfl⟩)
    |(go_at_call 75;(with_reducible refine(h3.out _).mono ?_);rintro e w' ⟨rfl,rfl⟩))
   go_ret2
   exact⟨rfl,rfl⟩
  ·rw[decide_eq_false q2] at h2
   replace h1:=J0 h1
   replace h2:=J0 h2
   clear hno q1 q2
   go_enter Tryz.func54,Tryz.ntmps54
   go_wp2_with (first
    |(go_at_call 74;(with_reducible refine(h1.out _).mono ?_);rintro e w' ⟨rfl,rfl⟩)
    |(go_at_call 74;(with_reducible refine(h2.out _).mono ?_);rintro e w' ⟨rfl,rfl⟩))
   go_ret2
   exact⟨rfl,rfl⟩
 ·rw[decide_eq_false q1] at h1
  replace h1:=J0 h1
  clear hno q1 h2
  go_enter Tryz.func54,Tryz.ntmps54
  go_wp2_with (first
   |(go_at_call 74;(with_reducible refine(h1.out _).mono ?_);rintro e w' ⟨rfl,rfl⟩))
  go_ret2
  exact⟨rfl,rfl⟩
theorem Cc8 (h:SX 0 w s nx most sv R) (hz:B s/\(∀g,sv.ownBlock=some g->B g)/\(∀e∈R,B e.d/\B e.g)/\∀k,w.heap.size<=k->B k) (hd:(R.map En.d).Nodup) (hg:(R.map En.g).Nodup) (rows cols:Nat) (kp:Bool) (hr1:1<=rows) (hr5:rows<=512) (hc1:1<=cols) (hc5:cols<=512) (hnx:nx+512<=10000000000) :
  Calls Tryz.prog 54 #[.int .i64 rows,.int .i64 cols,.pointer (some ⟨s,0,none⟩),.bool kp] w fun e w'=>e=.returned (.tuple #[.pointer (some ⟨w.heap.size,0,none⟩),.int .i64 0])/\SC B w' w.heap.size s (newS nx most rows cols kp (vw R))/\Fr B PT w w':=by
 have h1:=fun w=>Bd1 rows w
 rw[decide_eq_true (by omega)] at h1
 have h2:=fun w=>Bd1 cols w
 rw[decide_eq_true (by omega)] at h2
 have h3:=there_any h
 have hb:=Aa1 w (.cells #[.pointer (some ⟨s,0,none⟩),.bool kp,.int .i64 cols,.slice none 0 0,.int .i64 0,.int .i64 0] 168)
 have hBw:LoX B (w.alloc (.cells #[.pointer (some ⟨s,0,none⟩),.bool kp,.int .i64 cols,.slice none 0 0,.int .i64 0,.int .i64 0] 168)) w.heap.size s sv (.slice none 0 0) R :=
  ⟨hz.2.2.2 _ (J5 _),hz.1,fun g hg=>(by cases hg),hz.2.1,hz.2.2.1,fun k hk=>hz.2.2.2 k (Nat.le_trans hb.size hk)⟩
 have hplt:=fun g hg=>(h.ptyp g hg).2.1
 have hS0:SC B (w.alloc (.cells #[.pointer (some ⟨s,0,none⟩),.bool kp,.int .i64 cols,.slice none 0 0,.int .i64 0,.int .i64 0] 168)) w.heap.size s { nx:=nx,most:=most,kp:=kp,cols:=cols,top:=0,bot:=0,L:=[],R:=vw R } :=
  ⟨sv,.slice none 0 0,[],R,⟨⟨Block.made w _ _,World.ownsRow_nil _ _ _ _,h.below hb,fun g hg=>(by cases hg),hBw,by simp⟩,by simp,by simp,by simpa using hd,by simpa using hg⟩,rfl,rfl⟩
 have hch:=Cg7 (.inl ⟨rfl,rfl⟩) hS0 0 0 0 rows (by simp) (by simp) (by simp;omega) (by show nx+rows<=_;omega) hc1 hc5 zeroAt (fun e=>nomatch e)
 have hch':Calls Tryz.prog 76 #[.pointer (some ⟨w.heap.size,0,none⟩),.agg #[.int .i64 0,.int .i64 0],.agg #[.int .i64 0,.int .i64 rows],.agg #[.int .u32 0,.int .u32 0,.int .u16 0],.func (.func 77) #[.pointer (some ⟨w.heap.size,0,none⟩)] #[]] (w.alloc (.cells #[.pointer (some ⟨s,0,none⟩),.bool kp,.int .i64 cols,.slice none 0 0,.int .i64 0,.int .i64 0] 168)) (Did B _ w.heap.size s _):=hch
 clear hch
 have hcl:(chg { nx:=nx,most:=most,kp:=kp,cols:=cols,top:=0,bot:=0,L:=[],R:=vw R } 0 0 0 rows zeroAt false).L.length=rows:=by rw[Bm9 (by simp)];simp
 have hm:=fun w' (hs:SC B w' w.heap.size s (chg { nx:=nx,most:=most,kp:=kp,cols:=cols,top:=0,bot:=0,L:=[],R:=vw R } 0 0 0 rows zeroAt false))=>marg_sc hs (by omega) (by omega)
 unfold newS
 generalize chg { nx:=nx,most:=most,kp:=kp,cols:=cols,top:=0,bot:=0,L:=[],R:=vw R } 0 0 0 rows zeroAt false=S1 at hch' hm hcl |-
 generalize Co8 S1=S2 at hm |-
 have hmf:=mkf
 replace h1:=J0 h1
 replace h2:=J0 h2
 replace h3:=J0 h3
 replace hm:=J0 hm
 replace hch':=J0 hch'
 replace hb:=J0 hb
 clear h hd hg hS0 hr1 hr5 hc1 hc5 hnx hplt hcl
 go_enter Tryz.func54,Tryz.ntmps54
 go_wp2_with (first
  |(go_at_call 74;(with_reducible refine(h1.out _).mono ?_);rintro e w' ⟨rfl,rfl⟩)
  |(go_at_call 74;(with_reducible refine(h2.out _).mono ?_);rintro e w' ⟨rfl,rfl⟩)
  |(go_at_call 75;(with_reducible refine(h3.out).mono ?_);rintro e w' ⟨rfl,rfl⟩)
  |(go_at_call 76;(with_reducible refine hch'.out.mono ?_);rintro r w2 ⟨⟨v2,rfl⟩,hs2,hf2⟩)
  |(go_at_call 78;(with_reducible refine(hm.out _ hs2).mono ?_);rintro r w3 ⟨⟨v3,rfl⟩,hs3,hf3⟩))
 go_ret2
 exact⟨rfl,hs3,((Fr.of_below hb.out).trans hf2).trans hf3⟩
end
