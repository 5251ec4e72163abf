/- Part 12 of the proof that the card of HostNone holds. -/
import Derived.Test.YtbafmljidapmgaaGreatDoorN11
set_option maxHeartbeats 16000000
set_option maxRecDepth 100000
namespace Go.Proofs.YtbafmljidapmgaaGreatDoor.Scn
open Go RowKit Com Rw Lns
section
variable {B:Zn} {w w':World} {x s:Nat} {S:Scr}
theorem fate_keep (h:SC B w x s S) (hk:S.kp=true) (v:Value) (hv:v=.int .i64 0):Calls Tryz.prog 229 #[.pointer (some ⟨x,0,none⟩),v] w fun e w'=>e=.returned (.func (.func 286) #[.pointer (some ⟨x,0,none⟩)] #[])/\w=w':=by
 obtain ⟨_,c1,_,_,_,_⟩:=h.cells
 rw [hk] at c1
 have hmf:=mkf
 subst hv
 clear h hk
 go_enter Tryz.func229,Tryz.ntmps229
 go_wp2
 go_ret
 exact ⟨rfl,rfl⟩
theorem fate_forget (h:SC B w x s S) (frm:Nat) (hk:S.kp=false\/frm≠0):Calls Tryz.prog 229 #[.pointer (some ⟨x,0,none⟩),.int .i64 frm] w fun e w'=>e=.returned (.func (.func 188) #[.pointer (some ⟨x,0,none⟩)] #[])/\w=w':=by
 obtain ⟨_,c1,_,_,_,_⟩:=h.cells
 have hmf:=mkf
 generalize S.kp=kp at c1 hk
 clear h
 cases kp
 ·clear hk
  go_enter Tryz.func229,Tryz.ntmps229
  go_wp2
  go_ret
  exact ⟨rfl,rfl⟩
 ·have h0:((frm:Int) == 0)=false:=beq_eq_false_iff_ne.2 (by
   rcases hk with hk|hk
   ·cases hk
   ·omega)
  clear hk
  go_enter Tryz.func229,Tryz.ntmps229
  go_wp2
  go_ret
  exact ⟨rfl,rfl⟩
theorem Up_forget (h:SC B w x s S) (hF:Fit S) (n:Int) (hnx:S.nx+512<=10000000000) (a:At) (hk:S.kp=false\/S.top≠0) :
  Calls Tryz.prog 365 #[.pointer (some ⟨x,0,none⟩),.int .i64 n,.agg #[.int .u32 a.f,.int .u32 a.b,.int .u16 a.g]] w (DidV B w x s (upS S S.top n a false) 0):=by
 have hb1:=Aa1 w (.cells #[.int .u32 a.f,.int .u32 a.b,.int .u16 a.g] 56)
 have hbx:=Block.made w 56 #[.int .u32 a.f,.int .u32 a.b,.int .u16 a.g]
 have hmade:=Ak7 (h.below hb1) hF.len
 have h1:=h.below hb1
 have htb:=hF.top
 obtain ⟨af,ab,ag⟩:=a
 simp only at hb1 hbx hmade |-
 obtain ⟨bx,hbxe⟩:∃ bx,bx=w.heap.size:=⟨_,rfl⟩
 replace hmade:=J0 hmade
 clear h
 go_enter Tryz.func365,Tryz.ntmps365
 go_wp2_with ((go_at_call 227;(with_reducible refine (hmade.out).mono ?_);rintro e w' ⟨rfl,rfl⟩))
 generalize w.alloc (.cells #[.int .u32 af,.int .u32 ab,.int .u16 ag] 56)=w0 at hbx hb1 h1 |-
 rw [<- hbxe] at hbx |-
 replace hbxe:=J0 hbxe
 have hd0:Below w0.heap.size w0 w0.drew:=Aa5 (Below.refl _ _) 1
 have hS:∀ w' S',SC B w' x s S'->S'.top=S.top->Fr B PT w0 w'->w'.cell? ⟨x,4,none⟩=some (.int .i64 S.top)/\w'.cell? ⟨bx,0,none⟩=some (.int .u32 af)/\w'.cell? ⟨bx,1,none⟩=some (.int .u32 ab)/\w'.cell? ⟨bx,2,none⟩=some (.int .u16 ag):=fun w' S' hs hb hf=>by
  have hbx':=Block.fr hbx hf (.inl (by decide))
  have:=hs.cells.2.2.2.2.1
  rw [hb] at this
  exact ⟨this,hbx'.cell 0 rfl,hbx'.cell 1 rfl,hbx'.cell 2 rfl⟩
 obtain ⟨a0,a1,a2,a3⟩:=hS _ _ h1 rfl (Fr.refl _ _ _)
 have c1:=hS _ _ (h1.below hd0) rfl (Fr.of_below hd0)
 have hfa:=fate_forget (h1.below hd0) S.top hk
 have hch:=Bt0 (h1.below hd0) hF S.top htb n hnx ⟨af,ab,ag⟩
 have hpt:=J0 (fun w' hs=>hS w' (upS S S.top n ⟨af,ab,ag⟩ false) hs rfl)
 have hfr1:Fr B PT w w0.drew:=(Fr.of_below hb1).trans (Fr.of_below hd0)
 have hfr0:Fr B PT w0 w0.drew:=Fr.of_below hd0
 obtain ⟨S',hS'⟩:∃ S',S'=upS S S.top n ⟨af,ab,ag⟩ false:=⟨_,rfl⟩
 rw [<- hS'] at hch hpt
 replace hS':=J0 hS'
 simp only at hch
 generalize S.top=tp at a0 c1 hpt hfa hch hk
 replace hch:=J0 hch
 replace hfa:=J0 hfa
 replace hfr1:=J0 hfr1
 replace hfr0:=J0 hfr0
 clear hS hbx h1 hb1 hd0 hF hnx htb hk
 go_region_held3 (fun w'=>w'.cell? ⟨x,4,none⟩=some (.int .i64 tp)/\w'.cell? ⟨bx,0,none⟩=some (.int .u32 af)/\w'.cell? ⟨bx,1,none⟩=some (.int .u32 ab)/\w'.cell? ⟨bx,2,none⟩=some (.int .u16 ag))
  (first|exact ⟨a0,a1,a2,a3⟩|exact c1|exact hz)
  (first
   |(go_at_call 229;(with_reducible refine hfa.out.mono ?_);rintro r w1 ⟨rfl,rfl⟩)
   |(go_at_call 408;(with_reducible refine hch.out.mono ?_);rintro r w2 ⟨⟨v2,rfl⟩,hs2,hf2⟩;have hz:=hpt.out _ hs2 (hfr0.out.trans hf2)))
 have hres:=J0 (And.intro hs2 (hfr1.out.trans hf2))
 clear hs2 hf2 hz a0 a1 a2 a3 c1
 go_wp2
 go_ret
 exact ⟨rfl,by rw [<- hS'.out];exact hres.out⟩
theorem Up_keep (h:SC B w x s S) (hF:Fit S) (n:Int) (hnx:S.nx+512<=10000000000) (a:At) (hk:S.kp=true/\S.top=0) :
  Calls Tryz.prog 365 #[.pointer (some ⟨x,0,none⟩),.int .i64 n,.agg #[.int .u32 a.f,.int .u32 a.b,.int .u16 a.g]] w (DidV B w x s (upS S S.top n a true) 0):=by
 have hb1:=Aa1 w (.cells #[.int .u32 a.f,.int .u32 a.b,.int .u16 a.g] 56)
 have hbx:=Block.made w 56 #[.int .u32 a.f,.int .u32 a.b,.int .u16 a.g]
 have hmade:=Ak7 (h.below hb1) hF.len
 have h1:=h.below hb1
 have htb:=hF.top
 obtain ⟨af,ab,ag⟩:=a
 simp only at hb1 hbx hmade |-
 obtain ⟨bx,hbxe⟩:∃ bx,bx=w.heap.size:=⟨_,rfl⟩
 replace hmade:=J0 hmade
 clear h
 go_enter Tryz.func365,Tryz.ntmps365
 go_wp2_with ((go_at_call 227;(with_reducible refine (hmade.out).mono ?_);rintro e w' ⟨rfl,rfl⟩))
 generalize w.alloc (.cells #[.int .u32 af,.int .u32 ab,.int .u16 ag] 56)=w0 at hbx hb1 h1 |-
 rw [<- hbxe] at hbx |-
 replace hbxe:=J0 hbxe
 have hd0:Below w0.heap.size w0 w0.drew:=Aa5 (Below.refl _ _) 1
 have hS:∀ w' S',SC B w' x s S'->S'.top=S.top->Fr B PT w0 w'->w'.cell? ⟨x,4,none⟩=some (.int .i64 S.top)/\w'.cell? ⟨bx,0,none⟩=some (.int .u32 af)/\w'.cell? ⟨bx,1,none⟩=some (.int .u32 ab)/\w'.cell? ⟨bx,2,none⟩=some (.int .u16 ag):=fun w' S' hs hb hf=>by
  have hbx':=Block.fr hbx hf (.inl (by decide))
  have:=hs.cells.2.2.2.2.1
  rw [hb] at this
  exact ⟨this,hbx'.cell 0 rfl,hbx'.cell 1 rfl,hbx'.cell 2 rfl⟩
 obtain ⟨a0,a1,a2,a3⟩:=hS _ _ h1 rfl (Fr.refl _ _ _)
 have c1:=hS _ _ (h1.below hd0) rfl (Fr.of_below hd0)
 have hfa:=fate_keep (h1.below hd0) hk.1 (.int .i64 S.top) (by rw [hk.2];rfl)
 have hch:=up_keep (h1.below hd0) hF S.top htb n hnx ⟨af,ab,ag⟩
 have hpt:=J0 (fun w' hs=>hS w' (upS S S.top n ⟨af,ab,ag⟩ true) hs rfl)
 have hfr1:Fr B PT w w0.drew:=(Fr.of_below hb1).trans (Fr.of_below hd0)
 have hfr0:Fr B PT w0 w0.drew:=Fr.of_below hd0
 obtain ⟨S',hS'⟩:∃ S',S'=upS S S.top n ⟨af,ab,ag⟩ true:=⟨_,rfl⟩
 rw [<- hS'] at hch hpt
 replace hS':=J0 hS'
 simp only at hch
 generalize S.top=tp at a0 c1 hpt hfa hch hk
 replace hch:=J0 hch
 replace hfa:=J0 hfa
 replace hfr1:=J0 hfr1
 replace hfr0:=J0 hfr0
 clear hS hbx h1 hb1 hd0 hF hnx htb hk
 go_region_held3 (fun w'=>w'.cell? ⟨x,4,none⟩=some (.int .i64 tp)/\w'.cell? ⟨bx,0,none⟩=some (.int .u32 af)/\w'.cell? ⟨bx,1,none⟩=some (.int .u32 ab)/\w'.cell? ⟨bx,2,none⟩=some (.int .u16 ag))
  (first|exact ⟨a0,a1,a2,a3⟩|exact c1|exact hz)
  (first
   |(go_at_call 229;(with_reducible refine hfa.out.mono ?_);rintro r w1 ⟨rfl,rfl⟩)
   |(go_at_call 408;(with_reducible refine hch.out.mono ?_);rintro r w2 ⟨⟨v2,rfl⟩,hs2,hf2⟩;have hz:=hpt.out _ hs2 (hfr0.out.trans hf2)))
 have hres:=J0 (And.intro hs2 (hfr1.out.trans hf2))
 clear hs2 hf2 hz a0 a1 a2 a3 c1
 go_wp2
 go_ret
 exact ⟨rfl,by rw [<- hS'.out];exact hres.out⟩
theorem Cd1 (h:SC B w x s S) (hF:Fit S) (n:Int) (hnx:S.nx+512<=10000000000) (a:At) :
  Calls Tryz.prog 319 #[.pointer (some ⟨x,0,none⟩),.int .i64 n,.agg #[.int .u32 a.f,.int .u32 a.b,.int .u16 a.g]] w (DidV B w x s (Ag4 S S.top n a) 0):=by
 have hb1:=Aa1 w (.cells #[.int .u32 a.f,.int .u32 a.b,.int .u16 a.g] 56)
 have hbx:=Block.made w 56 #[.int .u32 a.f,.int .u32 a.b,.int .u16 a.g]
 have hmade:=Ak7 (h.below hb1) hF.len
 have h1:=h.below hb1
 have htb:=hF.top
 obtain ⟨af,ab,ag⟩:=a
 simp only at hb1 hbx hmade |-
 obtain ⟨bx,hbxe⟩:∃ bx,bx=w.heap.size:=⟨_,rfl⟩
 replace hmade:=J0 hmade
 clear h
 go_enter Tryz.func319,Tryz.ntmps319
 go_wp2_with ((go_at_call 227;(with_reducible refine (hmade.out).mono ?_);rintro e w' ⟨rfl,rfl⟩))
 generalize w.alloc (.cells #[.int .u32 af,.int .u32 ab,.int .u16 ag] 56)=w0 at hbx hb1 h1 |-
 rw [<- hbxe] at hbx |-
 replace hbxe:=J0 hbxe
 have hd0:Below w0.heap.size w0 w0.drew:=Aa5 (Below.refl _ _) 1
 have hS:∀ w' S',SC B w' x s S'->S'.top=S.top->Fr B PT w0 w'->w'.cell? ⟨x,4,none⟩=some (.int .i64 S.top)/\w'.cell? ⟨bx,0,none⟩=some (.int .u32 af)/\w'.cell? ⟨bx,1,none⟩=some (.int .u32 ab)/\w'.cell? ⟨bx,2,none⟩=some (.int .u16 ag):=fun w' S' hs hb hf=>by
  have hbx':=Block.fr hbx hf (.inl (by decide))
  have:=hs.cells.2.2.2.2.1
  rw [hb] at this
  exact ⟨this,hbx'.cell 0 rfl,hbx'.cell 1 rfl,hbx'.cell 2 rfl⟩
 obtain ⟨a0,a1,a2,a3⟩:=hS _ _ h1 rfl (Fr.refl _ _ _)
 have c1:=hS _ _ (h1.below hd0) rfl (Fr.of_below hd0)
 have hch:=Ce5 (h1.below hd0) hF S.top htb n hnx ⟨af,ab,ag⟩
 have hpt:=J0 (fun w' hs=>hS w' (Ag4 S S.top n ⟨af,ab,ag⟩) hs rfl)
 have hfr1:Fr B PT w w0.drew:=(Fr.of_below hb1).trans (Fr.of_below hd0)
 have hfr0:Fr B PT w0 w0.drew:=Fr.of_below hd0
 obtain ⟨S',hS'⟩:∃ S',S'=Ag4 S S.top n ⟨af,ab,ag⟩:=⟨_,rfl⟩
 rw [<- hS'] at hch hpt
 replace hS':=J0 hS'
 simp only at hch
 generalize S.top=tp at a0 c1 hpt hch
 replace hch:=J0 hch
 replace hfr1:=J0 hfr1
 replace hfr0:=J0 hfr0
 clear hS hbx h1 hb1 hd0 hF hnx htb
 go_region_held3 (fun w'=>w'.cell? ⟨x,4,none⟩=some (.int .i64 tp)/\w'.cell? ⟨bx,0,none⟩=some (.int .u32 af)/\w'.cell? ⟨bx,1,none⟩=some (.int .u32 ab)/\w'.cell? ⟨bx,2,none⟩=some (.int .u16 ag))
  (first|exact ⟨a0,a1,a2,a3⟩|exact c1|exact hz)
  (first
   |(go_at_call 374;(with_reducible refine hch.out.mono ?_);rintro r w2 ⟨⟨v2,rfl⟩,hs2,hf2⟩;have hz:=hpt.out _ hs2 (hfr0.out.trans hf2)))
 have hres:=J0 (And.intro hs2 (hfr1.out.trans hf2))
 clear hs2 hf2 hz a0 a1 a2 a3 c1
 go_wp2
 go_ret
 exact ⟨rfl,by rw [<- hS'.out];exact hres.out⟩
theorem ins_no (h:SC B w x s S) (hF:Fit S) (at' n:Int) (hat:¬ ((S.top:Int)<=at'/\at'<=S.bot)) (a:At) :
  Calls Tryz.prog 384 #[.pointer (some ⟨x,0,none⟩),.int .i64 at',.int .i64 n,.agg #[.int .u32 a.f,.int .u32 a.b,.int .u16 a.g]] w (DidV B w x s S 2):=by
 have hb1:=Aa1 w (.cells #[.int .u32 a.f,.int .u32 a.b,.int .u16 a.g] 56)
 have hmade:=Ak7 (h.below hb1) hF.len
 have hw:=Ay0 (h.below hb1) at'
 rw [decide_eq_false hat] at hw
 have hres:=J0 (fun w' hb=>(⟨h.below hb,Fr.of_below hb⟩:SC B w' x s S/\Fr B PT w w'))
 obtain ⟨af,ab,ag⟩:=a
 simp only at hb1 hmade hw |-
 replace hmade:=J0 hmade
 replace hw:=J0 hw
 replace hb1:=J0 hb1
 clear h hF hat
 go_enter Tryz.func384,Tryz.ntmps384
 go_wp2_with (first
  |(go_at_call 227;(with_reducible refine (hmade.out).mono ?_);rintro e w' ⟨rfl,rfl⟩)
  |(go_at_call 413;(with_reducible refine (hw.out).mono ?_);rintro e w1 ⟨rfl,hbw⟩))
 go_ret
 exact ⟨rfl,hres.out _ (Aa0 hb1.out hbw)⟩
theorem ins_yes (h:SC B w x s S) (hF:Fit S) (at':Nat) (n:Int) (h0:S.top<=at') (h1:at'<=S.bot) (hnx:S.nx+512<=10000000000) (a:At) :
  Calls Tryz.prog 384 #[.pointer (some ⟨x,0,none⟩),.int .i64 at',.int .i64 n,.agg #[.int .u32 a.f,.int .u32 a.b,.int .u16 a.g]] w (DidV B w x s (Ag4 S at' n a) 0):=by
 have hb1:=Aa1 w (.cells #[.int .u32 a.f,.int .u32 a.b,.int .u16 a.g] 56)
 have hbx:=Block.made w 56 #[.int .u32 a.f,.int .u32 a.b,.int .u16 a.g]
 have hmade:=Ak7 (h.below hb1) hF.len
 have hw:=Ay0 (h.below hb1) at'
 rw [decide_eq_true (by omega)] at hw
 have hch:=fun w' hb=>Ce5 (h.below (w':=w') hb) hF at' h1 n hnx a
 obtain ⟨af,ab,ag⟩:=a
 generalize Ag4 S at' n ⟨af,ab,ag⟩=S' at hch |-
 simp only at hb1 hbx hmade hw hch |-
 have hmf:=mkf
 replace hmade:=J0 hmade
 replace hw:=J0 hw
 replace hch:=J0 hch
 replace hb1:=J0 hb1
 obtain ⟨bx,hbxe⟩:∃ bx,bx=w.heap.size:=⟨_,rfl⟩
 clear h hF h0 h1 hnx
 go_enter Tryz.func384,Tryz.ntmps384
 go_wp2_with (first
  |(go_at_call 227;(with_reducible refine (hmade.out).mono ?_);rintro e w' ⟨rfl,rfl⟩)
  |(go_at_call 413;(with_reducible refine (hw.out).mono ?_);rintro e w1 ⟨rfl,hbw⟩;have hb2:=hbx.only (Only.of_below hbw []) (by simp);have a0:=hb2.cell 0 rfl;have a1:=hb2.cell 1 rfl;have a2:=hb2.cell 2 rfl;have hbb:=Aa0 hb1.out hbw)
  |(go_at_call 374;(with_reducible refine (hch.out _ hbb).mono ?_);rintro r w2 ⟨⟨v2,rfl⟩,hs2,hf2⟩))
 go_ret
 exact ⟨rfl,hs2,(Fr.of_below hbb).trans hf2⟩
theorem del_no (h:SC B w x s S) (hF:Fit S) (at' n:Int) (hat:¬ ((S.top:Int)<=at'/\at'<=S.bot)) (a:At) :
  Calls Tryz.prog 385 #[.pointer (some ⟨x,0,none⟩),.int .i64 at',.int .i64 n,.agg #[.int .u32 a.f,.int .u32 a.b,.int .u16 a.g]] w (DidV B w x s S 2):=by
 have hb1:=Aa1 w (.cells #[.int .u32 a.f,.int .u32 a.b,.int .u16 a.g] 56)
 have hmade:=Ak7 (h.below hb1) hF.len
 have hw:=Ay0 (h.below hb1) at'
 rw [decide_eq_false hat] at hw
 have hres:=J0 (fun w' hb=>(⟨h.below hb,Fr.of_below hb⟩:SC B w' x s S/\Fr B PT w w'))
 obtain ⟨af,ab,ag⟩:=a
 simp only at hb1 hmade hw |-
 replace hmade:=J0 hmade
 replace hw:=J0 hw
 replace hb1:=J0 hb1
 clear h hF hat
 go_enter Tryz.func385,Tryz.ntmps385
 go_wp2_with (first
  |(go_at_call 227;(with_reducible refine (hmade.out).mono ?_);rintro e w' ⟨rfl,rfl⟩)
  |(go_at_call 413;(with_reducible refine (hw.out).mono ?_);rintro e w1 ⟨rfl,hbw⟩))
 go_ret
 exact ⟨rfl,hres.out _ (Aa0 hb1.out hbw)⟩
theorem del_yes (h:SC B w x s S) (hF:Fit S) (at':Nat) (n:Int) (h0:S.top<=at') (h1:at'<=S.bot) (hnx:S.nx+512<=10000000000) (a:At) :
  Calls Tryz.prog 385 #[.pointer (some ⟨x,0,none⟩),.int .i64 at',.int .i64 n,.agg #[.int .u32 a.f,.int .u32 a.b,.int .u16 a.g]] w (DidV B w x s (upS S at' n a false) 0):=by
 have hb1:=Aa1 w (.cells #[.int .u32 a.f,.int .u32 a.b,.int .u16 a.g] 56)
 have hbx:=Block.made w 56 #[.int .u32 a.f,.int .u32 a.b,.int .u16 a.g]
 have hmade:=Ak7 (h.below hb1) hF.len
 have hw:=Ay0 (h.below hb1) at'
 rw [decide_eq_true (by omega)] at hw
 have hch:=fun w' hb=>Bt0 (h.below (w':=w') hb) hF at' h1 n hnx a
 obtain ⟨af,ab,ag⟩:=a
 generalize upS S at' n ⟨af,ab,ag⟩ false=S' at hch |-
 simp only at hb1 hbx hmade hw hch |-
 have hmf:=mkf
 replace hmade:=J0 hmade
 replace hw:=J0 hw
 replace hch:=J0 hch
 replace hb1:=J0 hb1
 obtain ⟨bx,hbxe⟩:∃ bx,bx=w.heap.size:=⟨_,rfl⟩
 clear h hF h0 h1 hnx
 go_enter Tryz.func385,Tryz.ntmps385
 go_wp2_with (first
  |(go_at_call 227;(with_reducible refine (hmade.out).mono ?_);rintro e w' ⟨rfl,rfl⟩)
  |(go_at_call 413;(with_reducible refine (hw.out).mono ?_);rintro e w1 ⟨rfl,hbw⟩;have hb2:=hbx.only (Only.of_below hbw []) (by simp);have a0:=hb2.cell 0 rfl;have a1:=hb2.cell 1 rfl;have a2:=hb2.cell 2 rfl;have hbb:=Aa0 hb1.out hbw)
  |(go_at_call 408;(with_reducible refine (hch.out _ hbb).mono ?_);rintro r w2 ⟨⟨v2,rfl⟩,hs2,hf2⟩))
 go_ret
 exact ⟨rfl,hs2,(Fr.of_below hbb).trans hf2⟩
def Aw5 (S:Scr) (t b:Int):Prop:=(t=0/\b=(S.L.length:Int) - 1)\/(0<=t/\t<b/\b<=(S.L.length:Int) - 1)
instance (S:Scr) (t b:Int):Decidable (Aw5 S t b):=by unfold Aw5;infer_instance
theorem may_sc (h:SC B w x s S) (h5:S.L.length<=512) (t b:Int):Calls Tryz.prog 414 #[.pointer (some ⟨x,0,none⟩),.int .i64 t,.int .i64 b] w fun e w'=>e=.returned (.bool (decide (Aw5 S t b)))/\w=w':=by
 obtain ⟨_,_,_,⟨ao,c,c3⟩,_,_⟩:=h.cells
 have hy:decide (Aw5 S t b)=true↔((t=0/\b=(S.L.length:Int) - 1)\/(0<=t/\t<b/\b<=(S.L.length:Int) - 1)):=decide_eq_true_iff
 generalize decide (Aw5 S t b)=y at hy |-
 generalize S.L.length=n at c3 h5 hy
 have hw:IntKind.i64.wrap ((n:Int) - 1)=(n:Int) - 1:=IntWalk.i64_in _ (by omega)
 replace hy:=J0 hy
 clear h
 go_enter Tryz.func414,Tryz.ntmps414
 go_wp2
 all_goals
  go_ret
  exact ⟨Ab7 (by rw [Bool.eq_iff_iff,hy.out];simp<;>omega),rfl⟩
theorem Bn2 (h:SC B w x s S) (hF:Fit S) (t b:Nat) (hok:Aw5 S t b):Calls Tryz.prog 386 #[.pointer (some ⟨x,0,none⟩),.int .i64 t,.int .i64 b] w (DidV B w x s { S with top:=t,bot:=b } 0):=by
 have hmade:=J0 (Ak7 h hF.len)
 have hm:=may_sc h hF.len5 t b
 rw [decide_eq_true hok] at hm
 obtain ⟨_,_,_,_,c4,c5⟩:=h.cells
 have f4:=h.free 4
 have f5:=h.free 5
 have hres:=J0 (h.setMarg t b)
 replace hm:=J0 hm
 generalize ({ S with top:=t,bot:=b }:Scr)=S' at hres |-
 clear h hF hok
 go_enter Tryz.func386,Tryz.ntmps386
 go_wp2_with (first
  |(go_at_call 227;(with_reducible refine (hmade.out).mono ?_);rintro e w' ⟨rfl,rfl⟩)
  |(go_at_call 414;(with_reducible refine (hm.out).mono ?_);rintro e w' ⟨rfl,rfl⟩))
 try go_region
 try go_wp2
 go_ret
 exact ⟨rfl,hres.out⟩
end
section
variable {B:Zn} {w w':World} {x s:Nat} {S:Scr}
theorem Bb7 (n:Int) (w:World):Calls Tryz.prog 185 #[.int .i64 n] w fun e w'=>e=.returned (.bool (decide (1<=n/\n<=512)))/\w=w':=by
 have hy:decide (1<=n/\n<=512)=true↔(1<=n/\n<=512):=decide_eq_true_iff
 generalize decide (1<=n/\n<=512)=y at hy |-
 replace hy:=J0 hy
 by_cases h1:1<=n
 ·go_enter Tryz.func185,Tryz.ntmps185
  go_wp2
  all_goals
   go_ret
   exact ⟨Ab7 (by rw [Bool.eq_iff_iff,hy.out];simp<;>omega),rfl⟩
 ·have h2:decide (1<=n)=false:=decide_eq_false h1
  go_enter Tryz.func185,Tryz.ntmps185
  go_wp2
  all_goals
   go_ret
   exact ⟨Ab7 (by symm;rw [Bool.eq_false_iff];intro h3;have:=hy.out.1 h3;omega),rfl⟩
end
section
variable {B:Zn} {w w':World} {x s nx most:Nat} {sv:Value} {R:List En} {S:Scr}
def newS (nx most rows cols:Nat) (kp:Bool) (R:List Ln):Scr:=Cl6 (chg { nx:=nx,most:=most,kp:=kp,cols:=cols,top:=0,bot:=0,L:=[],R:=R } 0 0 0 rows zeroAt false)
theorem Ch5 (nx most rows cols:Nat) (kp:Bool) (R:List Ln):(newS nx most rows cols kp R).L=Ad4 nx cols rows zeroAt:=by
 show insA (outA [] 0 0) 0 (Ad4 nx cols rows zeroAt)=_
 simp [insA,outA]
theorem newS_fit {nx most rows cols:Nat} {kp:Bool} {R:List Ln} (h1:1<=rows) (h5:rows<=512) (c1:1<=cols) (c5:cols<=512) (hn:1<=nx):Fit (newS nx most rows cols kp R):=by
 have hL:=Ch5 nx most rows cols kp R
 have hl:(newS nx most rows cols kp R).L.length=rows:=by rw [hL,Af8]
 have hb:(newS nx most rows cols kp R).bot=(newS nx most rows cols kp R).L.length - 1:=rfl
 refine ⟨by omega,by omega,by omega,Nat.zero_le _,c1,c5,fun p hp=>?_,fun p hp=>?_,Nat.le_trans hn (Nat.le_add_right _ _)⟩
 ·rw [hL] at hp
  exact (Aq7 hp).1
 ·rw [hL] at hp
  have:=Aq7 hp
  refine ⟨by omega,?_⟩
  show p.1<((nx+rows:Nat):Int)
  omega
theorem there_any (h:SX 0 w s nx most sv R):Calls Tryz.prog 186 #[.pointer (some ⟨s,0,none⟩)] w fun e w'=>e=.returned (.bool true)/\w=w':=by
 have hn:=J0 (next_any h)
 have hp:(0:Int)<(nx:Int):=by
  obtain ⟨⟨o,P,h0,_⟩,_⟩:=h
  have:=h0.pos
  omega
 clear h
 go_enter Tryz.func186,Tryz.ntmps186
 go_wp2_with ((go_at_call 245;(with_reducible refine (hn.out).mono ?_);rintro e w' ⟨rfl,rfl⟩))
 go_ret
 first|exact ⟨rfl,rfl⟩|exact ⟨Ab7 (decide_eq_true (by omega)),rfl⟩
theorem there_nil (w:World):Calls Tryz.prog 186 #[.pointer none] w fun e w'=>e=.returned (.bool false)/\w=w':=by
 have hm:∀ w,Calls Tryz.prog 190 #[.pointer none] w fun e w'=>e=.returned (.bool false)/\w=w':=fun w=>by
  go_enter Tryz.func190,Tryz.ntmps190
  go_wp2
  go_ret
  exact ⟨rfl,rfl⟩
 have hn:∀ w,Calls Tryz.prog 245 #[.pointer none] w fun e w'=>e=.returned (.int .i64 0)/\w=w':=fun w=>by
  replace hm:=J0 hm
  go_enter Tryz.func245,Tryz.ntmps245
  go_wp2_with ((go_at_call 190;(with_reducible refine (hm.out _).mono ?_);rintro e w' ⟨rfl,rfl⟩))
  go_ret
  exact ⟨rfl,rfl⟩
 replace hn:=J0 hn
 clear hm
 go_enter Tryz.func186,Tryz.ntmps186
 go_wp2_with ((go_at_call 245;(with_reducible refine (hn.out _).mono ?_);rintro e w' ⟨rfl,rfl⟩))
 go_ret
 exact ⟨rfl,rfl⟩
theorem snew_no (rows cols:Int) (p:Option Addr) (kp:Bool) (w:World) (hno:¬ (1<=rows/\rows<=512)\/¬ (1<=cols/\cols<=512)\/p=none):Calls Tryz.prog 114 #[.int .i64 rows,.int .i64 cols,.pointer p,.bool kp] w fun e w'=>e=.returned (.tuple #[.pointer none,.int .i64 2])/\w=w':=by
 have h1:=fun w=>Bb7 rows w
 have h2:=fun w=>Bb7 cols w
 have h3:=J0 (fun w=>there_nil w)
 by_cases q1:1<=rows/\rows<=512
 ·rw [decide_eq_true q1] at h1
  by_cases q2:1<=cols/\cols<=512
  ·rw [decide_eq_true q2] at h2
   obtain rfl:p=none:=by
    rcases hno with h|h|h
    ·exact absurd q1 h
    ·exact absurd q2 h
    ·exact h
   replace h1:=J0 h1
   replace h2:=J0 h2
   clear hno q1 q2
   go_enter Tryz.func114,Tryz.ntmps114
   go_wp2_with (first
    |(go_at_call 185;(with_reducible refine (h1.out _).mono ?_);rintro e w' ⟨rfl,rfl⟩)
    |(go_at_call 185;(with_reducible refine (h2.out _).mono ?_);rintro e w' ⟨rfl,rfl⟩)
    |(go_at_call 186;(with_reducible refine (h3.out _).mono ?_);rintro e w' ⟨rfl,rfl⟩))
   go_ret2
   exact ⟨rfl,rfl⟩
  ·rw [decide_eq_false q2] at h2
   replace h1:=J0 h1
   replace h2:=J0 h2
   clear hno q1 q2
   go_enter Tryz.func114,Tryz.ntmps114
   go_wp2_with (first
    |(go_at_call 185;(with_reducible refine (h1.out _).mono ?_);rintro e w' ⟨rfl,rfl⟩)
    |(go_at_call 185;(with_reducible refine (h2.out _).mono ?_);rintro e w' ⟨rfl,rfl⟩))
   go_ret2
   exact ⟨rfl,rfl⟩
 ·rw [decide_eq_false q1] at h1
  replace h1:=J0 h1
  clear hno q1 h2
  go_enter Tryz.func114,Tryz.ntmps114
  go_wp2_with (first
   |(go_at_call 185;(with_reducible refine (h1.out _).mono ?_);rintro e w' ⟨rfl,rfl⟩))
  go_ret2
  exact ⟨rfl,rfl⟩
theorem Cb0 (h:SX 0 w s nx most sv R) (hz:B s/\(∀ g,sv.ownBlock=some g->B g)/\(∀ e∈R,B e.d/\B e.g)/\∀ k,w.heap.size<=k->B k) (hd:(R.map En.d).Nodup) (hg:(R.map En.g).Nodup) (rows cols:Nat) (kp:Bool) (hr1:1<=rows) (hr5:rows<=512) (hc1:1<=cols) (hc5:cols<=512) (hnx:nx+512<=10000000000) :
  Calls Tryz.prog 114 #[.int .i64 rows,.int .i64 cols,.pointer (some ⟨s,0,none⟩),.bool kp] w fun e w'=>e=.returned (.tuple #[.pointer (some ⟨w.heap.size,0,none⟩),.int .i64 0])/\SC B w' w.heap.size s (newS nx most rows cols kp (vw R))/\Fr B PT w w':=by
 have h1:=fun w=>Bb7 rows w
 rw [decide_eq_true (by omega)] at h1
 have h2:=fun w=>Bb7 cols w
 rw [decide_eq_true (by omega)] at h2
 have h3:=there_any h
 have hb:=Aa1 w (.cells #[.pointer (some ⟨s,0,none⟩),.bool kp,.int .i64 cols,.slice none 0 0,.int .i64 0,.int .i64 0] 259)
 have hBw:LoX B (w.alloc (.cells #[.pointer (some ⟨s,0,none⟩),.bool kp,.int .i64 cols,.slice none 0 0,.int .i64 0,.int .i64 0] 259)) w.heap.size s sv (.slice none 0 0) R :=
  ⟨hz.2.2.2 _ (J5 _),hz.1,fun g hg=>(by cases hg),hz.2.1,hz.2.2.1,fun k hk=>hz.2.2.2 k (Nat.le_trans hb.size hk)⟩
 have hplt:=fun g hg=>(h.ptyp g hg).2.1
 have hS0:SC B (w.alloc (.cells #[.pointer (some ⟨s,0,none⟩),.bool kp,.int .i64 cols,.slice none 0 0,.int .i64 0,.int .i64 0] 259)) w.heap.size s { nx:=nx,most:=most,kp:=kp,cols:=cols,top:=0,bot:=0,L:=[],R:=vw R } :=
  ⟨sv,.slice none 0 0,[],R,⟨⟨Block.made w _ _,World.ownsRow_nil _ _ _ _,h.below hb,fun g hg=>(by cases hg),hBw,by simp⟩,by simp,by simp,by simpa using hd,by simpa using hg⟩,rfl,rfl⟩
 have hch:=Ay5 hS0 0 0 0 rows (by simp) (by simp) (by simp;omega) (by show nx+rows<=_;omega) hc1 hc5 zeroAt
 have hch':Calls Tryz.prog 187 #[.pointer (some ⟨w.heap.size,0,none⟩),.agg #[.int .i64 0,.int .i64 0],.agg #[.int .i64 0,.int .i64 rows],.agg #[.int .u32 0,.int .u32 0,.int .u16 0],.func (.func 188) #[.pointer (some ⟨w.heap.size,0,none⟩)] #[]] (w.alloc (.cells #[.pointer (some ⟨s,0,none⟩),.bool kp,.int .i64 cols,.slice none 0 0,.int .i64 0,.int .i64 0] 259)) (Did B _ w.heap.size s _):=hch
 clear hch
 have hcl:(chg { nx:=nx,most:=most,kp:=kp,cols:=cols,top:=0,bot:=0,L:=[],R:=vw R } 0 0 0 rows zeroAt false).L.length=rows:=by rw [Bk8 (by simp)];simp
 have hm:=fun w' (hs:SC B w' w.heap.size s (chg { nx:=nx,most:=most,kp:=kp,cols:=cols,top:=0,bot:=0,L:=[],R:=vw R } 0 0 0 rows zeroAt false))=>marg_sc hs (by omega) (by omega)
 unfold newS
 generalize chg { nx:=nx,most:=most,kp:=kp,cols:=cols,top:=0,bot:=0,L:=[],R:=vw R } 0 0 0 rows zeroAt false=S1 at hch' hm hcl |-
 generalize Cl6 S1=S2 at hm |-
 have hmf:=mkf
 replace h1:=J0 h1
 replace h2:=J0 h2
 replace h3:=J0 h3
 replace hm:=J0 hm
 replace hch':=J0 hch'
 replace hb:=J0 hb
 clear h hd hg hS0 hr1 hr5 hc1 hc5 hnx hplt hcl
 go_enter Tryz.func114,Tryz.ntmps114
 go_wp2_with (first
  |(go_at_call 185;(with_reducible refine (h1.out _).mono ?_);rintro e w' ⟨rfl,rfl⟩)
  |(go_at_call 185;(with_reducible refine (h2.out _).mono ?_);rintro e w' ⟨rfl,rfl⟩)
  |(go_at_call 186;(with_reducible refine (h3.out).mono ?_);rintro e w' ⟨rfl,rfl⟩)
  |(go_at_call 187;(with_reducible refine hch'.out.mono ?_);rintro r w2 ⟨⟨v2,rfl⟩,hs2,hf2⟩)
  |(go_at_call 189;(with_reducible refine (hm.out _ hs2).mono ?_);rintro r w3 ⟨⟨v3,rfl⟩,hs3,hf3⟩))
 go_ret2
 exact ⟨rfl,hs3,((Fr.of_below hb.out).trans hf2).trans hf3⟩
end
end Go.Proofs.YtbafmljidapmgaaGreatDoor.Scn
namespace Go.Proofs.YtbafmljidapmgaaGreatDoor.Rw
open Go RowKit Com
def Aj9 (c:Cel):Bool:=(c.r != 32) || ((decide (0<c.m.length)) || (c.wide != 0))
theorem filled_any (c:Cel) (w:World):Calls Tryz.prog 367 #[.agg (cellC c).toArray] w fun e w'=>e=.returned (.bool (Aj9 c))/\Below w.heap.size w w':=by
 obtain ⟨r,m,wd,⟨af,ab,ag⟩⟩:=c
 obtain ⟨p0,p1,p2,p3,hp⟩:∃ p0 p1 p2 p3,pad4 m=[p0,p1,p2,p3]:=by
  have h4:=pad4_length m
  generalize pad4 m=q at h4
  match q,h4 with
  |[a,b,c,d],_=>exact ⟨a,b,c,d,rfl⟩
 have hC:(cellC ⟨r,m,wd,⟨af,ab,ag⟩⟩).toArray=#[.int .i32 r,.int .i32 p0,.int .i32 p1,.int .i32 p2,.int .i32 p3,.int .u8 m.length,.int .u8 wd,.int .u32 af,.int .u32 ab,.int .u16 ag]:=by simp [cellC,hp,attV]
 rw [hC]
 obtain ⟨b,hb⟩:∃ b,b=Aj9 ⟨r,m,wd,⟨af,ab,ag⟩⟩:=⟨_,rfl⟩
 rw [<- hb]
 unfold Aj9 at hb
 simp only at hb
 generalize m.length=k at hb |-
 replace hb:=J0 hb
 clear hp hC
 go_enter Tryz.func367,Tryz.ntmps367
 go_wp2
 all_goals
  go_ret
  exact ⟨Ab7 (by rw [hb.out,Bool.eq_iff_iff];simp<;>omega),Aa1 _ _⟩
def Cc9 (w:World) (sp:Option Addr) (L:List Cel):Prop:=∀ i (hi:i<L.length),∃ g o,sp=some ⟨g,o,none⟩/\g<w.heap.size/\∀ j v,(cellC L[i])[j]?=some v->w.cell? ⟨g,o+i*10+j,none⟩=some v
def IdxDone (w:World) (L:List Cel) (e:Ending) (w':World):Prop:=∃ n:Int,e=.returned (.int .i64 n)/\(0<=n↔L.any Aj9=true)/\-1<=n/\Below w.heap.size w w'
theorem index_any (L:List Cel) (sp:Option Addr) (c:Nat) (hc:c<=maxLen) (hl:L.length<=c) (w:World) (h:Cc9 w sp L) :
  Calls Tryz.prog 409 #[.slice sp L.length c,.func (.func 367) #[] #[]] w (IdxDone w L):=by
 unfold maxLen at hc
 obtain ⟨m,hm⟩:∃ m,m=L.length:=⟨_,rfl⟩
 rw [<- hm] at hl |-
 replace hm:=J0 hm
 replace h:=J0 h
 go_enter Tryz.func409,Tryz.ntmps409
 go_wp2
 go_loopw [8] (fun i wr=>∃ k:Nat,k<=m/\i=.int .i64 k/\Hid (Below w.heap.size w wr/\(L.take k).any Aj9=false)) (fun i _=>m - (intOf i).toNat)
 case atStart=>exact ⟨0,Nat.zero_le _,rfl,J0 ⟨Below.refl _ _,by simp⟩⟩
 case round =>
  obtain ⟨k,hk,rfl,hR⟩:=hrel
  have hm':=hm.out
  obtain ⟨hb,hn⟩:=hR.out
  by_cases hlt:k<m
  ·have hkl:k<L.length:=by omega
   obtain ⟨g,o,rfl,hg,hcell⟩:=h.out k hkl
   have hld:∀ j v,(cellC L[k])[j]?=some v->wr.cell? ((⟨g,o+k*10,none⟩:Addr).add j)=some v:=fun j v hj=>by
    rw [Addr.add_lit,hb.cell hg]
    exact hcell j v hj
   have hfi:=fun w=>filled_any L[k] w
   have hC10:=By6 L[k]
   have htk:(L.take (k+1)).any Aj9=Aj9 L[k]:=by
    rw [List.take_add_one,List.getElem?_eq_getElem hkl,List.any_append,hn]
    simp
   have hany:Aj9 L[k]=true->L.any Aj9=true:=fun hf=>List.any_eq_true.2 ⟨_,List.getElem_mem hkl,hf⟩
   generalize L[k]=c at hld hfi hC10 htk hany
   generalize cellC c=C at hld hfi hC10
   replace hld:=J0 hld
   replace hC10:=J0 hC10
   replace hb:=J0 hb
   clear hn hm' hcell
   by_cases hf:Aj9 c=true
   ·rw [hf] at hfi
    replace hany:=J0 (hany hf)
    replace hfi:=J0 hfi
    clear hf htk
    go_wp2_with (first
     |(with_reducible show wpList _ _ _ (⟨some 15,.load _ (.tmp 14),_,_,_,_⟩::_) _ _;go_must (refine wpList_loadAt rfl 304 (.tmp 14) rfl ⟨g,o+k*10,none⟩ rfl C _ hld.out Tryz.underlying304 rfl hC10.out ?_))
     |(go_at_call 367;(with_reducible refine (hfi.out _).mono ?_);rintro e w1 ⟨rfl,hb1⟩))
    go_ret
    exact ⟨(k:Int),rfl,⟨fun _=>hany.out,fun _=>by omega⟩,by omega,Aa0 hb.out hb1⟩
   ·have hf:Aj9 c=false:=by simpa using hf
    rw [hf] at hfi htk
    replace htk:=J0 htk
    replace hfi:=J0 hfi
    clear hf hany
    go_wp2_with (first
     |(with_reducible show wpList _ _ _ (⟨some 15,.load _ (.tmp 14),_,_,_,_⟩::_) _ _;go_must (refine wpList_loadAt rfl 304 (.tmp 14) rfl ⟨g,o+k*10,none⟩ rfl C _ hld.out Tryz.underlying304 rfl hC10.out ?_))
     |(go_at_call 367;(with_reducible refine (hfi.out _).mono ?_);rintro e w1 ⟨rfl,hb1⟩))
    have hb2:=J0 (Aa0 hb.out hb1)
    clear hb1
    go_roundw
    case rel=>exact ⟨k+1,by omega,by go_num,J0 ⟨hb2.out,htk.out⟩⟩
    case measure=>simp [intOf];omega
  ·obtain rfl:k=m:=by omega
   have hno:L.any Aj9=false:=by rw [<- List.take_of_length_le (l:=L) (i:=k) (by omega)];exact hn
   replace hno:=J0 hno
   replace hb:=J0 hb
   clear hn hm' hR
   go_wp2
   go_ret
   exact ⟨-1,rfl,⟨fun h=>by omega,fun h=>by rw [hno.out] at h;cases h⟩,by omega,hb.out⟩
theorem contains_any (L:List Cel) (sp:Option Addr) (c:Nat) (hc:c<=maxLen) (hl:L.length<=c) (w:World) (h:Cc9 w sp L) :
  Calls Tryz.prog 366 #[.slice sp L.length c,.func (.func 367) #[] #[]] w fun e w'=>e=.returned (.bool (L.any Aj9))/\Below w.heap.size w w':=by
 have hi:=J0 (index_any L sp c hc hl w h)
 generalize L.length=m at hi |-
 clear h hl hc
 go_enter Tryz.func366,Tryz.ntmps366
 go_wp2_with ((go_at_call 409;(with_reducible refine (hi.out).mono ?_);rintro e w1 ⟨n,rfl,hn,hn1,hb1⟩;replace hn:=J0 hn))
 go_ret
 exact ⟨Ab7 (by rw [Bool.eq_iff_iff];simpa using hn.out),hb1⟩
def Am6 (l:List Cel) (k:Int):Bool:=!((l.drop k.toNat).any Aj9)
theorem drop_held (l:List Cel) (k:Int):l.drop (Ab1 k l.length)=l.drop k.toNat:=by
 unfold Ab1
 rcases Nat.le_total k.toNat l.length with h|h
 ·rw [Nat.min_eq_left h]
 ·rw [Nat.min_eq_right h,List.drop_length,List.drop_eq_nil_of_le h]
theorem blank'_any {w:World} {d g n cap:Nat} {tail:List Value} {l:List Cel} (h:RowX w d g n cap tail l) (from':Int) :
  Calls Tryz.prog 313 #[.pointer (some ⟨d,0,none⟩),.int .i64 from'] w fun e w'=>e=.returned (.bool (Am6 l from'))/\Below w.heap.size w w':=by
 have hn:=h.pos
 have hn5:=h.small
 have hle:=h.le
 have hcm:=h.cap
 have hcm':=h.cap
 unfold maxLen at hcm'
 have hn0:((n:Int) == 0)=false:=beq_eq_false_iff_ne.2 (by omega)
 have hlen:=J0 (Ah1 h)
 have hc:=h.slice
 have hcd:=h.drawn.slice
 have hp:Ab1 from' n<=n:=Nat.min_le_right _ _
 have hh:=Ah8 from' n
 have hdr:=drop_held l from'
 rw [h.len] at hdr
 have hE:Am6 l from' = !((l.drop (Ab1 from' n)).any Aj9):=by unfold Am6;rw [hdr]
 rw [hE]
 clear hE hdr
 generalize Ab1 from' n=p at hh hp |-
 obtain ⟨ad1,had1⟩:∃ ad1,(if cap=p then (some ⟨g,0,none⟩:Option Addr) else some ⟨g,p*10,none⟩)=ad1:=⟨_,rfl⟩
 have hcel:∀ w',Below w.heap.size w w'->Cc9 w' ad1 (l.drop p):=by
  intro w' hb i hi
  have hi2:p+i<l.length:=by simp at hi;omega
  have hne:cap≠p:=by have:=h.len;omega
  refine ⟨g,p*10,by rw [<- had1,if_neg hne],(h.below hb).row.lt,fun j v hj=>?_⟩
  rw [List.getElem_drop] at hj
  have hj10:=(List.getElem?_eq_some_iff.1 hj).1
  rw [cellC_length] at hj10
  have:=(h.below hb).at' hi2 hj10 hj
  rw [show p*10+i*10+j=(p+i)*10+j by omega]
  exact this
 have hL:(l.drop p).length=n - p:=by rw [List.length_drop,h.len]
 have hcon:=fun w' (hb:Below w.heap.size w w')=>contains_any (l.drop p) ad1 (cap - p) (by omega) (by rw [hL];omega) w' (hcel w' hb)
 rw [hL] at hcon
 generalize (l.drop p).any Aj9=b at hcon |-
 have hsl:=fun w' (hb:Below w.heap.size w w')=>(h.below hb).slice
 replace hcon:=J0 hcon
 replace hsl:=J0 hsl
 replace hh:=J0 hh
 have hw0:(0:Int)<=(p:Int):=by omega
 have hw1:(p:Int)<=(n:Int):=by omega
 have hw2:p<=cap:=by omega
 have hbd:Below w.heap.size w w.drew:=Aa5 (Below.refl _ _) 1
 clear h hcel hL
 go_enter Tryz.func313,Tryz.ntmps313
 go_wp2_with ((go_at_call 240;(with_reducible refine (hlen.out).mono ?_);rintro e w' ⟨rfl,rfl⟩))
 go_region_held3 (fun w'=>w'.cell? ⟨d,0,none⟩=some (.slice (some ⟨g,0,none⟩) n cap))
  (first|exact hc|exact hcd|exact hsl.out _ hb1|go_keep)
  (first
   |(go_at_call 358;(with_reducible refine (hh.out _).mono ?_);rintro e w' ⟨rfl,rfl⟩)
   |(go_at_call 366;(with_reducible refine (hcon.out _ hbd).mono ?_);rintro e w1 ⟨rfl,hb1'⟩;have hb1:Below w.heap.size w w1:=Aa0 hbd hb1'))
 go_wp2
 go_ret
 exact ⟨rfl,hb1⟩
