/- Part 12 of the proof that the card of EmuAside holds. -/
import Derived.Test.YtkjpjegmanpbfaaGreatDoorPA11
set_option maxHeartbeats 16000000
set_option maxRecDepth 100000
namespace Go.Proofs.YtkjpjegmanpbfaaGreatDoor.Scn
open Go RowKit Com Rw Lns
section
variable {B:Zn} {w w':World} {x s nx most cols top bot n:Nat} {kp:Bool} {sv lv:Value} {xs:List Value} {R A C L:List En} {e e':En} {S:Scr}
theorem LnX.elem (h:LnX B w x s nx most kp cols sv lv top bot n (fl Ab5 L) R) {i:Nat} (hn:n=L.length) (hi:i<L.length):∃ g c,lv=.slice (some ⟨g,0,none⟩) n c/\w.cell? ⟨g,i*2,none⟩=some (.int .i64 L[i].id)/\w.cell? ⟨g,i*2+1,none⟩=some (.pointer (some ⟨L[i].d,0,none⟩)):=by
 obtain ⟨g,cap,tail,rfl,hg,hb,hc,hm⟩:=Ae5 h.own (by omega)
 have e0:=Bc2 Ab4 hi (show 0<2 by decide)
 have e1:=Bc2 Ab4 hi (show 1<2 by decide)
 have hl:i*2+1<(fl Ab5 L).length:=by rw [Ab3 Ab4];omega
 refine ⟨g,cap,rfl,hb.cell _ ?_,hb.cell _ ?_⟩
 ·rw [List.getElem?_toArray,List.getElem?_append_left (by omega)];exact e0
 ·rw [List.getElem?_toArray,List.getElem?_append_left hl];exact e1
theorem widen_sc (h:SC B w x s S) (hl:S.L.length<=1000) (m:Nat) (h1:1<=m) (h2:m<=512):Calls Tryz.prog 81 #[.pointer (some ⟨x,0,none⟩),.int .i64 m] w (Did B w x s (Br1 S m)):=by
 obtain ⟨sv,lv,L,R,h0,e1,e2⟩:=h
 have hll:L.length=S.L.length:=by rw [<- e1,Ao5]
 obtain ⟨m1,m2⟩:=h0.ln.setCols m
 have hM:=h0.ln' m1 (m2.mono (by simp))
 have hf0:=h0.ln.frame (m2.mono (by simp))
 have c2:=h0.ln.cells.2.2.1
 have f2:=h0.ln.blk.free 2
 have c3:=hM.ln.cells.2.2.2.1
 obtain ⟨ao,c,hlv,hnc,_⟩:=h0.ln.shape
 rw [hlv] at c3
 replace hlv:=J0 hlv
 obtain ⟨n,hn⟩:∃ n,n=L.length:=⟨_,rfl⟩
 rw [<- hn] at hM hll hlv c3
 have hn5:n<=1000:=by omega
 replace hn:=J0 hn
 replace hll:=J0 hll
 replace e1:=J0 e1
 replace e2:=J0 e2
 replace hM:=J0 hM
 replace hf0:=J0 hf0
 clear h0 m1 m2 hnc
 go_enter Tryz.func81,Tryz.ntmps81
 go_wp2
 generalize w.setCell ⟨x,2,none⟩ (.int .i64 m)=w0 at hM hf0 c3 |-
 go_loopw [15] (fun iv wr=>∃ j:Nat,j<=n/\iv=.int .i64 j/\Hid (∃ A,vw A=(vw (L.take j)).map (fun p=>(p.1,resL p.2 m))/\MidX B wr x s S.nx S.most S.kp m sv lv S.top S.bot n (fl Ab5 L) (A++L.drop j) R/\fl Ab5 A=fl Ab5 (L.take j)/\Fr B PT w wr)) (fun iv _=>n - (intOf iv).toNat)
 case atStart=>exact ⟨0,Nat.zero_le _,rfl,J0 ⟨[],rfl,hM.out,rfl,hf0.out⟩⟩
 case round =>
  obtain ⟨j,hj,rfl,hR⟩:=hrel
  obtain ⟨A,hvA,hMr,hfl,hfr⟩:=hR.out
  by_cases hlt:j<n
  ·have hjI:(j:Int)<(n:Int):=by omega
   have hjL:j<L.length:=by have:=hn.out;omega
   obtain ⟨g,c',ee,q0,q1⟩:=hMr.ln.elem hn.out hjL
   rw [hlv.out] at ee
   simp only [Value.slice.injEq] at ee
   obtain ⟨rfl,_,rfl⟩:=ee
   have hdrop:L.drop j=L[j]::L.drop (j+1):=List.drop_eq_getElem_cons hjL
   have htake:L.take (j+1)=L.take j++[L[j]]:=by rw [List.take_add_one,List.getElem?_eq_getElem hjL];rfl
   rw [hdrop] at hMr
   generalize L[j]=e0 at q0 q1 hMr hdrop htake
   have hbw:Below wr.heap.size wr (wr.alloc (.cells #[.int .i64 e0.id,.pointer (some ⟨e0.d,0,none⟩)] 151)):=Aa1 wr _
   have hrr:=res_row (hMr.below hbw) m h1 h2
   have hfin:=fun w3 (e':En) (g1:e'.id=e0.id) (g2:e'.d=e0.d) (g3:e'.l=resL e0.l m) (g4:MidX B w3 x s S.nx S.most S.kp m sv lv S.top S.bot n (fl Ab5 L) (A++e'::L.drop (j+1)) R) (g5:Fr B PT (wr.alloc (.cells #[.int .i64 e0.id,.pointer (some ⟨e0.d,0,none⟩)] 151)) w3)=>(⟨A++[e'],by rw [htake];simp only [vw,List.map_append,List.map_cons,List.map_nil,g1,g3] at hvA |-;rw [hvA],by rw [List.append_assoc];exact g4,by rw [fl_app,fl_one,htake,fl_app,fl_one,hfl,Bw4 g1 g2],hfr.trans ((Fr.of_below hbw).trans g5)⟩:∃ A,vw A=(vw (L.take (j+1))).map (fun p=>(p.1,resL p.2 m))/\MidX B w3 x s S.nx S.most S.kp m sv lv S.top S.bot n (fl Ab5 L) (A++L.drop (j+1)) R/\fl Ab5 A=fl Ab5 (L.take (j+1))/\Fr B PT w w3)
   replace hfin:=J0 hfin
   replace hrr:=J0 hrr
   clear hMr hfr hvA hfl hR hdrop htake hbw
   go_wp2_with (first
    |(go_at_call 152;(with_reducible refine hrr.out.mono ?_);rintro r w3 ⟨⟨v3,rfl⟩,e',g1,g2,g3,g4,g5⟩))
   have hres:=J0 (hfin.out _ e' g1 g2 g3 g4 g5)
   clear g1 g2 g3 g4 g5
   go_roundw
   case rel=>exact ⟨j+1,by omega,by go_num,hres⟩
   case measure=>simp [intOf];omega
  ·obtain rfl:j=n:=by omega
   have hno:=hn.out
   subst hno
   rw [List.drop_length,List.append_nil] at hMr
   rw [List.take_length] at hvA hfl
   have hAl:A.length=L.length:=by
    have:=congrArg List.length hvA
    simpa [Ao5] using this
   have hres:=J0 (⟨⟨sv,lv,A,R,by rw [hfl,hAl];exact hMr,by rw [hvA,e1.out];rfl,e2.out⟩,hfr⟩:SC B wr x s (Br1 S m)/\Fr B PT w wr)
   clear hMr hvA hfl hfr hR
   go_wp2
   go_end0
   exact ⟨⟨_,rfl⟩,hres.out⟩
end
section
variable {B:Zn} {w w':World} {x s:Nat} {S:Scr}
theorem Bn2 (h:SC B w x s S) (hk:S.kp=true) (v:Value) (hv:v=.int .i64 0):Calls Tryz.prog 79 #[.pointer (some ⟨x,0,none⟩),v] w fun e w'=>e=.returned (.func (.func 151) #[.pointer (some ⟨x,0,none⟩)] #[])/\w=w':=by
 obtain ⟨_,c1,_,_,_,_⟩:=h.cells
 rw [hk] at c1
 have hmf:=mkf
 subst hv
 clear h hk
 go_enter Tryz.func79,Tryz.ntmps79
 go_wp2
 go_ret
 exact ⟨rfl,rfl⟩
theorem Bc1 (h:SC B w x s S) (frm:Nat) (hk:S.kp=false\/frm≠0):Calls Tryz.prog 79 #[.pointer (some ⟨x,0,none⟩),.int .i64 frm] w fun e w'=>e=.returned (.func (.func 80) #[.pointer (some ⟨x,0,none⟩)] #[])/\w=w':=by
 obtain ⟨_,c1,_,_,_,_⟩:=h.cells
 have hmf:=mkf
 generalize S.kp=kp at c1 hk
 clear h
 cases kp
 ·clear hk
  go_enter Tryz.func79,Tryz.ntmps79
  go_wp2
  go_ret
  exact ⟨rfl,rfl⟩
 ·have h0:((frm:Int) == 0)=false:=beq_eq_false_iff_ne.2 (by
   rcases hk with hk|hk
   ·cases hk
   ·omega)
  clear hk
  go_enter Tryz.func79,Tryz.ntmps79
  go_wp2
  go_ret
  exact ⟨rfl,rfl⟩
theorem Up_forget (h:SC B w x s S) (hF:Fit S) (n:Int) (hnx:S.nx+512<=1000000) (a:At) (hk:S.kp=false\/S.top≠0) :
  Calls Tryz.prog 161 #[.pointer (some ⟨x,0,none⟩),.int .i64 n,.agg #[.int .u32 a.f,.int .u32 a.b,.int .u16 a.g]] w (DidV B w x s (upS S S.top n a false) 0):=by
 have hb1:=Aa1 w (.cells #[.int .u32 a.f,.int .u32 a.b,.int .u16 a.g] 41)
 have hbx:=Block.made w 41 #[.int .u32 a.f,.int .u32 a.b,.int .u16 a.g]
 have hmade:=Ai4 (h.below hb1) hF.len
 have h1:=h.below hb1
 have htb:=hF.top
 obtain ⟨af,ab,ag⟩:=a
 simp only at hb1 hbx hmade |-
 obtain ⟨bx,hbxe⟩:∃ bx,bx=w.heap.size:=⟨_,rfl⟩
 replace hmade:=J0 hmade
 clear h
 go_enter Tryz.func161,Tryz.ntmps161
 go_wp2_with ((go_at_call 75;(with_reducible refine (hmade.out).mono ?_);rintro e w' ⟨rfl,rfl⟩))
 generalize w.alloc (.cells #[.int .u32 af,.int .u32 ab,.int .u16 ag] 41)=w0 at hbx hb1 h1 |-
 rw [<- hbxe] at hbx |-
 replace hbxe:=J0 hbxe
 have hd0:Below w0.heap.size w0 w0.drew:=Aa4 (Below.refl _ _) 1
 have hS:∀ w' S',SC B w' x s S'->S'.top=S.top->Fr B PT w0 w'->w'.cell? ⟨x,4,none⟩=some (.int .i64 S.top)/\w'.cell? ⟨bx,0,none⟩=some (.int .u32 af)/\w'.cell? ⟨bx,1,none⟩=some (.int .u32 ab)/\w'.cell? ⟨bx,2,none⟩=some (.int .u16 ag):=fun w' S' hs hb hf=>by
  have hbx':=Block.fr hbx hf (.inl (by decide))
  have:=hs.cells.2.2.2.2.1
  rw [hb] at this
  exact ⟨this,hbx'.cell 0 rfl,hbx'.cell 1 rfl,hbx'.cell 2 rfl⟩
 obtain ⟨a0,a1,a2,a3⟩:=hS _ _ h1 rfl (Fr.refl _ _ _)
 have c1:=hS _ _ (h1.below hd0) rfl (Fr.of_below hd0)
 have hfa:=Bc1 (h1.below hd0) S.top hk
 have hch:=Br0 (h1.below hd0) hF S.top htb n hnx ⟨af,ab,ag⟩
 have hpt:=J0 (fun w' hs=>hS w' (upS S S.top n ⟨af,ab,ag⟩ false) hs rfl)
 have hfr1:Fr B PT w w0.drew:=(Fr.of_below hb1).trans (Fr.of_below hd0)
 have hfr0:Fr B PT w0 w0.drew:=Fr.of_below hd0
 obtain ⟨S',hS'⟩:∃ S',S'=upS S S.top n ⟨af,ab,ag⟩ false:=⟨_,rfl⟩
 rw [<- hS'] at hch hpt
 replace hS':=J0 hS'
 simp only at hch
 generalize S.top=tp at a0 c1 hpt hfa hch hk
 replace hch:=J0 hch
 replace hfa:=J0 hfa
 replace hfr1:=J0 hfr1
 replace hfr0:=J0 hfr0
 clear hS hbx h1 hb1 hd0 hF hnx htb hk
 go_region_held3 (fun w'=>w'.cell? ⟨x,4,none⟩=some (.int .i64 tp)/\w'.cell? ⟨bx,0,none⟩=some (.int .u32 af)/\w'.cell? ⟨bx,1,none⟩=some (.int .u32 ab)/\w'.cell? ⟨bx,2,none⟩=some (.int .u16 ag))
  (first|exact ⟨a0,a1,a2,a3⟩|exact c1|exact hz)
  (first
   |(go_at_call 79;(with_reducible refine hfa.out.mono ?_);rintro r w1 ⟨rfl,rfl⟩)
   |(go_at_call 202;(with_reducible refine hch.out.mono ?_);rintro r w2 ⟨⟨v2,rfl⟩,hs2,hf2⟩;have hz:=hpt.out _ hs2 (hfr0.out.trans hf2)))
 have hres:=J0 (And.intro hs2 (hfr1.out.trans hf2))
 clear hs2 hf2 hz a0 a1 a2 a3 c1
 go_wp2
 go_ret
 exact ⟨rfl,by rw [<- hS'.out];exact hres.out⟩
theorem Up_keep (h:SC B w x s S) (hF:Fit S) (n:Int) (hnx:S.nx+512<=1000000) (a:At) (hk:S.kp=true/\S.top=0) :
  Calls Tryz.prog 161 #[.pointer (some ⟨x,0,none⟩),.int .i64 n,.agg #[.int .u32 a.f,.int .u32 a.b,.int .u16 a.g]] w (DidV B w x s (upS S S.top n a true) 0):=by
 have hb1:=Aa1 w (.cells #[.int .u32 a.f,.int .u32 a.b,.int .u16 a.g] 41)
 have hbx:=Block.made w 41 #[.int .u32 a.f,.int .u32 a.b,.int .u16 a.g]
 have hmade:=Ai4 (h.below hb1) hF.len
 have h1:=h.below hb1
 have htb:=hF.top
 obtain ⟨af,ab,ag⟩:=a
 simp only at hb1 hbx hmade |-
 obtain ⟨bx,hbxe⟩:∃ bx,bx=w.heap.size:=⟨_,rfl⟩
 replace hmade:=J0 hmade
 clear h
 go_enter Tryz.func161,Tryz.ntmps161
 go_wp2_with ((go_at_call 75;(with_reducible refine (hmade.out).mono ?_);rintro e w' ⟨rfl,rfl⟩))
 generalize w.alloc (.cells #[.int .u32 af,.int .u32 ab,.int .u16 ag] 41)=w0 at hbx hb1 h1 |-
 rw [<- hbxe] at hbx |-
 replace hbxe:=J0 hbxe
 have hd0:Below w0.heap.size w0 w0.drew:=Aa4 (Below.refl _ _) 1
 have hS:∀ w' S',SC B w' x s S'->S'.top=S.top->Fr B PT w0 w'->w'.cell? ⟨x,4,none⟩=some (.int .i64 S.top)/\w'.cell? ⟨bx,0,none⟩=some (.int .u32 af)/\w'.cell? ⟨bx,1,none⟩=some (.int .u32 ab)/\w'.cell? ⟨bx,2,none⟩=some (.int .u16 ag):=fun w' S' hs hb hf=>by
  have hbx':=Block.fr hbx hf (.inl (by decide))
  have:=hs.cells.2.2.2.2.1
  rw [hb] at this
  exact ⟨this,hbx'.cell 0 rfl,hbx'.cell 1 rfl,hbx'.cell 2 rfl⟩
 obtain ⟨a0,a1,a2,a3⟩:=hS _ _ h1 rfl (Fr.refl _ _ _)
 have c1:=hS _ _ (h1.below hd0) rfl (Fr.of_below hd0)
 have hfa:=Bn2 (h1.below hd0) hk.1 (.int .i64 S.top) (by rw [hk.2];rfl)
 have hch:=up_keep (h1.below hd0) hF S.top htb n hnx ⟨af,ab,ag⟩
 have hpt:=J0 (fun w' hs=>hS w' (upS S S.top n ⟨af,ab,ag⟩ true) hs rfl)
 have hfr1:Fr B PT w w0.drew:=(Fr.of_below hb1).trans (Fr.of_below hd0)
 have hfr0:Fr B PT w0 w0.drew:=Fr.of_below hd0
 obtain ⟨S',hS'⟩:∃ S',S'=upS S S.top n ⟨af,ab,ag⟩ true:=⟨_,rfl⟩
 rw [<- hS'] at hch hpt
 replace hS':=J0 hS'
 simp only at hch
 generalize S.top=tp at a0 c1 hpt hfa hch hk
 replace hch:=J0 hch
 replace hfa:=J0 hfa
 replace hfr1:=J0 hfr1
 replace hfr0:=J0 hfr0
 clear hS hbx h1 hb1 hd0 hF hnx htb hk
 go_region_held3 (fun w'=>w'.cell? ⟨x,4,none⟩=some (.int .i64 tp)/\w'.cell? ⟨bx,0,none⟩=some (.int .u32 af)/\w'.cell? ⟨bx,1,none⟩=some (.int .u32 ab)/\w'.cell? ⟨bx,2,none⟩=some (.int .u16 ag))
  (first|exact ⟨a0,a1,a2,a3⟩|exact c1|exact hz)
  (first
   |(go_at_call 79;(with_reducible refine hfa.out.mono ?_);rintro r w1 ⟨rfl,rfl⟩)
   |(go_at_call 202;(with_reducible refine hch.out.mono ?_);rintro r w2 ⟨⟨v2,rfl⟩,hs2,hf2⟩;have hz:=hpt.out _ hs2 (hfr0.out.trans hf2)))
 have hres:=J0 (And.intro hs2 (hfr1.out.trans hf2))
 clear hs2 hf2 hz a0 a1 a2 a3 c1
 go_wp2
 go_ret
 exact ⟨rfl,by rw [<- hS'.out];exact hres.out⟩
theorem Cb0 (h:SC B w x s S) (hF:Fit S) (n:Int) (hnx:S.nx+512<=1000000) (a:At) :
  Calls Tryz.prog 116 #[.pointer (some ⟨x,0,none⟩),.int .i64 n,.agg #[.int .u32 a.f,.int .u32 a.b,.int .u16 a.g]] w (DidV B w x s (Ag6 S S.top n a) 0):=by
 have hb1:=Aa1 w (.cells #[.int .u32 a.f,.int .u32 a.b,.int .u16 a.g] 41)
 have hbx:=Block.made w 41 #[.int .u32 a.f,.int .u32 a.b,.int .u16 a.g]
 have hmade:=Ai4 (h.below hb1) hF.len
 have h1:=h.below hb1
 have htb:=hF.top
 obtain ⟨af,ab,ag⟩:=a
 simp only at hb1 hbx hmade |-
 obtain ⟨bx,hbxe⟩:∃ bx,bx=w.heap.size:=⟨_,rfl⟩
 replace hmade:=J0 hmade
 clear h
 go_enter Tryz.func116,Tryz.ntmps116
 go_wp2_with ((go_at_call 75;(with_reducible refine (hmade.out).mono ?_);rintro e w' ⟨rfl,rfl⟩))
 generalize w.alloc (.cells #[.int .u32 af,.int .u32 ab,.int .u16 ag] 41)=w0 at hbx hb1 h1 |-
 rw [<- hbxe] at hbx |-
 replace hbxe:=J0 hbxe
 have hd0:Below w0.heap.size w0 w0.drew:=Aa4 (Below.refl _ _) 1
 have hS:∀ w' S',SC B w' x s S'->S'.top=S.top->Fr B PT w0 w'->w'.cell? ⟨x,4,none⟩=some (.int .i64 S.top)/\w'.cell? ⟨bx,0,none⟩=some (.int .u32 af)/\w'.cell? ⟨bx,1,none⟩=some (.int .u32 ab)/\w'.cell? ⟨bx,2,none⟩=some (.int .u16 ag):=fun w' S' hs hb hf=>by
  have hbx':=Block.fr hbx hf (.inl (by decide))
  have:=hs.cells.2.2.2.2.1
  rw [hb] at this
  exact ⟨this,hbx'.cell 0 rfl,hbx'.cell 1 rfl,hbx'.cell 2 rfl⟩
 obtain ⟨a0,a1,a2,a3⟩:=hS _ _ h1 rfl (Fr.refl _ _ _)
 have c1:=hS _ _ (h1.below hd0) rfl (Fr.of_below hd0)
 have hch:=Cc3 (h1.below hd0) hF S.top htb n hnx ⟨af,ab,ag⟩
 have hpt:=J0 (fun w' hs=>hS w' (Ag6 S S.top n ⟨af,ab,ag⟩) hs rfl)
 have hfr1:Fr B PT w w0.drew:=(Fr.of_below hb1).trans (Fr.of_below hd0)
 have hfr0:Fr B PT w0 w0.drew:=Fr.of_below hd0
 obtain ⟨S',hS'⟩:∃ S',S'=Ag6 S S.top n ⟨af,ab,ag⟩:=⟨_,rfl⟩
 rw [<- hS'] at hch hpt
 replace hS':=J0 hS'
 simp only at hch
 generalize S.top=tp at a0 c1 hpt hch
 replace hch:=J0 hch
 replace hfr1:=J0 hfr1
 replace hfr0:=J0 hfr0
 clear hS hbx h1 hb1 hd0 hF hnx htb
 go_region_held3 (fun w'=>w'.cell? ⟨x,4,none⟩=some (.int .i64 tp)/\w'.cell? ⟨bx,0,none⟩=some (.int .u32 af)/\w'.cell? ⟨bx,1,none⟩=some (.int .u32 ab)/\w'.cell? ⟨bx,2,none⟩=some (.int .u16 ag))
  (first|exact ⟨a0,a1,a2,a3⟩|exact c1|exact hz)
  (first
   |(go_at_call 174;(with_reducible refine hch.out.mono ?_);rintro r w2 ⟨⟨v2,rfl⟩,hs2,hf2⟩;have hz:=hpt.out _ hs2 (hfr0.out.trans hf2)))
 have hres:=J0 (And.intro hs2 (hfr1.out.trans hf2))
 clear hs2 hf2 hz a0 a1 a2 a3 c1
 go_wp2
 go_ret
 exact ⟨rfl,by rw [<- hS'.out];exact hres.out⟩
theorem ins_no (h:SC B w x s S) (hF:Fit S) (at' n:Int) (hat:¬ ((S.top:Int)<=at'/\at'<=S.bot)) (a:At) :
  Calls Tryz.prog 185 #[.pointer (some ⟨x,0,none⟩),.int .i64 at',.int .i64 n,.agg #[.int .u32 a.f,.int .u32 a.b,.int .u16 a.g]] w (DidV B w x s S 2):=by
 have hb1:=Aa1 w (.cells #[.int .u32 a.f,.int .u32 a.b,.int .u16 a.g] 41)
 have hmade:=Ai4 (h.below hb1) hF.len
 have hw:=Aw9 (h.below hb1) at'
 rw [decide_eq_false hat] at hw
 have hres:=J0 (fun w' hb=>(⟨h.below hb,Fr.of_below hb⟩:SC B w' x s S/\Fr B PT w w'))
 obtain ⟨af,ab,ag⟩:=a
 simp only at hb1 hmade hw |-
 replace hmade:=J0 hmade
 replace hw:=J0 hw
 replace hb1:=J0 hb1
 clear h hF hat
 go_enter Tryz.func185,Tryz.ntmps185
 go_wp2_with (first
  |(go_at_call 75;(with_reducible refine (hmade.out).mono ?_);rintro e w' ⟨rfl,rfl⟩)
  |(go_at_call 209;(with_reducible refine (hw.out).mono ?_);rintro e w1 ⟨rfl,hbw⟩))
 go_ret
 exact ⟨rfl,hres.out _ (Aa0 hb1.out hbw)⟩
theorem ins_yes (h:SC B w x s S) (hF:Fit S) (at':Nat) (n:Int) (h0:S.top<=at') (h1:at'<=S.bot) (hnx:S.nx+512<=1000000) (a:At) :
  Calls Tryz.prog 185 #[.pointer (some ⟨x,0,none⟩),.int .i64 at',.int .i64 n,.agg #[.int .u32 a.f,.int .u32 a.b,.int .u16 a.g]] w (DidV B w x s (Ag6 S at' n a) 0):=by
 have hb1:=Aa1 w (.cells #[.int .u32 a.f,.int .u32 a.b,.int .u16 a.g] 41)
 have hbx:=Block.made w 41 #[.int .u32 a.f,.int .u32 a.b,.int .u16 a.g]
 have hmade:=Ai4 (h.below hb1) hF.len
 have hw:=Aw9 (h.below hb1) at'
 rw [decide_eq_true (by omega)] at hw
 have hch:=fun w' hb=>Cc3 (h.below (w':=w') hb) hF at' h1 n hnx a
 obtain ⟨af,ab,ag⟩:=a
 generalize Ag6 S at' n ⟨af,ab,ag⟩=S' at hch |-
 simp only at hb1 hbx hmade hw hch |-
 have hmf:=mkf
 replace hmade:=J0 hmade
 replace hw:=J0 hw
 replace hch:=J0 hch
 replace hb1:=J0 hb1
 obtain ⟨bx,hbxe⟩:∃ bx,bx=w.heap.size:=⟨_,rfl⟩
 clear h hF h0 h1 hnx
 go_enter Tryz.func185,Tryz.ntmps185
 go_wp2_with (first
  |(go_at_call 75;(with_reducible refine (hmade.out).mono ?_);rintro e w' ⟨rfl,rfl⟩)
  |(go_at_call 209;(with_reducible refine (hw.out).mono ?_);rintro e w1 ⟨rfl,hbw⟩;have hb2:=hbx.only (Only.of_below hbw []) (by simp);have a0:=hb2.cell 0 rfl;have a1:=hb2.cell 1 rfl;have a2:=hb2.cell 2 rfl;have hbb:=Aa0 hb1.out hbw)
  |(go_at_call 174;(with_reducible refine (hch.out _ hbb).mono ?_);rintro r w2 ⟨⟨v2,rfl⟩,hs2,hf2⟩))
 go_ret
 exact ⟨rfl,hs2,(Fr.of_below hbb).trans hf2⟩
theorem del_no (h:SC B w x s S) (hF:Fit S) (at' n:Int) (hat:¬ ((S.top:Int)<=at'/\at'<=S.bot)) (a:At) :
  Calls Tryz.prog 186 #[.pointer (some ⟨x,0,none⟩),.int .i64 at',.int .i64 n,.agg #[.int .u32 a.f,.int .u32 a.b,.int .u16 a.g]] w (DidV B w x s S 2):=by
 have hb1:=Aa1 w (.cells #[.int .u32 a.f,.int .u32 a.b,.int .u16 a.g] 41)
 have hmade:=Ai4 (h.below hb1) hF.len
 have hw:=Aw9 (h.below hb1) at'
 rw [decide_eq_false hat] at hw
 have hres:=J0 (fun w' hb=>(⟨h.below hb,Fr.of_below hb⟩:SC B w' x s S/\Fr B PT w w'))
 obtain ⟨af,ab,ag⟩:=a
 simp only at hb1 hmade hw |-
 replace hmade:=J0 hmade
 replace hw:=J0 hw
 replace hb1:=J0 hb1
 clear h hF hat
 go_enter Tryz.func186,Tryz.ntmps186
 go_wp2_with (first
  |(go_at_call 75;(with_reducible refine (hmade.out).mono ?_);rintro e w' ⟨rfl,rfl⟩)
  |(go_at_call 209;(with_reducible refine (hw.out).mono ?_);rintro e w1 ⟨rfl,hbw⟩))
 go_ret
 exact ⟨rfl,hres.out _ (Aa0 hb1.out hbw)⟩
theorem del_yes (h:SC B w x s S) (hF:Fit S) (at':Nat) (n:Int) (h0:S.top<=at') (h1:at'<=S.bot) (hnx:S.nx+512<=1000000) (a:At) :
  Calls Tryz.prog 186 #[.pointer (some ⟨x,0,none⟩),.int .i64 at',.int .i64 n,.agg #[.int .u32 a.f,.int .u32 a.b,.int .u16 a.g]] w (DidV B w x s (upS S at' n a false) 0):=by
 have hb1:=Aa1 w (.cells #[.int .u32 a.f,.int .u32 a.b,.int .u16 a.g] 41)
 have hbx:=Block.made w 41 #[.int .u32 a.f,.int .u32 a.b,.int .u16 a.g]
 have hmade:=Ai4 (h.below hb1) hF.len
 have hw:=Aw9 (h.below hb1) at'
 rw [decide_eq_true (by omega)] at hw
 have hch:=fun w' hb=>Br0 (h.below (w':=w') hb) hF at' h1 n hnx a
 obtain ⟨af,ab,ag⟩:=a
 generalize upS S at' n ⟨af,ab,ag⟩ false=S' at hch |-
 simp only at hb1 hbx hmade hw hch |-
 have hmf:=mkf
 replace hmade:=J0 hmade
 replace hw:=J0 hw
 replace hch:=J0 hch
 replace hb1:=J0 hb1
 obtain ⟨bx,hbxe⟩:∃ bx,bx=w.heap.size:=⟨_,rfl⟩
 clear h hF h0 h1 hnx
 go_enter Tryz.func186,Tryz.ntmps186
 go_wp2_with (first
  |(go_at_call 75;(with_reducible refine (hmade.out).mono ?_);rintro e w' ⟨rfl,rfl⟩)
  |(go_at_call 209;(with_reducible refine (hw.out).mono ?_);rintro e w1 ⟨rfl,hbw⟩;have hb2:=hbx.only (Only.of_below hbw []) (by simp);have a0:=hb2.cell 0 rfl;have a1:=hb2.cell 1 rfl;have a2:=hb2.cell 2 rfl;have hbb:=Aa0 hb1.out hbw)
  |(go_at_call 202;(with_reducible refine (hch.out _ hbb).mono ?_);rintro r w2 ⟨⟨v2,rfl⟩,hs2,hf2⟩))
 go_ret
 exact ⟨rfl,hs2,(Fr.of_below hbb).trans hf2⟩
def Aw2 (S:Scr) (t b:Int):Prop:=(t=0/\b=(S.L.length:Int) - 1)\/(0<=t/\t<b/\b<=(S.L.length:Int) - 1)
instance (S:Scr) (t b:Int):Decidable (Aw2 S t b):=by unfold Aw2;infer_instance
theorem may_sc (h:SC B w x s S) (h5:S.L.length<=512) (t b:Int):Calls Tryz.prog 210 #[.pointer (some ⟨x,0,none⟩),.int .i64 t,.int .i64 b] w fun e w'=>e=.returned (.bool (decide (Aw2 S t b)))/\w=w':=by
 obtain ⟨_,_,_,⟨ao,c,c3⟩,_,_⟩:=h.cells
 have hy:decide (Aw2 S t b)=true↔((t=0/\b=(S.L.length:Int) - 1)\/(0<=t/\t<b/\b<=(S.L.length:Int) - 1)):=decide_eq_true_iff
 generalize decide (Aw2 S t b)=y at hy |-
 generalize S.L.length=n at c3 h5 hy
 have hw:IntKind.i64.wrap ((n:Int) - 1)=(n:Int) - 1:=IntWalk.i64_in _ (by omega)
 replace hy:=J0 hy
 clear h
 go_enter Tryz.func210,Tryz.ntmps210
 go_wp2
 all_goals
  go_ret
  exact ⟨Ab6 (by rw [Bool.eq_iff_iff,hy.out];simp<;>omega),rfl⟩
theorem Bl0 (h:SC B w x s S) (hF:Fit S) (t b:Nat) (hok:Aw2 S t b):Calls Tryz.prog 187 #[.pointer (some ⟨x,0,none⟩),.int .i64 t,.int .i64 b] w (DidV B w x s { S with top:=t,bot:=b } 0):=by
 have hmade:=J0 (Ai4 h hF.len)
 have hm:=may_sc h hF.len5 t b
 rw [decide_eq_true hok] at hm
 obtain ⟨_,_,_,_,c4,c5⟩:=h.cells
 have f4:=h.free 4
 have f5:=h.free 5
 have hres:=J0 (h.setMarg t b)
 replace hm:=J0 hm
 generalize ({ S with top:=t,bot:=b }:Scr)=S' at hres |-
 clear h hF hok
 go_enter Tryz.func187,Tryz.ntmps187
 go_wp2_with (first
  |(go_at_call 75;(with_reducible refine (hmade.out).mono ?_);rintro e w' ⟨rfl,rfl⟩)
  |(go_at_call 210;(with_reducible refine (hm.out).mono ?_);rintro e w' ⟨rfl,rfl⟩))
 try go_region
 try go_wp2
 go_ret
 exact ⟨rfl,hres.out⟩
end
