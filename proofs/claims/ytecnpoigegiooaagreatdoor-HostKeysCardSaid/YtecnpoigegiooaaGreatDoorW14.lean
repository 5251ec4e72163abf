/- Part 14 of HostKeys. -/
import Derived.Test.YtecnpoigegiooaaGreatDoorW13
set_option maxHeartbeats 16000000
set_option maxRecDepth 100000
namespace Go.Proofs.YtecnpoigegiooaaGreatDoor.Scn
open Tryz
open Go RowKit Com Rw Lns
theorem Cfy{e e':En}(h1:e'.id=e.id)(h2:e'.d=e.d):E5 e'=E5 e:=by simp[E5,h1,h2]
theorem Cjy{A C:List En}{e e':En}(h1:e'.id=e.id)(h2:e'.d=e.d):fl E5 (A++e'::C)=fl E5 (A++e::C):=by simp[fl,Cfy h1 h2]
section
variable {B:Zn}{w w':World}{x s nx most cols top bot n:Nat}{kp:Bool}{sv lv:Value}{xs:List Value}{R A C:List En}{e e':En}{S:Scr}
theorem E2.row(h:E2 B w x s nx most kp cols sv lv top bot n xs (A++e::C) R){k:Nat}{t:TypeId}(ht:Typ w k t)(h1:168≠t)(h2:136≠t)(h3:188≠t)(hB:B k)(htP:t∈PT)
  (ho:A0 [k] w w') (ha:∀e2,e2∈A++C\/e2∈R->e2.d≠k/\e2.g≠k) (hr:O4 0 w' e') (hd:e'.d=e.d) (hg:e'.g=e.g\/w.heap.size<=e'.g) :
  E2 B w' x s nx most kp cols sv lv top bot n xs (A++e'::C) R/\Fr B PT w w':=by
 have hno:∀ {j:Nat} {t':TypeId},Typ w j t'->t'≠t->j∉[k]:=fun hj hn=>V0 hj ht hn
 have Akg:∀e2,e2∈A++C->e2∈A++e::C:=fun e2 he=>by
  rcases List.mem_append.1 he with he|he
  ·exact List.mem_append_left _ he
  ·exact List.mem_append_right _ (List.mem_cons_of_mem _ he)
 refine⟨⟨h.ln.only ho (hno h.ln.typ h1) (hno h.ln.st.typ h2) (fun g hg=>hno (h.ln.Q2 g hg).2.2 h3) (fun g hg=>hno (h.ln.st.Aci g hg).2.2 h3) (fun e2 he=>by
  have:=ha e2 (.inr he)
  exact⟨by simpa using this.1,by simpa using this.2⟩),fun e2 he=>?_,fun e2 he=>?_,?_,?_⟩,?_⟩
 ·rcases List.mem_append.1 he with he|he
  ·have:=ha e2 (.inl (List.mem_append_left _ he))
   exact(h.rows e2 (List.mem_append_left _ he)).only ho (by simpa using this.1) (by simpa using this.2)
  ·rcases List.mem_cons.1 he with rfl|he
   ·exact hr
   ·have:=ha e2 (.inl (List.mem_append_right _ he))
    exact(h.rows e2 (List.mem_append_right _ (List.mem_cons_of_mem _ he))).only ho (by simpa using this.1) (by simpa using this.2)
 ·rcases List.mem_append.1 he with he|he
  ·exact h.zr e2 (List.mem_append_left _ he)
  ·rcases List.mem_cons.1 he with rfl|he
   ·exact⟨hd▸(h.zr e (by simp)).1,hg.elim (fun hg=>hg▸(h.zr e (by simp)).2) (fun hg=>h.ln.lo.up _ hg)⟩
   ·exact h.zr e2 (List.mem_append_right _ (List.mem_cons_of_mem _ he))
 ·have:=h.dd
  simpa[hd]using this
 ·rcases hg with hg|hg
  ·have:=h.gg
   simpa[hg]using this
  ·have h0:((A++(C++R)).map En.g).Nodup:=h.gg.sublist (by
    rw[List.append_assoc,List.cons_append]
    exact(List.Sublist.append (List.Sublist.refl A) (List.sublist_cons_self e _)).map _)
   refine Aui En.g h0 (fun e2 he=>?_) hg (by rw[List.append_assoc,List.cons_append];exact List.perm_middle)
   have:e2∈(A++e::C)++R:=by
    rcases List.mem_append.1 he with he|he
    ·exact List.mem_append_left _ (List.mem_append_left _ he)
    ·rcases List.mem_append.1 he with he|he
     ·exact List.mem_append_left _ (List.mem_append_right _ (List.mem_cons_of_mem _ he))
     ·exact List.mem_append_right _ he
   exact(h.lts e2 this).2
 ·exact Fr.I9 ho fun j hj _=>by
   obtain rfl:j=k:=by simpa using hj
   exact⟨hB,t,htP,ht⟩
theorem E2.Cnn(h:E2 B w x s nx most kp cols sv lv top bot n xs (A++e::C) R):∀e2,e2∈A++C\/e2∈R->e2.d≠e.g/\e2.g≠e.g:=fun e2 he=>by
 have hm:e2∈A++(C++R):=by
  rcases he with he|he
  ·rcases List.mem_append.1 he with he|he
   ·exact List.mem_append_left _ he
   ·exact List.mem_append_right _ (List.mem_append_left _ he)
  ·exact List.mem_append_right _ (List.mem_append_right _ he)
 have hm2:e2∈(A++e::C)++R:=by
  rcases List.mem_append.1 hm with hm|hm
  ·exact List.mem_append_left _ (List.mem_append_left _ hm)
  ·rcases List.mem_append.1 hm with hm|hm
   ·exact List.mem_append_left _ (List.mem_append_right _ (List.mem_cons_of_mem _ hm))
   ·exact List.mem_append_right _ hm
 have A6:O4 0 w e2:=by
  rcases List.mem_append.1 hm2 with hm2|hm2
  ·exact h.rows e2 hm2
  ·exact h.ln.st.2 e2 hm2
 have he':=h.rows e (by simp)
 refine⟨fun hd=>absurd (Typ.inj A6.typ.1 (hd▸he'.typ.2)) (by decide),fun hg=>?_⟩
 have hn:((e::(A++(C++R))).map En.g).Nodup:=by
  have hp:List.Perm ((A++e::C)++R) (e::(A++(C++R))):=by rw[List.append_assoc,List.cons_append];exact List.perm_middle
  exact(hp.map En.g).nodup_iff.1 h.gg
 rw[List.map_cons,List.nodup_cons]at hn
 exact hn.1 (List.mem_map.2 ⟨e2,hm,hg⟩)
theorem LnX.Avu(h:LnX B w x s nx most kp cols sv lv top bot n xs R)(t b:Nat):LnX B ((w.setCell ⟨x,4,none⟩ (.int .i64 t)).setCell ⟨x,5,none⟩ (.int .i64 b)) x s nx most kp cols sv lv t b n xs R/\A0 [x] w ((w.setCell ⟨x,4,none⟩ (.int .i64 t)).setCell ⟨x,5,none⟩ (.int .i64 b)):=by
 have ho:A0 [x] w ((w.setCell ⟨x,4,none⟩ (.int .i64 t)).setCell ⟨x,5,none⟩ (.int .i64 b)):=(A0.setCell w ⟨x,4,none⟩ _).trans (A0.setCell _ ⟨x,5,none⟩ _)
 exact⟨⟨(h.blk.set 4 _).set 5 _,Aen h.own ho (fun g hg=>V0 (h.Q2 g hg).2.2 h.typ (by decide)),h.store (ho.mono (by simp)),h.apart,h.lo.grow ho.size,h.small⟩,ho⟩
theorem SC.free(h:SC B w x s S)(i:Nat):w.frozen? ⟨x,i,none⟩=false:=by
 obtain⟨sv,lv,L,R,h1,h2,h3⟩:=h
 exact h1.ln.blk.free i
theorem SC.Avu(h:SC B w x s S)(t b:Nat):SC B ((w.setCell ⟨x,4,none⟩ (.int .i64 t)).setCell ⟨x,5,none⟩ (.int .i64 b)) x s { S with top:=t,bot:=b }/\Fr B PT w ((w.setCell ⟨x,4,none⟩ (.int .i64 t)).setCell ⟨x,5,none⟩ (.int .i64 b)):=by
 obtain⟨sv,lv,L,R,h1,h2,h3⟩:=h
 obtain⟨m1,m2⟩:=h1.ln.Avu t b
 exact⟨⟨sv,lv,L,R,h1.ln' m1 (m2.mono (by simp)),h2,h3⟩,h1.ln.frame (m2.mono (by simp))⟩
theorem Clb(h:SC B w x s S)(hl:1<=S.L.length)(h5:S.L.length<=512):Calls prog 78 #[.pointer (some ⟨x,0,none⟩)] w (Did B w x s (Awy S)):=by
 obtain⟨_,_,_,⟨ao,c,c3⟩,c4,c5⟩:=h.cells
 have f4:=h.free 4
 have f5:=h.free 5
 have hw:IntKind.i64.wrap ((S.L.length:Int)-1)=((S.L.length-1:Nat):Int):=by
  rw[show(S.L.length:Int)-1=((S.L.length-1:Nat):Int)by omega]
  exact IntWalk.i64_in _ (by omega)
 have hs:=h.Avu 0 (S.L.length-1)
 unfold Awy
 rw[Int.natCast_zero]at hs
 have A4:=J0 hs
 generalize S.L.length-1=b at hw A4 |-
 generalize S.L.length=n at c3 hw
 clear h hs
 go_enter func78,ntmps78
 go_wp2
 try go_region
 try go_wp2
 go_end0
 exact⟨⟨_,rfl⟩,A4.out⟩
end
section
variable {B:Zn}{w w':World}{x s:Nat}{S:Scr}
theorem Cae(h:SC B w x s S)(hk:S.kp=true)(v:Value)(hv:v=.int .i64 0):Calls prog 266 #[.pointer (some ⟨x,0,none⟩),v] w fun e w'=>e=.returned (.func (.func 283) #[.pointer (some ⟨x,0,none⟩)] #[])/\w=w':=by
 obtain⟨_,c1,_,_,_,_⟩:=h.cells
 rw[hk]at c1
 have hmf:=mkf
 subst hv
 clear h hk
 go_enter func266,ntmps266
 go_wp2
 go_ret
 exact⟨rfl,rfl⟩
theorem Buo(h:SC B w x s S)(frm:Nat)(hk:S.kp=false\/frm≠0):Calls prog 266 #[.pointer (some ⟨x,0,none⟩),.int .i64 frm] w fun e w'=>e=.returned (.func (.func 77) #[.pointer (some ⟨x,0,none⟩)] #[])/\w=w':=by
 obtain⟨_,c1,_,_,_,_⟩:=h.cells
 have hmf:=mkf
 generalize S.kp=kp at c1 hk
 clear h
 cases kp
 ·clear hk
  go_enter func266,ntmps266
  go_wp2
  go_ret
  exact⟨rfl,rfl⟩
 ·have h0:((frm:Int) == 0)=false:=beq_eq_false_iff_ne.2 (by
   rcases hk with hk|hk
   ·cases hk
   ·omega)
  clear hk
  go_enter func266,ntmps266
  go_wp2
  go_ret
  exact⟨rfl,rfl⟩
theorem Bzc(h:SC B w x s S)(hF:Fit S)(n:Int)(hnx:S.nx+512<=10000000000)(a:At)(hk:S.kp=false\/S.top≠0) :
  Calls prog 223 #[.pointer (some ⟨x,0,none⟩),.int .i64 n,.agg #[.int .u32 a.f,.int .u32 a.b,.int .u16 a.g]] w (Aim B w x s (upS S S.top n a false) 0):=by
 have hb1:=A3 w (.cells #[.int .u32 a.f,.int .u32 a.b,.int .u16 a.g] 51)
 have hbx:=Block.made w 51 #[.int .u32 a.f,.int .u32 a.b,.int .u16 a.g]
 have E9:=Aeq (h.below hb1) hF.len
 have h1:=h.below hb1
 have htb:=hF.top
 obtain⟨af,ab,ag⟩:=a
 simp only at hb1 hbx E9 |-
 obtain⟨bx,D2⟩:∃bx,bx=w.heap.size:=⟨_,rfl⟩
 replace E9:=J0 E9
 clear h
 go_enter func223,ntmps223
 go_wp2_with((go_at_call 97;(with_reducible refine(E9.out).mono ?_);rintro e w' ⟨rfl,rfl⟩))
 generalize w.alloc (.cells #[.int .u32 af,.int .u32 ab,.int .u16 ag] 51)=w0 at hbx hb1 h1 |-
 rw[<- D2]at hbx |-
 replace D2:=J0 D2
 have hd0:Below w0.heap.size w0 w0.drew:=C7 (Below.refl _ _) 1
 have hS:∀w' S',SC B w' x s S'->S'.top=S.top->Fr B PT w0 w'->w'.cell? ⟨x,4,none⟩=some (.int .i64 S.top)/\w'.cell? ⟨bx,0,none⟩=some (.int .u32 af)/\w'.cell? ⟨bx,1,none⟩=some (.int .u32 ab)/\w'.cell? ⟨bx,2,none⟩=some (.int .u16 ag):=fun w' S' hs hb hf=>by
  have hbx':=Block.fr hbx hf (.inl (by decide))
  have:=hs.cells.2.2.2.2.1
  rw[hb]at this
  exact⟨this,hbx'.cell 0 rfl,hbx'.cell 1 rfl,hbx'.cell 2 rfl⟩
 obtain⟨a0,a1,a2,a3⟩:=hS _ _ h1 rfl (Fr.refl _ _ _)
 have c1:=hS _ _ (h1.below hd0) rfl (Fr.A1 hd0)
 have hfa:=Buo (h1.below hd0) S.top hk
 have hch:=Bdl (.inl ⟨rfl,rfl⟩) (h1.below hd0) hF S.top htb n hnx ⟨af,ab,ag⟩
 have hpt:=J0 (fun w' hs=>hS w' (upS S S.top n ⟨af,ab,ag⟩ false) hs rfl)
 have V2:Fr B PT w w0.drew:=(Fr.A1 hb1).trans (Fr.A1 hd0)
 have W1:Fr B PT w0 w0.drew:=Fr.A1 hd0
 obtain⟨S',hS'⟩:∃S',S'=upS S S.top n ⟨af,ab,ag⟩ false:=⟨_,rfl⟩
 rw[<- hS']at hch hpt
 replace hS':=J0 hS'
 simp only at hch
 generalize S.top=tp at a0 c1 hpt hfa hch hk
 replace hch:=J0 hch
 replace hfa:=J0 hfa
 replace V2:=J0 V2
 replace W1:=J0 W1
 clear hS hbx h1 hb1 hd0 hF hnx htb hk
 go_region_held3 (fun w'=>w'.cell? ⟨x,4,none⟩=some (.int .i64 tp)/\w'.cell? ⟨bx,0,none⟩=some (.int .u32 af)/\w'.cell? ⟨bx,1,none⟩=some (.int .u32 ab)/\w'.cell? ⟨bx,2,none⟩=some (.int .u16 ag))
  (first|exact⟨a0,a1,a2,a3⟩|exact c1|exact hz)
  (first
   |(go_at_call 266;(with_reducible refine hfa.out.mono ?_);rintro r w1 ⟨rfl,rfl⟩)
   |(go_at_call 265;(with_reducible refine hch.out.mono ?_);rintro r w2 ⟨⟨v2,rfl⟩,hs2,hf2⟩;have hz:=hpt.out _ hs2 (W1.out.trans hf2)))
 have A4:=J0 (And.intro hs2 (V2.out.trans hf2))
 clear hs2 hf2 hz a0 a1 a2 a3 c1
 go_wp2
 go_ret
 exact⟨rfl,by rw[<- hS'.out];exact A4.out⟩
theorem Cir(h:SC B w x s S)(hF:Fit S)(n:Int)(hnx:S.nx+512<=10000000000)(a:At)(hk:S.kp=true/\S.top=0) :
  Calls prog 223 #[.pointer (some ⟨x,0,none⟩),.int .i64 n,.agg #[.int .u32 a.f,.int .u32 a.b,.int .u16 a.g]] w (Aim B w x s (upS S S.top n a true) 0):=by
 have hb1:=A3 w (.cells #[.int .u32 a.f,.int .u32 a.b,.int .u16 a.g] 51)
 have hbx:=Block.made w 51 #[.int .u32 a.f,.int .u32 a.b,.int .u16 a.g]
 have E9:=Aeq (h.below hb1) hF.len
 have h1:=h.below hb1
 have htb:=hF.top
 obtain⟨af,ab,ag⟩:=a
 simp only at hb1 hbx E9 |-
 obtain⟨bx,D2⟩:∃bx,bx=w.heap.size:=⟨_,rfl⟩
 replace E9:=J0 E9
 clear h
 go_enter func223,ntmps223
 go_wp2_with((go_at_call 97;(with_reducible refine(E9.out).mono ?_);rintro e w' ⟨rfl,rfl⟩))
 generalize w.alloc (.cells #[.int .u32 af,.int .u32 ab,.int .u16 ag] 51)=w0 at hbx hb1 h1 |-
 rw[<- D2]at hbx |-
 replace D2:=J0 D2
 have hd0:Below w0.heap.size w0 w0.drew:=C7 (Below.refl _ _) 1
 have hS:∀w' S',SC B w' x s S'->S'.top=S.top->Fr B PT w0 w'->w'.cell? ⟨x,4,none⟩=some (.int .i64 S.top)/\w'.cell? ⟨bx,0,none⟩=some (.int .u32 af)/\w'.cell? ⟨bx,1,none⟩=some (.int .u32 ab)/\w'.cell? ⟨bx,2,none⟩=some (.int .u16 ag):=fun w' S' hs hb hf=>by
  have hbx':=Block.fr hbx hf (.inl (by decide))
  have:=hs.cells.2.2.2.2.1
  rw[hb]at this
  exact⟨this,hbx'.cell 0 rfl,hbx'.cell 1 rfl,hbx'.cell 2 rfl⟩
 obtain⟨a0,a1,a2,a3⟩:=hS _ _ h1 rfl (Fr.refl _ _ _)
 have c1:=hS _ _ (h1.below hd0) rfl (Fr.A1 hd0)
 have hfa:=Cae (h1.below hd0) hk.1 (.int .i64 S.top) (by rw[hk.2];rfl)
 have hch:=Bdl (.inr ⟨rfl,rfl⟩) (h1.below hd0) hF S.top htb n hnx ⟨af,ab,ag⟩
 have hpt:=J0 (fun w' hs=>hS w' (upS S S.top n ⟨af,ab,ag⟩ true) hs rfl)
 have V2:Fr B PT w w0.drew:=(Fr.A1 hb1).trans (Fr.A1 hd0)
 have W1:Fr B PT w0 w0.drew:=Fr.A1 hd0
 obtain⟨S',hS'⟩:∃S',S'=upS S S.top n ⟨af,ab,ag⟩ true:=⟨_,rfl⟩
 rw[<- hS']at hch hpt
 replace hS':=J0 hS'
 simp only at hch
 generalize S.top=tp at a0 c1 hpt hfa hch hk
 replace hch:=J0 hch
 replace hfa:=J0 hfa
 replace V2:=J0 V2
 replace W1:=J0 W1
 clear hS hbx h1 hb1 hd0 hF hnx htb hk
 go_region_held3 (fun w'=>w'.cell? ⟨x,4,none⟩=some (.int .i64 tp)/\w'.cell? ⟨bx,0,none⟩=some (.int .u32 af)/\w'.cell? ⟨bx,1,none⟩=some (.int .u32 ab)/\w'.cell? ⟨bx,2,none⟩=some (.int .u16 ag))
  (first|exact⟨a0,a1,a2,a3⟩|exact c1|exact hz)
  (first
   |(go_at_call 266;(with_reducible refine hfa.out.mono ?_);rintro r w1 ⟨rfl,rfl⟩)
   |(go_at_call 265;(with_reducible refine hch.out.mono ?_);rintro r w2 ⟨⟨v2,rfl⟩,hs2,hf2⟩;have hz:=hpt.out _ hs2 (W1.out.trans hf2)))
 have A4:=J0 (And.intro hs2 (V2.out.trans hf2))
 clear hs2 hf2 hz a0 a1 a2 a3 c1
 go_wp2
 go_ret
 exact⟨rfl,by rw[<- hS'.out];exact A4.out⟩
theorem Bkw(h:SC B w x s S)(hF:Fit S)(n:Int)(hnx:S.nx+512<=10000000000)(a:At) :
  Calls prog 177 #[.pointer (some ⟨x,0,none⟩),.int .i64 n,.agg #[.int .u32 a.f,.int .u32 a.b,.int .u16 a.g]] w (Aim B w x s (L3 S S.top n a) 0):=by
 have hb1:=A3 w (.cells #[.int .u32 a.f,.int .u32 a.b,.int .u16 a.g] 51)
 have hbx:=Block.made w 51 #[.int .u32 a.f,.int .u32 a.b,.int .u16 a.g]
 have E9:=Aeq (h.below hb1) hF.len
 have h1:=h.below hb1
 have htb:=hF.top
 obtain⟨af,ab,ag⟩:=a
 simp only at hb1 hbx E9 |-
 obtain⟨bx,D2⟩:∃bx,bx=w.heap.size:=⟨_,rfl⟩
 replace E9:=J0 E9
 clear h
 go_enter func177,ntmps177
 go_wp2_with((go_at_call 97;(with_reducible refine(E9.out).mono ?_);rintro e w' ⟨rfl,rfl⟩))
 generalize w.alloc (.cells #[.int .u32 af,.int .u32 ab,.int .u16 ag] 51)=w0 at hbx hb1 h1 |-
 rw[<- D2]at hbx |-
 replace D2:=J0 D2
 have hd0:Below w0.heap.size w0 w0.drew:=C7 (Below.refl _ _) 1
 have hS:∀w' S',SC B w' x s S'->S'.top=S.top->Fr B PT w0 w'->w'.cell? ⟨x,4,none⟩=some (.int .i64 S.top)/\w'.cell? ⟨bx,0,none⟩=some (.int .u32 af)/\w'.cell? ⟨bx,1,none⟩=some (.int .u32 ab)/\w'.cell? ⟨bx,2,none⟩=some (.int .u16 ag):=fun w' S' hs hb hf=>by
  have hbx':=Block.fr hbx hf (.inl (by decide))
  have:=hs.cells.2.2.2.2.1
  rw[hb]at this
  exact⟨this,hbx'.cell 0 rfl,hbx'.cell 1 rfl,hbx'.cell 2 rfl⟩
 obtain⟨a0,a1,a2,a3⟩:=hS _ _ h1 rfl (Fr.refl _ _ _)
 have c1:=hS _ _ (h1.below hd0) rfl (Fr.A1 hd0)
 have hch:=Blg (h1.below hd0) hF S.top htb n hnx ⟨af,ab,ag⟩
 have hpt:=J0 (fun w' hs=>hS w' (L3 S S.top n ⟨af,ab,ag⟩) hs rfl)
 have V2:Fr B PT w w0.drew:=(Fr.A1 hb1).trans (Fr.A1 hd0)
 have W1:Fr B PT w0 w0.drew:=Fr.A1 hd0
 obtain⟨S',hS'⟩:∃S',S'=L3 S S.top n ⟨af,ab,ag⟩:=⟨_,rfl⟩
 rw[<- hS']at hch hpt
 replace hS':=J0 hS'
 simp only at hch
 generalize S.top=tp at a0 c1 hpt hch
 replace hch:=J0 hch
 replace V2:=J0 V2
 replace W1:=J0 W1
 clear hS hbx h1 hb1 hd0 hF hnx htb
 go_region_held3 (fun w'=>w'.cell? ⟨x,4,none⟩=some (.int .i64 tp)/\w'.cell? ⟨bx,0,none⟩=some (.int .u32 af)/\w'.cell? ⟨bx,1,none⟩=some (.int .u32 ab)/\w'.cell? ⟨bx,2,none⟩=some (.int .u16 ag))
  (first|exact⟨a0,a1,a2,a3⟩|exact c1|exact hz)
  (first
   |(go_at_call 235;(with_reducible refine hch.out.mono ?_);rintro r w2 ⟨⟨v2,rfl⟩,hs2,hf2⟩;have hz:=hpt.out _ hs2 (W1.out.trans hf2)))
 have A4:=J0 (And.intro hs2 (V2.out.trans hf2))
 clear hs2 hf2 hz a0 a1 a2 a3 c1
 go_wp2
 go_ret
 exact⟨rfl,by rw[<- hS'.out];exact A4.out⟩
theorem Cov(h:SC B w x s S)(hF:Fit S)(at' n:Int)(hat:¬((S.top:Int)<=at'/\at'<=S.bot))(a:At) :
  Calls prog 245 #[.pointer (some ⟨x,0,none⟩),.int .i64 at',.int .i64 n,.agg #[.int .u32 a.f,.int .u32 a.b,.int .u16 a.g]] w (Aim B w x s S 2):=by
 have hb1:=A3 w (.cells #[.int .u32 a.f,.int .u32 a.b,.int .u16 a.g] 51)
 have E9:=Aeq (h.below hb1) hF.len
 have hw:=Aur (h.below hb1) at'
 rw[decide_eq_false hat]at hw
 have A4:=J0 (fun w' hb=>(⟨h.below hb,Fr.A1 hb⟩:SC B w' x s S/\Fr B PT w w'))
 obtain⟨af,ab,ag⟩:=a
 simp only at hb1 E9 hw |-
 replace E9:=J0 E9
 replace hw:=J0 hw
 replace hb1:=J0 hb1
 clear h hF hat
 go_enter func245,ntmps245
 go_wp2_with (first
  |(go_at_call 97;(with_reducible refine(E9.out).mono ?_);rintro e w' ⟨rfl,rfl⟩)
  |(go_at_call 272;(with_reducible refine(hw.out).mono ?_);rintro e w1 ⟨rfl,hbw⟩))
 go_ret
 exact⟨rfl,A4.out _ (A2 hb1.out hbw)⟩
theorem Cku(h:SC B w x s S)(hF:Fit S)(at':Nat)(n:Int)(h0:S.top<=at')(h1:at'<=S.bot)(hnx:S.nx+512<=10000000000)(a:At) :
  Calls prog 245 #[.pointer (some ⟨x,0,none⟩),.int .i64 at',.int .i64 n,.agg #[.int .u32 a.f,.int .u32 a.b,.int .u16 a.g]] w (Aim B w x s (L3 S at' n a) 0):=by
 have hb1:=A3 w (.cells #[.int .u32 a.f,.int .u32 a.b,.int .u16 a.g] 51)
 have hbx:=Block.made w 51 #[.int .u32 a.f,.int .u32 a.b,.int .u16 a.g]
 have E9:=Aeq (h.below hb1) hF.len
 have hw:=Aur (h.below hb1) at'
 rw[decide_eq_true (by omega)]at hw
 have hch:=fun w' hb=>Blg (h.below (w':=w') hb) hF at' h1 n hnx a
 obtain⟨af,ab,ag⟩:=a
 generalize L3 S at' n ⟨af,ab,ag⟩=S' at hch |-
 simp only at hb1 hbx E9 hw hch |-
 have hmf:=mkf
 replace E9:=J0 E9
 replace hw:=J0 hw
 replace hch:=J0 hch
 replace hb1:=J0 hb1
 obtain⟨bx,D2⟩:∃bx,bx=w.heap.size:=⟨_,rfl⟩
 clear h hF h0 h1 hnx
 go_enter func245,ntmps245
 go_wp2_with (first
  |(go_at_call 97;(with_reducible refine(E9.out).mono ?_);rintro e w' ⟨rfl,rfl⟩)
  |(go_at_call 272;(with_reducible refine(hw.out).mono ?_);rintro e w1 ⟨rfl,hbw⟩;have hb2:=hbx.only (A0.A1 hbw []) (by simp);have a0:=hb2.cell 0 rfl;have a1:=hb2.cell 1 rfl;have a2:=hb2.cell 2 rfl;have hbb:=A2 hb1.out hbw)
  |(go_at_call 235;(with_reducible refine(hch.out _ hbb).mono ?_);rintro r w2 ⟨⟨v2,rfl⟩,hs2,hf2⟩))
 go_ret
 exact⟨rfl,hs2,(Fr.A1 hbb).trans hf2⟩
theorem Cob(h:SC B w x s S)(hF:Fit S)(at' n:Int)(hat:¬((S.top:Int)<=at'/\at'<=S.bot))(a:At) :
  Calls prog 246 #[.pointer (some ⟨x,0,none⟩),.int .i64 at',.int .i64 n,.agg #[.int .u32 a.f,.int .u32 a.b,.int .u16 a.g]] w (Aim B w x s S 2):=by
 have hb1:=A3 w (.cells #[.int .u32 a.f,.int .u32 a.b,.int .u16 a.g] 51)
 have E9:=Aeq (h.below hb1) hF.len
 have hw:=Aur (h.below hb1) at'
 rw[decide_eq_false hat]at hw
 have A4:=J0 (fun w' hb=>(⟨h.below hb,Fr.A1 hb⟩:SC B w' x s S/\Fr B PT w w'))
 obtain⟨af,ab,ag⟩:=a
 simp only at hb1 E9 hw |-
 replace E9:=J0 E9
 replace hw:=J0 hw
 replace hb1:=J0 hb1
 clear h hF hat
 go_enter func246,ntmps246
 go_wp2_with (first
  |(go_at_call 97;(with_reducible refine(E9.out).mono ?_);rintro e w' ⟨rfl,rfl⟩)
  |(go_at_call 272;(with_reducible refine(hw.out).mono ?_);rintro e w1 ⟨rfl,hbw⟩))
 go_ret
 exact⟨rfl,A4.out _ (A2 hb1.out hbw)⟩
theorem Cjj(h:SC B w x s S)(hF:Fit S)(at':Nat)(n:Int)(h0:S.top<=at')(h1:at'<=S.bot)(hnx:S.nx+512<=10000000000)(a:At) :
  Calls prog 246 #[.pointer (some ⟨x,0,none⟩),.int .i64 at',.int .i64 n,.agg #[.int .u32 a.f,.int .u32 a.b,.int .u16 a.g]] w (Aim B w x s (upS S at' n a false) 0):=by
 have hb1:=A3 w (.cells #[.int .u32 a.f,.int .u32 a.b,.int .u16 a.g] 51)
 have hbx:=Block.made w 51 #[.int .u32 a.f,.int .u32 a.b,.int .u16 a.g]
 have E9:=Aeq (h.below hb1) hF.len
 have hw:=Aur (h.below hb1) at'
 rw[decide_eq_true (by omega)]at hw
 have hch:=fun w' hb=>Bdl (.inl ⟨rfl,rfl⟩) (h.below (w':=w') hb) hF at' h1 n hnx a
 obtain⟨af,ab,ag⟩:=a
 generalize upS S at' n ⟨af,ab,ag⟩ false=S' at hch |-
 simp only at hb1 hbx E9 hw hch |-
 have hmf:=mkf
 replace E9:=J0 E9
 replace hw:=J0 hw
 replace hch:=J0 hch
 replace hb1:=J0 hb1
 obtain⟨bx,D2⟩:∃bx,bx=w.heap.size:=⟨_,rfl⟩
 clear h hF h0 h1 hnx
 go_enter func246,ntmps246
 go_wp2_with (first
  |(go_at_call 97;(with_reducible refine(E9.out).mono ?_);rintro e w' ⟨rfl,rfl⟩)
  |(go_at_call 272;(with_reducible refine(hw.out).mono ?_);rintro e w1 ⟨rfl,hbw⟩;have hb2:=hbx.only (A0.A1 hbw []) (by simp);have a0:=hb2.cell 0 rfl;have a1:=hb2.cell 1 rfl;have a2:=hb2.cell 2 rfl;have hbb:=A2 hb1.out hbw)
  |(go_at_call 265;(with_reducible refine(hch.out _ hbb).mono ?_);rintro r w2 ⟨⟨v2,rfl⟩,hs2,hf2⟩))
 go_ret
 exact⟨rfl,hs2,(Fr.A1 hbb).trans hf2⟩
def Ali(S:Scr)(t b:Int):Prop:=(t=0/\b=(S.L.length:Int)-1)\/(0<=t/\t<b/\b<=(S.L.length:Int)-1)
instance (S:Scr) (t b:Int):Decidable (Ali S t b):=by unfold Ali;infer_instance
theorem Cpc(h:SC B w x s S)(h5:S.L.length<=512)(t b:Int):Calls prog 273 #[.pointer (some ⟨x,0,none⟩),.int .i64 t,.int .i64 b] w fun e w'=>e=.returned (.bool (decide (Ali S t b)))/\w=w':=by
 obtain⟨_,_,_,⟨ao,c,c3⟩,_,_⟩:=h.cells
 have hy:decide (Ali S t b)=true↔((t=0/\b=(S.L.length:Int)-1)\/(0<=t/\t<b/\b<=(S.L.length:Int)-1)):=decide_eq_true_iff
 generalize decide (Ali S t b)=y at hy |-
 generalize S.L.length=n at c3 h5 hy
 have hw:IntKind.i64.wrap ((n:Int)-1)=(n:Int)-1:=IntWalk.i64_in _ (by omega)
 replace hy:=J0 hy
 clear h
 go_enter func273,ntmps273
 go_wp2
 all_goals
  go_ret
  exact⟨G1 (by rw[Bool.eq_iff_iff,hy.out];simp<;>omega),rfl⟩
theorem Chu(h:SC B w x s S)(hF:Fit S)(t b:Nat)(hok:Ali S t b):Calls prog 247 #[.pointer (some ⟨x,0,none⟩),.int .i64 t,.int .i64 b] w (Aim B w x s { S with top:=t,bot:=b } 0):=by
 have E9:=J0 (Aeq h hF.len)
 have hm:=Cpc h hF.G8 t b
 rw[decide_eq_true hok]at hm
 obtain⟨_,_,_,_,c4,c5⟩:=h.cells
 have f4:=h.free 4
 have f5:=h.free 5
 have A4:=J0 (h.Avu t b)
 replace hm:=J0 hm
 generalize ({ S with top:=t,bot:=b }:Scr)=S' at A4 |-
 clear h hF hok
 go_enter func247,ntmps247
 go_wp2_with (first
  |(go_at_call 97;(with_reducible refine(E9.out).mono ?_);rintro e w' ⟨rfl,rfl⟩)
  |(go_at_call 273;(with_reducible refine(hm.out).mono ?_);rintro e w' ⟨rfl,rfl⟩))
 try go_region
 try go_wp2
 go_ret
 exact⟨rfl,A4.out⟩
end
section
variable {B:Zn}{w w':World}{x s:Nat}{S:Scr}
theorem Aux(n:Int)(w:World):Calls prog 74 #[.int .i64 n] w fun e w'=>e=.returned (.bool (decide (1<=n/\n<=512)))/\w=w':=by
 have hy:decide (1<=n/\n<=512)=true↔(1<=n/\n<=512):=decide_eq_true_iff
 generalize decide (1<=n/\n<=512)=y at hy |-
 replace hy:=J0 hy
 by_cases h1:1<=n
 ·go_enter func74,ntmps74
  go_wp2
  all_goals
   go_ret
   exact⟨G1 (by rw[Bool.eq_iff_iff,hy.out];simp<;>omega),rfl⟩
 ·have h2:decide (1<=n)=false:=decide_eq_false h1
  go_enter func74,ntmps74
  go_wp2
  all_goals
   go_ret
   exact⟨G1 (by symm;rw[Bool.eq_false_iff];intro h3;have:=hy.out.1 h3;omega),rfl⟩
end
section
variable {B:Zn}{w w':World}{x s nx most:Nat}{sv:Value}{R:List En}{S:Scr}
def W4(nx most rows cols:Nat)(kp:Bool)(R:List Ln):Scr:=Awy (chg { nx:=nx,most:=most,kp:=kp,cols:=cols,top:=0,bot:=0,L:=[],R:=R } 0 0 0 rows zeroAt false)
theorem Bck(nx most rows cols:Nat)(kp:Bool)(R:List Ln):(W4 nx most rows cols kp R).L=R5 nx cols rows zeroAt:=by
 show Z6 (P7 [] 0 0) 0 (R5 nx cols rows zeroAt)=_
 simp[Z6,P7]
theorem Cgh{nx most rows cols:Nat}{kp:Bool}{R:List Ln}(h1:1<=rows)(h5:rows<=512)(c1:1<=cols)(c5:cols<=512)(hn:1<=nx):Fit (W4 nx most rows cols kp R):=by
 have hL:=Bck nx most rows cols kp R
 have hl:(W4 nx most rows cols kp R).L.length=rows:=by rw[hL,Agy]
 have hb:(W4 nx most rows cols kp R).bot=(W4 nx most rows cols kp R).L.length-1:=rfl
 refine⟨by omega,by omega,by omega,Nat.zero_le _,c1,c5,fun p hp=>?_,fun p hp=>?_,Nat.le_trans hn (Nat.le_add_right _ _)⟩
 ·rw[hL]at hp
  exact(Atu hp).1
 ·rw[hL]at hp
  have:=Atu hp
  refine⟨by omega,?_⟩
  show p.1<((nx+rows:Nat):Int)
  omega
theorem Cct(h:SX 0 w s nx most sv R):Calls prog 75 #[.pointer (some ⟨s,0,none⟩)] w fun e w'=>e=.returned (.bool true)/\w=w':=by
 have hn:=J0 (Anf h)
 have hp:(0:Int)<(nx:Int):=by
  obtain⟨⟨o,P,h0,_⟩,_⟩:=h
  have:=h0.pos
  omega
 clear h
 go_enter func75,ntmps75
 go_wp2_with((go_at_call 101;(with_reducible refine(hn.out).mono ?_);rintro e w' ⟨rfl,rfl⟩))
 go_ret
 first|exact⟨rfl,rfl⟩|exact⟨G1 (decide_eq_true (by omega)),rfl⟩
theorem Ccu(w:World):Calls prog 75 #[.pointer none] w fun e w'=>e=.returned (.bool false)/\w=w':=by
 have hm:∀w,Calls prog 79 #[.pointer none] w fun e w'=>e=.returned (.bool false)/\w=w':=fun w=>by
  go_enter func79,ntmps79
  go_wp2
  go_ret
  exact⟨rfl,rfl⟩
 have hn:∀w,Calls prog 101 #[.pointer none] w fun e w'=>e=.returned (.int .i64 0)/\w=w':=fun w=>by
  replace hm:=J0 hm
  go_enter func101,ntmps101
  go_wp2_with((go_at_call 79;(with_reducible refine(hm.out _).mono ?_);rintro e w' ⟨rfl,rfl⟩))
  go_ret
  exact⟨rfl,rfl⟩
 replace hn:=J0 hn
 clear hm
 go_enter func75,ntmps75
 go_wp2_with((go_at_call 101;(with_reducible refine(hn.out _).mono ?_);rintro e w' ⟨rfl,rfl⟩))
 go_ret
 exact⟨rfl,rfl⟩
theorem Cmf(rows cols:Int)(p:Option Addr)(kp:Bool)(w:World)(hno:¬(1<=rows/\rows<=512)\/¬(1<=cols/\cols<=512)\/p=none):Calls prog 54 #[.int .i64 rows,.int .i64 cols,.pointer p,.bool kp] w fun e w'=>e=.returned (.tuple #[.pointer none,.int .i64 2])/\w=w':=by
 have h1:=fun w=>Aux rows w
 have h2:=fun w=>Aux cols w
 have h3:=J0 (fun w=>Ccu w)
 by_cases q1:1<=rows/\rows<=512
 ·rw[decide_eq_true q1]at h1
  by_cases q2:1<=cols/\cols<=512
  ·rw[decide_eq_true q2]at h2
   obtain rfl:p=none:=by
    rcases hno with h|h|h
    ·exact absurd q1 h
    ·exact absurd q2 h
    ·exact h
   replace h1:=J0 h1
   replace h2:=J0 h2
   clear hno q1 q2
   go_enter func54,ntmps54
   go_wp2_with (first
    |(go_at_call 74;(with_reducible refine(h1.out _).mono ?_);rintro e w' ⟨rfl,rfl⟩)
    |(go_at_call 74;(with_reducible refine(h2.out _).mono ?_);rintro e w' ⟨rfl,rfl⟩)
    |(go_at_call 75;(with_reducible refine(h3.out _).mono ?_);rintro e w' ⟨rfl,rfl⟩))
   go_ret2
   exact⟨rfl,rfl⟩
  ·rw[decide_eq_false q2]at h2
   replace h1:=J0 h1
   replace h2:=J0 h2
   clear hno q1 q2
   go_enter func54,ntmps54
   go_wp2_with (first
    |(go_at_call 74;(with_reducible refine(h1.out _).mono ?_);rintro e w' ⟨rfl,rfl⟩)
    |(go_at_call 74;(with_reducible refine(h2.out _).mono ?_);rintro e w' ⟨rfl,rfl⟩))
   go_ret2
   exact⟨rfl,rfl⟩
 ·rw[decide_eq_false q1]at h1
  replace h1:=J0 h1
  clear hno q1 h2
  go_enter func54,ntmps54
  go_wp2_with (first
   |(go_at_call 74;(with_reducible refine(h1.out _).mono ?_);rintro e w' ⟨rfl,rfl⟩))
  go_ret2
  exact⟨rfl,rfl⟩
theorem Bkj(h:SX 0 w s nx most sv R)(hz:B s/\(∀g,sv.ownBlock=some g->B g)/\(∀e∈R,B e.d/\B e.g)/\∀k,w.heap.size<=k->B k)(hd:(R.map En.d).Nodup)(hg:(R.map En.g).Nodup)(rows cols:Nat)(kp:Bool)(hr1:1<=rows)(hr5:rows<=512)(hc1:1<=cols)(hc5:cols<=512)(hnx:nx+512<=10000000000) :
  Calls prog 54 #[.int .i64 rows,.int .i64 cols,.pointer (some ⟨s,0,none⟩),.bool kp] w fun e w'=>e=.returned (.tuple #[.pointer (some ⟨w.heap.size,0,none⟩),.int .i64 0])/\SC B w' w.heap.size s (W4 nx most rows cols kp (vw R))/\Fr B PT w w':=by
 have h1:=fun w=>Aux rows w
 rw[decide_eq_true (by omega)]at h1
 have h2:=fun w=>Aux cols w
 rw[decide_eq_true (by omega)]at h2
 have h3:=Cct h
 have hb:=A3 w (.cells #[.pointer (some ⟨s,0,none⟩),.bool kp,.int .i64 cols,.slice none 0 0,.int .i64 0,.int .i64 0] 168)
 have hBw:LoX B (w.alloc (.cells #[.pointer (some ⟨s,0,none⟩),.bool kp,.int .i64 cols,.slice none 0 0,.int .i64 0,.int .i64 0] 168)) w.heap.size s sv (.slice none 0 0) R :=
  ⟨hz.2.2.2 _ (J5 _),hz.1,fun g hg=>(by cases hg),hz.2.1,hz.2.2.1,fun k hk=>hz.2.2.2 k (Nat.le_trans hb.size hk)⟩
 have Aou:=fun g hg=>(h.Aci g hg).2.1
 have hS0:SC B (w.alloc (.cells #[.pointer (some ⟨s,0,none⟩),.bool kp,.int .i64 cols,.slice none 0 0,.int .i64 0,.int .i64 0] 168)) w.heap.size s { nx:=nx,most:=most,kp:=kp,cols:=cols,top:=0,bot:=0,L:=[],R:=vw R } :=
  ⟨sv,.slice none 0 0,[],R,⟨⟨Block.made w _ _,World.ownsRow_nil _ _ _ _,h.below hb,fun g hg=>(by cases hg),hBw,by simp⟩,by simp,by simp,by simpa using hd,by simpa using hg⟩,rfl,rfl⟩
 have hch:=Bcf (.inl ⟨rfl,rfl⟩) hS0 0 0 0 rows (by simp) (by simp) (by simp;omega) (by show nx+rows<=_;omega) hc1 hc5 zeroAt (fun e=>nomatch e)
 have hch':Calls prog 76 #[.pointer (some ⟨w.heap.size,0,none⟩),.agg #[.int .i64 0,.int .i64 0],.agg #[.int .i64 0,.int .i64 rows],.agg #[.int .u32 0,.int .u32 0,.int .u16 0],.func (.func 77) #[.pointer (some ⟨w.heap.size,0,none⟩)] #[]] (w.alloc (.cells #[.pointer (some ⟨s,0,none⟩),.bool kp,.int .i64 cols,.slice none 0 0,.int .i64 0,.int .i64 0] 168)) (Did B _ w.heap.size s _):=hch
 clear hch
 have hcl:(chg { nx:=nx,most:=most,kp:=kp,cols:=cols,top:=0,bot:=0,L:=[],R:=vw R } 0 0 0 rows zeroAt false).L.length=rows:=by rw[Avk (by simp)];simp
 have hm:=fun w' (hs:SC B w' w.heap.size s (chg { nx:=nx,most:=most,kp:=kp,cols:=cols,top:=0,bot:=0,L:=[],R:=vw R } 0 0 0 rows zeroAt false))=>Clb hs (by omega) (by omega)
 unfold W4
 generalize chg { nx:=nx,most:=most,kp:=kp,cols:=cols,top:=0,bot:=0,L:=[],R:=vw R } 0 0 0 rows zeroAt false=S1 at hch' hm hcl |-
 generalize Awy S1=S2 at hm |-
 have hmf:=mkf
 replace h1:=J0 h1
 replace h2:=J0 h2
 replace h3:=J0 h3
 replace hm:=J0 hm
 replace hch':=J0 hch'
 replace hb:=J0 hb
 clear h hd hg hS0 hr1 hr5 hc1 hc5 hnx Aou hcl
 go_enter func54,ntmps54
 go_wp2_with (first
  |(go_at_call 74;(with_reducible refine(h1.out _).mono ?_);rintro e w' ⟨rfl,rfl⟩)
  |(go_at_call 74;(with_reducible refine(h2.out _).mono ?_);rintro e w' ⟨rfl,rfl⟩)
  |(go_at_call 75;(with_reducible refine(h3.out).mono ?_);rintro e w' ⟨rfl,rfl⟩)
  |(go_at_call 76;(with_reducible refine hch'.out.mono ?_);rintro r w2 ⟨⟨v2,rfl⟩,hs2,hf2⟩)
  |(go_at_call 78;(with_reducible refine(hm.out _ hs2).mono ?_);rintro r w3 ⟨⟨v3,rfl⟩,hs3,hf3⟩))
 go_ret2
 exact⟨rfl,hs3,((Fr.A1 hb.out).trans hf2).trans hf3⟩
end
