/- Part 11 of HostSplits. -/
import Derived.Test.YtecnpoigegiooaaGreatDoorP10
import Derived.Laws.Cover4
set_option maxHeartbeats 16000000
set_option maxRecDepth 100000
namespace Go.Proofs.YtecnpoigegiooaaGreatDoor.Lns
open Go RowKit Com Rw
section
variable {B:Nat}{w w':World}{s nx most o:Nat}{sv:Value}{P R:List En}
def PutDone (B:Nat) (w:World) (s nx most:Nat) (sv:Value) (R:List En) (w':World):Prop :=
 ∃sv' o' P',SX0 B w' s nx most sv' o' P'/\lg P' o'=R/\Only (s::sv.ownBlock.toList) w w'/\(sv'.ownBlock=sv.ownBlock\/∃g,sv'.ownBlock=some g/\w.heap.size<=g)
theorem PutDone.pre {w1:World} (h:PutDone B w1 s nx most sv R w') (hb:Below w.heap.size w w1):PutDone B w s nx most sv R w':=by
 obtain⟨sv',o',P',h1,h2,h3,h4⟩:=h
 refine⟨sv',o',P',h1,h2,(Only.of_below hb _).trans h3,h4.imp id fun ⟨g,e,hg⟩=>⟨g,e,Nat.le_trans hb.size hg⟩⟩
theorem put_more (h:SX0 B w s nx most sv o P) (hlt:P.length<most) (e0:En) {w1 w2:World} {sv':Value} (hb:Below w.heap.size w w1) (hown:w2.ownsRow B 188 2 sv' (P.length+1) (fl Ac3 P++Ac3 e0)) (ho:Only sv.ownBlock.toList w1 w2) (hat:sv'.ownBlock=sv.ownBlock\/sv'.ownBlock=some w1.heap.size) :
  PutDone B w s nx most sv (Ai5 most (lg P o) e0) (w2.setCell ⟨s,2,none⟩ sv'):=by
 obtain rfl:=h.old hlt
 have h1:=h.only (Only.of_below hb []) (by simp) (by simp)
 have hs2:s∉sv.ownBlock.toList:=Bx1 (Block.typ h1.blk) h1.own (by decide)
 have hb2:=h1.blk.only ho hs2
 have ho3:Only [s] w2 (w2.setCell ⟨s,2,none⟩ sv'):=Only.setCell w2 ⟨s,2,none⟩ _
 refine⟨sv',0,P++[e0],⟨hb2.set 2 sv',?_,?_,fun _=>rfl,.inr rfl,h.most,h.pos,h.small,h.lo⟩,?_,?_,?_⟩
 ·rw[List.length_append,List.length_singleton,fl_app,fl_one]
  exact Af0 hown ho3 (fun g hg=>Ad9 (Ab9 hown g hg) (Block.typ hb2) (by decide))
 ·simp;omega
 ·rw[lg_0,lg_0]
  unfold Ai5
  rw[if_neg (by omega)]
 ·exact((Only.of_below hb _).trans (ho.mono (by simp +contextual))).trans (ho3.mono (by simp))
 ·exact hat.imp id fun e=>⟨_,e,hb.size⟩
theorem put_room (h:SX0 B w s nx most sv o P) (hlt:P.length<most) (e0:En):Calls Tryz.prog 303 #[.pointer (some ⟨s,1,none⟩),.agg (Ac3 e0).toArray] w fun e w'=>(∃v,e=.returned v)/\PutDone B w s nx most sv (Ai5 most (lg P o) e0) w':=by
 have hle:=Nat.le_trans h.le h.most
 have hbx:=fun q=>(Block.made w 188 #[.int .i64 e0.id,.pointer (some ⟨e0.d,0,none⟩)]).only (Only.drewN [] _ q) (by simp)
 have hbl:=fun q=>Aa4 (Aa1 w (.cells #[.int .i64 e0.id,.pointer (some ⟨e0.d,0,none⟩)] 188)) q
 have h1:=fun q=>h.only (Only.of_below (hbl q) []) (by simp) (by simp)
 have hc:=fun q=>Ad5 (h1 q)
 have hcs:=(h.only (Only.of_below (Aa1 w (.cells #[.int .i64 e0.id,.pointer (some ⟨e0.d,0,none⟩)] 188)) []) (by simp) (by simp)).cells
 obtain⟨_,k1,_,_⟩:=hcs
 have hli:((P.length:Int)<(most:Int)):=by omega
 have hmore:=fun w1 w2 sv' (hb:Below w.heap.size w w1)=>put_more (w1:=w1) (w2:=w2) (sv':=sv') h hlt e0 hb
 have hC:(Ac3 e0).toArray=#[.int .i64 e0.id,.pointer (some ⟨e0.d,0,none⟩)]:=rfl
 rw[hC]
 obtain⟨ao,c,rfl,_⟩:=h.len
 have hsv:=Nat.lt_of_le_of_lt h.lo h.blk.lt
 obtain⟨n,hn⟩:∃n,P.length=n:=⟨_,rfl⟩
 rw[hn] at hle hc hli
 replace hn:=J0 hn
 replace hc:=J0 hc
 replace h1:=J0 h1
 replace hmore:=J0 hmore
 replace hbx:=J0 hbx
 replace hbl:=J0 hbl
 clear h
 go_enter Tryz.func303,Tryz.ntmps303
 go_wp2
 go_quiet ((go_at_call 143;with_reducible exact Ae5 (hc.out _)))
 go_wp2
 have hb0:=hbx.out nq
 have hl0:=hbl.out nq
 obtain⟨bx,hbxe⟩:∃bx,bx=w.heap.size:=⟨_,rfl⟩
 rw[<- hbxe] at hb0
 rw[<- hbxe]
 replace hbxe:=J0 hbxe
 have hs0:=h1.out nq
 clear hc hbx hbl h1 k1
 generalize (w.alloc (.cells #[.int .i64 e0.id,.pointer (some ⟨e0.d,0,none⟩)] 188)).drewN nq=w0 at hb0 hl0 hs0 |-
 obtain⟨_,_,k2,_⟩:=hs0.cells
 have b0:=hb0.cell 0 rfl
 have b1:=hb0.cell 1 rfl
 have hd0:Below w0.heap.size w0 w0.drew:=Aa4 (Below.refl _ _) 1
 have hd1:=hd0.alloc (J5 _) (.cells #[.int .i64 e0.id,.pointer (some ⟨e0.d,0,none⟩)] 188)
 have hs1:=hs0.only (Only.of_below hd1 []) (by simp) (by simp)
 have hown:=hs1.own
 have hblk:=hs1.blk
 have hpn:P.length=n:=hn.out
 have ka:=(hs0.blk.only (Only.alloc [] w0 (.cells #[.int .i64 e0.id,.pointer (some ⟨e0.d,0,none⟩)] 188)) (by simp)).cell 2 rfl
 rw[hpn] at hown k2 ka
 have hsO:s∉(Value.slice ao n c).ownBlock.toList:=Bx1 (Block.typ hblk) hown (by decide)
 have hln:∀j u,(Ac3 e0)[j]?=some u->(w0.drew.alloc (.cells #[.int .i64 e0.id,.pointer (some ⟨e0.d,0,none⟩)] 188)).cell? ((⟨w0.heap.size,0,none⟩:Addr).add j)=some u:=fun j u hj=>by
  rw[Addr.add_lit,Nat.zero_add]
  exact(Block.made w0.drew 188 #[.int .i64 e0.id,.pointer (some ⟨e0.d,0,none⟩)]).cell j (by simpa[Ac3] using hj)
 have hBs:B<=w0.heap.size:=Nat.le_trans hs0.lo (Nat.le_of_lt hs0.blk.lt)
 replace hown:=J0 hown
 replace hblk:=J0 hblk
 replace hsO:=J0 hsO
 replace hln:=J0 hln
 have hfin:=fun w2 sv'=>hmore.out _ w2 sv' (Aa0 hl0 hd1)
 rw[hpn] at hfin
 replace hfin:=J0 hfin
 clear hs1 hs0 hmore hl0 hd0 hd1 hb0 hpn
 go_region_law (first
  |(refine Bv5 Cs3 rfl (.tmp 16) (.tmp 18) rfl B (.slice ao n c) n (fl Ac3 P) ⟨w0.heap.size,0,none⟩ 1 1 (Ac3 e0) rfl rfl hown.out rfl hln.out (Bt4 e0) (by simp;omega) (by omega) ?_;intro sv2 w2 hown2 ho2 hat2;have hb2:=hblk.out.only ho2 hsO.out;have k2':=hb2.cell 2 rfl;have f2:=hb2.free 2;obtain⟨a2,c2,rfl,_⟩:=Ab3 hown2))
 all_goals
  have hres:=J0 (hfin.out _ _ hown2 ho2 hat2)
  clear hown2 ho2 hat2 hb2
  go_wp2
  go_end0
  exact⟨⟨_,rfl⟩,by rw[hn.out];exact hres.out⟩
theorem Cq6 (o:Nat):lg ([]:List En) o=[]:=by simp[lg]
theorem put_none (h:SX0 B w s nx 0 sv o P) (e0:En):Calls Tryz.prog 303 #[.pointer (some ⟨s,1,none⟩),.agg (Ac3 e0).toArray] w fun e w'=>(∃v,e=.returned v)/\PutDone B w s nx 0 sv (Ai5 0 (lg P o) e0) w':=by
 obtain rfl:P=[]:=List.eq_nil_of_length_eq_zero (by have:=h.le;omega)
 have hbl:=fun q=>Aa4 (Aa1 w (.cells #[.int .i64 e0.id,.pointer (some ⟨e0.d,0,none⟩)] 188)) q
 have h1:=fun q=>h.only (Only.of_below (hbl q) []) (by simp) (by simp)
 have hc:=fun q=>Ad5 (h1 q)
 obtain⟨_,k1,_,_⟩:=(h.only (Only.of_below (Aa1 w (.cells #[.int .i64 e0.id,.pointer (some ⟨e0.d,0,none⟩)] 188)) []) (by simp) (by simp)).cells
 have hC:(Ac3 e0).toArray=#[.int .i64 e0.id,.pointer (some ⟨e0.d,0,none⟩)]:=rfl
 rw[hC,Cq6]
 simp only[List.length_nil] at hc
 have hres:=fun q=>(⟨sv,o,[],h1 q,by rw[Cq6];rfl,Only.of_below (hbl q) _,.inl rfl⟩:PutDone B w s nx 0 sv (Ai5 0 [] e0) _)
 replace hc:=J0 hc
 replace hres:=J0 hres
 clear h h1 hbl hC
 go_enter Tryz.func303,Tryz.ntmps303
 go_wp2
 go_quiet ((go_at_call 143;with_reducible exact Ae5 (hc.out _)))
 go_wp2
 go_end0
 exact⟨⟨_,rfl⟩,hres.out _⟩
theorem put_mid (h:SX0 B w s nx most sv o P) (ho:o<P.length) (e0:En) {g c:Nat} (hsv:sv=.slice (some ⟨g,0,none⟩) P.length c) :
  SX0 B ((w.setCell ⟨g,o*2,none⟩ (.int .i64 e0.id)).setCell ⟨g,o*2+1,none⟩ (.pointer (some ⟨e0.d,0,none⟩))) s nx most sv o (P.set o e0)/\Only sv.ownBlock.toList w ((w.setCell ⟨g,o*2,none⟩ (.int .i64 e0.id)).setCell ⟨g,o*2+1,none⟩ (.pointer (some ⟨e0.d,0,none⟩))):=by
 have hs2:s∉sv.ownBlock.toList:=Bx1 (Block.typ h.blk) h.own (by decide)
 have hown:=h.own
 rw[hsv] at hown hs2
 obtain⟨o1,_⟩:=World.ownsRow.stored hown (o*2) (.int .i64 e0.id)
 obtain⟨o2,_⟩:=World.ownsRow.stored o1 (o*2+1) (.pointer (some ⟨e0.d,0,none⟩))
 rw[<- fl_set2 P o e0 ho] at o2
 have ho2:Only [g] w ((w.setCell ⟨g,o*2,none⟩ (.int .i64 e0.id)).setCell ⟨g,o*2+1,none⟩ (.pointer (some ⟨e0.d,0,none⟩))):=(Only.setCell w ⟨g,o*2,none⟩ _).trans (Only.setCell _ ⟨g,o*2+1,none⟩ _)
 have hsg:s∉[g]:=by simpa[Value.ownBlock] using hs2
 have hle:=h.le
 refine⟨⟨h.blk.only ho2 hsg,by rw[List.length_set,hsv];exact o2,by rw[List.length_set];exact hle,fun hh=>h.old (by rwa [List.length_set] at hh),by rw[List.length_set];exact h.olt,h.most,h.pos,h.small,h.lo⟩,?_⟩
 rw[hsv]
 exact ho2.mono (by simp[Value.ownBlock])
theorem put_over (h:SX0 B w s nx most sv o P) (ho:o<P.length) (hful:most<=P.length) (e0:En) {w1:World} (h1:SX0 B w1 s nx most sv o (P.set o e0)) (hO:Only sv.ownBlock.toList w w1) :
  PutDone B w s nx most sv (Ai5 most (lg P o) e0) (w1.setCell ⟨s,3,none⟩ (.int .i64 ((o+1) % P.length:Nat))):=by
 have ho3:Only [s] w1 (w1.setCell ⟨s,3,none⟩ (.int .i64 ((o+1) % P.length:Nat))):=Only.setCell w1 ⟨s,3,none⟩ _
 have hle:=h.le
 have hpo:=lg_put P ho e0
 have hlg:=Ca5 P o
 have hmod:(o+1) % P.length<P.length:=Nat.mod_lt _ (by omega)
 refine⟨sv,(o+1) % P.length,P.set o e0,⟨h1.blk.set 3 _,Af0 h1.own ho3 (fun g' hg=>Ad9 (Ab9 h1.own g' hg) (Block.typ h1.blk) (by decide)),h1.le,fun hh=>by rw[List.length_set] at hh;omega,by rw[List.length_set];exact .inl hmod,h.most,h.pos,h.small,h.lo⟩,?_,?_,.inl rfl⟩
 ·rw[hpo]
  unfold Ai5
  rw[if_pos (by omega)]
 ·exact(hO.mono (by simp +contextual)).trans (ho3.mono (by simp))
theorem put_full (h:SX0 B w s nx most sv o P) (hpos:0<P.length) (hful:most<=P.length) (e0:En):Calls Tryz.prog 303 #[.pointer (some ⟨s,1,none⟩),.agg (Ac3 e0).toArray] w fun e w'=>(∃v,e=.returned v)/\PutDone B w s nx most sv (Ai5 most (lg P o) e0) w':=by
 have hle:=Nat.le_trans h.le h.most
 have hle1:=h.le
 have ho:o<P.length:=by have:=h.olt;omega
 have hbx:=fun q=>(Block.made w 188 #[.int .i64 e0.id,.pointer (some ⟨e0.d,0,none⟩)]).only (Only.drewN [] _ q) (by simp)
 have hbl:=fun q=>Aa4 (Aa1 w (.cells #[.int .i64 e0.id,.pointer (some ⟨e0.d,0,none⟩)] 188)) q
 have h1:=fun q=>h.only (Only.of_below (hbl q) []) (by simp) (by simp)
 have hc:=fun q=>Ad5 (h1 q)
 obtain⟨_,k1,_,_⟩:=(h.only (Only.of_below (Aa1 w (.cells #[.int .i64 e0.id,.pointer (some ⟨e0.d,0,none⟩)] 188)) []) (by simp) (by simp)).cells
 have hC:(Ac3 e0).toArray=#[.int .i64 e0.id,.pointer (some ⟨e0.d,0,none⟩)]:=rfl
 rw[hC]
 obtain⟨n,hn⟩:∃n,P.length=n:=⟨_,rfl⟩
 rw[hn] at hle hc hpos hful hle1 ho
 obtain rfl:most=n:=by omega
 replace hn:=J0 hn
 replace hc:=J0 hc
 replace h1:=J0 h1
 replace hbx:=J0 hbx
 replace hbl:=J0 hbl
 clear h
 go_enter Tryz.func303,Tryz.ntmps303
 go_wp2
 go_quiet ((go_at_call 143;with_reducible exact Ae5 (hc.out _)))
 have hb0:=hbx.out nq
 have hl0:=hbl.out nq
 obtain⟨bx,hbxe⟩:∃bx,bx=w.heap.size:=⟨_,rfl⟩
 rw[<- hbxe] at hb0
 have hs0:=h1.out nq
 have k1':=hs0.blk.cell 1 rfl
 clear hc hbx hbl h1 k1
 rw[<- hbxe]
 replace hbxe:=J0 hbxe
 generalize (w.alloc (.cells #[.int .i64 e0.id,.pointer (some ⟨e0.d,0,none⟩)] 188)).drewN nq=w0 at hb0 hl0 hs0 k1' |-
 obtain⟨g,c,hsv,hcc,hcm,p0,p1⟩:=hs0.place (i:=o) (by have:=hn.out;omega)
 obtain⟨_,_,k2,k3⟩:=hs0.cells
 have b0:=hb0.cell 0 rfl
 have b1:=hb0.cell 1 rfl
 have fg:∀j,w0.frozen? ⟨g,j,none⟩=false:=fun j=>World.ownsRow.frozenAt (hsv▸hs0.own) j
 have hmid:=put_mid hs0 (by rw[hn.out];exact ho) e0 hsv
 have hfin:=fun w1 h1 hO=>(put_over (w1:=w1) hs0 (by rw[hn.out];exact ho) (by rw[hn.out];omega) e0 h1 hO).pre hl0
 have hpl:=fun w1 (h1:SX0 B w1 s nx most sv o (P.set o e0))=>Ah7 h1 1 (by omega) (by rw[List.length_set,hn.out];omega)
 simp only[List.length_set] at hpl
 rw[hn.out] at hsv hpl hfin
 have h30:=hs0.blk.cell 3 rfl
 subst hsv
 have f0:=fg (o*2)
 have f1:=fg (o*2+1)
 replace hmid:=J0 hmid
 replace hfin:=J0 hfin
 replace hpl:=J0 hpl
 replace hs0:=J0 hs0
 clear fg hb0 hl0
 go_wp2
 go_region
 obtain⟨hm1,hO1⟩:=hmid.out
 have hm2:=hm1.only (Ab2 [] _) (by simp) (by simp)
 have hO2:=hO1.trans (Ab2 _ _)
 clear hm1 hO1 hmid
 generalize ((w0.setCell ⟨g,o*2,none⟩ (.int .i64 e0.id)).setCell ⟨g,o*2+1,none⟩ (.pointer (some ⟨e0.d,0,none⟩))).drew=w2 at hm2 hO2 |-
 have hp2:=hpl.out w2 hm2
 rw[show ((1:Nat):Int)=1 from rfl] at hp2
 replace hp2:=J0 hp2
 obtain⟨k,hk⟩:∃k,k=(o+1) % most:=⟨_,rfl⟩
 rw[<- hk] at hp2
 replace hk:=J0 hk
 replace hm2:=J0 hm2
 replace hO2:=J0 hO2
 go_wp2_with ((go_at_call 208;(with_reducible refine(hp2.out).mono ?_);rintro e w3 ⟨rfl,q,rfl⟩;have hm3:=hm2.out.drew q;have k3':=hm3.blk.cell 3 rfl;have f3:=hm3.blk.free 3))
 have hres:=hfin.out _ hm3 (hO2.out.trans (Only.drewN _ _ _))
 rw[<- hk.out] at hres
 replace hres:=J0 hres
 clear hm3
 go_wp2
 go_end0
 exact⟨⟨_,rfl⟩,hres.out⟩
theorem put_any (h:SX0 B w s nx most sv o P) (e0:En):Calls Tryz.prog 303 #[.pointer (some ⟨s,1,none⟩),.agg (Ac3 e0).toArray] w fun e w'=>(∃v,e=.returned v)/\PutDone B w s nx most sv (Ai5 most (lg P o) e0) w':=by
 by_cases h1:P.length<most
 ·exact put_room h h1 e0
 ·by_cases h2:0<P.length
  ·exact put_full h h2 (by omega) e0
  ·obtain rfl:most=0:=by omega
   exact put_none h e0
end
section
variable {B:Nat}{w w':World}{s nx most o:Nat}{sv:Value}{P R:List En}
theorem owns_lower {w:World} {B B':Nat} {e:TypeId} {s n:Nat} {v:Value} {xs:List Value} (h:w.ownsRow B e s v n xs) (hB:B'<=B):w.ownsRow B' e s v n xs:=by
 refine⟨h.1,?_⟩
 rcases h.2 with h2|⟨g,cap,cur,rfl,hg,r⟩
 ·exact .inl h2
 ·exact .inr ⟨g,cap,cur,rfl,by omega,r⟩
end
end Go.Proofs.YtecnpoigegiooaaGreatDoor.Lns
namespace Go.Proofs.YtecnpoigegiooaaGreatDoor.Rw
open Go RowKit Com
theorem Api.load {B:Nat} {w:World} {g n cap:Nat} {ps:List (Cel×Value)} (h:Api B w (.slice (some ⟨g,0,none⟩) n cap) ps) {i:Nat} (hi:i<ps.length):∀j v,(apiP ps[i])[j]?=some v->w.cell? ((⟨g,i*6,none⟩:Addr).add j)=some v:=by
 intro j v hj
 have hj6:=(List.getElem?_eq_some_iff.1 hj).1
 rw[Ae8] at hj6
 have e:=Bn4 Ae8 hi hj6
 rw[hj] at e
 have hlt:i*6+j<ps.length*6:=by omega
 rcases h.own.2 with ⟨h0,_⟩|⟨g',cap',cur,e',_,hg,_,_,_,ht⟩
 ·cases h0
 ·simp only[Value.slice.injEq,Option.some.injEq,Addr.mk.injEq,and_true] at e'
  obtain⟨rfl,rfl,rfl⟩:=e'
  rw[Addr.add_lit,cell_of_row w g _ cur _ (0,0) hg]
  rw[<- ht,List.getElem?_take,if_pos hlt] at e
  simpa using e
end Go.Proofs.YtecnpoigegiooaaGreatDoor.Rw
namespace Go.Proofs.YtecnpoigegiooaaGreatDoor.Lns
open Go RowKit Com Rw
section
variable {B:Nat}{w w':World}{s nx most o:Nat}{sv:Value}{P R:List En}
theorem new_no (most:Int) (h:most<0\/10000<most) (w:World):Calls Tryz.prog 34 #[.int .i64 most] w fun e w'=>e=.returned (.tuple #[.pointer none,.int .i64 2])/\w=w':=by
 by_cases h0:most<0
 ·go_enter Tryz.func34,Tryz.ntmps34
  go_wp2
  go_ret2
  exact⟨rfl,rfl⟩
 ·have h1:10000<most:=by omega
  go_enter Tryz.func34,Tryz.ntmps34
  go_wp2
  go_ret2
  exact⟨rfl,rfl⟩
theorem new_yes (most:Nat) (h:most<=10000) (w:World):Calls Tryz.prog 34 #[.int .i64 most] w fun e w'=>e=.returned (.tuple #[.pointer (some ⟨w.heap.size,0,none⟩),.int .i64 0])/\SX w.heap.size w' w.heap.size 1 most (.slice none 0 0) []/\Below w.heap.size w w':=by
 have h0:¬(most:Int)<0:=by omega
 have h1:¬10000<(most:Int):=by omega
 have h0':=decide_eq_false h0
 have h1':=decide_eq_false h1
 go_enter Tryz.func34,Tryz.ntmps34
 go_wp2
 go_ret2
 exact⟨rfl,⟨⟨0,[],⟨Block.made w _ _,World.ownsRow_nil _ _ _ _,by simp,fun _=>rfl,.inr rfl,h,by decide,by decide,J5 _⟩,by simp[lg]⟩,by simp⟩,Aa1 _ _⟩
theorem next_any (h:SX B w s nx most sv R):Calls Tryz.prog 101 #[.pointer (some ⟨s,0,none⟩)] w fun e w'=>e=.returned (.int .i64 nx)/\w=w':=by
 obtain⟨⟨o,P,h0,rfl⟩,_⟩:=h
 have hm:=J0 (Aw7 h0)
 obtain⟨h1,_,_,_⟩:=h0.cells
 clear h0
 go_enter Tryz.func101,Tryz.ntmps101
 go_wp2_with ((go_at_call 79;(with_reducible refine(hm.out).mono ?_);rintro e w' ⟨rfl,rfl⟩))
 go_ret
 exact⟨rfl,rfl⟩
theorem slen_any (h:SX B w s nx most sv R):Calls Tryz.prog 94 #[.pointer (some ⟨s,0,none⟩)] w fun e w'=>e=.returned (.int .i64 R.length)/\w=w':=by
 obtain⟨⟨o,P,h0,rfl⟩,_⟩:=h
 have hm:=J0 (Aw7 h0)
 have hc:=J0 (Ad5 h0)
 rw[Ca5]
 clear h0
 go_enter Tryz.func94,Tryz.ntmps94
 go_wp2_with (first
  |(go_at_call 79;(with_reducible refine(hm.out).mono ?_);rintro e w' ⟨rfl,rfl⟩)
  |(go_at_call 143;(with_reducible refine(hc.out).mono ?_);rintro e w' ⟨rfl,rfl⟩))
 go_ret
 exact⟨rfl,rfl⟩
theorem sclear_any (h:SX B w s nx most sv R):Calls Tryz.prog 55 #[.pointer (some ⟨s,0,none⟩)] w fun e w'=>e=.returned (.int .i64 0)/\SX B w' s nx most (.slice none 0 0) []/\Only [s] w w':=by
 obtain⟨⟨o,P,h0,rfl⟩,_⟩:=h
 have hm:=J0 (Aw7 h0)
 have hc:=J0 (empty_any h0)
 clear h0
 go_enter Tryz.func55,Tryz.ntmps55
 go_wp2_with (first
  |(go_at_call 79;(with_reducible refine(hm.out).mono ?_);rintro e w' ⟨rfl,rfl⟩)
  |(go_at_call 80;(with_reducible refine(hc.out).mono ?_);rintro e w1 ⟨⟨v,rfl⟩,h1,h2⟩))
 go_ret
 exact⟨rfl,⟨⟨0,[],h1,by simp[lg]⟩,by simp⟩,h2⟩
end
section
variable {B:Nat}{w w':World}{s nx most o:Nat}{sv:Value}{P R:List En}
theorem _root_.Go.Proofs.YtecnpoigegiooaaGreatDoor.Rw.Api.other {B:Nat} {w w':World} {v:Value} {ps:List (Cel×Value)} (h:Api B w v ps) {k:Nat} {t:TypeId} (ho:Only [k] w w') (ht:Typ w k t) (h1:57≠t) (h2:21≠t):Api B w' v ps :=
 h.fr (Fr.of_only (B:=0) (ts:=[t]) ho (fun x hx _=>by
  obtain rfl:x=k:=by simpa using hx
  exact⟨Nat.zero_le _,t,by simp,ht⟩)) (by simpa using h1) (by simpa using h2)
def AtDone (w:World) (e0:En) (e:Ending) (w':World):Prop:=∃g2 ps,e=.returned (.tuple #[.agg #[.int .i64 e0.id,.slice (some ⟨g2,0,none⟩) e0.l.length e0.l.length],.int .i64 0])/\Api w.heap.size w' (.slice (some ⟨g2,0,none⟩) e0.l.length e0.l.length) ps/\ps.map (·.1)=e0.l/\Below w.heap.size w w'/\w.heap.size<=g2
theorem at_yes (h:SX B w s nx most sv R) (i:Nat) (hi:i<R.length):Calls Tryz.prog 95 #[.pointer (some ⟨s,0,none⟩),.int .i64 i] w (AtDone w R[i]):=by
 obtain⟨⟨o,P,h0,rfl⟩,hg⟩:=h
 have hi':i<P.length:=by rwa [Ca5] at hi
 have hbn:=Aa1 w (.cells #[.int .i64 0,.slice none 0 0] 77)
 have h1:=h0.only (Only.of_below hbn []) (by simp) (by simp)
 have hm:=J0 (Aw7 h1)
 have hh:=has_any h1 i
 have hbx:Block (w.alloc (.cells #[.int .i64 0,.slice none 0 0] 77)) w.heap.size 77 #[.int .i64 0,.slice none 0 0]:=Block.made w _ _
 rw[show decide (0<=(i:Int)/\(i:Int)<(P.length:Int))=true from decide_eq_true (by omega)] at hh
 have hl:=Af3 h1 i hi' _ (List.getElem?_eq_getElem hi)
 obtain⟨hgd,q1,q2,n,cap,tail,hrow⟩:=hg _ (List.getElem_mem hi)
 clear q1 q2
 generalize (lg P o)[i]=e0 at hl hrow hgd |-
 have h4:=fun c hc=>(hgd.cell c hc).four
 have hn:=hrow.len
 replace hh:=J0 hh
 replace hl:=J0 hl
 replace hbn:=J0 hbn
 replace hbx:=J0 hbx
 replace hrow:=J0 hrow
 clear h0 h1 hg hi hi'
 go_enter Tryz.func95,Tryz.ntmps95
 go_wp2_with (first
  |(go_at_call 79;(with_reducible refine(hm.out).mono ?_);rintro e w' ⟨rfl,rfl⟩)
  |(go_at_call 144;(with_reducible refine(hh.out).mono ?_);rintro e w' ⟨rfl,rfl⟩)
  |(go_at_call 145;(with_reducible refine(hl.out).mono ?_);rintro e w1 ⟨rfl,hb1⟩))
 have hbw1:Below w.heap.size w w1:=Aa0 hbn.out hb1
 have hal:=Aa0 hbw1 (Aa1 w1 (.cells #[.int .i64 e0.id,.pointer (some ⟨e0.d,0,none⟩)] 188))
 have hb4:=(hbx.out.only (Only.of_below hb1 []) (by simp)).alloc (.cells #[.int .i64 e0.id,.pointer (some ⟨e0.d,0,none⟩)] 188)
 have hb6:=Block.made w1 188 #[.int .i64 e0.id,.pointer (some ⟨e0.d,0,none⟩)]
 have hne:=Block.apart hb4 hb6 (by decide)
 have hb6w:w.heap.size<=w1.heap.size:=hbw1.size
 generalize w1.alloc (.cells #[.int .i64 e0.id,.pointer (some ⟨e0.d,0,none⟩)] 188)=w2 at hal hb4 hb6 |-
 generalize w1.heap.size=b6 at hb6 hne hb6w |-
 obtain⟨b4,hb4e⟩:∃b4,b4=w.heap.size:=⟨_,rfl⟩
 rw[<- hb4e] at hb4 hne
 rw[<- hb4e]
 have hdr:Below w2.heap.size w2 w2.drew:=Aa4 (Below.refl _ _) 1
 have hcs:=Br5 (hrow.out.below (Aa0 hal hdr)) h4
 rw[<- hn] at hcs
 have c0:=hb6.cell 0 rfl
 have c1:=hb6.cell 1 rfl
 have hk4:=J0 (fun w' (hb:Below w2.heap.size w2 w')=>hb4.only (Only.of_below hb []) (by simp))
 have hk6:=fun w' (hb:Below w2.heap.size w2 w')=>hb6.only (Only.of_below hb []) (by simp)
 have hs6:=fun w' (hb:Below w2.heap.size w2 w') (x y:Value)=>(hk6 w' hb).only ((Only.setCell w' ⟨b4,0,none⟩ x).trans (Only.setCell _ ⟨b4,1,none⟩ y)) (by simpa using Ne.symm hne)
 have hS6:=J0 (fun w' (hb:Below w2.heap.size w2 w')=>And.intro ((hk6 w' hb).cell 0 rfl) ((hk6 w' hb).cell 1 rfl))
 have hT6:=J0 (fun w' (hb:Below w2.heap.size w2 w') (x y:Value)=>And.intro ((hs6 w' hb x y).cell 0 rfl) ((hs6 w' hb x y).cell 1 rfl))
 replace hcs:=J0 hcs
 replace hal:=J0 hal
 replace hdr:=J0 hdr
 replace hb4e:=J0 hb4e
 clear hrow hb4 hb6 hk6 hs6 hb1 hbw1 hl hh hm hbn hbx h4 hn hgd
 generalize hL:e0.l.length=n1 at hcs |-
 go_region_held3 (fun w'=>w'.cell? ⟨b6,0,none⟩=some (.int .i64 e0.id)/\w'.cell? ⟨b6,1,none⟩=some (.pointer (some ⟨e0.d,0,none⟩)))
  (first|exact⟨c0,c1⟩|exact hS6.out _ hb3.out|exact hT6.out _ hb3.out _ _)
  (first
   |(go_at_call 72;(with_reducible refine hcs.out.mono ?_);rintro e w3 ⟨g2,ps,rfl,hA,hmap,hb3',hg2⟩;have hb3:=J0 (Aa0 hdr.out hb3');have hbk:=hk4.out _ hb3.out;have f0:=hbk.free 0;have f1:=hbk.free 1;have k0:=hbk.cell 0 rfl;have k1:=hbk.cell 1 rfl))
 go_wp2
 have ho4:Only [b4] w3 ((w3.setCell ⟨b4,0,none⟩ (.int .i64 e0.id)).setCell ⟨b4,1,none⟩ (.slice (some ⟨g2,0,none⟩) n1 n1)):=(Only.setCell w3 ⟨b4,0,none⟩ _).trans (Only.setCell _ ⟨b4,1,none⟩ _)
 have hbelow:=Aa0 hal.out hb3.out
 have hsz:=hbelow.size
 have hA4:=(hA.other ho4 (Block.typ hbk) (by decide) (by decide)).lower (B':=w.heap.size) (by have:=hal.out.size;simp;omega)
 exact bodyPost_ret (Af5 rfl _ _ b4 _ rfl (Cg5 hbk _ _) Tryz.underlying77 rfl infoH) rfl ⟨g2,ps,by rw[hL];rfl,by rw[hL];exact hA4,hmap,hbelow.trans (ho4.below hsz (by have:=hb4e.out;simp;omega)),by have:=hal.out.size;simp at hg2;omega⟩
end
section
variable {B:Nat}{w w':World}{s nx most o:Nat}{sv:Value}{P R:List En}
def Aj6 (n:Nat) (a:At):List Cel:=eraL (List.replicate n (clr zeroAt)) 0 n a
theorem freshL_good (n:Nat) (a:At):Rw.Good (Aj6 n a):=(Bz5 n).era _ _ _
theorem freshL_len (n:Nat) (a:At):(Aj6 n a).length=n:=by unfold Aj6;rw[Av6,List.length_replicate]
def FreshDone (B:Nat) (w:World) (s nx most:Nat) (sv:Value) (R:List En) (l:List Cel) (e:Ending) (w':World):Prop :=
 ∃d g,e=.returned (.tuple #[.agg #[.int .i64 nx,.pointer (some ⟨d,0,none⟩)],.int .i64 0])/\SX B w' s (nx+1) most sv R/\RowG w.heap.size w' ⟨nx,d,g,0,l⟩/\Only [s] w w'
theorem SX.lt (h:SX B w s nx most sv R):s<w.heap.size:=by
 obtain⟨⟨o,P,h0,_⟩,_⟩:=h
 exact h0.blk.lt
theorem Bt6 (h:SX B w s nx most sv R):Calls Tryz.prog 79 #[.pointer (some ⟨s,0,none⟩)] w fun e w'=>e=.returned (.bool true)/\w=w':=by
 obtain⟨⟨o,P,h0,hR⟩,hg⟩:=h
 exact Aw7 h0
theorem take_sx (h:SX B w s nx most sv R) (hx:nx<10000000000):Calls Tryz.prog 149 #[.pointer (some ⟨s,0,none⟩)] w fun e w'=>e=.returned (.int .i64 nx)/\SX B w' s (nx+1) most sv R/\Only [s] w w':=by
 have ht:=h.typ
 obtain⟨⟨o,P,h0,hR⟩,hg⟩:=h
 refine(Bq2 h0 hx).mono ?_
 rintro e w' ⟨he,h1,ho⟩
 exact⟨he,⟨⟨o,P,h1,hR⟩,fun e he=>(hg e he).only ho (Ad9 (hg e he).typ.1 ht (by decide)) (Ad9 (hg e he).typ.2 ht (by decide))⟩,ho⟩
theorem fresh_yes (h:SX B w s nx most sv R) (hx:nx<10000000000) (n:Nat) (hn:1<=n) (hn5:n<=512) (a:At):Calls Tryz.prog 105 #[.pointer (some ⟨s,0,none⟩),.int .i64 n,.agg #[.int .u32 a.f,.int .u32 a.b,.int .u16 a.g]] w (FreshDone B w s nx most sv R (Aj6 n a)):=by
 have hgd:=freshL_good n a
 have hE:∀ {w d g} (hr:RowX w d g n n [] (List.replicate n (clr zeroAt))),Calls Tryz.prog 148 #[.pointer (some ⟨d,0,none⟩),.int .i64 0,.int .i64 n,.agg #[.int .u32 a.f,.int .u32 a.b,.int .u16 a.g]] w (Au9 w d g n n [] (Aj6 n a) (.int .i64 0)):=fun hr=>by
  have:=Bs0 hr (Bz5 n).whole 0 n a
  unfold Aj6 eraL
  rw[List.length_replicate]
  exact this
 generalize Aj6 n a=fl0 at hgd hE |-
 obtain⟨af,ab,ag⟩:=a
 have hb1:=Aa1 w (.cells #[.int .u32 af,.int .u32 ab,.int .u16 ag] 51)
 have hbn:Below w.heap.size w ((w.alloc (.cells #[.int .u32 af,.int .u32 ab,.int .u16 ag] 51)).alloc (.cells #[.int .i64 0,.pointer none] 188)):=Aa0 hb1 (Aa1 _ _)
 have hm:=Bt6 (h.below hbn)
 have hba:=(Block.made w 51 #[.int .u32 af,.int .u32 ab,.int .u16 ag]).alloc (.cells #[.int .i64 0,.pointer none] 188)
 have hbl:=Block.made (w.alloc (.cells #[.int .u32 af,.int .u32 ab,.int .u16 ag] 51)) 188 #[.int .i64 0,.pointer none]
 simp only[World.size_alloc] at hbl
 have hN:=J0 (fun w=>Rw.new_yes n hn hn5 w)
 have hws:Hid (∀w',Below w.heap.size w w'->SX B w' s nx most sv R):=J0 (fun w' hb=>h.below hb)
 have hlt:=h.lt
 have hplt:=fun g hg=>(h.ptyp g hg).2.1
 replace hm:=J0 hm
 replace hba:=J0 hba
 replace hbl:=J0 hbl
 replace hbn:=J0 hbn
 clear h hb1
 simp only at hE
 go_enter Tryz.func105,Tryz.ntmps105
 go_wp2_with (first
  |(go_at_call 79;(with_reducible refine(hm.out).mono ?_);rintro e w' ⟨rfl,rfl⟩)
  |(go_at_call 147;(with_reducible refine(hN.out _).mono ?_);rintro e w1 ⟨d,g,rfl,hr1,hbe1,hd1,hg1⟩;have hba1:=hba.out.only (Only.of_below hbe1 []) (by simp);have hbl1:=hbl.out.only (Only.of_below hbe1 []) (by simp);have a0:=hba1.cell 0 rfl;have a1:=hba1.cell 1 rfl;have a2:=hba1.cell 2 rfl;have hbw1:=Aa0 hbn.out hbe1)
  |(go_at_call 148;(with_reducible refine(hE hr1).mono ?_);rintro e w2 ⟨rfl,hr2,ho2⟩;have hbl2:=hbl1.only ho2 (Ad9 (Block.typ hbl1) (Block.typ hr1.row) (by decide));have hbw2:=Ag3 hbw1 ho2 (by simp at hg1;omega);have ht:=hws.out _ hbw2)
  |(go_at_call 149;(with_reducible refine(take_sx ht hx).mono ?_);rintro e w3 ⟨rfl,hS3,ho3⟩;have hbl3:=hbl2.only ho3 (Ad9 (Block.typ hbl2) ht.typ (by decide));have l0:=hbl3.cell 0 rfl;have l1:=hbl3.cell 1 rfl;have f0:=hbl3.free 0;have f1:=hbl3.free 1))
 have ho4:Only [w.heap.size+1] w3 ((w3.setCell ⟨w.heap.size+1,0,none⟩ (.int .i64 nx)).setCell ⟨w.heap.size+1,1,none⟩ (.pointer (some ⟨d,0,none⟩))):=(Only.setCell w3 ⟨w.heap.size+1,0,none⟩ _).trans (Only.setCell _ ⟨w.heap.size+1,1,none⟩ _)
 have hS4:SX B _ s (nx+1) most sv R:=hS3.only ho4 (Ad9 hS3.typ (Block.typ hbl3) (by decide)) (fun x hx hm=>by
  have h1:=hplt x hx
  simp at hm
  omega) (fun e he=>⟨Ad9 (hS3.2 e he).typ.1 (Block.typ hbl3) (by decide),Ad9 (hS3.2 e he).typ.2 (Block.typ hbl3) (by decide)⟩)
 have hds:d∉[s]:=by simp at hd1;simp;omega
 have hgs:g∉[s]:=by simp at hg1;simp;omega
 have hr4:=(hr2.kept ho3 hds hgs).kept ho4 (by simp at hd1;simp;omega) (by simp at hg1;simp;omega)
 refine bodyPost_ret (Af5 rfl _ _ (w.heap.size+1) _ rfl (Cg5 hbl3 _ _) Tryz.underlying188 rfl Ct8) rfl ⟨d,g,rfl,hS4,⟨hgd,by simp at hd1;simp;omega,by simp at hg1;simp;omega,n,n,[],hr4⟩,?_⟩
 exact((Only.of_below hbw2 [s]).trans ho3).then ho4 (fun k hk=>.inr (by simp at hk;omega))
end
section
variable {B:Nat}{w w':World}{s nx most o:Nat}{sv:Value}{P R:List En}
theorem taken_sx (h:SX B w s nx most sv R) (id:Int):Calls Tryz.prog 302 #[.pointer (some ⟨s,0,none⟩),.int .i64 id] w fun e w'=>e=.returned (.bool (decide (1<=id/\id<nx)))/\w=w':=by
 obtain⟨⟨o,P,h0,hR⟩,hg⟩:=h
 exact taken_any h0 id
def Bm4 (B:Nat) (w:World) (s nx most:Nat) (sv:Value) (R:List En) (id:Int) (dr:Nat) (l:List Cel) (e:Ending) (w':World):Prop :=
 ∃sv' d g,e=.returned (.int .i64 0)/\SX B w' s nx most sv' (Ai5 most R ⟨id,d,g,dr,l⟩)/\w.heap.size<=d/\w.heap.size<=g/\Only (s::sv.ownBlock.toList) w w'/\(sv'.ownBlock=sv.ownBlock\/∃g,sv'.ownBlock=some g/\w.heap.size<=g)
theorem put_sx {w1:World} {id:Int} {d g dr n cap:Nat} {tail:List Value} {l:List Cel} (h:SX B w s nx most sv R) (hb:Below w.heap.size w w1) (hr:RowX w1 d g n cap tail l) (hgd:Rw.Good l) (hd:w.heap.size<=d) (hg:w.heap.size<=g)
  (hp:PutDone B w1 s nx most sv (Ai5 most R ⟨id,d,g,dr,l⟩) w'):Bm4 B w s nx most sv R id dr l (.returned (.int .i64 0)) w':=by
 obtain⟨sv',o',P',h1,h2,h3,h4⟩:=hp
 have hw1:=h.below hb
 have hB:B<=w.heap.size:=by
  obtain⟨⟨o,P,h0,_⟩,_⟩:=h
  exact Nat.le_trans h0.lo (Nat.le_of_lt h0.blk.lt)
 have hnot:∀ {k:Nat} {t:TypeId},Typ w1 k t->136≠t->188≠t->k∉s::sv.ownBlock.toList:=fun {k t} ht n1 n2 hm=>by
  rcases List.mem_cons.1 hm with rfl|hm
  ·exact n1 (Typ.inj hw1.typ ht)
  ·exact n2 (Typ.inj (hw1.ptyp k (by simpa using hm)).2.2 ht)
 refine⟨sv',d,g,rfl,⟨⟨o',P',h1,h2⟩,fun e he=>?_⟩,hd,hg,(Only.of_below hb _).trans h3,h4.imp (fun x=>x) fun ⟨g,e,hg⟩=>⟨g,e,Nat.le_trans hb.size hg⟩⟩
 rcases Bu9 he with he|rfl
 ·exact(hw1.2 e he).only h3 (hnot (hw1.2 e he).typ.1 (by decide) (by decide)) (hnot (hw1.2 e he).typ.2 (by decide) (by decide))
 ·exact⟨hgd,Nat.le_trans hB hd,Nat.le_trans hB hg,n,cap,tail,hr.kept h3 (hnot (Block.typ hr.ptr) (by decide) (by decide)) (hnot (Block.typ hr.row) (by decide) (by decide))⟩
theorem push_yes (h:SX B w s nx most sv R) (id:Int) (hid:1<=id/\id<nx) (dr:Nat) {d g n cap:Nat} {tail:List Value} {l:List Cel} (hr:RowX w d g n cap tail l) (hgd:Rw.Good l):Calls Tryz.prog 293 #[.pointer (some ⟨s,0,none⟩),.agg #[.int .i64 id,.pointer (some ⟨d,0,none⟩)]] w (Bm4 B w s nx most sv R id dr l):=by
 have hbn:=Aa1 w (.cells #[.int .i64 id,.pointer (some ⟨d,0,none⟩)] 188)
 have hbx:=fun q=>(Block.made w 188 #[.int .i64 id,.pointer (some ⟨d,0,none⟩)]).only (Only.drewN [] _ q) (by simp)
 have hm:=Bt6 (h.below hbn)
 have hl:=fun q=>Ag5 (hr.below (Aa4 hbn q))
 have ht:=fun q=>taken_sx (h.below (Aa4 hbn q)) id
 have hpos:=hr.pos
 have hn0:((n:Int) == 0)=false:=beq_eq_false_iff_ne.2 (by omega)
 rw[show decide (1<=id/\id<(nx:Int))=true from decide_eq_true hid] at ht
 replace hm:=J0 hm
 replace hl:=J0 hl
 replace ht:=J0 ht
 replace hbn:=J0 hbn
 replace hbx:=J0 hbx
 have h':=J0 h
 have hr':=J0 hr
 have hlt:=h.lt
 clear h hr hid
 go_enter Tryz.func293,Tryz.ntmps293
 go_wp2_with ((go_at_call 79;(with_reducible refine(hm.out).mono ?_);rintro e w' ⟨rfl,rfl⟩))
 go_quiet ((first|(go_at_call 99;with_reducible exact Ae5 (hl.out _))|(go_at_call 302;with_reducible exact Ae5 (ht.out _))))
 go_wp2
 have hb0:=hbx.out nq
 have hl0:=Aa4 hbn.out nq
 have hbl:=hb0.lt
 generalize (w.alloc (.cells #[.int .i64 id,.pointer (some ⟨d,0,none⟩)] 188)).drewN nq=w0 at hb0 hl0 hbl |-
 obtain⟨bx,hbxe⟩:∃bx,bx=w.heap.size:=⟨_,rfl⟩
 rw[<- hbxe] at hb0 hbl
 rw[<- hbxe]
 have hsx0:=h'.out.below hl0
 have hdr:Below w0.heap.size w0 w0.drew:=Aa4 (Below.refl _ _) 1
 have hcp:=copy_any ((hr'.out.below hl0).below hdr)
 have hk:=fun w' (hb:Below w0.heap.size w0 w')=>hb0.only (Only.of_below hb []) (by simp)
 have hS:=fun w' (hb:Below w0.heap.size w0 w')=>And.intro ((hk w' hb).cell 0 rfl) ((hk w' hb).cell 1 rfl)
 have c0:=hS w0 (Below.refl _ _)
 have hput:∀W,Below w0.heap.size w0 W->∀d1 g1,Calls Tryz.prog 303 #[.pointer (some ⟨s,1,none⟩),.agg #[.int .i64 id,.pointer (some ⟨d1,0,none⟩)]] W fun e w'=>((∃v,e=.returned v)/\PutDone B W s nx most sv (Ai5 most R ⟨id,d1,g1,dr,l⟩) w')/\w'.cell? ⟨bx,0,none⟩=some (.int .i64 id)/\w'.cell? ⟨bx,1,none⟩=some (.pointer (some ⟨d,0,none⟩)):=by
  intro W hb d1 g1
  have hs:=hsx0.below hb
  have hO:bx∉s::sv.ownBlock.toList:=fun hm=>by
   rcases List.mem_cons.1 hm with e|hm
   ·omega
   ·have:=(h'.out.ptyp bx (by simpa using hm)).2.1
    omega
  obtain⟨⟨o,P,h0,hR⟩,hg⟩:=hs
  have:=put_any h0 ⟨id,d1,g1,dr,l⟩
  rw[hR] at this
  refine this.mono fun e w' hh=>?_
  obtain⟨hv,sv',o',P',q1,q2,q3,q4⟩:=hh
  have hbk:=(hk W hb).only q3 hO
  exact⟨⟨hv,sv',o',P',q1,q2,q3,q4⟩,hbk.cell 0 rfl,hbk.cell 1 rfl⟩
 replace hput:=J0 hput
 replace hdr:=J0 hdr
 replace hcp:=J0 hcp
 replace hS:=J0 hS
 replace hl0:=J0 hl0
 replace hsx0:=J0 hsx0
 replace hbxe:=J0 hbxe
 replace hgd:=J0 hgd
 clear hm hl ht hbn hbx hk hb0
 obtain⟨c0,c1⟩:=c0
 go_region_held3 (fun w'=>w'.cell? ⟨bx,0,none⟩=some (.int .i64 id)/\w'.cell? ⟨bx,1,none⟩=some (.pointer (some ⟨d,0,none⟩)))
  (first|exact⟨c0,c1⟩|exact hS.out _ hb2.out|exact⟨z0,z1⟩)
  (first
   |(go_at_call 304;(with_reducible refine hcp.out.mono ?_);rintro e w2 ⟨d1,g1,cap1,tail1,rfl,hr2,hb2',hd1,hg1⟩;have hb2:=J0 (Aa0 hdr.out hb2'))
   |(go_at_call 303;(with_reducible refine(hput.out _ hb2.out d1 g1).mono ?_);rintro e w3 ⟨⟨⟨v3,rfl⟩,hp3⟩,z0,z1⟩))
 have hres:=J0 (put_sx h'.out (Aa0 hl0.out hb2.out) hr2 hgd.out (by have:=hl0.out.size;simp at hd1;omega) (by have:=hl0.out.size;simp at hg1;omega) hp3)
 clear hp3 hr2 z0 z1
 go_wp2
 go_ret
 exact hres.out
end
