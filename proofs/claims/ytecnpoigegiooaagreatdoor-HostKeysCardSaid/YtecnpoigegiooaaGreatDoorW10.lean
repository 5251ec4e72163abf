/- Part 10 of HostKeys. -/
import Derived.Test.YtecnpoigegiooaaGreatDoorW09
import Derived.Laws.Cover4
set_option maxHeartbeats 16000000
set_option maxRecDepth 100000
namespace Go.Proofs.YtecnpoigegiooaaGreatDoor.Lns
open Tryz
open Go RowKit Com Rw
section
variable {B:Nat}{w w':World}{s nx most o:Nat}{sv:Value}{P R:List En}
def Ads(B:Nat)(w:World)(s nx most:Nat)(sv:Value)(R:List En)(w':World):Prop :=
 ∃sv' o' P',SX0 B w' s nx most sv' o' P'/\lg P' o'=R/\A0 (s::sv.ownBlock.toList) w w'/\(sv'.ownBlock=sv.ownBlock\/∃g,sv'.ownBlock=some g/\w.heap.size<=g)
theorem Ads.pre{w1:World}(h:Ads B w1 s nx most sv R w')(hb:Below w.heap.size w w1):Ads B w s nx most sv R w':=by
 obtain⟨sv',o',P',h1,h2,h3,h4⟩:=h
 refine⟨sv',o',P',h1,h2,(A0.A1 hb _).trans h3,h4.imp id fun⟨g,e,hg⟩=>⟨g,e,Nat.le_trans hb.size hg⟩⟩
theorem Cgz(h:SX0 B w s nx most sv o P)(hlt:P.length<most)(e0:En){w1 w2:World}{sv':Value}(hb:Below w.heap.size w w1)(C0:w2.ownsRow B 188 2 sv' (P.length+1) (fl E5 P++E5 e0))(ho:A0 sv.ownBlock.toList w1 w2)(hat:sv'.ownBlock=sv.ownBlock\/sv'.ownBlock=some w1.heap.size) :
  Ads B w s nx most sv (O2 most (lg P o) e0) (w2.setCell ⟨s,2,none⟩ sv'):=by
 obtain rfl:=h.old hlt
 have h1:=h.only (A0.A1 hb []) (by simp) (by simp)
 have hs2:s∉sv.ownBlock.toList:=Bbr (Block.typ h1.blk) h1.own (by decide)
 have hb2:=h1.blk.only ho hs2
 have ho3:A0 [s] w2 (w2.setCell ⟨s,2,none⟩ sv'):=A0.setCell w2 ⟨s,2,none⟩ _
 refine⟨sv',0,P++[e0],⟨hb2.set 2 sv',?_,?_,fun _=>rfl,.inr rfl,h.most,h.pos,h.small,h.lo⟩,?_,?_,?_⟩
 ·rw[List.length_append,List.length_singleton,Z9,Acq]
  exact Aen C0 ho3 (fun g hg=>V0 (M4 C0 g hg) (Block.typ hb2) (by decide))
 ·simp;omega
 ·rw[Brp,Brp]
  unfold O2
  rw[if_neg (by omega)]
 ·exact((A0.A1 hb _).trans (ho.mono (by simp +contextual))).trans (ho3.mono (by simp))
 ·exact hat.imp id fun e=>⟨_,e,hb.size⟩
theorem Chd(h:SX0 B w s nx most sv o P)(hlt:P.length<most)(e0:En):Calls prog 303 #[.pointer (some ⟨s,1,none⟩),.agg (E5 e0).toArray] w fun e w'=>(∃v,e=.returned v)/\Ads B w s nx most sv (O2 most (lg P o) e0) w':=by
 have hle:=Nat.le_trans h.le h.most
 have hbx:=fun q=>(Block.made w 188 #[.int .i64 e0.id,.pointer (some ⟨e0.d,0,none⟩)]).only (A0.drewN [] _ q) (by simp)
 have hbl:=fun q=>C7 (A3 w (.cells #[.int .i64 e0.id,.pointer (some ⟨e0.d,0,none⟩)] 188)) q
 have h1:=fun q=>h.only (A0.A1 (hbl q) []) (by simp) (by simp)
 have hc:=fun q=>Abl (h1 q)
 have hcs:=(h.only (A0.A1 (A3 w (.cells #[.int .i64 e0.id,.pointer (some ⟨e0.d,0,none⟩)] 188)) []) (by simp) (by simp)).cells
 obtain⟨_,k1,_,_⟩:=hcs
 have hli:((P.length:Int)<(most:Int)):=by omega
 have Awu:=fun w1 w2 sv' (hb:Below w.heap.size w w1)=>Cgz (w1:=w1) (w2:=w2) (sv':=sv') h hlt e0 hb
 have hC:(E5 e0).toArray=#[.int .i64 e0.id,.pointer (some ⟨e0.d,0,none⟩)]:=rfl
 rw[hC]
 obtain⟨ao,c,rfl,_⟩:=h.len
 have hsv:=Nat.lt_of_le_of_lt h.lo h.blk.lt
 obtain⟨n,hn⟩:∃n,P.length=n:=⟨_,rfl⟩
 rw[hn]at hle hc hli
 replace hn:=J0 hn
 replace hc:=J0 hc
 replace h1:=J0 h1
 replace Awu:=J0 Awu
 replace hbx:=J0 hbx
 replace hbl:=J0 hbl
 clear h
 go_enter func303,ntmps303
 go_wp2
 go_quiet ((go_at_call 143;with_reducible exact Aft (hc.out _)))
 go_wp2
 have hb0:=hbx.out nq
 have hl0:=hbl.out nq
 obtain⟨bx,D2⟩:∃bx,bx=w.heap.size:=⟨_,rfl⟩
 rw[<- D2]at hb0
 rw[<- D2]
 replace D2:=J0 D2
 have hs0:=h1.out nq
 clear hc hbx hbl h1 k1
 generalize (w.alloc (.cells #[.int .i64 e0.id,.pointer (some ⟨e0.d,0,none⟩)] 188)).drewN nq=w0 at hb0 hl0 hs0 |-
 obtain⟨_,_,k2,_⟩:=hs0.cells
 have b0:=hb0.cell 0 rfl
 have b1:=hb0.cell 1 rfl
 have hd0:Below w0.heap.size w0 w0.drew:=C7 (Below.refl _ _) 1
 have hd1:=hd0.alloc (J5 _) (.cells #[.int .i64 e0.id,.pointer (some ⟨e0.d,0,none⟩)] 188)
 have hs1:=hs0.only (A0.A1 hd1 []) (by simp) (by simp)
 have C0:=hs1.own
 have P6:=hs1.blk
 have hpn:P.length=n:=hn.out
 have ka:=(hs0.blk.only (A0.alloc [] w0 (.cells #[.int .i64 e0.id,.pointer (some ⟨e0.d,0,none⟩)] 188)) (by simp)).cell 2 rfl
 rw[hpn]at C0 k2 ka
 have hsO:s∉(Value.slice ao n c).ownBlock.toList:=Bbr (Block.typ P6) C0 (by decide)
 have hln:∀j u,(E5 e0)[j]?=some u->(w0.drew.alloc (.cells #[.int .i64 e0.id,.pointer (some ⟨e0.d,0,none⟩)] 188)).cell? ((⟨w0.heap.size,0,none⟩:Addr).add j)=some u:=fun j u hj=>by
  rw[Addr.add_lit,Nat.zero_add]
  exact(Block.made w0.drew 188 #[.int .i64 e0.id,.pointer (some ⟨e0.d,0,none⟩)]).cell j (by simpa[E5]using hj)
 have hBs:B<=w0.heap.size:=Nat.le_trans hs0.lo (Nat.le_of_lt hs0.blk.lt)
 replace C0:=J0 C0
 replace P6:=J0 P6
 replace hsO:=J0 hsO
 replace hln:=J0 hln
 have C3:=fun w2 sv'=>Awu.out _ w2 sv' (A2 hl0 hd1)
 rw[hpn]at C3
 replace C3:=J0 C3
 clear hs1 hs0 Awu hl0 hd0 hd1 hb0 hpn
 go_region_law (first
  |(refine Biv Bcx rfl (.tmp 16) (.tmp 18) rfl B (.slice ao n c) n (fl E5 P) ⟨w0.heap.size,0,none⟩ 1 1 (E5 e0) rfl rfl C0.out rfl hln.out (Bic e0) (by simp;omega) (by omega) ?_;intro sv2 w2 L4 ho2 Aak;have hb2:=P6.out.only ho2 hsO.out;have k2':=hb2.cell 2 rfl;have f2:=hb2.free 2;obtain⟨a2,c2,rfl,_⟩:=U0 L4))
 all_goals
  have A4:=J0 (C3.out _ _ L4 ho2 Aak)
  clear L4 ho2 Aak hb2
  go_wp2
  go_end0
  exact⟨⟨_,rfl⟩,by rw[hn.out];exact A4.out⟩
theorem Bof(o:Nat):lg ([]:List En) o=[]:=by simp[lg]
theorem Chb(h:SX0 B w s nx 0 sv o P)(e0:En):Calls prog 303 #[.pointer (some ⟨s,1,none⟩),.agg (E5 e0).toArray] w fun e w'=>(∃v,e=.returned v)/\Ads B w s nx 0 sv (O2 0 (lg P o) e0) w':=by
 obtain rfl:P=[]:=List.eq_nil_of_length_eq_zero (by have:=h.le;omega)
 have hbl:=fun q=>C7 (A3 w (.cells #[.int .i64 e0.id,.pointer (some ⟨e0.d,0,none⟩)] 188)) q
 have h1:=fun q=>h.only (A0.A1 (hbl q) []) (by simp) (by simp)
 have hc:=fun q=>Abl (h1 q)
 obtain⟨_,k1,_,_⟩:=(h.only (A0.A1 (A3 w (.cells #[.int .i64 e0.id,.pointer (some ⟨e0.d,0,none⟩)] 188)) []) (by simp) (by simp)).cells
 have hC:(E5 e0).toArray=#[.int .i64 e0.id,.pointer (some ⟨e0.d,0,none⟩)]:=rfl
 rw[hC,Bof]
 simp only[List.length_nil]at hc
 have A4:=fun q=>(⟨sv,o,[],h1 q,by rw[Bof];rfl,A0.A1 (hbl q) _,.inl rfl⟩:Ads B w s nx 0 sv (O2 0 [] e0) _)
 replace hc:=J0 hc
 replace A4:=J0 A4
 clear h h1 hbl hC
 go_enter func303,ntmps303
 go_wp2
 go_quiet ((go_at_call 143;with_reducible exact Aft (hc.out _)))
 go_wp2
 go_end0
 exact⟨⟨_,rfl⟩,A4.out _⟩
theorem Clp(h:SX0 B w s nx most sv o P)(ho:o<P.length)(e0:En){g c:Nat}(hsv:sv=.slice (some ⟨g,0,none⟩) P.length c) :
  SX0 B ((w.setCell ⟨g,o*2,none⟩ (.int .i64 e0.id)).setCell ⟨g,o*2+1,none⟩ (.pointer (some ⟨e0.d,0,none⟩))) s nx most sv o (P.set o e0)/\A0 sv.ownBlock.toList w ((w.setCell ⟨g,o*2,none⟩ (.int .i64 e0.id)).setCell ⟨g,o*2+1,none⟩ (.pointer (some ⟨e0.d,0,none⟩))):=by
 have hs2:s∉sv.ownBlock.toList:=Bbr (Block.typ h.blk) h.own (by decide)
 have C0:=h.own
 rw[hsv]at C0 hs2
 obtain⟨o1,_⟩:=World.ownsRow.stored C0 (o*2) (.int .i64 e0.id)
 obtain⟨o2,_⟩:=World.ownsRow.stored o1 (o*2+1) (.pointer (some ⟨e0.d,0,none⟩))
 rw[<- Cjz P o e0 ho]at o2
 have ho2:A0 [g] w ((w.setCell ⟨g,o*2,none⟩ (.int .i64 e0.id)).setCell ⟨g,o*2+1,none⟩ (.pointer (some ⟨e0.d,0,none⟩))):=(A0.setCell w ⟨g,o*2,none⟩ _).trans (A0.setCell _ ⟨g,o*2+1,none⟩ _)
 have hsg:s∉[g]:=by simpa[Value.ownBlock]using hs2
 have hle:=h.le
 refine⟨⟨h.blk.only ho2 hsg,by rw[List.length_set,hsv];exact o2,by rw[List.length_set];exact hle,fun hh=>h.old (by rwa [List.length_set]at hh),by rw[List.length_set];exact h.olt,h.most,h.pos,h.small,h.lo⟩,?_⟩
 rw[hsv]
 exact ho2.mono (by simp[Value.ownBlock])
theorem Chc(h:SX0 B w s nx most sv o P)(ho:o<P.length)(Bra:most<=P.length)(e0:En){w1:World}(h1:SX0 B w1 s nx most sv o (P.set o e0))(hO:A0 sv.ownBlock.toList w w1) :
  Ads B w s nx most sv (O2 most (lg P o) e0) (w1.setCell ⟨s,3,none⟩ (.int .i64 ((o+1) % P.length:Nat))):=by
 have ho3:A0 [s] w1 (w1.setCell ⟨s,3,none⟩ (.int .i64 ((o+1) % P.length:Nat))):=A0.setCell w1 ⟨s,3,none⟩ _
 have hle:=h.le
 have hpo:=Coz P ho e0
 have hlg:=Awi P o
 have Ctv:(o+1) % P.length<P.length:=Nat.mod_lt _ (by omega)
 refine⟨sv,(o+1) % P.length,P.set o e0,⟨h1.blk.set 3 _,Aen h1.own ho3 (fun g' hg=>V0 (M4 h1.own g' hg) (Block.typ h1.blk) (by decide)),h1.le,fun hh=>by rw[List.length_set]at hh;omega,by rw[List.length_set];exact .inl Ctv,h.most,h.pos,h.small,h.lo⟩,?_,?_,.inl rfl⟩
 ·rw[hpo]
  unfold O2
  rw[if_pos (by omega)]
 ·exact(hO.mono (by simp +contextual)).trans (ho3.mono (by simp))
theorem Cgy(h:SX0 B w s nx most sv o P)(Aal:0<P.length)(Bra:most<=P.length)(e0:En):Calls prog 303 #[.pointer (some ⟨s,1,none⟩),.agg (E5 e0).toArray] w fun e w'=>(∃v,e=.returned v)/\Ads B w s nx most sv (O2 most (lg P o) e0) w':=by
 have hle:=Nat.le_trans h.le h.most
 have Bea:=h.le
 have ho:o<P.length:=by have:=h.olt;omega
 have hbx:=fun q=>(Block.made w 188 #[.int .i64 e0.id,.pointer (some ⟨e0.d,0,none⟩)]).only (A0.drewN [] _ q) (by simp)
 have hbl:=fun q=>C7 (A3 w (.cells #[.int .i64 e0.id,.pointer (some ⟨e0.d,0,none⟩)] 188)) q
 have h1:=fun q=>h.only (A0.A1 (hbl q) []) (by simp) (by simp)
 have hc:=fun q=>Abl (h1 q)
 obtain⟨_,k1,_,_⟩:=(h.only (A0.A1 (A3 w (.cells #[.int .i64 e0.id,.pointer (some ⟨e0.d,0,none⟩)] 188)) []) (by simp) (by simp)).cells
 have hC:(E5 e0).toArray=#[.int .i64 e0.id,.pointer (some ⟨e0.d,0,none⟩)]:=rfl
 rw[hC]
 obtain⟨n,hn⟩:∃n,P.length=n:=⟨_,rfl⟩
 rw[hn]at hle hc Aal Bra Bea ho
 obtain rfl:most=n:=by omega
 replace hn:=J0 hn
 replace hc:=J0 hc
 replace h1:=J0 h1
 replace hbx:=J0 hbx
 replace hbl:=J0 hbl
 clear h
 go_enter func303,ntmps303
 go_wp2
 go_quiet ((go_at_call 143;with_reducible exact Aft (hc.out _)))
 have hb0:=hbx.out nq
 have hl0:=hbl.out nq
 obtain⟨bx,D2⟩:∃bx,bx=w.heap.size:=⟨_,rfl⟩
 rw[<- D2]at hb0
 have hs0:=h1.out nq
 have k1':=hs0.blk.cell 1 rfl
 clear hc hbx hbl h1 k1
 rw[<- D2]
 replace D2:=J0 D2
 generalize (w.alloc (.cells #[.int .i64 e0.id,.pointer (some ⟨e0.d,0,none⟩)] 188)).drewN nq=w0 at hb0 hl0 hs0 k1' |-
 obtain⟨g,c,hsv,hcc,hcm,p0,p1⟩:=hs0.place (i:=o) (by have:=hn.out;omega)
 obtain⟨_,_,k2,k3⟩:=hs0.cells
 have b0:=hb0.cell 0 rfl
 have b1:=hb0.cell 1 rfl
 have fg:∀j,w0.frozen? ⟨g,j,none⟩=false:=fun j=>World.ownsRow.frozenAt (hsv▸hs0.own) j
 have Y4:=Clp hs0 (by rw[hn.out];exact ho) e0 hsv
 have C3:=fun w1 h1 hO=>(Chc (w1:=w1) hs0 (by rw[hn.out];exact ho) (by rw[hn.out];omega) e0 h1 hO).pre hl0
 have hpl:=fun w1 (h1:SX0 B w1 s nx most sv o (P.set o e0))=>Ahg h1 1 (by omega) (by rw[List.length_set,hn.out];omega)
 simp only[List.length_set]at hpl
 rw[hn.out]at hsv hpl C3
 have h30:=hs0.blk.cell 3 rfl
 subst hsv
 have f0:=fg (o*2)
 have f1:=fg (o*2+1)
 replace Y4:=J0 Y4
 replace C3:=J0 C3
 replace hpl:=J0 hpl
 replace hs0:=J0 hs0
 clear fg hb0 hl0
 go_wp2
 go_region
 obtain⟨hm1,hO1⟩:=Y4.out
 have hm2:=hm1.only (M1 [] _) (by simp) (by simp)
 have hO2:=hO1.trans (M1 _ _)
 clear hm1 hO1 Y4
 generalize ((w0.setCell ⟨g,o*2,none⟩ (.int .i64 e0.id)).setCell ⟨g,o*2+1,none⟩ (.pointer (some ⟨e0.d,0,none⟩))).drew=w2 at hm2 hO2 |-
 have hp2:=hpl.out w2 hm2
 rw[show((1:Nat):Int)=1 from rfl]at hp2
 replace hp2:=J0 hp2
 obtain⟨k,hk⟩:∃k,k=(o+1) % most:=⟨_,rfl⟩
 rw[<- hk]at hp2
 replace hk:=J0 hk
 replace hm2:=J0 hm2
 replace hO2:=J0 hO2
 go_wp2_with((go_at_call 208;(with_reducible refine(hp2.out).mono ?_);rintro e w3 ⟨rfl,q,rfl⟩;have hm3:=hm2.out.drew q;have k3':=hm3.blk.cell 3 rfl;have f3:=hm3.blk.free 3))
 have A4:=C3.out _ hm3 (hO2.out.trans (A0.drewN _ _ _))
 rw[<- hk.out]at A4
 replace A4:=J0 A4
 clear hm3
 go_wp2
 go_end0
 exact⟨⟨_,rfl⟩,A4.out⟩
theorem Ald(h:SX0 B w s nx most sv o P)(e0:En):Calls prog 303 #[.pointer (some ⟨s,1,none⟩),.agg (E5 e0).toArray] w fun e w'=>(∃v,e=.returned v)/\Ads B w s nx most sv (O2 most (lg P o) e0) w':=by
 by_cases h1:P.length<most
 ·exact Chd h h1 e0
 ·by_cases h2:0<P.length
  ·exact Cgy h h2 (by omega) e0
  ·obtain rfl:most=0:=by omega
   exact Chb h e0
end
end Go.Proofs.YtecnpoigegiooaaGreatDoor.Lns
namespace Go.Proofs.YtecnpoigegiooaaGreatDoor.Rw
open Tryz
open Go RowKit Com
theorem Api.load{B:Nat}{w:World}{g n cap:Nat}{ps:List (Cel×Value)}(h:Api B w (.slice (some ⟨g,0,none⟩) n cap) ps){i:Nat}(hi:i<ps.length):∀j v,(Aaj ps[i])[j]?=some v->w.cell? ((⟨g,i*6,none⟩:Addr).add j)=some v:=by
 intro j v hj
 have hj6:=(List.getElem?_eq_some_iff.1 hj).1
 rw[Aiy]at hj6
 have e:=Ahz Aiy hi hj6
 rw[hj]at e
 have hlt:i*6+j<ps.length*6:=by omega
 rcases h.own.2 with⟨h0,_⟩|⟨g',cap',cur,e',_,hg,_,_,_,ht⟩
 ·cases h0
 ·simp only[Value.slice.injEq,Option.some.injEq,Addr.mk.injEq,and_true]at e'
  obtain⟨rfl,rfl,rfl⟩:=e'
  rw[Addr.add_lit,cell_of_row w g _ cur _ (0,0) hg]
  rw[<- ht,List.getElem?_take,if_pos hlt]at e
  simpa using e
end Go.Proofs.YtecnpoigegiooaaGreatDoor.Rw
namespace Go.Proofs.YtecnpoigegiooaaGreatDoor.Lns
open Tryz
open Go RowKit Com Rw
section
variable {B:Nat}{w w':World}{s nx most o:Nat}{sv:Value}{P R:List En}
theorem Cpg(most:Int)(h:most<0\/10000<most)(w:World):Calls prog 34 #[.int .i64 most] w fun e w'=>e=.returned (.tuple #[.pointer none,.int .i64 2])/\w=w':=by
 by_cases h0:most<0
 ·go_enter func34,ntmps34
  go_wp2
  go_ret2
  exact⟨rfl,rfl⟩
 ·have h1:10000<most:=by omega
  go_enter func34,ntmps34
  go_wp2
  go_ret2
  exact⟨rfl,rfl⟩
theorem Avs(most:Nat)(h:most<=10000)(w:World):Calls prog 34 #[.int .i64 most] w fun e w'=>e=.returned (.tuple #[.pointer (some ⟨w.heap.size,0,none⟩),.int .i64 0])/\SX w.heap.size w' w.heap.size 1 most (.slice none 0 0) []/\Below w.heap.size w w':=by
 have h0:¬(most:Int)<0:=by omega
 have h1:¬10000<(most:Int):=by omega
 have h0':=decide_eq_false h0
 have h1':=decide_eq_false h1
 go_enter func34,ntmps34
 go_wp2
 go_ret2
 exact⟨rfl,⟨⟨0,[],⟨Block.made w _ _,World.ownsRow_nil _ _ _ _,by simp,fun _=>rfl,.inr rfl,h,by decide,by decide,J5 _⟩,by simp[lg]⟩,by simp⟩,A3 _ _⟩
theorem Anf(h:SX B w s nx most sv R):Calls prog 101 #[.pointer (some ⟨s,0,none⟩)] w fun e w'=>e=.returned (.int .i64 nx)/\w=w':=by
 obtain⟨⟨o,P,h0,rfl⟩,_⟩:=h
 have hm:=J0 (Apu h0)
 obtain⟨h1,_,_,_⟩:=h0.cells
 clear h0
 go_enter func101,ntmps101
 go_wp2_with((go_at_call 79;(with_reducible refine(hm.out).mono ?_);rintro e w' ⟨rfl,rfl⟩))
 go_ret
 exact⟨rfl,rfl⟩
theorem Chw(h:SX B w s nx most sv R):Calls prog 94 #[.pointer (some ⟨s,0,none⟩)] w fun e w'=>e=.returned (.int .i64 R.length)/\w=w':=by
 obtain⟨⟨o,P,h0,rfl⟩,_⟩:=h
 have hm:=J0 (Apu h0)
 have hc:=J0 (Abl h0)
 rw[Awi]
 clear h0
 go_enter func94,ntmps94
 go_wp2_with (first
  |(go_at_call 79;(with_reducible refine(hm.out).mono ?_);rintro e w' ⟨rfl,rfl⟩)
  |(go_at_call 143;(with_reducible refine(hc.out).mono ?_);rintro e w' ⟨rfl,rfl⟩))
 go_ret
 exact⟨rfl,rfl⟩
theorem Byp(h:SX B w s nx most sv R):Calls prog 55 #[.pointer (some ⟨s,0,none⟩)] w fun e w'=>e=.returned (.int .i64 0)/\SX B w' s nx most (.slice none 0 0) []/\A0 [s] w w':=by
 obtain⟨⟨o,P,h0,rfl⟩,_⟩:=h
 have hm:=J0 (Apu h0)
 have hc:=J0 (Bzw h0)
 clear h0
 go_enter func55,ntmps55
 go_wp2_with (first
  |(go_at_call 79;(with_reducible refine(hm.out).mono ?_);rintro e w' ⟨rfl,rfl⟩)
  |(go_at_call 80;(with_reducible refine(hc.out).mono ?_);rintro e w1 ⟨⟨v,rfl⟩,h1,h2⟩))
 go_ret
 exact⟨rfl,⟨⟨0,[],h1,by simp[lg]⟩,by simp⟩,h2⟩
end
section
variable {B:Nat}{w w':World}{s nx most o:Nat}{sv:Value}{P R:List En}
theorem _root_.Go.Proofs.YtecnpoigegiooaaGreatDoor.Rw.Api.other {B:Nat} {w w':World} {v:Value} {ps:List (Cel×Value)} (h:Api B w v ps) {k:Nat} {t:TypeId} (ho:A0 [k] w w') (ht:Typ w k t) (h1:57≠t) (h2:21≠t):Api B w' v ps :=
 h.fr (Fr.I9 (B:=0) (ts:=[t]) ho (fun x hx _=>by
  obtain rfl:x=k:=by simpa using hx
  exact⟨Nat.zero_le _,t,by simp,ht⟩)) (by simpa using h1) (by simpa using h2)
def Cnh(w:World)(e0:En)(e:Ending)(w':World):Prop:=∃g2 ps,e=.returned (.tuple #[.agg #[.int .i64 e0.id,.slice (some ⟨g2,0,none⟩) e0.l.length e0.l.length],.int .i64 0])/\Api w.heap.size w' (.slice (some ⟨g2,0,none⟩) e0.l.length e0.l.length) ps/\ps.map (·.1)=e0.l/\Below w.heap.size w w'/\w.heap.size<=g2
theorem Cnp(h:SX B w s nx most sv R)(i:Nat)(hi:i<R.length):Calls prog 95 #[.pointer (some ⟨s,0,none⟩),.int .i64 i] w (Cnh w R[i]):=by
 obtain⟨⟨o,P,h0,rfl⟩,hg⟩:=h
 have hi':i<P.length:=by rwa [Awi]at hi
 have hbn:=A3 w (.cells #[.int .i64 0,.slice none 0 0] 77)
 have h1:=h0.only (A0.A1 hbn []) (by simp) (by simp)
 have hm:=J0 (Apu h1)
 have hh:=Ckp h1 i
 have hbx:Block (w.alloc (.cells #[.int .i64 0,.slice none 0 0] 77)) w.heap.size 77 #[.int .i64 0,.slice none 0 0]:=Block.made w _ _
 rw[show decide (0<=(i:Int)/\(i:Int)<(P.length:Int))=true from decide_eq_true (by omega)]at hh
 have hl:=Acm h1 i hi' _ (List.getElem?_eq_getElem hi)
 obtain⟨hgd,q1,q2,n,cap,tail,A6⟩:=hg _ (List.getElem_mem hi)
 clear q1 q2
 generalize (lg P o)[i]=e0 at hl A6 hgd |-
 have h4:=fun c hc=>(hgd.cell c hc).four
 have hn:=A6.len
 replace hh:=J0 hh
 replace hl:=J0 hl
 replace hbn:=J0 hbn
 replace hbx:=J0 hbx
 replace A6:=J0 A6
 clear h0 h1 hg hi hi'
 go_enter func95,ntmps95
 go_wp2_with (first
  |(go_at_call 79;(with_reducible refine(hm.out).mono ?_);rintro e w' ⟨rfl,rfl⟩)
  |(go_at_call 144;(with_reducible refine(hh.out).mono ?_);rintro e w' ⟨rfl,rfl⟩)
  |(go_at_call 145;(with_reducible refine(hl.out).mono ?_);rintro e w1 ⟨rfl,hb1⟩))
 have Asj:Below w.heap.size w w1:=A2 hbn.out hb1
 have hal:=A2 Asj (A3 w1 (.cells #[.int .i64 e0.id,.pointer (some ⟨e0.d,0,none⟩)] 188))
 have hb4:=(hbx.out.only (A0.A1 hb1 []) (by simp)).alloc (.cells #[.int .i64 e0.id,.pointer (some ⟨e0.d,0,none⟩)] 188)
 have hb6:=Block.made w1 188 #[.int .i64 e0.id,.pointer (some ⟨e0.d,0,none⟩)]
 have hne:=Block.apart hb4 hb6 (by decide)
 have Ctm:w.heap.size<=w1.heap.size:=Asj.size
 generalize w1.alloc (.cells #[.int .i64 e0.id,.pointer (some ⟨e0.d,0,none⟩)] 188)=w2 at hal hb4 hb6 |-
 generalize w1.heap.size=b6 at hb6 hne Ctm |-
 obtain⟨b4,Asf⟩:∃b4,b4=w.heap.size:=⟨_,rfl⟩
 rw[<- Asf]at hb4 hne
 rw[<- Asf]
 have hdr:Below w2.heap.size w2 w2.drew:=C7 (Below.refl _ _) 1
 have hcs:=Bhn (A6.out.below (A2 hal hdr)) h4
 rw[<- hn]at hcs
 have c0:=hb6.cell 0 rfl
 have c1:=hb6.cell 1 rfl
 have hk4:=J0 (fun w' (hb:Below w2.heap.size w2 w')=>hb4.only (A0.A1 hb []) (by simp))
 have hk6:=fun w' (hb:Below w2.heap.size w2 w')=>hb6.only (A0.A1 hb []) (by simp)
 have hs6:=fun w' (hb:Below w2.heap.size w2 w') (x y:Value)=>(hk6 w' hb).only ((A0.setCell w' ⟨b4,0,none⟩ x).trans (A0.setCell _ ⟨b4,1,none⟩ y)) (by simpa using Ne.symm hne)
 have hS6:=J0 (fun w' (hb:Below w2.heap.size w2 w')=>And.intro ((hk6 w' hb).cell 0 rfl) ((hk6 w' hb).cell 1 rfl))
 have hT6:=J0 (fun w' (hb:Below w2.heap.size w2 w') (x y:Value)=>And.intro ((hs6 w' hb x y).cell 0 rfl) ((hs6 w' hb x y).cell 1 rfl))
 replace hcs:=J0 hcs
 replace hal:=J0 hal
 replace hdr:=J0 hdr
 replace Asf:=J0 Asf
 clear A6 hb4 hb6 hk6 hs6 hb1 Asj hl hh hm hbn hbx h4 hn hgd
 generalize hL:e0.l.length=n1 at hcs |-
 go_region_held3 (fun w'=>w'.cell? ⟨b6,0,none⟩=some (.int .i64 e0.id)/\w'.cell? ⟨b6,1,none⟩=some (.pointer (some ⟨e0.d,0,none⟩)))
  (first|exact⟨c0,c1⟩|exact hS6.out _ hb3.out|exact hT6.out _ hb3.out _ _)
  (first
   |(go_at_call 72;(with_reducible refine hcs.out.mono ?_);rintro e w3 ⟨g2,ps,rfl,hA,Aos,hb3',hg2⟩;have hb3:=J0 (A2 hdr.out hb3');have hbk:=hk4.out _ hb3.out;have f0:=hbk.free 0;have f1:=hbk.free 1;have k0:=hbk.cell 0 rfl;have k1:=hbk.cell 1 rfl))
 go_wp2
 have ho4:A0 [b4] w3 ((w3.setCell ⟨b4,0,none⟩ (.int .i64 e0.id)).setCell ⟨b4,1,none⟩ (.slice (some ⟨g2,0,none⟩) n1 n1)):=(A0.setCell w3 ⟨b4,0,none⟩ _).trans (A0.setCell _ ⟨b4,1,none⟩ _)
 have Alh:=A2 hal.out hb3.out
 have hsz:=Alh.size
 have hA4:=(hA.other ho4 (Block.typ hbk) (by decide) (by decide)).lower (B':=w.heap.size) (by have:=hal.out.size;simp;omega)
 exact bodyPost_ret (Atf rfl _ _ b4 _ rfl (Bce hbk _ _) underlying77 rfl Crw) rfl ⟨g2,ps,by rw[hL];rfl,by rw[hL];exact hA4,Aos,Alh.trans (ho4.below hsz (by have:=Asf.out;simp;omega)),by have:=hal.out.size;simp at hg2;omega⟩
end
section
variable {B:Nat}{w w':World}{s nx most o:Nat}{sv:Value}{P R:List En}
def Aab(n:Nat)(a:At):List Cel:=M0 (List.replicate n (clr zeroAt)) 0 n a
theorem Buw(n:Nat)(a:At):Rw.Good (Aab n a):=(Bjh n).era _ _ _
theorem Bxn(n:Nat)(a:At):(Aab n a).length=n:=by unfold Aab;rw[Apo,List.length_replicate]
def Bzb(B:Nat)(w:World)(s nx most:Nat)(sv:Value)(R:List En)(l:List Cel)(e:Ending)(w':World):Prop :=
 ∃d g,e=.returned (.tuple #[.agg #[.int .i64 nx,.pointer (some ⟨d,0,none⟩)],.int .i64 0])/\SX B w' s (nx+1) most sv R/\O4 w.heap.size w' ⟨nx,d,g,0,l⟩/\A0 [s] w w'
theorem SX.lt(h:SX B w s nx most sv R):s<w.heap.size:=by
 obtain⟨⟨o,P,h0,_⟩,_⟩:=h
 exact h0.blk.lt
theorem Bid(h:SX B w s nx most sv R):Calls prog 79 #[.pointer (some ⟨s,0,none⟩)] w fun e w'=>e=.returned (.bool true)/\w=w':=by
 obtain⟨⟨o,P,h0,hR⟩,hg⟩:=h
 exact Apu h0
theorem Cmw(h:SX B w s nx most sv R)(hx:nx<10000000000):Calls prog 149 #[.pointer (some ⟨s,0,none⟩)] w fun e w'=>e=.returned (.int .i64 nx)/\SX B w' s (nx+1) most sv R/\A0 [s] w w':=by
 have ht:=h.typ
 obtain⟨⟨o,P,h0,hR⟩,hg⟩:=h
 refine(Bbd h0 hx).mono ?_
 rintro e w' ⟨he,h1,ho⟩
 exact⟨he,⟨⟨o,P,h1,hR⟩,fun e he=>(hg e he).only ho (V0 (hg e he).typ.1 ht (by decide)) (V0 (hg e he).typ.2 ht (by decide))⟩,ho⟩
theorem Caj(h:SX B w s nx most sv R)(hx:nx<10000000000)(n:Nat)(hn:1<=n)(hn5:n<=512)(a:At):Calls prog 105 #[.pointer (some ⟨s,0,none⟩),.int .i64 n,.agg #[.int .u32 a.f,.int .u32 a.b,.int .u16 a.g]] w (Bzb B w s nx most sv R (Aab n a)):=by
 have hgd:=Buw n a
 have hE:∀ {w d g} (hr:B7 w d g n n [] (List.replicate n (clr zeroAt))),Calls prog 148 #[.pointer (some ⟨d,0,none⟩),.int .i64 0,.int .i64 n,.agg #[.int .u32 a.f,.int .u32 a.b,.int .u16 a.g]] w (Ahq w d g n n [] (Aab n a) (.int .i64 0)):=fun hr=>by
  have:=Bhr hr (Bjh n).whole 0 n a
  unfold Aab M0
  rw[List.length_replicate]
  exact this
 generalize Aab n a=fl0 at hgd hE |-
 obtain⟨af,ab,ag⟩:=a
 have hb1:=A3 w (.cells #[.int .u32 af,.int .u32 ab,.int .u16 ag] 51)
 have hbn:Below w.heap.size w ((w.alloc (.cells #[.int .u32 af,.int .u32 ab,.int .u16 ag] 51)).alloc (.cells #[.int .i64 0,.pointer none] 188)):=A2 hb1 (A3 _ _)
 have hm:=Bid (h.below hbn)
 have hba:=(Block.made w 51 #[.int .u32 af,.int .u32 ab,.int .u16 ag]).alloc (.cells #[.int .i64 0,.pointer none] 188)
 have hbl:=Block.made (w.alloc (.cells #[.int .u32 af,.int .u32 ab,.int .u16 ag] 51)) 188 #[.int .i64 0,.pointer none]
 simp only[World.size_alloc]at hbl
 have hN:=J0 (fun w=>Rw.Avs n hn hn5 w)
 have hws:Hid (∀w',Below w.heap.size w w'->SX B w' s nx most sv R):=J0 (fun w' hb=>h.below hb)
 have hlt:=h.lt
 have Aou:=fun g hg=>(h.Aci g hg).2.1
 replace hm:=J0 hm
 replace hba:=J0 hba
 replace hbl:=J0 hbl
 replace hbn:=J0 hbn
 clear h hb1
 simp only at hE
 go_enter func105,ntmps105
 go_wp2_with (first
  |(go_at_call 79;(with_reducible refine(hm.out).mono ?_);rintro e w' ⟨rfl,rfl⟩)
  |(go_at_call 147;(with_reducible refine(hN.out _).mono ?_);rintro e w1 ⟨d,g,rfl,hr1,Bdx,hd1,hg1⟩;have Bdv:=hba.out.only (A0.A1 Bdx []) (by simp);have Akd:=hbl.out.only (A0.A1 Bdx []) (by simp);have a0:=Bdv.cell 0 rfl;have a1:=Bdv.cell 1 rfl;have a2:=Bdv.cell 2 rfl;have Asj:=A2 hbn.out Bdx)
  |(go_at_call 148;(with_reducible refine(hE hr1).mono ?_);rintro e w2 ⟨rfl,hr2,ho2⟩;have Ash:=Akd.only ho2 (V0 (Block.typ Akd) (Block.typ hr1.row) (by decide));have Bqv:=Adp Asj ho2 (by simp at hg1;omega);have ht:=hws.out _ Bqv)
  |(go_at_call 149;(with_reducible refine(Cmw ht hx).mono ?_);rintro e w3 ⟨rfl,hS3,ho3⟩;have Ake:=Ash.only ho3 (V0 (Block.typ Ash) ht.typ (by decide));have l0:=Ake.cell 0 rfl;have l1:=Ake.cell 1 rfl;have f0:=Ake.free 0;have f1:=Ake.free 1))
 have ho4:A0 [w.heap.size+1] w3 ((w3.setCell ⟨w.heap.size+1,0,none⟩ (.int .i64 nx)).setCell ⟨w.heap.size+1,1,none⟩ (.pointer (some ⟨d,0,none⟩))):=(A0.setCell w3 ⟨w.heap.size+1,0,none⟩ _).trans (A0.setCell _ ⟨w.heap.size+1,1,none⟩ _)
 have hS4:SX B _ s (nx+1) most sv R:=hS3.only ho4 (V0 hS3.typ (Block.typ Ake) (by decide)) (fun x hx hm=>by
  have h1:=Aou x hx
  simp at hm
  omega) (fun e he=>⟨V0 (hS3.2 e he).typ.1 (Block.typ Ake) (by decide),V0 (hS3.2 e he).typ.2 (Block.typ Ake) (by decide)⟩)
 have hds:d∉[s]:=by simp at hd1;simp;omega
 have hgs:g∉[s]:=by simp at hg1;simp;omega
 have hr4:=(hr2.kept ho3 hds hgs).kept ho4 (by simp at hd1;simp;omega) (by simp at hg1;simp;omega)
 refine bodyPost_ret (Atf rfl _ _ (w.heap.size+1) _ rfl (Bce Ake _ _) underlying188 rfl Bpo) rfl ⟨d,g,rfl,hS4,⟨hgd,by simp at hd1;simp;omega,by simp at hg1;simp;omega,n,n,[],hr4⟩,?_⟩
 exact((A0.A1 Bqv [s]).trans ho3).then ho4 (fun k hk=>.inr (by simp at hk;omega))
end
section
variable {B:Nat}{w w':World}{s nx most o:Nat}{sv:Value}{P R:List En}
theorem Cig(h:SX B w s nx most sv R)(id:Int):Calls prog 302 #[.pointer (some ⟨s,0,none⟩),.int .i64 id] w fun e w'=>e=.returned (.bool (decide (1<=id/\id<nx)))/\w=w':=by
 obtain⟨⟨o,P,h0,hR⟩,hg⟩:=h
 exact Ccq h0 id
def Bak(B:Nat)(w:World)(s nx most:Nat)(sv:Value)(R:List En)(id:Int)(dr:Nat)(l:List Cel)(e:Ending)(w':World):Prop :=
 ∃sv' d g,e=.returned (.int .i64 0)/\SX B w' s nx most sv' (O2 most R ⟨id,d,g,dr,l⟩)/\w.heap.size<=d/\w.heap.size<=g/\A0 (s::sv.ownBlock.toList) w w'/\(sv'.ownBlock=sv.ownBlock\/∃g,sv'.ownBlock=some g/\w.heap.size<=g)
theorem Cpr{w1:World}{id:Int}{d g dr n cap:Nat}{tail:List Value}{l:List Cel}(h:SX B w s nx most sv R)(hb:Below w.heap.size w w1)(hr:B7 w1 d g n cap tail l)(hgd:Rw.Good l)(hd:w.heap.size<=d)(hg:w.heap.size<=g)
  (hp:Ads B w1 s nx most sv (O2 most R ⟨id,d,g,dr,l⟩) w'):Bak B w s nx most sv R id dr l (.returned (.int .i64 0)) w':=by
 obtain⟨sv',o',P',h1,h2,h3,h4⟩:=hp
 have hw1:=h.below hb
 have hB:B<=w.heap.size:=by
  obtain⟨⟨o,P,h0,_⟩,_⟩:=h
  exact Nat.le_trans h0.lo (Nat.le_of_lt h0.blk.lt)
 have S3:∀ {k:Nat} {t:TypeId},Typ w1 k t->136≠t->188≠t->k∉s::sv.ownBlock.toList:=fun {k t} ht n1 n2 hm=>by
  rcases List.mem_cons.1 hm with rfl|hm
  ·exact n1 (Typ.inj hw1.typ ht)
  ·exact n2 (Typ.inj (hw1.Aci k (by simpa using hm)).2.2 ht)
 refine⟨sv',d,g,rfl,⟨⟨o',P',h1,h2⟩,fun e he=>?_⟩,hd,hg,(A0.A1 hb _).trans h3,h4.imp (fun x=>x) fun⟨g,e,hg⟩=>⟨g,e,Nat.le_trans hb.size hg⟩⟩
 rcases Bin he with he|rfl
 ·exact(hw1.2 e he).only h3 (S3 (hw1.2 e he).typ.1 (by decide) (by decide)) (S3 (hw1.2 e he).typ.2 (by decide) (by decide))
 ·exact⟨hgd,Nat.le_trans hB hd,Nat.le_trans hB hg,n,cap,tail,hr.kept h3 (S3 (Block.typ hr.ptr) (by decide) (by decide)) (S3 (Block.typ hr.row) (by decide) (by decide))⟩
theorem Cgw(h:SX B w s nx most sv R)(id:Int)(hid:1<=id/\id<nx)(dr:Nat){d g n cap:Nat}{tail:List Value}{l:List Cel}(hr:B7 w d g n cap tail l)(hgd:Rw.Good l):Calls prog 293 #[.pointer (some ⟨s,0,none⟩),.agg #[.int .i64 id,.pointer (some ⟨d,0,none⟩)]] w (Bak B w s nx most sv R id dr l):=by
 have hbn:=A3 w (.cells #[.int .i64 id,.pointer (some ⟨d,0,none⟩)] 188)
 have hbx:=fun q=>(Block.made w 188 #[.int .i64 id,.pointer (some ⟨d,0,none⟩)]).only (A0.drewN [] _ q) (by simp)
 have hm:=Bid (h.below hbn)
 have hl:=fun q=>Aas (hr.below (C7 hbn q))
 have ht:=fun q=>Cig (h.below (C7 hbn q)) id
 have Aal:=hr.pos
 have hn0:((n:Int)==0)=false:=beq_eq_false_iff_ne.2 (by omega)
 rw[show decide (1<=id/\id<(nx:Int))=true from decide_eq_true hid]at ht
 replace hm:=J0 hm
 replace hl:=J0 hl
 replace ht:=J0 ht
 replace hbn:=J0 hbn
 replace hbx:=J0 hbx
 have h':=J0 h
 have hr':=J0 hr
 have hlt:=h.lt
 clear h hr hid
 go_enter func293,ntmps293
 go_wp2_with((go_at_call 79;(with_reducible refine(hm.out).mono ?_);rintro e w' ⟨rfl,rfl⟩))
 go_quiet ((first|(go_at_call 99;with_reducible exact Aft (hl.out _))|(go_at_call 302;with_reducible exact Aft (ht.out _))))
 go_wp2
 have hb0:=hbx.out nq
 have hl0:=C7 hbn.out nq
 have hbl:=hb0.lt
 generalize (w.alloc (.cells #[.int .i64 id,.pointer (some ⟨d,0,none⟩)] 188)).drewN nq=w0 at hb0 hl0 hbl |-
 obtain⟨bx,D2⟩:∃bx,bx=w.heap.size:=⟨_,rfl⟩
 rw[<- D2]at hb0 hbl
 rw[<- D2]
 have Beh:=h'.out.below hl0
 have hdr:Below w0.heap.size w0 w0.drew:=C7 (Below.refl _ _) 1
 have hcp:=Cdt ((hr'.out.below hl0).below hdr)
 have hk:=fun w' (hb:Below w0.heap.size w0 w')=>hb0.only (A0.A1 hb []) (by simp)
 have hS:=fun w' (hb:Below w0.heap.size w0 w')=>And.intro ((hk w' hb).cell 0 rfl) ((hk w' hb).cell 1 rfl)
 have c0:=hS w0 (Below.refl _ _)
 have E1:∀W,Below w0.heap.size w0 W->∀d1 g1,Calls prog 303 #[.pointer (some ⟨s,1,none⟩),.agg #[.int .i64 id,.pointer (some ⟨d1,0,none⟩)]] W fun e w'=>((∃v,e=.returned v)/\Ads B W s nx most sv (O2 most R ⟨id,d1,g1,dr,l⟩) w')/\w'.cell? ⟨bx,0,none⟩=some (.int .i64 id)/\w'.cell? ⟨bx,1,none⟩=some (.pointer (some ⟨d,0,none⟩)):=by
  intro W hb d1 g1
  have hs:=Beh.below hb
  have hO:bx∉s::sv.ownBlock.toList:=fun hm=>by
   rcases List.mem_cons.1 hm with e|hm
   ·omega
   ·have:=(h'.out.Aci bx (by simpa using hm)).2.1
    omega
  obtain⟨⟨o,P,h0,hR⟩,hg⟩:=hs
  have:=Ald h0 ⟨id,d1,g1,dr,l⟩
  rw[hR]at this
  refine this.mono fun e w' hh=>?_
  obtain⟨hv,sv',o',P',q1,q2,q3,q4⟩:=hh
  have hbk:=(hk W hb).only q3 hO
  exact⟨⟨hv,sv',o',P',q1,q2,q3,q4⟩,hbk.cell 0 rfl,hbk.cell 1 rfl⟩
 replace E1:=J0 E1
 replace hdr:=J0 hdr
 replace hcp:=J0 hcp
 replace hS:=J0 hS
 replace hl0:=J0 hl0
 replace Beh:=J0 Beh
 replace D2:=J0 D2
 replace hgd:=J0 hgd
 clear hm hl ht hbn hbx hk hb0
 obtain⟨c0,c1⟩:=c0
 go_region_held3 (fun w'=>w'.cell? ⟨bx,0,none⟩=some (.int .i64 id)/\w'.cell? ⟨bx,1,none⟩=some (.pointer (some ⟨d,0,none⟩)))
  (first|exact⟨c0,c1⟩|exact hS.out _ hb2.out|exact⟨z0,z1⟩)
  (first
   |(go_at_call 304;(with_reducible refine hcp.out.mono ?_);rintro e w2 ⟨d1,g1,cap1,tail1,rfl,hr2,hb2',hd1,hg1⟩;have hb2:=J0 (A2 hdr.out hb2'))
   |(go_at_call 303;(with_reducible refine(E1.out _ hb2.out d1 g1).mono ?_);rintro e w3 ⟨⟨⟨v3,rfl⟩,hp3⟩,z0,z1⟩))
 have A4:=J0 (Cpr h'.out (A2 hl0.out hb2.out) hr2 hgd.out (by have:=hl0.out.size;simp at hd1;omega) (by have:=hl0.out.size;simp at hg1;omega) hp3)
 clear hp3 hr2 z0 z1
 go_wp2
 go_ret
 exact A4.out
end
end Go.Proofs.YtecnpoigegiooaaGreatDoor.Lns
namespace Go.Proofs.YtecnpoigegiooaaGreatDoor.Scn
open Tryz
open Go Rw Lns
abbrev Ln:=Int×List Cel
structure Scr where
 nx:Nat
 most:Nat
 kp:Bool
 cols:Nat
 top:Nat
 bot:Nat
 L:List Ln
 R:List Ln
def vw(L:List En):List Ln:=L.map fun e=>(e.id,e.l)
theorem Ahv(L:List En):(vw L).length=L.length:=List.length_map _
def R5(nx cols m:Nat)(a:At):List Ln:=(List.range m).map fun(j:Nat)=>((nx:Int)+(j:Int),Aab cols a)
theorem Agy(nx cols m:Nat)(a:At):(R5 nx cols m a).length=m:=by simp[R5]
theorem Bux(nx cols m:Nat)(a:At):R5 nx cols (m+1) a=R5 nx cols m a++[((nx:Int)+(m:Int),Aab cols a)]:=by simp[R5,List.range_succ]
section
variable {α β:Type}
def P7(A:List α)(f k:Nat):List α:=A.take f++A.drop (f+k)
def Z6(A:List α)(i:Nat)(F:List α):List α:=A.take i++(F++A.drop i)
theorem Bay(A:List α){f k:Nat}(h:f+k<=A.length):(P7 A f k).length=A.length-k:=by simp[P7];omega
theorem Bjm(A:List α)(i:Nat)(F:List α):(Z6 A i F).length=A.length+F.length:=by simp[Z6];omega
theorem Cgr(g:α->β)(A:List α)(f k:Nat):(P7 A f k).map g=P7 (A.map g) f k:=by simp[P7,List.map_take,List.map_drop]
theorem Bjz{A:List α}{f k:Nat}{x:α}(h:x∈P7 A f k):x∈A:=by
 rcases List.mem_append.1 h with h|h
 ·exact List.mem_of_mem_take h
 ·exact List.mem_of_mem_drop h
theorem Cgs(A:List α)(f k:Nat):(P7 A f k).Sublist A:=by
 have:A=A.take f++A.drop f:=(List.take_append_drop f A).symm
 conv=>rhs;rw[this]
 refine List.Sublist.append (List.Sublist.refl _) ?_
 rw[<- List.drop_drop]
 exact List.drop_sublist _ _
end
def Ahu(most:Nat)(R ls:List Ln):List Ln:=ls.foldl (O2 most) R
theorem Bvm(most:Nat)(R ls:List Ln)(x:Ln):Ahu most R (ls++[x])=O2 most (Ahu most R ls) x:=by simp[Ahu]
def chg(S:Scr)(f k i m:Nat)(a:At)(push:Bool):Scr :=
 { S with nx:=S.nx+m,L:=Z6 (P7 S.L f k) i (R5 S.nx S.cols m a),R:=if push then Ahu S.most S.R ((S.L.drop f).take k)else S.R }
def upS(S:Scr)(frm:Nat)(n:Int)(a:At)(push:Bool):Scr :=
 chg S frm (A9 n (S.bot+1-frm)) (S.bot+1-A9 n (S.bot+1-frm)) (A9 n (S.bot+1-frm)) a push
def L3(S:Scr)(tq:Nat)(n:Int)(a:At):Scr :=
 chg S (S.bot+1-A9 n (S.bot+1-tq)) (A9 n (S.bot+1-tq)) tq (A9 n (S.bot+1-tq)) a false
def Awy(S:Scr):Scr:={ S with top:=0,bot:=S.L.length-1 }
def Aa2(S:Scr)(i:Nat)(l:List Cel):Scr:={ S with L:=S.L.modify i fun p=>(p.1,l) }
structure Fit(S:Scr):Prop where
 len:1<=S.L.length
 G8:S.L.length<=512
 bot:S.bot<S.L.length
 top:S.top<=S.bot
 c1:1<=S.cols
 c5:S.cols<=512
 wid:∀p∈S.L,p.2.length=S.cols
 ids:∀p∈S.L,1<=p.1/\p.1<S.nx
 pos:1<=S.nx
def L6(L:List Ln)(i:Int):Int:=if 0<=i/\i<L.length then((L[i.toNat]?).map (·.1)).getD 0 else 0
theorem Blp{L:List Ln}{i:Nat}(h:i<L.length):L6 L i=L[i].1:=by
 unfold L6
 rw[if_pos (by omega)]
 simp[h]
theorem Atu{nx cols m:Nat}{a:At}{p:Ln}(h:p∈R5 nx cols m a):p.2.length=cols/\(nx:Int)<=p.1/\p.1<(nx:Int)+(m:Int):=by
 obtain⟨j,hj,rfl⟩:=List.mem_map.1 h
 have:=List.mem_range.1 hj
 exact⟨Bxn _ _,by show(nx:Int)<=(nx:Int)+(j:Int);omega,by show(nx:Int)+(j:Int)<_;omega⟩
theorem Box{S:Scr}{f k i m:Nat}{a:At}{push:Bool}:(chg S f k i m a push).L=Z6 (P7 S.L f k) i (R5 S.nx S.cols m a):=rfl
theorem Avk{S:Scr}{f k i m:Nat}{a:At}{push:Bool}(h:f+k<=S.L.length):(chg S f k i m a push).L.length=S.L.length-k+m:=by
 rw[Box,Bjm,Bay _ h,Agy]
theorem Ble{S:Scr}{f k i m:Nat}{a:At}{push:Bool}{p:Ln}(h:p∈(chg S f k i m a push).L):p∈S.L\/p∈R5 S.nx S.cols m a:=by
 rw[Box]at h
 rcases List.mem_append.1 h with h|h
 ·exact .inl (Bjz (List.mem_of_mem_take h))
 ·rcases List.mem_append.1 h with h|h
  ·exact .inr h
  ·exact .inl (Bjz (List.mem_of_mem_drop h))
theorem Cjf{S:Scr}(hF:∀p∈S.L,p.2.length=S.cols){f k i m:Nat}{a:At}{push:Bool}:∀p∈(chg S f k i m a push).L,p.2.length=S.cols:=fun p hp=>by
 rcases Ble hp with hp|hp
 ·exact hF p hp
 ·exact(Atu hp).1
theorem Cje{S:Scr}(hF:∀p∈S.L,1<=p.1/\p.1<S.nx)(hp1:1<=S.nx){f k i m:Nat}{a:At}{push:Bool}:∀p∈(chg S f k i m a push).L,1<=p.1/\p.1<((S.nx+m:Nat):Int):=fun p hp=>by
 rcases Ble hp with hp|hp
 ·have:=hF p hp
  omega
 ·have:=Atu hp
  omega
theorem Aje(n:Int)(m:Nat):A9 n m<=m:=Nat.min_le_right _ _
theorem Fit.chg{S:Scr}(h:Fit S){f k i:Nat}(hf:f+k<=S.L.length)(a:At)(push:Bool):Fit (Scn.chg S f k i k a push):=by
 have hl:=Avk (S:=S) (i:=i) (m:=k) (a:=a) (push:=push) hf
 have h1:=h.bot
 have h2:=h.len
 have h3:=h.G8
 refine⟨by rw[hl];omega,by rw[hl];omega,?_,h.top,h.c1,h.c5,Cjf h.wid,Cje h.ids h.pos,Nat.le_trans h.pos (Nat.le_add_right _ _)⟩
 rw[hl]
 show S.bot<_
 omega
theorem Fit.up{S:Scr}(h:Fit S){frm:Nat}(hf:frm<=S.bot)(n:Int)(a:At)(push:Bool):Fit (upS S frm n a push) :=
 h.chg (by have:=Aje n (S.bot+1-frm);have:=h.bot;omega) a push
theorem Fit.down{S:Scr}(h:Fit S){tq:Nat}(hf:tq<=S.bot)(n:Int)(a:At):Fit (L3 S tq n a) :=
 h.chg (by have:=Aje n (S.bot+1-tq);have:=h.bot;omega) a false
