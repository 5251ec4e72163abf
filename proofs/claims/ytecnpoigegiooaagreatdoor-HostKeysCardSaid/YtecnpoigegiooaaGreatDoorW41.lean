/- Part 41 of HostKeys. -/
import Derived.Test.YtecnpoigegiooaaGreatDoorW40
set_option maxHeartbeats 16000000
set_option maxRecDepth 100000
namespace Go.Proofs.YtecnpoigegiooaaGreatDoor.Emu
open Go.Proofs.Tryz
open Go RowKit Com Rw Lns Scn
abbrev Abv:=Int×Abc
def Aay(p:Abv):List Value:=[.int .i64 p.1,.slice (some ⟨p.2.1,0,none⟩) p.2.2.length p.2.2.length]
theorem Ayi(p:Abv):(Aay p).length=2:=rfl
theorem Cat(p:Abv):∀v∈Aay p,v.oneCell'=true:=by
 intro v hv
 simp only[Aay,List.mem_cons,List.not_mem_nil,or_false]at hv
 rcases hv with rfl|rfl<;>rfl
theorem Coi:Abu prog 74 77 (.agg #[.int .i64 0,.slice none 0 0]) 2:=by
 have h:(prog.info? 77).map (fun i=>(i.zero,i.size,decide (i.bytes<=100)))=some (some (.agg #[.int .i64 0,.slice none 0 0]),2,true):=by kernel_rfl
 refine⟨underlying74,?_,rfl,by omega⟩
 cases hq:prog.info? 77 with
 |none=>simp[hq]at h
 |some i =>
  simp only[hq,Option.map_some,Option.some.injEq,Prod.mk.injEq,decide_eq_true_eq]at h
  exact⟨i,rfl,h.1,h.2.1,h.2.2⟩
structure Aex(B:Nat)(w:World)(v:Value)(hs:List Abv):Prop where
 rows:w.ownsRow B 77 2 v hs.length (fl Aay hs)
 Aff:∀p∈hs,Api B w (.slice (some ⟨p.2.1,0,none⟩) p.2.2.length p.2.2.length) p.2.2
def Aox(p:Abv):Ln:=(p.1,p.2.2.map (·.1))
section
variable {B:Nat}{w w' wa w2 wc:World}{v v2:Value}{hs:List Abv}{k:Nat}{R:List Ln}
theorem Aex.fr{B':Nat}{ts:List TypeId}(h:Aex B w v hs)(hf:Rw.Fr B' ts w w')(h1:77∉ts)(h3:57∉ts)(h4:21∉ts):Aex B w' v hs :=
 ⟨Amr h.rows hf h1,fun p hp=>(h.Aff p hp).fr hf h3 h4⟩
theorem Aex.below(h:Aex B w v hs)(hb:Below w.heap.size w w'):Aex B w' v hs:=h.fr (Rw.Fr.A1 (B:=0) (ts:=[]) hb) (by simp) (by simp) (by simp)
structure Ail(w wr:World)(R:List Ln)(k:Nat)(v:Value)(hs:List Abv):Prop where
 below:Below w.heap.size w wr
 back:Aex w.heap.size wr v hs
 len:hs.length=k
 got:hs.map Aox=R.take k
theorem Ail.on(h:Ail w wa R k v hs)(hb:Below wa.heap.size wa w2):Ail w w2 R k v hs:=⟨A2 h.below hb,h.back.below hb,h.len,h.got⟩
theorem Ail.more(h:Ail w wa R k v hs){g2:Nat}{ps:List (Cel×Value)}(hk:k<R.length)(hbc:Below wa.heap.size wa wc)(hA:Api w.heap.size wc (.slice (some ⟨g2,0,none⟩) ps.length ps.length) ps)(hm:ps.map (·.1)=R[k].2)
  (C0:w2.ownsRow w.heap.size 77 2 v2 (k+1) (fl Aay hs++Aay (R[k].1,g2,ps))) (ho:A0 v.ownBlock.toList wc w2):Ail w w2 R (k+1) v2 (hs++[(R[k].1,g2,ps)]):=by
 have hc:=h.on hbc
 have ht:∀g,v.ownBlock=some g->Typ wc g 77:=M4 hc.back.rows
 have hf:Rw.Fr 0 [77] wc w2:=Rw.Fr.I9 ho fun k hk _=>⟨Nat.zero_le _,_,by simp,ht k (by simpa using hk)⟩
 have N1:∀g,v.ownBlock=some g->w.heap.size<=g:=fun g hg=>(World.ownsRow.lt hc.back.rows g hg).1
 have hbl:Below w.heap.size w w2:=hc.below.trans (ho.below hc.below.size fun k hk=>N1 k (by simpa using hk))
 refine⟨hbl,⟨?_,fun p hp=>?_⟩,by simp[h.len],?_⟩
 ·have e:(hs++[(R[k].1,g2,ps)]).length=k+1:=by simp[h.len]
  rw[e,Z9,Acq]
  exact C0
 ·rcases List.mem_append.1 hp with hp|hp
  ·exact(hc.back.Aff p hp).fr hf (by decide) (by decide)
  ·obtain rfl:p=(R[k].1,g2,ps):=by simpa using hp
   exact hA.fr hf (by decide) (by decide)
 ·rw[List.map_append,h.got,Bag hk]
  have e:Aox (R[k].1,g2,ps)=R[k]:=by
   unfold Aox
   simp only[hm]
  simp[e]
end
section
variable {Z Z1:Zn}{w w':World}{d t x s b:Nat}{T:Ter}{P:Pt}{S:Scr}
theorem TMx.Cvb(h:TMx Z w t T P):∃sv R,Sto Z w P.s T.nx T.most sv R/\vw R=T.R:=by
 have hs:=h.scr
 unfold Y0 at hs
 split at hs
 ·obtain⟨sv,lv,L,R,h1,_,h3⟩:=hs
  exact⟨sv,R,Awn h1,h3⟩
 ·obtain⟨sv,R,l1,L1,l2,L2,h1,_,h3,_⟩:=hs
  exact⟨sv,R,Awn h1,h3⟩
theorem Cif{B s nx most:Nat}{sv:Value}{R:List En}(h:SX B w s nx most sv R):R.length<=10000:=by
 obtain⟨⟨o,P,h0,rfl⟩,_⟩:=h
 rw[Awi]
 exact Nat.le_trans h0.le h0.most
theorem Cgi(w6:World)(id:Int)(g2:Nat)(ps:List (Cel×Value)):∀j u,(Aay (id,g2,ps))[j]?=some u->((w6.alloc (.cells #[.int .i64 id,.slice (some ⟨g2,0,none⟩) ps.length ps.length] 77)).alloc (.cells #[.int .i64 id,.slice (some ⟨g2,0,none⟩) ps.length ps.length] 77)).cell? ((⟨w6.heap.size+1,0,none⟩:Addr).add j)=some u:=fun j u hj=>by
 have h:=Block.made (w6.alloc (.cells #[.int .i64 id,.slice (some ⟨g2,0,none⟩) ps.length ps.length] 77)) 77 #[.int .i64 id,.slice (some ⟨g2,0,none⟩) ps.length ps.length]
 rw[World.size_alloc]at h
 rw[Addr.add_lit,Nat.zero_add]
 exact h.cell j (by simpa[Aay]using hj)
def Avg(w:World)(R:List Ln)(e:Ending)(w':World):Prop:=∃v hs,e=.returned v/\Aex w.heap.size w' v hs/\hs.map Aox=R/\Below w.heap.size w w'
def Ctd(w:World)(l:Ln)(e:Ending)(w':World):Prop:=∃g2 ps,e=.returned (.tuple #[.agg #[.int .i64 l.1,.slice (some ⟨g2,0,none⟩) ps.length ps.length],.int .i64 0])/\Api w.heap.size w' (.slice (some ⟨g2,0,none⟩) ps.length ps.length) ps/\ps.map (·.1)=l.2/\Below w.heap.size w w'
theorem Cqw{B nx most:Nat}{sv:Value}{R:List En}(h:SX B w s nx most sv R)(k:Nat)(hk:k<(vw R).length):Calls prog 95 #[.pointer (some ⟨s,0,none⟩),.int .i64 k] w (Ctd w (vw R)[k]):=by
 have hk':k<R.length:=by rwa [Ahv]at hk
 refine(Cnp h k hk').mono ?_
 rintro e w' ⟨g2,ps,rfl,hA,hm,hb,_⟩
 have e1:(vw R)[k]=(R[k].id,R[k].l):=by simp[vw]
 have e2:R[k].l.length=ps.length:=by rw[<- hm,List.length_map]
 rw[e1]
 rw[e2]at hA |-
 exact⟨g2,ps,rfl,hA,hm,hb⟩
theorem Cdj(h:TMx Z w t T P):Calls prog 61 #[.pointer (some ⟨t,0,none⟩)] w (Avg w T.R):=by
 obtain⟨sv,R,hs,hR⟩:=h.Cvb
 have hl5:=Cif hs.st
 have hlen:=J0 (Chw hs.st)
 have hat:=J0 (fun w1 (hb:Below w.heap.size w w1) k hk=>Cqw (hs.st.below hb) k hk)
 have hst:=J0 (fun w1 (hb:Below w.heap.size w w1)=>(h.below hb).c17)
 have c17:=h.c17
 rw[<- Ahv,hR]at hl5
 rw[<- Ahv]at hlen
 rw[hR]at hlen hat
 have Aag:Hid (∀v hs w1,Ail w w1 T.R T.R.length v hs->Avg w T.R (.returned v) w1):=J0 fun v hs w1 g=>⟨v,hs,rfl,g.back,by rw[g.got,List.take_length],g.below⟩
 have Brj:Hid (Ail w w T.R 0 (.slice none 0 0) []):=J0 ⟨Below.refl _ _,⟨World.ownsRow_nil _ _ _ _,fun p hp=>(by cases hp)⟩,rfl,rfl⟩
 generalize T.R=L at *
 generalize hn:L.length=n at hl5 hlen Aag
 replace hn:=J0 hn
 generalize P.s=s at *
 clear h hs hR
 go_enter func61,ntmps61
 go_wp2_with((go_at_call 94;(with_reducible refine(hlen.out).mono ?_);rintro e w1 ⟨rfl,rfl⟩))
 clear hlen c17
 go_loopw [3,12] (fun v i wr=>∃(k:Nat) (hs:List Abv),k<=n/\i=.int .i64 k/\Hid (Ail w wr L k v hs)) (fun _ i _=>n-(intOf i).toNat)
 case atStart=>exact⟨0,[],Nat.zero_le _,rfl,Brj⟩
 case round =>
  obtain⟨k,hs,hk,rfl,hR⟩:=hrel
  clear Brj
  by_cases hlt:k<n
  ·have hkL:k<L.length:=by rw[hn.out];exact hlt
   have hkI:(k:Int)<(n:Int):=by omega
   have hbr:=J0 (fun w2 (hb:Below wr.heap.size wr w2)=>A2 hR.out.below hb)
   have Acw:=hR.out.back.rows
   rw[hR.out.len]at Acw
   replace Acw:=J0 Acw
   have c17:=hst.out _ hR.out.below
   obtain⟨av,cvp,hvs,_,_⟩:=U0 Acw.out
   subst hvs
   go_wp2_with (first
    |(go_at_call 95;(with_reducible refine(hat.out _ hR.out.below k hkL).mono ?_);rintro e w6 ⟨g2,ps,rfl,hA,Aos,hb6⟩);(have hbz:=J0 (hb6.trans ((A3 w6 (.cells #[.int .i64 L[k].1,.slice (some ⟨g2,0,none⟩) ps.length ps.length] 77)).mono hb6.size));have Axm:=J0 (A2 hbz.out (A3 _ (.cells #[.int .i64 L[k].1,.slice (some ⟨g2,0,none⟩) ps.length ps.length] 77)));have hownA:=J0 (Aen Acw.out (A0.A1 Axm.out []) (by simp)))
    |(with_reducible refine J6 27 ?_;go_must(refine Bfy Coi rfl (.tmp 24) (.tmp 26) rfl w.heap.size (.slice av k cvp) k (fl Aay hs) ⟨w6.heap.size+1,0,none⟩ 1 1 (Aay (L[k].1,g2,ps)) rfl rfl hownA.out rfl (Cgi w6 L[k].1 g2 ps) (Cat _) (hbr.out _ Axm.out).size (by omega) ?_);intro v2 w7 L4 ho2 _))
   have hA3:=((hA.lower (B':=w.heap.size) hR.out.below.size).below (A3 w6 (.cells #[.int .i64 L[k].1,.slice (some ⟨g2,0,none⟩) ps.length ps.length] 77))).below (A3 _ (.cells #[.int .i64 L[k].1,.slice (some ⟨g2,0,none⟩) ps.length ps.length] 77))
   have hR2:=J0 (hR.out.more hkL Axm.out hA3 Aos L4 ho2)
   clear L4 ho2 Acw hA3 hownA hbz Axm
   go_roundw
   case rel=>exact⟨k+1,_,by omega,by go_num,hR2⟩
   case measure=>simp[intOf];omega
  ·obtain rfl:k=n:=by omega
   have A4:=J0 (Aag.out _ _ _ hR.out)
   clear Aag hR
   go_wp2
   go_ret
   exact A4.out
end
section
variable {Z:Zn}{w w':World}{d t:Nat}{T:Ter}{P:Pt}{B:Nat}{cv iv:Value}{rs:List Abc}
theorem Ahw.lower{B':Nat}(h:Ahw B w T cv iv rs)(hB:B'<=B):Ahw B' w T cv iv rs:=⟨h.rws.lower hB,h.len,h.got⟩
theorem Ahw.fr{B':Nat}{ts:List TypeId}(h:Ahw B w T cv iv rs)(hf:Rw.Fr B' ts w w')(h1:55∉ts)(h2:3∉ts)(h3:57∉ts)(h4:21∉ts):Ahw B w' T cv iv rs:=⟨h.rws.fr hf h1 h2 h3 h4,h.len,h.got⟩
theorem Ahw.one(h:Ahw B w T cv iv rs):(Q6 cv iv (Ajx T)).all (·.oneCell')=true:=by
 obtain⟨a,c,rfl,_⟩:=U0 h.rws.rows
 obtain⟨a2,c2,rfl,_⟩:=h.rws.ids.shape
 simp[Q6,Ajx,Value.oneCell']
theorem Bxo(cv iv:Value)(T:Ter):(prog.info? 53).map (·.size)=some (Q6 cv iv (Ajx T)).size:=by kernel_rfl
theorem Ccs(h:TV Z w d t T)(ok:Ok T):Calls prog 32 #[.pointer (some ⟨d,0,none⟩)] w (Avh w T):=by
 have hbn:=A3 w (.cells #[.slice none 0 0,.slice none 0 0,.int .i64 0,.int .i64 0,.bool false,.bool false,.bool false,.int .i64 0,.int .i64 0,.int .u32 0,.int .u32 0,.int .u16 0] 53)
 have hbx:=Block.made w 53 #[.slice none 0 0,.slice none 0 0,.int .i64 0,.int .i64 0,.bool false,.bool false,.bool false,.int .i64 0,.int .i64 0,.int .u32 0,.int .u32 0,.int .u16 0]
 have hlt:=hbx.lt
 replace h:=h.below hbn
 generalize hw0:w.alloc (.cells #[.slice none 0 0,.slice none 0 0,.int .i64 0,.int .i64 0,.bool false,.bool false,.bool false,.int .i64 0,.int .i64 0,.int .u32 0,.int .u32 0,.int .u16 0] 53)=w0 at h hbn hbx hlt
 have hm:=J0 (W6 h)
 have cd:=h.blk.cell 0 (v:=.pointer (some ⟨t,0,none⟩)) rfl
 obtain⟨P,hT⟩:=h.tm
 have hg:=J0 (Cez hT ok)
 have Aop:=J0 (fun w1 (hb:Below w0.heap.size w0 w1)=>(Block.only hbx (A0.A1 hb []) (by simp):Block w1 w.heap.size 53 _))
 clear h hT ok
 go_enter func32,ntmps32
 go_wp2_with (first
  |(go_at_call 49;(with_reducible refine(hm.out).mono ?_);rintro e w1 ⟨rfl,rfl⟩)
  |(go_at_call 53;(with_reducible refine(hg.out).mono ?_);rintro e w1 ⟨cv,iv,rs,rfl,hG,hb1⟩);have Aeg:=Aop.out _ hb1;have E0:=hG.one;have B9:=Bxo cv iv T
  |(with_reducible refine J8 2 ?_;go_must(refine L8 rfl _ (.tmp 2) (.tmp 11) rfl Aeg (Q6 cv iv (Ajx T)) rfl rfl B9 (Bgh B9) E0 ?_);intro w8 hb8 ho8))
 have hfr:Rw.Fr 0 [53] w1 w8:=Rw.Fr.I9 ho8 fun k hk _=>by
  obtain rfl:k=w.heap.size:=by simpa using hk
  exact⟨Nat.zero_le _,_,by simp,Block.typ Aeg⟩
 have hb2:Below w.heap.size w w1:=A2 hbn hb1
 exact bodyPost_ret (results_cell_row rfl _ _ _ _ _ _ _ rfl hb8 underlying53 rfl B9) rfl ⟨cv,iv,rs,rfl,(hG.lower (by omega)).fr hfr (by decide) (by decide) (by decide) (by decide),hb2.trans (ho8.below hb2.size fun k hk=>by obtain rfl:k=w.heap.size:=(by simpa using hk);exact J5 _)⟩
theorem Ccr(h:TV Z w d t T):Calls prog 40 #[.pointer (some ⟨d,0,none⟩)] w (Avg w T.R):=by
 have hm:=J0 (W6 h)
 have cd:=h.blk.cell 0 (v:=.pointer (some ⟨t,0,none⟩)) rfl
 obtain⟨P,hT⟩:=h.tm
 have hg:=J0 (Cdj hT)
 generalize T.R=R at hg |-
 clear h hT
 go_enter func40,ntmps40
 go_wp2_with (first
  |(go_at_call 49;(with_reducible refine(hm.out).mono ?_);rintro e w1 ⟨rfl,rfl⟩)
  |(go_at_call 61;(with_reducible refine(hg.out).mono ?_);rintro e w1 ⟨v,hs,rfl,hB,hL,hb1⟩))
 have A4:Avg w R (.returned v) w1:=⟨v,hs,rfl,hB,hL,hb1⟩
 obtain⟨av,cvp,rfl,_⟩:=U0 hB.rows
 replace A4:=J0 A4
 clear hB hL
 go_wp2
 go_ret
 exact A4.out
end
end Go.Proofs.YtecnpoigegiooaaGreatDoor.Emu
namespace Go.Proofs.YtecnpoigegiooaaGreatDoor.Rw
open Go.Proofs.Tryz
open Go RowKit Com
structure Alg(w wr:World)(C C':Array Value)(ao ao':Option Addr)(m:List Int):Prop where
 b1:Block wr w.heap.size 57 C
 b2:Block wr (w.heap.size+1) 57 C'
 n1:A8 wr w.heap.size .i32 ao m
 n2:A8 wr w.heap.size .i32 ao' m
 below:Below w.heap.size w wr
theorem Alg.drawn{w wr:World}{C C':Array Value}{ao ao':Option Addr}{m:List Int}(h:Alg w wr C C' ao ao' m)(q:Nat):Alg w (wr.drewN q) C C' ao ao' m:=by
 have ho:=A0.drewN [] wr q
 exact⟨h.b1.only ho (by simp),h.b2.only ho (by simp),h.n1.only ho h.below.size (by simp),h.n2.only ho h.below.size (by simp),h.below.trans (ho.below h.below.size (by simp))⟩
theorem Alg.start{w:World}{C C':Array Value}{ao ao':Option Addr}{m:List Int}(h1:A8 w w.heap.size .i32 ao m)(h2:A8 w w.heap.size .i32 ao' m):Alg w ((w.alloc (.cells C 57)).alloc (.cells C' 57)) C C' ao ao' m:=by
 refine⟨(Block.made w _ _).alloc _,?_,(h1.alloc (J5 _) _).alloc (by simp) _,(h2.alloc (J5 _) _).alloc (by simp) _,((Below.refl _ _).alloc (J5 _) _).alloc (by simp) _⟩
 have:=Block.made (w.alloc (.cells C 57)) 57 C'
 simpa using this
theorem Btq{B B':Nat}(c:Cel)(v v':Value)(w:World)(h:Own w B 21 .i32 v c.m)(h':Own w B' 21 .i32 v' c.m)(hm:c.m.length<=4):Calls prog 62 #[.agg (I5 c v).toArray,.agg (I5 c v').toArray] w fun e w'=>e=.returned (.bool true)/\Below w.heap.size w w':=by
 obtain⟨ao,cp,rfl,hc1,hc2,Afa⟩:=h.shape
 obtain⟨ao',cp',rfl,hc1',hc2',hnums'⟩:=h'.shape
 obtain⟨r,m,wd,⟨af,ab,ag⟩⟩:=c
 simp only at hm Afa hnums' hc1 hc1' |-
 have hC:∀ao cp,(I5 ⟨r,m,wd,⟨af,ab,ag⟩⟩ (.slice ao m.length cp)).toArray=#[.int .i32 r,.slice ao m.length cp,.int .u8 wd,.int .u32 af,.int .u32 ab,.int .u16 ag]:=fun _ _=>rfl
 rw[hC,hC]
 clear hC h h'
 obtain⟨n,hn⟩:∃n,n=m.length:=⟨_,rfl⟩
 rw[<- hn]at hm hc1 hc1' |-
 have hst:=J0 (Alg.start (C:=#[.int .i32 r,.slice ao n cp,.int .u8 wd,.int .u32 af,.int .u32 ab,.int .u16 ag]) (C':=#[.int .i32 r,.slice ao' n cp',.int .u8 wd,.int .u32 af,.int .u32 ab,.int .u16 ag]) Afa hnums')
 replace hn:=J0 hn
 clear Afa hnums'
 go_enter func62,ntmps62
 go_wp2
 go_loopw [5] (fun i wr=>∃k:Nat,k<=n/\i=.int .i64 k/\Hid (Alg w wr #[.int .i32 r,.slice ao n cp,.int .u8 wd,.int .u32 af,.int .u32 ab,.int .u16 ag] #[.int .i32 r,.slice ao' n cp',.int .u8 wd,.int .u32 af,.int .u32 ab,.int .u16 ag] ao ao' m)) (fun i _=>n-(intOf i).toNat)
 case atStart=>exact⟨0,Nat.zero_le _,rfl,hst⟩
 case round =>
  obtain⟨k,hk,rfl,hR⟩:=hrel
  have hR:=hR.out
  have c1:=hR.b1.cell 1 rfl
  have c2:=hR.b2.cell 1 rfl
  by_cases hlt:k<n
  ·have hkm:k<m.length:=by rw[<- hn.out];exact hlt
   obtain⟨ad,rfl,_,hx⟩:=hR.n1.at hkm
   obtain⟨ad',rfl,_,hx'⟩:=hR.n2.at hkm
   generalize m[k]=y at hx hx'
   have hnx:=J0 (fun q=>hR.drawn q)
   have hki:(k:Int)<(n:Int):=by omega
   clear hR hst
   go_wp2
   go_region
   go_wp2
   go_roundw
   case rel=>exact⟨k+1,by omega,by go_num,J0 (hnx.out 1)⟩
   case measure=>simp[intOf];omega
  ·obtain rfl:k=n:=by omega
   have hb:=J0 hR.below
   clear hR hst
   go_wp2
   go_ret
   exact⟨rfl,hb.out⟩
theorem Bdp{B:Nat}{w:World}{g n cap:Nat}{ps:List (Cel×Value)}(h:Api B w (.slice (some ⟨g,0,none⟩) n cap) ps){i:Nat}(hi:i<ps.length):w.cell? ⟨g,i*6,none⟩=some (.int .i32 ps[i].1.r)/\w.cell? ⟨g,i*6+1,none⟩=some ps[i].2/\w.cell? ⟨g,i*6+2,none⟩=some (.int .u8 ps[i].1.wide)/\w.cell? ⟨g,i*6+3,none⟩=some (.int .u32 ps[i].1.a.f)/\w.cell? ⟨g,i*6+4,none⟩=some (.int .u32 ps[i].1.a.b)/\w.cell? ⟨g,i*6+5,none⟩=some (.int .u16 ps[i].1.a.g):=by
 have hl:=h.load hi
 have e:=fun j v hj=>by have:=hl j v hj;rw[Addr.add_lit]at this;exact this
 exact⟨e 0 _ rfl,e 1 _ rfl,e 2 _ rfl,e 3 _ rfl,e 4 _ rfl,e 5 _ rfl⟩
theorem Cho{B B':Nat}{w:World}{g g' n cap cap':Nat}{ps ps':List (Cel×Value)}(hA:Api B w (.slice (some ⟨g,0,none⟩) n cap) ps)(hA':Api B' w (.slice (some ⟨g',0,none⟩) n cap') ps')(hl:ps.length=n)(hc:ps'.map (·.1)=ps.map (·.1))(h5:n<=512)(h4:∀p∈ps,p.1.m.length<=4) :
  Calls prog 41 #[.slice (some ⟨g,0,none⟩) n cap,.slice (some ⟨g',0,none⟩) n cap'] w fun e w'=>e=.returned (.bool true)/\Below w.heap.size w w':=by
 have hl':ps'.length=n:=by have:=congrArg List.length hc;simpa[hl]using this
 replace hA:=J0 hA
 replace hA':=J0 hA'
 replace hc:=J0 hc
 replace h4:=J0 h4
 go_enter func41,ntmps41
 go_wp2
 go_loopw [5] (fun i wr=>∃k:Nat,k<=n/\i=.int .i64 k/\Hid (Below w.heap.size w wr)) (fun i _=>n-(intOf i).toNat)
 case atStart=>exact⟨0,Nat.zero_le _,rfl,J0 (Below.refl _ _)⟩
 case round =>
  obtain⟨k,hk,rfl,hR⟩:=hrel
  have hB:=hR.out
  by_cases hlt:k<n
  ·have hkp:k<ps.length:=by omega
   have hkp':k<ps'.length:=by omega
   have he:ps'[k].1=ps[k].1:=by
    have:=congrArg (fun l=>l[k]?) hc.out
    simpa[hkp,hkp']using this
   have hS:=fun w' (hb:Below wr.heap.size wr w')=>And.intro (Bdp ((hA.out.below hB).below hb) hkp) (Bdp ((hA'.out.below hB).below hb) hkp')
   have Aaf:=fun w' (hb:Below wr.heap.size wr w') (h'':Own w' B' 21 .i32 ps'[k].2 ps[k].1.m)=>Btq ps[k].1 ps[k].2 ps'[k].2 w' (((hA.out.below hB).below hb).comb _ (List.getElem_mem hkp)) h'' (h4.out _ (List.getElem_mem hkp))
   have ho:=fun w' (hb:Below wr.heap.size wr w')=>((hA'.out.below hB).below hb).comb _ (List.getElem_mem hkp')
   rw[he]at ho
   have Ano:=fun w' (hb:Below wr.heap.size wr w')=>Aaf w' hb (ho w' hb)
   simp only[he]at hS
   have hv1:=Own.one (ho wr (Below.refl _ _))
   have hv2:=Own.one ((hA.out.below hB).comb _ (List.getElem_mem hkp))
   clear Aaf ho he
   generalize ps[k]=q at hS Ano hv2
   generalize ps'[k].2=v' at hS Ano hv1
   obtain⟨⟨r,m,wd,⟨af,ab,ag⟩⟩,v⟩:=q
   have hC:∀v,(I5 ⟨r,m,wd,⟨af,ab,ag⟩⟩ v).toArray=#[.int .i32 r,v,.int .u8 wd,.int .u32 af,.int .u32 ab,.int .u16 ag]:=fun _=>rfl
   simp only[hC]at hS Ano hv2
   clear hC
   have hnx:=J0 (fun w' (hb:Below wr.heap.size wr w')=>A2 hB hb)
   replace hS:=J0 hS
   replace Ano:=J0 Ano
   replace hkp:=J0 hkp
   replace hkp':=J0 hkp'
   have hki:(k:Int)<(n:Int):=by omega
   have hdr:Below wr.heap.size wr wr.drew:=C7 (a:=wr) (b:=wr) (Below.refl wr.heap.size wr) 1
   replace hdr:=J0 hdr
   clear hR hB
   go_wp2
   go_region_held3 (fun w'=>(w'.cell? ⟨g,k*6,none⟩=some (.int .i32 r)/\w'.cell? ⟨g,k*6+1,none⟩=some v/\w'.cell? ⟨g,k*6+2,none⟩=some (.int .u8 wd)/\w'.cell? ⟨g,k*6+3,none⟩=some (.int .u32 af)/\w'.cell? ⟨g,k*6+4,none⟩=some (.int .u32 ab)/\w'.cell? ⟨g,k*6+5,none⟩=some (.int .u16 ag))/\w'.cell? ⟨g',k*6,none⟩=some (.int .i32 r)/\w'.cell? ⟨g',k*6+1,none⟩=some v'/\w'.cell? ⟨g',k*6+2,none⟩=some (.int .u8 wd)/\w'.cell? ⟨g',k*6+3,none⟩=some (.int .u32 af)/\w'.cell? ⟨g',k*6+4,none⟩=some (.int .u32 ab)/\w'.cell? ⟨g',k*6+5,none⟩=some (.int .u16 ag))
    (first|exact hS.out _ (Below.refl _ _)|exact hS.out _ hdr.out|exact hS.out _ (A2 hdr.out hb6)|go_keep)
    (first
     |(go_at_call 62;with_reducible refine(Ano.out _ ?_).mono ?_;exact hdr.out;rintro e w6 ⟨rfl,hb6⟩))
   have hn6:=J0 (hnx.out _ (A2 hdr.out hb6))
   clear hb6
   go_wp2
   go_roundw
   case rel=>exact⟨k+1,by omega,by go_num,hn6⟩
   case measure=>simp[intOf];omega
  ·obtain rfl:k=n:=by omega
   have hb:=J0 hB
   clear hR hB
   go_wp2
   go_ret
   exact⟨rfl,hb.out⟩
end Go.Proofs.YtecnpoigegiooaaGreatDoor.Rw
namespace Go.Proofs.YtecnpoigegiooaaGreatDoor.Emu
open Go.Proofs.Tryz
open Go RowKit Com Rw Lns Scn
section
variable {B B':Nat}{w w':World}{cols:Nat}{cv iv cv' iv':Value}{rs rs':List Abc}{ids:List Int}
theorem Bnx(cols:Nat)(rs:List Abc):fl (hdr cols) rs=rs.map fun p=>.slice (some ⟨p.1,0,none⟩) cols cols:=by
 induction rs with
 |nil=>rfl
 |cons a l ih=>rw[show a::l=[a]++l from rfl,Z9,Acq,ih];rfl
theorem Rws.Ans(h:Rws B w cols cv iv rs ids){i:Nat}(hi:i<rs.length):∃g c,cv=.slice (some ⟨g,0,none⟩) rs.length c/\rs.length<=c/\c<=maxLen/\w.cell? ⟨g,i,none⟩=some (.slice (some ⟨rs[i].1,0,none⟩) cols cols):=by
 obtain⟨g,c,tail,rfl,_,hb,h1,h2⟩:=Ahf h.rows (by omega)
 refine⟨g,c,rfl,h1,h2,hb.cell i ?_⟩
 rw[List.getElem?_toArray,List.getElem?_append_left (by rw[Bnx];simpa using hi),Bnx,List.getElem?_map,List.getElem?_eq_getElem hi]
 rfl
theorem Rws.Anx(h:Rws B w cols cv iv rs ids){i:Nat}(hi:i<ids.length):∃g c,iv=.slice (some ⟨g,0,none⟩) ids.length c/\ids.length<=c/\c<=maxLen/\w.cell? ⟨g,i,none⟩=some (.int .i64 ids[i]):=by
 obtain⟨g,c,tail,rfl,_,hb,h1,h2⟩:=Ahf (show w.ownsRow B 3 1 iv ids.length (ids.map (Value.int .i64))from h.ids) (by omega)
 refine⟨g,c,rfl,h1,h2,hb.cell i ?_⟩
 rw[List.getElem?_toArray,List.getElem?_append_left (by simpa using hi),List.getElem?_map,List.getElem?_eq_getElem hi]
 rfl
def Bcz(r c:Int)(p h m:Bool)(tp bt f b g:Int):List Value:=[.int .i64 r,.int .i64 c,.bool p,.bool h,.bool m,.int .i64 tp,.int .i64 bt,.int .u32 f,.int .u32 b,.int .u16 g]
theorem Bfj(r c:Int)(p h m:Bool)(tp bt f b g:Int)(h1:Rws B w cols cv iv rs ids)(h2:Rws B' w cols cv' iv' rs' ids)(hl:rs.length=ids.length)(hc:rs'.map (fun p=>p.2.map (·.1))=rs.map (fun p=>p.2.map (·.1)))(h5:cols<=512)(hn:rs.length<=512)(h4:∀q∈rs,q.2.length=cols/\∀x∈q.2,x.1.m.length<=4) :
  Calls prog 24 #[.agg (Q6 cv iv (Bcz r c p h m tp bt f b g)),.agg (Q6 cv' iv' (Bcz r c p h m tp bt f b g))] w fun e w'=>e=.returned (.bool true)/\Below w.heap.size w w':=by
 have hl':rs'.length=ids.length:=by have:=congrArg List.length hc;simpa[hl]using this
 have hk1:=fun w1 (hb:Below w.heap.size w w1)=>h1.below hb
 have hk2:=fun w1 (hb:Below w.heap.size w w1)=>h2.below hb
 obtain⟨a1,c1,rfl,_,_⟩:=U0 h1.rows
 obtain⟨a2,c2,rfl,_,_⟩:=h1.ids.shape
 obtain⟨a3,c3,rfl,_,_⟩:=U0 h2.rows
 obtain⟨a4,c4,rfl,_,_⟩:=h2.ids.shape
 have Afb:Hid (∀w1,Below w.heap.size w w1->∀i,i<ids.length->∃g1 g2 x y,a1=some ⟨g1,0,none⟩/\a2=some ⟨g2,0,none⟩/\(∃g3 g4 x' y',a3=some ⟨g3,0,none⟩/\a4=some ⟨g4,0,none⟩ /\
   (∀w2,Below w.heap.size w w2->w2.cell? ⟨g1,i,none⟩=some (.slice (some ⟨x,0,none⟩) cols cols)/\w2.cell? ⟨g2,i,none⟩=some (.int .i64 y)/\w2.cell? ⟨g3,i,none⟩=some (.slice (some ⟨x',0,none⟩) cols cols)/\w2.cell? ⟨g4,i,none⟩=some (.int .i64 y'))/\y'=y /\
   (∀w2,Below w.heap.size w w2->Calls prog 41 #[.slice (some ⟨x,0,none⟩) cols cols,.slice (some ⟨x',0,none⟩) cols cols] w2 fun e w'=>e=.returned (.bool true)/\Below w2.heap.size w2 w'))):=J0 fun w1 hb i hi=>by
  have hi1:i<rs.length:=by omega
  have hi2:i<rs'.length:=by omega
  obtain⟨g1,q1,e1,_,_,_⟩:=h1.Ans hi1
  obtain⟨g2,q2,e2,_,_,_⟩:=h1.Anx hi
  obtain⟨g3,q3,e3,_,_,_⟩:=h2.Ans hi2
  obtain⟨g4,q4,e4,_,_,_⟩:=h2.Anx hi
  simp only[Value.slice.injEq]at e1 e2 e3 e4
  refine⟨g1,g2,rs[i].1,ids[i],e1.1,e2.1,g3,g4,rs'[i].1,ids[i],e3.1,e4.1,fun w2 hb2=>?_,rfl,fun w2 hb2=>?_⟩
  ·obtain⟨g1',q1',e1',_,_,x1⟩:=(hk1 w2 hb2).Ans hi1
   obtain⟨g2',q2',e2',_,_,x2⟩:=(hk1 w2 hb2).Anx hi
   obtain⟨g3',q3',e3',_,_,x3⟩:=(hk2 w2 hb2).Ans hi2
   obtain⟨g4',q4',e4',_,_,x4⟩:=(hk2 w2 hb2).Anx hi
   simp only[Value.slice.injEq,e1.1,e2.1,e3.1,e4.1,Option.some.injEq,Addr.mk.injEq]at e1' e2' e3' e4'
   rw[<- e1'.1.1]at x1
   rw[<- e2'.1.1]at x2
   rw[<- e3'.1.1]at x3
   rw[<- e4'.1.1]at x4
   exact⟨x1,x2,x3,x4⟩
  ·have hm:=List.getElem_mem hi1
   refine Cho ((hk1 w2 hb2).Aff _ hm) ((hk2 w2 hb2).Aff _ (List.getElem_mem hi2)) (h4 _ hm).1 ?_ h5 (h4 _ hm).2
   have e:=congrArg (·[i]?) hc
   simp only[List.getElem?_map,List.getElem?_eq_getElem hi1,List.getElem?_eq_getElem hi2,Option.map_some,Option.some.injEq]at e
   exact e
 have hn5:ids.length<=512:=by omega
 rw[hl,hl']at *
 generalize ids.length=n at *
 clear h1 h2 hk1 hk2 hc h4 h5 hn hl hl'
 simp only[Q6,Bcz]
 have z1:(r != r)=false:=by simp
 have z2:(c != c)=false:=by simp
 have z3:(p != p)=false:=by simp
 have z4:(h != h)=false:=by simp
 have z5:(m != m)=false:=by simp
 have z6:(tp != tp)=false:=by simp
 have z7:(bt != bt)=false:=by simp
 have z8:((n:Int) != (n:Int))=false:=by simp
 have z9:(f != f)=false:=by simp
 have za:(b != b)=false:=by simp
 have zb:(g != g)=false:=by simp
 go_enter func24,ntmps24
 go_wp2
 have hb0:=A2 (A3 w (.cells #[.slice a1 n c1,.slice a2 n c2,.int .i64 r,.int .i64 c,.bool p,.bool h,.bool m,.int .i64 tp,.int .i64 bt,.int .u32 f,.int .u32 b,.int .u16 g] 53)) (A3 _ (.cells #[.slice a3 n c3,.slice a4 n c4,.int .i64 r,.int .i64 c,.bool p,.bool h,.bool m,.int .i64 tp,.int .i64 bt,.int .u32 f,.int .u32 b,.int .u16 g] 53))
 have hx1:=Block.only (Block.made w 53 #[.slice a1 n c1,.slice a2 n c2,.int .i64 r,.int .i64 c,.bool p,.bool h,.bool m,.int .i64 tp,.int .i64 bt,.int .u32 f,.int .u32 b,.int .u16 g]) (A0.A1 (A3 _ (.cells #[.slice a3 n c3,.slice a4 n c4,.int .i64 r,.int .i64 c,.bool p,.bool h,.bool m,.int .i64 tp,.int .i64 bt,.int .u32 f,.int .u32 b,.int .u16 g] 53)) []) (by simp)
 have hx2:=Block.made (w.alloc (.cells #[.slice a1 n c1,.slice a2 n c2,.int .i64 r,.int .i64 c,.bool p,.bool h,.bool m,.int .i64 tp,.int .i64 bt,.int .u32 f,.int .u32 b,.int .u16 g] 53)) 53 #[.slice a3 n c3,.slice a4 n c4,.int .i64 r,.int .i64 c,.bool p,.bool h,.bool m,.int .i64 tp,.int .i64 bt,.int .u32 f,.int .u32 b,.int .u16 g]
 rw[World.size_alloc]at hx2
 generalize (w.alloc (.cells #[.slice a1 n c1,.slice a2 n c2,.int .i64 r,.int .i64 c,.bool p,.bool h,.bool m,.int .i64 tp,.int .i64 bt,.int .u32 f,.int .u32 b,.int .u16 g] 53)).alloc (.cells #[.slice a3 n c3,.slice a4 n c4,.int .i64 r,.int .i64 c,.bool p,.bool h,.bool m,.int .i64 tp,.int .i64 bt,.int .u32 f,.int .u32 b,.int .u16 g] 53)=w0 at hb0 hx1 hx2 |-
 have hbx:=J0 (fun w1 (hb:Below w0.heap.size w0 w1)=>(⟨(Block.only hx1 (A0.A1 hb []) (by simp)).cell 0 rfl,(Block.only hx1 (A0.A1 hb []) (by simp)).cell 1 rfl,(Block.only hx2 (A0.A1 hb []) (by simp)).cell 0 rfl,(Block.only hx2 (A0.A1 hb []) (by simp)).cell 1 rfl⟩:w1.cell? ⟨w.heap.size,0,none⟩=some (.slice a1 n c1)/\w1.cell? ⟨w.heap.size,1,none⟩=some (.slice a2 n c2)/\w1.cell? ⟨w.heap.size+1,0,none⟩=some (.slice a3 n c3)/\w1.cell? ⟨w.heap.size+1,1,none⟩=some (.slice a4 n c4)))
 replace hb0:=J0 hb0
 clear hx1 hx2 z1 z2 z3 z4 z5 z6 z7 z8 z9 za zb
 go_loopw [5] (fun i wr=>∃k:Nat,k<=n/\i=.int .i64 k/\Hid (Below w0.heap.size w0 wr)) (fun i _=>n-(intOf i).toNat)
 case atStart=>exact⟨0,Nat.zero_le _,rfl,J0 (Below.refl _ _)⟩
 case round =>
  obtain⟨k,hk,rfl,hR⟩:=hrel
  obtain⟨d0,d1,d2,d3⟩:=hbx.out _ hR.out
  by_cases hlt:k<n
  ·have hkI:(k:Int)<(n:Int):=by omega
   obtain⟨g1,g2,x,y,rfl,rfl,g3,g4,x',y',rfl,rfl,hcl,rfl,hsm⟩:=Afb.out _ (Below.refl _ _) k hlt
   have hbr:=J0 (fun w2 (hb:Below wr.heap.size wr w2)=>A2 hb0.out (A2 hR.out hb))
   have Asi:=J0 (fun w2 (hb:Below wr.heap.size wr w2)=>A2 hR.out hb)
   have zy:(y' != y')=false:=by simp
   replace hcl:=J0 hcl
   replace hsm:=J0 hsm
   clear Afb
   go_upto_region 6 with(fail)
   refine Eqt.Atg (fun w'=>Below wr.heap.size wr w') (by kernel_rfl) ?_
   have hH:Below wr.heap.size wr wr.drew:=C7 (Below.refl wr.heap.size wr) 1
   refine Eqt.E6 (i:=0) (oi:=⟨some 94,_,_,_,_,_⟩) (v:=?_) rfl (by kernel_rfl) (by kernel_rfl) (by kernel_rfl) (fun _ _ _ h=>h) (Or.inl ⟨by rfl,?_⟩) (fun _=>hH) ?_
   rotate_left
   ·(intro w;go_simp)<;>with_reducible rfl
   try simp only[Act.put,J1,J2,J3]
   refine Eqt.E6 (i:=2) (oi:=⟨some 96,_,_,_,_,_⟩) (v:=?_) rfl (by kernel_rfl) (by kernel_rfl) (by kernel_rfl) (fun _ _ _ h=>h) (Or.inl ⟨by rfl,?_⟩) (fun _=>hH) ?_
   rotate_left
   ·(intro w;go_simp)<;>with_reducible rfl
   try simp only[Act.put,J1,J2,J3]
   refine Eqt.E6 (i:=5) (oi:=⟨some 99,_,_,_,_,_⟩) (v:=?_) rfl (by kernel_rfl) (by kernel_rfl) (by kernel_rfl) (fun _ _ _ h=>h) (Or.inl ⟨by rfl,?_⟩) (fun _=>hH) ?_
   rotate_left
   ·(intro w;go_simp)<;>with_reducible rfl
   try simp only[Act.put,J1,J2,J3]
   refine Eqt.E6 (i:=7) (oi:=⟨some 101,_,_,_,_,_⟩) (v:=?_) rfl (by kernel_rfl) (by kernel_rfl) (by kernel_rfl) (fun _ _ _ h=>h) (Or.inl ⟨by rfl,?_⟩) (fun _=>hH) ?_
   rotate_left
   ·(intro w;go_simp)<;>with_reducible rfl
   try simp only[Act.put,J1,J2,J3]
   refine Eqt.W5 (i:=1) (oi:=⟨some 95,_,_,_,_,_⟩) (v:=?_) rfl (by kernel_rfl) (by kernel_rfl) (by kernel_rfl) (fun _ _ _ h=>h) (Or.inl ⟨by rfl,?_⟩) hH ?_
   rotate_left
   ·(intro w hSw;have q:=hbx.out _ (Asi.out _ hSw);obtain⟨q0,q1,q2,q3⟩:=q;go_simp)<;>with_reducible rfl
   try simp only[Act.put,J1,J2,J3]
   refine Eqt.E6 (i:=3) (oi:=⟨some 97,_,_,_,_,_⟩) (v:=?_) rfl (by kernel_rfl) (by kernel_rfl) (by kernel_rfl) (fun _ _ _ h=>h) (Or.inl ⟨by rfl,?_⟩) (fun _=>hH) ?_
   rotate_left
   ·(intro w;go_simp)<;>with_reducible rfl
   try simp only[Act.put,J1,J2,J3]
   refine Eqt.W5 (i:=4) (oi:=⟨some 98,_,_,_,_,_⟩) (v:=?_) rfl (by kernel_rfl) (by kernel_rfl) (by kernel_rfl) (fun _ _ _ h=>h) (Or.inl ⟨by rfl,?_⟩) hH ?_
   rotate_left
   ·(intro w hSw;have q:=hcl.out _ (hbr.out _ hSw);obtain⟨q0,q1,q2,q3⟩:=q;go_simp)<;>with_reducible rfl
   try simp only[Act.put,J1,J2,J3]
   refine Eqt.W5 (i:=6) (oi:=⟨some 100,_,_,_,_,_⟩) (v:=?_) rfl (by kernel_rfl) (by kernel_rfl) (by kernel_rfl) (fun _ _ _ h=>h) (Or.inl ⟨by rfl,?_⟩) hH ?_
   rotate_left
   ·(intro w hSw;have q:=hbx.out _ (Asi.out _ hSw);obtain⟨q0,q1,q2,q3⟩:=q;go_simp)<;>with_reducible rfl
   try simp only[Act.put,J1,J2,J3]
   refine Eqt.E6 (i:=8) (oi:=⟨some 102,_,_,_,_,_⟩) (v:=?_) rfl (by kernel_rfl) (by kernel_rfl) (by kernel_rfl) (fun _ _ _ h=>h) (Or.inl ⟨by rfl,?_⟩) (fun _=>hH) ?_
   rotate_left
   ·(intro w;go_simp)<;>with_reducible rfl
   try simp only[Act.put,J1,J2,J3]
   refine Eqt.W5 (i:=9) (oi:=⟨some 103,_,_,_,_,_⟩) (v:=?_) rfl (by kernel_rfl) (by kernel_rfl) (by kernel_rfl) (fun _ _ _ h=>h) (Or.inl ⟨by rfl,?_⟩) hH ?_
   rotate_left
   ·(intro w hSw;have q:=hcl.out _ (hbr.out _ hSw);obtain⟨q0,q1,q2,q3⟩:=q;go_simp)<;>with_reducible rfl
   try simp only[Act.put,J1,J2,J3]
   refine Eqt.E6 (i:=10) (oi:=⟨some 104,_,_,_,_,_⟩) (v:=.bool false) rfl (by kernel_rfl) (by kernel_rfl) (by kernel_rfl) (fun _ _ _ h=>h) (Or.inl ⟨by rfl,?_⟩) (fun _=>hH) ?_
   ·(intro w;go_simp)
   try simp only[Act.put,J1,J2,J3]
   refine Eqt.E6 (i:=11) (oi:=⟨some 105,_,_,_,_,_⟩) (v:=?_) rfl (by kernel_rfl) (by kernel_rfl) (by kernel_rfl) (fun _ _ _ h=>h) (Or.inl ⟨by rfl,?_⟩) (fun _=>hH) ?_
   rotate_left
   ·(intro w;go_simp)<;>with_reducible rfl
   try simp only[Act.put,J1,J2,J3]
   refine Eqt.E6 (i:=12) (oi:=⟨some 106,_,_,_,_,_⟩) (v:=?_) rfl (by kernel_rfl) (by kernel_rfl) (by kernel_rfl) (fun _ _ _ h=>h) (Or.inl ⟨by rfl,?_⟩) (fun _=>hH) ?_
   rotate_left
   ·(intro w;go_simp)<;>with_reducible rfl
   try simp only[Act.put,J1,J2,J3]
   refine Eqt.E6 (i:=14) (oi:=⟨some 108,_,_,_,_,_⟩) (v:=?_) rfl (by kernel_rfl) (by kernel_rfl) (by kernel_rfl) (fun _ _ _ h=>h) (Or.inl ⟨by rfl,?_⟩) (fun _=>hH) ?_
   rotate_left
   ·(intro w;go_simp)<;>with_reducible rfl
   try simp only[Act.put,J1,J2,J3]
   refine Eqt.E6 (i:=17) (oi:=⟨some 111,_,_,_,_,_⟩) (v:=?_) rfl (by kernel_rfl) (by kernel_rfl) (by kernel_rfl) (fun _ _ _ h=>h) (Or.inl ⟨by rfl,?_⟩) (fun _=>hH) ?_
   rotate_left
   ·(intro w;go_simp)<;>with_reducible rfl
   try simp only[Act.put,J1,J2,J3]
   refine Eqt.E6 (i:=19) (oi:=⟨some 113,_,_,_,_,_⟩) (v:=?_) rfl (by kernel_rfl) (by kernel_rfl) (by kernel_rfl) (fun _ _ _ h=>h) (Or.inl ⟨by rfl,?_⟩) (fun _=>hH) ?_
   rotate_left
   ·(intro w;go_simp)<;>with_reducible rfl
   try simp only[Act.put,J1,J2,J3]
   refine Eqt.W5 (i:=13) (oi:=⟨some 107,_,_,_,_,_⟩) (v:=?_) rfl (by kernel_rfl) (by kernel_rfl) (by kernel_rfl) (fun _ _ _ h=>h) (Or.inl ⟨by rfl,?_⟩) hH ?_
   rotate_left
   ·(intro w hSw;have q:=hbx.out _ (Asi.out _ hSw);obtain⟨q0,q1,q2,q3⟩:=q;go_simp)<;>with_reducible rfl
   try simp only[Act.put,J1,J2,J3]
   refine Eqt.E6 (i:=15) (oi:=⟨some 109,_,_,_,_,_⟩) (v:=?_) rfl (by kernel_rfl) (by kernel_rfl) (by kernel_rfl) (fun _ _ _ h=>h) (Or.inl ⟨by rfl,?_⟩) (fun _=>hH) ?_
   rotate_left
   ·(intro w;go_simp)<;>with_reducible rfl
   try simp only[Act.put,J1,J2,J3]
   refine Eqt.W5 (i:=16) (oi:=⟨some 110,_,_,_,_,_⟩) (v:=?_) rfl (by kernel_rfl) (by kernel_rfl) (by kernel_rfl) (fun _ _ _ h=>h) (Or.inl ⟨by rfl,?_⟩) hH ?_
   rotate_left
   ·(intro w hSw;have q:=hcl.out _ (hbr.out _ hSw);obtain⟨q0,q1,q2,q3⟩:=q;go_simp)<;>with_reducible rfl
   try simp only[Act.put,J1,J2,J3]
   refine Eqt.W5 (i:=18) (oi:=⟨some 112,_,_,_,_,_⟩) (v:=?_) rfl (by kernel_rfl) (by kernel_rfl) (by kernel_rfl) (fun _ _ _ h=>h) (Or.inl ⟨by rfl,?_⟩) hH ?_
   rotate_left
   ·(intro w hSw;have q:=hbx.out _ (Asi.out _ hSw);obtain⟨q0,q1,q2,q3⟩:=q;go_simp)<;>with_reducible rfl
   try simp only[Act.put,J1,J2,J3]
   refine Eqt.E6 (i:=20) (oi:=⟨some 114,_,_,_,_,_⟩) (v:=?_) rfl (by kernel_rfl) (by kernel_rfl) (by kernel_rfl) (fun _ _ _ h=>h) (Or.inl ⟨by rfl,?_⟩) (fun _=>hH) ?_
   rotate_left
   ·(intro w;go_simp)<;>with_reducible rfl
   try simp only[Act.put,J1,J2,J3]
   refine Eqt.W5 (i:=21) (oi:=⟨some 115,_,_,_,_,_⟩) (v:=?_) rfl (by kernel_rfl) (by kernel_rfl) (by kernel_rfl) (fun _ _ _ h=>h) (Or.inl ⟨by rfl,?_⟩) hH ?_
   rotate_left
   ·(intro w hSw;have q:=hcl.out _ (hbr.out _ hSw);obtain⟨q0,q1,q2,q3⟩:=q;go_simp)<;>with_reducible rfl
   try simp only[Act.put,J1,J2,J3]
   refine Eqt.Adn 22 [18,13,9,6,4,1] (o:=⟨some 116,_,_,_,_,_⟩) (by kernel_rfl) rfl (by kernel_rfl) (fun K hK=>?_)
   go_simp
   go_at_call 41
   (with_reducible refine(hsm.out _ (hbr.out _ hH)).mono ?_)
   rintro e w6 ⟨rfl,hb6⟩
   replace hH:=A2 hH hb6
   refine hK.out _ _ (fun _=>hH) ?_
   clear hK K
   try simp only[Act.put,J1,J2,J3]
   refine Eqt.E6 (i:=23) (oi:=⟨some 117,_,_,_,_,_⟩) (v:=?_) rfl (by kernel_rfl) (by kernel_rfl) (by kernel_rfl) (fun _ _ _ h=>h) (Or.inl ⟨by rfl,?_⟩) (fun _=>hH) ?_
   rotate_left
   ·(intro w;go_simp)<;>with_reducible rfl
   try simp only[Act.put,J1,J2,J3]
   refine Eqt.E6 (i:=24) (oi:=⟨some 118,_,_,_,_,_⟩) (v:=?_) rfl (by kernel_rfl) (by kernel_rfl) (by kernel_rfl) (fun _ _ _ h=>h) (Or.inl ⟨by rfl,?_⟩) (fun _=>hH) ?_
   rotate_left
   ·(intro w;go_simp)<;>with_reducible rfl
   try simp only[Act.put,J1,J2,J3]
   refine Eqt.Atp (by kernel_rfl) ?_ _
   (try dsimp only [Act.put])
   clear d0 d1 d2 d3
   go_wp2
   go_roundw
   case rel=>exact⟨k+1,by omega,by go_num,J0 (Asi.out _ hH)⟩
   case measure=>simp[intOf];omega
  ·obtain rfl:k=n:=by omega
   clear Afb
   go_wp2
   go_ret
   exact⟨rfl,A2 hb0.out hR.out⟩
end
theorem Ckc{Z:Zn}{ts:List TypeId}{a b:World}{B:Nat}(h:Scn.Fr Z ts a b)(hz:∀k,k<B->¬Z k)(hB:B<=a.heap.size):Below B a b:=⟨h.os,h.tape,h.output,h.size,fun k hk=>h.block k (by omega) (.inl (hz k hk))⟩
section
variable {w wr w':World}{d t:Nat}{T T':Ter}{x:AcT}{pa ia ta:Option Addr}{pn pc ic tn tc:Nat}
theorem Boi(rows cols most:Nat)(hr1:1<=rows)(hr5:rows<=512)(hc1:1<=cols)(hc5:cols<=512):Ok (Akk rows cols most):=Ok.begin (J5 1) hr1 hr5 hc1 hc5
end
structure TZ(Z:Zn)(W wr:World)(d t:Nat)(T:Ter):Prop where
 tv:TV Z wr d t T
 ok:Ok T
 below:Below W.heap.size W wr
 out:∀k,k<W.heap.size->¬Z k
section
variable {Z:Zn}{W w wr w':World}{d t:Nat}{T T':Ter}{x:AcT}{q:Pl3}{o:OpA}
theorem TZ.on(h:TZ Z W wr d t T)(hb:Below wr.heap.size wr w'):TZ Z W w' d t T:=⟨h.tv.below hb,h.ok,A2 h.below hb,h.out⟩
theorem Azu{ts:List TypeId}(hB:Below W.heap.size W wr)(hz:∀k,k<W.heap.size->¬Z k)(hf:Scn.Fr Z ts wr w'):Below W.heap.size W w':=hB.trans (Ckc hf hz hB.size)
end
