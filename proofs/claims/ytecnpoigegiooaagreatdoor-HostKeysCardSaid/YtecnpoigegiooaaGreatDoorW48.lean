/- Part 48 of HostKeys. -/
import Derived.Test.YtecnpoigegiooaaGreatDoorW47
import Derived.SevenTiedAt
set_option maxHeartbeats 16000000
set_option maxRecDepth 100000
namespace Go.Proofs.YtecnpoigegiooaaGreatDoor.Hos
open Go.Proofs.Tryz
open Go RowKit Com Rw Lns Emu Scn
section
variable {W w w':World}
def kz:Kys.Ky:=⟨0,0,0,0⟩
theorem Cey{r c b:Int}{l:List Oh}(h:Aac r c b l=false):O3 r=false/\O3 c=false/\¬(200<b/\b<=10000)/\∀o∈l,o.b.length<=600/\o.text.length<=200:=by
 unfold Aac at h
 simp only[Bool.or_eq_false_iff,decide_eq_false_iff_not]at h
 obtain⟨⟨⟨⟨h1,h2⟩,h3⟩,h4⟩,h5⟩:=h
 refine⟨h1,h2,h3,fun o ho=>?_⟩
 rw[List.any_eq_false]at h5
 have h6:=h5 o ho
 unfold Abe at h6
 simp only[Bool.or_eq_true,decide_eq_true_eq,not_or]at h6
 omega
theorem Bnc{n:Int}(h:O3 n=false)(h5:n<=512):n<=24:=by
 unfold O3 at h
 simp only[decide_eq_false_iff_not]at h
 omega
theorem Bgg{l:List Int}(h:Fits .u8 l):Utf.Bytes l:=fun x hx=>by
 have:=h x hx
 simp[Lit.wf,IntKind.min,IntKind.max,IntKind.signed,IntKind.bits]at this
 exact⟨by omega,by omega⟩
theorem Afv{v:Value}{l:List Int}(h:Kys.Row w 0 5 v l)(hs:∀g,v.ownBlock=some g->w'.heap[g]?=w.heap[g]?):Kys.Row w' 0 5 v l:=W8 h hs
theorem Cfr(r:Int)(_:(Lit.int .i64 r).wf=true)(c:Int)(_:(Lit.int .i64 c).wf=true)(b:Int)(_:(Lit.int .i64 b).wf=true)(la:List Int)(hfa:Fits .u8 la)(aa:Option Addr)(ca:Nat)(_:la.length<=ca)(_:ca<=maxLen)(lb:List Int)(hfb:Fits .u8 lb)(ab:Option Addr)(cb:Nat)(_:lb.length<=cb)(_:cb<=maxLen)(k:Kys.Ky)(lt:List Int)(_:Fits .i32 lt)(tt:Option Addr)(ct:Nat)(_:lt.length<=ct)(_:ct<=maxLen)(hk:k.Ok)(W:World)(hT:Tbl W)
  (hna:A8 W W.heap.size .u8 aa la) (hnb:A8 W W.heap.size .u8 ab lb) (hnt:A8 W W.heap.size .i32 tt lt):Calls prog 4 #[.int .i64 r,.int .i64 c,.int .i64 b,.slice aa la.length ca,.slice ab lb.length cb,.agg (Kys.kA k),.slice tt lt.length ct] W fun e w'=>e=.returned (.bool true)/\Below W.heap.size W w':=by
 have hkn:=J0 (fun w1 (hb:Below W.heap.size W w1)=>Cba (hT.below hb))
 have hba:=Bgg hfa
 have hbb:=Bgg hfb
 have hkl:=fun m=>Ckz m k hk
 obtain⟨o1,ho1⟩:∃o1:Oh,o1=⟨0,la,0,0,kz,lt,aa,ca,tt,ct⟩:=⟨_,rfl⟩
 obtain⟨o2,ho2⟩:∃o2:Oh,o2=⟨0,lb,0,0,kz,[],ab,cb,none,0⟩:=⟨_,rfl⟩
 have hbn:=A2 (A3 W (.cells (Kys.kA k) 25)) (A3 (W.alloc (.cells (Kys.kA k) 25)) (.cells (ohV o1++ohV o2).toArray 28))
 have hbk:=(Block.made W 25 (Kys.kA k)).alloc (.cells (ohV o1++ohV o2).toArray 28)
 have hbo:=Block.made (W.alloc (.cells (Kys.kA k) 25)) 28 (ohV o1++ohV o2).toArray
 rw[World.size_alloc]at hbo
 have hsz:((W.alloc (.cells (Kys.kA k) 25)).alloc (.cells (ohV o1++ohV o2).toArray 28)).heap.size=W.heap.size+1+1:=by simp
 have hgr:Calls prog 5 #[.int .i64 r,.int .i64 c,.int .i64 b,.slice (some ⟨W.heap.size+1,0,none⟩) 2 2] ((W.alloc (.cells (Kys.kA k) 25)).alloc (.cells (ohV o1++ohV o2).toArray 28)) fun e w'=>e=.returned (.bool (Aac r c b [o1,o2]))/\((W.alloc (.cells (Kys.kA k) 25)).alloc (.cells (ohV o1++ohV o2).toArray 28))=w':=Cal (n:=2) (cp:=2) (l:=[o1,o2]) r c b (fun i hi=>by
  refine⟨_,rfl,fun j v hv=>?_⟩
  simp only[Addr.add_lit,Nat.zero_add]
  refine hbo.cell _ ?_
  have hi2:i=0\/i=1:=by
   have:i<2:=hi
   omega
  have hj:j<9:=by
   have h1:=(List.getElem?_eq_some_iff.1 hv).1
   have h2:(ohV ([o1,o2][i])).length=9:=rfl
   omega
  rcases hi2 with rfl|rfl
  ·have hv':(ohV o1)[j]?=some v:=hv
   rw[List.getElem?_toArray,Nat.zero_mul,Nat.zero_add,List.getElem?_append_left (by show j<9;omega)]
   exact hv'
  ·have hv':(ohV o2)[j]?=some v:=hv
   have h9:(ohV o1).length=9:=rfl
   rw[List.getElem?_toArray,List.getElem?_append_right (by rw[h9];omega),h9,show 1*9+j-9=j by omega]
   exact hv') rfl
 have hno:Hid (Aac r c b [o1,o2]=false->O3 r=false/\O3 c=false/\¬(200<b/\b<=10000)/\la.length<=600/\lb.length<=600/\lt.length<=200):=J0 fun h=>by
  obtain⟨h1,h2,h3,h4⟩:=Cey h
  have h5:=h4 o1 (by simp)
  have h6:=h4 o2 (by simp)
  rw[ho1]at h5
  rw[ho2]at h6
  exact⟨h1,h2,h3,h5.1,h6.1,h5.2⟩
 generalize Aac r c b [o1,o2]=y at hgr hno
 subst ho1 ho2
 simp only[ohV,kz,List.cons_append,List.nil_append,List.length_nil]at hgr hbn hbk hbo hsz
 obtain⟨kk,kr,kn,km⟩:=k
 simp only[Kys.kA]at hgr hbn hbk hbo hsz |-
 clear hbo hfa hfb
 generalize Bed:la.length=na at *
 generalize Bre:lb.length=nb at *
 generalize Ctz:lt.length=nt at *
 replace hgr:=J0 hgr
 replace hbn:=J0 hbn
 cases y with
 |true =>
  clear hbk hsz hno
  go_enter func4,ntmps4
  go_wp2_with (first
   |(go_at_call 5;(with_reducible refine(hgr.out).mono ?_);rintro e w1 ⟨rfl,rfl⟩)
   |(go_at_call 6;(with_reducible refine(hkn.out _ hbn.out).mono ?_);rintro e w2 ⟨rfl,hb2⟩))
  go_ret
  exact⟨rfl,A2 hbn.out hb2⟩
 |false =>
  obtain⟨hs1,hs2,hs3,hla,hlb,hlt⟩:=hno.out rfl
  go_enter func4,ntmps4
  go_upto_region 3 with((go_at_call 5;(with_reducible refine(hgr.out).mono ?_);rintro e w1 ⟨rfl,rfl⟩))
  clear hgr hno
  generalize (W.alloc (.cells #[.int .u8 kk,.int .i32 kr,.int .i64 kn,.int .u8 km] 25)).alloc (.cells #[.int .i64 0,.slice aa na ca,.int .i64 0,.int .i64 0,.int .u8 0,.int .i32 0,.int .i64 0,.int .u8 0,.slice tt nt ct,.int .i64 0,.slice ab nb cb,.int .i64 0,.int .i64 0,.int .u8 0,.int .i32 0,.int .i64 0,.int .u8 0,.slice none 0 0] 28)=w1 at hbn hbk hsz |-
  by_cases hok:Anl r c/\0<=b/\b<=10000
  ·obtain⟨⟨⟨p1,p2⟩,p3,p4⟩,p5,p6⟩:=hok
   have Cub:=Bnc hs1 (by omega)
   have Ctn:=Bnc hs2 (by omega)
   obtain⟨r,rfl⟩:=Int.eq_ofNat_of_zero_le (show 0<=r by omega)
   obtain⟨c,rfl⟩:=Int.eq_ofNat_of_zero_le (show 0<=c by omega)
   obtain⟨b,rfl⟩:=Int.eq_ofNat_of_zero_le p5
   have hn1:=J0 (Bat hT hbn.out r c b (by omega) (by omega) (by omega) (by omega) (by omega))
   have hn2:=J0 (fun w2 (hb:Below W.heap.size W w2)=>Bat hT hb r c b (by omega) (by omega) (by omega) (by omega) (by omega))
   have g0:=J0 (Bny r c b (by omega) (by omega) (by omega) (by omega))
   generalize Agt r c b=H0 at hn1 hn2 g0
   have h6:0<W.heap.size:=by have:=hT.1;omega
   clear hs1 hs2 hs3 p1 p2 p3 p4 p5 p6 Cub Ctn hT
   go_upto_region 7 with (first
    |(go_at_call 7;(with_reducible refine(hn1.out).mono ?_);rintro e w2 ⟨h1,rfl,hA1,hb2⟩)
    |(go_at_call 7;(with_reducible refine(hn2.out _ (A2 hbn.out hb2)).mono ?_);rintro e w3 ⟨h2,rfl,hA2,hb3⟩))
   have D3:Duo (fun g=>g=W.heap.size) W w3 h1 H0 h2 H0:=Duo.made hA1 (fun k hk hz=>by have hz:w1.heap.size<=k:=hz;omega) hA2 hb3 (fun k hk=>by
    subst hk
    have:=hb2.size
    exact⟨by omega,fun hz=>by have hz:w1.heap.size<=W.heap.size:=hz;omega⟩)
   have hk3:=Block.only (Block.only hbk (A0.A1 hb2 []) (by simp)) (A0.A1 hb3 []) (by simp)
   clear hA1 hA2 hb2 hb3 hbk hbn hn1 hn2 hsz
   have by1:=D3.bytes (cp:=ca) g0.out (by omega) (by omega) (by omega) hna hba (by omega) Bed
   unfold Avy at by1
   replace by1:=J0 by1
   go_upto_region 8 with((go_at_call 8;(with_reducible refine(by1.out).mono ?_);rintro e w4 ⟨v4,B4,rfl,-,-,D4,-,-,-,hN4⟩))
   replace hk3:=(hN4 _ rfl).2.1.trans hk3
   have by2:=D4.swap.bytes (cp:=ca) g0.out (by omega) (by omega) (by omega) hna hba (by omega) Bed
   unfold Avy at by2
   replace by2:=J0 by2
   clear by1 D3 hN4
   go_upto_region 9 with((go_at_call 8;(with_reducible refine(by2.out).mono ?_);rintro e w5 ⟨v5,B5,rfl,-,-,D5,-,-,-,hN5⟩))
   replace hk3:=(hN5 _ rfl).2.1.trans hk3
   have ga:=J0 ((g0.out.bytes hba (by omega)).mono (N':=4000100) (P':=4000) (S':=80000) (by omega) (by omega) (by omega))
   generalize H0.bytes la=Ha at D5 ga
   have se1:=J0 D5.swap.B8
   have se2:=J0 (fun N w6 (D:Duo N W w6 h1 { Ha with B8:=[] } h2 Ha)=>D.swap.B8)
   clear by2 D4 D5 hN5 g0
   go_upto_region 10 with (first
    |(go_at_call 11;(with_reducible refine(se1.out).mono ?_);rintro e w6 ⟨vx,rfl,hrx,D6,hN6⟩)
    |(go_at_call 11;(with_reducible refine(se2.out _ _ D6).mono ?_);rintro e w7 ⟨vy,rfl,hry,D7,hN7⟩))
   have hk7:Block w7 W.heap.size 25 #[.int .u8 kk,.int .i32 kr,.int .i64 kn,.int .u8 km]:=(hN7 _ (.inl rfl)).trans ((hN6 _ rfl).trans hk3)
   replace hrx:=Afv hrx (fun g hg=>hN7 g (.inr hg))
   obtain⟨N7,hN7e⟩:∃N7:Zn,N7=(fun k=>((fun k=>k=W.heap.size\/vx.ownBlock=some k) k)\/vy.ownBlock=some k):=⟨_,rfl⟩
   have hvx:∀g,vx.ownBlock=some g->N7 g:=fun g hg=>by rw[hN7e];exact .inl (.inr hg)
   have hvy:∀g,vy.ownBlock=some g->N7 g:=fun g hg=>by rw[hN7e];exact .inr hg
   replace D7:Duo N7 W w7 h1 { Ha with B8:=[] } h2 { Ha with B8:=[] }:=by rw[hN7e];exact D7.swap
   clear hN7e se1 se2 D6 hN6 hN7 hk3
   have ky:=D7.key ⟨kk,kr,kn,km⟩ hk (by show([]:List Int).length+_<=_;have:=hkl Ha.T.m;simp only[List.length_nil];omega)
   simp only[Kys.kA]at ky
   have y0:=hk7.cell 0 (v:=.int .u8 kk) rfl
   have y1:=hk7.cell 1 (v:=.int .i32 kr) rfl
   have y2:=hk7.cell 2 (v:=.int .i64 kn) rfl
   have y3:=hk7.cell 3 (v:=.int .u8 km) rfl
   generalize hkf:Aan ({ Ha with B8:=[] }:Hst).T.m ⟨kk,kr,kn,km⟩=kf at ky
   have hkf2:kf.length<=200:=by rw[<- hkf];exact hkl _
   replace ky:=J0 ky
   obtain⟨ax,cx,hxe,-⟩:=hrx.shape
   obtain⟨ay,cy,hye,-⟩:=hry.shape
   subst hxe hye
   go_upto_region 11 with((go_at_call 12;(with_reducible refine(ky.out).mono ?_);rintro e w8 ⟨rfl,D8,hN8⟩))
   replace hrx:=Afv hrx (fun g hg=>hN8 g (hvx g hg))
   replace hry:=Afv hry (fun g hg=>hN8 g (hvy g hg))
   clear ky y0 y1 y2 y3 hk7 D7 hN8 hkf
   have pa:=D8.Csh (cp:=ct) hnt (by omega) (by show([]++kf).length+_<=_;have:=Bac Ha.T.m.a7 lt;simp only[List.nil_append];omega) Ctz
   generalize hpf:Kys.Aaw _ lt=pf at pa
   have hpf2:pf.length<=1000:=by rw[<- hpf];have:=Bac Ha.T.m.a7 lt;exact Nat.le_trans (Bac _ lt) (by omega)
   replace pa:=J0 pa
   go_upto_region 12 with((go_at_call 13;(with_reducible refine(pa.out).mono ?_);rintro e w9 ⟨rfl,D9,hN9⟩))
   replace hrx:=Afv hrx (fun g hg=>hN9 g (hvx g hg))
   replace hry:=Afv hry (fun g hg=>hN9 g (hvy g hg))
   clear pa D8 hN9 hpf
   have sd:=J0 (D9.send (cp:=ca) hna (by show([]++kf++pf).length+_<=_;simp only[List.nil_append,List.length_append];omega) Bed)
   go_upto_region 13 with((go_at_call 14;(with_reducible refine(sd.out).mono ?_);rintro e w10 ⟨rfl,D10,hN10⟩))
   replace hrx:=Afv hrx (fun g hg=>hN10 g (hvx g hg))
   replace hry:=Afv hry (fun g hg=>hN10 g (hvy g hg))
   clear sd D9 hN10
   have se3:=J0 D10.B8
   go_upto_region 14 with((go_at_call 11;(with_reducible refine(se3.out).mono ?_);rintro e w11 ⟨vz,rfl,-,D11,hN11⟩))
   replace hrx:=Afv hrx (fun g hg=>hN11 g (hvx g hg))
   replace hry:=Afv hry (fun g hg=>hN11 g (hvy g hg))
   obtain⟨N11,hN11e⟩:∃N11:Zn,N11=(fun k=>N7 k\/vz.ownBlock=some k):=⟨_,rfl⟩
   replace D11:Duo N11 W w11 h1 ⟨Ha.dec,Ha.ps,Ha.T,[]⟩ h2 ⟨Ha.dec,Ha.ps,Ha.T,[]⟩:=by rw[hN11e];exact D11
   clear hN11e se3 D10 hN11 hvx hvy
   have gz:Gh c 4000100 4000 80000 ⟨Ha.dec,Ha.ps,Ha.T,[]⟩:=⟨ga.out.tr,Nat.zero_le _⟩
   have cvx:=Ajl hrx
   have cvy:=Ajl hry
   generalize (⟨Ha.dec,Ha.ps,Ha.T,[]⟩:Hst)=Hz at D11 gz
   generalize strOfNums Ha.B8=sx at cvx cvy
   generalize Ha.B8.length=nx at cvx cvy
   have sm:=J0 (D11.same rfl)
   go_upto_region 16 with((go_at_call 10;(with_reducible refine(sm.out).mono ?_);rintro e w12 ⟨rfl,Ctl⟩))
   have D12:=D11.on Ctl
   have hdw:Below w12.heap.size w12 w12.drew:=C7 (Below.refl w12.heap.size w12) 1
   have b1:=(D12.on hdw).bytes (cp:=cb) gz (by omega) (by omega) (by omega) hnb hbb (by omega) Bre
   unfold Avy at b1
   have hb2:=fun B wA (hH:HB B W wA h2 Hz) (ho:∀g,g<W.heap.size->¬B g)=>Azf (cp:=cb) hH (gz.bd hbb (by omega) (by omega) (by omega)) (by have:=gz.B8;omega) hbb (Bki hnb hH.below ho) Bre (by omega)
   unfold Told at hb2
   have hle:Hid ((Hz.told lb).length<=1000000):=J0 (by
    have h1:=(Tr.hand gz.tr hbb).rh.jr
    have h2:(Hz.told lb).length<=0+400*lb.length:=h1
    omega)
   generalize Hz.told lb=le at b1 hb2 hle
   generalize Hz.bytes lb=Hy at b1 hb2
   generalize hsl:Hy.B8=ls
   replace hsl:=J0 hsl
   replace b1:=J0 b1
   replace hb2:=J0 hb2
   have h6d:0<w12.drew.heap.size:=Nat.lt_of_lt_of_le h6 (D12.on hdw).below.size
   clear hrx hry cvx cvy sm D11 D12 gz hba hkl ga
   go_wp2_with fail
   refine wp_region_held_drew (S:=fun w'=>0<w'.heap.size) (by kernel_rfl) (by exact h6d) (fun hH=>?_)
   refine K3 0 ⟨some 90,_,_,_,_,_⟩ ?_ rfl (Or.inl ⟨by rfl,?_⟩) hH ?_
   rotate_left
   ·(intro w hSw;(try dsimp only at hSw);go_simp)<;>with_reducible rfl
   try simp only[Act.put,J1,J2,J3]
   refine K3 1 ⟨some 91,_,_,_,_,_⟩ ?_ rfl (Or.inl ⟨by rfl,?_⟩) hH ?_
   rotate_left
   ·(intro w hSw;(try dsimp only at hSw);go_simp)<;>with_reducible rfl
   try simp only[Act.put,J1,J2,J3]
   refine K3 3 ⟨some 93,_,_,_,_,_⟩ ?_ rfl (Or.inl ⟨by rfl,?_⟩) hH ?_
   rotate_left
   ·(intro w hSw;(try dsimp only at hSw);go_simp)<;>with_reducible rfl
   try simp only[Act.put,J1,J2,J3]
   refine K3 4 ⟨some 94,_,_,_,_,_⟩ ?_ rfl (Or.inl ⟨by rfl,?_⟩) hH ?_
   rotate_left
   ·(intro w hSw;(try dsimp only at hSw);go_simp)<;>with_reducible rfl
   try simp only[Act.put,J1,J2,J3]
   refine wpAnyH_ready (rs:=[2]) (by kernel_rfl) (by simp) ?_
   refine AllReadyH.cons (o:=⟨some 92,_,_,_,_,_⟩) rfl (fun K hK=>?_) AllReadyH.nil
   go_simp
   (go_at_call 8;(with_reducible refine(b1.out).mono ?_);rintro e wA ⟨vA,BA,rfl,hrA,hzA,DA,hHA,hoA,hmA,-⟩;obtain⟨aA,cA,rfl,_⟩:=U0 hrA;replace hrA:=J0 hrA;replace hzA:=J0 hzA;have h6A:=Nat.lt_of_lt_of_le h6 DA.below.size)
   refine hK.out _ _ (by exact h6A) (fun hH=>?_)
   clear hK K
   try simp only[Act.put,J1,J2,J3]
   refine wpAnyH_ready (rs:=[5]) (by kernel_rfl) (by simp) ?_
   refine AllReadyH.cons (o:=⟨some 95,_,_,_,_,_⟩) rfl (fun K hK=>?_) AllReadyH.nil
   go_simp
   (go_at_call 8;(with_reducible refine(hb2.out _ _ hHA hoA).mono ?_);rintro e wB ⟨vB,rfl,hrB,hdB⟩;have DB:=hmA wB _ hdB;have eA:=J0 (Blj (V4 hrA.out (fun g hg=>hdB.fr.block g (hzA.out g hg).1 (hzA.out g hg).2))).2;obtain⟨aB,cB,rfl,_⟩:=U0 hrB.1;have eB:=J0 (Blj hrB.1).2;clear hrB hdB hmA hHA hoA DA hrA hzA)
   refine hK.out _ _ (by exact Nat.lt_of_lt_of_le h6 DB.below.size) (fun hH=>?_)
   clear hK K
   try simp only[Act.put,J1,J2,J3]
   refine wpAnyH_ready (rs:=[6]) (by kernel_rfl) (by simp) ?_
   refine AllReadyH.cons (o:=⟨some 96,_,_,_,_,_⟩) rfl (fun K hK=>?_) AllReadyH.nil
   go_simp
   (go_at_call 9;(with_reducible refine(Byo eA.out eB.out rfl (Nat.le_trans hle.out (by omega))).mono ?_);rintro e wC ⟨rfl,hbC⟩;have DC:=DB.on hbC)
   refine hK.out _ _ (by exact Nat.lt_of_lt_of_le h6 DC.below.size) (fun hH=>?_)
   clear hK K
   try simp only[Act.put,J1,J2,J3]
   refine K3 7 ⟨some 97,_,_,_,_,_⟩ ?_ rfl (Or.inl ⟨by rfl,?_⟩) hH ?_
   rotate_left
   ·(intro w hSw;(try dsimp only at hSw);go_simp)<;>with_reducible rfl
   try simp only[Act.put,J1,J2,J3]
   refine K3 8 ⟨some 98,_,_,_,_,_⟩ ?_ rfl (Or.inl ⟨by rfl,?_⟩) hH ?_
   rotate_left
   ·(intro w hSw;(try dsimp only at hSw);go_simp)<;>with_reducible rfl
   try simp only[Act.put,J1,J2,J3]
   refine K3 9 ⟨some 99,_,_,_,_,_⟩ ?_ rfl (Or.inl ⟨by rfl,?_⟩) hH ?_
   rotate_left
   ·(intro w hSw;(try dsimp only at hSw);go_simp)<;>with_reducible rfl
   try simp only[Act.put,J1,J2,J3]
   refine wpAnyH_ready (rs:=[10]) (by kernel_rfl) (by simp) ?_
   refine AllReadyH.cons (o:=⟨some 100,_,_,_,_,_⟩) rfl (fun K hK=>?_) AllReadyH.nil
   go_simp
   (go_at_call 10;(with_reducible refine(DC.same rfl).mono ?_);rintro e wD ⟨rfl,hbD⟩;have DD:=DC.on hbD)
   refine hK.out _ _ (by exact Nat.lt_of_lt_of_le h6 DD.below.size) (fun hH=>?_)
   clear hK K
   try simp only[Act.put,J1,J2,J3]
   refine K3 11 ⟨some 101,_,_,_,_,_⟩ ?_ rfl (Or.inl ⟨by rfl,?_⟩) hH ?_
   rotate_left
   ·(intro w hSw;(try dsimp only at hSw);go_simp)<;>with_reducible rfl
   try simp only[Act.put,J1,J2,J3]
   refine K3 12 ⟨some 102,_,_,_,_,_⟩ ?_ rfl (Or.inl ⟨by rfl,?_⟩) hH ?_
   rotate_left
   ·(intro w hSw;(try dsimp only at hSw);go_simp)<;>with_reducible rfl
   try simp only[Act.put,J1,J2,J3]
   refine K3 13 ⟨some 103,_,_,_,_,_⟩ ?_ rfl (Or.inl ⟨by rfl,?_⟩) hH ?_
   rotate_left
   ·(intro w hSw;(try dsimp only at hSw);go_simp)<;>with_reducible rfl
   try simp only[Act.put,J1,J2,J3]
   refine K3 16 ⟨some 106,_,_,_,_,_⟩ ?_ rfl (Or.inl ⟨by rfl,?_⟩) hH ?_
   rotate_left
   ·(intro w hSw;(try dsimp only at hSw);go_simp)<;>with_reducible rfl
   try simp only[Act.put,J1,J2,J3]
   refine wpAnyH_ready (rs:=[14]) (by kernel_rfl) (by simp) ?_
   refine AllReadyH.cons (o:=⟨some 104,_,_,_,_,_⟩) rfl (fun K hK=>?_) AllReadyH.nil
   go_simp
   (go_at_call 11;(with_reducible refine(DD.B8).mono ?_);rintro e wE ⟨vE,rfl,hrE,DE,-⟩;rw[hsl.out]at hrE;obtain⟨aE,cE,rfl,_⟩:=hrE.shape)
   refine hK.out _ _ (by exact Nat.lt_of_lt_of_le h6 DE.below.size) (fun hH=>?_)
   clear hK K
   refine Kys.Azw (S':=fun w'=>(0<w'.heap.size)/\(convert 22 9 (.slice aE ls.length cE)).run prog w'=.ok (.string (strOfNums ls)) w') (fun _ h=>h.1) _ _ _ _ ?_
   replace hH:=And.intro hH (Ajl hrE)
   try simp only[Act.put,J1,J2,J3]
   refine K3 15 ⟨some 105,_,_,_,_,_⟩ ?_ rfl (Or.inl ⟨by rfl,?_⟩) hH ?_
   rotate_left
   ·(intro w hSw;(try dsimp only at hSw);go_simp)<;>with_reducible rfl
   try simp only[Act.put,J1,J2,J3]
   refine wpAnyH_ready (rs:=[17]) (by kernel_rfl) (by simp) ?_
   refine AllReadyH.cons (o:=⟨some 107,_,_,_,_,_⟩) rfl (fun K hK=>?_) AllReadyH.nil
   go_simp
   (go_at_call 11;(with_reducible refine(DE.swap.B8).mono ?_);rintro e wF ⟨vF,rfl,hrF,DF,hNF⟩;rw[hsl.out]at hrF;obtain⟨aF,cF,rfl,_⟩:=hrF.shape;replace hrE:=Afv hrE (fun g hg=>hNF g (.inr hg)))
   refine hK.out _ _ (by exact⟨Nat.lt_of_lt_of_le h6 DF.below.size,Ajl hrE⟩) (fun hH=>?_)
   clear hK K
   refine Kys.Azw (S':=fun w'=>((0<w'.heap.size)/\(convert 22 9 (.slice aE ls.length cE)).run prog w'=.ok (.string (strOfNums ls)) w')/\(convert 22 9 (.slice aF ls.length cF)).run prog w'=.ok (.string (strOfNums ls)) w') (fun _ h=>h.1) _ _ _ _ ?_
   replace hH:=And.intro hH (Ajl hrF)
   try simp only[Act.put,J1,J2,J3]
   refine K3 18 ⟨some 108,_,_,_,_,_⟩ ?_ rfl (Or.inl ⟨by rfl,?_⟩) hH ?_
   rotate_left
   ·(intro w hSw;(try dsimp only at hSw);go_simp)<;>with_reducible rfl
   try simp only[Act.put,J1,J2,J3]
   refine K3 19 ⟨some 109,_,_,_,_,_⟩ ?_ rfl (Or.inl ⟨by rfl,?_⟩) hH ?_
   rotate_left
   ·(intro w hSw;(try dsimp only at hSw);go_simp)<;>with_reducible rfl
   try simp only[Act.put,J1,J2,J3]
   refine K3 20 ⟨some 110,_,_,_,_,_⟩ ?_ rfl (Or.inl ⟨by rfl,?_⟩) hH ?_
   rotate_left
   ·(intro w hSw;(try dsimp only at hSw);go_simp)<;>with_reducible rfl
   try simp only[Act.put,J1,J2,J3]
   refine K3 21 ⟨some 111,_,_,_,_,_⟩ ?_ rfl (Or.inl ⟨by rfl,?_⟩) hH ?_
   rotate_left
   ·(intro w hSw;(try dsimp only at hSw);go_simp)<;>with_reducible rfl
   try simp only[Act.put,J1,J2,J3]
   refine wpAnyH_ready (rs:=[22]) (by kernel_rfl) (by simp) ?_
   refine AllReadyH.cons (o:=⟨some 112,_,_,_,_,_⟩) rfl (fun K hK=>?_) AllReadyH.nil
   go_simp
   (go_at_call 6;(with_reducible refine(hkn.out _ DF.below).mono ?_);rintro e wG ⟨rfl,hbG⟩)
   refine hK.out _ _ (by exact⟨⟨Nat.lt_of_lt_of_le h6 (Nat.le_trans DF.below.size hbG.size),Ajl (hrE.below hbG)⟩,Ajl (hrF.below hbG)⟩) (fun hH=>?_)
   clear hK K
   try simp only[Act.put,J1,J2,J3]
   refine K3 23 ⟨some 113,_,_,_,_,_⟩ ?_ rfl (Or.inl ⟨by rfl,?_⟩) hH ?_
   rotate_left
   ·(intro w hSw;(try dsimp only at hSw);go_simp)<;>with_reducible rfl
   try simp only[Act.put,J1,J2,J3]
   refine K3 24 ⟨some 14,_,_,_,_,_⟩ ?_ rfl (Or.inl ⟨by rfl,?_⟩) hH ?_
   rotate_left
   ·(intro w hSw;(try dsimp only at hSw);go_simp)<;>with_reducible rfl
   try simp only[Act.put,J1,J2,J3]
   refine wpAnyH_done (by kernel_rfl) ?_ _
   clear hH
   go_wp2
   go_ret
   exact⟨rfl,A2 DF.below hbG⟩
  ·have hn1:=J0 (Bbm (hT.below hbn.out) r c b hok)
   have hn2:=J0 (fun w2 (hb:Below W.heap.size W w2)=>Bbm (hT.below hb) r c b hok)
   clear hbk hsz
   go_wp2_with (first
    |(go_at_call 7;(with_reducible refine(hn1.out).mono ?_);rintro e w2 ⟨rfl,hb2⟩)
    |(go_at_call 7;(with_reducible refine(hn2.out _ (A2 hbn.out hb2)).mono ?_);rintro e w3 ⟨rfl,hb3⟩)
    |(go_at_call 6;(with_reducible refine(hkn.out _ (A2 (A2 hbn.out hb2) hb3)).mono ?_);rintro e w4 ⟨rfl,hb4⟩))
   go_ret
   exact⟨rfl,A2 (A2 (A2 hbn.out hb2) hb3) hb4⟩
end
end Go.Proofs.YtecnpoigegiooaaGreatDoor.Hos
namespace Go.Proofs.YtecnpoigegiooaaGreatDoor.Hos
open Go.Proofs.Tryz
open Go RowKit
theorem Cak{P:Program}(h:P.funcs.toList.any Func.goes=false)(f:FuncId):P.goes f=false:=by
 have F2:∀fn∈P.funcs.toList,fn.goes=false:=fun fn hfn=>by
  rw[List.any_eq_false]at h
  simpa using h fn hfn
 have h1:P.funcs.any Func.goes=false:=by
  rw[<- Array.any_toList]
  exact h
 unfold Program.goes
 rw[h1,Bool.and_false,Bool.or_false,List.any_eq_false]
 intro g _ hg
 cases hq:P.funcs[g]? with
 |none=>rw[hq]at hg;cases hg
 |some fn =>
  rw[hq]at hg
  have h2:fn∈P.funcs.toList:=by
   have:=Array.mem_of_getElem? hq
   simpa using this
  have h3:=F2 fn h2
  simp only[Option.any_some]at hg
  rw[h3]at hg
  cases hg
theorem Cke{P:Program}(h:P.funcs.toList.any Func.goes=false){c:OpenClaim}(hs:c.start=.entering):false=c.goesBy P:=by
 unfold OpenClaim.goesBy Program.goesAt Program.goesFrom
 rw[hs]
 simp only[Bool.or_false]
 cases P.funcNamed c.func with
 |none=>rfl
 |some f=>exact(Cak h f).symm
theorem Csf:Tryz.pinned.checked.prog.funcs.toList.any Func.goes=false:=by kernel_rfl
