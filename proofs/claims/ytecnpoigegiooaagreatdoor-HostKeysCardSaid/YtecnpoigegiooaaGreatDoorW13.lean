/- Part 13 of HostKeys. -/
import Derived.Test.YtecnpoigegiooaaGreatDoorW12
set_option maxHeartbeats 16000000
set_option maxRecDepth 100000
namespace Go.Proofs.YtecnpoigegiooaaGreatDoor.Scn
open Tryz
open Go RowKit Com Rw Lns
theorem Cjw(L:List En){f k:Nat}(h:f+k<=L.length):P7 (fl E5 L) (f*2) (k*2)=fl E5 (P7 L f k):=by
 unfold P7
 rw[Avn Abj _ _ (by omega),<- Nat.add_mul,Avm Abj _ _ h,Z9]
theorem Cjv(L:List En){i:Nat}(h:i<=L.length)(J:List Value):Z6 (fl E5 L) (i*2) J=fl E5 (L.take i)++(J++fl E5 (L.drop i)):=by
 unfold Z6
 rw[Avn Abj _ _ h,Avm Abj _ _ h]
theorem Bpt(L:List En):Aom (fl E5 L):=Aqf Bic L
def Cio(B:Zn)(w:World)(x s nx most:Nat)(kp:Bool)(cols top bot:Nat)(vL vR:List Ln)(f k i m:Nat)(a:At)(push:Bool)(e:Ending)(w':World):Prop :=
 (∃v,e=.returned v)/\∃sv' lv' L' R',E2 B w' x s (nx+m) most kp cols sv' lv' top bot L'.length (fl E5 L') L' R'/\vw L'=Z6 (P7 vL f k) i (R5 nx cols m a)/\vw R'=(if push then Ahu most vR ((vL.drop f).take k)else vR)/\Fr B PT w w'
section
variable {B:Zn}{w w':World}{x s nx most cols top bot n:Nat}{kp:Bool}{sv lv:Value}{L R:List En}
theorem E2.elem(h:E2 B w x s nx most kp cols sv lv top bot n (fl E5 L) L R){i:Nat}(hn:n=L.length)(hi:i<L.length):∃g c,lv=.slice (some ⟨g,0,none⟩) n c/\w.cell? ⟨g,i*2,none⟩=some (.int .i64 L[i].id)/\w.cell? ⟨g,i*2+1,none⟩=some (.pointer (some ⟨L[i].d,0,none⟩))/\O4 0 w L[i]:=by
 obtain⟨g,cap,tail,rfl,hg,hb,hc,hm⟩:=Ahf h.ln.own (by omega)
 have e0:=Ahz Abj hi (show 0<2 by decide)
 have e1:=Ahz Abj hi (show 1<2 by decide)
 have hl:i*2+1<(fl E5 L).length:=by rw[Q4 Abj];omega
 refine⟨g,cap,rfl,hb.cell _ ?_,hb.cell _ ?_,h.rows _ (List.getElem_mem hi)⟩
 ·rw[List.getElem?_toArray,List.getElem?_append_left (by omega)];exact e0
 ·rw[List.getElem?_toArray,List.getElem?_append_left hl];exact e1
theorem Cee{B:Zn}{w:World}{x s nx most cols top bot n:Nat}{kp:Bool}{sv lv:Value}{xs:List Value}{L R:List En}{p:Bool}{fn0:Nat}(hor:(p=false/\fn0=77)\/(p=true/\fn0=283))(h:E2 B w x s nx most kp cols sv lv top bot n xs L R)(e0:En)(he:O4 0 w e0)(hid:p=true->1<=e0.id/\e0.id<nx) :
  Calls prog fn0 #[.pointer (some ⟨x,0,none⟩),.agg #[.int .i64 e0.id,.pointer (some ⟨e0.d,0,none⟩)]] w fun e w'=>(∃v,e=.returned v)/\∃sv' R',E2 B w' x s nx most kp cols sv' lv top bot n xs L R'/\vw R'=(if p then O2 most (vw R) (e0.id,e0.l)else vw R)/\Fr B PT w w':=by
 rcases hor with⟨rfl,rfl⟩|⟨rfl,rfl⟩
 ·exact(Bxm _ _ _ w).mono fun e w' ⟨hv,hb⟩=>⟨hv,sv,R,h.below hb,rfl,Fr.A1 hb⟩
 ·exact Cfo h e0 he (hid rfl)
theorem Bwh{p:Bool}{fn0:Nat}(hor:(p=false/\fn0=77)\/(p=true/\fn0=283))(h:E2 B w x s nx most kp cols sv lv top bot L.length (fl E5 L) L R)(f k i m:Nat)(hf:f+k<=L.length)(hi:i<=L.length-k)(hm:L.length-k+m<=1000)(hnx:nx+m<=10000000000)(hc1:1<=cols)(hc5:cols<=512)(a:At)(hid:p=true->∀e∈L,1<=e.id/\e.id<nx) :
  Calls prog 76 #[.pointer (some ⟨x,0,none⟩),.agg #[.int .i64 f,.int .i64 k],.agg #[.int .i64 i,.int .i64 m],.agg #[.int .u32 a.f,.int .u32 a.b,.int .u16 a.g],.func (.func fn0) #[.pointer (some ⟨x,0,none⟩)] #[]] w (Cio B w x s nx most kp cols top bot (vw L) (vw R) f k i m a p):=by
 have hLl:=h.ln.own.1
 obtain⟨fa,hfa⟩:∃fa,fa=R5 nx cols:=⟨_,rfl⟩
 obtain⟨af,ab,ag⟩:=a
 simp only
 have hfl:∀j,R5 nx cols (j+1) ⟨af,ab,ag⟩=_:=fun j=>Bux nx cols j ⟨af,ab,ag⟩
 obtain⟨e,he⟩:∃e,e=f+k:=⟨_,rfl⟩
 have E3:=fun w=>Anh f k e he (by have:=h.ln.small;omega) w
 have hb1:=A3 w (.cells #[.int .i64 f,.int .i64 k] 171)
 have hb2:=A2 hb1 (A3 (w.alloc (.cells #[.int .i64 f,.int .i64 k] 171)) (.cells #[.int .i64 i,.int .i64 m] 171))
 have hb3:=A2 hb2 (A3 ((w.alloc (.cells #[.int .i64 f,.int .i64 k] 171)).alloc (.cells #[.int .i64 i,.int .i64 m] 171)) (.cells #[.int .u32 af,.int .u32 ab,.int .u16 ag] 51))
 have k6:=((Block.made w 171 #[.int .i64 f,.int .i64 k]).alloc (.cells #[.int .i64 i,.int .i64 m] 171)).alloc (.cells #[.int .u32 af,.int .u32 ab,.int .u16 ag] 51)
 have k7:=(Block.made (w.alloc (.cells #[.int .i64 f,.int .i64 k] 171)) 171 #[.int .i64 i,.int .i64 m]).alloc (.cells #[.int .u32 af,.int .u32 ab,.int .u16 ag] 51)
 have k8:=Block.made ((w.alloc (.cells #[.int .i64 f,.int .i64 k] 171)).alloc (.cells #[.int .i64 i,.int .i64 m] 171)) 51 #[.int .u32 af,.int .u32 ab,.int .u16 ag]
 simp only[World.size_alloc]at k7 k8
 have hM:=h.below hb3
 have hLs:=h.ln.small
 obtain⟨ao,c,hlv,hnc,hcm⟩:=h.ln.shape
 have Bej:=h.ln.blk.lt
 obtain⟨b6,hb6⟩:∃b6,b6=w.heap.size:=⟨_,rfl⟩
 obtain⟨b7,hb7⟩:∃b7,b7=w.heap.size+1:=⟨_,rfl⟩
 obtain⟨b8,hb8⟩:∃b8,b8=w.heap.size+1+1:=⟨_,rfl⟩
 obtain⟨n,hn⟩:∃n,n=L.length:=⟨_,rfl⟩
 rw[<- hn]at hM hf hi hm hLl hLs hlv hnc
 rw[<- hb6]at k6
 rw[<- hb7]at k7
 rw[<- hb8]at k8
 replace hn:=J0 hn
 replace he:=J0 he
 replace E3:=J0 E3
 replace hfl:=J0 hfl
 replace hLl:=J0 hLl
 replace hfa:=J0 hfa
 replace hid:=J0 hid
 clear h hb1 hb2
 go_enter func76,ntmps76
 go_wp2
 generalize ((w.alloc (.cells #[.int .i64 f,.int .i64 k] 171)).alloc (.cells #[.int .i64 i,.int .i64 m] 171)).alloc (.cells #[.int .u32 af,.int .u32 ab,.int .u16 ag] 51)=w0 at k6 k7 k8 hb3 hM |-
 rw[<- hb8,<- hb7,<- hb6]
 replace hb6:=J0 hb6
 replace hb7:=J0 hb7
 replace hb8:=J0 hb8
 have N6:∀w',Fr B PT w0 w'->Block w' b6 171 #[.int .i64 f,.int .i64 k]/\Block w' b7 171 #[.int .i64 i,.int .i64 m]/\Block w' b8 51 #[.int .u32 af,.int .u32 ab,.int .u16 ag]  :=fun _ hf=>⟨Block.fr k6 hf (.inl (by decide)),Block.fr k7 hf (.inl (by decide)),Block.fr k8 hf (.inl (by decide))⟩
 have hd0:Below w0.heap.size w0 w0.drew:=C7 (Below.refl _ _) 1
 have hS:=fun w' (hb:Below w0.heap.size w0 w')=>And.intro (hM.below hb).ln.cells.2.2.2.1 (And.intro ((N6 _ (Fr.A1 hb)).1.cell 0 rfl) ((N6 _ (Fr.A1 hb)).1.cell 1 rfl))
 have c0:=hS w0 (Below.refl _ _)
 have c1:=hS _ hd0
 rw[hlv]at c0 c1 hS
 obtain⟨a0,a1,a2⟩:=c0
 have heo:=he.out
 have hfe:f<=e:=by omega
 have hen:e<=n:=by omega
 have hec:e<=c:=by omega
 have hfI:(f:Int)<=(e:Int):=by omega
 have heI:(e:Int)<=(c:Int):=by omega
 have hek:e-f=k:=by omega
 obtain⟨ad,had⟩:∃ad,(if c=f then ao else Option.map (fun x=>x.add (f*2)) ao)=ad:=⟨_,rfl⟩
 have hd1:Hid (∀g,ao=some ⟨g,0,none⟩->0<k->ad=some ⟨g,f*2,none⟩):=J0 fun g hg h0=>by
  rw[<- had,if_neg (by omega),hg]
  simp[Addr.add_lit]
 replace N6:=J0 N6
 replace hS:=J0 hS
 replace hM:=J0 hM
 replace hlv:=J0 hlv
 clear k6 k7 k8 heo
 go_region_held3 (fun w'=>w'.cell? ⟨x,3,none⟩=some (.slice ao n c)/\w'.cell? ⟨b6,0,none⟩=some (.int .i64 f)/\w'.cell? ⟨b6,1,none⟩=some (.int .i64 k))
  (first|exact⟨a0,a1,a2⟩|exact c1|exact hS.out _ hb2.out)
  (first
   |(go_at_call 102;(with_reducible refine(E3.out _).mono ?_);rintro r w2 ⟨rfl,hb2'⟩;have hb2:=J0 (A2 hd0 hb2')))
 have hM2:=hM.out.below hb2.out
 have hf2:Fr B PT w0 w2:=Fr.A1 hb2.out
 replace hM2:=J0 hM2
 replace hf2:=J0 hf2
 clear c1 a0 a1 a2 hS E3 hfI heI hd0 had hec
 go_wp2
 go_loopw [23] (fun iv wr=>∃j:Nat,j<=k/\iv=.int .i64 j/\Hid (∃sv' R',E2 B wr x s nx most kp cols sv' lv top bot n (fl E5 L) L R'/\vw R'=(if p then Ahu most (vw R) (((vw L).drop f).take j)else vw R)/\Fr B PT w0 wr)) (fun iv _=>k-(intOf iv).toNat)
 case atStart=>exact⟨0,Nat.zero_le _,rfl,J0 ⟨sv,R,hM2.out,by cases p<;>simp[Ahu],hf2.out⟩⟩
 case round =>
  obtain⟨j,hj,rfl,hR⟩:=hrel
  obtain⟨sv',R',hMr,hvR,hfr⟩:=hR.out
  by_cases hlt:j<k
  ·have hjI:(j:Int)<(k:Int):=by omega
   have hfj:f+j<L.length:=by have:=hn.out;omega
   obtain⟨g,c',e1,q0,q1,A6⟩:=hMr.elem hn.out hfj
   rw[hlv.out]at e1
   simp only[Value.slice.injEq]at e1
   obtain⟨rfl,_,rfl⟩:=e1
   obtain rfl:=hd1.out g rfl (by omega)
   rw[Nat.add_mul]at q0 q1
   have Brc:=fun hp=>hid.out hp _ (List.getElem_mem hfj)
   have U2:((vw L).drop f).take (j+1)=((vw L).drop f).take j++[((L[f+j]).id,(L[f+j]).l)]:=by
    rw[List.take_add_one,List.getElem?_drop]
    congr 1
    simp[vw,hfj]
   generalize L[f+j]=e0 at q0 q1 A6 U2 Brc
   have hbw:Below wr.heap.size wr (wr.alloc (.cells #[.int .i64 e0.id,.pointer (some ⟨e0.d,0,none⟩)] 188)):=A3 wr _
   have hke:=Cee hor (hMr.below hbw) e0 (A6.below hbw) Brc
   replace hke:=J0 hke
   replace hvR:=J0 hvR
   have hfr':=J0 hfr
   replace U2:=J0 U2
   replace hbw:=J0 hbw
   clear hMr hfr A6 hR
   have Aot:=J0 (fun w3 sv3 R3 (hM3:E2 B w3 x s nx most kp cols sv3 lv top bot n (fl E5 L) L R3) (hv3:vw R3=(if p then O2 most (vw R') (e0.id,e0.l) else vw R')) (hf3:Fr B PT (wr.alloc (.cells #[.int .i64 e0.id,.pointer (some ⟨e0.d,0,none⟩)] 188)) w3)=>(⟨sv3,R3,hM3,by
    rw[hv3,hvR.out,U2.out]
    cases p
    ·rfl
    ·exact(Bvm _ _ _ _).symm,hfr'.out.trans ((Fr.A1 hbw.out).trans hf3)⟩:∃sv' R',E2 B w3 x s nx most kp cols sv' lv top bot n (fl E5 L) L R'/\vw R'=(if p then Ahu most (vw R) (((vw L).drop f).take (j+1))else vw R)/\Fr B PT w0 w3))
   rcases hor with⟨rfl,rfl⟩|⟨rfl,rfl⟩
   all_goals
    go_wp2_with (first
     |(go_at_call 77;(with_reducible refine hke.out.mono ?_);rintro r w3 ⟨⟨v3,rfl⟩,sv3,R3,hM3,hv3,hf3⟩)
     |(go_at_call 283;(with_reducible refine hke.out.mono ?_);rintro r w3 ⟨⟨v3,rfl⟩,sv3,R3,hM3,hv3,hf3⟩))
    have A4:=J0 (Aot.out _ _ _ hM3 hv3 hf3)
    clear hM3 hv3 hf3
    go_roundw
    case rel=>exact⟨j+1,by omega,by go_num,A4⟩
    case measure=>simp[intOf];omega
  ·obtain rfl:j=k:=by omega
   obtain⟨q6,q7,q8⟩:=N6.out _ hfr
   have s0:=q6.cell 0 rfl
   have s1:=q6.cell 1 rfl
   have hcu:=Buj hMr.ln (Bpt L) f j (by omega)
   have hx0:=Cjw L (f:=f) (k:=j) (by have:=hn.out;omega)
   rw[hx0]at hcu
   have hAl:(P7 L f j).length=n-j:=by rw[Bay _ (by have:=hn.out;omega),hn.out]
   have hMs:=hMr.sub (Cgs L f j)
   have hvA:vw (P7 L f j)=P7 (vw L) f j:=Cgr _ _ _ _
   generalize P7 L f j=A at hcu hAl hMs hvA
   obtain⟨n1,hn1⟩:∃n1,n1=n-j:=⟨_,rfl⟩
   rw[<- hn1]at hcu hAl hm hi
   replace hcu:=J0 hcu
   replace hMs:=J0 hMs
   replace hfr:=J0 hfr
   replace hn1:=J0 hn1
   clear hMr hR q6 q7 q8 hM2 hf2
   go_wp2_with (first
    |(go_at_call 103;(with_reducible refine hcu.out.mono ?_);rintro r w4 ⟨⟨v4,rfl⟩,lv4,xs4,hL4,rfl,hO4⟩;have hM4:=hMs.out.ln' hL4 hO4;have hf4:=hfr.out.trans (hMs.out.ln.frame hO4);have t0:=(N6.out _ hf4).2.1.cell 0 rfl;have t1:=(N6.out _ hf4).2.1.cell 1 rfl;have hmr:=Bti hL4 (Bpt A) i m hi hm)
    |(go_at_call 104;(with_reducible refine hmr.mono ?_);rintro r w5 ⟨⟨v5,rfl⟩,lv5,xs5,hL5,hx5,hO5⟩;have hM5:=hM4.ln' hL5 hO5;have hf5:=hf4.trans (hM4.ln.frame hO5);have u1:=(N6.out _ hf5).2.1.cell 1 rfl))
   obtain⟨J,hJl,hJ1,rfl⟩:=hx5
   rw[Cjv A (by omega)]at hM5
   obtain⟨N,hN⟩:∃N,N=n1+m:=⟨_,rfl⟩
   rw[<- hN]at hM5
   obtain⟨ao5,c5,Aso,hnc5,_⟩:=hM5.ln.shape
   have hAp:List.Perm A (A.take i++A.drop i):=by rw[List.take_append_drop]
   have hTl:(A.take i).length=i:=by rw[List.length_take];omega
   replace hM5:=J0 (hM5.sub (L':=A.take i++A.drop i) (by rw[List.take_append_drop];exact List.Sublist.refl _))
   replace hf5:=J0 hf5
   replace Aso:=J0 Aso
   replace hAl:=J0 hAl
   replace hTl:=J0 hTl
   have hNx:=J0 hN
   clear hN
   clear hL4 hO4 hM4 hf4 t0 t1 hmr hL5 hO5 hcu hMs s0 s1 u1 hAp hlt
   have u1:=(N6.out _ hf5.out).2.1.cell 1 rfl
   go_loopw [39] (fun iv wr=>∃jj:Nat,jj<=m/\iv=.int .i64 jj/\Hid (∃F J',F.length=jj/\J'.length=(m-jj)*2/\E2 B wr x s (nx+jj) most kp cols sv' lv5 top bot N (fl E5 (A.take i++F)++(J'++fl E5 (A.drop i))) (A.take i++(F++A.drop i)) R'/\vw F=R5 nx cols jj ⟨af,ab,ag⟩/\Fr B PT w0 wr)) (fun iv _=>m-(intOf iv).toNat)
   case atStart=>exact⟨0,Nat.zero_le _,rfl,J0 ⟨[],J,rfl,hJl,by simpa using hM5.out,rfl,hf5.out⟩⟩
   case round =>
    obtain⟨jj,hjj,rfl,hR2⟩:=hrel
    obtain⟨F,J',hFl,hJ',hMr,hvF,Acf⟩:=hR2.out
    by_cases hlt:jj<m
    ·have hjI:(jj:Int)<(m:Int):=by omega
     have hNo:=hNx.out
     obtain⟨q6,q7,q8⟩:=N6.out _ Acf
     obtain⟨g,c',tail,e1,hgB,hbg,_,_⟩:=Ahf hMr.ln.own (by omega)
     rw[Aso.out]at e1
     simp only[Value.slice.injEq]at e1
     obtain⟨rfl,_,rfl⟩:=e1
     obtain⟨u,v,J2,rfl⟩:∃u v J2,J'=u::v::J2:=by
      match J',hJ' with
      |[],hJ'=>simp at hJ';omega
      |[_],hJ'=>simp at hJ';omega
      |u::v::J2,_=>exact⟨u,v,J2,rfl⟩
     have hJ2:J2.length=(m-(jj+1))*2:=by simp at hJ';omega
     have hAF:(A.take i++F).length=i+jj:=by rw[List.length_append,hTl.out,hFl]
     have hdr:Below wr.heap.size wr wr.drew:=C7 (Below.refl _ _) 1
     have hMd:=hMr.below hdr
     obtain⟨y,hy⟩:∃y,y=nx+jj:=⟨_,rfl⟩
     rw[<- hy]at hMd
     have Arj:=Caj hMd.ln.st (by omega) cols hc1 hc5 ⟨af,ab,ag⟩
     simp only at Arj
     have Cuf:IntKind.i64.wrap ((i:Int)+(jj:Int))=(i:Int)+(jj:Int):=IntWalk.i64_in _ (by omega)
     have hw0:(0:Int)<=(i:Int)+(jj:Int):=by omega
     have hw1:(i:Int)+(jj:Int)<(N:Int):=by omega
     have hw2:((i:Int)+(jj:Int)).toNat=i+jj:=by omega
     have hNI:i+jj<N:=by omega
     have hS2:∀w' nx' sv'' xs'' R'',LnX B w' x s nx' most kp cols sv'' (.slice (some ⟨g,0,none⟩) N c5) top bot N xs'' R''->Fr B PT w0 w'->w'.cell? ⟨x,0,none⟩=some (.pointer (some ⟨s,0,none⟩))/\w'.cell? ⟨x,2,none⟩=some (.int .i64 cols)/\w'.cell? ⟨x,3,none⟩=some (.slice (some ⟨g,0,none⟩) N c5)/\w'.cell? ⟨b7,0,none⟩=some (.int .i64 i)/\w'.cell? ⟨b8,0,none⟩=some (.int .u32 af)/\w'.cell? ⟨b8,1,none⟩=some (.int .u32 ab)/\w'.cell? ⟨b8,2,none⟩=some (.int .u16 ag) :=
      fun w' nx' sv'' xs'' R'' hm' hf'=>⟨hm'.cells.1,hm'.cells.2.2.1,hm'.cells.2.2.2.1,(N6.out _ hf').2.1.cell 0 rfl,(N6.out _ hf').2.2.cell 0 rfl,(N6.out _ hf').2.2.cell 1 rfl,(N6.out _ hf').2.2.cell 2 rfl⟩
     rw[Aso.out]at hMr hMd
     obtain⟨a0,a1,a2,a3,a4,a5,a6⟩:=hS2 _ _ _ _ _ hMr.ln Acf
     have c1:=hS2 _ _ _ _ _ hMd.ln (Acf.trans (Fr.A1 hdr))
     have Awd:=fun w6 d g6 (h1:SX 0 w6 s (y+1) most sv' R') (Crr:O4 wr.drew.heap.size w6 (En.mk y d g6 0 (Aab cols ⟨af,ab,ag⟩))) (ho6:A0 [s] wr.drew w6)=>(by
      have hpm:List.Perm (A.take i++((F++[En.mk y d g6 0 (Aab cols ⟨af,ab,ag⟩)])++A.drop i)) (En.mk y d g6 0 (Aab cols ⟨af,ab,ag⟩)::(A.take i++(F++A.drop i))):=by
       rw[List.append_assoc F,List.singleton_append,<- List.append_assoc (A.take i),<- List.append_assoc (A.take i)]
       exact List.perm_middle
      obtain⟨hM6,hf6⟩:=hMd.fresh h1 Crr ho6 hpm
      obtain⟨hM7,hO7⟩:=hM6.place hAF (En.mk y d g6 0 (Aab cols ⟨af,ab,ag⟩))
      have hfa:=(Acf.trans (Fr.A1 hdr)).trans hf6
      have hf7:=hfa.trans (hM6.ln.frame (hO7.mono (by simp[Value.ownBlock])))
      obtain⟨g',cap',tail',e1',_,hbg',_,_⟩:=Ahf hM6.ln.own (by omega)
      simp only[Value.slice.injEq,Option.some.injEq,Addr.mk.injEq]at e1'
      obtain⟨⟨rfl,_⟩,_⟩:=e1'
      have Bqz:(fl E5 (A.take i++F)).length=(i+jj)*2:=by rw[Q4 Abj,hAF]
      refine⟨hS2 _ _ _ _ _ hM6.ln hfa,⟨hbg'.cell _ ?_,hbg'.cell _ ?_,World.ownsRow.frozenAt hM6.ln.own _,World.ownsRow.frozenAt hM6.ln.own _⟩,hS2 _ _ _ _ _ hM7.ln hf7,J0 ⟨F++[En.mk y d g6 0 (Aab cols ⟨af,ab,ag⟩)],J2,by simp[hFl],hJ2,?_,?_,hf7⟩⟩
      ·rw[List.getElem?_toArray,List.append_assoc,List.getElem?_append_right (by omega),Bqz,Nat.sub_self];rfl
      ·rw[List.getElem?_toArray,List.append_assoc,List.getElem?_append_right (by omega),Bqz,show(i+jj)*2+1-(i+jj)*2=1 by omega];rfl
      ·rw[show nx+(jj+1)=y+1 by omega]
       rw[List.append_assoc (A.take i) F]at hM7
       exact hM7
      ·rw[show vw (F++[En.mk y d g6 0 (Aab cols ⟨af,ab,ag⟩)])=vw F++[((y:Int),Aab cols ⟨af,ab,ag⟩)]by simp[vw],hvF,hfl.out,hy,Int.natCast_add] :
      (w6.cell? ⟨x,0,none⟩=some (.pointer (some ⟨s,0,none⟩))/\w6.cell? ⟨x,2,none⟩=some (.int .i64 cols)/\w6.cell? ⟨x,3,none⟩=some (.slice (some ⟨g,0,none⟩) N c5)/\w6.cell? ⟨b7,0,none⟩=some (.int .i64 i)/\w6.cell? ⟨b8,0,none⟩=some (.int .u32 af)/\w6.cell? ⟨b8,1,none⟩=some (.int .u32 ab)/\w6.cell? ⟨b8,2,none⟩=some (.int .u16 ag)) /\
      (w6.cell? ⟨g,(i+jj)*2,none⟩=some u/\w6.cell? ⟨g,(i+jj)*2+1,none⟩=some v/\w6.frozen? ⟨g,(i+jj)*2,none⟩=false/\w6.frozen? ⟨g,(i+jj)*2+1,none⟩=false) /\
      (((w6.setCell ⟨g,(i+jj)*2,none⟩ (.int .i64 y)).setCell ⟨g,(i+jj)*2+1,none⟩ (.pointer (some ⟨d,0,none⟩))).cell? ⟨x,0,none⟩=some (.pointer (some ⟨s,0,none⟩))/\((w6.setCell ⟨g,(i+jj)*2,none⟩ (.int .i64 y)).setCell ⟨g,(i+jj)*2+1,none⟩ (.pointer (some ⟨d,0,none⟩))).cell? ⟨x,2,none⟩=some (.int .i64 cols)/\((w6.setCell ⟨g,(i+jj)*2,none⟩ (.int .i64 y)).setCell ⟨g,(i+jj)*2+1,none⟩ (.pointer (some ⟨d,0,none⟩))).cell? ⟨x,3,none⟩=some (.slice (some ⟨g,0,none⟩) N c5)/\((w6.setCell ⟨g,(i+jj)*2,none⟩ (.int .i64 y)).setCell ⟨g,(i+jj)*2+1,none⟩ (.pointer (some ⟨d,0,none⟩))).cell? ⟨b7,0,none⟩=some (.int .i64 i)/\((w6.setCell ⟨g,(i+jj)*2,none⟩ (.int .i64 y)).setCell ⟨g,(i+jj)*2+1,none⟩ (.pointer (some ⟨d,0,none⟩))).cell? ⟨b8,0,none⟩=some (.int .u32 af)/\((w6.setCell ⟨g,(i+jj)*2,none⟩ (.int .i64 y)).setCell ⟨g,(i+jj)*2+1,none⟩ (.pointer (some ⟨d,0,none⟩))).cell? ⟨b8,1,none⟩=some (.int .u32 ab)/\((w6.setCell ⟨g,(i+jj)*2,none⟩ (.int .i64 y)).setCell ⟨g,(i+jj)*2+1,none⟩ (.pointer (some ⟨d,0,none⟩))).cell? ⟨b8,2,none⟩=some (.int .u16 ag)) /\
      Hid (∃F J',F.length=jj+1/\J'.length=(m-(jj+1))*2/\E2 B ((w6.setCell ⟨g,(i+jj)*2,none⟩ (.int .i64 y)).setCell ⟨g,(i+jj)*2+1,none⟩ (.pointer (some ⟨d,0,none⟩))) x s (nx+(jj+1)) most kp cols sv' (.slice (some ⟨g,0,none⟩) N c5) top bot N (fl E5 (A.take i++F)++(J'++fl E5 (A.drop i))) (A.take i++(F++A.drop i)) R'/\vw F=R5 nx cols (jj+1) ⟨af,ab,ag⟩/\Fr B PT w0 ((w6.setCell ⟨g,(i+jj)*2,none⟩ (.int .i64 y)).setCell ⟨g,(i+jj)*2+1,none⟩ (.pointer (some ⟨d,0,none⟩)))))
     have hu1:=(N6.out _ Acf).2.1.cell 0 rfl
     replace Awd:=J0 Awd
     replace Arj:=J0 Arj
     replace hy:=J0 hy
     clear hNo hMr hMd hbg hS2 hR2 hvF hFl hAF hJ2 hJ' hu1 Acf u1 hdr
     go_wp2
     go_region_held3 (fun w'=>w'.cell? ⟨x,0,none⟩=some (.pointer (some ⟨s,0,none⟩))/\w'.cell? ⟨x,2,none⟩=some (.int .i64 cols)/\w'.cell? ⟨x,3,none⟩=some (.slice (some ⟨g,0,none⟩) N c5)/\w'.cell? ⟨b7,0,none⟩=some (.int .i64 i)/\w'.cell? ⟨b8,0,none⟩=some (.int .u32 af)/\w'.cell? ⟨b8,1,none⟩=some (.int .u32 ab)/\w'.cell? ⟨b8,2,none⟩=some (.int .u16 ag))
      (first|exact⟨a0,a1,a2,a3,a4,a5,a6⟩|exact c1|exact hz|exact hzz)
      (first
       |(go_at_call 105;(with_reducible refine Arj.out.mono ?_);rintro r w6 ⟨d,g6,rfl,h16,hr6,ho6⟩;obtain⟨hz,⟨p0,p1,f0,f1⟩,hzz,A4⟩:=Awd.out w6 d g6 h16 hr6 ho6))
     clear h16 hr6 ho6 p0 p1 f0 f1 hz hzz c1 Awd Arj a0 a1 a2 a3 a4 a5 a6 Cuf hw0 hw1 hw2 hNI
     go_wp2
     go_roundw
     case rel=>exact⟨jj+1,by omega,by go_num,by rw[Aso.out];exact A4⟩
     case measure=>simp[intOf];omega
    ·obtain rfl:jj=m:=by omega
     have hNo:=hNx.out
     have hJ0:J'=[]:=List.eq_nil_of_length_eq_zero (by omega)
     subst hJ0
     have hvI:vw (A.take i++(F++A.drop i))=Z6 (P7 (vw L) f j) i (R5 nx cols jj ⟨af,ab,ag⟩):=by
      rw[<- hvA,<- hvF]
      simp[vw,Z6,List.map_take,List.map_drop]
     have hlen:(A.take i++(F++A.drop i)).length=N:=by
      rw[List.length_append,List.length_append,hTl.out,hFl,List.length_drop,hAl.out];omega
     rw[List.nil_append,<- Z9,List.append_assoc,<- hlen]at hMr
     have A4:=J0 (⟨sv',lv5,_,R',hMr,hvI,hvR,(Fr.A1 hb3).trans Acf⟩:∃sv' lv' L' R'',E2 B wr x s (nx+jj) most kp cols sv' lv' top bot L'.length (fl E5 L') L' R''/\vw L'=Z6 (P7 (vw L) f j) i (R5 nx cols jj ⟨af,ab,ag⟩)/\vw R''=(if p then Ahu most (vw R) (((vw L).drop f).take j)else vw R)/\Fr B PT w wr)
     clear hNo hMr hvF hvI Acf hR2
     go_wp2
     go_end0
     exact⟨⟨_,rfl⟩,A4.out⟩
end
def SC(B:Zn)(w:World)(x s:Nat)(S:Scr):Prop :=
 ∃sv lv L R,E2 B w x s S.nx S.most S.kp S.cols sv lv S.top S.bot L.length (fl E5 L) L R/\vw L=S.L/\vw R=S.R
section
variable {B:Zn}{w w':World}{x s:Nat}{S:Scr}
theorem SC.fr{B':Zn}{ts:List TypeId}(h:SC B w x s S)(hf:Fr B' ts w w')(hn:P0 ts):SC B w' x s S:=by
 obtain⟨sv,lv,L,R,h1,h2,h3⟩:=h
 exact⟨sv,lv,L,R,h1.fr hf hn,h2,h3⟩
theorem SC.below(h:SC B w x s S)(hb:Below w.heap.size w w'):SC B w' x s S:=h.fr (Fr.A1 (B:=fun _=>True) (ts:=[]) hb) (by simp[P0])
theorem SC.cells(h:SC B w x s S):w.cell? ⟨x,0,none⟩=some (.pointer (some ⟨s,0,none⟩))/\w.cell? ⟨x,1,none⟩=some (.bool S.kp)/\w.cell? ⟨x,2,none⟩=some (.int .i64 S.cols)/\(∃ao c,w.cell? ⟨x,3,none⟩=some (.slice ao S.L.length c))/\w.cell? ⟨x,4,none⟩=some (.int .i64 S.top)/\w.cell? ⟨x,5,none⟩=some (.int .i64 S.bot):=by
 obtain⟨sv,lv,L,R,h1,h2,h3⟩:=h
 obtain⟨c0,c1,c2,c3,c4,c5⟩:=h1.ln.cells
 obtain⟨ao,c,rfl,_⟩:=h1.ln.shape
 rw[<- h2,Ahv]
 exact⟨c0,c1,c2,⟨ao,c,c3⟩,c4,c5⟩
theorem SC.elem(h:SC B w x s S){i:Nat}(hi:i<S.L.length):∃g c d,w.cell? ⟨x,3,none⟩=some (.slice (some ⟨g,0,none⟩) S.L.length c)/\w.cell? ⟨g,i*2,none⟩=some (.int .i64 S.L[i].1)/\w.cell? ⟨g,i*2+1,none⟩=some (.pointer (some ⟨d,0,none⟩)):=by
 obtain⟨sv,lv,L,R,h1,h2,h3⟩:=h
 have hl:L.length=S.L.length:=by rw[<- h2,Ahv]
 have hiL:i<L.length:=by omega
 have hc:=h1.ln.cells.2.2.2.1
 obtain⟨g,c,rfl,q0,q1,_⟩:=h1.elem rfl hiL
 rw[hl]at hc
 refine⟨g,c,_,hc,?_,q1⟩
 rw[q0]
 simp only[<- h2,vw,List.getElem_map]
theorem Aeq(h:SC B w x s S)(hl:1<=S.L.length):Calls prog 97 #[.pointer (some ⟨x,0,none⟩)] w fun e w'=>e=.returned (.bool true)/\w=w':=by
 obtain⟨_,_,_,⟨ao,c,c3⟩,_,_⟩:=h.cells
 have hl':(0:Int)<(S.L.length:Int):=by omega
 generalize S.L.length=n at c3 hl'
 clear h
 go_enter func97,ntmps97
 go_wp2
 go_ret
 exact⟨G1 (decide_eq_true (by omega)),rfl⟩
theorem Adx(h:SC B w x s S)(hl:1<=S.L.length):Calls prog 70 #[.pointer (some ⟨x,0,none⟩)] w fun e w'=>e=.returned (.int .i64 S.L.length)/\w=w':=by
 have hm:=J0 (Aeq h hl)
 obtain⟨_,_,_,⟨ao,c,c3⟩,_,_⟩:=h.cells
 generalize S.L.length=n at c3 |-
 clear h
 go_enter func70,ntmps70
 go_wp2_with((go_at_call 97;(with_reducible refine(hm.out).mono ?_);rintro e w' ⟨rfl,rfl⟩))
 go_ret
 exact⟨rfl,rfl⟩
theorem Aco(h:SC B w x s S)(hl:1<=S.L.length):Calls prog 124 #[.pointer (some ⟨x,0,none⟩)] w fun e w'=>e=.returned (.int .i64 S.cols)/\w=w':=by
 have hm:=J0 (Aeq h hl)
 obtain⟨_,_,c2,_,_,_⟩:=h.cells
 generalize S.cols=n at c2 |-
 clear h
 go_enter func124,ntmps124
 go_wp2_with((go_at_call 97;(with_reducible refine(hm.out).mono ?_);rintro e w' ⟨rfl,rfl⟩))
 go_ret
 exact⟨rfl,rfl⟩
theorem Boa(h:SC B w x s S)(hl:1<=S.L.length)(i:Int):Calls prog 98 #[.pointer (some ⟨x,0,none⟩),.int .i64 i] w fun e w'=>e=.returned (.bool (decide (0<=i/\i<S.L.length)))/\w=w':=by
 have hm:=J0 (Adx h hl)
 obtain⟨b,hb⟩:∃b,b=decide (0<=i/\i<(S.L.length:Int)):=⟨_,rfl⟩
 rw[<- hb]
 replace hb:=J0 hb
 clear h
 by_cases h0:0<=i
 ·go_enter func98,ntmps98
  go_wp2_with((go_at_call 70;(with_reducible refine(hm.out).mono ?_);rintro e w' ⟨rfl,rfl⟩))
  go_ret
  exact⟨G1 (by rw[hb.out,Bool.eq_iff_iff];simp;omega),rfl⟩
 ·have h1:decide (0<=i)=false:=decide_eq_false h0
  go_enter func98,ntmps98
  go_wp2_with((go_at_call 70;(with_reducible refine(hm.out).mono ?_);rintro e w' ⟨rfl,rfl⟩))
  go_ret
  exact⟨G1 (by rw[hb.out];symm;exact decide_eq_false (by omega)),rfl⟩
theorem Aur(h:SC B w x s S)(at':Int):Calls prog 272 #[.pointer (some ⟨x,0,none⟩),.int .i64 at'] w fun e w'=>e=.returned (.bool (decide ((S.top:Int)<=at'/\at'<=S.bot)))/\Below w.heap.size w w':=by
 obtain⟨_,_,_,_,c4,c5⟩:=h.cells
 obtain⟨b,hb⟩:∃b,b=decide ((S.top:Int)<=at'/\at'<=S.bot):=⟨_,rfl⟩
 rw[<- hb]
 generalize S.top=t at c4 hb
 generalize S.bot=bo at c5 hb
 replace hb:=J0 hb
 clear h
 by_cases h0:(t:Int)<=at'
 ·go_enter func272,ntmps272
  go_wp2
  try go_quiet (fail)
  try go_wp2
  go_ret
  exact⟨G1 (by rw[hb.out,Bool.eq_iff_iff];simp;omega),by first|exact Below.refl _ _|exact C7 (Below.refl _ _) _⟩
 ·have h1:decide ((t:Int)<=at')=false:=decide_eq_false h0
  go_enter func272,ntmps272
  go_wp2
  try go_quiet (fail)
  try go_wp2
  go_ret
  exact⟨G1 (by rw[hb.out];symm;exact decide_eq_false (by omega)),by first|exact Below.refl _ _|exact C7 (Below.refl _ _) _⟩
theorem Bpm(h:SC B w x s S)(hl:1<=S.L.length)(i:Int):Calls prog 73 #[.pointer (some ⟨x,0,none⟩),.int .i64 i] w fun e w'=>e=.returned (.int .i64 (L6 S.L i))/\w=w':=by
 have hm:=Boa h hl i
 by_cases hi:0<=i/\i<S.L.length
 ·obtain⟨k,rfl⟩:∃k:Nat,i=k:=⟨i.toNat,by omega⟩
  have hk:k<S.L.length:=by omega
  obtain⟨g,c,d,c3,q0,q1⟩:=h.elem hk
  rw[Blp hk]
  rw[decide_eq_true hi]at hm
  have hkI:(k:Int)<(S.L.length:Int):=by omega
  generalize S.L[k].1=y at q0 |-
  generalize S.L.length=n at c3 hkI
  replace hm:=J0 hm
  clear h hi hk hl
  go_enter func73,ntmps73
  go_wp2_with((go_at_call 98;(with_reducible refine(hm.out).mono ?_);rintro e w' ⟨rfl,rfl⟩))
  go_ret
  exact⟨rfl,rfl⟩
 ·rw[decide_eq_false hi]at hm
  have h0:L6 S.L i=0:=by unfold L6;rw[if_neg hi]
  rw[h0]
  replace hm:=J0 hm
  clear h hi hl h0
  go_enter func73,ntmps73
  go_wp2_with((go_at_call 98;(with_reducible refine(hm.out).mono ?_);rintro e w' ⟨rfl,rfl⟩))
  go_ret
  exact⟨rfl,rfl⟩
def G3(B:Zn)(w:World)(x s:Nat)(S:Scr)(i d:Nat):Prop :=
 ∃sv lv L R,E2 B w x s S.nx S.most S.kp S.cols sv lv S.top S.bot L.length (fl E5 L) L R/\vw L=S.L/\vw R=S.R/\∃e,L[i]?=some e/\e.d=d
theorem Bmw(h:SC B w x s S)(hl:1<=S.L.length)(i:Nat)(hi:i<S.L.length):Calls prog 71 #[.pointer (some ⟨x,0,none⟩),.int .i64 i] w fun e w'=>(∃d,e=.returned (.pointer (some ⟨d,0,none⟩))/\G3 B w x s S i d)/\w=w':=by
 have hm:=Boa h hl i
 rw[decide_eq_true (by omega)]at hm
 obtain⟨sv,lv,L,R,h1,h2,h3⟩:=h
 have hll:L.length=S.L.length:=by rw[<- h2,Ahv]
 have hiL:i<L.length:=by omega
 have hc:=h1.ln.cells.2.2.2.1
 have hat:G3 B w x s S i L[i].d:=⟨sv,lv,L,R,h1,h2,h3,L[i],List.getElem?_eq_getElem hiL,rfl⟩
 obtain⟨g,c,rfl,q0,q1,hrw⟩:=h1.elem rfl hiL
 clear hrw
 have hkI:(i:Int)<(L.length:Int):=by omega
 generalize L[i].d=d at q1 hat
 generalize L.length=n at hc hkI
 replace hm:=J0 hm
 replace hat:=J0 hat
 clear h1 h2 h3 hi hl hll hiL q0
 go_enter func71,ntmps71
 go_wp2_with((go_at_call 98;(with_reducible refine(hm.out).mono ?_);rintro e w' ⟨rfl,rfl⟩))
 go_ret
 exact⟨⟨d,rfl,hat.out⟩,rfl⟩
end
def Did(B:Zn)(w:World)(x s:Nat)(S:Scr)(e:Ending)(w':World):Prop:=(∃v,e=.returned v)/\SC B w' x s S/\Fr B PT w w'
def Aim(B:Zn)(w:World)(x s:Nat)(S:Scr)(y:Int)(e:Ending)(w':World):Prop:=e=.returned (.int .i64 y)/\SC B w' x s S/\Fr B PT w w'
theorem mkf(fn:Fn)(first cap:Array Value)(w:World):(Instr.makeFunc fn first cap).run prog w=.ok (.func fn first cap) w:=rfl
section
variable {B:Zn}{w w':World}{x s:Nat}{S:Scr}
theorem Bcf{p:Bool}{fn0:Nat}(hor:(p=false/\fn0=77)\/(p=true/\fn0=283))(h:SC B w x s S)(f k i m:Nat)(hf:f+k<=S.L.length)(hi:i<=S.L.length-k)(hm:S.L.length-k+m<=1000)(hnx:S.nx+m<=10000000000)(hc1:1<=S.cols)(hc5:S.cols<=512)(a:At)(hid:p=true->∀q∈S.L,1<=q.1/\q.1<S.nx) :
  Calls prog 76 #[.pointer (some ⟨x,0,none⟩),.agg #[.int .i64 f,.int .i64 k],.agg #[.int .i64 i,.int .i64 m],.agg #[.int .u32 a.f,.int .u32 a.b,.int .u16 a.g],.func (.func fn0) #[.pointer (some ⟨x,0,none⟩)] #[]] w (Did B w x s (chg S f k i m a p)):=by
 obtain⟨sv,lv,L,R,h1,h2,h3⟩:=h
 have hl:L.length=S.L.length:=by rw[<- h2,Ahv]
 refine(Bwh hor h1 f k i m (by omega) (by omega) (by omega) hnx hc1 hc5 a (fun hp e he=>hid hp (e.id,e.l) (by rw[<- h2];exact List.mem_map.2 ⟨e,he,rfl⟩))).mono ?_
 rintro e w' ⟨hv,sv',lv',L',R',m1,m2,m3,m4⟩
 exact⟨hv,⟨sv',lv',L',R',m1,by rw[m2,h2];rfl,by rw[m3,h3,h2];rfl⟩,m4⟩
theorem Blo(h:SC B w x s S)(n:Int)(frm:Nat)(hf:frm<=S.bot)(hb:S.bot<=512):Calls prog 271 #[.pointer (some ⟨x,0,none⟩),.int .i64 n,.int .i64 frm] w fun e w'=>e=.returned (.int .i64 (A9 n (S.bot+1-frm)))/\w=w':=by
  obtain⟨_,_,_,_,_,c5⟩:=h.cells
  generalize S.bot=b at c5 hf hb |-
  have hw1:IntKind.i64.wrap ((b:Int)+1)=(b:Int)+1:=IntWalk.i64_in _ (by omega)
  have hw2:IntKind.i64.wrap ((b:Int)+1-(frm:Int))=(b:Int)+1-(frm:Int):=IntWalk.i64_in _ (by omega)
  obtain⟨k,hk⟩:∃k,k=A9 n (b+1-frm):=⟨_,rfl⟩
  rw[<- hk]
  unfold A9 at hk
  replace hk:=J0 hk
  clear h
  by_cases h0:n<0
  · have hmn:Hid (min n ((b:Int)+1-(frm:Int))=n):=J0 (by omega)
    have hmx:Hid (max 0 n=0):=J0 (by omega)
    go_enter func271,ntmps271
    go_wp2
    go_ret
    exact⟨G6 (by have:=hk.out;first|omega|(split<;>omega)|(repeat' split)<;>omega),rfl⟩
  · by_cases h1:n<=(b:Int)+1-(frm:Int)
    · go_enter func271,ntmps271
      go_wp2
      all_goals
       go_ret
       exact⟨G6 (by have:=hk.out;first|omega|(split<;>omega)|(repeat' split)<;>omega),rfl⟩
    · go_enter func271,ntmps271
      go_wp2
      go_ret
      exact⟨G6 (by have:=hk.out;first|omega|(split<;>omega)|(repeat' split)<;>omega),rfl⟩
theorem Bdl{p:Bool}{fn0:Nat}(hor:(p=false/\fn0=77)\/(p=true/\fn0=283))(h:SC B w x s S)(hF:Fit S)(frm:Nat)(hfr:frm<=S.bot)(n:Int)(hnx:S.nx+512<=10000000000)(a:At) :
  Calls prog 265 #[.pointer (some ⟨x,0,none⟩),.int .i64 frm,.int .i64 n,.agg #[.int .u32 a.f,.int .u32 a.b,.int .u16 a.g],.func (.func fn0) #[.pointer (some ⟨x,0,none⟩)] #[]] w (Did B w x s (upS S frm n a p)):=by
 have hbl:=hF.bot
 have hl5:=hF.G8
 have hkl:=Aje n (S.bot+1-frm)
 have hu:upS S frm n a p=chg S frm (A9 n (S.bot+1-frm)) (S.bot+1-A9 n (S.bot+1-frm)) (A9 n (S.bot+1-frm)) a p:=rfl
 rw[hu]
 have hb1:=A3 w (.cells #[.int .u32 a.f,.int .u32 a.b,.int .u16 a.g] 51)
 have hhe:=Blo (h.below hb1) n frm hfr (by omega)
 generalize A9 n (S.bot+1-frm)=k at hkl hhe |-
 obtain⟨j,hj⟩:∃j,j=S.bot+1-k:=⟨_,rfl⟩
 rw[<- hj]
 have hbx:=Block.made w 51 #[.int .u32 a.f,.int .u32 a.b,.int .u16 a.g]
 have hw1:IntKind.i64.wrap ((S.bot:Int)+1)=(S.bot:Int)+1:=IntWalk.i64_in _ (by omega)
 have hw2:IntKind.i64.wrap ((S.bot:Int)+1-(k:Int))=(j:Int):=by
  rw[show(S.bot:Int)+1-(k:Int)=(j:Int)by omega]
  exact IntWalk.i64_in _ (by omega)
 obtain⟨af,ab,ag⟩:=a
 simp only at hb1 hbx hhe |-
 obtain⟨bx,D2⟩:∃bx,bx=w.heap.size:=⟨_,rfl⟩
 have h1:=h.below hb1
 replace hhe:=J0 hhe
 clear h hu
 go_enter func265,ntmps265
 go_wp2_with((go_at_call 271;(with_reducible refine(hhe.out).mono ?_);rintro e w' ⟨rfl,rfl⟩))
 generalize w.alloc (.cells #[.int .u32 af,.int .u32 ab,.int .u16 ag] 51)=w0 at hbx hb1 h1 |-
 rw[<- D2]at hbx |-
 replace D2:=J0 D2
 have hd0:Below w0.heap.size w0 w0.drew:=C7 (Below.refl _ _) 1
 have hS:∀w' S',SC B w' x s S'->S'.bot=S.bot->Fr B PT w0 w'->w'.cell? ⟨x,5,none⟩=some (.int .i64 S.bot)/\w'.cell? ⟨bx,0,none⟩=some (.int .u32 af)/\w'.cell? ⟨bx,1,none⟩=some (.int .u32 ab)/\w'.cell? ⟨bx,2,none⟩=some (.int .u16 ag):=fun w' S' hs hb hf=>by
  have hbx':=Block.fr hbx hf (.inl (by decide))
  have:=hs.cells.2.2.2.2.2
  rw[hb]at this
  exact⟨this,hbx'.cell 0 rfl,hbx'.cell 1 rfl,hbx'.cell 2 rfl⟩
 obtain⟨a0,a1,a2,a3⟩:=hS _ _ h1 rfl (Fr.refl _ _ _)
 have c1:=hS _ _ (h1.below hd0) rfl (Fr.A1 hd0)
 have hch:=Bcf hor (h1.below hd0) frm k j k (by omega) (by omega) (by omega) (by omega) hF.c1 hF.c5 ⟨af,ab,ag⟩ (fun _=>hF.ids)
 have hpt:=J0 (fun w' hs=>hS w' (chg S frm k j k ⟨af,ab,ag⟩ p) hs rfl)
 have V2:Fr B PT w w0.drew:=(Fr.A1 hb1).trans (Fr.A1 hd0)
 have W1:Fr B PT w0 w0.drew:=Fr.A1 hd0
 generalize chg S frm k j k ⟨af,ab,ag⟩ p=S' at hch hpt |-
 simp only at hch
 generalize S.bot=bo at hw1 hw2 a0 c1 hpt
 replace hch:=J0 hch
 replace V2:=J0 V2
 replace W1:=J0 W1
 clear hS hbx h1 hb1 hd0 hj hF hfr hnx hl5 hbl hkl
 go_region_held3 (fun w'=>w'.cell? ⟨x,5,none⟩=some (.int .i64 bo)/\w'.cell? ⟨bx,0,none⟩=some (.int .u32 af)/\w'.cell? ⟨bx,1,none⟩=some (.int .u32 ab)/\w'.cell? ⟨bx,2,none⟩=some (.int .u16 ag))
  (first|exact⟨a0,a1,a2,a3⟩|exact c1|exact hz)
  (first
   |(go_at_call 76;(with_reducible refine hch.out.mono ?_);rintro r w2 ⟨⟨v2,rfl⟩,hs2,hf2⟩;have hz:=hpt.out _ hs2 (W1.out.trans hf2)))
 have A4:=J0 (And.intro hs2 (V2.out.trans hf2))
 go_end0
 exact⟨⟨_,rfl⟩,A4.out⟩
theorem Blg(h:SC B w x s S)(hF:Fit S)(tq:Nat)(hfr:tq<=S.bot)(n:Int)(hnx:S.nx+512<=10000000000)(a:At) :
  Calls prog 235 #[.pointer (some ⟨x,0,none⟩),.int .i64 tq,.int .i64 n,.agg #[.int .u32 a.f,.int .u32 a.b,.int .u16 a.g]] w (Did B w x s (L3 S tq n a)):=by
 have hbl:=hF.bot
 have hl5:=hF.G8
 have hkl:=Aje n (S.bot+1-tq)
 have hu:L3 S tq n a=chg S (S.bot+1-A9 n (S.bot+1-tq)) (A9 n (S.bot+1-tq)) tq (A9 n (S.bot+1-tq)) a false:=rfl
 rw[hu]
 have hb1:=A3 w (.cells #[.int .u32 a.f,.int .u32 a.b,.int .u16 a.g] 51)
 have hhe:=Blo (h.below hb1) n tq hfr (by omega)
 generalize A9 n (S.bot+1-tq)=k at hkl hhe |-
 obtain⟨j,hj⟩:∃j,j=S.bot+1-k:=⟨_,rfl⟩
 rw[<- hj]
 have hbx:=Block.made w 51 #[.int .u32 a.f,.int .u32 a.b,.int .u16 a.g]
 have hw1:IntKind.i64.wrap ((S.bot:Int)+1)=(S.bot:Int)+1:=IntWalk.i64_in _ (by omega)
 have hw2:IntKind.i64.wrap ((S.bot:Int)+1-(k:Int))=(j:Int):=by
  rw[show(S.bot:Int)+1-(k:Int)=(j:Int)by omega]
  exact IntWalk.i64_in _ (by omega)
 obtain⟨af,ab,ag⟩:=a
 simp only at hb1 hbx hhe |-
 obtain⟨bx,D2⟩:∃bx,bx=w.heap.size:=⟨_,rfl⟩
 have h1:=h.below hb1
 have hmf:=mkf
 replace hhe:=J0 hhe
 clear h hu
 go_enter func235,ntmps235
 go_wp2_with((go_at_call 271;(with_reducible refine(hhe.out).mono ?_);rintro e w' ⟨rfl,rfl⟩))
 generalize w.alloc (.cells #[.int .u32 af,.int .u32 ab,.int .u16 ag] 51)=w0 at hbx hb1 h1 |-
 rw[<- D2]at hbx |-
 replace D2:=J0 D2
 have hd0:Below w0.heap.size w0 w0.drew:=C7 (Below.refl _ _) 1
 have hS:∀w' S',SC B w' x s S'->S'.bot=S.bot->Fr B PT w0 w'->w'.cell? ⟨x,5,none⟩=some (.int .i64 S.bot)/\w'.cell? ⟨bx,0,none⟩=some (.int .u32 af)/\w'.cell? ⟨bx,1,none⟩=some (.int .u32 ab)/\w'.cell? ⟨bx,2,none⟩=some (.int .u16 ag):=fun w' S' hs hb hf=>by
  have hbx':=Block.fr hbx hf (.inl (by decide))
  have:=hs.cells.2.2.2.2.2
  rw[hb]at this
  exact⟨this,hbx'.cell 0 rfl,hbx'.cell 1 rfl,hbx'.cell 2 rfl⟩
 obtain⟨a0,a1,a2,a3⟩:=hS _ _ h1 rfl (Fr.refl _ _ _)
 have c1:=hS _ _ (h1.below hd0) rfl (Fr.A1 hd0)
 have hch:=Bcf (.inl ⟨rfl,rfl⟩) (h1.below hd0) j k tq k (by omega) (by omega) (by omega) (by omega) hF.c1 hF.c5 ⟨af,ab,ag⟩ (fun e=>nomatch e)
 have hpt:=J0 (fun w' hs=>hS w' (chg S j k tq k ⟨af,ab,ag⟩ false) hs rfl)
 have V2:Fr B PT w w0.drew:=(Fr.A1 hb1).trans (Fr.A1 hd0)
 have W1:Fr B PT w0 w0.drew:=Fr.A1 hd0
 generalize chg S j k tq k ⟨af,ab,ag⟩ false=S' at hch hpt |-
 simp only at hch
 generalize S.bot=bo at hw1 hw2 a0 c1 hpt
 replace hch:=J0 hch
 replace V2:=J0 V2
 replace W1:=J0 W1
 clear hS hbx h1 hb1 hd0 hj hF hfr hnx hl5 hbl hkl
 go_region_held3 (fun w'=>w'.cell? ⟨x,5,none⟩=some (.int .i64 bo)/\w'.cell? ⟨bx,0,none⟩=some (.int .u32 af)/\w'.cell? ⟨bx,1,none⟩=some (.int .u32 ab)/\w'.cell? ⟨bx,2,none⟩=some (.int .u16 ag))
  (first|exact⟨a0,a1,a2,a3⟩|exact c1|exact hz)
  (first
   |(go_at_call 76;(with_reducible refine hch.out.mono ?_);rintro r w2 ⟨⟨v2,rfl⟩,hs2,hf2⟩;have hz:=hpt.out _ hs2 (W1.out.trans hf2)))
 have A4:=J0 (And.intro hs2 (V2.out.trans hf2))
 go_end0
 exact⟨⟨_,rfl⟩,A4.out⟩
end
