/- Part 10 of the proof that the card of HostNone holds. -/
import Derived.Test.YtbafmljidapmgaaGreatDoorN09
set_option maxHeartbeats 16000000
set_option maxRecDepth 100000
namespace Go.Proofs.YtbafmljidapmgaaGreatDoor.Scn
open Go RowKit Com Rw Lns
theorem Cf1 (L:List En) {f k:Nat} (h:f+k<=L.length):outA (fl Ab9 L) (f*2) (k*2)=fl Ab9 (outA L f k):=by
 unfold outA
 rw [Bl3 Ab8 _ _ (by omega),<- Nat.add_mul,Bl2 Ab8 _ _ h,fl_app]
theorem Cf0 (L:List En) {i:Nat} (h:i<=L.length) (J:List Value):insA (fl Ab9 L) (i*2) J=fl Ab9 (L.take i)++(J++fl Ab9 (L.drop i)):=by
 unfold insA
 rw [Bl3 Ab8 _ _ h,Bl2 Ab8 _ _ h]
theorem Cl8 (L:List En):OneL (fl Ab9 L):=Bd8 Bq5 L
def Cd0 (B:Zn) (w:World) (x s nx most:Nat) (kp:Bool) (cols top bot:Nat) (vL vR:List Ln) (f k i m:Nat) (a:At) (push:Bool) (e:Ending) (w':World):Prop :=
 (∃ v,e=.returned v)/\∃ sv' lv' L' R',MidX B w' x s (nx+m) most kp cols sv' lv' top bot L'.length (fl Ab9 L') L' R'/\vw L'=insA (outA vL f k) i (Ad4 nx cols m a)/\vw R'=(if push then As6 most vR ((vL.drop f).take k) else vR)/\Fr B PT w w'
section
variable {B:Zn} {w w':World} {x s nx most cols top bot n:Nat} {kp:Bool} {sv lv:Value} {L R:List En}
theorem MidX.elem (h:MidX B w x s nx most kp cols sv lv top bot n (fl Ab9 L) L R) {i:Nat} (hn:n=L.length) (hi:i<L.length):∃ g c,lv=.slice (some ⟨g,0,none⟩) n c/\w.cell? ⟨g,i*2,none⟩=some (.int .i64 L[i].id)/\w.cell? ⟨g,i*2+1,none⟩=some (.pointer (some ⟨L[i].d,0,none⟩))/\RowG 0 w L[i]:=by
 obtain ⟨g,cap,tail,rfl,hg,hb,hc,hm⟩:=Ai1 h.ln.own (by omega)
 have e0:=Bt7 Ab8 hi (show 0<2 by decide)
 have e1:=Bt7 Ab8 hi (show 1<2 by decide)
 have hl:i*2+1<(fl Ab9 L).length:=by rw [Ab5 Ab8];omega
 refine ⟨g,cap,rfl,hb.cell _ ?_,hb.cell _ ?_,h.rows _ (List.getElem_mem hi)⟩
 ·rw [List.getElem?_toArray,List.getElem?_append_left (by omega)];exact e0
 ·rw [List.getElem?_toArray,List.getElem?_append_left hl];exact e1
theorem change_forget (h:MidX B w x s nx most kp cols sv lv top bot L.length (fl Ab9 L) L R) (f k i m:Nat) (hf:f+k<=L.length) (hi:i<=L.length - k) (hm:L.length - k+m<=1000) (hnx:nx+m<=10000000000) (hc1:1<=cols) (hc5:cols<=512) (a:At) :
  Calls Tryz.prog 187 #[.pointer (some ⟨x,0,none⟩),.agg #[.int .i64 f,.int .i64 k],.agg #[.int .i64 i,.int .i64 m],.agg #[.int .u32 a.f,.int .u32 a.b,.int .u16 a.g],.func (.func 188) #[.pointer (some ⟨x,0,none⟩)] #[]] w (Cd0 B w x s nx most kp cols top bot (vw L) (vw R) f k i m a false):=by
 have hLl:=h.ln.own.1
 obtain ⟨fa,hfa⟩:∃ fa,fa=Ad4 nx cols:=⟨_,rfl⟩
 obtain ⟨af,ab,ag⟩:=a
 simp only
 have hfl:∀ j,Ad4 nx cols (j+1) ⟨af,ab,ag⟩=_:=fun j=>Be0 nx cols j ⟨af,ab,ag⟩
 obtain ⟨e,he⟩:∃ e,e=f+k:=⟨_,rfl⟩
 have hend:=fun w=>As7 f k e he (by have:=h.ln.small;omega) w
 have hb1:=Aa1 w (.cells #[.int .i64 f,.int .i64 k] 262)
 have hb2:=Aa0 hb1 (Aa1 (w.alloc (.cells #[.int .i64 f,.int .i64 k] 262)) (.cells #[.int .i64 i,.int .i64 m] 262))
 have hb3:=Aa0 hb2 (Aa1 ((w.alloc (.cells #[.int .i64 f,.int .i64 k] 262)).alloc (.cells #[.int .i64 i,.int .i64 m] 262)) (.cells #[.int .u32 af,.int .u32 ab,.int .u16 ag] 56))
 have k6:=((Block.made w 262 #[.int .i64 f,.int .i64 k]).alloc (.cells #[.int .i64 i,.int .i64 m] 262)).alloc (.cells #[.int .u32 af,.int .u32 ab,.int .u16 ag] 56)
 have k7:=(Block.made (w.alloc (.cells #[.int .i64 f,.int .i64 k] 262)) 262 #[.int .i64 i,.int .i64 m]).alloc (.cells #[.int .u32 af,.int .u32 ab,.int .u16 ag] 56)
 have k8:=Block.made ((w.alloc (.cells #[.int .i64 f,.int .i64 k] 262)).alloc (.cells #[.int .i64 i,.int .i64 m] 262)) 56 #[.int .u32 af,.int .u32 ab,.int .u16 ag]
 simp only [World.size_alloc] at k7 k8
 have hM:=h.below hb3
 have hLs:=h.ln.small
 obtain ⟨ao,c,hlv,hnc,hcm⟩:=h.ln.shape
 have hxlt:=h.ln.blk.lt
 obtain ⟨b6,hb6⟩:∃ b6,b6=w.heap.size:=⟨_,rfl⟩
 obtain ⟨b7,hb7⟩:∃ b7,b7=w.heap.size+1:=⟨_,rfl⟩
 obtain ⟨b8,hb8⟩:∃ b8,b8=w.heap.size+1+1:=⟨_,rfl⟩
 obtain ⟨n,hn⟩:∃ n,n=L.length:=⟨_,rfl⟩
 rw [<- hn] at hM hf hi hm hLl hLs hlv hnc
 rw [<- hb6] at k6
 rw [<- hb7] at k7
 rw [<- hb8] at k8
 replace hn:=J0 hn
 replace he:=J0 he
 replace hend:=J0 hend
 replace hfl:=J0 hfl
 replace hLl:=J0 hLl
 replace hfa:=J0 hfa
 clear h hb1 hb2
 go_enter Tryz.func187,Tryz.ntmps187
 go_wp2
 generalize ((w.alloc (.cells #[.int .i64 f,.int .i64 k] 262)).alloc (.cells #[.int .i64 i,.int .i64 m] 262)).alloc (.cells #[.int .u32 af,.int .u32 ab,.int .u16 ag] 56)=w0 at k6 k7 k8 hb3 hM |-
 rw [<- hb8,<- hb7,<- hb6]
 replace hb6:=J0 hb6
 replace hb7:=J0 hb7
 replace hb8:=J0 hb8
 have hbox:∀ w',Fr B PT w0 w'->Block w' b6 262 #[.int .i64 f,.int .i64 k]/\Block w' b7 262 #[.int .i64 i,.int .i64 m]/\Block w' b8 56 #[.int .u32 af,.int .u32 ab,.int .u16 ag]  :=fun _ hf=>⟨Block.fr k6 hf (.inl (by decide)),Block.fr k7 hf (.inl (by decide)),Block.fr k8 hf (.inl (by decide))⟩
 have hd0:Below w0.heap.size w0 w0.drew:=Aa5 (Below.refl _ _) 1
 have hS:=fun w' (hb:Below w0.heap.size w0 w')=>And.intro (hM.below hb).ln.cells.2.2.2.1 (And.intro ((hbox _ (Fr.of_below hb)).1.cell 0 rfl) ((hbox _ (Fr.of_below hb)).1.cell 1 rfl))
 have c0:=hS w0 (Below.refl _ _)
 have c1:=hS _ hd0
 rw [hlv] at c0 c1 hS
 obtain ⟨a0,a1,a2⟩:=c0
 have heo:=he.out
 have hfe:f<=e:=by omega
 have hen:e<=n:=by omega
 have hec:e<=c:=by omega
 have hfI:(f:Int)<=(e:Int):=by omega
 have heI:(e:Int)<=(c:Int):=by omega
 have hek:e - f=k:=by omega
 obtain ⟨ad,had⟩:∃ ad,(if c=f then ao else Option.map (fun x=>x.add (f*2)) ao)=ad:=⟨_,rfl⟩
 have hd1:Hid (∀ g,ao=some ⟨g,0,none⟩->0<k->ad=some ⟨g,f*2,none⟩):=J0 fun g hg h0=>by
  rw [<- had,if_neg (by omega),hg]
  simp [Addr.add_lit]
 replace hbox:=J0 hbox
 replace hS:=J0 hS
 replace hM:=J0 hM
 replace hlv:=J0 hlv
 clear k6 k7 k8 heo
 go_region_held3 (fun w'=>w'.cell? ⟨x,3,none⟩=some (.slice ao n c)/\w'.cell? ⟨b6,0,none⟩=some (.int .i64 f)/\w'.cell? ⟨b6,1,none⟩=some (.int .i64 k))
  (first|exact ⟨a0,a1,a2⟩|exact c1|exact hS.out _ hb2.out)
  (first
   |(go_at_call 246;(with_reducible refine (hend.out _).mono ?_);rintro r w2 ⟨rfl,hb2'⟩;have hb2:=J0 (Aa0 hd0 hb2')))
 have hM2:=hM.out.below hb2.out
 have hf2:Fr B PT w0 w2:=Fr.of_below hb2.out
 replace hM2:=J0 hM2
 replace hf2:=J0 hf2
 clear c1 a0 a1 a2 hS hend hfI heI hd0 had hec
 go_wp2
 go_loopw [23] (fun iv wr=>∃ j:Nat,j<=k/\iv=.int .i64 j/\Hid (∃ sv' R',MidX B wr x s nx most kp cols sv' lv top bot n (fl Ab9 L) L R'/\vw R'=vw R/\Fr B PT w0 wr)) (fun iv _=>k - (intOf iv).toNat)
 case atStart=>exact ⟨0,Nat.zero_le _,rfl,J0 ⟨sv,R,hM2.out,rfl,hf2.out⟩⟩
 case round =>
  obtain ⟨j,hj,rfl,hR⟩:=hrel
  obtain ⟨sv',R',hMr,hvR,hfr⟩:=hR.out
  by_cases hlt:j<k
  ·have hjI:(j:Int)<(k:Int):=by omega
   have hfj:f+j<L.length:=by have:=hn.out;omega
   obtain ⟨g,c',e1,q0,q1,hrow⟩:=hMr.elem hn.out hfj
   rw [hlv.out] at e1
   simp only [Value.slice.injEq] at e1
   obtain ⟨rfl,_,rfl⟩:=e1
   obtain rfl:=hd1.out g rfl (by omega)
   rw [Nat.add_mul] at q0 q1
   have hstep:((vw L).drop f).take (j+1)=((vw L).drop f).take j++[((L[f+j]).id,(L[f+j]).l)]:=by
    rw [List.take_add_one,List.getElem?_drop]
    congr 1
    simp [vw,hfj]
   generalize L[f+j]=e0 at q0 q1 hrow hstep
   have hbw:Below wr.heap.size wr (wr.alloc (.cells #[.int .i64 e0.id,.pointer (some ⟨e0.d,0,none⟩)] 298)):=Aa1 wr _
   have hfo:=J0 (forget_any (.pointer (some ⟨x,0,none⟩)) e0.id e0.d (wr.alloc (.cells #[.int .i64 e0.id,.pointer (some ⟨e0.d,0,none⟩)] 298)))
   have hnx2:=J0 (fun w' (hb:Below wr.heap.size wr w')=>(⟨sv',R',hMr.below hb,hvR,hfr.trans (Fr.of_below hb)⟩:∃ sv' R',MidX B w' x s nx most kp cols sv' lv top bot n (fl Ab9 L) L R'/\vw R'=vw R/\Fr B PT w0 w'))
   replace hstep:=J0 hstep
   replace hbw:=J0 hbw
   clear hMr hfr hrow hR
   go_wp2_with (first
    |(go_at_call 188;(with_reducible refine hfo.out.mono ?_);rintro r w3 ⟨⟨v3,rfl⟩,hb3⟩))
   have hres:=J0 (hnx2.out _ (Aa0 hbw.out hb3))
   clear hb3
   go_roundw
   case rel=>exact ⟨j+1,by omega,by go_num,hres⟩
   case measure=>simp [intOf];omega
  ·obtain rfl:j=k:=by omega
   obtain ⟨q6,q7,q8⟩:=hbox.out _ hfr
   have s0:=q6.cell 0 rfl
   have s1:=q6.cell 1 rfl
   have hcu:=Bd3 hMr.ln (Cl8 L) f j (by omega)
   have hx0:=Cf1 L (f:=f) (k:=j) (by have:=hn.out;omega)
   rw [hx0] at hcu
   have hAl:(outA L f j).length=n - j:=by rw [Bb9 _ (by have:=hn.out;omega),hn.out]
   have hMs:=hMr.sub (Ca0 L f j)
   have hvA:vw (outA L f j)=outA (vw L) f j:=Bz8 _ _ _ _
   generalize outA L f j=A at hcu hAl hMs hvA
   obtain ⟨n1,hn1⟩:∃ n1,n1=n - j:=⟨_,rfl⟩
   rw [<- hn1] at hcu hAl hm hi
   replace hcu:=J0 hcu
   replace hMs:=J0 hMs
   replace hfr:=J0 hfr
   replace hn1:=J0 hn1
   clear hMr hR q6 q7 q8 hM2 hf2
   go_wp2_with (first
    |(go_at_call 247;(with_reducible refine hcu.out.mono ?_);rintro r w4 ⟨⟨v4,rfl⟩,lv4,xs4,hL4,rfl,hO4⟩;have hM4:=hMs.out.ln' hL4 hO4;have hf4:=hfr.out.trans (hMs.out.ln.frame hO4);have t0:=(hbox.out _ hf4).2.1.cell 0 rfl;have t1:=(hbox.out _ hf4).2.1.cell 1 rfl;have hmr:=Ba6 hL4 (Cl8 A) i m hi hm)
    |(go_at_call 248;(with_reducible refine hmr.mono ?_);rintro r w5 ⟨⟨v5,rfl⟩,lv5,xs5,hL5,hx5,hO5⟩;have hM5:=hM4.ln' hL5 hO5;have hf5:=hf4.trans (hM4.ln.frame hO5);have u1:=(hbox.out _ hf5).2.1.cell 1 rfl))
   obtain ⟨J,hJl,hJ1,rfl⟩:=hx5
   rw [Cf0 A (by omega)] at hM5
   obtain ⟨N,hN⟩:∃ N,N=n1+m:=⟨_,rfl⟩
   rw [<- hN] at hM5
   obtain ⟨ao5,c5,hlv5,hnc5,_⟩:=hM5.ln.shape
   have hAp:List.Perm A (A.take i++A.drop i):=by rw [List.take_append_drop]
   have hTl:(A.take i).length=i:=by rw [List.length_take];omega
   replace hM5:=J0 (hM5.sub (L':=A.take i++A.drop i) (by rw [List.take_append_drop];exact List.Sublist.refl _))
   replace hf5:=J0 hf5
   replace hlv5:=J0 hlv5
   replace hAl:=J0 hAl
   replace hTl:=J0 hTl
   have hNx:=J0 hN
   clear hN
   clear hL4 hO4 hM4 hf4 t0 t1 hmr hL5 hO5 hcu hMs s0 s1 u1 hAp hlt
   have u1:=(hbox.out _ hf5.out).2.1.cell 1 rfl
   go_loopw [39] (fun iv wr=>∃ jj:Nat,jj<=m/\iv=.int .i64 jj/\Hid (∃ F J',F.length=jj/\J'.length=(m - jj)*2/\MidX B wr x s (nx+jj) most kp cols sv' lv5 top bot N (fl Ab9 (A.take i++F)++(J'++fl Ab9 (A.drop i))) (A.take i++(F++A.drop i)) R'/\vw F=Ad4 nx cols jj ⟨af,ab,ag⟩/\Fr B PT w0 wr)) (fun iv _=>m - (intOf iv).toNat)
   case atStart=>exact ⟨0,Nat.zero_le _,rfl,J0 ⟨[],J,rfl,hJl,by simpa using hM5.out,rfl,hf5.out⟩⟩
   case round =>
    obtain ⟨jj,hjj,rfl,hR2⟩:=hrel
    obtain ⟨F,J',hFl,hJ',hMr,hvF,hfr2⟩:=hR2.out
    by_cases hlt:jj<m
    ·have hjI:(jj:Int)<(m:Int):=by omega
     have hNo:=hNx.out
     obtain ⟨q6,q7,q8⟩:=hbox.out _ hfr2
     obtain ⟨g,c',tail,e1,hgB,hbg,_,_⟩:=Ai1 hMr.ln.own (by omega)
     rw [hlv5.out] at e1
     simp only [Value.slice.injEq] at e1
     obtain ⟨rfl,_,rfl⟩:=e1
     obtain ⟨u,v,J2,rfl⟩:∃ u v J2,J'=u::v::J2:=by
      match J',hJ' with
      |[],hJ'=>simp at hJ';omega
      |[_],hJ'=>simp at hJ';omega
      |u::v::J2,_=>exact ⟨u,v,J2,rfl⟩
     have hJ2:J2.length=(m - (jj+1))*2:=by simp at hJ';omega
     have hAF:(A.take i++F).length=i+jj:=by rw [List.length_append,hTl.out,hFl]
     have hdr:Below wr.heap.size wr wr.drew:=Aa5 (Below.refl _ _) 1
     have hMd:=hMr.below hdr
     obtain ⟨y,hy⟩:∃ y,y=nx+jj:=⟨_,rfl⟩
     rw [<- hy] at hMd
     have hfrs1:=Bp5 hMd.ln.st (by omega) cols hc1 hc5 ⟨af,ab,ag⟩
     simp only at hfrs1
     have hwr1:IntKind.i64.wrap ((i:Int)+(jj:Int))=(i:Int)+(jj:Int):=IntWalk.i64_in _ (by omega)
     have hw0:(0:Int)<=(i:Int)+(jj:Int):=by omega
     have hw1:(i:Int)+(jj:Int)<(N:Int):=by omega
     have hw2:((i:Int)+(jj:Int)).toNat=i+jj:=by omega
     have hNI:i+jj<N:=by omega
     have hS2:∀ w' nx' sv'' xs'' R'',LnX B w' x s nx' most kp cols sv'' (.slice (some ⟨g,0,none⟩) N c5) top bot N xs'' R''->Fr B PT w0 w'->w'.cell? ⟨x,0,none⟩=some (.pointer (some ⟨s,0,none⟩))/\w'.cell? ⟨x,2,none⟩=some (.int .i64 cols)/\w'.cell? ⟨x,3,none⟩=some (.slice (some ⟨g,0,none⟩) N c5)/\w'.cell? ⟨b7,0,none⟩=some (.int .i64 i)/\w'.cell? ⟨b8,0,none⟩=some (.int .u32 af)/\w'.cell? ⟨b8,1,none⟩=some (.int .u32 ab)/\w'.cell? ⟨b8,2,none⟩=some (.int .u16 ag) :=
      fun w' nx' sv'' xs'' R'' hm' hf'=>⟨hm'.cells.1,hm'.cells.2.2.1,hm'.cells.2.2.2.1,(hbox.out _ hf').2.1.cell 0 rfl,(hbox.out _ hf').2.2.cell 0 rfl,(hbox.out _ hf').2.2.cell 1 rfl,(hbox.out _ hf').2.2.cell 2 rfl⟩
     rw [hlv5.out] at hMr hMd
     obtain ⟨a0,a1,a2,a3,a4,a5,a6⟩:=hS2 _ _ _ _ _ hMr.ln hfr2
     have c1:=hS2 _ _ _ _ _ hMd.ln (hfr2.trans (Fr.of_below hdr))
     have hafter:=fun w6 d g6 (h1:SX 0 w6 s (y+1) most sv' R') (hrow6:RowG wr.drew.heap.size w6 (En.mk y d g6 0 (Af5 cols ⟨af,ab,ag⟩))) (ho6:Only [s] wr.drew w6)=>(by
      have hpm:List.Perm (A.take i++((F++[En.mk y d g6 0 (Af5 cols ⟨af,ab,ag⟩)])++A.drop i)) (En.mk y d g6 0 (Af5 cols ⟨af,ab,ag⟩)::(A.take i++(F++A.drop i))):=by
       rw [List.append_assoc F,List.singleton_append,<- List.append_assoc (A.take i),<- List.append_assoc (A.take i)]
       exact List.perm_middle
      obtain ⟨hM6,hf6⟩:=hMd.fresh h1 hrow6 ho6 hpm
      obtain ⟨hM7,hO7⟩:=hM6.place hAF (En.mk y d g6 0 (Af5 cols ⟨af,ab,ag⟩))
      have hfa:=(hfr2.trans (Fr.of_below hdr)).trans hf6
      have hf7:=hfa.trans (hM6.ln.frame (hO7.mono (by simp [Value.ownBlock])))
      obtain ⟨g',cap',tail',e1',_,hbg',_,_⟩:=Ai1 hM6.ln.own (by omega)
      simp only [Value.slice.injEq,Option.some.injEq,Addr.mk.injEq] at e1'
      obtain ⟨⟨rfl,_⟩,_⟩:=e1'
      have hfl0:(fl Ab9 (A.take i++F)).length=(i+jj)*2:=by rw [Ab5 Ab8,hAF]
      refine ⟨hS2 _ _ _ _ _ hM6.ln hfa,⟨hbg'.cell _ ?_,hbg'.cell _ ?_,World.ownsRow.frozenAt hM6.ln.own _,World.ownsRow.frozenAt hM6.ln.own _⟩,hS2 _ _ _ _ _ hM7.ln hf7,J0 ⟨F++[En.mk y d g6 0 (Af5 cols ⟨af,ab,ag⟩)],J2,by simp [hFl],hJ2,?_,?_,hf7⟩⟩
      ·rw [List.getElem?_toArray,List.append_assoc,List.getElem?_append_right (by omega),hfl0,Nat.sub_self];rfl
      ·rw [List.getElem?_toArray,List.append_assoc,List.getElem?_append_right (by omega),hfl0,show (i+jj)*2+1 - (i+jj)*2=1 by omega];rfl
      ·rw [show nx+(jj+1)=y+1 by omega]
       rw [List.append_assoc (A.take i) F] at hM7
       exact hM7
      ·rw [show vw (F++[En.mk y d g6 0 (Af5 cols ⟨af,ab,ag⟩)])=vw F++[((y:Int),Af5 cols ⟨af,ab,ag⟩)] by simp [vw],hvF,hfl.out,hy,Int.natCast_add] :
      (w6.cell? ⟨x,0,none⟩=some (.pointer (some ⟨s,0,none⟩))/\w6.cell? ⟨x,2,none⟩=some (.int .i64 cols)/\w6.cell? ⟨x,3,none⟩=some (.slice (some ⟨g,0,none⟩) N c5)/\w6.cell? ⟨b7,0,none⟩=some (.int .i64 i)/\w6.cell? ⟨b8,0,none⟩=some (.int .u32 af)/\w6.cell? ⟨b8,1,none⟩=some (.int .u32 ab)/\w6.cell? ⟨b8,2,none⟩=some (.int .u16 ag)) /\
      (w6.cell? ⟨g,(i+jj)*2,none⟩=some u/\w6.cell? ⟨g,(i+jj)*2+1,none⟩=some v/\w6.frozen? ⟨g,(i+jj)*2,none⟩=false/\w6.frozen? ⟨g,(i+jj)*2+1,none⟩=false) /\
      (((w6.setCell ⟨g,(i+jj)*2,none⟩ (.int .i64 y)).setCell ⟨g,(i+jj)*2+1,none⟩ (.pointer (some ⟨d,0,none⟩))).cell? ⟨x,0,none⟩=some (.pointer (some ⟨s,0,none⟩))/\((w6.setCell ⟨g,(i+jj)*2,none⟩ (.int .i64 y)).setCell ⟨g,(i+jj)*2+1,none⟩ (.pointer (some ⟨d,0,none⟩))).cell? ⟨x,2,none⟩=some (.int .i64 cols)/\((w6.setCell ⟨g,(i+jj)*2,none⟩ (.int .i64 y)).setCell ⟨g,(i+jj)*2+1,none⟩ (.pointer (some ⟨d,0,none⟩))).cell? ⟨x,3,none⟩=some (.slice (some ⟨g,0,none⟩) N c5)/\((w6.setCell ⟨g,(i+jj)*2,none⟩ (.int .i64 y)).setCell ⟨g,(i+jj)*2+1,none⟩ (.pointer (some ⟨d,0,none⟩))).cell? ⟨b7,0,none⟩=some (.int .i64 i)/\((w6.setCell ⟨g,(i+jj)*2,none⟩ (.int .i64 y)).setCell ⟨g,(i+jj)*2+1,none⟩ (.pointer (some ⟨d,0,none⟩))).cell? ⟨b8,0,none⟩=some (.int .u32 af)/\((w6.setCell ⟨g,(i+jj)*2,none⟩ (.int .i64 y)).setCell ⟨g,(i+jj)*2+1,none⟩ (.pointer (some ⟨d,0,none⟩))).cell? ⟨b8,1,none⟩=some (.int .u32 ab)/\((w6.setCell ⟨g,(i+jj)*2,none⟩ (.int .i64 y)).setCell ⟨g,(i+jj)*2+1,none⟩ (.pointer (some ⟨d,0,none⟩))).cell? ⟨b8,2,none⟩=some (.int .u16 ag)) /\
      Hid (∃ F J',F.length=jj+1/\J'.length=(m - (jj+1))*2/\MidX B ((w6.setCell ⟨g,(i+jj)*2,none⟩ (.int .i64 y)).setCell ⟨g,(i+jj)*2+1,none⟩ (.pointer (some ⟨d,0,none⟩))) x s (nx+(jj+1)) most kp cols sv' (.slice (some ⟨g,0,none⟩) N c5) top bot N (fl Ab9 (A.take i++F)++(J'++fl Ab9 (A.drop i))) (A.take i++(F++A.drop i)) R'/\vw F=Ad4 nx cols (jj+1) ⟨af,ab,ag⟩/\Fr B PT w0 ((w6.setCell ⟨g,(i+jj)*2,none⟩ (.int .i64 y)).setCell ⟨g,(i+jj)*2+1,none⟩ (.pointer (some ⟨d,0,none⟩)))))
     have hu1:=(hbox.out _ hfr2).2.1.cell 0 rfl
     replace hafter:=J0 hafter
     replace hfrs1:=J0 hfrs1
     replace hy:=J0 hy
     clear hNo hMr hMd hbg hS2 hR2 hvF hFl hAF hJ2 hJ' hu1 hfr2 u1 hdr
     go_wp2
     go_region_held3 (fun w'=>w'.cell? ⟨x,0,none⟩=some (.pointer (some ⟨s,0,none⟩))/\w'.cell? ⟨x,2,none⟩=some (.int .i64 cols)/\w'.cell? ⟨x,3,none⟩=some (.slice (some ⟨g,0,none⟩) N c5)/\w'.cell? ⟨b7,0,none⟩=some (.int .i64 i)/\w'.cell? ⟨b8,0,none⟩=some (.int .u32 af)/\w'.cell? ⟨b8,1,none⟩=some (.int .u32 ab)/\w'.cell? ⟨b8,2,none⟩=some (.int .u16 ag))
      (first|exact ⟨a0,a1,a2,a3,a4,a5,a6⟩|exact c1|exact hz|exact hzz)
      (first
       |(go_at_call 249;(with_reducible refine hfrs1.out.mono ?_);rintro r w6 ⟨d,g6,rfl,h16,hr6,ho6⟩;obtain ⟨hz,⟨p0,p1,f0,f1⟩,hzz,hres⟩:=hafter.out w6 d g6 h16 hr6 ho6))
     clear h16 hr6 ho6 p0 p1 f0 f1 hz hzz c1 hafter hfrs1 a0 a1 a2 a3 a4 a5 a6 hwr1 hw0 hw1 hw2 hNI
     go_wp2
     go_roundw
     case rel=>exact ⟨jj+1,by omega,by go_num,by rw [hlv5.out];exact hres⟩
     case measure=>simp [intOf];omega
    ·obtain rfl:jj=m:=by omega
     have hNo:=hNx.out
     have hJ0:J'=[]:=List.eq_nil_of_length_eq_zero (by omega)
     subst hJ0
     have hvI:vw (A.take i++(F++A.drop i))=insA (outA (vw L) f j) i (Ad4 nx cols jj ⟨af,ab,ag⟩):=by
      rw [<- hvA,<- hvF]
      simp [vw,insA,List.map_take,List.map_drop]
     have hlen:(A.take i++(F++A.drop i)).length=N:=by
      rw [List.length_append,List.length_append,hTl.out,hFl,List.length_drop,hAl.out];omega
     rw [List.nil_append,<- fl_app,List.append_assoc,<- hlen] at hMr
     have hres:=J0 (⟨sv',lv5,_,R',hMr,hvI,by simpa using hvR,(Fr.of_below hb3).trans hfr2⟩:∃ sv' lv' L' R'',MidX B wr x s (nx+jj) most kp cols sv' lv' top bot L'.length (fl Ab9 L') L' R''/\vw L'=insA (outA (vw L) f j) i (Ad4 nx cols jj ⟨af,ab,ag⟩)/\vw R''=(if false then As6 most (vw R) (((vw L).drop f).take j) else vw R)/\Fr B PT w wr)
     clear hNo hMr hvF hvI hfr2 hR2
     go_wp2
     go_end0
     exact ⟨⟨_,rfl⟩,hres.out⟩
theorem change_keep (h:MidX B w x s nx most kp cols sv lv top bot L.length (fl Ab9 L) L R) (f k i m:Nat) (hf:f+k<=L.length) (hi:i<=L.length - k) (hm:L.length - k+m<=1000) (hnx:nx+m<=10000000000) (hc1:1<=cols) (hc5:cols<=512) (a:At) (hid:∀ e∈L,1<=e.id/\e.id<nx) :
  Calls Tryz.prog 187 #[.pointer (some ⟨x,0,none⟩),.agg #[.int .i64 f,.int .i64 k],.agg #[.int .i64 i,.int .i64 m],.agg #[.int .u32 a.f,.int .u32 a.b,.int .u16 a.g],.func (.func 286) #[.pointer (some ⟨x,0,none⟩)] #[]] w (Cd0 B w x s nx most kp cols top bot (vw L) (vw R) f k i m a true):=by
 have hLl:=h.ln.own.1
 obtain ⟨fa,hfa⟩:∃ fa,fa=Ad4 nx cols:=⟨_,rfl⟩
 obtain ⟨af,ab,ag⟩:=a
 simp only
 have hfl:∀ j,Ad4 nx cols (j+1) ⟨af,ab,ag⟩=_:=fun j=>Be0 nx cols j ⟨af,ab,ag⟩
 obtain ⟨e,he⟩:∃ e,e=f+k:=⟨_,rfl⟩
 have hend:=fun w=>As7 f k e he (by have:=h.ln.small;omega) w
 have hb1:=Aa1 w (.cells #[.int .i64 f,.int .i64 k] 262)
 have hb2:=Aa0 hb1 (Aa1 (w.alloc (.cells #[.int .i64 f,.int .i64 k] 262)) (.cells #[.int .i64 i,.int .i64 m] 262))
 have hb3:=Aa0 hb2 (Aa1 ((w.alloc (.cells #[.int .i64 f,.int .i64 k] 262)).alloc (.cells #[.int .i64 i,.int .i64 m] 262)) (.cells #[.int .u32 af,.int .u32 ab,.int .u16 ag] 56))
 have k6:=((Block.made w 262 #[.int .i64 f,.int .i64 k]).alloc (.cells #[.int .i64 i,.int .i64 m] 262)).alloc (.cells #[.int .u32 af,.int .u32 ab,.int .u16 ag] 56)
 have k7:=(Block.made (w.alloc (.cells #[.int .i64 f,.int .i64 k] 262)) 262 #[.int .i64 i,.int .i64 m]).alloc (.cells #[.int .u32 af,.int .u32 ab,.int .u16 ag] 56)
 have k8:=Block.made ((w.alloc (.cells #[.int .i64 f,.int .i64 k] 262)).alloc (.cells #[.int .i64 i,.int .i64 m] 262)) 56 #[.int .u32 af,.int .u32 ab,.int .u16 ag]
 simp only [World.size_alloc] at k7 k8
 have hM:=h.below hb3
 have hLs:=h.ln.small
 obtain ⟨ao,c,hlv,hnc,hcm⟩:=h.ln.shape
 have hxlt:=h.ln.blk.lt
 obtain ⟨b6,hb6⟩:∃ b6,b6=w.heap.size:=⟨_,rfl⟩
 obtain ⟨b7,hb7⟩:∃ b7,b7=w.heap.size+1:=⟨_,rfl⟩
 obtain ⟨b8,hb8⟩:∃ b8,b8=w.heap.size+1+1:=⟨_,rfl⟩
 obtain ⟨n,hn⟩:∃ n,n=L.length:=⟨_,rfl⟩
 rw [<- hn] at hM hf hi hm hLl hLs hlv hnc
 rw [<- hb6] at k6
 rw [<- hb7] at k7
 rw [<- hb8] at k8
 replace hn:=J0 hn
 replace he:=J0 he
 replace hend:=J0 hend
 replace hfl:=J0 hfl
 replace hLl:=J0 hLl
 replace hfa:=J0 hfa
 replace hid:=J0 hid
 clear h hb1 hb2
 go_enter Tryz.func187,Tryz.ntmps187
 go_wp2
 generalize ((w.alloc (.cells #[.int .i64 f,.int .i64 k] 262)).alloc (.cells #[.int .i64 i,.int .i64 m] 262)).alloc (.cells #[.int .u32 af,.int .u32 ab,.int .u16 ag] 56)=w0 at k6 k7 k8 hb3 hM |-
 rw [<- hb8,<- hb7,<- hb6]
 replace hb6:=J0 hb6
 replace hb7:=J0 hb7
 replace hb8:=J0 hb8
 have hbox:∀ w',Fr B PT w0 w'->Block w' b6 262 #[.int .i64 f,.int .i64 k]/\Block w' b7 262 #[.int .i64 i,.int .i64 m]/\Block w' b8 56 #[.int .u32 af,.int .u32 ab,.int .u16 ag]  :=fun _ hf=>⟨Block.fr k6 hf (.inl (by decide)),Block.fr k7 hf (.inl (by decide)),Block.fr k8 hf (.inl (by decide))⟩
 have hd0:Below w0.heap.size w0 w0.drew:=Aa5 (Below.refl _ _) 1
 have hS:=fun w' (hb:Below w0.heap.size w0 w')=>And.intro (hM.below hb).ln.cells.2.2.2.1 (And.intro ((hbox _ (Fr.of_below hb)).1.cell 0 rfl) ((hbox _ (Fr.of_below hb)).1.cell 1 rfl))
 have c0:=hS w0 (Below.refl _ _)
 have c1:=hS _ hd0
 rw [hlv] at c0 c1 hS
 obtain ⟨a0,a1,a2⟩:=c0
 have heo:=he.out
 have hfe:f<=e:=by omega
 have hen:e<=n:=by omega
 have hec:e<=c:=by omega
 have hfI:(f:Int)<=(e:Int):=by omega
 have heI:(e:Int)<=(c:Int):=by omega
 have hek:e - f=k:=by omega
 obtain ⟨ad,had⟩:∃ ad,(if c=f then ao else Option.map (fun x=>x.add (f*2)) ao)=ad:=⟨_,rfl⟩
 have hd1:Hid (∀ g,ao=some ⟨g,0,none⟩->0<k->ad=some ⟨g,f*2,none⟩):=J0 fun g hg h0=>by
  rw [<- had,if_neg (by omega),hg]
  simp [Addr.add_lit]
 replace hbox:=J0 hbox
 replace hS:=J0 hS
 replace hM:=J0 hM
 replace hlv:=J0 hlv
 clear k6 k7 k8 heo
 go_region_held3 (fun w'=>w'.cell? ⟨x,3,none⟩=some (.slice ao n c)/\w'.cell? ⟨b6,0,none⟩=some (.int .i64 f)/\w'.cell? ⟨b6,1,none⟩=some (.int .i64 k))
  (first|exact ⟨a0,a1,a2⟩|exact c1|exact hS.out _ hb2.out)
  (first
   |(go_at_call 246;(with_reducible refine (hend.out _).mono ?_);rintro r w2 ⟨rfl,hb2'⟩;have hb2:=J0 (Aa0 hd0 hb2')))
 have hM2:=hM.out.below hb2.out
 have hf2:Fr B PT w0 w2:=Fr.of_below hb2.out
 replace hM2:=J0 hM2
 replace hf2:=J0 hf2
 clear c1 a0 a1 a2 hS hend hfI heI hd0 had hec
 go_wp2
 go_loopw [23] (fun iv wr=>∃ j:Nat,j<=k/\iv=.int .i64 j/\Hid (∃ sv' R',MidX B wr x s nx most kp cols sv' lv top bot n (fl Ab9 L) L R'/\vw R'=As6 most (vw R) (((vw L).drop f).take j)/\Fr B PT w0 wr)) (fun iv _=>k - (intOf iv).toNat)
 case atStart=>exact ⟨0,Nat.zero_le _,rfl,J0 ⟨sv,R,hM2.out,by simp [As6],hf2.out⟩⟩
 case round =>
  obtain ⟨j,hj,rfl,hR⟩:=hrel
  obtain ⟨sv',R',hMr,hvR,hfr⟩:=hR.out
  by_cases hlt:j<k
  ·have hjI:(j:Int)<(k:Int):=by omega
   have hfj:f+j<L.length:=by have:=hn.out;omega
   obtain ⟨g,c',e1,q0,q1,hrow⟩:=hMr.elem hn.out hfj
   rw [hlv.out] at e1
   simp only [Value.slice.injEq] at e1
   obtain ⟨rfl,_,rfl⟩:=e1
   obtain rfl:=hd1.out g rfl (by omega)
   rw [Nat.add_mul] at q0 q1
   have hid0:=hid.out _ (List.getElem_mem hfj)
   have hstep:((vw L).drop f).take (j+1)=((vw L).drop f).take j++[((L[f+j]).id,(L[f+j]).l)]:=by
    rw [List.take_add_one,List.getElem?_drop]
    congr 1
    simp [vw,hfj]
   generalize L[f+j]=e0 at q0 q1 hrow hstep hid0
   have hbw:Below wr.heap.size wr (wr.alloc (.cells #[.int .i64 e0.id,.pointer (some ⟨e0.d,0,none⟩)] 298)):=Aa1 wr _
   have hke:=keep_any (hMr.below hbw) e0 (hrow.below hbw) hid0
   replace hke:=J0 hke
   replace hvR:=J0 hvR
   have hfr':=J0 hfr
   replace hstep:=J0 hstep
   replace hbw:=J0 hbw
   clear hMr hfr hrow hR
   go_wp2_with (first
    |(go_at_call 286;(with_reducible refine hke.out.mono ?_);rintro r w3 ⟨⟨v3,rfl⟩,sv3,R3,hM3,hv3,hf3⟩))
   have hres:=J0 ((⟨sv3,R3,hM3,by rw [hv3,hvR.out,hstep.out,pushes_snoc],hfr'.out.trans ((Fr.of_below hbw.out).trans hf3)⟩:∃ sv' R',MidX B w3 x s nx most kp cols sv' lv top bot n (fl Ab9 L) L R'/\vw R'=As6 most (vw R) (((vw L).drop f).take (j+1))/\Fr B PT w0 w3))
   clear hM3 hv3 hf3
   go_roundw
   case rel=>exact ⟨j+1,by omega,by go_num,hres⟩
   case measure=>simp [intOf];omega
  ·obtain rfl:j=k:=by omega
   obtain ⟨q6,q7,q8⟩:=hbox.out _ hfr
   have s0:=q6.cell 0 rfl
   have s1:=q6.cell 1 rfl
   have hcu:=Bd3 hMr.ln (Cl8 L) f j (by omega)
   have hx0:=Cf1 L (f:=f) (k:=j) (by have:=hn.out;omega)
   rw [hx0] at hcu
   have hAl:(outA L f j).length=n - j:=by rw [Bb9 _ (by have:=hn.out;omega),hn.out]
   have hMs:=hMr.sub (Ca0 L f j)
   have hvA:vw (outA L f j)=outA (vw L) f j:=Bz8 _ _ _ _
   generalize outA L f j=A at hcu hAl hMs hvA
   obtain ⟨n1,hn1⟩:∃ n1,n1=n - j:=⟨_,rfl⟩
   rw [<- hn1] at hcu hAl hm hi
   replace hcu:=J0 hcu
   replace hMs:=J0 hMs
   replace hfr:=J0 hfr
   replace hn1:=J0 hn1
   clear hMr hR q6 q7 q8 hM2 hf2
   go_wp2_with (first
    |(go_at_call 247;(with_reducible refine hcu.out.mono ?_);rintro r w4 ⟨⟨v4,rfl⟩,lv4,xs4,hL4,rfl,hO4⟩;have hM4:=hMs.out.ln' hL4 hO4;have hf4:=hfr.out.trans (hMs.out.ln.frame hO4);have t0:=(hbox.out _ hf4).2.1.cell 0 rfl;have t1:=(hbox.out _ hf4).2.1.cell 1 rfl;have hmr:=Ba6 hL4 (Cl8 A) i m hi hm)
    |(go_at_call 248;(with_reducible refine hmr.mono ?_);rintro r w5 ⟨⟨v5,rfl⟩,lv5,xs5,hL5,hx5,hO5⟩;have hM5:=hM4.ln' hL5 hO5;have hf5:=hf4.trans (hM4.ln.frame hO5);have u1:=(hbox.out _ hf5).2.1.cell 1 rfl))
   obtain ⟨J,hJl,hJ1,rfl⟩:=hx5
   rw [Cf0 A (by omega)] at hM5
   obtain ⟨N,hN⟩:∃ N,N=n1+m:=⟨_,rfl⟩
   rw [<- hN] at hM5
   obtain ⟨ao5,c5,hlv5,hnc5,_⟩:=hM5.ln.shape
   have hAp:List.Perm A (A.take i++A.drop i):=by rw [List.take_append_drop]
   have hTl:(A.take i).length=i:=by rw [List.length_take];omega
   replace hM5:=J0 (hM5.sub (L':=A.take i++A.drop i) (by rw [List.take_append_drop];exact List.Sublist.refl _))
   replace hf5:=J0 hf5
   replace hlv5:=J0 hlv5
   replace hAl:=J0 hAl
   replace hTl:=J0 hTl
   have hNx:=J0 hN
   clear hN
   clear hL4 hO4 hM4 hf4 t0 t1 hmr hL5 hO5 hcu hMs s0 s1 u1 hAp hlt
   have u1:=(hbox.out _ hf5.out).2.1.cell 1 rfl
   go_loopw [39] (fun iv wr=>∃ jj:Nat,jj<=m/\iv=.int .i64 jj/\Hid (∃ F J',F.length=jj/\J'.length=(m - jj)*2/\MidX B wr x s (nx+jj) most kp cols sv' lv5 top bot N (fl Ab9 (A.take i++F)++(J'++fl Ab9 (A.drop i))) (A.take i++(F++A.drop i)) R'/\vw F=Ad4 nx cols jj ⟨af,ab,ag⟩/\Fr B PT w0 wr)) (fun iv _=>m - (intOf iv).toNat)
   case atStart=>exact ⟨0,Nat.zero_le _,rfl,J0 ⟨[],J,rfl,hJl,by simpa using hM5.out,rfl,hf5.out⟩⟩
   case round =>
    obtain ⟨jj,hjj,rfl,hR2⟩:=hrel
    obtain ⟨F,J',hFl,hJ',hMr,hvF,hfr2⟩:=hR2.out
    by_cases hlt:jj<m
    ·have hjI:(jj:Int)<(m:Int):=by omega
     have hNo:=hNx.out
     obtain ⟨q6,q7,q8⟩:=hbox.out _ hfr2
     obtain ⟨g,c',tail,e1,hgB,hbg,_,_⟩:=Ai1 hMr.ln.own (by omega)
     rw [hlv5.out] at e1
     simp only [Value.slice.injEq] at e1
     obtain ⟨rfl,_,rfl⟩:=e1
     obtain ⟨u,v,J2,rfl⟩:∃ u v J2,J'=u::v::J2:=by
      match J',hJ' with
      |[],hJ'=>simp at hJ';omega
      |[_],hJ'=>simp at hJ';omega
      |u::v::J2,_=>exact ⟨u,v,J2,rfl⟩
     have hJ2:J2.length=(m - (jj+1))*2:=by simp at hJ';omega
     have hAF:(A.take i++F).length=i+jj:=by rw [List.length_append,hTl.out,hFl]
     have hdr:Below wr.heap.size wr wr.drew:=Aa5 (Below.refl _ _) 1
     have hMd:=hMr.below hdr
     obtain ⟨y,hy⟩:∃ y,y=nx+jj:=⟨_,rfl⟩
     rw [<- hy] at hMd
     have hfrs1:=Bp5 hMd.ln.st (by omega) cols hc1 hc5 ⟨af,ab,ag⟩
     simp only at hfrs1
     have hwr1:IntKind.i64.wrap ((i:Int)+(jj:Int))=(i:Int)+(jj:Int):=IntWalk.i64_in _ (by omega)
     have hw0:(0:Int)<=(i:Int)+(jj:Int):=by omega
     have hw1:(i:Int)+(jj:Int)<(N:Int):=by omega
     have hw2:((i:Int)+(jj:Int)).toNat=i+jj:=by omega
     have hNI:i+jj<N:=by omega
     have hS2:∀ w' nx' sv'' xs'' R'',LnX B w' x s nx' most kp cols sv'' (.slice (some ⟨g,0,none⟩) N c5) top bot N xs'' R''->Fr B PT w0 w'->w'.cell? ⟨x,0,none⟩=some (.pointer (some ⟨s,0,none⟩))/\w'.cell? ⟨x,2,none⟩=some (.int .i64 cols)/\w'.cell? ⟨x,3,none⟩=some (.slice (some ⟨g,0,none⟩) N c5)/\w'.cell? ⟨b7,0,none⟩=some (.int .i64 i)/\w'.cell? ⟨b8,0,none⟩=some (.int .u32 af)/\w'.cell? ⟨b8,1,none⟩=some (.int .u32 ab)/\w'.cell? ⟨b8,2,none⟩=some (.int .u16 ag) :=
      fun w' nx' sv'' xs'' R'' hm' hf'=>⟨hm'.cells.1,hm'.cells.2.2.1,hm'.cells.2.2.2.1,(hbox.out _ hf').2.1.cell 0 rfl,(hbox.out _ hf').2.2.cell 0 rfl,(hbox.out _ hf').2.2.cell 1 rfl,(hbox.out _ hf').2.2.cell 2 rfl⟩
     rw [hlv5.out] at hMr hMd
     obtain ⟨a0,a1,a2,a3,a4,a5,a6⟩:=hS2 _ _ _ _ _ hMr.ln hfr2
     have c1:=hS2 _ _ _ _ _ hMd.ln (hfr2.trans (Fr.of_below hdr))
     have hafter:=fun w6 d g6 (h1:SX 0 w6 s (y+1) most sv' R') (hrow6:RowG wr.drew.heap.size w6 (En.mk y d g6 0 (Af5 cols ⟨af,ab,ag⟩))) (ho6:Only [s] wr.drew w6)=>(by
      have hpm:List.Perm (A.take i++((F++[En.mk y d g6 0 (Af5 cols ⟨af,ab,ag⟩)])++A.drop i)) (En.mk y d g6 0 (Af5 cols ⟨af,ab,ag⟩)::(A.take i++(F++A.drop i))):=by
       rw [List.append_assoc F,List.singleton_append,<- List.append_assoc (A.take i),<- List.append_assoc (A.take i)]
       exact List.perm_middle
      obtain ⟨hM6,hf6⟩:=hMd.fresh h1 hrow6 ho6 hpm
      obtain ⟨hM7,hO7⟩:=hM6.place hAF (En.mk y d g6 0 (Af5 cols ⟨af,ab,ag⟩))
      have hfa:=(hfr2.trans (Fr.of_below hdr)).trans hf6
      have hf7:=hfa.trans (hM6.ln.frame (hO7.mono (by simp [Value.ownBlock])))
      obtain ⟨g',cap',tail',e1',_,hbg',_,_⟩:=Ai1 hM6.ln.own (by omega)
      simp only [Value.slice.injEq,Option.some.injEq,Addr.mk.injEq] at e1'
      obtain ⟨⟨rfl,_⟩,_⟩:=e1'
      have hfl0:(fl Ab9 (A.take i++F)).length=(i+jj)*2:=by rw [Ab5 Ab8,hAF]
      refine ⟨hS2 _ _ _ _ _ hM6.ln hfa,⟨hbg'.cell _ ?_,hbg'.cell _ ?_,World.ownsRow.frozenAt hM6.ln.own _,World.ownsRow.frozenAt hM6.ln.own _⟩,hS2 _ _ _ _ _ hM7.ln hf7,J0 ⟨F++[En.mk y d g6 0 (Af5 cols ⟨af,ab,ag⟩)],J2,by simp [hFl],hJ2,?_,?_,hf7⟩⟩
      ·rw [List.getElem?_toArray,List.append_assoc,List.getElem?_append_right (by omega),hfl0,Nat.sub_self];rfl
      ·rw [List.getElem?_toArray,List.append_assoc,List.getElem?_append_right (by omega),hfl0,show (i+jj)*2+1 - (i+jj)*2=1 by omega];rfl
      ·rw [show nx+(jj+1)=y+1 by omega]
       rw [List.append_assoc (A.take i) F] at hM7
       exact hM7
      ·rw [show vw (F++[En.mk y d g6 0 (Af5 cols ⟨af,ab,ag⟩)])=vw F++[((y:Int),Af5 cols ⟨af,ab,ag⟩)] by simp [vw],hvF,hfl.out,hy,Int.natCast_add] :
      (w6.cell? ⟨x,0,none⟩=some (.pointer (some ⟨s,0,none⟩))/\w6.cell? ⟨x,2,none⟩=some (.int .i64 cols)/\w6.cell? ⟨x,3,none⟩=some (.slice (some ⟨g,0,none⟩) N c5)/\w6.cell? ⟨b7,0,none⟩=some (.int .i64 i)/\w6.cell? ⟨b8,0,none⟩=some (.int .u32 af)/\w6.cell? ⟨b8,1,none⟩=some (.int .u32 ab)/\w6.cell? ⟨b8,2,none⟩=some (.int .u16 ag)) /\
      (w6.cell? ⟨g,(i+jj)*2,none⟩=some u/\w6.cell? ⟨g,(i+jj)*2+1,none⟩=some v/\w6.frozen? ⟨g,(i+jj)*2,none⟩=false/\w6.frozen? ⟨g,(i+jj)*2+1,none⟩=false) /\
      (((w6.setCell ⟨g,(i+jj)*2,none⟩ (.int .i64 y)).setCell ⟨g,(i+jj)*2+1,none⟩ (.pointer (some ⟨d,0,none⟩))).cell? ⟨x,0,none⟩=some (.pointer (some ⟨s,0,none⟩))/\((w6.setCell ⟨g,(i+jj)*2,none⟩ (.int .i64 y)).setCell ⟨g,(i+jj)*2+1,none⟩ (.pointer (some ⟨d,0,none⟩))).cell? ⟨x,2,none⟩=some (.int .i64 cols)/\((w6.setCell ⟨g,(i+jj)*2,none⟩ (.int .i64 y)).setCell ⟨g,(i+jj)*2+1,none⟩ (.pointer (some ⟨d,0,none⟩))).cell? ⟨x,3,none⟩=some (.slice (some ⟨g,0,none⟩) N c5)/\((w6.setCell ⟨g,(i+jj)*2,none⟩ (.int .i64 y)).setCell ⟨g,(i+jj)*2+1,none⟩ (.pointer (some ⟨d,0,none⟩))).cell? ⟨b7,0,none⟩=some (.int .i64 i)/\((w6.setCell ⟨g,(i+jj)*2,none⟩ (.int .i64 y)).setCell ⟨g,(i+jj)*2+1,none⟩ (.pointer (some ⟨d,0,none⟩))).cell? ⟨b8,0,none⟩=some (.int .u32 af)/\((w6.setCell ⟨g,(i+jj)*2,none⟩ (.int .i64 y)).setCell ⟨g,(i+jj)*2+1,none⟩ (.pointer (some ⟨d,0,none⟩))).cell? ⟨b8,1,none⟩=some (.int .u32 ab)/\((w6.setCell ⟨g,(i+jj)*2,none⟩ (.int .i64 y)).setCell ⟨g,(i+jj)*2+1,none⟩ (.pointer (some ⟨d,0,none⟩))).cell? ⟨b8,2,none⟩=some (.int .u16 ag)) /\
      Hid (∃ F J',F.length=jj+1/\J'.length=(m - (jj+1))*2/\MidX B ((w6.setCell ⟨g,(i+jj)*2,none⟩ (.int .i64 y)).setCell ⟨g,(i+jj)*2+1,none⟩ (.pointer (some ⟨d,0,none⟩))) x s (nx+(jj+1)) most kp cols sv' (.slice (some ⟨g,0,none⟩) N c5) top bot N (fl Ab9 (A.take i++F)++(J'++fl Ab9 (A.drop i))) (A.take i++(F++A.drop i)) R'/\vw F=Ad4 nx cols (jj+1) ⟨af,ab,ag⟩/\Fr B PT w0 ((w6.setCell ⟨g,(i+jj)*2,none⟩ (.int .i64 y)).setCell ⟨g,(i+jj)*2+1,none⟩ (.pointer (some ⟨d,0,none⟩)))))
     have hu1:=(hbox.out _ hfr2).2.1.cell 0 rfl
     replace hafter:=J0 hafter
     replace hfrs1:=J0 hfrs1
     replace hy:=J0 hy
     clear hNo hMr hMd hbg hS2 hR2 hvF hFl hAF hJ2 hJ' hu1 hfr2 u1 hdr
     go_wp2
     go_region_held3 (fun w'=>w'.cell? ⟨x,0,none⟩=some (.pointer (some ⟨s,0,none⟩))/\w'.cell? ⟨x,2,none⟩=some (.int .i64 cols)/\w'.cell? ⟨x,3,none⟩=some (.slice (some ⟨g,0,none⟩) N c5)/\w'.cell? ⟨b7,0,none⟩=some (.int .i64 i)/\w'.cell? ⟨b8,0,none⟩=some (.int .u32 af)/\w'.cell? ⟨b8,1,none⟩=some (.int .u32 ab)/\w'.cell? ⟨b8,2,none⟩=some (.int .u16 ag))
      (first|exact ⟨a0,a1,a2,a3,a4,a5,a6⟩|exact c1|exact hz|exact hzz)
      (first
       |(go_at_call 249;(with_reducible refine hfrs1.out.mono ?_);rintro r w6 ⟨d,g6,rfl,h16,hr6,ho6⟩;obtain ⟨hz,⟨p0,p1,f0,f1⟩,hzz,hres⟩:=hafter.out w6 d g6 h16 hr6 ho6))
     clear h16 hr6 ho6 p0 p1 f0 f1 hz hzz c1 hafter hfrs1 a0 a1 a2 a3 a4 a5 a6 hwr1 hw0 hw1 hw2 hNI
     go_wp2
     go_roundw
     case rel=>exact ⟨jj+1,by omega,by go_num,by rw [hlv5.out];exact hres⟩
     case measure=>simp [intOf];omega
    ·obtain rfl:jj=m:=by omega
     have hNo:=hNx.out
     have hJ0:J'=[]:=List.eq_nil_of_length_eq_zero (by omega)
     subst hJ0
     have hvI:vw (A.take i++(F++A.drop i))=insA (outA (vw L) f j) i (Ad4 nx cols jj ⟨af,ab,ag⟩):=by
      rw [<- hvA,<- hvF]
      simp [vw,insA,List.map_take,List.map_drop]
     have hlen:(A.take i++(F++A.drop i)).length=N:=by
      rw [List.length_append,List.length_append,hTl.out,hFl,List.length_drop,hAl.out];omega
     rw [List.nil_append,<- fl_app,List.append_assoc,<- hlen] at hMr
     have hres:=J0 (⟨sv',lv5,_,R',hMr,hvI,by simpa using hvR,(Fr.of_below hb3).trans hfr2⟩:∃ sv' lv' L' R'',MidX B wr x s (nx+jj) most kp cols sv' lv' top bot L'.length (fl Ab9 L') L' R''/\vw L'=insA (outA (vw L) f j) i (Ad4 nx cols jj ⟨af,ab,ag⟩)/\vw R''=(if true then As6 most (vw R) (((vw L).drop f).take j) else vw R)/\Fr B PT w wr)
     clear hNo hMr hvF hvI hfr2 hR2
     go_wp2
     go_end0
     exact ⟨⟨_,rfl⟩,hres.out⟩
end
