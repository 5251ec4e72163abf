/- Part 50 of HostSplits. -/
import Derived.Test.YtecnpoigegiooaaGreatDoorP49
import Derived.Lib.SlBytesConst
set_option maxHeartbeats 16000000
set_option maxRecDepth 100000
namespace Go.Proofs.YtecnpoigegiooaaGreatDoor.Hos
open Go RowKit Com Rw Lns Emu Scn
section
variable {Z Z' B B1 B2:Zn}{W w w1 w2 w':World}{h h2 d t x s:Nat}{p p':HP}{H H1 H2:Hst}{X:Tri}{T:Ter}{P:Pt}{S:Scr}
def Fine (L:List Ln):Prop:=∀p∈L,p.2.length<=512/\∀c∈p.2,c.m.length<=4
theorem Ay1 {B:Nat} {L:List En} (h:∀e∈L,RowG B w e):Fine (vw L):=fun p hp=>by
 obtain⟨e,he,rfl⟩:=List.mem_map.1 hp
 obtain⟨hg,_,_,n,cap,tail,hr⟩:=h e he
 exact⟨by have:=hr.len;have:=hr.small;show e.l.length<=512;omega,fun c hc=>(hg.cell c hc).four⟩
theorem sc_fine (h:SC Z w x s S):Fine S.L/\Fine S.R:=by
 obtain⟨sv,lv,L,R,h1,h2,h3⟩:=h
 exact⟨by rw[<- h2];exact Ay1 h1.rows,by rw[<- h3];exact Ay1 h1.ln.st.2⟩
theorem tmx_fine (h:TMx Z w t T P):Fine T.vis.L/\Fine T.R:=by
 have hs:=h.scr
 unfold Scrs at hs
 split at hs
 ·exact sc_fine hs
 ·obtain⟨sv,R,l1,L1,l2,L2,h1,e1,eR,_⟩:=hs
  exact⟨by rw[<- e1];exact Ay1 h1.rows,by
   have h3:Fine (vw R):=Ay1 h1.ln.st.2
   rw[eR] at h3
   exact h3⟩
theorem hb_fine (hB:HB B W w h H):Fine H.T.vis.L/\Fine H.T.R:=by
 obtain⟨Z,p,hx,_⟩:=hB
 obtain⟨P,hP⟩:=hx.tz.tv.tm
 exact tmx_fine hP
theorem Cv5 (w:World) (o1 o2 o3:Array Value) (t1 t2 t3:TypeId):Block ((((w.alloc (.cells o1 t1)).alloc (.cells o2 t2)).alloc (.cells o3 t3)).drew) w.heap.size t1 o1/\Block ((((w.alloc (.cells o1 t1)).alloc (.cells o2 t2)).alloc (.cells o3 t3)).drew) (w.heap.size+1) t2 o2/\Block ((((w.alloc (.cells o1 t1)).alloc (.cells o2 t2)).alloc (.cells o3 t3)).drew) (w.heap.size+1+1) t3 o3/\Below w.heap.size w ((((w.alloc (.cells o1 t1)).alloc (.cells o2 t2)).alloc (.cells o3 t3)).drew):=by
 have b1:=Aa1 w (.cells o1 t1)
 have b2:=Aa1 (w.alloc (.cells o1 t1)) (.cells o2 t2)
 have b3:=Aa1 ((w.alloc (.cells o1 t1)).alloc (.cells o2 t2)) (.cells o3 t3)
 have bd:Below (((w.alloc (.cells o1 t1)).alloc (.cells o2 t2)).alloc (.cells o3 t3)).heap.size (((w.alloc (.cells o1 t1)).alloc (.cells o2 t2)).alloc (.cells o3 t3)) ((((w.alloc (.cells o1 t1)).alloc (.cells o2 t2)).alloc (.cells o3 t3)).drew):=Aa4 (Below.refl _ _) 1
 have m1:=Block.made w t1 o1
 have m2:=Block.made (w.alloc (.cells o1 t1)) t2 o2
 have m3:=Block.made ((w.alloc (.cells o1 t1)).alloc (.cells o2 t2)) t3 o3
 rw[World.size_alloc] at m2
 rw[World.size_alloc,World.size_alloc] at m3
 exact⟨Block.only m1 (Only.of_below (Aa0 (Aa0 b2 b3) bd) []) (by simp),Block.only m2 (Only.of_below (Aa0 b3 bd) []) (by simp),Block.only m3 (Only.of_below bd []) (by simp),Aa0 (Aa0 (Aa0 b1 b2) b3) bd⟩
theorem Bb8 {w:World} {g n k:Nat} {e:TypeId} {cs:List Value} (h:Block w g e cs.toArray) (hs:cs.length=n*k) (hm:n<=maxLen):w.ownsRow 0 e k (.slice (some ⟨g,0,none⟩) n n) n cs :=
 ⟨hs,.inr ⟨g,n,cs.toArray,rfl,Nat.zero_le _,h,J5 _,hm,by simpa using hs,by simp[<- hs]⟩⟩
structure Mk (w w':World) (bg ga gb x n:Nat) (id:Int):Prop where
 below:Below w.heap.size w w'
 box:Block w' bg 53 #[.slice (some ⟨ga,0,none⟩) 1 1,.slice (some ⟨gb,0,none⟩) 1 1,.int .i64 0,.int .i64 0,.bool false,.bool false,.bool false,.int .i64 0,.int .i64 0,.int .u32 0,.int .u32 0,.int .u16 0]
 cs:Block w' ga 55 #[.slice (some ⟨x,0,none⟩) n n]
 ids:Block w' gb 3 #[.int .i64 id]
theorem Mk.on {w w1 w2:World} {bg ga gb x n:Nat} {id:Int} (h:Mk w w1 bg ga gb x n id) (hb:Below w1.heap.size w1 w2):Mk w w2 bg ga gb x n id:=⟨Aa0 h.below hb,Block.only h.box (Only.of_below hb []) (by simp),Block.only h.cs (Only.of_below hb []) (by simp),Block.only h.ids (Only.of_below hb []) (by simp)⟩
theorem Mk.rws {w w1:World} {bg ga gb x n:Nat} {id:Int} {ps:List (Cel×Value)} {B:Nat} (h:Mk w w1 bg ga gb x n id) (ha:Api B w1 (.slice (some ⟨x,0,none⟩) n n) ps):Rws 0 w1 n (.slice (some ⟨ga,0,none⟩) 1 1) (.slice (some ⟨gb,0,none⟩) 1 1) [(x,ps)] [id] :=
 ⟨Bb8 (n:=1) (k:=1) (cs:=[.slice (some ⟨x,0,none⟩) n n]) h.cs rfl (by simp[maxLen]),Bb8 (n:=1) (k:=1) (cs:=[.int .i64 id]) h.ids rfl (by simp[maxLen]),fun p hp=>by
  obtain rfl:=List.mem_singleton.1 hp
  exact ha.lower (Nat.zero_le _)⟩
theorem bld_two {w2:World} {ba ba2:Option Addr} {n bc bc2 k:Nat} {R:List Ln} {hs1 hs2:List Av0} (hst:∀w1,Below w2.heap.size w2 w1->Bld w1 (.slice ba n bc) n R hs1/\Bld w1 (.slice ba2 n bc2) n R hs2) (hk:k<R.length) :
  ∃g g' x x' ps ps',ba=some ⟨g,0,none⟩/\ba2=some ⟨g',0,none⟩/\List.map (·.1) ps=(R[k]).2/\List.map (·.1) ps'=(R[k]).2/\∀w1,Below w2.heap.size w2 w1->w1.cell? ⟨g,k*2,none⟩=some (.int .i64 (R[k]).1)/\w1.cell? ⟨g,k*2+1,none⟩=some (.slice (some ⟨x,0,none⟩) (R[k]).2.length (R[k]).2.length) /\
   w1.cell? ⟨g',k*2,none⟩=some (.int .i64 (R[k]).1)/\w1.cell? ⟨g',k*2+1,none⟩=some (.slice (some ⟨x',0,none⟩) (R[k]).2.length (R[k]).2.length)/\(∃B,Api B w1 (.slice (some ⟨x,0,none⟩) (R[k]).2.length (R[k]).2.length) ps)/\(∃B,Api B w1 (.slice (some ⟨x',0,none⟩) (R[k]).2.length (R[k]).2.length) ps'):=by
 have one:∀ {ba:Option Addr} {bc:Nat} {hs:List Av0},(∀w1,Below w2.heap.size w2 w1->Bld w1 (.slice ba n bc) n R hs)->∃g x ps,ba=some ⟨g,0,none⟩/\List.map (·.1) ps=(R[k]).2/\∀w1,Below w2.heap.size w2 w1->w1.cell? ⟨g,k*2,none⟩=some (.int .i64 (R[k]).1)/\w1.cell? ⟨g,k*2+1,none⟩=some (.slice (some ⟨x,0,none⟩) (R[k]).2.length (R[k]).2.length)/\∃B,Api B w1 (.slice (some ⟨x,0,none⟩) (R[k]).2.length (R[k]).2.length) ps:=fun {ba bc hs} h=>by
  have h0:=h w2 (Below.refl _ _)
  have hl:hs.length=R.length:=by rw[<- h0.got,List.length_map]
  have hk':k<hs.length:=by omega
  have e1:lnOf hs[k]=R[k]:=by
   have:=congrArg (·[k]?) h0.got
   simp only[List.getElem?_map,List.getElem?_eq_getElem hk',List.getElem?_eq_getElem hk,Option.map_some,Option.some.injEq] at this
   exact this
  have e2:(hs[k]).2.2.map (·.1)=(R[k]).2:=congrArg Prod.snd e1
  have e3:(hs[k]).1=(R[k]).1:=congrArg Prod.fst e1
  have e4:(hs[k]).2.2.length=(R[k]).2.length:=by rw[<- e2];simp
  obtain⟨B0,hB0⟩:=h0.back
  obtain⟨g,c,e,_⟩:=hB0.at (i:=k) hk'
  simp only[Value.slice.injEq] at e
  refine⟨g,(hs[k]).2.1,(hs[k]).2.2,e.1,e2,fun w1 hb=>?_⟩
  obtain⟨B1,hB1⟩:=(h w1 hb).back
  obtain⟨g1,c1,e',_,_,x0,x1⟩:=hB1.at (i:=k) hk'
  simp only[Value.slice.injEq,e.1,Option.some.injEq,Addr.mk.injEq,and_true] at e'
  obtain⟨rfl,_⟩:=e'
  have ha:=hB1.apis _ (List.getElem_mem hk')
  rw[e4] at ha
  rw[e3] at x0
  rw[e4] at x1
  exact⟨x0,x1,B1,ha⟩
 obtain⟨g,x,ps,h1,h2,h3⟩:=one fun w1 hb=>(hst w1 hb).1
 obtain⟨g',x',ps',h4,h5,h6⟩:=one fun w1 hb=>(hst w1 hb).2
 exact⟨g,g',x,x',ps,ps',h1,h4,h2,h5,fun w1 hb=>⟨(h3 w1 hb).1,(h3 w1 hb).2.1,(h6 w1 hb).1,(h6 w1 hb).2.1,(h3 w1 hb).2.2,(h6 w1 hb).2.2⟩⟩
theorem lsame_any (hB1:HB B1 W w h H1) (hB2:HB B2 W w h2 H2) (hT:H2.T=H1.T):Calls Tryz.prog 10 #[.pointer (some ⟨h,0,none⟩),.pointer (some ⟨h2,0,none⟩)] w fun e w'=>e=.returned (.bool true)/\Below w.heap.size w w':=by
  have hf:=hb_fine hB1
  have hbk1:=Bs8 hB1
  have hbk2:=J0 (fun w1 (hb:Below w.heap.size w w1)=>Bs8 (hB2.on hb))
  rw[hT] at hbk2
  generalize hR:H1.T.R=R at hbk1 hbk2 hf
  generalize hn:R.length=n at hbk1 hbk2
  replace hbk1:=J0 hbk1
  replace hR:=J0 hR
  replace hn:=J0 hn
  go_enter Tryz.func10,Tryz.ntmps10
  go_upto_region 2 with (first
    | (go_at_call 23
       with_reducible refine(hbk1.out).mono ?_
       rintro e w1 ⟨ba,bc,hs1,rfl,hB1',hl1,hb1⟩
       replace hB1':=J0 hB1')
    | (go_at_call 23
       with_reducible refine(hbk2.out _ hb1).mono ?_
       rintro e w2 ⟨ba2,bc2,hs2,rfl,hB2',hl2,hb2⟩
       replace hB2':=J0 hB2'))
  go_upto_region 4 with (fail)
  have hbb:=Aa0 hb1 hb2
  replace hB1':=hB1'.out.below hb2
  have hst:Hid (∀w1,Below w2.heap.size w2 w1->Bld w1 (.slice ba n bc) n R hs1/\Bld w1 (.slice ba2 n bc2) n R hs2):=J0 fun w1 hb=>⟨hB1'.below hb,hB2'.out.below hb⟩
  clear hB1' hB2' hbk1 hbk2 hb1 hb2
  replace hbb:=J0 hbb
  replace hf:=J0 hf
  have hn9:Hid (n<=9223372036854775807):=J0 (by have:=hl1;unfold maxLen at this;omega)
  go_wp2
  go_loopw [21] (fun i wr=>∃k:Nat,k<=n/\i=.int .i64 k/\Hid (Below w2.heap.size w2 wr)) (fun i _=>n - (intOf i).toNat)
  case atStart=>exact⟨0,Nat.zero_le _,rfl,J0 (Below.refl _ _)⟩
  case round =>
    obtain⟨k,hk,rfl,hQ⟩:=hrel
    by_cases hlt:k<n
    · have hkI:(k:Int)<(n:Int):=by omega
      have hkR:k<R.length:=by rw[hn.out];exact hlt
      have hq:=bld_two hst.out hkR
      obtain⟨g,g',x,x',ps,ps',rfl,rfl,hp1,hp2,hce⟩:=hq
      obtain⟨hf1,hf2⟩:=hf.out.2 _ (List.getElem_mem hkR)
      have hpl1:ps.length=(R[k]).2.length:=by rw[<- hp1];simp
      have hpl2:ps'.length=(R[k]).2.length:=by rw[<- hp2];simp
      have hf3:∀q∈ps,q.1.m.length<=4:=fun q hq=>hf2 _ (by rw[<- hp1];exact List.mem_map_of_mem hq)
      generalize R[k]=ln at hce hp1 hp2 hf1 hf2 hpl1 hpl2
      obtain⟨id,cl⟩:=ln
      simp only at hce hp1 hp2 hf1 hf2 hpl1 hpl2
      generalize hcl:cl.length=nc at hce hf1 hpl1 hpl2
      have hce1:=J0 (fun w1 hb=>hce w1 (Aa0 hQ.out hb))
      have hfin:Hid (∀w3 w4 bg ga gb bg' ga' gb',Mk wr w3 bg ga gb x nc id->Mk w3 w4 bg' ga' gb' x' nc id->Calls Tryz.prog 24 #[.agg #[.slice (some ⟨ga,0,none⟩) 1 1,.slice (some ⟨gb,0,none⟩) 1 1,.int .i64 0,.int .i64 0,.bool false,.bool false,.bool false,.int .i64 0,.int .i64 0,.int .u32 0,.int .u32 0,.int .u16 0],.agg #[.slice (some ⟨ga',0,none⟩) 1 1,.slice (some ⟨gb',0,none⟩) 1 1,.int .i64 0,.int .i64 0,.bool false,.bool false,.bool false,.int .i64 0,.int .i64 0,.int .u32 0,.int .u32 0,.int .u16 0]] w4 fun e w'=>e=.returned (.bool true)/\Below w4.heap.size w4 w'):=J0 fun w3 w4 bg ga gb bg' ga' gb' m1 m2=>by
        have m1':=m1.on m2.below
        obtain⟨_,_,_,_,⟨B3,a1⟩,⟨B4,a2⟩⟩:=hce1.out w4 (Aa0 m1.below m2.below)
        exact Bc1 (cols:=nc) 0 0 false false false 0 0 0 0 0 (m1'.rws a1) (m2.rws a2) rfl (by simp[hp1,hp2]) hf1 (by simp) (fun q hq=>by
          obtain rfl:=List.mem_singleton.1 hq
          exact⟨hpl1,hf3⟩)
      obtain⟨x0,x1,-,-,-,-⟩:=hce1.out wr (Below.refl _ _)
      clear hst hce hf hp1 hp2 hf1 hf2 hf3 hpl1 hpl2 hcl
      have x0a:=fun o=>Aj2 x0 o
      have x0b:=fun o o'=>Aj2 (Aj2 x0 o) o'
      have x1a:=fun o=>Aj2 x1 o
      have x1b:=fun o o'=>Aj2 (Aj2 x1 o) o'
      go_upto_region 7 with (fail)
      go_cut [8] from 24 to 36 (fun s8 wx=>∃bg ga gb,s8=.pointer (some ⟨bg,0,none⟩)/\Hid (Mk wr wx bg ga gb x nc id))
      case first =>
        go_wp2
        go_region
        all_goals
          go_wp2_with fail
          go_meet
          obtain⟨q1,q2,q3,q4⟩:=Cv5 wr _ _ _ _ _ _
          first|exact⟨_,_,_,rfl,J0 ⟨q4,q3,q1,q2⟩⟩|exact⟨_,_,_,rfl,J0 ⟨q4,q2,q1,q3⟩⟩|exact⟨_,_,_,rfl,J0 ⟨q4,q3,q2,q1⟩⟩|exact⟨_,_,_,rfl,J0 ⟨q4,q2,q3,q1⟩⟩|exact⟨_,_,_,rfl,J0 ⟨q4,q1,q2,q3⟩⟩|exact⟨_,_,_,rfl,J0 ⟨q4,q1,q3,q2⟩⟩
      case rest =>
        obtain⟨bg,ga,gb,rfl,hM⟩:=hcut
        clear x0 x1 x0a x0b x1a x1b
        obtain⟨-,-,y0,y1,-,-⟩:=hce1.out wc hM.out.below
        have y0a:=fun o=>Aj2 y0 o
        have y0b:=fun o o'=>Aj2 (Aj2 y0 o) o'
        have y1a:=fun o=>Aj2 y1 o
        have y1b:=fun o o'=>Aj2 (Aj2 y1 o) o'
        go_upto_region 8 with (fail)
        generalize wc=w8 at hM y0 y1 y0a y0b y1a y1b |-
        go_cut [9] from 37 to 49 (fun s9 wx=>∃bg' ga' gb',s9=.pointer (some ⟨bg',0,none⟩)/\Hid (Mk w8 wx bg' ga' gb' x' nc id))
        case first =>
          go_wp2
          go_region
          all_goals
            go_wp2_with fail
            go_meet
            obtain⟨q1,q2,q3,q4⟩:=Cv5 w8 _ _ _ _ _ _
            first|exact⟨_,_,_,rfl,J0 ⟨q4,q3,q1,q2⟩⟩|exact⟨_,_,_,rfl,J0 ⟨q4,q2,q1,q3⟩⟩|exact⟨_,_,_,rfl,J0 ⟨q4,q3,q2,q1⟩⟩|exact⟨_,_,_,rfl,J0 ⟨q4,q2,q3,q1⟩⟩|exact⟨_,_,_,rfl,J0 ⟨q4,q1,q2,q3⟩⟩|exact⟨_,_,_,rfl,J0 ⟨q4,q1,q3,q2⟩⟩
        case rest =>
          obtain⟨bg',ga',gb',rfl,hM2⟩:=hcut
          clear y0 y1 y0a y0b y1a y1b
          have hsg:=J0 (hfin.out _ _ _ _ _ _ _ _ hM.out hM2.out)
          have hl1:∀j v,([.slice (some ⟨ga,0,none⟩) 1 1,.slice (some ⟨gb,0,none⟩) 1 1,.int .i64 0,.int .i64 0,.bool false,.bool false,.bool false,.int .i64 0,.int .i64 0,.int .u32 0,.int .u32 0,.int .u16 0]:List Value)[j]?=some v->wc.cell? ((⟨bg,0,none⟩:Addr).add j)=some v:=fun j v hv=>by
            rw[Addr.add_lit,Nat.zero_add]
            exact(hM.out.on hM2.out.below).box.cell j (by simpa using hv)
          have hl2:∀j v,([.slice (some ⟨ga',0,none⟩) 1 1,.slice (some ⟨gb',0,none⟩) 1 1,.int .i64 0,.int .i64 0,.bool false,.bool false,.bool false,.int .i64 0,.int .i64 0,.int .u32 0,.int .u32 0,.int .u16 0]:List Value)[j]?=some v->wc.cell? ((⟨bg',0,none⟩:Addr).add j)=some v:=fun j v hv=>by
            rw[Addr.add_lit,Nat.zero_add]
            exact hM2.out.box.cell j (by simpa using hv)
          have hbq:=J0 (Aa0 hQ.out (Aa0 hM.out.below hM2.out.below))
          clear hfin hM hM2 hce1
          go_wp2_with (first
            |(with_reducible refine J9 50 8 ?_;go_must (refine Rw.wpList_loadAt rfl 53 (.tmp 8) rfl ⟨bg,0,none⟩ rfl [.slice (some ⟨ga,0,none⟩) 1 1,.slice (some ⟨gb,0,none⟩) 1 1,.int .i64 0,.int .i64 0,.bool false,.bool false,.bool false,.int .i64 0,.int .i64 0,.int .u32 0,.int .u32 0,.int .u16 0] _ hl1 Tryz.underlying53 rfl (by kernel_rfl) ?_))
            |(with_reducible refine J9 51 9 ?_;go_must (refine Rw.wpList_loadAt rfl 53 (.tmp 9) rfl ⟨bg',0,none⟩ rfl [.slice (some ⟨ga',0,none⟩) 1 1,.slice (some ⟨gb',0,none⟩) 1 1,.int .i64 0,.int .i64 0,.bool false,.bool false,.bool false,.int .i64 0,.int .i64 0,.int .u32 0,.int .u32 0,.int .u16 0] _ hl2 Tryz.underlying53 rfl (by kernel_rfl) ?_))
            |(go_at_call 24;(with_reducible refine(hsg.out).mono ?_);rintro e w10 ⟨rfl,hb10⟩))
          have hbr:=J0 (Aa0 hbq.out hb10)
          go_roundw
          case rel =>
            have h9:=hn9.out
            have e9:wrap64 ((k:Int)+1)=(k:Int)+1:=IntWalk.wrap64_in _ (by omega)
            rw[e9]
            exact⟨k+1,by omega,rfl,hbr⟩
          case measure =>
            have h9:=hn9.out
            have e9:wrap64 ((k:Int)+1)=(k:Int)+1:=IntWalk.wrap64_in _ (by omega)
            rw[e9]
            simp[intOf]
            omega
    · obtain rfl:k=n:=by omega
      have hbq:=Aa0 hbb.out hQ.out
      have hA:=hB1.on hbq
      have hC:=hB2.on hbq
      have hok:=hA.ok.fit
      have hn5:=hok.len5
      have hc5:=hok.c5
      have hg1:=Bf9 hA
      have hg2:=fun w1 (hb:Below wr.heap.size wr w1)=>Bf9 (hC.on hb)
      have hm1:=fun w1 (hb:Below wr.heap.size wr w1)=>Bj7 (hA.on hb)
      have hm2:=fun w1 (hb:Below wr.heap.size wr w1)=>Bj7 (hC.on hb)
      have hp1:=fun w1 (hb:Below wr.heap.size wr w1)=>At2 (hA.on hb)
      have hp2:=fun w1 (hb:Below wr.heap.size wr w1)=>At2 (hC.on hb)
      have hs1:=fun w1 (hb:Below wr.heap.size wr w1)=>Bt0 (hA.on hb)
      have hs2:=fun w1 (hb:Below wr.heap.size wr w1)=>Bt0 (hC.on hb)
      rw[hT] at hg2 hm2 hp2 hs2
      have hfl:=hf.out.1
      have hwid:=hok.wid
      generalize hn0:H1.T.vis.L.length=n0 at hg1 hg2 hs1 hs2 hn5
      generalize H1.T.vis.cols=n1 at hg1 hg2 hs1 hs2 hc5 hwid
      generalize H1.T.vis.L=L at hg1 hg2 hs1 hs2 hfl hwid hn0
      generalize H1.T.vis.top=n2 at hg1 hg2
      generalize H1.T.vis.bot=n3 at hg1 hg2
      generalize H1.T.c=cu at hg1 hg2 hs1 hs2
      generalize H1.T.m=m at hg1 hg2 hm1 hm2
      generalize H1.T.other.isNone=oi at hg1 hg2
      generalize H1.T.p.a=pa at hg1 hg2
      generalize H1.T.prints=pr at hp1 hp2
      obtain⟨q0,q1,q2⟩:=cu
      obtain⟨r0,r1,r2⟩:=pa
      simp only at hg1 hg2 hs1 hs2
      have hsg:Hid (∀w4 g1 c1 g2 c2 g3 c3 g4 c4 rs rs',Tld w4 n0 n1 L g1 c1 g2 c2 rs->Tld w4 n0 n1 L g3 c3 g4 c4 rs'->Calls Tryz.prog 24 #[.agg #[.slice (some ⟨g1,0,none⟩) n0 c1,.slice (some ⟨g2,0,none⟩) n0 c2,.int .i64 q0,.int .i64 q1,.bool q2,.bool (!m.a5),.bool oi,.int .i64 n2,.int .i64 n3,.int .u32 r0,.int .u32 r1,.int .u16 r2],.agg #[.slice (some ⟨g3,0,none⟩) n0 c3,.slice (some ⟨g4,0,none⟩) n0 c4,.int .i64 q0,.int .i64 q1,.bool q2,.bool (!m.a5),.bool oi,.int .i64 n2,.int .i64 n3,.int .u32 r0,.int .u32 r1,.int .u16 r2]] w4 fun e w'=>e=.returned (.bool true)/\Below w4.heap.size w4 w'):=J0 fun w4 g1 c1 g2 c2 g3 c3 g4 c4 rs rs' t1 t2 =>
        Bc1 q0 q1 q2 (!m.a5) oi n2 n3 r0 r1 r2 t1.rws t2.rws (by rw[t1.len,List.length_map,t1.llen]) (by rw[t1.got,t2.got]) hc5 (by rw[t1.len];exact hn5) (fun q hq=>by
          have h1:q.2.map (·.1)∈L.map (·.2):=by rw[<- t1.got];exact List.mem_map_of_mem hq
          obtain⟨p,hp,e⟩:=List.mem_map.1 h1
          have hl:q.2.length=p.2.length:=by rw[e];simp
          exact⟨hl.trans (hwid p hp),fun x hx=>(hfl p hp).2 _ (by rw[e];exact List.mem_map_of_mem hx)⟩)
      have hss:Hid (∀w4 g1 c1 g2 c2 g3 c3 g4 c4 rs rs',Tld w4 n0 n1 L g1 c1 g2 c2 rs->Tld w4 n0 n1 L g3 c3 g4 c4 rs'->Calls Tryz.prog 26 #[.agg #[.slice (some ⟨g2,0,none⟩) n0 c2,.int .i64 n1,.int .i64 q0,.int .i64 q1],.agg #[.slice (some ⟨g4,0,none⟩) n0 c4,.int .i64 n1,.int .i64 q0,.int .i64 q1]] w4 fun e w'=>e=.returned (.bool true)/\Below w4.heap.size w4 w'):=J0 fun w4 g1 c1 g2 c2 g3 c3 g4 c4 rs rs' t1 t2 =>
        samespot_any (ids:=fun i=>(L.getD i default).1) (fun w5 hb i hi=>by
          obtain⟨_,_,h3,_⟩:=(t1.below hb).row hi
          rw[h3]
          have hi':i<L.length:=by rw[hn0];exact hi
          simp[List.getD,hi']) (fun w5 hb i hi=>by
          obtain⟨_,_,h3,_⟩:=(t2.below hb).row hi
          rw[h3]
          have hi':i<L.length:=by rw[hn0];exact hi
          simp[List.getD,hi']) (by omega)
      have hem:=eql_m m
      have hgm:=guardq_m m
      have hpp:((pr:Int) == (pr:Int))=true:=by simp
      replace hg1:=J0 hg1
      replace hg2:=J0 hg2
      replace hm1:=J0 hm1
      replace hm2:=J0 hm2
      replace hp1:=J0 hp1
      replace hp2:=J0 hp2
      replace hs1:=J0 hs1
      replace hs2:=J0 hs2
      clear hok hA hC hfl hwid hf hst hQ hbb hB1 hB2
      go_wp2_with (first
        | (go_at_call 16
           with_reducible refine(hg1.out).mono ?_
           rintro e w3 ⟨g1,c1,g2,c2,rs,rfl,t1,hb3⟩)
        | (go_at_call 16
           with_reducible refine(hg2.out _ hb3).mono ?_
           rintro e w4 ⟨g3,c3,g4,c4,rs',rfl,t2,hb4'⟩
           have hb4:=Aa0 hb3 hb4'
           replace t1:=t1.below hb4')
        |(go_at_call 24;(with_reducible refine(hsg.out _ _ _ _ _ _ _ _ _ _ _ t1 t2).mono ?_);rintro e w5 ⟨rfl,hb5'⟩;have hb5:=Aa0 hb4 hb5')
        |(go_at_call 25;(with_reducible refine(hm1.out _ hb5).mono ?_);rintro e w6 ⟨rfl,hb6'⟩;have hb6:=Aa0 hb5 hb6')
        |(go_at_call 25;(with_reducible refine(hm2.out _ hb6).mono ?_);rintro e w7 ⟨rfl,hb7'⟩;have hb7:=Aa0 hb6 hb7')
        |(go_at_call 17;(with_reducible refine(hp1.out _ hb7).mono ?_);rintro e w8 ⟨rfl,rfl⟩)
        |(go_at_call 17;(with_reducible refine(hp2.out _ hb7).mono ?_);rintro e w8 ⟨rfl,rfl⟩)
        | (go_at_call 27
           with_reducible refine(hs1.out _ hb7).mono ?_
           rintro e w9 ⟨g5,c5,g6,c6,rs5,rfl,t5,hb9'⟩
           have hb9:=Aa0 hb7 hb9')
        | (go_at_call 27
           with_reducible refine(hs2.out _ hb9).mono ?_
           rintro e w10 ⟨g7,c7,g8,c8,rs7,rfl,t7,hb10'⟩
           have hb10:=Aa0 hb9 hb10'
           replace t5:=t5.below hb10')
        |(go_at_call 26;(with_reducible refine(hss.out _ _ _ _ _ _ _ _ _ _ _ t5 t7).mono ?_);rintro e w11 ⟨rfl,hb11'⟩;have hb11:=Aa0 hb10 hb11'))
      go_ret
      exact⟨rfl,Aa0 hbq hb11⟩
end
section
variable {Z Z' B:Zn}{W w w1 w2 w':World}{h d t:Nat}{p p':HP}{H H':Hst}{X:Tri}{T:Ter}{v sv:Value}{s b l:List Int}{ao:Option Addr}{n cp c:Nat}
theorem HB.re (hB:HB B W w h H) (hb:Below w.heap.size w w'):HB (Hos.re B w w') W w' h H:=by
 obtain⟨Z,p,hx,hs⟩:=hB
 refine⟨_,p,hx.on hb,fun k hk=>?_⟩
 rcases hk with hk|hk
 ·rcases hk with hk|hk
  ·exact .inl ⟨hs k (.inl hk.1),hk.2⟩
  ·exact .inr hk
 ·exact .inl ⟨hs k (.inr hk),(hx.lt k hk).2⟩
theorem shows_lit (B:Zn) (w:World) (e:TypeId) (fz:Nat×Nat) (k:IntKind) (l:List Int):∀wr,Hf (Hos.re B w (w.alloc (.cells (l.map (Value.int k)).toArray e fz))) (w.alloc (.cells (l.map (Value.int k)).toArray e fz)) wr->Bq8 wr k (some ⟨w.heap.size,0,none⟩) l:=fun wr hf i x hx=>by
 refine⟨_,rfl,?_⟩
 have hm:=heap_alloc_new w (.cells (l.map (Value.int k)).toArray e fz)
 have hs:(w.alloc (.cells (l.map (Value.int k)).toArray e fz)).heap.size=w.heap.size+1:=by simp
 have h2:=hf.block w.heap.size (by omega) (fun hz=>by
  rcases hz with hz|hz
  ·omega
  ·omega)
 rw[Addr.add_lit,Nat.zero_add]
 rw[cell_of_row wr w.heap.size i _ e fz (h2.trans hm)]
 simp[List.getElem?_map,hx]
structure Gh (c N P S:Nat) (H:Hst):Prop where
 tr:Tr c N 0 0 P H.tri
 sent:H.sent.length<=S
theorem Aq6 {b:List Int} (hb:Utf.Bytes b) (k:Nat):Utf.Bytes (b.take k):=fun x hx=>hb x (List.mem_of_mem_take hx)
theorem Gh.bd {N P S:Nat} (h:Gh c N P S H) (hb:Utf.Bytes b) (hn:b.length<=1000) (hN:N<=7000000000) (hP:P<=7000000):∀k,k<=b.length->Bd c (H.tri.hand (b.take k)):=fun k hk=>by
 have h1:=Tr.hand h.tr (Aq6 hb k)
 have h2:(b.take k).length<=b.length:=by simp;omega
 exact h1.mono (by omega) (by omega) (by omega) (by omega)
theorem noj_ok (h:Ok T):Ok { { T with rp:=[] } with jr:=[] }:=⟨h.fit,h.fitm,h.rows,h.cols,h.row,h.col,h.sv,h.svm,h.tn,h.alt⟩
theorem Gh.bytes {N P S:Nat} (h:Gh c N P S H) (hb:Utf.Bytes b) (hn:b.length<=1000):Gh c (N+4000000) (P+4000) (S+80000) (H.bytes b):=by
 have h1:=Tr.hand h.tr hb
 obtain⟨h2,h3,h4,h5,h6,h7,h8,h9,h10⟩:=h1
 refine⟨⟨h2,h3,⟨noj_ok h4,h5,h6,by show (H.tri.hand b).T.nx<=_;omega,J5 _,J5 _,by show (H.tri.hand b).T.prints<=_;omega⟩⟩,?_⟩
 show (H.sent++(H.tri.hand b).T.rp).length<=_
 have:=h.sent
 rw[List.length_append]
 omega
theorem Gh.mono {N P S N' P' S':Nat} (h:Gh c N P S H) (h1:N<=N') (h2:P<=P') (h3:S<=S'):Gh c N' P' S' H:=⟨h.tr.mono h1 (J5 _) (J5 _) h2,Nat.le_trans h.sent h3⟩
theorem Cq0 (r c b:Nat) (hr1:1<=r) (hr:r<=24) (hc1:1<=c) (hc5:c<=512):Gh c 100 0 0 (newH r c b):=by
 have hl:(newT r c b).vis.L.length=r:=Af2 _ _ _ _
 refine⟨⟨Utf.zero_ok,start_w,Cq9 r c b hr1 (by omega) hc1 hc5,by show (newT r c b).vis.L.length<=24;omega,J5 _,?_,J5 _,J5 _,J5 _⟩,J5 _⟩
 show 1+r<=_
 omega
theorem Bw7 (hT:Tbl w) (r c b:Int) (hno:¬(Ba3 r c/\0<=b/\b<=10000)):Calls Tryz.prog 7 #[.int .i64 r,.int .i64 c,.int .i64 b] w fun e w'=>e=.returned (.tuple #[.pointer none,.int .i64 2])/\Below w.heap.size w w':=by
 have hn:=J0 (new_not hT r c b hno)
 clear hT hno
 go_enter Tryz.func7,Tryz.ntmps7
 go_wp2_with ((go_at_call 18;(with_reducible refine(hn.out).mono ?_);rintro e w1 ⟨rfl,hb1⟩))
 go_ret2
 exact⟨rfl,hb1⟩
theorem conv_two (w:World) (a b:Int):(convert 22 22 (.slice (some ⟨w.heap.size,0,none⟩) 2 2)).run Tryz.prog (w.alloc (.cells #[.int .u8 a,.int .u8 b] 5))=.ok (.slice (some ⟨w.heap.size,0,none⟩) 2 2) (w.alloc (.cells #[.int .u8 a,.int .u8 b] 5 (2,3))) :=
 Lib.run_convert_bytes_const w 22 5 #[.int .u8 a,.int .u8 b] 2 2 Tryz.underlying22 Tryz.underlying5
theorem conv_three (w:World) (a b c:Int):(convert 22 22 (.slice (some ⟨w.heap.size,0,none⟩) 3 3)).run Tryz.prog (w.alloc (.cells #[.int .u8 a,.int .u8 b,.int .u8 c] 5))=.ok (.slice (some ⟨w.heap.size,0,none⟩) 3 3) (w.alloc (.cells #[.int .u8 a,.int .u8 b,.int .u8 c] 5 (3,4))) :=
 Lib.run_convert_bytes_const w 22 5 #[.int .u8 a,.int .u8 b,.int .u8 c] 3 3 Tryz.underlying22 Tryz.underlying5
def kb1:List Int:=[97,195]
def kb2:List Int:=[169,27,91]
def kb3:List Int:=[54,110]
def kh1:Hst:=(newH 1 4 0).bytes kb1
def kh2:Hst:=kh1.bytes kb2
def kh3:Hst:=kh2.bytes kb3
def kl:List Ln:=[(1,[⟨97,[],0,zeroAt⟩,⟨233,[],0,zeroAt⟩,⟨32,[],0,zeroAt⟩,⟨32,[],0,zeroAt⟩])]
theorem kh3_sent:kh3.sent=[27,91,49,59,51,82]:=by kernel_rfl
theorem kh3_L:kh3.T.vis.L=kl:=by kernel_rfl
theorem kh3_cols:kh3.T.vis.cols=4:=by kernel_rfl
theorem Ct9:Utf.Bytes kb1:=by unfold Utf.Bytes Utf.IsByte kb1;decide
theorem Cu0:Utf.Bytes kb2:=by unfold Utf.Bytes Utf.IsByte kb2;decide
theorem kb3_b:Utf.Bytes kb3:=by unfold Utf.Bytes Utf.IsByte kb3;decide
theorem kg0:Gh 4 100 0 0 (newH 1 4 0):=Cq0 1 4 0 (by omega) (by omega) (by omega) (by omega)
theorem kg1:Gh 4 4000100 4000 80000 kh1:=(kg0.bytes Ct9 (by decide)).mono (by omega) (by omega) (by omega)
theorem kg2:Gh 4 8000100 8000 160000 kh2:=(kg1.bytes Cu0 (by decide)).mono (by omega) (by omega) (by omega)
theorem Az3 {N P S:Nat} (hB:HB B W w h H) (g:Gh c N P S H) (hN:N<=7000000000) (hP:P<=7000000) (hS:S<=1000000000) (hb:Utf.Bytes b) (hl:b.length<=1000) (hn:b.length=n) :
  Calls Tryz.prog 8 #[.pointer (some ⟨h,0,none⟩),.slice (some ⟨w.heap.size,0,none⟩) n cp] (w.alloc (.cells (b.map (Value.int .u8)).toArray 5 (n,n+1))) fun e w'=>(∃ao c,e=.returned (.slice ao (H.told b).length c))/\HB (re B w (w.alloc (.cells (b.map (Value.int .u8)).toArray 5 (n,n+1)))) W w' h (H.bytes b) :=
 (Ba0 (hB.re (Aa1 w (.cells (b.map (Value.int .u8)).toArray 5 (n,n+1)))) (g.bd hb hl hN hP) (by have:=g.sent;omega) hb (shows_lit B w _ _ .u8 b) hn (by omega)).mono fun e w' ⟨v,he,hr,hD⟩=>by
  obtain⟨ao,c',e',_⟩:=Ab3 hr.1
  exact⟨⟨ao,c',e'▸he⟩,hD.hb⟩
theorem known_any (hT:Tbl W):Calls Tryz.prog 6 #[] W fun e w'=>e=.returned (.bool true)/\Below W.heap.size W w':=by
  have hn1:Hid (Calls Tryz.prog 7 #[.int .i64 1,.int .i64 4,.int .i64 0] W fun e w'=>∃h,e=.returned (.tuple #[.pointer (some ⟨h,0,none⟩),.int .i64 0])/\HB (fun k=>W.heap.size<=k) W w' h (newH 1 4 0)/\Below W.heap.size W w'):=J0 (Bo2 hT (Below.refl _ _) 1 4 0 (by omega) (by omega) (by omega) (by omega) (by omega))
  have hn2:=J0 (fun w1 (hb:Below W.heap.size W w1)=>Bw7 (hT.below hb) 0 4 0 (by unfold Ba3;omega))
  have hb1:=J0 (fun w1 h (hB:HB (fun k=>W.heap.size<=k) W w1 h (newH 1 4 0))=>Az3 (cp:=2) hB kg0 (by omega) (by omega) (by omega) Ct9 (by decide) (show kb1.length=2 from rfl))
  have hb2:=J0 (fun w1 h B (hB:HB B W w1 h kh1)=>Az3 (cp:=3) hB kg1 (by omega) (by omega) (by omega) Cu0 (by decide) (show kb2.length=3 from rfl))
  have hb3:=J0 (fun w1 h B (hB:HB B W w1 h kh2)=>Az3 (cp:=2) hB kg2 (by omega) (by omega) (by omega) kb3_b (by decide) (show kb3.length=2 from rfl))
  have e1:kh1=(newH 1 4 0).bytes kb1:=rfl
  have e2:kh2=kh1.bytes kb2:=rfl
  have e3:kh3=kh2.bytes kb3:=rfl
  rw[<- e1] at hb1
  rw[<- e2] at hb2
  rw[<- e3] at hb3
  clear e1 e2 e3 hT
  generalize newH 1 4 0=h0 at hn1 hb1
  simp only[kb1,kb2,kb3,List.map_cons,List.map_nil] at hb1 hb2 hb3
  have hcv2:=conv_two
  have hcv3:=conv_three
  go_enter Tryz.func6,Tryz.ntmps6
  go_upto_region 5 with (first
    |(go_at_call 7;(with_reducible refine(hn1.out).mono ?_);rintro e w1 ⟨h,rfl,hB1,hbl1⟩)
    |(go_at_call 7;(with_reducible refine(hn2.out _ hbl1).mono ?_);rintro e w2 ⟨rfl,hbl2⟩))
  have hB2:=hB1.on hbl2
  have hq1:=J0 (hb1.out _ _ hB2)
  clear hn1 hn2 hb1 hB1 hB2 hbl1 hbl2
  go_upto_region 6 with ((go_at_call 8;(with_reducible refine(hq1.out).mono ?_);rintro e w3 ⟨⟨ao3,cp3,rfl⟩,hB3⟩))
  have hq2:=J0 (hb2.out _ _ _ hB3)
  clear hq1 hB3 hb2
  go_upto_region 7 with ((go_at_call 8;(with_reducible refine(hq2.out).mono ?_);rintro e w4 ⟨⟨ao4,cp4,rfl⟩,hB4⟩))
  have hq3:=J0 (hb3.out _ _ _ hB4)
  clear hq2 hB4 hb3
  go_upto_region 8 with ((go_at_call 8;(with_reducible refine(hq3.out).mono ?_);rintro e w5 ⟨⟨ao5,cp5,rfl⟩,hB5⟩))
  clear hq3
  generalize re _ _ _=B5 at hB5
  have hgr:=Bf9 hB5
  rw[kh3_L,kh3_cols,show kl.length=1 from rfl] at hgr
  generalize kh3.T.c=cu at hgr
  generalize kh3.T.m.a5=m5 at hgr
  generalize kh3.T.other.isNone=oi at hgr
  generalize kh3.T.vis.top=n2 at hgr
  generalize kh3.T.vis.bot=n3 at hgr
  generalize kh3.T.p.a=pa at hgr
  obtain⟨q0,q1,q2⟩:=cu
  obtain⟨r0,r1,r2⟩:=pa
  simp only at hgr
  replace hgr:=J0 hgr
  go_upto_region 9 with (go_at_call 16;(with_reducible refine(hgr.out).mono ?_);rintro e w6 ⟨g1,c1,g2,c2,rs,rfl,htl,hb6⟩)
  have hB6:=(hB5.on hb6).on (Aa1 w6 (.cells #[.slice (some ⟨g1,0,none⟩) 1 c1,.slice (some ⟨g2,0,none⟩) 1 c2,.int .i64 q0,.int .i64 q1,.bool q2,.bool (!m5),.bool oi,.int .i64 n2,.int .i64 n3,.int .u32 r0,.int .u32 r1,.int .u16 r2] 53))
  have hbx:=Block.made w6 53 #[.slice (some ⟨g1,0,none⟩) 1 c1,.slice (some ⟨g2,0,none⟩) 1 c2,.int .i64 q0,.int .i64 q1,.bool q2,.bool (!m5),.bool oi,.int .i64 n2,.int .i64 n3,.int .u32 r0,.int .u32 r1,.int .u16 r2]
  have htl7:=htl.below (Aa1 w6 (.cells #[.slice (some ⟨g1,0,none⟩) 1 c1,.slice (some ⟨g2,0,none⟩) 1 c2,.int .i64 q0,.int .i64 q1,.bool q2,.bool (!m5),.bool oi,.int .i64 n2,.int .i64 n3,.int .u32 r0,.int .u32 r1,.int .u16 r2] 53))
  obtain⟨x,z1,z2,z3⟩:=htl7.row (i:=0) (by omega)
  have z4:=(z3 1 (by omega)).1
  have y0:=hbx.cell 0 (v:=.slice (some ⟨g1,0,none⟩) 1 c1) rfl
  have z5:(w6.alloc (.cells #[.slice (some ⟨g1,0,none⟩) 1 c1,.slice (some ⟨g2,0,none⟩) 1 c2,.int .i64 q0,.int .i64 q1,.bool q2,.bool (!m5),.bool oi,.int .i64 n2,.int .i64 n3,.int .u32 r0,.int .u32 r1,.int .u16 r2] 53)).cell? ⟨x,6,none⟩=some (.int .i32 233):=z4
  clear z4 z2 z3 htl htl7 hbx hgr hb6 hB5
  generalize w6.heap.size=bg at y0 |-
  generalize w6.alloc (.cells #[.slice (some ⟨g1,0,none⟩) 1 c1,.slice (some ⟨g2,0,none⟩) 1 c2,.int .i64 q0,.int .i64 q1,.bool q2,.bool (!m5),.bool oi,.int .i64 n2,.int .i64 n3,.int .u32 r0,.int .u32 r1,.int .u16 r2] 53)=w7 at hB6 z1 z5 y0 |-
  have hse:=Bg0 hB6
  rw[kh3_sent] at hse
  replace hse:=J0 hse
  have hst:strOfNums [27,91,49,59,51,82]={ data:=#[27,91,49,59,51,82] }:=by decide
  have hse2:=J0 (fun w8 B (hB:HB B W w8 h { kh3 with sent:=[] })=>Bg0 hB)
  have hpr:=J0 (fun w8 B (hB:HB B W w8 h { kh3 with sent:=[] })=>At2 hB)
  clear hB6
  go_wp2_with (first
    | (go_at_call 11
       with_reducible refine(hse.out).mono ?_
       rintro e w8 ⟨v8,rfl,hr8,hB8,-,-⟩
       obtain⟨a8,c8,rfl,_⟩:=hr8.shape
       have hcv8:(convert 22 9 (.slice a8 6 c8)).run Tryz.prog w8=.ok (.string { data:=#[27,91,49,59,51,82] }) w8:=by
         have h9:=Ar8 (hr8.lower (Nat.zero_le _))
         rw[hst] at h9
         exact h9
       clear hr8)
    | (go_at_call 11
       with_reducible refine(hse2.out _ _ hB8).mono ?_
       rintro e w9 ⟨v9,rfl,hr9,hB9,-,-⟩
       obtain⟨a9,c9,rfl,_⟩:=hr9.shape
       clear hr9)
    | (go_at_call 17
       with_reducible refine(hpr.out _ _ hB9).mono ?_
       rintro e w10 ⟨rfl,rfl⟩))
  go_ret
  exact⟨rfl,hB9.below⟩
end
