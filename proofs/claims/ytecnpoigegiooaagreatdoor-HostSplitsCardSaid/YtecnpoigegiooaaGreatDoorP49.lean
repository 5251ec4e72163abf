/- Part 49 of HostSplits. -/
import Derived.Test.YtecnpoigegiooaaGreatDoorP48
set_option maxHeartbeats 16000000
set_option maxRecDepth 100000
namespace Go.Proofs.YtecnpoigegiooaaGreatDoor.Hos
open Go RowKit Com Rw Lns Emu Scn
def EvAt (w:World) (ao:Option Addr) (l:List Ev):Prop:=∀k (hk:k<l.length),∃g,ao=some ⟨g,0,none⟩/\g<w.heap.size/\∀j v,(evL l[k])[j]?=some v->w.cell? ⟨g,k*10+j,none⟩=some v
section
variable {w w':World}{ao a1 a2:Option Addr}{l:List Ev}{n c c1 c2:Nat}
theorem EvAt.below (h:EvAt w ao l) (hb:Below w.heap.size w w'):EvAt w' ao l:=fun k hk=>by
 obtain⟨g,e,hg,hc⟩:=h k hk
 exact⟨g,e,Nat.lt_of_lt_of_le hg hb.size,fun j v hv=>(World.cell?_of_block (w:=w) (hb.block _ hg)).trans (hc j v hv)⟩
theorem fl_ev (l:List Ev) {k:Nat} (hk:k<l.length) {j:Nat} {v:Value} (hv:(evL l[k])[j]?=some v):(fl evL l)[k*10+j]?=some v:=by
 have h:∀(l:List Ev) (k:Nat) (hk:k<l.length),(evL l[k])[j]?=some v->(fl evL l)[k*10+j]?=some v:=by
  intro l
  induction l with
  |nil=>intro k hk;simp at hk
  |cons a l ih =>
   intro k hk hv
   have hl:(evL a).length=10:=rfl
   rw[show a::l=[a]++l from rfl,fl_app,fl_one]
   rcases k with _|k
   ·have hj:j<(evL a).length:=(List.getElem?_eq_some_iff.1 hv).1
    rw[Nat.zero_mul,Nat.zero_add,List.getElem?_append_left hj]
    exact hv
   ·rw[List.getElem?_append_right (by rw[hl];omega),hl,show (k+1)*10+j - 10=k*10+j by omega]
    exact ih k (by simpa using hk) (by simpa using hv)
 exact h l k hk hv
theorem Ch5 (h:w.ownsRow 0 73 10 (.slice ao n c) l.length (fl evL l)):n=l.length/\EvAt w ao l:=by
 obtain⟨a',c',e,_,_⟩:=Ab3 h
 have hn:n=l.length:=by
  simp only[Value.slice.injEq] at e
  exact e.2.1
 refine⟨hn,fun k hk=>?_⟩
 obtain⟨g,cap,tail,e2,_,hb,_,_⟩:=Ah6 h (by omega)
 simp only[Value.slice.injEq] at e2
 refine⟨g,e2.1,Block.lt hb,fun j v hv=>hb.cell _ ?_⟩
 have h1:=fl_ev l hk hv
 rw[List.getElem?_toArray,List.getElem?_append_left (List.getElem?_eq_some_iff.1 h1).1]
 exact h1
theorem sameev_any (h1:EvAt w a1 l) (h2:EvAt w a2 l) (hn:l.length=n) (hn5:n<=1000000000000):Calls Tryz.prog 9 #[.slice a1 n c1,.slice a2 n c2] w fun e w'=>e=.returned (.bool true)/\Below w.heap.size w w':=by
 have k1:=J0 (fun w1 (hb:Below w.heap.size w w1)=>h1.below hb)
 have k2:=J0 (fun w1 (hb:Below w.heap.size w w1)=>h2.below hb)
 replace hn:=J0 hn
 clear h1 h2
 go_enter Tryz.func9,Tryz.ntmps9
 go_wp2
 go_loopw [5] (fun i wr=>∃k:Nat,k<=n/\i=.int .i64 k/\Hid (Below w.heap.size w wr)) (fun i _=>n - (intOf i).toNat)
 case atStart=>exact⟨0,Nat.zero_le _,rfl,J0 (Below.refl _ _)⟩
 case round =>
  obtain⟨k,hk,rfl,hR⟩:=hrel
  by_cases hlt:k<n
  ·have hkI:(k:Int)<(n:Int):=by omega
   have hkl:k<l.length:=by rw[hn.out];exact hlt
   obtain⟨g1,rfl,-,-⟩:=k1.out w (Below.refl _ _) k hkl
   obtain⟨g2,rfl,-,-⟩:=k2.out w (Below.refl _ _) k hkl
   have hc1:Hid (∀w1,Below w.heap.size w w1->∀j v,(evL l[k])[j]?=some v->w1.cell? ⟨g1,k*10+j,none⟩=some v):=J0 fun w1 hb=>by
    obtain⟨g,e,_,hc⟩:=k1.out w1 hb k hkl
    simp only[Option.some.injEq,Addr.mk.injEq,and_true] at e
    subst e
    exact hc
   have hc2:Hid (∀w1,Below w.heap.size w w1->∀j v,(evL l[k])[j]?=some v->w1.cell? ⟨g2,k*10+j,none⟩=some v):=J0 fun w1 hb=>by
    obtain⟨g,e,_,hc⟩:=k2.out w1 hb k hkl
    simp only[Option.some.injEq,Addr.mk.injEq,and_true] at e
    subst e
    exact hc
   clear k1 k2
   generalize l[k]=e at hc1 hc2
   have hne:=neq_e e
   have hge:=guard_e e
   obtain⟨ek,eix,el,ec,ew,er,ebl,ela,efr,ewr⟩:=e
   simp only[evA] at hne hge
   have hS:Hid (∀w1,Below w.heap.size w w1->(w1.cell? ⟨g1,k*10,none⟩=some (.int .u8 ek)/\w1.cell? ⟨g1,k*10+1,none⟩=some (.int .u64 eix)/\w1.cell? ⟨g1,k*10+2,none⟩=some (.int .i64 el)/\w1.cell? ⟨g1,k*10+3,none⟩=some (.int .i64 ec)/\w1.cell? ⟨g1,k*10+4,none⟩=some (.bool ew)/\w1.cell? ⟨g1,k*10+5,none⟩=some (.int .i32 er)/\w1.cell? ⟨g1,k*10+6,none⟩=some (.bool ebl)/\w1.cell? ⟨g1,k*10+7,none⟩=some (.bool ela)/\w1.cell? ⟨g1,k*10+8,none⟩=some (.bool efr)/\w1.cell? ⟨g1,k*10+9,none⟩=some (.bool ewr)/\w1.cell? ⟨g2,k*10,none⟩=some (.int .u8 ek)/\w1.cell? ⟨g2,k*10+1,none⟩=some (.int .u64 eix)/\w1.cell? ⟨g2,k*10+2,none⟩=some (.int .i64 el)/\w1.cell? ⟨g2,k*10+3,none⟩=some (.int .i64 ec)/\w1.cell? ⟨g2,k*10+4,none⟩=some (.bool ew)/\w1.cell? ⟨g2,k*10+5,none⟩=some (.int .i32 er)/\w1.cell? ⟨g2,k*10+6,none⟩=some (.bool ebl)/\w1.cell? ⟨g2,k*10+7,none⟩=some (.bool ela)/\w1.cell? ⟨g2,k*10+8,none⟩=some (.bool efr)/\w1.cell? ⟨g2,k*10+9,none⟩=some (.bool ewr))):=J0 fun w1 hb=>⟨hc1.out w1 hb 0 _ rfl,hc1.out w1 hb 1 _ rfl,hc1.out w1 hb 2 _ rfl,hc1.out w1 hb 3 _ rfl,hc1.out w1 hb 4 _ rfl,hc1.out w1 hb 5 _ rfl,hc1.out w1 hb 6 _ rfl,hc1.out w1 hb 7 _ rfl,hc1.out w1 hb 8 _ rfl,hc1.out w1 hb 9 _ rfl,hc2.out w1 hb 0 _ rfl,hc2.out w1 hb 1 _ rfl,hc2.out w1 hb 2 _ rfl,hc2.out w1 hb 3 _ rfl,hc2.out w1 hb 4 _ rfl,hc2.out w1 hb 5 _ rfl,hc2.out w1 hb 6 _ rfl,hc2.out w1 hb 7 _ rfl,hc2.out w1 hb 8 _ rfl,hc2.out w1 hb 9 _ rfl⟩
   clear hc1 hc2
   have hdw:Below wr.heap.size wr wr.drew:=Aa4 (Below.refl wr.heap.size wr) 1
   have hR1:=J0 (Aa0 hR.out hdw)
   go_upto_region 6 with (fail)
   go_wp2_with fail
   refine wp_region_held_drew (S:=fun w'=>w'.cell? ⟨g1,k*10,none⟩=some (.int .u8 ek)/\w'.cell? ⟨g1,k*10+1,none⟩=some (.int .u64 eix)/\w'.cell? ⟨g1,k*10+2,none⟩=some (.int .i64 el)/\w'.cell? ⟨g1,k*10+3,none⟩=some (.int .i64 ec)/\w'.cell? ⟨g1,k*10+4,none⟩=some (.bool ew)/\w'.cell? ⟨g1,k*10+5,none⟩=some (.int .i32 er)/\w'.cell? ⟨g1,k*10+6,none⟩=some (.bool ebl)/\w'.cell? ⟨g1,k*10+7,none⟩=some (.bool ela)/\w'.cell? ⟨g1,k*10+8,none⟩=some (.bool efr)/\w'.cell? ⟨g1,k*10+9,none⟩=some (.bool ewr)/\w'.cell? ⟨g2,k*10,none⟩=some (.int .u8 ek)/\w'.cell? ⟨g2,k*10+1,none⟩=some (.int .u64 eix)/\w'.cell? ⟨g2,k*10+2,none⟩=some (.int .i64 el)/\w'.cell? ⟨g2,k*10+3,none⟩=some (.int .i64 ec)/\w'.cell? ⟨g2,k*10+4,none⟩=some (.bool ew)/\w'.cell? ⟨g2,k*10+5,none⟩=some (.int .i32 er)/\w'.cell? ⟨g2,k*10+6,none⟩=some (.bool ebl)/\w'.cell? ⟨g2,k*10+7,none⟩=some (.bool ela)/\w'.cell? ⟨g2,k*10+8,none⟩=some (.bool efr)/\w'.cell? ⟨g2,k*10+9,none⟩=some (.bool ewr)) (by kernel_rfl) (by exact hS.out _ hR1.out) (fun hH=>?_)
   refine K3 0 ⟨some 17,_,_,_,_,_⟩ ?_ rfl (Or.inl ⟨by rfl,?_⟩) hH ?_
   rotate_left 1
   ·(intro w hSw;(try dsimp only at hSw);go_simp)<;>with_reducible rfl
   try simp only[Act.put,J1,J2,J3]
   refine K3 1 ⟨some 18,_,_,_,_,_⟩ ?_ rfl (Or.inl ⟨by rfl,?_⟩) hH ?_
   rotate_left 1
   ·(intro w hSw;(try dsimp only at hSw);go_simp)<;>with_reducible rfl
   try simp only[Act.put,J1,J2,J3]
   refine K3 2 ⟨some 19,_,_,_,_,_⟩ ?_ rfl (Or.inl ⟨by rfl,?_⟩) hH ?_
   rotate_left 1
   ·(intro w hSw;(try dsimp only at hSw);go_simp)<;>with_reducible rfl
   try simp only[Act.put,J1,J2,J3]
   refine K3 3 ⟨some 20,_,_,_,_,_⟩ ?_ rfl (Or.inl ⟨by rfl,?_⟩) hH ?_
   rotate_left 1
   ·(intro w hSw;(try dsimp only at hSw);go_simp)<;>with_reducible rfl
   try simp only[Act.put,J1,J2,J3]
   refine K3 4 ⟨some 21,_,_,_,_,_⟩ ?_ rfl (Or.inl ⟨by rfl,?_⟩) hH ?_
   rotate_left 1
   ·(intro w hSw;(try dsimp only at hSw);go_simp)<;>with_reducible rfl
   try simp only[Act.put,J1,J2,J3]
   refine K3 5 ⟨some 22,_,_,_,_,_⟩ ?_ rfl (Or.inl ⟨by rfl,?_⟩) hH ?_
   rotate_left 1
   ·(intro w hSw;(try dsimp only at hSw);go_simp)<;>with_reducible rfl
   try simp only[Act.put,J1,J2,J3]
   refine K3 6 ⟨some 23,_,_,_,_,_⟩ ?_ rfl (Or.inl ⟨by rfl,?_⟩) hH ?_
   rotate_left 1
   ·(intro w hSw;(try dsimp only at hSw);go_simp)<;>with_reducible rfl
   try simp only[Act.put,J1,J2,J3]
   refine K3 7 ⟨some 24,_,_,_,_,_⟩ ?_ rfl (Or.inl ⟨by rfl,?_⟩) hH ?_
   rotate_left 1
   ·(intro w hSw;(try dsimp only at hSw);go_simp)<;>with_reducible rfl
   try simp only[Act.put,J1,J2,J3]
   refine K3 8 ⟨some 25,_,_,_,_,_⟩ ?_ rfl (Or.inl ⟨by rfl,?_⟩) hH ?_
   rotate_left 1
   ·(intro w hSw;(try dsimp only at hSw);go_simp)<;>with_reducible rfl
   try simp only[Act.put,J1,J2,J3]
   refine wpAnyH_done (by kernel_rfl) ?_ _
   clear hH hS
   go_wp2
   go_roundw
   case rel=>exact⟨k+1,by omega,by go_num,hR1⟩
   case measure=>simp[intOf];omega
  ·obtain rfl:k=n:=by omega
   clear k1 k2
   go_wp2
   go_ret
   exact⟨rfl,hR.out⟩
theorem samespot_any {g g':Nat} {x y z:Int} {ids:Nat->Int} (h1:∀w1,Below w.heap.size w w1->∀i,i<n->w1.cell? ⟨g,i,none⟩=some (.int .i64 (ids i))) (h2:∀w1,Below w.heap.size w w1->∀i,i<n->w1.cell? ⟨g',i,none⟩=some (.int .i64 (ids i))) (hn5:n<=1000000000000) :
  Calls Tryz.prog 26 #[.agg #[.slice (some ⟨g,0,none⟩) n c1,.int .i64 x,.int .i64 y,.int .i64 z],.agg #[.slice (some ⟨g',0,none⟩) n c2,.int .i64 x,.int .i64 y,.int .i64 z]] w fun e w'=>e=.returned (.bool true)/\Below w.heap.size w w':=by
 have hb0:=Aa0 (Aa1 w (.cells #[.slice (some ⟨g,0,none⟩) n c1,.int .i64 x,.int .i64 y,.int .i64 z] 84)) (Aa1 (w.alloc (.cells #[.slice (some ⟨g,0,none⟩) n c1,.int .i64 x,.int .i64 y,.int .i64 z] 84)) (.cells #[.slice (some ⟨g',0,none⟩) n c2,.int .i64 x,.int .i64 y,.int .i64 z] 84))
 have hx1:=(Block.made w 84 #[.slice (some ⟨g,0,none⟩) n c1,.int .i64 x,.int .i64 y,.int .i64 z]).alloc (.cells #[.slice (some ⟨g',0,none⟩) n c2,.int .i64 x,.int .i64 y,.int .i64 z] 84)
 have hx2:=Block.made (w.alloc (.cells #[.slice (some ⟨g,0,none⟩) n c1,.int .i64 x,.int .i64 y,.int .i64 z] 84)) 84 #[.slice (some ⟨g',0,none⟩) n c2,.int .i64 x,.int .i64 y,.int .i64 z]
 rw[World.size_alloc] at hx2
 have k1:=J0 h1
 have k2:=J0 h2
 clear h1 h2
 go_enter Tryz.func26,Tryz.ntmps26
 go_upto_region 1 with (fail)
 generalize (w.alloc (.cells #[.slice (some ⟨g,0,none⟩) n c1,.int .i64 x,.int .i64 y,.int .i64 z] 84)).alloc (.cells #[.slice (some ⟨g',0,none⟩) n c2,.int .i64 x,.int .i64 y,.int .i64 z] 84)=w0 at hb0 hx1 hx2 |-
 obtain⟨b2,hb2⟩:∃b2,b2=w.heap.size+1:=⟨_,rfl⟩
 rw[<- hb2] at hx2 |-
 replace hb2:=J0 hb2
 obtain⟨b1,hb1⟩:∃b1,b1=w.heap.size:=⟨_,rfl⟩
 have hx1':Block w0 b1 84 #[.slice (some ⟨g,0,none⟩) n c1,.int .i64 x,.int .i64 y,.int .i64 z]:=hb1▸hx1
 clear hx1
 generalize hbe:(⟨w.heap.size,0,none⟩:Addr)=ab
 rw[<- hb1] at hbe
 subst hbe
 replace hb1:=J0 hb1
 have y0:=hx1'.cell 0 (v:=.slice (some ⟨g,0,none⟩) n c1) rfl
 have y1:=hx1'.cell 1 (v:=.int .i64 x) rfl
 have y2:=hx1'.cell 2 (v:=.int .i64 y) rfl
 have y3:=hx1'.cell 3 (v:=.int .i64 z) rfl
 have z0:=hx2.cell 0 (v:=.slice (some ⟨g',0,none⟩) n c2) rfl
 have z1:=hx2.cell 1 (v:=.int .i64 x) rfl
 have z2:=hx2.cell 2 (v:=.int .i64 y) rfl
 have z3:=hx2.cell 3 (v:=.int .i64 z) rfl
 go_upto_region 3 with (fail)
 have hS:Hid (∀w1,Below w0.heap.size w0 w1->(w1.cell? ⟨b1,0,none⟩=some (.slice (some ⟨g,0,none⟩) n c1)/\w1.cell? ⟨b2,0,none⟩=some (.slice (some ⟨g',0,none⟩) n c2))):=J0 fun w1 hb=>⟨(Block.only hx1' (Only.of_below hb []) (by simp)).cell 0 rfl,(Block.only hx2 (Only.of_below hb []) (by simp)).cell 0 rfl⟩
 have hid:Hid (∀w1,Below w0.heap.size w0 w1->∀i,i<n->w1.cell? ⟨g,i,none⟩=some (.int .i64 (ids i))/\w1.cell? ⟨g',i,none⟩=some (.int .i64 (ids i))):=J0 fun w1 hb i hi=>⟨k1.out w1 (Aa0 hb0 hb) i hi,k2.out w1 (Aa0 hb0 hb) i hi⟩
 replace hb0:=J0 hb0
 clear y0 y1 y2 y3 z0 z1 z2 z3 k1 k2 hx1' hx2
 go_wp2
 go_loopw [5] (fun i wr=>∃k:Nat,k<=n/\i=.int .i64 k/\Hid (Below w0.heap.size w0 wr)) (fun i _=>n - (intOf i).toNat)
 case atStart=>exact⟨0,Nat.zero_le _,rfl,J0 (Below.refl _ _)⟩
 case round =>
  obtain⟨k,hk,rfl,hR⟩:=hrel
  obtain⟨y0,z0⟩:=hS.out _ hR.out
  by_cases hlt:k<n
  ·have hkI:(k:Int)<(n:Int):=by omega
   have hdw:Below wr.heap.size wr wr.drew:=Aa4 (Below.refl wr.heap.size wr) 1
   have hR1:=J0 (Aa0 hR.out hdw)
   have hS2:Hid (∀w1,Below w0.heap.size w0 w1->(w1.cell? ⟨b1,0,none⟩=some (.slice (some ⟨g,0,none⟩) n c1)/\w1.cell? ⟨b2,0,none⟩=some (.slice (some ⟨g',0,none⟩) n c2)/\w1.cell? ⟨g,k,none⟩=some (.int .i64 (ids k))/\w1.cell? ⟨g',k,none⟩=some (.int .i64 (ids k)))):=J0 fun w1 hb=>by
    obtain⟨q1,q2⟩:=hS.out w1 hb
    obtain⟨q3,q4⟩:=hid.out w1 hb k hlt
    exact⟨q1,q2,q3,q4⟩
   clear hS hid
   generalize ids k=id at hS2
   have zi:(id != id)=false:=by simp
   go_upto_region 6 with (fail)
   clear y0 z0
   go_wp2_with fail
   refine wp_region_held_drew (S:=fun w'=>w'.cell? ⟨b1,0,none⟩=some (.slice (some ⟨g,0,none⟩) n c1)/\w'.cell? ⟨b2,0,none⟩=some (.slice (some ⟨g',0,none⟩) n c2)/\w'.cell? ⟨g,k,none⟩=some (.int .i64 id)/\w'.cell? ⟨g',k,none⟩=some (.int .i64 id)) (by kernel_rfl) (by exact hS2.out _ hR1.out) (fun hH=>?_)
   refine K3 0 ⟨some 41,_,_,_,_,_⟩ ?_ rfl (Or.inl ⟨by rfl,?_⟩) hH ?_
   rotate_left 1
   ·(intro w hSw;(try dsimp only at hSw);go_simp)<;>with_reducible rfl
   try simp only[Act.put,J1,J2,J3]
   refine K3 1 ⟨some 42,_,_,_,_,_⟩ ?_ rfl (Or.inl ⟨by rfl,?_⟩) hH ?_
   rotate_left 1
   ·(intro w hSw;(try dsimp only at hSw);go_simp)<;>with_reducible rfl
   try simp only[Act.put,J1,J2,J3]
   refine K3 2 ⟨some 43,_,_,_,_,_⟩ ?_ rfl (Or.inl ⟨by rfl,?_⟩) hH ?_
   rotate_left 1
   ·(intro w hSw;(try dsimp only at hSw);go_simp)<;>with_reducible rfl
   try simp only[Act.put,J1,J2,J3]
   refine K3 3 ⟨some 44,_,_,_,_,_⟩ ?_ rfl (Or.inl ⟨by rfl,?_⟩) hH ?_
   rotate_left 1
   ·(intro w hSw;(try dsimp only at hSw);go_simp)<;>with_reducible rfl
   try simp only[Act.put,J1,J2,J3]
   refine K3 4 ⟨some 45,_,_,_,_,_⟩ ?_ rfl (Or.inl ⟨by rfl,?_⟩) hH ?_
   rotate_left 1
   ·(intro w hSw;(try dsimp only at hSw);go_simp)<;>with_reducible rfl
   try simp only[Act.put,J1,J2,J3]
   refine K3 5 ⟨some 46,_,_,_,_,_⟩ ?_ rfl (Or.inl ⟨by rfl,?_⟩) hH ?_
   rotate_left 1
   ·(intro w hSw;(try dsimp only at hSw);go_simp)<;>with_reducible rfl
   try simp only[Act.put,J1,J2,J3]
   refine K3 6 ⟨some 47,_,_,_,_,_⟩ ?_ rfl (Or.inl ⟨by rfl,?_⟩) hH ?_
   rotate_left 1
   ·(intro w hSw;(try dsimp only at hSw);go_simp)<;>with_reducible rfl
   try simp only[Act.put,J1,J2,J3]
   refine K3 7 ⟨some 48,_,_,_,_,_⟩ ?_ rfl (Or.inl ⟨by rfl,?_⟩) hH ?_
   rotate_left 1
   ·(intro w hSw;(try dsimp only at hSw);go_simp)<;>with_reducible rfl
   try simp only[Act.put,J1,J2,J3]
   refine K3 8 ⟨some 49,_,_,_,_,_⟩ ?_ rfl (Or.inl ⟨by rfl,?_⟩) hH ?_
   rotate_left 1
   ·(intro w hSw;(try dsimp only at hSw);go_simp)<;>with_reducible rfl
   try simp only[Act.put,J1,J2,J3]
   refine K3 9 ⟨some 50,_,_,_,_,_⟩ ?_ rfl (Or.inl ⟨by rfl,?_⟩) hH ?_
   rotate_left 1
   ·(intro w hSw;(try dsimp only at hSw);go_simp)<;>with_reducible rfl
   try simp only[Act.put,J1,J2,J3]
   refine K3 10 ⟨some 51,_,_,_,_,_⟩ ?_ rfl (Or.inl ⟨by rfl,?_⟩) hH ?_
   rotate_left 1
   ·(intro w hSw;(try dsimp only at hSw);go_simp)<;>with_reducible rfl
   try simp only[Act.put,J1,J2,J3]
   refine wpAnyH_done (by kernel_rfl) ?_ _
   clear hH hS2
   go_wp2
   go_roundw
   case rel=>exact⟨k+1,by omega,by go_num,hR1⟩
   case measure=>simp[intOf];omega
  ·obtain rfl:k=n:=by omega
   clear hS hid
   go_wp2
   go_ret
   exact⟨rfl,Aa0 hb0.out hR.out⟩
end
end Go.Proofs.YtecnpoigegiooaaGreatDoor.Hos
namespace Go.Proofs.YtecnpoigegiooaaGreatDoor.Emu
open Go RowKit Com Rw Lns Scn
section
variable {W w w':World}
theorem new_not (_:Tbl W) (r c b:Int) (h:¬(Ba3 r c/\0<=b/\b<=10000)):Calls Tryz.prog 18 #[.int .i64 r,.int .i64 c,.int .i64 b] W fun e w'=>e=.returned (.tuple #[.pointer none,.int .i64 2])/\Below W.heap.size W w':=by
 by_cases hb:0<=b/\b<=10000
 ·obtain⟨b,rfl⟩:=Int.eq_ofNat_of_zero_le hb.1
  refine tnew_size r c b (by omega) ?_ W
  by_cases h1:1<=r/\r<=512
  ·exact .inr fun h2=>h ⟨⟨h1,h2⟩,hb⟩
  ·exact .inl h1
 ·exact tnew_back r c b (by omega) W
end
section
variable {W w w':World}
theorem Ar8 {a:Option Addr} {n c:Nat} {l:List Int} (h:Kys.Row w 0 5 (.slice a n c) l):(convert 22 9 (.slice a n c)).run Tryz.prog w=.ok (.string (strOfNums l)) w:=by
 obtain⟨a',c',e,_,_,hn⟩:=h.shape
 rw[e]
 exact Kys.text_of hn c'
theorem Aj2 {w:World} {a:Addr} {v:Value} (h:w.cell? a=some v) (o:Obj):(w.alloc o).cell? a=some v:=(World.cell?_alloc_lt _ _ _ (World.block_lt_of_cell? _ _ h)).trans h
end
