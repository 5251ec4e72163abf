/- Part 46 of HostKeys. -/
import Derived.Test.YtecnpoigegiooaaGreatDoorW45
set_option maxHeartbeats 16000000
set_option maxRecDepth 100000
namespace Go.Proofs.YtecnpoigegiooaaGreatDoor.Hos
open Go.Proofs.Tryz
open Go RowKit Com Rw Lns Emu Scn
def Aok(w:World)(ao:Option Addr)(l:List Ev):Prop:=∀k (hk:k<l.length),∃g,ao=some ⟨g,0,none⟩/\g<w.heap.size/\∀j v,(evL l[k])[j]?=some v->w.cell? ⟨g,k*10+j,none⟩=some v
section
variable {w w':World}{ao a1 a2:Option Addr}{l:List Ev}{n c c1 c2:Nat}
theorem Aok.below(h:Aok w ao l)(hb:Below w.heap.size w w'):Aok w' ao l:=fun k hk=>by
 obtain⟨g,e,hg,hc⟩:=h k hk
 exact⟨g,e,Nat.lt_of_lt_of_le hg hb.size,fun j v hv=>(World.cell?_of_block (w:=w) (hb.block _ hg)).trans (hc j v hv)⟩
theorem Cre(l:List Ev){k:Nat}(hk:k<l.length){j:Nat}{v:Value}(hv:(evL l[k])[j]?=some v):(fl evL l)[k*10+j]?=some v:=by
 have h:∀(l:List Ev) (k:Nat) (hk:k<l.length),(evL l[k])[j]?=some v->(fl evL l)[k*10+j]?=some v:=by
  intro l
  induction l with
  |nil=>intro k hk;simp at hk
  |cons a l ih =>
   intro k hk hv
   have hl:(evL a).length=10:=rfl
   rw[show a::l=[a]++l from rfl,Z9,Acq]
   rcases k with _|k
   ·have hj:j<(evL a).length:=(List.getElem?_eq_some_iff.1 hv).1
    rw[Nat.zero_mul,Nat.zero_add,List.getElem?_append_left hj]
    exact hv
   ·rw[List.getElem?_append_right (by rw[hl];omega),hl,show(k+1)*10+j-10=k*10+j by omega]
    exact ih k (by simpa using hk) (by simpa using hv)
 exact h l k hk hv
theorem Blj(h:w.ownsRow 0 73 10 (.slice ao n c) l.length (fl evL l)):n=l.length/\Aok w ao l:=by
 obtain⟨a',c',e,_,_⟩:=U0 h
 have hn:n=l.length:=by
  simp only[Value.slice.injEq]at e
  exact e.2.1
 refine⟨hn,fun k hk=>?_⟩
 obtain⟨g,cap,tail,e2,_,hb,_,_⟩:=Ahf h (by omega)
 simp only[Value.slice.injEq]at e2
 refine⟨g,e2.1,Block.lt hb,fun j v hv=>hb.cell _ ?_⟩
 have h1:=Cre l hk hv
 rw[List.getElem?_toArray,List.getElem?_append_left (List.getElem?_eq_some_iff.1 h1).1]
 exact h1
theorem Byo(h1:Aok w a1 l)(h2:Aok w a2 l)(hn:l.length=n)(hn5:n<=1000000000000):Calls prog 9 #[.slice a1 n c1,.slice a2 n c2] w fun e w'=>e=.returned (.bool true)/\Below w.heap.size w w':=by
 have k1:=J0 (fun w1 (hb:Below w.heap.size w w1)=>h1.below hb)
 have k2:=J0 (fun w1 (hb:Below w.heap.size w w1)=>h2.below hb)
 replace hn:=J0 hn
 clear h1 h2
 go_enter func9,ntmps9
 go_wp2
 go_loopw [5] (fun i wr=>∃k:Nat,k<=n/\i=.int .i64 k/\Hid (Below w.heap.size w wr)) (fun i _=>n-(intOf i).toNat)
 case atStart=>exact⟨0,Nat.zero_le _,rfl,J0 (Below.refl _ _)⟩
 case round =>
  obtain⟨k,hk,rfl,hR⟩:=hrel
  by_cases hlt:k<n
  ·have hkI:(k:Int)<(n:Int):=by omega
   have hkl:k<l.length:=by rw[hn.out];exact hlt
   obtain⟨g1,rfl,-,-⟩:=k1.out w (Below.refl _ _) k hkl
   obtain⟨g2,rfl,-,-⟩:=k2.out w (Below.refl _ _) k hkl
   have hc1:Hid (∀w1,Below w.heap.size w w1->∀j v,(evL l[k])[j]?=some v->w1.cell? ⟨g1,k*10+j,none⟩=some v):=J0 fun w1 hb=>by
    obtain⟨g,e,_,hc⟩:=k1.out w1 hb k hkl
    simp only[Option.some.injEq,Addr.mk.injEq,and_true]at e
    subst e
    exact hc
   have hc2:Hid (∀w1,Below w.heap.size w w1->∀j v,(evL l[k])[j]?=some v->w1.cell? ⟨g2,k*10+j,none⟩=some v):=J0 fun w1 hb=>by
    obtain⟨g,e,_,hc⟩:=k2.out w1 hb k hkl
    simp only[Option.some.injEq,Addr.mk.injEq,and_true]at e
    subst e
    exact hc
   clear k1 k2
   generalize l[k]=e at hc1 hc2
   have hne:=Csd e
   have hge:=Ckf e
   obtain⟨ek,eix,el,ec,ew,er,ebl,ela,efr,ewr⟩:=e
   simp only[evA]at hne hge
   have hS:Hid (∀w1,Below w.heap.size w w1->(w1.cell? ⟨g1,k*10,none⟩=some (.int .u8 ek)/\w1.cell? ⟨g1,k*10+1,none⟩=some (.int .u64 eix)/\w1.cell? ⟨g1,k*10+2,none⟩=some (.int .i64 el)/\w1.cell? ⟨g1,k*10+3,none⟩=some (.int .i64 ec)/\w1.cell? ⟨g1,k*10+4,none⟩=some (.bool ew)/\w1.cell? ⟨g1,k*10+5,none⟩=some (.int .i32 er)/\w1.cell? ⟨g1,k*10+6,none⟩=some (.bool ebl)/\w1.cell? ⟨g1,k*10+7,none⟩=some (.bool ela)/\w1.cell? ⟨g1,k*10+8,none⟩=some (.bool efr)/\w1.cell? ⟨g1,k*10+9,none⟩=some (.bool ewr)/\w1.cell? ⟨g2,k*10,none⟩=some (.int .u8 ek)/\w1.cell? ⟨g2,k*10+1,none⟩=some (.int .u64 eix)/\w1.cell? ⟨g2,k*10+2,none⟩=some (.int .i64 el)/\w1.cell? ⟨g2,k*10+3,none⟩=some (.int .i64 ec)/\w1.cell? ⟨g2,k*10+4,none⟩=some (.bool ew)/\w1.cell? ⟨g2,k*10+5,none⟩=some (.int .i32 er)/\w1.cell? ⟨g2,k*10+6,none⟩=some (.bool ebl)/\w1.cell? ⟨g2,k*10+7,none⟩=some (.bool ela)/\w1.cell? ⟨g2,k*10+8,none⟩=some (.bool efr)/\w1.cell? ⟨g2,k*10+9,none⟩=some (.bool ewr))):=J0 fun w1 hb=>⟨hc1.out w1 hb 0 _ rfl,hc1.out w1 hb 1 _ rfl,hc1.out w1 hb 2 _ rfl,hc1.out w1 hb 3 _ rfl,hc1.out w1 hb 4 _ rfl,hc1.out w1 hb 5 _ rfl,hc1.out w1 hb 6 _ rfl,hc1.out w1 hb 7 _ rfl,hc1.out w1 hb 8 _ rfl,hc1.out w1 hb 9 _ rfl,hc2.out w1 hb 0 _ rfl,hc2.out w1 hb 1 _ rfl,hc2.out w1 hb 2 _ rfl,hc2.out w1 hb 3 _ rfl,hc2.out w1 hb 4 _ rfl,hc2.out w1 hb 5 _ rfl,hc2.out w1 hb 6 _ rfl,hc2.out w1 hb 7 _ rfl,hc2.out w1 hb 8 _ rfl,hc2.out w1 hb 9 _ rfl⟩
   clear hc1 hc2
   have hdw:Below wr.heap.size wr wr.drew:=C7 (Below.refl wr.heap.size wr) 1
   have hR1:=J0 (A2 hR.out hdw)
   go_upto_region 6 with(fail)
   go_wp2_with fail
   refine wp_region_held_drew (S:=fun w'=>w'.cell? ⟨g1,k*10,none⟩=some (.int .u8 ek)/\w'.cell? ⟨g1,k*10+1,none⟩=some (.int .u64 eix)/\w'.cell? ⟨g1,k*10+2,none⟩=some (.int .i64 el)/\w'.cell? ⟨g1,k*10+3,none⟩=some (.int .i64 ec)/\w'.cell? ⟨g1,k*10+4,none⟩=some (.bool ew)/\w'.cell? ⟨g1,k*10+5,none⟩=some (.int .i32 er)/\w'.cell? ⟨g1,k*10+6,none⟩=some (.bool ebl)/\w'.cell? ⟨g1,k*10+7,none⟩=some (.bool ela)/\w'.cell? ⟨g1,k*10+8,none⟩=some (.bool efr)/\w'.cell? ⟨g1,k*10+9,none⟩=some (.bool ewr)/\w'.cell? ⟨g2,k*10,none⟩=some (.int .u8 ek)/\w'.cell? ⟨g2,k*10+1,none⟩=some (.int .u64 eix)/\w'.cell? ⟨g2,k*10+2,none⟩=some (.int .i64 el)/\w'.cell? ⟨g2,k*10+3,none⟩=some (.int .i64 ec)/\w'.cell? ⟨g2,k*10+4,none⟩=some (.bool ew)/\w'.cell? ⟨g2,k*10+5,none⟩=some (.int .i32 er)/\w'.cell? ⟨g2,k*10+6,none⟩=some (.bool ebl)/\w'.cell? ⟨g2,k*10+7,none⟩=some (.bool ela)/\w'.cell? ⟨g2,k*10+8,none⟩=some (.bool efr)/\w'.cell? ⟨g2,k*10+9,none⟩=some (.bool ewr)) (by kernel_rfl) (by exact hS.out _ hR1.out) (fun hH=>?_)
   refine K3 0 ⟨some 17,_,_,_,_,_⟩ ?_ rfl (Or.inl ⟨by rfl,?_⟩) hH ?_
   rotate_left
   ·(intro w hSw;(try dsimp only at hSw);go_simp)<;>with_reducible rfl
   try simp only[Act.put,J1,J2,J3]
   refine K3 1 ⟨some 18,_,_,_,_,_⟩ ?_ rfl (Or.inl ⟨by rfl,?_⟩) hH ?_
   rotate_left
   ·(intro w hSw;(try dsimp only at hSw);go_simp)<;>with_reducible rfl
   try simp only[Act.put,J1,J2,J3]
   refine K3 2 ⟨some 19,_,_,_,_,_⟩ ?_ rfl (Or.inl ⟨by rfl,?_⟩) hH ?_
   rotate_left
   ·(intro w hSw;(try dsimp only at hSw);go_simp)<;>with_reducible rfl
   try simp only[Act.put,J1,J2,J3]
   refine K3 3 ⟨some 20,_,_,_,_,_⟩ ?_ rfl (Or.inl ⟨by rfl,?_⟩) hH ?_
   rotate_left
   ·(intro w hSw;(try dsimp only at hSw);go_simp)<;>with_reducible rfl
   try simp only[Act.put,J1,J2,J3]
   refine K3 4 ⟨some 21,_,_,_,_,_⟩ ?_ rfl (Or.inl ⟨by rfl,?_⟩) hH ?_
   rotate_left
   ·(intro w hSw;(try dsimp only at hSw);go_simp)<;>with_reducible rfl
   try simp only[Act.put,J1,J2,J3]
   refine K3 5 ⟨some 22,_,_,_,_,_⟩ ?_ rfl (Or.inl ⟨by rfl,?_⟩) hH ?_
   rotate_left
   ·(intro w hSw;(try dsimp only at hSw);go_simp)<;>with_reducible rfl
   try simp only[Act.put,J1,J2,J3]
   refine K3 6 ⟨some 23,_,_,_,_,_⟩ ?_ rfl (Or.inl ⟨by rfl,?_⟩) hH ?_
   rotate_left
   ·(intro w hSw;(try dsimp only at hSw);go_simp)<;>with_reducible rfl
   try simp only[Act.put,J1,J2,J3]
   refine K3 7 ⟨some 24,_,_,_,_,_⟩ ?_ rfl (Or.inl ⟨by rfl,?_⟩) hH ?_
   rotate_left
   ·(intro w hSw;(try dsimp only at hSw);go_simp)<;>with_reducible rfl
   try simp only[Act.put,J1,J2,J3]
   refine K3 8 ⟨some 25,_,_,_,_,_⟩ ?_ rfl (Or.inl ⟨by rfl,?_⟩) hH ?_
   rotate_left
   ·(intro w hSw;(try dsimp only at hSw);go_simp)<;>with_reducible rfl
   try simp only[Act.put,J1,J2,J3]
   refine wpAnyH_done (by kernel_rfl) ?_ _
   clear hH hS
   go_wp2
   go_roundw
   case rel=>exact⟨k+1,by omega,by go_num,hR1⟩
   case measure=>simp[intOf];omega
  ·obtain rfl:k=n:=by omega
   clear k1 k2
   go_wp2
   go_ret
   exact⟨rfl,hR.out⟩
theorem Btr{g g':Nat}{x y z:Int}{ids:Nat->Int}(h1:∀w1,Below w.heap.size w w1->∀i,i<n->w1.cell? ⟨g,i,none⟩=some (.int .i64 (ids i)))(h2:∀w1,Below w.heap.size w w1->∀i,i<n->w1.cell? ⟨g',i,none⟩=some (.int .i64 (ids i)))(hn5:n<=1000000000000) :
  Calls prog 26 #[.agg #[.slice (some ⟨g,0,none⟩) n c1,.int .i64 x,.int .i64 y,.int .i64 z],.agg #[.slice (some ⟨g',0,none⟩) n c2,.int .i64 x,.int .i64 y,.int .i64 z]] w fun e w'=>e=.returned (.bool true)/\Below w.heap.size w w':=by
 have hb0:=A2 (A3 w (.cells #[.slice (some ⟨g,0,none⟩) n c1,.int .i64 x,.int .i64 y,.int .i64 z] 84)) (A3 (w.alloc (.cells #[.slice (some ⟨g,0,none⟩) n c1,.int .i64 x,.int .i64 y,.int .i64 z] 84)) (.cells #[.slice (some ⟨g',0,none⟩) n c2,.int .i64 x,.int .i64 y,.int .i64 z] 84))
 have hx1:=(Block.made w 84 #[.slice (some ⟨g,0,none⟩) n c1,.int .i64 x,.int .i64 y,.int .i64 z]).alloc (.cells #[.slice (some ⟨g',0,none⟩) n c2,.int .i64 x,.int .i64 y,.int .i64 z] 84)
 have hx2:=Block.made (w.alloc (.cells #[.slice (some ⟨g,0,none⟩) n c1,.int .i64 x,.int .i64 y,.int .i64 z] 84)) 84 #[.slice (some ⟨g',0,none⟩) n c2,.int .i64 x,.int .i64 y,.int .i64 z]
 rw[World.size_alloc]at hx2
 have k1:=J0 h1
 have k2:=J0 h2
 clear h1 h2
 go_enter func26,ntmps26
 go_upto_region 1 with(fail)
 generalize (w.alloc (.cells #[.slice (some ⟨g,0,none⟩) n c1,.int .i64 x,.int .i64 y,.int .i64 z] 84)).alloc (.cells #[.slice (some ⟨g',0,none⟩) n c2,.int .i64 x,.int .i64 y,.int .i64 z] 84)=w0 at hb0 hx1 hx2 |-
 obtain⟨b2,hb2⟩:∃b2,b2=w.heap.size+1:=⟨_,rfl⟩
 rw[<- hb2]at hx2 |-
 replace hb2:=J0 hb2
 obtain⟨b1,hb1⟩:∃b1,b1=w.heap.size:=⟨_,rfl⟩
 have hx1':Block w0 b1 84 #[.slice (some ⟨g,0,none⟩) n c1,.int .i64 x,.int .i64 y,.int .i64 z]:=hb1▸hx1
 clear hx1
 generalize hbe:(⟨w.heap.size,0,none⟩:Addr)=ab
 rw[<- hb1]at hbe
 subst hbe
 replace hb1:=J0 hb1
 have y0:=hx1'.cell 0 (v:=.slice (some ⟨g,0,none⟩) n c1) rfl
 have y1:=hx1'.cell 1 (v:=.int .i64 x) rfl
 have y2:=hx1'.cell 2 (v:=.int .i64 y) rfl
 have y3:=hx1'.cell 3 (v:=.int .i64 z) rfl
 have z0:=hx2.cell 0 (v:=.slice (some ⟨g',0,none⟩) n c2) rfl
 have z1:=hx2.cell 1 (v:=.int .i64 x) rfl
 have z2:=hx2.cell 2 (v:=.int .i64 y) rfl
 have z3:=hx2.cell 3 (v:=.int .i64 z) rfl
 go_upto_region 3 with(fail)
 have hS:Hid (∀w1,Below w0.heap.size w0 w1->(w1.cell? ⟨b1,0,none⟩=some (.slice (some ⟨g,0,none⟩) n c1)/\w1.cell? ⟨b2,0,none⟩=some (.slice (some ⟨g',0,none⟩) n c2))):=J0 fun w1 hb=>⟨(Block.only hx1' (A0.A1 hb []) (by simp)).cell 0 rfl,(Block.only hx2 (A0.A1 hb []) (by simp)).cell 0 rfl⟩
 have hid:Hid (∀w1,Below w0.heap.size w0 w1->∀i,i<n->w1.cell? ⟨g,i,none⟩=some (.int .i64 (ids i))/\w1.cell? ⟨g',i,none⟩=some (.int .i64 (ids i))):=J0 fun w1 hb i hi=>⟨k1.out w1 (A2 hb0 hb) i hi,k2.out w1 (A2 hb0 hb) i hi⟩
 replace hb0:=J0 hb0
 clear y0 y1 y2 y3 z0 z1 z2 z3 k1 k2 hx1' hx2
 go_wp2
 go_loopw [5] (fun i wr=>∃k:Nat,k<=n/\i=.int .i64 k/\Hid (Below w0.heap.size w0 wr)) (fun i _=>n-(intOf i).toNat)
 case atStart=>exact⟨0,Nat.zero_le _,rfl,J0 (Below.refl _ _)⟩
 case round =>
  obtain⟨k,hk,rfl,hR⟩:=hrel
  obtain⟨y0,z0⟩:=hS.out _ hR.out
  by_cases hlt:k<n
  ·have hkI:(k:Int)<(n:Int):=by omega
   have hdw:Below wr.heap.size wr wr.drew:=C7 (Below.refl wr.heap.size wr) 1
   have hR1:=J0 (A2 hR.out hdw)
   have hS2:Hid (∀w1,Below w0.heap.size w0 w1->(w1.cell? ⟨b1,0,none⟩=some (.slice (some ⟨g,0,none⟩) n c1)/\w1.cell? ⟨b2,0,none⟩=some (.slice (some ⟨g',0,none⟩) n c2)/\w1.cell? ⟨g,k,none⟩=some (.int .i64 (ids k))/\w1.cell? ⟨g',k,none⟩=some (.int .i64 (ids k)))):=J0 fun w1 hb=>by
    obtain⟨q1,q2⟩:=hS.out w1 hb
    obtain⟨q3,q4⟩:=hid.out w1 hb k hlt
    exact⟨q1,q2,q3,q4⟩
   clear hS hid
   generalize ids k=id at hS2
   have zi:(id != id)=false:=by simp
   go_upto_region 6 with(fail)
   clear y0 z0
   go_wp2_with fail
   refine wp_region_held_drew (S:=fun w'=>w'.cell? ⟨b1,0,none⟩=some (.slice (some ⟨g,0,none⟩) n c1)/\w'.cell? ⟨b2,0,none⟩=some (.slice (some ⟨g',0,none⟩) n c2)/\w'.cell? ⟨g,k,none⟩=some (.int .i64 id)/\w'.cell? ⟨g',k,none⟩=some (.int .i64 id)) (by kernel_rfl) (by exact hS2.out _ hR1.out) (fun hH=>?_)
   refine K3 0 ⟨some 41,_,_,_,_,_⟩ ?_ rfl (Or.inl ⟨by rfl,?_⟩) hH ?_
   rotate_left
   ·(intro w hSw;(try dsimp only at hSw);go_simp)<;>with_reducible rfl
   try simp only[Act.put,J1,J2,J3]
   refine K3 1 ⟨some 42,_,_,_,_,_⟩ ?_ rfl (Or.inl ⟨by rfl,?_⟩) hH ?_
   rotate_left
   ·(intro w hSw;(try dsimp only at hSw);go_simp)<;>with_reducible rfl
   try simp only[Act.put,J1,J2,J3]
   refine K3 2 ⟨some 43,_,_,_,_,_⟩ ?_ rfl (Or.inl ⟨by rfl,?_⟩) hH ?_
   rotate_left
   ·(intro w hSw;(try dsimp only at hSw);go_simp)<;>with_reducible rfl
   try simp only[Act.put,J1,J2,J3]
   refine K3 3 ⟨some 44,_,_,_,_,_⟩ ?_ rfl (Or.inl ⟨by rfl,?_⟩) hH ?_
   rotate_left
   ·(intro w hSw;(try dsimp only at hSw);go_simp)<;>with_reducible rfl
   try simp only[Act.put,J1,J2,J3]
   refine K3 4 ⟨some 45,_,_,_,_,_⟩ ?_ rfl (Or.inl ⟨by rfl,?_⟩) hH ?_
   rotate_left
   ·(intro w hSw;(try dsimp only at hSw);go_simp)<;>with_reducible rfl
   try simp only[Act.put,J1,J2,J3]
   refine K3 5 ⟨some 46,_,_,_,_,_⟩ ?_ rfl (Or.inl ⟨by rfl,?_⟩) hH ?_
   rotate_left
   ·(intro w hSw;(try dsimp only at hSw);go_simp)<;>with_reducible rfl
   try simp only[Act.put,J1,J2,J3]
   refine K3 6 ⟨some 47,_,_,_,_,_⟩ ?_ rfl (Or.inl ⟨by rfl,?_⟩) hH ?_
   rotate_left
   ·(intro w hSw;(try dsimp only at hSw);go_simp)<;>with_reducible rfl
   try simp only[Act.put,J1,J2,J3]
   refine K3 7 ⟨some 48,_,_,_,_,_⟩ ?_ rfl (Or.inl ⟨by rfl,?_⟩) hH ?_
   rotate_left
   ·(intro w hSw;(try dsimp only at hSw);go_simp)<;>with_reducible rfl
   try simp only[Act.put,J1,J2,J3]
   refine K3 8 ⟨some 49,_,_,_,_,_⟩ ?_ rfl (Or.inl ⟨by rfl,?_⟩) hH ?_
   rotate_left
   ·(intro w hSw;(try dsimp only at hSw);go_simp)<;>with_reducible rfl
   try simp only[Act.put,J1,J2,J3]
   refine K3 9 ⟨some 50,_,_,_,_,_⟩ ?_ rfl (Or.inl ⟨by rfl,?_⟩) hH ?_
   rotate_left
   ·(intro w hSw;(try dsimp only at hSw);go_simp)<;>with_reducible rfl
   try simp only[Act.put,J1,J2,J3]
   refine K3 10 ⟨some 51,_,_,_,_,_⟩ ?_ rfl (Or.inl ⟨by rfl,?_⟩) hH ?_
   rotate_left
   ·(intro w hSw;(try dsimp only at hSw);go_simp)<;>with_reducible rfl
   try simp only[Act.put,J1,J2,J3]
   refine wpAnyH_done (by kernel_rfl) ?_ _
   clear hH hS2
   go_wp2
   go_roundw
   case rel=>exact⟨k+1,by omega,by go_num,hR1⟩
   case measure=>simp[intOf];omega
  ·obtain rfl:k=n:=by omega
   clear hS hid
   go_wp2
   go_ret
   exact⟨rfl,A2 hb0.out hR.out⟩
end
end Go.Proofs.YtecnpoigegiooaaGreatDoor.Hos
namespace Go.Proofs.YtecnpoigegiooaaGreatDoor.Emu
open Go.Proofs.Tryz
open Go RowKit Com Rw Lns Scn
section
variable {W w w':World}
theorem Clg(_:Tbl W)(r c b:Int)(h:¬(Anl r c/\0<=b/\b<=10000)):Calls prog 18 #[.int .i64 r,.int .i64 c,.int .i64 b] W fun e w'=>e=.returned (.tuple #[.pointer none,.int .i64 2])/\Below W.heap.size W w':=by
 by_cases hb:0<=b/\b<=10000
 ·obtain⟨b,rfl⟩:=Int.eq_ofNat_of_zero_le hb.1
  refine Ccw r c b (by omega) ?_ W
  by_cases h1:1<=r/\r<=512
  ·exact .inr fun h2=>h ⟨⟨h1,h2⟩,hb⟩
  ·exact .inl h1
 ·exact Ccv r c b (by omega) W
end
section
variable {W w w':World}
theorem Ajl{a:Option Addr}{n c:Nat}{l:List Int}(h:Kys.Row w 0 5 (.slice a n c) l):(convert 22 9 (.slice a n c)).run prog w=.ok (.string (strOfNums l)) w:=by
 obtain⟨a',c',e,_,_,hn⟩:=h.shape
 rw[e]
 exact Kys.Cmy hn c'
theorem Adu{w:World}{a:Addr}{v:Value}(h:w.cell? a=some v)(o:Obj):(w.alloc o).cell? a=some v:=(World.cell?_alloc_lt _ _ _ (World.block_lt_of_cell? _ _ h)).trans h
end
end Go.Proofs.YtecnpoigegiooaaGreatDoor.Emu
namespace Go.Proofs.YtecnpoigegiooaaGreatDoor.Hos
open Go.Proofs.Tryz
open Go RowKit Com Rw Lns Emu Scn
section
variable {Z Z' B B1 B2:Zn}{W w w1 w2 w':World}{h h2 d t x s:Nat}{p p':HP}{H H1 H2:Hst}{X:Tri}{T:Ter}{P:Pt}{S:Scr}
def Abb(L:List Ln):Prop:=∀p∈L,p.2.length<=512/\∀c∈p.2,c.m.length<=4
theorem Aup{B:Nat}{L:List En}(h:∀e∈L,O4 B w e):Abb (vw L):=fun p hp=>by
 obtain⟨e,he,rfl⟩:=List.mem_map.1 hp
 obtain⟨hg,_,_,n,cap,tail,hr⟩:=h e he
 exact⟨by have:=hr.len;have:=hr.small;show e.l.length<=512;omega,fun c hc=>(hg.cell c hc).four⟩
theorem Cma(h:SC Z w x s S):Abb S.L/\Abb S.R:=by
 obtain⟨sv,lv,L,R,h1,h2,h3⟩:=h
 exact⟨by rw[<- h2];exact Aup h1.rows,by rw[<- h3];exact Aup h1.ln.st.2⟩
theorem Cii(h:TMx Z w t T P):Abb T.vis.L/\Abb T.R:=by
 have hs:=h.scr
 unfold Y0 at hs
 split at hs
 ·exact Cma hs
 ·obtain⟨sv,R,l1,L1,l2,L2,h1,e1,eR,_⟩:=hs
  exact⟨by rw[<- e1];exact Aup h1.rows,by
   have h3:Abb (vw R):=Aup h1.ln.st.2
   rw[eR]at h3
   exact h3⟩
theorem Ckq(hB:HB B W w h H):Abb H.T.vis.L/\Abb H.T.R:=by
 obtain⟨Z,p,hx,_⟩:=hB
 obtain⟨P,hP⟩:=hx.tz.tv.tm
 exact Cii hP
theorem Ab8(w:World)(o1 o2 o3:Array Value)(t1 t2 t3:TypeId):Block ((((w.alloc (.cells o1 t1)).alloc (.cells o2 t2)).alloc (.cells o3 t3)).drew) w.heap.size t1 o1/\Block ((((w.alloc (.cells o1 t1)).alloc (.cells o2 t2)).alloc (.cells o3 t3)).drew) (w.heap.size+1) t2 o2/\Block ((((w.alloc (.cells o1 t1)).alloc (.cells o2 t2)).alloc (.cells o3 t3)).drew) (w.heap.size+1+1) t3 o3/\Below w.heap.size w ((((w.alloc (.cells o1 t1)).alloc (.cells o2 t2)).alloc (.cells o3 t3)).drew):=by
 have b1:=A3 w (.cells o1 t1)
 have b2:=A3 (w.alloc (.cells o1 t1)) (.cells o2 t2)
 have b3:=A3 ((w.alloc (.cells o1 t1)).alloc (.cells o2 t2)) (.cells o3 t3)
 have bd:Below (((w.alloc (.cells o1 t1)).alloc (.cells o2 t2)).alloc (.cells o3 t3)).heap.size (((w.alloc (.cells o1 t1)).alloc (.cells o2 t2)).alloc (.cells o3 t3)) ((((w.alloc (.cells o1 t1)).alloc (.cells o2 t2)).alloc (.cells o3 t3)).drew):=C7 (Below.refl _ _) 1
 have m1:=Block.made w t1 o1
 have m2:=Block.made (w.alloc (.cells o1 t1)) t2 o2
 have m3:=Block.made ((w.alloc (.cells o1 t1)).alloc (.cells o2 t2)) t3 o3
 rw[World.size_alloc]at m2
 rw[World.size_alloc,World.size_alloc]at m3
 exact⟨Block.only m1 (A0.A1 (A2 (A2 b2 b3) bd) []) (by simp),Block.only m2 (A0.A1 (A2 b3 bd) []) (by simp),Block.only m3 (A0.A1 bd []) (by simp),A2 (A2 (A2 b1 b2) b3) bd⟩
theorem Bfi{w:World}{g n k:Nat}{e:TypeId}{cs:List Value}(h:Block w g e cs.toArray)(hs:cs.length=n*k)(hm:n<=maxLen):w.ownsRow 0 e k (.slice (some ⟨g,0,none⟩) n n) n cs :=
 ⟨hs,.inr ⟨g,n,cs.toArray,rfl,Nat.zero_le _,h,J5 _,hm,by simpa using hs,by simp[<- hs]⟩⟩
structure Mk(w w':World)(bg ga gb x n:Nat)(id:Int):Prop where
 below:Below w.heap.size w w'
 box:Block w' bg 53 #[.slice (some ⟨ga,0,none⟩) 1 1,.slice (some ⟨gb,0,none⟩) 1 1,.int .i64 0,.int .i64 0,.bool false,.bool false,.bool false,.int .i64 0,.int .i64 0,.int .u32 0,.int .u32 0,.int .u16 0]
 cs:Block w' ga 55 #[.slice (some ⟨x,0,none⟩) n n]
 ids:Block w' gb 3 #[.int .i64 id]
theorem Mk.on{w w1 w2:World}{bg ga gb x n:Nat}{id:Int}(h:Mk w w1 bg ga gb x n id)(hb:Below w1.heap.size w1 w2):Mk w w2 bg ga gb x n id:=⟨A2 h.below hb,Block.only h.box (A0.A1 hb []) (by simp),Block.only h.cs (A0.A1 hb []) (by simp),Block.only h.ids (A0.A1 hb []) (by simp)⟩
theorem Mk.rws{w w1:World}{bg ga gb x n:Nat}{id:Int}{ps:List (Cel×Value)}{B:Nat}(h:Mk w w1 bg ga gb x n id)(ha:Api B w1 (.slice (some ⟨x,0,none⟩) n n) ps):Rws 0 w1 n (.slice (some ⟨ga,0,none⟩) 1 1) (.slice (some ⟨gb,0,none⟩) 1 1) [(x,ps)] [id] :=
 ⟨Bfi (n:=1) (k:=1) (cs:=[.slice (some ⟨x,0,none⟩) n n]) h.cs rfl (by simp[maxLen]),Bfi (n:=1) (k:=1) (cs:=[.int .i64 id]) h.ids rfl (by simp[maxLen]),fun p hp=>by
  obtain rfl:=List.mem_singleton.1 hp
  exact ha.lower (Nat.zero_le _)⟩
theorem Cjb{w2:World}{ba ba2:Option Addr}{n bc bc2 k:Nat}{R:List Ln}{hs1 hs2:List Abv}(hst:∀w1,Below w2.heap.size w2 w1->Bld w1 (.slice ba n bc) n R hs1/\Bld w1 (.slice ba2 n bc2) n R hs2)(hk:k<R.length) :
  ∃g g' x x' ps ps',ba=some ⟨g,0,none⟩/\ba2=some ⟨g',0,none⟩/\List.map (·.1) ps=(R[k]).2/\List.map (·.1) ps'=(R[k]).2/\∀w1,Below w2.heap.size w2 w1->w1.cell? ⟨g,k*2,none⟩=some (.int .i64 (R[k]).1)/\w1.cell? ⟨g,k*2+1,none⟩=some (.slice (some ⟨x,0,none⟩) (R[k]).2.length (R[k]).2.length) /\
   w1.cell? ⟨g',k*2,none⟩=some (.int .i64 (R[k]).1)/\w1.cell? ⟨g',k*2+1,none⟩=some (.slice (some ⟨x',0,none⟩) (R[k]).2.length (R[k]).2.length)/\(∃B,Api B w1 (.slice (some ⟨x,0,none⟩) (R[k]).2.length (R[k]).2.length) ps)/\(∃B,Api B w1 (.slice (some ⟨x',0,none⟩) (R[k]).2.length (R[k]).2.length) ps'):=by
 have one:∀ {ba:Option Addr} {bc:Nat} {hs:List Abv},(∀w1,Below w2.heap.size w2 w1->Bld w1 (.slice ba n bc) n R hs)->∃g x ps,ba=some ⟨g,0,none⟩/\List.map (·.1) ps=(R[k]).2/\∀w1,Below w2.heap.size w2 w1->w1.cell? ⟨g,k*2,none⟩=some (.int .i64 (R[k]).1)/\w1.cell? ⟨g,k*2+1,none⟩=some (.slice (some ⟨x,0,none⟩) (R[k]).2.length (R[k]).2.length)/\∃B,Api B w1 (.slice (some ⟨x,0,none⟩) (R[k]).2.length (R[k]).2.length) ps:=fun {ba bc hs} h=>by
  have h0:=h w2 (Below.refl _ _)
  have hl:hs.length=R.length:=by rw[<- h0.got,List.length_map]
  have hk':k<hs.length:=by omega
  have e1:Aox hs[k]=R[k]:=by
   have:=congrArg (·[k]?) h0.got
   simp only[List.getElem?_map,List.getElem?_eq_getElem hk',List.getElem?_eq_getElem hk,Option.map_some,Option.some.injEq]at this
   exact this
  have e2:(hs[k]).2.2.map (·.1)=(R[k]).2:=congrArg Prod.snd e1
  have e3:(hs[k]).1=(R[k]).1:=congrArg Prod.fst e1
  have e4:(hs[k]).2.2.length=(R[k]).2.length:=by rw[<- e2];simp
  obtain⟨B0,hB0⟩:=h0.back
  obtain⟨g,c,e,_⟩:=hB0.at (i:=k) hk'
  simp only[Value.slice.injEq]at e
  refine⟨g,(hs[k]).2.1,(hs[k]).2.2,e.1,e2,fun w1 hb=>?_⟩
  obtain⟨B1,hB1⟩:=(h w1 hb).back
  obtain⟨g1,c1,e',_,_,x0,x1⟩:=hB1.at (i:=k) hk'
  simp only[Value.slice.injEq,e.1,Option.some.injEq,Addr.mk.injEq,and_true]at e'
  obtain⟨rfl,_⟩:=e'
  have ha:=hB1.Aff _ (List.getElem_mem hk')
  rw[e4]at ha
  rw[e3]at x0
  rw[e4]at x1
  exact⟨x0,x1,B1,ha⟩
 obtain⟨g,x,ps,h1,h2,h3⟩:=one fun w1 hb=>(hst w1 hb).1
 obtain⟨g',x',ps',h4,h5,h6⟩:=one fun w1 hb=>(hst w1 hb).2
 exact⟨g,g',x,x',ps,ps',h1,h4,h2,h5,fun w1 hb=>⟨(h3 w1 hb).1,(h3 w1 hb).2.1,(h6 w1 hb).1,(h6 w1 hb).2.1,(h3 w1 hb).2.2,(h6 w1 hb).2.2⟩⟩
theorem Cbd(hB1:HB B1 W w h H1)(hB2:HB B2 W w h2 H2)(hT:H2.T=H1.T):Calls prog 10 #[.pointer (some ⟨h,0,none⟩),.pointer (some ⟨h2,0,none⟩)] w fun e w'=>e=.returned (.bool true)/\Below w.heap.size w w':=by
  have hf:=Ckq hB1
  have Aoo:=Bhx hB1
  have Asg:=J0 (fun w1 (hb:Below w.heap.size w w1)=>Bhx (hB2.on hb))
  rw[hT]at Asg
  generalize hR:H1.T.R=R at Aoo Asg hf
  generalize hn:R.length=n at Aoo Asg
  replace Aoo:=J0 Aoo
  replace hR:=J0 hR
  replace hn:=J0 hn
  go_enter func10,ntmps10
  go_upto_region 2 with (first
    | (go_at_call 23
       with_reducible refine(Aoo.out).mono ?_
       rintro e w1 ⟨ba,bc,hs1,rfl,hB1',hl1,hb1⟩
       replace hB1':=J0 hB1')
    | (go_at_call 23
       with_reducible refine(Asg.out _ hb1).mono ?_
       rintro e w2 ⟨ba2,bc2,hs2,rfl,hB2',hl2,hb2⟩
       replace hB2':=J0 hB2'))
  go_upto_region 4 with(fail)
  have hbb:=A2 hb1 hb2
  replace hB1':=hB1'.out.below hb2
  have hst:Hid (∀w1,Below w2.heap.size w2 w1->Bld w1 (.slice ba n bc) n R hs1/\Bld w1 (.slice ba2 n bc2) n R hs2):=J0 fun w1 hb=>⟨hB1'.below hb,hB2'.out.below hb⟩
  clear hB1' hB2' Aoo Asg hb1 hb2
  replace hbb:=J0 hbb
  replace hf:=J0 hf
  have hn9:Hid (n<=9223372036854775807):=J0 (by have:=hl1;unfold maxLen at this;omega)
  go_wp2
  go_loopw [21] (fun i wr=>∃k:Nat,k<=n/\i=.int .i64 k/\Hid (Below w2.heap.size w2 wr)) (fun i _=>n-(intOf i).toNat)
  case atStart=>exact⟨0,Nat.zero_le _,rfl,J0 (Below.refl _ _)⟩
  case round =>
    obtain⟨k,hk,rfl,hQ⟩:=hrel
    by_cases hlt:k<n
    · have hkI:(k:Int)<(n:Int):=by omega
      have hkR:k<R.length:=by rw[hn.out];exact hlt
      have hq:=Cjb hst.out hkR
      obtain⟨g,g',x,x',ps,ps',rfl,rfl,hp1,hp2,hce⟩:=hq
      obtain⟨hf1,hf2⟩:=hf.out.2 _ (List.getElem_mem hkR)
      have Ass:ps.length=(R[k]).2.length:=by rw[<- hp1];simp
      have Axt:ps'.length=(R[k]).2.length:=by rw[<- hp2];simp
      have hf3:∀q∈ps,q.1.m.length<=4:=fun q hq=>hf2 _ (by rw[<- hp1];exact List.mem_map_of_mem hq)
      generalize R[k]=ln at hce hp1 hp2 hf1 hf2 Ass Axt
      obtain⟨id,cl⟩:=ln
      simp only at hce hp1 hp2 hf1 hf2 Ass Axt
      generalize hcl:cl.length=nc at hce hf1 Ass Axt
      have Axn:=J0 (fun w1 hb=>hce w1 (A2 hQ.out hb))
      have C3:Hid (∀w3 w4 bg ga gb bg' ga' gb',Mk wr w3 bg ga gb x nc id->Mk w3 w4 bg' ga' gb' x' nc id->Calls prog 24 #[.agg #[.slice (some ⟨ga,0,none⟩) 1 1,.slice (some ⟨gb,0,none⟩) 1 1,.int .i64 0,.int .i64 0,.bool false,.bool false,.bool false,.int .i64 0,.int .i64 0,.int .u32 0,.int .u32 0,.int .u16 0],.agg #[.slice (some ⟨ga',0,none⟩) 1 1,.slice (some ⟨gb',0,none⟩) 1 1,.int .i64 0,.int .i64 0,.bool false,.bool false,.bool false,.int .i64 0,.int .i64 0,.int .u32 0,.int .u32 0,.int .u16 0]] w4 fun e w'=>e=.returned (.bool true)/\Below w4.heap.size w4 w'):=J0 fun w3 w4 bg ga gb bg' ga' gb' m1 m2=>by
        have m1':=m1.on m2.below
        obtain⟨_,_,_,_,⟨B3,a1⟩,⟨B4,a2⟩⟩:=Axn.out w4 (A2 m1.below m2.below)
        exact Bfj (cols:=nc) 0 0 false false false 0 0 0 0 0 (m1'.rws a1) (m2.rws a2) rfl (by simp[hp1,hp2]) hf1 (by simp) (fun q hq=>by
          obtain rfl:=List.mem_singleton.1 hq
          exact⟨Ass,hf3⟩)
      obtain⟨x0,x1,-,-,-,-⟩:=Axn.out wr (Below.refl _ _)
      clear hst hce hf hp1 hp2 hf1 hf2 hf3 Ass Axt hcl
      have x0a:=fun o=>Adu x0 o
      have x0b:=fun o o'=>Adu (Adu x0 o) o'
      have x1a:=fun o=>Adu x1 o
      have x1b:=fun o o'=>Adu (Adu x1 o) o'
      go_upto_region 7 with(fail)
      go_cut [8]from 24 to 36 (fun s8 wx=>∃bg ga gb,s8=.pointer (some ⟨bg,0,none⟩)/\Hid (Mk wr wx bg ga gb x nc id))
      case first =>
        go_wp2
        go_region
        all_goals
          go_wp2_with fail
          go_meet
          obtain⟨q1,q2,q3,q4⟩:=Ab8 wr _ _ _ _ _ _
          first|exact⟨_,_,_,rfl,J0 ⟨q4,q3,q1,q2⟩⟩|exact⟨_,_,_,rfl,J0 ⟨q4,q2,q1,q3⟩⟩|exact⟨_,_,_,rfl,J0 ⟨q4,q3,q2,q1⟩⟩|exact⟨_,_,_,rfl,J0 ⟨q4,q2,q3,q1⟩⟩|exact⟨_,_,_,rfl,J0 ⟨q4,q1,q2,q3⟩⟩|exact⟨_,_,_,rfl,J0 ⟨q4,q1,q3,q2⟩⟩
      case rest =>
        obtain⟨bg,ga,gb,rfl,hM⟩:=hcut
        clear x0 x1 x0a x0b x1a x1b
        obtain⟨-,-,y0,y1,-,-⟩:=Axn.out wc hM.out.below
        have y0a:=fun o=>Adu y0 o
        have y0b:=fun o o'=>Adu (Adu y0 o) o'
        have y1a:=fun o=>Adu y1 o
        have y1b:=fun o o'=>Adu (Adu y1 o) o'
        go_upto_region 8 with(fail)
        generalize wc=w8 at hM y0 y1 y0a y0b y1a y1b |-
        go_cut [9]from 37 to 49 (fun s9 wx=>∃bg' ga' gb',s9=.pointer (some ⟨bg',0,none⟩)/\Hid (Mk w8 wx bg' ga' gb' x' nc id))
        case first =>
          go_wp2
          go_region
          all_goals
            go_wp2_with fail
            go_meet
            obtain⟨q1,q2,q3,q4⟩:=Ab8 w8 _ _ _ _ _ _
            first|exact⟨_,_,_,rfl,J0 ⟨q4,q3,q1,q2⟩⟩|exact⟨_,_,_,rfl,J0 ⟨q4,q2,q1,q3⟩⟩|exact⟨_,_,_,rfl,J0 ⟨q4,q3,q2,q1⟩⟩|exact⟨_,_,_,rfl,J0 ⟨q4,q2,q3,q1⟩⟩|exact⟨_,_,_,rfl,J0 ⟨q4,q1,q2,q3⟩⟩|exact⟨_,_,_,rfl,J0 ⟨q4,q1,q3,q2⟩⟩
        case rest =>
          obtain⟨bg',ga',gb',rfl,hM2⟩:=hcut
          clear y0 y1 y0a y0b y1a y1b
          have hsg:=J0 (C3.out _ _ _ _ _ _ _ _ hM.out hM2.out)
          have hl1:∀j v,([.slice (some ⟨ga,0,none⟩) 1 1,.slice (some ⟨gb,0,none⟩) 1 1,.int .i64 0,.int .i64 0,.bool false,.bool false,.bool false,.int .i64 0,.int .i64 0,.int .u32 0,.int .u32 0,.int .u16 0]:List Value)[j]?=some v->wc.cell? ((⟨bg,0,none⟩:Addr).add j)=some v:=fun j v hv=>by
            rw[Addr.add_lit,Nat.zero_add]
            exact(hM.out.on hM2.out.below).box.cell j (by simpa using hv)
          have hl2:∀j v,([.slice (some ⟨ga',0,none⟩) 1 1,.slice (some ⟨gb',0,none⟩) 1 1,.int .i64 0,.int .i64 0,.bool false,.bool false,.bool false,.int .i64 0,.int .i64 0,.int .u32 0,.int .u32 0,.int .u16 0]:List Value)[j]?=some v->wc.cell? ((⟨bg',0,none⟩:Addr).add j)=some v:=fun j v hv=>by
            rw[Addr.add_lit,Nat.zero_add]
            exact hM2.out.box.cell j (by simpa using hv)
          have hbq:=J0 (A2 hQ.out (A2 hM.out.below hM2.out.below))
          clear C3 hM hM2 Axn
          go_wp2_with (first
            |(with_reducible refine J9 50 8 ?_;go_must(refine Rw.Aix rfl 53 (.tmp 8) rfl ⟨bg,0,none⟩ rfl [.slice (some ⟨ga,0,none⟩) 1 1,.slice (some ⟨gb,0,none⟩) 1 1,.int .i64 0,.int .i64 0,.bool false,.bool false,.bool false,.int .i64 0,.int .i64 0,.int .u32 0,.int .u32 0,.int .u16 0] _ hl1 underlying53 rfl (by kernel_rfl) ?_))
            |(with_reducible refine J9 51 9 ?_;go_must(refine Rw.Aix rfl 53 (.tmp 9) rfl ⟨bg',0,none⟩ rfl [.slice (some ⟨ga',0,none⟩) 1 1,.slice (some ⟨gb',0,none⟩) 1 1,.int .i64 0,.int .i64 0,.bool false,.bool false,.bool false,.int .i64 0,.int .i64 0,.int .u32 0,.int .u32 0,.int .u16 0] _ hl2 underlying53 rfl (by kernel_rfl) ?_))
            |(go_at_call 24;(with_reducible refine(hsg.out).mono ?_);rintro e w10 ⟨rfl,Bdu⟩))
          have hbr:=J0 (A2 hbq.out Bdu)
          go_roundw
          case rel =>
            have h9:=hn9.out
            have e9:wrap64 ((k:Int)+1)=(k:Int)+1:=IntWalk.wrap64_in _ (by omega)
            rw[e9]
            exact⟨k+1,by omega,rfl,hbr⟩
          case measure =>
            have h9:=hn9.out
            have e9:wrap64 ((k:Int)+1)=(k:Int)+1:=IntWalk.wrap64_in _ (by omega)
            rw[e9]
            simp[intOf]
            omega
    · obtain rfl:k=n:=by omega
      have hbq:=A2 hbb.out hQ.out
      have hA:=hB1.on hbq
      have hC:=hB2.on hbq
      have hok:=hA.ok.fit
      have hn5:=hok.G8
      have hc5:=hok.c5
      have hg1:=Azx hA
      have hg2:=fun w1 (hb:Below wr.heap.size wr w1)=>Azx (hC.on hb)
      have hm1:=fun w1 (hb:Below wr.heap.size wr w1)=>Bgi (hA.on hb)
      have hm2:=fun w1 (hb:Below wr.heap.size wr w1)=>Bgi (hC.on hb)
      have hp1:=fun w1 (hb:Below wr.heap.size wr w1)=>Ayn (hA.on hb)
      have hp2:=fun w1 (hb:Below wr.heap.size wr w1)=>Ayn (hC.on hb)
      have hs1:=fun w1 (hb:Below wr.heap.size wr w1)=>Bhy (hA.on hb)
      have hs2:=fun w1 (hb:Below wr.heap.size wr w1)=>Bhy (hC.on hb)
      rw[hT]at hg2 hm2 hp2 hs2
      have hfl:=hf.out.1
      have Axw:=hok.wid
      generalize hn0:H1.T.vis.L.length=n0 at hg1 hg2 hs1 hs2 hn5
      generalize H1.T.vis.cols=n1 at hg1 hg2 hs1 hs2 hc5 Axw
      generalize H1.T.vis.L=L at hg1 hg2 hs1 hs2 hfl Axw hn0
      generalize H1.T.vis.top=n2 at hg1 hg2
      generalize H1.T.vis.bot=n3 at hg1 hg2
      generalize H1.T.c=cu at hg1 hg2 hs1 hs2
      generalize H1.T.m=m at hg1 hg2 hm1 hm2
      generalize H1.T.other.isNone=oi at hg1 hg2
      generalize H1.T.p.a=pa at hg1 hg2
      generalize H1.T.C5=pr at hp1 hp2
      obtain⟨q0,q1,q2⟩:=cu
      obtain⟨r0,r1,r2⟩:=pa
      simp only at hg1 hg2 hs1 hs2
      have hsg:Hid (∀w4 g1 c1 g2 c2 g3 c3 g4 c4 rs rs',Tld w4 n0 n1 L g1 c1 g2 c2 rs->Tld w4 n0 n1 L g3 c3 g4 c4 rs'->Calls prog 24 #[.agg #[.slice (some ⟨g1,0,none⟩) n0 c1,.slice (some ⟨g2,0,none⟩) n0 c2,.int .i64 q0,.int .i64 q1,.bool q2,.bool (!m.a5),.bool oi,.int .i64 n2,.int .i64 n3,.int .u32 r0,.int .u32 r1,.int .u16 r2],.agg #[.slice (some ⟨g3,0,none⟩) n0 c3,.slice (some ⟨g4,0,none⟩) n0 c4,.int .i64 q0,.int .i64 q1,.bool q2,.bool (!m.a5),.bool oi,.int .i64 n2,.int .i64 n3,.int .u32 r0,.int .u32 r1,.int .u16 r2]] w4 fun e w'=>e=.returned (.bool true)/\Below w4.heap.size w4 w'):=J0 fun w4 g1 c1 g2 c2 g3 c3 g4 c4 rs rs' t1 t2 =>
        Bfj q0 q1 q2 (!m.a5) oi n2 n3 r0 r1 r2 t1.rws t2.rws (by rw[t1.len,List.length_map,t1.Aei]) (by rw[t1.got,t2.got]) hc5 (by rw[t1.len];exact hn5) (fun q hq=>by
          have h1:q.2.map (·.1)∈L.map (·.2):=by rw[<- t1.got];exact List.mem_map_of_mem hq
          obtain⟨p,hp,e⟩:=List.mem_map.1 h1
          have hl:q.2.length=p.2.length:=by rw[e];simp
          exact⟨hl.trans (Axw p hp),fun x hx=>(hfl p hp).2 _ (by rw[e];exact List.mem_map_of_mem hx)⟩)
      have hss:Hid (∀w4 g1 c1 g2 c2 g3 c3 g4 c4 rs rs',Tld w4 n0 n1 L g1 c1 g2 c2 rs->Tld w4 n0 n1 L g3 c3 g4 c4 rs'->Calls prog 26 #[.agg #[.slice (some ⟨g2,0,none⟩) n0 c2,.int .i64 n1,.int .i64 q0,.int .i64 q1],.agg #[.slice (some ⟨g4,0,none⟩) n0 c4,.int .i64 n1,.int .i64 q0,.int .i64 q1]] w4 fun e w'=>e=.returned (.bool true)/\Below w4.heap.size w4 w'):=J0 fun w4 g1 c1 g2 c2 g3 c3 g4 c4 rs rs' t1 t2 =>
        Btr (ids:=fun i=>(L.getD i default).1) (fun w5 hb i hi=>by
          obtain⟨_,_,h3,_⟩:=(t1.below hb).row hi
          rw[h3]
          have hi':i<L.length:=by rw[hn0];exact hi
          simp[List.getD,hi']) (fun w5 hb i hi=>by
          obtain⟨_,_,h3,_⟩:=(t2.below hb).row hi
          rw[h3]
          have hi':i<L.length:=by rw[hn0];exact hi
          simp[List.getD,hi']) (by omega)
      have hem:=Crc m
      have hgm:=Cfa m
      have hpp:((pr:Int)==(pr:Int))=true:=by simp
      replace hg1:=J0 hg1
      replace hg2:=J0 hg2
      replace hm1:=J0 hm1
      replace hm2:=J0 hm2
      replace hp1:=J0 hp1
      replace hp2:=J0 hp2
      replace hs1:=J0 hs1
      replace hs2:=J0 hs2
      clear hok hA hC hfl Axw hf hst hQ hbb hB1 hB2
      go_wp2_with (first
        | (go_at_call 16
           with_reducible refine(hg1.out).mono ?_
           rintro e w3 ⟨g1,c1,g2,c2,rs,rfl,t1,hb3⟩)
        | (go_at_call 16
           with_reducible refine(hg2.out _ hb3).mono ?_
           rintro e w4 ⟨g3,c3,g4,c4,rs',rfl,t2,hb4'⟩
           have hb4:=A2 hb3 hb4'
           replace t1:=t1.below hb4')
        |(go_at_call 24;(with_reducible refine(hsg.out _ _ _ _ _ _ _ _ _ _ _ t1 t2).mono ?_);rintro e w5 ⟨rfl,hb5'⟩;have hb5:=A2 hb4 hb5')
        |(go_at_call 25;(with_reducible refine(hm1.out _ hb5).mono ?_);rintro e w6 ⟨rfl,hb6'⟩;have hb6:=A2 hb5 hb6')
        |(go_at_call 25;(with_reducible refine(hm2.out _ hb6).mono ?_);rintro e w7 ⟨rfl,hb7'⟩;have hb7:=A2 hb6 hb7')
        |(go_at_call 17;(with_reducible refine(hp1.out _ hb7).mono ?_);rintro e w8 ⟨rfl,rfl⟩)
        |(go_at_call 17;(with_reducible refine(hp2.out _ hb7).mono ?_);rintro e w8 ⟨rfl,rfl⟩)
        | (go_at_call 27
           with_reducible refine(hs1.out _ hb7).mono ?_
           rintro e w9 ⟨g5,c5,g6,c6,rs5,rfl,t5,hb9'⟩
           have hb9:=A2 hb7 hb9')
        | (go_at_call 27
           with_reducible refine(hs2.out _ hb9).mono ?_
           rintro e w10 ⟨g7,c7,g8,c8,rs7,rfl,t7,hb10'⟩
           have Bdu:=A2 hb9 hb10'
           replace t5:=t5.below hb10')
        |(go_at_call 26;(with_reducible refine(hss.out _ _ _ _ _ _ _ _ _ _ _ t5 t7).mono ?_);rintro e w11 ⟨rfl,hb11'⟩;have Ctk:=A2 Bdu hb11'))
      go_ret
      exact⟨rfl,A2 hbq Ctk⟩
end
