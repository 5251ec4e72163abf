/- Part 46 of HostSplits. -/
import Derived.Test.YtecnpoigegiooaaGreatDoorP45
import Derived.Deep.Slices
set_option maxHeartbeats 16000000
set_option maxRecDepth 100000
namespace Go.Proofs.YtecnpoigegiooaaGreatDoor.Emu
open Go RowKit Com Rw Lns Scn
section
variable {B B':Nat}{w w':World}{cols:Nat}{cv iv cv' iv':Value}{rs rs':List TRow}{ids:List Int}
theorem fl_hdr (cols:Nat) (rs:List TRow):fl (hdr cols) rs=rs.map fun p=>.slice (some ⟨p.1,0,none⟩) cols cols:=by
 induction rs with
 |nil=>rfl
 |cons a l ih=>rw[show a::l=[a]++l from rfl,fl_app,fl_one,ih];rfl
theorem Rws.cv_at (h:Rws B w cols cv iv rs ids) {i:Nat} (hi:i<rs.length):∃g c,cv=.slice (some ⟨g,0,none⟩) rs.length c/\rs.length<=c/\c<=maxLen/\w.cell? ⟨g,i,none⟩=some (.slice (some ⟨rs[i].1,0,none⟩) cols cols):=by
 obtain⟨g,c,tail,rfl,_,hb,h1,h2⟩:=Ah6 h.rows (by omega)
 refine⟨g,c,rfl,h1,h2,hb.cell i ?_⟩
 rw[List.getElem?_toArray,List.getElem?_append_left (by rw[fl_hdr];simpa using hi),fl_hdr,List.getElem?_map,List.getElem?_eq_getElem hi]
 rfl
theorem Rws.iv_at (h:Rws B w cols cv iv rs ids) {i:Nat} (hi:i<ids.length):∃g c,iv=.slice (some ⟨g,0,none⟩) ids.length c/\ids.length<=c/\c<=maxLen/\w.cell? ⟨g,i,none⟩=some (.int .i64 ids[i]):=by
 obtain⟨g,c,tail,rfl,_,hb,h1,h2⟩:=Ah6 (show w.ownsRow B 3 1 iv ids.length (ids.map (Value.int .i64)) from h.ids) (by omega)
 refine⟨g,c,rfl,h1,h2,hb.cell i ?_⟩
 rw[List.getElem?_toArray,List.getElem?_append_left (by simpa using hi),List.getElem?_map,List.getElem?_eq_getElem hi]
 rfl
def Cs6 (r c:Int) (p h m:Bool) (tp bt f b g:Int):List Value:=[.int .i64 r,.int .i64 c,.bool p,.bool h,.bool m,.int .i64 tp,.int .i64 bt,.int .u32 f,.int .u32 b,.int .u16 g]
theorem Bc1 (r c:Int) (p h m:Bool) (tp bt f b g:Int) (h1:Rws B w cols cv iv rs ids) (h2:Rws B' w cols cv' iv' rs' ids) (hl:rs.length=ids.length) (hc:rs'.map (fun p=>p.2.map (·.1))=rs.map (fun p=>p.2.map (·.1))) (h5:cols<=512) (hn:rs.length<=512) (h4:∀q∈rs,q.2.length=cols/\∀x∈q.2,x.1.m.length<=4) :
  Calls Tryz.prog 24 #[.agg (Ak0 cv iv (Cs6 r c p h m tp bt f b g)),.agg (Ak0 cv' iv' (Cs6 r c p h m tp bt f b g))] w fun e w'=>e=.returned (.bool true)/\Below w.heap.size w w':=by
 have hl':rs'.length=ids.length:=by have:=congrArg List.length hc;simpa[hl] using this
 have hk1:=fun w1 (hb:Below w.heap.size w w1)=>h1.below hb
 have hk2:=fun w1 (hb:Below w.heap.size w w1)=>h2.below hb
 obtain⟨a1,c1,rfl,_,_⟩:=Ab3 h1.rows
 obtain⟨a2,c2,rfl,_,_⟩:=h1.ids.shape
 obtain⟨a3,c3,rfl,_,_⟩:=Ab3 h2.rows
 obtain⟨a4,c4,rfl,_,_⟩:=h2.ids.shape
 have hsame:Hid (∀w1,Below w.heap.size w w1->∀i,i<ids.length->∃g1 g2 x y,a1=some ⟨g1,0,none⟩/\a2=some ⟨g2,0,none⟩/\(∃g3 g4 x' y',a3=some ⟨g3,0,none⟩/\a4=some ⟨g4,0,none⟩ /\
   (∀w2,Below w.heap.size w w2->w2.cell? ⟨g1,i,none⟩=some (.slice (some ⟨x,0,none⟩) cols cols)/\w2.cell? ⟨g2,i,none⟩=some (.int .i64 y)/\w2.cell? ⟨g3,i,none⟩=some (.slice (some ⟨x',0,none⟩) cols cols)/\w2.cell? ⟨g4,i,none⟩=some (.int .i64 y'))/\y'=y /\
   (∀w2,Below w.heap.size w w2->Calls Tryz.prog 41 #[.slice (some ⟨x,0,none⟩) cols cols,.slice (some ⟨x',0,none⟩) cols cols] w2 fun e w'=>e=.returned (.bool true)/\Below w2.heap.size w2 w'))):=J0 fun w1 hb i hi=>by
  have hi1:i<rs.length:=by omega
  have hi2:i<rs'.length:=by omega
  obtain⟨g1,q1,e1,_,_,_⟩:=h1.cv_at hi1
  obtain⟨g2,q2,e2,_,_,_⟩:=h1.iv_at hi
  obtain⟨g3,q3,e3,_,_,_⟩:=h2.cv_at hi2
  obtain⟨g4,q4,e4,_,_,_⟩:=h2.iv_at hi
  simp only[Value.slice.injEq] at e1 e2 e3 e4
  refine⟨g1,g2,rs[i].1,ids[i],e1.1,e2.1,g3,g4,rs'[i].1,ids[i],e3.1,e4.1,fun w2 hb2=>?_,rfl,fun w2 hb2=>?_⟩
  ·obtain⟨g1',q1',e1',_,_,x1⟩:=(hk1 w2 hb2).cv_at hi1
   obtain⟨g2',q2',e2',_,_,x2⟩:=(hk1 w2 hb2).iv_at hi
   obtain⟨g3',q3',e3',_,_,x3⟩:=(hk2 w2 hb2).cv_at hi2
   obtain⟨g4',q4',e4',_,_,x4⟩:=(hk2 w2 hb2).iv_at hi
   simp only[Value.slice.injEq,e1.1,e2.1,e3.1,e4.1,Option.some.injEq,Addr.mk.injEq] at e1' e2' e3' e4'
   rw[<- e1'.1.1] at x1
   rw[<- e2'.1.1] at x2
   rw[<- e3'.1.1] at x3
   rw[<- e4'.1.1] at x4
   exact⟨x1,x2,x3,x4⟩
  ·have hm:=List.getElem_mem hi1
   refine same_any ((hk1 w2 hb2).apis _ hm) ((hk2 w2 hb2).apis _ (List.getElem_mem hi2)) (h4 _ hm).1 ?_ h5 (h4 _ hm).2
   have e:=congrArg (·[i]?) hc
   simp only[List.getElem?_map,List.getElem?_eq_getElem hi1,List.getElem?_eq_getElem hi2,Option.map_some,Option.some.injEq] at e
   exact e
 have hn5:ids.length<=512:=by omega
 rw[hl,hl'] at *
 generalize ids.length=n at *
 clear h1 h2 hk1 hk2 hc h4 h5 hn hl hl'
 simp only[Ak0,Cs6]
 have z1:(r != r)=false:=by simp
 have z2:(c != c)=false:=by simp
 have z3:(p != p)=false:=by simp
 have z4:(h != h)=false:=by simp
 have z5:(m != m)=false:=by simp
 have z6:(tp != tp)=false:=by simp
 have z7:(bt != bt)=false:=by simp
 have z8:((n:Int) != (n:Int))=false:=by simp
 have z9:(f != f)=false:=by simp
 have za:(b != b)=false:=by simp
 have zb:(g != g)=false:=by simp
 go_enter Tryz.func24,Tryz.ntmps24
 go_wp2
 have hb0:=Aa0 (Aa1 w (.cells #[.slice a1 n c1,.slice a2 n c2,.int .i64 r,.int .i64 c,.bool p,.bool h,.bool m,.int .i64 tp,.int .i64 bt,.int .u32 f,.int .u32 b,.int .u16 g] 53)) (Aa1 _ (.cells #[.slice a3 n c3,.slice a4 n c4,.int .i64 r,.int .i64 c,.bool p,.bool h,.bool m,.int .i64 tp,.int .i64 bt,.int .u32 f,.int .u32 b,.int .u16 g] 53))
 have hx1:=Block.only (Block.made w 53 #[.slice a1 n c1,.slice a2 n c2,.int .i64 r,.int .i64 c,.bool p,.bool h,.bool m,.int .i64 tp,.int .i64 bt,.int .u32 f,.int .u32 b,.int .u16 g]) (Only.of_below (Aa1 _ (.cells #[.slice a3 n c3,.slice a4 n c4,.int .i64 r,.int .i64 c,.bool p,.bool h,.bool m,.int .i64 tp,.int .i64 bt,.int .u32 f,.int .u32 b,.int .u16 g] 53)) []) (by simp)
 have hx2:=Block.made (w.alloc (.cells #[.slice a1 n c1,.slice a2 n c2,.int .i64 r,.int .i64 c,.bool p,.bool h,.bool m,.int .i64 tp,.int .i64 bt,.int .u32 f,.int .u32 b,.int .u16 g] 53)) 53 #[.slice a3 n c3,.slice a4 n c4,.int .i64 r,.int .i64 c,.bool p,.bool h,.bool m,.int .i64 tp,.int .i64 bt,.int .u32 f,.int .u32 b,.int .u16 g]
 rw[World.size_alloc] at hx2
 generalize (w.alloc (.cells #[.slice a1 n c1,.slice a2 n c2,.int .i64 r,.int .i64 c,.bool p,.bool h,.bool m,.int .i64 tp,.int .i64 bt,.int .u32 f,.int .u32 b,.int .u16 g] 53)).alloc (.cells #[.slice a3 n c3,.slice a4 n c4,.int .i64 r,.int .i64 c,.bool p,.bool h,.bool m,.int .i64 tp,.int .i64 bt,.int .u32 f,.int .u32 b,.int .u16 g] 53)=w0 at hb0 hx1 hx2 |-
 have hbx:=J0 (fun w1 (hb:Below w0.heap.size w0 w1)=>(⟨(Block.only hx1 (Only.of_below hb []) (by simp)).cell 0 rfl,(Block.only hx1 (Only.of_below hb []) (by simp)).cell 1 rfl,(Block.only hx2 (Only.of_below hb []) (by simp)).cell 0 rfl,(Block.only hx2 (Only.of_below hb []) (by simp)).cell 1 rfl⟩:w1.cell? ⟨w.heap.size,0,none⟩=some (.slice a1 n c1)/\w1.cell? ⟨w.heap.size,1,none⟩=some (.slice a2 n c2)/\w1.cell? ⟨w.heap.size+1,0,none⟩=some (.slice a3 n c3)/\w1.cell? ⟨w.heap.size+1,1,none⟩=some (.slice a4 n c4)))
 replace hb0:=J0 hb0
 clear hx1 hx2 z1 z2 z3 z4 z5 z6 z7 z8 z9 za zb
 go_loopw [5] (fun i wr=>∃k:Nat,k<=n/\i=.int .i64 k/\Hid (Below w0.heap.size w0 wr)) (fun i _=>n - (intOf i).toNat)
 case atStart=>exact⟨0,Nat.zero_le _,rfl,J0 (Below.refl _ _)⟩
 case round =>
  obtain⟨k,hk,rfl,hR⟩:=hrel
  obtain⟨d0,d1,d2,d3⟩:=hbx.out _ hR.out
  by_cases hlt:k<n
  ·have hkI:(k:Int)<(n:Int):=by omega
   obtain⟨g1,g2,x,y,rfl,rfl,g3,g4,x',y',rfl,rfl,hcl,rfl,hsm⟩:=hsame.out _ (Below.refl _ _) k hlt
   have hbr:=J0 (fun w2 (hb:Below wr.heap.size wr w2)=>Aa0 hb0.out (Aa0 hR.out hb))
   have hbr0:=J0 (fun w2 (hb:Below wr.heap.size wr w2)=>Aa0 hR.out hb)
   have zy:(y' != y')=false:=by simp
   replace hcl:=J0 hcl
   replace hsm:=J0 hsm
   clear hsame
   go_upto_region 6 with (fail)
   refine Eqt.region_until (fun w'=>Below wr.heap.size wr w') (by kernel_rfl) ?_
   have hH:Below wr.heap.size wr wr.drew:=Aa4 (Below.refl wr.heap.size wr) 1
   refine Eqt.K2 0 ⟨some 94,_,_,_,_,_⟩ ?_ rfl (Or.inl ⟨by rfl,?_⟩) (fun _=>hH) ?_
   rotate_left 1
   ·(intro w;go_simp)<;>with_reducible rfl
   try simp only[Act.put,J1,J2,J3]
   refine Eqt.K2 2 ⟨some 96,_,_,_,_,_⟩ ?_ rfl (Or.inl ⟨by rfl,?_⟩) (fun _=>hH) ?_
   rotate_left 1
   ·(intro w;go_simp)<;>with_reducible rfl
   try simp only[Act.put,J1,J2,J3]
   refine Eqt.K2 5 ⟨some 99,_,_,_,_,_⟩ ?_ rfl (Or.inl ⟨by rfl,?_⟩) (fun _=>hH) ?_
   rotate_left 1
   ·(intro w;go_simp)<;>with_reducible rfl
   try simp only[Act.put,J1,J2,J3]
   refine Eqt.K2 7 ⟨some 101,_,_,_,_,_⟩ ?_ rfl (Or.inl ⟨by rfl,?_⟩) (fun _=>hH) ?_
   rotate_left 1
   ·(intro w;go_simp)<;>with_reducible rfl
   try simp only[Act.put,J1,J2,J3]
   refine Eqt.K1 1 ⟨some 95,_,_,_,_,_⟩ ?_ rfl (Or.inl ⟨by rfl,?_⟩) hH ?_
   rotate_left 1
   ·(intro w hSw;have q:=hbx.out _ (hbr0.out _ hSw);obtain⟨q0,q1,q2,q3⟩:=q;go_simp)<;>with_reducible rfl
   try simp only[Act.put,J1,J2,J3]
   refine Eqt.K2 3 ⟨some 97,_,_,_,_,_⟩ ?_ rfl (Or.inl ⟨by rfl,?_⟩) (fun _=>hH) ?_
   rotate_left 1
   ·(intro w;go_simp)<;>with_reducible rfl
   try simp only[Act.put,J1,J2,J3]
   refine Eqt.K1 4 ⟨some 98,_,_,_,_,_⟩ ?_ rfl (Or.inl ⟨by rfl,?_⟩) hH ?_
   rotate_left 1
   ·(intro w hSw;have q:=hcl.out _ (hbr.out _ hSw);obtain⟨q0,q1,q2,q3⟩:=q;go_simp)<;>with_reducible rfl
   try simp only[Act.put,J1,J2,J3]
   refine Eqt.K1 6 ⟨some 100,_,_,_,_,_⟩ ?_ rfl (Or.inl ⟨by rfl,?_⟩) hH ?_
   rotate_left 1
   ·(intro w hSw;have q:=hbx.out _ (hbr0.out _ hSw);obtain⟨q0,q1,q2,q3⟩:=q;go_simp)<;>with_reducible rfl
   try simp only[Act.put,J1,J2,J3]
   refine Eqt.K2 8 ⟨some 102,_,_,_,_,_⟩ ?_ rfl (Or.inl ⟨by rfl,?_⟩) (fun _=>hH) ?_
   rotate_left 1
   ·(intro w;go_simp)<;>with_reducible rfl
   try simp only[Act.put,J1,J2,J3]
   refine Eqt.K1 9 ⟨some 103,_,_,_,_,_⟩ ?_ rfl (Or.inl ⟨by rfl,?_⟩) hH ?_
   rotate_left 1
   ·(intro w hSw;have q:=hcl.out _ (hbr.out _ hSw);obtain⟨q0,q1,q2,q3⟩:=q;go_simp)<;>with_reducible rfl
   try simp only[Act.put,J1,J2,J3]
   refine Eqt.K2 10 ⟨some 104,_,_,_,_,_⟩ (.bool false) rfl (Or.inl ⟨by rfl,?_⟩) (fun _=>hH) ?_
   ·(intro w;go_simp)
   try simp only[Act.put,J1,J2,J3]
   refine Eqt.K2 11 ⟨some 105,_,_,_,_,_⟩ ?_ rfl (Or.inl ⟨by rfl,?_⟩) (fun _=>hH) ?_
   rotate_left 1
   ·(intro w;go_simp)<;>with_reducible rfl
   try simp only[Act.put,J1,J2,J3]
   refine Eqt.K2 12 ⟨some 106,_,_,_,_,_⟩ ?_ rfl (Or.inl ⟨by rfl,?_⟩) (fun _=>hH) ?_
   rotate_left 1
   ·(intro w;go_simp)<;>with_reducible rfl
   try simp only[Act.put,J1,J2,J3]
   refine Eqt.K2 14 ⟨some 108,_,_,_,_,_⟩ ?_ rfl (Or.inl ⟨by rfl,?_⟩) (fun _=>hH) ?_
   rotate_left 1
   ·(intro w;go_simp)<;>with_reducible rfl
   try simp only[Act.put,J1,J2,J3]
   refine Eqt.K2 17 ⟨some 111,_,_,_,_,_⟩ ?_ rfl (Or.inl ⟨by rfl,?_⟩) (fun _=>hH) ?_
   rotate_left 1
   ·(intro w;go_simp)<;>with_reducible rfl
   try simp only[Act.put,J1,J2,J3]
   refine Eqt.K2 19 ⟨some 113,_,_,_,_,_⟩ ?_ rfl (Or.inl ⟨by rfl,?_⟩) (fun _=>hH) ?_
   rotate_left 1
   ·(intro w;go_simp)<;>with_reducible rfl
   try simp only[Act.put,J1,J2,J3]
   refine Eqt.K1 13 ⟨some 107,_,_,_,_,_⟩ ?_ rfl (Or.inl ⟨by rfl,?_⟩) hH ?_
   rotate_left 1
   ·(intro w hSw;have q:=hbx.out _ (hbr0.out _ hSw);obtain⟨q0,q1,q2,q3⟩:=q;go_simp)<;>with_reducible rfl
   try simp only[Act.put,J1,J2,J3]
   refine Eqt.K2 15 ⟨some 109,_,_,_,_,_⟩ ?_ rfl (Or.inl ⟨by rfl,?_⟩) (fun _=>hH) ?_
   rotate_left 1
   ·(intro w;go_simp)<;>with_reducible rfl
   try simp only[Act.put,J1,J2,J3]
   refine Eqt.K1 16 ⟨some 110,_,_,_,_,_⟩ ?_ rfl (Or.inl ⟨by rfl,?_⟩) hH ?_
   rotate_left 1
   ·(intro w hSw;have q:=hcl.out _ (hbr.out _ hSw);obtain⟨q0,q1,q2,q3⟩:=q;go_simp)<;>with_reducible rfl
   try simp only[Act.put,J1,J2,J3]
   refine Eqt.K1 18 ⟨some 112,_,_,_,_,_⟩ ?_ rfl (Or.inl ⟨by rfl,?_⟩) hH ?_
   rotate_left 1
   ·(intro w hSw;have q:=hbx.out _ (hbr0.out _ hSw);obtain⟨q0,q1,q2,q3⟩:=q;go_simp)<;>with_reducible rfl
   try simp only[Act.put,J1,J2,J3]
   refine Eqt.K2 20 ⟨some 114,_,_,_,_,_⟩ ?_ rfl (Or.inl ⟨by rfl,?_⟩) (fun _=>hH) ?_
   rotate_left 1
   ·(intro w;go_simp)<;>with_reducible rfl
   try simp only[Act.put,J1,J2,J3]
   refine Eqt.K1 21 ⟨some 115,_,_,_,_,_⟩ ?_ rfl (Or.inl ⟨by rfl,?_⟩) hH ?_
   rotate_left 1
   ·(intro w hSw;have q:=hcl.out _ (hbr.out _ hSw);obtain⟨q0,q1,q2,q3⟩:=q;go_simp)<;>with_reducible rfl
   try simp only[Act.put,J1,J2,J3]
   refine Eqt.wpAnyU_one 22 [18,13,9,6,4,1] (o:=⟨some 116,_,_,_,_,_⟩) (by kernel_rfl) rfl (by kernel_rfl) (fun K hK=>?_)
   go_simp
   go_at_call 41
   (with_reducible refine(hsm.out _ (hbr.out _ hH)).mono ?_)
   rintro e w6 ⟨rfl,hb6⟩
   replace hH:=Aa0 hH hb6
   refine hK.out _ _ (fun _=>hH) ?_
   clear hK K
   try simp only[Act.put,J1,J2,J3]
   refine Eqt.K2 23 ⟨some 117,_,_,_,_,_⟩ ?_ rfl (Or.inl ⟨by rfl,?_⟩) (fun _=>hH) ?_
   rotate_left 1
   ·(intro w;go_simp)<;>with_reducible rfl
   try simp only[Act.put,J1,J2,J3]
   refine Eqt.K2 24 ⟨some 118,_,_,_,_,_⟩ ?_ rfl (Or.inl ⟨by rfl,?_⟩) (fun _=>hH) ?_
   rotate_left 1
   ·(intro w;go_simp)<;>with_reducible rfl
   try simp only[Act.put,J1,J2,J3]
   refine Eqt.wpAnyU_done (by kernel_rfl) ?_ _
   (try dsimp only [Act.put])
   clear d0 d1 d2 d3
   go_wp2
   go_roundw
   case rel=>exact⟨k+1,by omega,by go_num,J0 (hbr0.out _ hH)⟩
   case measure=>simp[intOf];omega
  ·obtain rfl:k=n:=by omega
   clear hsame
   go_wp2
   go_ret
   exact⟨rfl,Aa0 hb0.out hR.out⟩
end
theorem fr_base {Z:Zn} {ts:List TypeId} {a b:World} {B:Nat} (h:Scn.Fr Z ts a b) (hz:∀k,k<B->¬Z k) (hB:B<=a.heap.size):Below B a b:=⟨h.os,h.tape,h.output,h.size,fun k hk=>h.block k (by omega) (.inl (hz k hk))⟩
section
variable {w wr w':World}{d t:Nat}{T T':Ter}{x:AcT}{pa ia ta:Option Addr}{pn pc ic tn tc:Nat}
theorem Cq9 (rows cols most:Nat) (hr1:1<=rows) (hr5:rows<=512) (hc1:1<=cols) (hc5:cols<=512):Ok (newT rows cols most):=Ok.begin (J5 1) hr1 hr5 hc1 hc5
end
structure TZ (Z:Zn) (W wr:World) (d t:Nat) (T:Ter):Prop where
 tv:TV Z wr d t T
 ok:Ok T
 below:Below W.heap.size W wr
 out:∀k,k<W.heap.size->¬Z k
section
variable {Z:Zn}{W w wr w':World}{d t:Nat}{T T':Ter}{x:AcT}
theorem TZ.on (h:TZ Z W wr d t T) (hb:Below wr.heap.size wr w'):TZ Z W w' d t T:=⟨h.tv.below hb,h.ok,Aa0 h.below hb,h.out⟩
theorem Be9 {ts:List TypeId} (hB:Below W.heap.size W wr) (hz:∀k,k<W.heap.size->¬Z k) (hf:Scn.Fr Z ts wr w'):Below W.heap.size W w':=hB.trans (fr_base hf hz hB.size)
end
structure Keep (Z Z':Zn) (w w':World):Prop where
 size:w.heap.size<=w'.heap.size
 same:∀k,k<w.heap.size->Z k->w'.heap[k]?=w.heap[k]?
 zone:∀k,k<w.heap.size->Z k->Z' k
 up:∀k,w'.heap.size<=k->Z' k
section
variable {Z Z':Zn}{w w':World}{x s nx most cols top bot n x1 x2 t d:Nat}{kp:Bool}{sv lv:Value}{xs:List Value}{L R:List En}{S S1 S2:Scr}{T:Ter}{P:Pt}
theorem MidX.keep (h:MidX Z w x s nx most kp cols sv lv top bot n xs L R) (hk:Keep Z Z' w w'):MidX Z' w' x s nx most kp cols sv lv top bot n xs L R:=by
 obtain⟨_,hk,hZ,up⟩:=hk
 have lo:=h.ln.lo
 have hr:∀e∈R,e.d<w.heap.size/\e.g<w.heap.size:=fun e he=>Aj3 (h.ln.st.2 e he)
 have hl:∀e∈L,e.d<w.heap.size/\e.g<w.heap.size:=fun e he=>Aj3 (h.rows e he)
 have hst:SX 0 w' s nx most sv R:=by
  have hp:=h.ln.st.ptyp
  obtain⟨⟨o,Q,h0,hR⟩,hg⟩:=h.ln.st
  exact⟨⟨o,Q,⟨(hk _ h0.blk.lt lo.s).trans h0.blk,Ac1 h0.own (fun g hg=>hk _ (hp g hg).2.1 (lo.p g hg)),h0.le,h0.old,h0.olt,h0.most,h0.pos,h0.small,h0.lo⟩,hR⟩,
   fun e he=>Ax9 (hg e he) (hk _ (hr e he).1 (lo.r e he).1) (hk _ (hr e he).2 (lo.r e he).2)⟩
 exact⟨⟨(hk _ h.ln.blk.lt lo.x).trans h.ln.blk,Ac1 h.ln.own (fun g hg=>hk _ (h.ln.ltyp g hg).2.1 (lo.l g hg)),hst,h.ln.apart,⟨hZ _ h.ln.blk.lt lo.x,hZ _ (Al0 h.ln.st.typ) lo.s,fun g hg=>hZ _ (h.ln.ltyp g hg).2.1 (lo.l g hg),fun g hg=>hZ _ (h.ln.st.ptyp g hg).2.1 (lo.p g hg),
  fun e he=>⟨hZ _ (hr e he).1 (lo.r e he).1,hZ _ (hr e he).2 (lo.r e he).2⟩,up⟩,h.ln.small⟩,fun e he=>Ax9 (h.rows e he) (hk _ (hl e he).1 (h.zr e he).1) (hk _ (hl e he).2 (h.zr e he).2),fun e he=>⟨hZ _ (hl e he).1 (h.zr e he).1,hZ _ (hl e he).2 (h.zr e he).2⟩,h.dd,h.gg⟩
theorem SC.keep (h:SC Z w x s S) (hk:Keep Z Z' w w'):SC Z' w' x s S:=by
 obtain⟨sv,lv,L,R,h1,h2,h3⟩:=h
 exact⟨sv,lv,L,R,MidX.keep h1 hk,h2,h3⟩
theorem Two.keep (h:Two Z w s x1 x2 S1 S2) (hk:Keep Z Z' w w'):Two Z' w' s x1 x2 S1 S2:=by
 obtain⟨sv,R,l1,L1,l2,L2,h1,e1,eR,h2,e2,hx,hl,hd,hg⟩:=h
 exact⟨sv,R,l1,L1,l2,L2,MidX.keep h1 hk,e1,eR,MidX.keep h2 hk,e2,hx,hl,hd,hg⟩
theorem TMx.keep (h:TMx Z w t T P) (hk:Keep Z Z' w w') (low:∀k,k<6->¬Z' k) (htb:Tbl w'):TMx Z' w' t T P:=by
 have hs:Scrs Z' w' T P:=by
  have h1:=h.scr
  unfold Scrs at h1 |-
  split at h1
  ·exact SC.keep h1 hk
  ·exact Two.keep h1 hk
 obtain⟨_,hk,hZ,up⟩:=hk
 have same:∀ {k:Nat} {ty:TypeId} {cs:Array Value},Block w k ty cs->Z k->Block w' k ty cs:=fun hb hz=>(hk _ hb.lt hz).trans hb
 have tj:∀g,P.jv.ownBlock=some g->g<w.heap.size:=fun g hg=>Al0 (Ab9 h.jr g hg)
 have tr:∀g,P.rv.ownBlock=some g->g<w.heap.size:=fun g hg=>Al0 (Ad2 h.rp g hg)
 have tb:P.tb<w.heap.size:=Block.lt h.tabs
 exact⟨same h.blk h.zt,same h.main h.zm,fun o ho=>⟨same (h.aside o ho).1 (h.aside o ho).2.2,(h.aside o ho).2.1,hZ _ (h.aside o ho).1.lt (h.aside o ho).2.2⟩,hs,same h.tabs h.zb,
  Ac1 h.jr (fun g hg=>hk _ (tj g hg) (h.zj g hg)),Ad3 h.rp (fun g hg=>hk _ (tr g hg) (h.zr g hg)),hZ _ h.blk.lt h.zt,hZ _ h.main.lt h.zm,hZ _ tb h.zb,fun g hg=>hZ _ (tj g hg) (h.zj g hg),fun g hg=>hZ _ (tr g hg) (h.zr g hg),up,low,htb⟩
end
section
variable {Z:Zn}{W w w':World}{d t d2 t2:Nat}{T T' U:Ter}
theorem TZ.low (h:TZ Z W w d t T):(∀k,k<6->¬Z k)/\(∀k,w.heap.size<=k->Z k)/\6<=w.heap.size:=by
 obtain⟨P,hP⟩:=h.tv.tm
 exact⟨hP.low,hP.up,hP.tbl.1⟩
end
section
variable {wp wr w w':World}{b1 b2 B:Nat}{ls:List (List Cel)}{v:Value}{hs:List Av0}
theorem fl_heldV (hs:List Av0):∀i (hi:i<hs.length),(fl At1 hs)[i*2]?=some (.int .i64 hs[i].1)/\(fl At1 hs)[i*2+1]?=some (.slice (some ⟨hs[i].2.1,0,none⟩) hs[i].2.2.length hs[i].2.2.length):=fun i hi=>by
 have h0:=Bn4 (f:=At1) Ap6 hi (j:=0) (by omega)
 have h1:=Bn4 (f:=At1) Ap6 hi (j:=1) (by omega)
 exact⟨h0,h1⟩
theorem BackT.at (h:BackT B w v hs) {i:Nat} (hi:i<hs.length):∃g c,v=.slice (some ⟨g,0,none⟩) hs.length c/\hs.length<=c/\c<=maxLen/\w.cell? ⟨g,i*2,none⟩=some (.int .i64 hs[i].1)/\w.cell? ⟨g,i*2+1,none⟩=some (.slice (some ⟨hs[i].2.1,0,none⟩) hs[i].2.2.length hs[i].2.2.length):=by
 obtain⟨g,c,tail,rfl,_,hb,h1,h2⟩:=Ah6 h.rows (by omega)
 have hl:(fl At1 hs).length=hs.length*2:=Ab8 Ap6 hs
 obtain⟨e0,e1⟩:=fl_heldV hs i hi
 refine⟨g,c,rfl,h1,h2,hb.cell (i*2) ?_,hb.cell (i*2+1) ?_⟩
 ·rw[List.getElem?_toArray,List.getElem?_append_left (by omega),e0]
 ·rw[List.getElem?_toArray,List.getElem?_append_left (by omega),e1]
variable {cols:Nat}{cv iv:Value}{rs:List TRow}{ids:List Int}
end
structure Tld (w:World) (n cols:Nat) (L:List Ln) (g1 c1 g2 c2:Nat) (rs:List TRow):Prop where
 rws:Rws 0 w cols (.slice (some ⟨g1,0,none⟩) n c1) (.slice (some ⟨g2,0,none⟩) n c2) rs (L.map (·.1))
 len:rs.length=n
 llen:L.length=n
 got:rs.map (fun p=>p.2.map (·.1))=L.map (·.2)
 wid:∀p∈L,p.2.length=cols
section
variable {Z:Zn}{W w w':World}{d t n cols g1 c1 g2 c2:Nat}{L:List Ln}{rs:List TRow}{T:Ter}{v:Value}{hs:List Av0}
theorem Tld.below (h:Tld w n cols L g1 c1 g2 c2 rs) (hb:Below w.heap.size w w'):Tld w' n cols L g1 c1 g2 c2 rs:=⟨h.rws.below hb,h.len,h.llen,h.got,h.wid⟩
theorem Tld.row (h:Tld w n cols L g1 c1 g2 c2 rs) {i:Nat} (hi:i<n):∃x,w.cell? ⟨g1,i,none⟩=some (.slice (some ⟨x,0,none⟩) cols cols)/\w.cell? ⟨g2,i,none⟩=some (.int .i64 (L[i]'(by rw[h.llen];exact hi)).1) /\
  ∀j (hj:j<cols),w.cell? ⟨x,j*6,none⟩=some (.int .i32 (((L[i]'(by rw[h.llen];exact hi)).2)[j]'(by rw[h.wid _ (List.getElem_mem _)];exact hj)).r)/\w.cell? ⟨x,j*6+2,none⟩=some (.int .u8 (((L[i]'(by rw[h.llen];exact hi)).2)[j]'(by rw[h.wid _ (List.getElem_mem _)];exact hj)).wide) /\
   w.cell? ⟨x,j*6+3,none⟩=some (.int .u32 (((L[i]'(by rw[h.llen];exact hi)).2)[j]'(by rw[h.wid _ (List.getElem_mem _)];exact hj)).a.f)/\w.cell? ⟨x,j*6+4,none⟩=some (.int .u32 (((L[i]'(by rw[h.llen];exact hi)).2)[j]'(by rw[h.wid _ (List.getElem_mem _)];exact hj)).a.b)/\w.cell? ⟨x,j*6+5,none⟩=some (.int .u16 (((L[i]'(by rw[h.llen];exact hi)).2)[j]'(by rw[h.wid _ (List.getElem_mem _)];exact hj)).a.g) /\
   ∃y cc,w.cell? ⟨x,j*6+1,none⟩=some (.slice y (((L[i]'(by rw[h.llen];exact hi)).2)[j]'(by rw[h.wid _ (List.getElem_mem _)];exact hj)).m.length cc):=by
 have hi':i<rs.length:=by rw[h.len];exact hi
 have hL:i<L.length:=by rw[h.llen];exact hi
 obtain⟨g,c,e,_,_,hc⟩:=h.rws.cv_at hi'
 obtain⟨g',c',e',_,_,hc'⟩:=h.rws.iv_at (i:=i) (by rw[List.length_map];exact hL)
 simp only[Value.slice.injEq,Option.some.injEq,Addr.mk.injEq,and_true] at e e'
 obtain⟨rfl,_,rfl⟩:=e
 obtain⟨rfl,_,rfl⟩:=e'
 rw[List.getElem_map] at hc'
 refine⟨_,hc,hc',fun j hj=>?_⟩
 have hg:=congrArg (·[i]?) h.got
 simp only[List.getElem?_map,List.getElem?_eq_getElem hi',List.getElem?_eq_getElem hL,Option.map_some,Option.some.injEq] at hg
 have hw:=h.wid _ (List.getElem_mem hL)
 have hj':j<(rs[i]'hi').2.length:=by
  have:=congrArg List.length hg
  rw[List.length_map] at this
  omega
 have hA:=h.rws.apis _ (List.getElem_mem hi')
 have hx:=api6 hA hj'
 have he:((rs[i]'hi').2[j]'hj').1=(L[i].2)[j]'(by omega):=by
  have:=congrArg (·[j]?) hg
  simp only[List.getElem?_map,List.getElem?_eq_getElem hj',List.getElem?_eq_getElem (show j<(L[i].2).length by omega),Option.map_some,Option.some.injEq] at this
  exact this
 obtain⟨y,cc,ey,_⟩:=(hA.comb _ (List.getElem_mem hj')).shape
 rw[ey,he] at hx
 exact⟨hx.1,hx.2.2.1,hx.2.2.2.1,hx.2.2.2.2.1,hx.2.2.2.2.2,y,cc,hx.2.1⟩
theorem Ay6 (h:TZ Z W w d t T):Calls Tryz.prog 32 #[.pointer (some ⟨d,0,none⟩)] w fun e w'=>∃g1 c1 g2 c2 rs,e=.returned (.agg #[.slice (some ⟨g1,0,none⟩) T.vis.L.length c1,.slice (some ⟨g2,0,none⟩) T.vis.L.length c2,.int .i64 T.c.row,.int .i64 T.c.col,.bool T.c.pend,.bool (!T.m.a5),.bool T.other.isNone,.int .i64 T.vis.top,.int .i64 T.vis.bot,.int .u32 T.p.a.f,.int .u32 T.p.a.b,.int .u16 T.p.a.g]) /\
  Tld w' T.vis.L.length T.vis.cols T.vis.L g1 c1 g2 c2 rs/\Below w.heap.size w w':=by
 refine(tgrid_any h.tv h.ok).mono fun e w' ⟨cv,iv,rs,he,hg,hb⟩=>?_
 have hn:=h.ok.fit.len
 obtain⟨g1,c1,e1,_,_,_⟩:=hg.rws.cv_at (i:=0) (by rw[hg.len];omega)
 obtain⟨g2,c2,e2,_,_,_⟩:=hg.rws.iv_at (i:=0) (by rw[List.length_map];omega)
 rw[hg.len] at e1
 rw[List.length_map] at e2
 subst e1 e2
 exact⟨g1,c1,g2,c2,rs,he,⟨hg.rws.lower (Nat.zero_le _),hg.len,rfl,hg.got,h.ok.fit.wid⟩,hb⟩
structure Bld (w:World) (v:Value) (n:Nat) (R:List Ln) (hs:List Av0):Prop where
 back:∃B,BackT B w v hs
 got:hs.map lnOf=R
 len:R.length=n
theorem Bld.below {R:List Ln} (h:Bld w v n R hs) (hb:Below w.heap.size w w'):Bld w' v n R hs:=⟨h.back.imp fun _ h=>h.below hb,h.got,h.len⟩
theorem back_told (h:TZ Z W w d t T):Calls Tryz.prog 40 #[.pointer (some ⟨d,0,none⟩)] w fun e w'=>∃ba bc hs,e=.returned (.slice ba T.R.length bc)/\Bld w' (.slice ba T.R.length bc) T.R.length T.R hs/\T.R.length<=maxLen/\Below w.heap.size w w':=by
 refine(tback_any h.tv).mono fun e w' ⟨v,hs,he,hB,hL,hb⟩=>?_
 obtain⟨ba,bc,rfl,h1,h2⟩:=Ab3 hB.rows
 have hl:hs.length=T.R.length:=by rw[<- hL,List.length_map]
 rw[hl] at he hB h1
 exact⟨ba,bc,hs,he,⟨⟨_,hB⟩,hL,rfl⟩,Nat.le_trans h1 h2,hb⟩
end
end Go.Proofs.YtecnpoigegiooaaGreatDoor.Emu
namespace Go.Proofs.YtecnpoigegiooaaGreatDoor.Emu
open Go Rw Lns Scn
section
variable {d:Nat}{T U:Ter}
end
def noRp (T:Ter):Ter:={ T with rp:=[] }
end Go.Proofs.YtecnpoigegiooaaGreatDoor.Emu
namespace Go.Proofs.YtecnpoigegiooaaGreatDoor.Emu
open Go RowKit Com Rw Lns Scn
section
variable {Z:Zn}{W w wr w':World}{d t d2 t2 n nm cm dd:Nat}{T T' U U':Ter}{am:Option Addr}{F:FuncId}{args:Array Value}{A:Ending->World->Prop}
theorem ok_noRp (h:Ok T):Ok (noRp T):=⟨h.fit,h.fitm,h.rows,h.cols,h.row,h.col,h.sv,h.svm,h.tn,h.alt⟩
theorem tz_repl (h:TZ Z W w d t T):Calls Tryz.prog 38 #[.pointer (some ⟨d,0,none⟩)] w fun e w'=>(∃v,e=.returned v/\Kys.Row w' 0 5 v T.rp)/\TZ Z W w' d t (noRp T)/\Scn.Fr Z TT w w' :=
 (treplies_any h.tv).mono fun _ _ ⟨he,h1,hf⟩=>⟨he,⟨h1,ok_noRp h.ok,Be9 h.below h.out hf,h.out⟩,hf⟩
end
end Go.Proofs.YtecnpoigegiooaaGreatDoor.Emu
namespace Go.Proofs.YtecnpoigegiooaaGreatDoor.Hos
open Go RowKit Com Rw Lns Emu Scn
structure Hf (B:Zn) (w w':World):Prop where
 os:w'.os=w.os
 tape:w'.tape=w.tape
 output:w'.output=w.output
 size:w.heap.size<=w'.heap.size
 block:∀k,k<w.heap.size->¬B k->w'.heap[k]?=w.heap[k]?
section
variable {B B2:Zn}{L:List Nat}{ts:List TypeId}{w w1 w2 w':World}{n:Nat}
theorem Hf.refl (B:Zn) (w:World):Hf B w w:=⟨rfl,rfl,rfl,J5 _,fun _ _ _=>rfl⟩
theorem Hf.trans (h:Hf B w w1) (g:Hf B2 w1 w2) (hB:∀k,k<w.heap.size->B2 k->B k):Hf B w w2 :=
 ⟨g.os.trans h.os,g.tape.trans h.tape,g.output.trans h.output,Nat.le_trans h.size g.size,fun k hk hn=>(g.block k (Nat.lt_of_lt_of_le hk h.size) (fun hb=>hn (hB k hk hb))).trans (h.block k hk hn)⟩
theorem Hf.mono (h:Hf B w w') (hB:∀k,k<w.heap.size->B k->B2 k):Hf B2 w w':=⟨h.os,h.tape,h.output,h.size,fun k hk hn=>h.block k hk fun hb=>hn (hB k hk hb)⟩
theorem Hf.of_only (h:Only L w w'):Hf (·∈L) w w':=⟨h.os,h.tape,h.output,h.size,fun k hk hn=>h.block k hk hn⟩
theorem Hf.of_fr (h:Scn.Fr B ts w w'):Hf B w w':=⟨h.os,h.tape,h.output,h.size,fun k hk hn=>h.block k hk (.inl hn)⟩
theorem Hf.of_below (B:Zn) (h:Below w.heap.size w w'):Hf B w w':=⟨h.os,h.tape,h.output,h.size,fun k hk _=>h.block k hk⟩
theorem Hf.below (h:Hf B w w') (hn:n<=w.heap.size) (hB:∀k,k<n->¬B k):Below n w w':=⟨h.os,h.tape,h.output,h.size,fun k hk=>h.block k (by omega) (hB k hk)⟩
theorem Hf.blk {k:Nat} {t:TypeId} {cs:Array Value} (h:Hf B w w') (hb:Block w k t cs) (hn:¬B k):Block w' k t cs:=(h.block k (Block.lt hb) hn).trans hb
end
def re (Z:Zn) (w w':World):Zn:=fun k=>(Z k/\k<w.heap.size)\/w'.heap.size<=k
section
variable {Z B:Zn}{W w w':World}{d t:Nat}{T:Ter}
theorem TZ.re (h:TZ Z W w d t T) (hf:Hf B w w') (hz:∀k,k<w.heap.size->Z k->¬B k) (hd:¬B d) (hW:∀k,k<W.heap.size->¬B k) (h6:6<=W.heap.size):TZ (Hos.re Z w w') W w' d t T:=by
 obtain⟨hl,_,_⟩:=h.low
 have hs:=hf.size
 have hWs:=h.below.size
 obtain⟨P,hP⟩:=h.tv.tm
 have hk:Keep Z (Hos.re Z w w') w w':=⟨hs,fun k hk hz'=>hf.block k hk (hz k hk hz'),fun k hk hz'=>.inl ⟨hz',hk⟩,fun k hk=>.inr hk⟩
 refine⟨⟨hf.blk h.tv.blk hd,P,hP.keep hk (fun k hk hz'=>?_) (hP.tbl.low (hf.below (by omega) (fun k hk=>hW k (by omega))))⟩,h.ok,h.below.trans (hf.below hWs hW),fun k hk hz'=>?_⟩
 ·rcases hz' with hz'|hz'
  ·exact hl k hk hz'.1
  ·omega
 ·rcases hz' with hz'|hz'
  ·exact h.out k hk hz'.1
  ·omega
end
structure HP where
 e:Nat
 dd:Nat
 dp:Nat
 d:Nat
 t:Nat
 pv:Value
 sv:Value
def endA (p:HP):Array Value:=#[.pointer (some ⟨p.dd,0,none⟩),.pointer (some ⟨p.dp,0,none⟩),.pointer (some ⟨p.d,0,none⟩),p.sv]
def HP.own (p:HP) (h k:Nat):Prop:=k=h\/k=p.e\/k=p.dd\/k=p.dp\/k=p.d\/p.pv.ownBlock=some k\/p.sv.ownBlock=some k
structure HX (Z:Zn) (W w:World) (h:Nat) (p:HP) (H:Hst):Prop where
 hb:Block w h 71 #[.pointer (some ⟨p.e,0,none⟩)]
 eb:Block w p.e 69 (endA p)
 dec:Utf.DecIn w p.dd H.dec
 par:Prs.ParIn w W.heap.size p.dp p.pv H.ps
 sent:Kys.Row w W.heap.size 5 p.sv H.sent
 tz:TZ Z W w p.d p.t H.T
 nz:∀k,p.own h k->¬Z k
 lo:W.heap.size<=h/\W.heap.size<=p.e/\W.heap.size<=p.dd/\W.heap.size<=p.d
 six:6<=W.heap.size
section
variable {Z B:Zn}{W w w':World}{h:Nat}{p:HP}{H:Hst}
theorem HX.lt (hx:HX Z W w h p H):∀k,p.own h k->W.heap.size<=k/\k<w.heap.size:=by
 obtain⟨l1,l2,l3,l4⟩:=hx.lo
 intro k hk
 rcases hk with rfl|rfl|rfl|rfl|rfl|hk|hk
 ·exact⟨l1,Block.lt hx.hb⟩
 ·exact⟨l2,Block.lt hx.eb⟩
 ·exact⟨l3,Block.lt hx.dec⟩
 ·exact⟨hx.par.low,hx.par.blk.lt⟩
 ·exact⟨l4,Block.lt hx.tz.tv.blk⟩
 ·exact hx.par.own.lt k hk
 ·exact hx.sent.lt k hk
theorem HX.other (hx:HX Z W w h p H) (hf:Hf B w w') (h1:∀k,k<w.heap.size->Z k->¬B k) (h2:∀k,p.own h k->¬B k) (h3:∀k,k<W.heap.size->¬B k):HX (re Z w w') W w' h p H:=by
 have hs:=hf.size
 have hlt:=hx.lt
 refine⟨hf.blk hx.hb (h2 _ (.inl rfl)),hf.blk hx.eb (h2 _ (.inr (.inl rfl))),hf.blk hx.dec (h2 _ (.inr (.inr (.inl rfl)))),⟨hf.blk hx.par.blk.blk (h2 _ (.inr (.inr (.inr (.inl rfl))))),Ac1 hx.par.own (fun g hg=>hf.block g (hlt g (.inr (.inr (.inr (.inr (.inr (.inl hg))))))).2 (h2 _ (.inr (.inr (.inr (.inr (.inr (.inl hg)))))))),hx.par.low⟩,Ad3 hx.sent (fun g hg=>hf.block g (hlt g (.inr (.inr (.inr (.inr (.inr (.inr hg))))))).2 (h2 _ (.inr (.inr (.inr (.inr (.inr (.inr hg)))))))),TZ.re hx.tz hf h1 (h2 _ (.inr (.inr (.inr (.inr (.inl rfl)))))) h3 hx.six,fun k hk hz=>?_,hx.lo,hx.six⟩
 rcases hz with hz|hz
 ·exact hx.nz k hk hz.1
 ·have:=(hlt k hk).2
  omega
end
