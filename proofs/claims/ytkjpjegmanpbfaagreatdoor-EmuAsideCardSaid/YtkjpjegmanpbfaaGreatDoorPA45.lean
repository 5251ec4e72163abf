/- Part 45 of the proof that the card of EmuAside holds. -/
import Derived.Test.YtkjpjegmanpbfaaGreatDoorPA44
import Derived.Test.YtkjpjegmanpbfaaGreatDoorPA43
import Derived.Test.YtkjpjegmanpbfaaGreatDoorPA41
set_option maxHeartbeats 16000000
set_option maxRecDepth 100000
namespace Go.Proofs.YtkjpjegmanpbfaaGreatDoor.Emu
open Go RowKit Com Rw Lns Scn
section
variable {B B':Nat} {w w':World} {cols:Nat} {cv iv cv' iv':Value} {rs rs':List TRow} {ids:List Int}
theorem fl_hdr (cols:Nat) (rs:List TRow):fl (hdr cols) rs=rs.map fun p=>.slice (some ⟨p.1,0,none⟩) cols cols:=by
 induction rs with
 |nil=>rfl
 |cons a l ih=>rw [show a::l=[a]++l from rfl,fl_app,fl_one,ih];rfl
theorem Rws.cv_at (h:Rws B w cols cv iv rs ids) {i:Nat} (hi:i<rs.length):∃ g c,cv=.slice (some ⟨g,0,none⟩) rs.length c/\rs.length<=c/\c<=maxLen/\w.cell? ⟨g,i,none⟩=some (.slice (some ⟨rs[i].1,0,none⟩) cols cols):=by
 obtain ⟨g,c,tail,rfl,_,hb,h1,h2⟩:=Ae5 h.rows (by omega)
 refine ⟨g,c,rfl,h1,h2,hb.cell i ?_⟩
 rw [List.getElem?_toArray,List.getElem?_append_left (by rw [fl_hdr];simpa using hi),fl_hdr,List.getElem?_map,List.getElem?_eq_getElem hi]
 rfl
theorem Rws.iv_at (h:Rws B w cols cv iv rs ids) {i:Nat} (hi:i<ids.length):∃ g c,iv=.slice (some ⟨g,0,none⟩) ids.length c/\ids.length<=c/\c<=maxLen/\w.cell? ⟨g,i,none⟩=some (.int .i64 ids[i]):=by
 obtain ⟨g,c,tail,rfl,_,hb,h1,h2⟩:=Ae5 (show w.ownsRow B 3 1 iv ids.length (ids.map (Value.int .i64)) from h.ids) (by omega)
 refine ⟨g,c,rfl,h1,h2,hb.cell i ?_⟩
 rw [List.getElem?_toArray,List.getElem?_append_left (by simpa using hi),List.getElem?_map,List.getElem?_eq_getElem hi]
 rfl
def Cl8 (r c:Int) (p h m:Bool) (tp bt f b g:Int):List Value:=[.int .i64 r,.int .i64 c,.bool p,.bool h,.bool m,.int .i64 tp,.int .i64 bt,.int .u32 f,.int .u32 b,.int .u16 g]
theorem samegrid_any (r c:Int) (p h m:Bool) (tp bt f b g:Int) (h1:Rws B w cols cv iv rs ids) (h2:Rws B' w cols cv' iv' rs' ids) (hl:rs.length=ids.length) (hc:rs'.map (fun p=>p.2.map (·.1))=rs.map (fun p=>p.2.map (·.1))) (h5:cols<=512) (hn:rs.length<=512) (h4:∀ q∈rs,q.2.length=cols/\∀ x∈q.2,x.1.m.length<=4) :
  Calls Tryz.prog 11 #[.agg (Ah6 cv iv (Cl8 r c p h m tp bt f b g)),.agg (Ah6 cv' iv' (Cl8 r c p h m tp bt f b g))] w fun e w'=>e=.returned (.bool true)/\Below w.heap.size w w':=by
 have hl':rs'.length=ids.length:=by have:=congrArg List.length hc;simpa [hl] using this
 have hk1:=fun w1 (hb:Below w.heap.size w w1)=>h1.below hb
 have hk2:=fun w1 (hb:Below w.heap.size w w1)=>h2.below hb
 obtain ⟨a1,c1,rfl,_,_⟩:=Ac0 h1.rows
 obtain ⟨a2,c2,rfl,_,_⟩:=h1.ids.shape
 obtain ⟨a3,c3,rfl,_,_⟩:=Ac0 h2.rows
 obtain ⟨a4,c4,rfl,_,_⟩:=h2.ids.shape
 have hsame:Hid (∀ w1,Below w.heap.size w w1->∀ i,i<ids.length->∃ g1 g2 x y,a1=some ⟨g1,0,none⟩/\a2=some ⟨g2,0,none⟩/\(∃ g3 g4 x' y',a3=some ⟨g3,0,none⟩/\a4=some ⟨g4,0,none⟩ /\
   (∀ w2,Below w.heap.size w w2->w2.cell? ⟨g1,i,none⟩=some (.slice (some ⟨x,0,none⟩) cols cols)/\w2.cell? ⟨g2,i,none⟩=some (.int .i64 y)/\w2.cell? ⟨g3,i,none⟩=some (.slice (some ⟨x',0,none⟩) cols cols)/\w2.cell? ⟨g4,i,none⟩=some (.int .i64 y'))/\y'=y /\
   (∀ w2,Below w.heap.size w w2->Calls Tryz.prog 27 #[.slice (some ⟨x,0,none⟩) cols cols,.slice (some ⟨x',0,none⟩) cols cols] w2 fun e w'=>e=.returned (.bool true)/\Below w2.heap.size w2 w'))):=J0 fun w1 hb i hi=>by
  have hi1:i<rs.length:=by omega
  have hi2:i<rs'.length:=by omega
  obtain ⟨g1,q1,e1,_,_,_⟩:=h1.cv_at hi1
  obtain ⟨g2,q2,e2,_,_,_⟩:=h1.iv_at hi
  obtain ⟨g3,q3,e3,_,_,_⟩:=h2.cv_at hi2
  obtain ⟨g4,q4,e4,_,_,_⟩:=h2.iv_at hi
  simp only [Value.slice.injEq] at e1 e2 e3 e4
  refine ⟨g1,g2,rs[i].1,ids[i],e1.1,e2.1,g3,g4,rs'[i].1,ids[i],e3.1,e4.1,fun w2 hb2=>?_,rfl,fun w2 hb2=>?_⟩
  ·obtain ⟨g1',q1',e1',_,_,x1⟩:=(hk1 w2 hb2).cv_at hi1
   obtain ⟨g2',q2',e2',_,_,x2⟩:=(hk1 w2 hb2).iv_at hi
   obtain ⟨g3',q3',e3',_,_,x3⟩:=(hk2 w2 hb2).cv_at hi2
   obtain ⟨g4',q4',e4',_,_,x4⟩:=(hk2 w2 hb2).iv_at hi
   simp only [Value.slice.injEq,e1.1,e2.1,e3.1,e4.1,Option.some.injEq,Addr.mk.injEq] at e1' e2' e3' e4'
   rw [<- e1'.1.1] at x1
   rw [<- e2'.1.1] at x2
   rw [<- e3'.1.1] at x3
   rw [<- e4'.1.1] at x4
   exact ⟨x1,x2,x3,x4⟩
  ·have hm:=List.getElem_mem hi1
   refine same_any ((hk1 w2 hb2).apis _ hm) ((hk2 w2 hb2).apis _ (List.getElem_mem hi2)) (h4 _ hm).1 ?_ h5 (h4 _ hm).2
   have e:=congrArg (·[i]?) hc
   simp only [List.getElem?_map,List.getElem?_eq_getElem hi1,List.getElem?_eq_getElem hi2,Option.map_some,Option.some.injEq] at e
   exact e
 have hn5:ids.length<=512:=by omega
 rw [hl,hl'] at *
 generalize ids.length=n at *
 clear h1 h2 hk1 hk2 hc h4 h5 hn hl hl'
 simp only [Ah6,Cl8]
 have z1:(r != r)=false:=by simp
 have z2:(c != c)=false:=by simp
 have z3:(p != p)=false:=by simp
 have z4:(h != h)=false:=by simp
 have z5:(m != m)=false:=by simp
 have z6:(tp != tp)=false:=by simp
 have z7:(bt != bt)=false:=by simp
 have z8:((n:Int) != (n:Int))=false:=by simp
 have z9:(f != f)=false:=by simp
 have za:(b != b)=false:=by simp
 have zb:(g != g)=false:=by simp
 go_enter Tryz.func11,Tryz.ntmps11
 go_wp2
 have hb0:=Aa0 (Aa1 w (.cells #[.slice a1 n c1,.slice a2 n c2,.int .i64 r,.int .i64 c,.bool p,.bool h,.bool m,.int .i64 tp,.int .i64 bt,.int .u32 f,.int .u32 b,.int .u16 g] 43)) (Aa1 _ (.cells #[.slice a3 n c3,.slice a4 n c4,.int .i64 r,.int .i64 c,.bool p,.bool h,.bool m,.int .i64 tp,.int .i64 bt,.int .u32 f,.int .u32 b,.int .u16 g] 43))
 have hx1:=Block.only (Block.made w 43 #[.slice a1 n c1,.slice a2 n c2,.int .i64 r,.int .i64 c,.bool p,.bool h,.bool m,.int .i64 tp,.int .i64 bt,.int .u32 f,.int .u32 b,.int .u16 g]) (Only.of_below (Aa1 _ (.cells #[.slice a3 n c3,.slice a4 n c4,.int .i64 r,.int .i64 c,.bool p,.bool h,.bool m,.int .i64 tp,.int .i64 bt,.int .u32 f,.int .u32 b,.int .u16 g] 43)) []) (by simp)
 have hx2:=Block.made (w.alloc (.cells #[.slice a1 n c1,.slice a2 n c2,.int .i64 r,.int .i64 c,.bool p,.bool h,.bool m,.int .i64 tp,.int .i64 bt,.int .u32 f,.int .u32 b,.int .u16 g] 43)) 43 #[.slice a3 n c3,.slice a4 n c4,.int .i64 r,.int .i64 c,.bool p,.bool h,.bool m,.int .i64 tp,.int .i64 bt,.int .u32 f,.int .u32 b,.int .u16 g]
 rw [World.size_alloc] at hx2
 generalize (w.alloc (.cells #[.slice a1 n c1,.slice a2 n c2,.int .i64 r,.int .i64 c,.bool p,.bool h,.bool m,.int .i64 tp,.int .i64 bt,.int .u32 f,.int .u32 b,.int .u16 g] 43)).alloc (.cells #[.slice a3 n c3,.slice a4 n c4,.int .i64 r,.int .i64 c,.bool p,.bool h,.bool m,.int .i64 tp,.int .i64 bt,.int .u32 f,.int .u32 b,.int .u16 g] 43)=w0 at hb0 hx1 hx2 |-
 have hbx:=J0 (fun w1 (hb:Below w0.heap.size w0 w1)=>(⟨(Block.only hx1 (Only.of_below hb []) (by simp)).cell 0 rfl,(Block.only hx1 (Only.of_below hb []) (by simp)).cell 1 rfl,(Block.only hx2 (Only.of_below hb []) (by simp)).cell 0 rfl,(Block.only hx2 (Only.of_below hb []) (by simp)).cell 1 rfl⟩:w1.cell? ⟨w.heap.size,0,none⟩=some (.slice a1 n c1)/\w1.cell? ⟨w.heap.size,1,none⟩=some (.slice a2 n c2)/\w1.cell? ⟨w.heap.size+1,0,none⟩=some (.slice a3 n c3)/\w1.cell? ⟨w.heap.size+1,1,none⟩=some (.slice a4 n c4)))
 replace hb0:=J0 hb0
 clear hx1 hx2 z1 z2 z3 z4 z5 z6 z7 z8 z9 za zb
 go_loopw [5] (fun i wr=>∃ k:Nat,k<=n/\i=.int .i64 k/\Hid (Below w0.heap.size w0 wr)) (fun i _=>n - (intOf i).toNat)
 case atStart=>exact ⟨0,Nat.zero_le _,rfl,J0 (Below.refl _ _)⟩
 case round =>
  obtain ⟨k,hk,rfl,hR⟩:=hrel
  obtain ⟨d0,d1,d2,d3⟩:=hbx.out _ hR.out
  by_cases hlt:k<n
  ·have hkI:(k:Int)<(n:Int):=by omega
   obtain ⟨g1,g2,x,y,rfl,rfl,g3,g4,x',y',rfl,rfl,hcl,rfl,hsm⟩:=hsame.out _ (Below.refl _ _) k hlt
   have hbr:=J0 (fun w2 (hb:Below wr.heap.size wr w2)=>Aa0 hb0.out (Aa0 hR.out hb))
   have hbr0:=J0 (fun w2 (hb:Below wr.heap.size wr w2)=>Aa0 hR.out hb)
   have zy:(y' != y')=false:=by simp
   replace hcl:=J0 hcl
   replace hsm:=J0 hsm
   clear hsame
   go_upto_region 6 with (fail)
   refine Eqt.region_until (fun w'=>Below wr.heap.size wr w') (by kernel_rfl) ?_
   have hH:Below wr.heap.size wr wr.drew:=Aa4 (Below.refl wr.heap.size wr) 1
   refine Eqt.K2 0 ⟨some 94,_,_,_,_,_⟩ ?_ rfl (Or.inl ⟨by rfl,?_⟩) (fun _=>hH) ?_
   rotate_left 1
   ·(intro w;go_simp)<;>with_reducible rfl
   try simp only [Act.put,J1,J2,J3]
   refine Eqt.K2 2 ⟨some 96,_,_,_,_,_⟩ ?_ rfl (Or.inl ⟨by rfl,?_⟩) (fun _=>hH) ?_
   rotate_left 1
   ·(intro w;go_simp)<;>with_reducible rfl
   try simp only [Act.put,J1,J2,J3]
   refine Eqt.K2 5 ⟨some 99,_,_,_,_,_⟩ ?_ rfl (Or.inl ⟨by rfl,?_⟩) (fun _=>hH) ?_
   rotate_left 1
   ·(intro w;go_simp)<;>with_reducible rfl
   try simp only [Act.put,J1,J2,J3]
   refine Eqt.K2 7 ⟨some 101,_,_,_,_,_⟩ ?_ rfl (Or.inl ⟨by rfl,?_⟩) (fun _=>hH) ?_
   rotate_left 1
   ·(intro w;go_simp)<;>with_reducible rfl
   try simp only [Act.put,J1,J2,J3]
   refine Eqt.K1 1 ⟨some 95,_,_,_,_,_⟩ ?_ rfl (Or.inl ⟨by rfl,?_⟩) hH ?_
   rotate_left 1
   ·(intro w hSw;have q:=hbx.out _ (hbr0.out _ hSw);obtain ⟨q0,q1,q2,q3⟩:=q;go_simp)<;>with_reducible rfl
   try simp only [Act.put,J1,J2,J3]
   refine Eqt.K2 3 ⟨some 97,_,_,_,_,_⟩ ?_ rfl (Or.inl ⟨by rfl,?_⟩) (fun _=>hH) ?_
   rotate_left 1
   ·(intro w;go_simp)<;>with_reducible rfl
   try simp only [Act.put,J1,J2,J3]
   refine Eqt.K1 4 ⟨some 98,_,_,_,_,_⟩ ?_ rfl (Or.inl ⟨by rfl,?_⟩) hH ?_
   rotate_left 1
   ·(intro w hSw;have q:=hcl.out _ (hbr.out _ hSw);obtain ⟨q0,q1,q2,q3⟩:=q;go_simp)<;>with_reducible rfl
   try simp only [Act.put,J1,J2,J3]
   refine Eqt.K1 6 ⟨some 100,_,_,_,_,_⟩ ?_ rfl (Or.inl ⟨by rfl,?_⟩) hH ?_
   rotate_left 1
   ·(intro w hSw;have q:=hbx.out _ (hbr0.out _ hSw);obtain ⟨q0,q1,q2,q3⟩:=q;go_simp)<;>with_reducible rfl
   try simp only [Act.put,J1,J2,J3]
   refine Eqt.K2 8 ⟨some 102,_,_,_,_,_⟩ ?_ rfl (Or.inl ⟨by rfl,?_⟩) (fun _=>hH) ?_
   rotate_left 1
   ·(intro w;go_simp)<;>with_reducible rfl
   try simp only [Act.put,J1,J2,J3]
   refine Eqt.K1 9 ⟨some 103,_,_,_,_,_⟩ ?_ rfl (Or.inl ⟨by rfl,?_⟩) hH ?_
   rotate_left 1
   ·(intro w hSw;have q:=hcl.out _ (hbr.out _ hSw);obtain ⟨q0,q1,q2,q3⟩:=q;go_simp)<;>with_reducible rfl
   try simp only [Act.put,J1,J2,J3]
   refine Eqt.K2 10 ⟨some 104,_,_,_,_,_⟩ (.bool false) rfl (Or.inl ⟨by rfl,?_⟩) (fun _=>hH) ?_
   ·(intro w;go_simp)
   try simp only [Act.put,J1,J2,J3]
   refine Eqt.K2 11 ⟨some 105,_,_,_,_,_⟩ ?_ rfl (Or.inl ⟨by rfl,?_⟩) (fun _=>hH) ?_
   rotate_left 1
   ·(intro w;go_simp)<;>with_reducible rfl
   try simp only [Act.put,J1,J2,J3]
   refine Eqt.K2 12 ⟨some 106,_,_,_,_,_⟩ ?_ rfl (Or.inl ⟨by rfl,?_⟩) (fun _=>hH) ?_
   rotate_left 1
   ·(intro w;go_simp)<;>with_reducible rfl
   try simp only [Act.put,J1,J2,J3]
   refine Eqt.K2 14 ⟨some 108,_,_,_,_,_⟩ ?_ rfl (Or.inl ⟨by rfl,?_⟩) (fun _=>hH) ?_
   rotate_left 1
   ·(intro w;go_simp)<;>with_reducible rfl
   try simp only [Act.put,J1,J2,J3]
   refine Eqt.K2 17 ⟨some 111,_,_,_,_,_⟩ ?_ rfl (Or.inl ⟨by rfl,?_⟩) (fun _=>hH) ?_
   rotate_left 1
   ·(intro w;go_simp)<;>with_reducible rfl
   try simp only [Act.put,J1,J2,J3]
   refine Eqt.K2 19 ⟨some 113,_,_,_,_,_⟩ ?_ rfl (Or.inl ⟨by rfl,?_⟩) (fun _=>hH) ?_
   rotate_left 1
   ·(intro w;go_simp)<;>with_reducible rfl
   try simp only [Act.put,J1,J2,J3]
   refine Eqt.K1 13 ⟨some 107,_,_,_,_,_⟩ ?_ rfl (Or.inl ⟨by rfl,?_⟩) hH ?_
   rotate_left 1
   ·(intro w hSw;have q:=hbx.out _ (hbr0.out _ hSw);obtain ⟨q0,q1,q2,q3⟩:=q;go_simp)<;>with_reducible rfl
   try simp only [Act.put,J1,J2,J3]
   refine Eqt.K2 15 ⟨some 109,_,_,_,_,_⟩ ?_ rfl (Or.inl ⟨by rfl,?_⟩) (fun _=>hH) ?_
   rotate_left 1
   ·(intro w;go_simp)<;>with_reducible rfl
   try simp only [Act.put,J1,J2,J3]
   refine Eqt.K1 16 ⟨some 110,_,_,_,_,_⟩ ?_ rfl (Or.inl ⟨by rfl,?_⟩) hH ?_
   rotate_left 1
   ·(intro w hSw;have q:=hcl.out _ (hbr.out _ hSw);obtain ⟨q0,q1,q2,q3⟩:=q;go_simp)<;>with_reducible rfl
   try simp only [Act.put,J1,J2,J3]
   refine Eqt.K1 18 ⟨some 112,_,_,_,_,_⟩ ?_ rfl (Or.inl ⟨by rfl,?_⟩) hH ?_
   rotate_left 1
   ·(intro w hSw;have q:=hbx.out _ (hbr0.out _ hSw);obtain ⟨q0,q1,q2,q3⟩:=q;go_simp)<;>with_reducible rfl
   try simp only [Act.put,J1,J2,J3]
   refine Eqt.K2 20 ⟨some 114,_,_,_,_,_⟩ ?_ rfl (Or.inl ⟨by rfl,?_⟩) (fun _=>hH) ?_
   rotate_left 1
   ·(intro w;go_simp)<;>with_reducible rfl
   try simp only [Act.put,J1,J2,J3]
   refine Eqt.K1 21 ⟨some 115,_,_,_,_,_⟩ ?_ rfl (Or.inl ⟨by rfl,?_⟩) hH ?_
   rotate_left 1
   ·(intro w hSw;have q:=hcl.out _ (hbr.out _ hSw);obtain ⟨q0,q1,q2,q3⟩:=q;go_simp)<;>with_reducible rfl
   try simp only [Act.put,J1,J2,J3]
   refine Eqt.wpAnyU_one 22 [18,13,9,6,4,1] (o:=⟨some 116,_,_,_,_,_⟩) (by kernel_rfl) rfl (by kernel_rfl) (fun K hK=>?_)
   go_simp
   go_at_call 27
   (with_reducible refine (hsm.out _ (hbr.out _ hH)).mono ?_)
   rintro e w6 ⟨rfl,hb6⟩
   replace hH:=Aa0 hH hb6
   refine hK.out _ _ (fun _=>hH) ?_
   clear hK K
   try simp only [Act.put,J1,J2,J3]
   refine Eqt.K2 23 ⟨some 117,_,_,_,_,_⟩ ?_ rfl (Or.inl ⟨by rfl,?_⟩) (fun _=>hH) ?_
   rotate_left 1
   ·(intro w;go_simp)<;>with_reducible rfl
   try simp only [Act.put,J1,J2,J3]
   refine Eqt.K2 24 ⟨some 118,_,_,_,_,_⟩ ?_ rfl (Or.inl ⟨by rfl,?_⟩) (fun _=>hH) ?_
   rotate_left 1
   ·(intro w;go_simp)<;>with_reducible rfl
   try simp only [Act.put,J1,J2,J3]
   refine Eqt.wpAnyU_done (by kernel_rfl) ?_ _
   (try dsimp only [Act.put])
   clear d0 d1 d2 d3
   go_wp2
   go_roundw
   case rel=>exact ⟨k+1,by omega,by go_num,J0 (hbr0.out _ hH)⟩
   case measure=>simp [intOf];omega
  ·obtain rfl:k=n:=by omega
   clear hsame
   go_wp2
   go_ret
   exact ⟨rfl,Aa0 hb0.out hR.out⟩
end
theorem Aj9 {Z:Zn} {ts:List TypeId} {a b:World} (h:Scn.Fr Z ts a b):Rw.Fr 0 ts a b:=⟨h.os,h.tape,h.output,h.size,fun k hk hn=>h.block k hk (.inr (hn.resolve_left (by omega)))⟩
theorem Br8 {Z:Zn} {ts:List TypeId} {a b:World} {B:Nat} (h:Scn.Fr Z ts a b) (hz:∀ k,k<B->¬ Z k) (hB:B<=a.heap.size):Below B a b:=⟨h.os,h.tape,h.output,h.size,fun k hk=>h.block k (by omega) (.inl (hz k hk))⟩
structure Kn (w wr:World) (d t:Nat) (T:Ter):Prop where
 tv:TV (fun k=>w.heap.size<=k) wr d t T
 ok:Ok T
 below:Below w.heap.size w wr
section
variable {w wr w':World} {d t:Nat} {T T':Ter} {x:AcT} {pa ia ta:Option Addr} {pn pc ic tn tc:Nat}
theorem Kn.on (h:Kn w wr d t T) (hb:Below wr.heap.size wr w'):Kn w w' d t T:=⟨h.tv.below hb,h.ok,Aa0 h.below hb⟩
theorem Kn.turn (h:Kn w wr d t T) (h1:TV (fun k=>w.heap.size<=k) w' d t T') (ho:Ok T') (hf:Scn.Fr (fun k=>w.heap.size<=k) TT wr w'):Kn w w' d t T':=⟨h1,ho,h.below.trans (Br8 hf (fun k hk=>by omega) h.below.size)⟩
theorem Kn.kept (h:Kn w wr d t T) {b:Nat} {ty:TypeId} (ho:Only [b] wr w') (hb:Typ wr b ty) (hB:w.heap.size<=b) (h1:∀ x∈TT,x∉[ty]) (h2:30∉[ty]):Kn w w' d t T:=by
 have hf:Scn.Fr (fun k=>w.heap.size<=k) [ty] wr w':=Scn.Fr.of_only ho fun k hk _=>by
  obtain rfl:k=b:=by simpa using hk
  exact ⟨hB,_,by simp,hb⟩
 obtain ⟨P,hP⟩:=h.tv.tm
 exact ⟨⟨Scn.Block.fr h.tv.blk hf (.inl h2),P,hP.kept hf h1 hP.low⟩,h.ok,h.below.trans (Br8 hf (fun k hk=>by omega) h.below.size)⟩
theorem Cn4 (h:Kn w wr d t T) (hw:Wf x) (hR:As5 T x) (hp:NA (fun k=>w.heap.size<=k) wr (.slice pa pn pc) x.params) (hra:RA (fun k=>w.heap.size<=k) wr ia x.inter):Calls Tryz.prog 9 #[.pointer (some ⟨d,0,none⟩),.agg #[.int .u8 x.kind,.int .i32 x.r,.int .i32 x.priv,.slice pa pn pc,.slice ia x.inter.length ic,.int .i32 x.fin,.slice ta tn tc]] wr fun e w'=>e=.returned (.int .i64 0)/\Kn w w' d t (doT T x)/\Rw.Fr 0 TT wr w' :=
 (Bt4 h.tv h.ok hw hR hp hra).mono fun _ _ ⟨he,h1,hf⟩=>⟨he,h.turn h1 (Cd2 h.ok x).ok hf,Aj9 hf⟩
theorem na_nil (Z:Zn) (w:World):NA Z w (.slice none 0 0) []:=⟨none,0,rfl,J5 _,by simp [maxLen],fun n hn=>by simp at hn,fun i y hy=>by simp at hy⟩
theorem Cg5 (Z:Zn) (w:World) (ao:Option Addr):RA Z w ao []:=fun i y hy=>by simp at hy
theorem Bw2 (h:Kn w wr d t T) (r:Int) (hr:(Lit.int .i32 r).wf=true) (hR:As5 T (prA r)):Calls Tryz.prog 9 #[.pointer (some ⟨d,0,none⟩),.agg #[.int .u8 1,.int .i32 r,.int .i32 0,.slice none 0 0,.slice none 0 0,.int .i32 0,.slice none 0 0]] wr fun e w'=>e=.returned (.int .i64 0)/\Kn w w' d t (doT T (prA r))/\Rw.Fr 0 TT wr w' :=
 Cn4 (x:=prA r) h ⟨(by decide:(Lit.int .u8 1).wf=true),hr,(by decide:(Lit.int .i32 0).wf=true),fun n hn=>by simp [prA] at hn⟩ hR (na_nil _ _) (Cg5 _ _ _)
theorem Ce2 (h:Kn w wr d t T) (pr:Int) (n f:Int) (hn:(Lit.int .i64 n).wf=true) (hf:(Lit.int .i32 f).wf=true) {g c:Nat} (hb:Block wr g 3 #[.int .i64 n]) (hc:1<=c/\c<=maxLen) (hR:As5 T (csA pr [n] f)):Calls Tryz.prog 9 #[.pointer (some ⟨d,0,none⟩),.agg #[.int .u8 4,.int .i32 0,.int .i32 pr,.slice (some ⟨g,0,none⟩) 1 c,.slice none 0 0,.int .i32 f,.slice none 0 0]] wr fun e w'=>e=.returned (.int .i64 0)/\Kn w w' d t (doT T (csA pr [n] f))/\Rw.Fr 0 TT wr w':=by
 refine Cn4 (x:=csA pr [n] f) h ⟨(by decide:(Lit.int .u8 4).wf=true),(by decide:(Lit.int .i32 0).wf=true),hf,fun n hn=>by simp [csA] at hn⟩ hR ⟨some ⟨g,0,none⟩,c,rfl,hc.1,hc.2,fun m hm=>?_,fun i y hy=>?_⟩ (Cg5 _ _ _)
 ·obtain rfl:m=n:=by simpa [csA] using hm
  exact hn
 ·rcases i with _|i
  ·obtain rfl:n=y:=by simpa [csA] using hy
   refine ⟨_,rfl,⟨hb.lt,.inr fun t' ht' hT=>?_⟩,?_⟩
   ·have e:=Typ.inj (Block.typ hb) hT
    rw [<- e] at ht'
    revert ht'
    decide
   ·exact hb.cell 0 rfl
  ·simp [csA] at hy
theorem Bj6 (h:Kn w wr d t T):Calls Tryz.prog 12 #[.pointer (some ⟨d,0,none⟩)] wr fun e w'=>∃ cv iv rs,e=.returned (.agg (Ah6 cv iv (gridG T)))/\GridT w.heap.size w' T cv iv rs/\Below wr.heap.size wr w'/\Kn w w' d t T :=
 (Bq8 h.tv h.ok).mono fun _ _ ⟨cv,iv,rs,he,hg,hb⟩=>⟨cv,iv,rs,he,hg.lower h.below.size,hb,h.on hb⟩
theorem kn_prints (h:Kn w wr d t T):Calls Tryz.prog 17 #[.pointer (some ⟨d,0,none⟩)] wr fun e w'=>e=.returned (.int .u64 T.prints)/\wr=w':=tprints_any h.tv
theorem kn_jour (h:Kn w wr d t T):Calls Tryz.prog 15 #[.pointer (some ⟨d,0,none⟩)] wr fun e w'=>(∃ ao c,e=.returned (.slice ao T.jr.length c))/\Kn w w' d t { T with jr:=[] }/\Rw.Fr 0 TT wr w' :=
 (tjournal_any h.tv).mono fun _ _ ⟨he,h1,hf⟩=>⟨he,h.turn h1 ⟨h.ok.fit,h.ok.fitm,h.ok.rows,h.ok.cols,h.ok.row,h.ok.col,h.ok.sv,h.ok.svm,h.ok.tn,h.ok.alt⟩ hf,Aj9 hf⟩
theorem kn_repl (h:Kn w wr d t T):Calls Tryz.prog 16 #[.pointer (some ⟨d,0,none⟩)] wr fun e w'=>(∃ v,e=.returned v/\Kys.Row w' 0 5 v T.rp)/\Kn w w' d t { T with rp:=[] }/\Rw.Fr 0 TT wr w' :=
 (treplies_any h.tv).mono fun _ _ ⟨he,h1,hf⟩=>⟨he,h.turn h1 ⟨h.ok.fit,h.ok.fitm,h.ok.rows,h.ok.cols,h.ok.row,h.ok.col,h.ok.sv,h.ok.svm,h.ok.tn,h.ok.alt⟩ hf,Aj9 hf⟩
theorem Ck2 (rows cols most:Nat) (hr1:1<=rows) (hr5:rows<=512) (hc1:1<=cols) (hc5:cols<=512):Ok (newT rows cols most):=Ok.begin (J5 1) hr1 hr5 hc1 hc5
theorem Cj6 (hT:Tbl w) (rows cols most:Nat) (hr1:1<=rows) (hr5:rows<=512) (hc1:1<=cols) (hc5:cols<=512) (hm:most<=10000):Calls Tryz.prog 18 #[.int .i64 rows,.int .i64 cols,.int .i64 most] w fun e w'=>∃ d t,e=.returned (.tuple #[.pointer (some ⟨d,0,none⟩),.int .i64 0])/\Kn w w' d t (newT rows cols most)/\Below w.heap.size w w' :=
 (tnew_yes hT rows cols most hr1 hr5 hc1 hc5 hm).mono fun _ _ ⟨d,t,he,_,hB,hTM,hb⟩=>⟨d,t,he,⟨⟨hB,hTM⟩,Ck2 rows cols most hr1 hr5 hc1 hc5,hb⟩,hb⟩
theorem same_told {B B':Nat} {w:World} {T1 T2:Ter} {cv iv cv' iv':Value} {rs rs':List TRow} (h1:GridT B w T1 cv iv rs) (h2:GridT B' w T2 cv' iv' rs') (ok:Ok T1) (hL:T2.vis.L=T1.vis.L) (hc:T2.vis.cols=T1.vis.cols) (hg:gridG T2=gridG T1) (h4:∀ p∈T1.vis.L,∀ c∈p.2,c.m.length<=4) :
  Calls Tryz.prog 11 #[.agg (Ah6 cv iv (gridG T1)),.agg (Ah6 cv' iv' (gridG T2))] w fun e w'=>e=.returned (.bool true)/\Below w.heap.size w w':=by
 obtain ⟨r2,l2,g2⟩:=h2
 rw [hL,hc] at r2
 rw [hL] at l2 g2
 rw [hg]
 refine samegrid_any T1.c.row T1.c.col T1.c.pend (!T1.m.a5) T1.other.isNone T1.vis.top T1.vis.bot T1.p.a.f T1.p.a.b T1.p.a.g h1.rws r2 (by rw [h1.len,List.length_map]) (g2.trans h1.got.symm) ok.fit.c5 (by rw [h1.len];exact ok.fit.len5) fun q hq=>?_
 have hm:q.2.map (·.1)∈T1.vis.L.map (·.2):=by
  rw [<- h1.got]
  exact List.mem_map.2 ⟨q,hq,rfl⟩
 obtain ⟨p,hp,e⟩:=List.mem_map.1 hm
 have hw:=ok.fit.wid p hp
 rw [e,List.length_map] at hw
 refine ⟨hw,fun x hx=>h4 p hp x.1 ?_⟩
 rw [e]
 exact List.mem_map.2 ⟨x,hx,rfl⟩
end
def opT (T:Ter) (o:OpA):Ter:=if o.size then resizeT T o.rows o.cols else doT T o.x
def runT (T:Ter) (os:List OpA):Ter:=os.foldl opT T
def Aj4 (o:OpA):Bool:=!((o.size && (decide (12<o.rows) || decide (24<o.cols))) || Bc5 o.x.params.length o.x.inter.length o.x.text.length)
structure Rm (n:Nat) (T:Ter):Prop where
 ok:Ok T
 len:T.vis.L.length<=12
 nx:T.nx<=20+500*n
 jr:T.jr.length<=90*n
 rp:T.rp.length<=20*n
 pr:T.prints<=n
section
variable {T:Ter} {n:Nat} {o:OpA}
theorem Ck8 (ok:Ok T) {rows cols:Nat} (hr1:1<=rows) (hr5:rows<=512) (hc1:1<=cols) (hc5:cols<=512):Ok (Ae3 T rows cols)/\(Ae3 T rows cols).vis.L.length=rows/\T.nx<=(Ae3 T rows cols).nx/\(Ae3 T rows cols).nx<=T.nx+2*rows/\(Ae3 T rows cols).jr.length=T.jr.length+1/\(Ae3 T rows cols).rp=T.rp/\(Ae3 T rows cols).prints=T.prints:=by
 have hput:∀ S,(T.putVis S).rp=T.rp/\(T.putVis S).prints=T.prints/\(T.putVis S).jr=T.jr/\(T.putVis S).nx=S.nx:=fun S=>by unfold Ter.putVis;split<;>exact ⟨rfl,rfl,rfl,rfl⟩
 obtain ⟨p1,p2,p3,p4⟩:=hput (resS T.vis rows cols T.c.row)
 obtain ⟨n1,n2,_⟩:=Ap8 T.vis rows cols T.c.row
 have n0:T.vis.nx=T.nx:=rfl
 have main:∀ T2:Ter,Szd T T2 rows cols->T2.rp=T.rp->T2.prints=T.prints->T.nx<=T2.nx->T2.nx<=T.nx+2*rows->∀ r c:Int,∀ T3,T3=move { T2 with main:=T2.main.hold,tf:=Tbs.resizeF T.tn cols T.tf,tn:=cols } r c ->
   Ok T3/\T3.vis.L.length=rows/\T.nx<=T3.nx/\T3.nx<=T.nx+2*rows/\T3.jr.length=T.jr.length+1/\T3.rp=T.rp/\T3.prints=T.prints:=fun T2 hS h1 h2 h3 h4 r c T3 h5=>by
  subst h5
  obtain ⟨q1,_⟩:=hS.ok hr1 hc1 (Tbs.resizeF T.tn cols T.tf) r c
  have q3:=q1.tellOther
  refine ⟨q3,?_,h3,h4,?_,h1,h2⟩
  ·exact q3.rows.symm.trans hS.mlen
  ·show (T2.jr++[_]).length=_
   rw [hS.jr]
   simp
 unfold Ae3
 rcases hoo:T.other with _|o
 ·simp only [Option.isSome_none,Bool.false_eq_true,if_false]
  exact main _ (By5 ok hoo hr1 hr5 hc1 hc5) p1 p2 (by omega) (by omega) _ _ _ rfl
 ·simp only [Option.isSome_some,if_true]
  obtain ⟨_,_,_,_,_,hS⟩:=By6 ok hoo hr1 hr5 hc1 hc5
  obtain ⟨m1,m2,_⟩:=Ap8 (T.putVis (resS T.vis rows cols T.c.row)).mscr rows cols (T.putVis (resS T.vis rows cols T.c.row)).main.sv.c.row
  have m0:(T.putVis (resS T.vis rows cols T.c.row)).mscr.nx=(T.putVis (resS T.vis rows cols T.c.row)).nx:=rfl
  have m3:(Ai7 (T.putVis (resS T.vis rows cols T.c.row)) rows cols).nx=(resS (T.putVis (resS T.vis rows cols T.c.row)).mscr rows cols (T.putVis (resS T.vis rows cols T.c.row)).main.sv.c.row).nx:=rfl
  exact main _ hS p1 p2 (by omega) (by omega) _ _ _ rfl
theorem Ok.resizeT (ok:Ok T) (r c:Int):Ok (resizeT T r c):=by
 unfold Emu.resizeT
 split
 ·next h =>
  obtain ⟨⟨a1,a2⟩,b1,b2⟩:=h
  exact (Ck8 ok (by omega) (by omega) (by omega) (by omega)).1
 ·exact ok
theorem Bh3 (h:Aj4 o=true):o.x.params.length<=40/\o.x.inter.length<=10/\(o.size=true->o.rows<=12/\o.cols<=24):=by
 unfold Aj4 Bc5 at h
 simp only [Bool.not_eq_true',Bool.or_eq_false_iff,Bool.and_eq_false_iff,decide_eq_false_iff_not] at h
 obtain ⟨h1,h2,h3,_⟩:=h
 refine ⟨by omega,by omega,fun hs=>?_⟩
 rcases h1 with h1|h1
 ·rw [hs] at h1;cases h1
 ·omega
theorem Rm.room (h:Rm n T) (hn:n<=500) (ht:Aj4 o=true):As5 T o.x:=by
 obtain ⟨h1,h2,h3,h4,h5,h6⟩:=h
 have:=(Bh3 ht).1
 have hr:=h1.rows
 exact ⟨by omega,by omega,by omega,by omega,by rw [hr];omega⟩
theorem Rm.op (h:Rm n T) (ht:Aj4 o=true):Rm (n+1) (opT T o):=by
 obtain ⟨h1,h2,h3,h4,h5,h6⟩:=h
 obtain ⟨t1,_,t2⟩:=Bh3 ht
 unfold opT
 split
 ·next hs =>
  obtain ⟨t3,t4⟩:=t2 hs
  unfold resizeT
  split
  ·next hm =>
   obtain ⟨⟨a1,a2⟩,b1,b2⟩:=hm
   obtain ⟨q1,q2,q3,q4,q5,q6,q7⟩:=Ck8 h1 (rows:=o.rows.toNat) (cols:=o.cols.toNat) (by omega) (by omega) (by omega) (by omega)
   exact ⟨q1,by omega,by omega,by omega,by rw [q6];omega,by rw [q7];omega⟩
  ·exact ⟨h1,h2,by omega,by omega,by omega,by omega⟩
 ·have g:=Cd2 h1 o.x
  have gn:=g.nx
  have gl:=g.len
  have g5:(o.x.params.length+1)*T.vis.L.length<=41*12:=Nat.mul_le_mul (by omega) h2
  have gj:=g.jr
  have gr:=g.rp
  have gp:=g.pr
  exact ⟨g.ok,by omega,by omega,by omega,by omega,by omega⟩
theorem Rm.run {os:List OpA}:∀ {n:Nat} {T:Ter},Rm n T->(∀ o∈os,Aj4 o=true)->Rm (n+os.length) (runT T os):=by
 induction os with
 |nil=>exact fun h _=>h
 |cons o os ih =>
  intro n T h ht
  have h1:=ih (h.op (ht o (by simp))) (fun o' ho=>ht o' (by simp [ho]))
  rw [List.length_cons,show n+(os.length+1)=n+1+os.length by omega]
  exact h1
theorem Bq3 {os:List OpA} {k:Nat} (hk:k<os.length):runT T (os.take (k+1))=opT (runT T (os.take k)) os[k]:=by
 unfold runT
 rw [List.take_add_one,List.getElem?_eq_getElem hk,List.foldl_append]
 rfl
end
structure TZ (Z:Zn) (W wr:World) (d t:Nat) (T:Ter):Prop where
 tv:TV Z wr d t T
 ok:Ok T
 below:Below W.heap.size W wr
 out:∀ k,k<W.heap.size->¬ Z k
section
variable {Z:Zn} {W w wr w':World} {d t:Nat} {T T':Ter} {x:AcT} {q:Pl3} {o:OpA}
theorem Kn.tz (h:Kn W wr d t T):TZ (fun k=>W.heap.size<=k) W wr d t T:=⟨h.tv,h.ok,h.below,fun k hk=>by omega⟩
theorem TZ.on (h:TZ Z W wr d t T) (hb:Below wr.heap.size wr w'):TZ Z W w' d t T:=⟨h.tv.below hb,h.ok,Aa0 h.below hb,h.out⟩
theorem Bc3 {ts:List TypeId} (hB:Below W.heap.size W wr) (hz:∀ k,k<W.heap.size->¬ Z k) (hf:Scn.Fr Z ts wr w'):Below W.heap.size W w':=hB.trans (Br8 hf hz hB.size)
theorem na_in (h:Ca6 W x q) (hb:Below W.heap.size W wr) (hz:∀ k,k<W.heap.size->¬ Z k):NA Z wr (.slice q.pa x.params.length q.pc) x.params:=by
 refine ⟨q.pa,q.pc,rfl,h.par.1,h.par.2.1,h.par.2.2.1,fun i y hy=>?_⟩
 obtain ⟨ad,e,hlt,hc⟩:=h.par.2.2.2 i y hy
 exact ⟨ad,e,⟨Nat.lt_of_lt_of_le hlt hb.size,.inl (hz _ hlt)⟩,(World.cell?_of_block (w:=W) (by rw [block_add];exact hb.block _ hlt)).trans hc⟩
theorem ra_in (h:Ca6 W x q) (hb:Below W.heap.size W wr) (hz:∀ k,k<W.heap.size->¬ Z k):RA Z wr q.ia x.inter:=fun i y hy=>by
 obtain ⟨ad,e,hlt,hc⟩:=h.int.2 i y hy
 exact ⟨ad,e,⟨Nat.lt_of_lt_of_le hlt hb.size,.inl (hz _ hlt)⟩,(World.cell?_of_block (w:=W) (by rw [block_add];exact hb.block _ hlt)).trans hc⟩
theorem TZ.act (h:TZ Z W wr d t T) (hi:Ca6 W x q) (hR:As5 T x):Calls Tryz.prog 9 #[.pointer (some ⟨d,0,none⟩),.agg (acV x q).toArray] wr fun e w'=>e=.returned (.int .i64 0)/\TZ Z W w' d t (doT T x)/\Scn.Fr Z TT wr w' :=
 (Bt4 (x:=x) (ic:=q.ic) (ta:=q.ta) (tn:=x.text.length) (tc:=q.tc) h.tv h.ok ⟨hi.kind,hi.r,hi.fin,hi.int.1⟩ hR (na_in hi h.below h.out) (ra_in hi h.below h.out)).mono fun _ _ ⟨he,h1,hf⟩=>⟨he,⟨h1,(Cd2 h.ok x).ok,Bc3 h.below h.out hf,h.out⟩,hf⟩
theorem tresize_any (h:TV Z wr d t T) (ok:Ok T) (r c:Int) (hnx:T.nx<=990000) (hj:T.jr.length<=90000):Calls Tryz.prog 10 #[.pointer (some ⟨d,0,none⟩),.int .i64 r,.int .i64 c] wr fun e w'=>e=.returned (.int .i64 (if Ag9 r c then 0 else 2))/\TV Z w' d t (resizeT T r c)/\Scn.Fr Z TT wr w':=by
 have hm:=J0 (Ah3 h)
 have c0:=h.blk.cell 0 (v:=.pointer (some ⟨t,0,none⟩)) rfl
 obtain ⟨P,hT⟩:=h.tm
 have hrs:=J0 (resize_any hT ok r c hnx hj)
 have hend:=J0 (fun w1 (h1:TM Z w1 t (resizeT T r c)) (hf:Scn.Fr Z TT wr w1)=>h.turn h1 hf)
 generalize resizeT T r c=T2 at hrs hend |-
 generalize (if Ag9 r c then (0:Int) else 2)=y at hrs |-
 clear h hT ok
 go_enter Tryz.func10,Tryz.ntmps10
 go_wp2_with (first
  |(go_at_call 24;(with_reducible refine (hm.out).mono ?_);rintro e w1 ⟨rfl,rfl⟩)
  |(go_at_call 26;(with_reducible refine (hrs.out).mono ?_);rintro e w2 ⟨rfl,h2,hf2⟩))
 go_ret
 exact ⟨rfl,hend.out _ h2 hf2,hf2⟩
theorem TZ.res (h:TZ Z W wr d t T) (r c:Int) (hnx:T.nx<=990000) (hj:T.jr.length<=90000):Calls Tryz.prog 10 #[.pointer (some ⟨d,0,none⟩),.int .i64 r,.int .i64 c] wr fun e w'=>e=.returned (.int .i64 (if Ag9 r c then 0 else 2))/\TZ Z W w' d t (resizeT T r c)/\Scn.Fr Z TT wr w' :=
 (tresize_any h.tv h.ok r c hnx hj).mono fun _ _ ⟨he,h1,hf⟩=>⟨he,⟨h1,h.ok.resizeT r c,Bc3 h.below h.out hf,h.out⟩,hf⟩
end
