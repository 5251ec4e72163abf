/- Part 48 of the proof that the card of EmuAside holds. -/
import Derived.Test.YtkjpjegmanpbfaaGreatDoorPA46
import Derived.Test.YtkjpjegmanpbfaaGreatDoorPA47
set_option maxHeartbeats 16000000
set_option maxRecDepth 100000
namespace Go.Proofs.YtkjpjegmanpbfaaGreatDoor.Emu
open Go RowKit Com Rw Lns Scn
def Cn7 (T:Ter) (x:AcT):Bool:=decide (T.jr.length<=88000) && (decide (T.prints<=999000) && (decide (T.rp.length<=1000000) && (decide (x.params.length<=100) && decide (T.nx+100*T.main.L.length<=990000))))
theorem Ap9 {T:Ter} {x:AcT} (h:Cn7 T x=true):As5 T x:=by
 simp only [Cn7,Bool.and_eq_true,decide_eq_true_eq] at h
 exact ⟨h.1,h.2.1,h.2.2.1,h.2.2.2.1,h.2.2.2.2⟩
def abcd:ByteArray:={ data:=#[97,98,99,100] }
def abcdL:List Int:=[97,98,99,100]
theorem abcd_is:Ak6 abcd=abcdL:=by kernel_rfl
theorem abcd_low:∀ k (h:k<abcd.size),(abcd[k]'h).toNat<128:=by decide
def oneE:ByteArray:={ data:=#[101] }
theorem oneE_is:Ak6 oneE=[101]:=by kernel_rfl
theorem oneE_low:∀ k (h:k<oneE.size),(oneE[k]'h).toNat<128:=by decide
def kT (k:Nat):Ter:=(abcdL.take k).foldl (fun T r=>doT T (prA r)) k0
theorem kT_4:kT 4=k4:=rfl
theorem kT_next {k:Nat} (h:k<4):kT (k+1)=doT (kT k) (prA (abcdL[k]'h)):=by
 match k,h with
 |0,_=>rfl
 |1,_=>rfl
 |2,_=>rfl
 |3,_=>rfl
theorem kT_room {k:Nat} (h:k<4):As5 (kT k) (prA (abcdL[k]'h))/\(Lit.int .i32 (abcdL[k]'h)).wf=true:=by
 match k,h with
 |0,_=>exact ⟨Ap9 (by kernel_rfl),by kernel_rfl⟩
 |1,_=>exact ⟨Ap9 (by kernel_rfl),by kernel_rfl⟩
 |2,_=>exact ⟨Ap9 (by kernel_rfl),by kernel_rfl⟩
 |3,_=>exact ⟨Ap9 (by kernel_rfl),by kernel_rfl⟩
section
variable {w w':World} {B:Nat} {v:Value} {l:List Int}
theorem flat7 {l:List Int} {k j:Nat} (hk:k<l.length) (hj:j<7):(fl prV l)[k*7+j]?=(prV (l[k]'hk))[j]?:=by
 induction l generalizing k with
 |nil=>simp at hk
 |cons a l ih =>
  have e:fl prV (a::l)=prV a++fl prV l:=by rw [show a::l=[a]++l from rfl,fl_app,fl_one]
  rw [e]
  rcases k with _|k
  ·rw [Nat.zero_mul,Nat.zero_add,List.getElem?_append_left (by rw [prV_length];exact hj)]
   rfl
  ·rw [List.getElem?_append_right (by rw [prV_length];omega),prV_length,show (k+1)*7+j - 7=k*7+j by omega]
   exact ih (by simpa using hk)
theorem Cb5 (h:w.ownsRow B 25 7 v l.length (fl prV l)) {k:Nat} (hk:k<l.length):∃ g c,v=.slice (some ⟨g,0,none⟩) l.length c/\l.length<=c/\c<=maxLen/\∀ j u,(prV (l[k]'hk))[j]?=some u->w.cell? ⟨g,k*7+j,none⟩=some u:=by
 obtain ⟨g,c,tail,rfl,_,hb,h1,h2⟩:=Ae5 h (by omega)
 refine ⟨g,c,rfl,h1,h2,fun j u hu=>hb.cell _ ?_⟩
 have hj:j<7:=by
  have:=(List.getElem?_eq_some_iff.1 hu).1
  rw [prV_length] at this
  exact this
 rw [List.getElem?_toArray,List.getElem?_append_left (by rw [Ab3 prV_length];have:=Nat.mul_le_mul_right 7 (Nat.succ_le_of_lt hk);omega),flat7 hk hj]
 exact hu
end
section
variable {w wr w':World} {B:Nat} {T:Ter} {cv iv:Value} {rs:List TRow}
theorem GridT.cell (h:GridT B w T cv iv rs) {i j:Nat} (hi:i<T.vis.L.length) (hj:j<(T.vis.L[i]).2.length):∃ g c x,cv=.slice (some ⟨g,0,none⟩) T.vis.L.length c/\T.vis.L.length<=c/\c<=maxLen/\w.cell? ⟨g,i,none⟩=some (.slice (some ⟨x,0,none⟩) T.vis.cols T.vis.cols) /\
  w.cell? ⟨x,j*6,none⟩=some (.int .i32 (((T.vis.L[i]).2)[j]).r)/\w.cell? ⟨x,j*6+2,none⟩=some (.int .u8 (((T.vis.L[i]).2)[j]).wide)/\w.cell? ⟨x,j*6+3,none⟩=some (.int .u32 (((T.vis.L[i]).2)[j]).a.f)/\w.cell? ⟨x,j*6+4,none⟩=some (.int .u32 (((T.vis.L[i]).2)[j]).a.b)/\w.cell? ⟨x,j*6+5,none⟩=some (.int .u16 (((T.vis.L[i]).2)[j]).a.g):=by
 have hi':i<rs.length:=by rw [h.len];exact hi
 obtain ⟨g,c,e,h1,h2,hc⟩:=h.rws.cv_at hi'
 rw [h.len] at e h1
 have hA:=h.rws.apis _ (List.getElem_mem hi')
 have hg:=congrArg (·[i]?) h.got
 simp only [List.getElem?_map,List.getElem?_eq_getElem hi',List.getElem?_eq_getElem hi,Option.map_some,Option.some.injEq] at hg
 have hj':j<(rs[i]'hi').2.length:=by
  have:=congrArg List.length hg
  rw [List.length_map] at this
  omega
 have hx:=api6 hA hj'
 have he:((rs[i]'hi').2[j]'hj').1=((T.vis.L[i]).2)[j]:=by
  have:=congrArg (·[j]?) hg
  simp only [List.getElem?_map,List.getElem?_eq_getElem hj',List.getElem?_eq_getElem hj,Option.map_some,Option.some.injEq] at this
  exact this
 rw [he] at hx
 exact ⟨g,c,_,e,h1,h2,hc,hx.1,hx.2.2⟩
theorem GridT.ivs (h:GridT B w T cv iv rs):∃ a c,iv=.slice a T.vis.L.length c:=by
 obtain ⟨a,c,e,_⟩:=h.rws.ids.shape
 rw [List.length_map] at e
 exact ⟨a,c,e⟩
theorem k4_G:gridG k4=[.int .i64 0,.int .i64 3,.bool true,.bool false,.bool true,.int .i64 0,.int .i64 1,.int .u32 0,.int .u32 0,.int .u16 0]:=by kernel_rfl
theorem k5_G:gridG k5=[.int .i64 1,.int .i64 1,.bool false,.bool false,.bool true,.int .i64 0,.int .i64 1,.int .u32 0,.int .u32 0,.int .u16 0]:=by kernel_rfl
theorem k6_G:gridG k6=[.int .i64 1,.int .i64 1,.bool false,.bool false,.bool false,.int .i64 0,.int .i64 1,.int .u32 0,.int .u32 0,.int .u16 0]:=by kernel_rfl
theorem k7_G:gridG k7=[.int .i64 1,.int .i64 1,.bool false,.bool false,.bool true,.int .i64 0,.int .i64 1,.int .u32 0,.int .u32 0,.int .u16 0]:=by kernel_rfl
theorem Cc9 (h:GridT B w k4 cv iv rs):∃ g c x a c2,Ah6 cv iv (gridG k4)=#[.slice (some ⟨g,0,none⟩) 2 c,.slice a 2 c2,.int .i64 0,.int .i64 3,.bool true,.bool false,.bool true,.int .i64 0,.int .i64 1,.int .u32 0,.int .u32 0,.int .u16 0] /\
  w.cell? ⟨g,0,none⟩=some (.slice (some ⟨x,0,none⟩) 4 4)/\w.cell? ⟨x,18,none⟩=some (.int .i32 100):=by
 obtain ⟨g,c,x,rfl,_,_,h1,h2,_⟩:=h.cell (i:=0) (j:=3) (by decide) (by decide)
 obtain ⟨a,c2,rfl⟩:=h.ivs
 exact ⟨g,c,x,a,c2,by rw [k4_G];rfl,h1,h2⟩
theorem Cd0 (h:GridT B w k5 cv iv rs):∃ g c x a c2,Ah6 cv iv (gridG k5)=#[.slice (some ⟨g,0,none⟩) 2 c,.slice a 2 c2,.int .i64 1,.int .i64 1,.bool false,.bool false,.bool true,.int .i64 0,.int .i64 1,.int .u32 0,.int .u32 0,.int .u16 0] /\
  w.cell? ⟨g,1,none⟩=some (.slice (some ⟨x,0,none⟩) 4 4)/\w.cell? ⟨x,0,none⟩=some (.int .i32 101):=by
 obtain ⟨g,c,x,rfl,_,_,h1,h2,_⟩:=h.cell (i:=1) (j:=0) (by decide) (by decide)
 obtain ⟨a,c2,rfl⟩:=h.ivs
 exact ⟨g,c,x,a,c2,by rw [k5_G];rfl,h1,h2⟩
theorem Cd1 (h:GridT B w k6 cv iv rs):∃ g c x a c2,Ah6 cv iv (gridG k6)=#[.slice (some ⟨g,0,none⟩) 2 c,.slice a 2 c2,.int .i64 1,.int .i64 1,.bool false,.bool false,.bool false,.int .i64 0,.int .i64 1,.int .u32 0,.int .u32 0,.int .u16 0] /\
  w.cell? ⟨g,1,none⟩=some (.slice (some ⟨x,0,none⟩) 4 4)/\w.cell? ⟨x,0,none⟩=some (.int .i32 32):=by
 obtain ⟨g,c,x,rfl,_,_,h1,h2,_⟩:=h.cell (i:=1) (j:=0) (by decide) (by decide)
 obtain ⟨a,c2,rfl⟩:=h.ivs
 exact ⟨g,c,x,a,c2,by rw [k6_G];rfl,h1,h2⟩
end
section
variable {w wr w':World} {d t:Nat}
theorem k5r_prints (h:Kn w wr d t k5r):Calls Tryz.prog 17 #[.pointer (some ⟨d,0,none⟩)] wr fun e w'=>e=.returned (.int .u64 5)/\wr=w':=by
 have e:((k5r.prints:Nat):Int)=5:=by kernel_rfl
 have h1:=kn_prints h
 rw [e] at h1
 exact h1
theorem k5r_jour (h:Kn w wr d t k5r):Calls Tryz.prog 15 #[.pointer (some ⟨d,0,none⟩)] wr fun e w'=>(∃ ao c,e=.returned (.slice ao 6 c))/\Kn w w' d t k5j/\Rw.Fr 0 TT wr w':=by
 have e:k5r.jr.length=6:=by kernel_rfl
 have h1:=kn_jour h
 rw [e] at h1
 exact h1
theorem Bo3 (hT:Tbl w):Calls Tryz.prog 8 #[] w fun e w'=>e=.returned (.bool true)/\Below w.heap.size w w':=by
 have hnew:Hid (Calls Tryz.prog 18 #[.int .i64 2,.int .i64 4,.int .i64 5] w fun e w'=>∃ d t,e=.returned (.tuple #[.pointer (some ⟨d,0,none⟩),.int .i64 0])/\Kn w w' d t k0/\Below w.heap.size w w'):=J0 (Cj6 hT 2 4 5 (by omega) (by omega) (by omega) (by omega) (by omega))
 have htx:=J0 (fun w1=>Bz0 abcd abcd_low (by decide) w1)
 have hte:=J0 (fun w1=>Bz0 oneE oneE_low (by decide) w1)
 clear hT
 go_enter Tryz.func8,Tryz.ntmps8
 go_wp2_with ((go_at_call 18;(with_reducible refine (hnew.out).mono ?_);rintro e w1 ⟨d,t,rfl,hK,hb1⟩))
 clear hnew
 refine Calls.mono (show Calls _ _ #[.string { data:=#[97,98,99,100] }] w1 (Ci0 w1 abcd) from htx.out w1) ?_
 rintro e w2 ⟨v,rfl,hact,hb2⟩
 replace hK:=hK.on hb2
 have hsz:abcd.size=4:=rfl
 rw [hsz,abcd_is] at hact
 obtain ⟨a,c,rfl,_,_⟩:=Ac0 hact
 go_wp2
 clear hb1 hb2
 have hst:Hid (Kn w w2 d t (kT 0)/\w2.ownsRow w1.heap.size 25 7 (.slice a 4 c) 4 (fl prV abcdL)):=J0 ⟨hK,hact⟩
 clear hK hact
 go_loopw [19] (fun i wr=>∃ k:Nat,k<=4/\i=.int .i64 k/\Hid (Kn w wr d t (kT k)/\wr.ownsRow w1.heap.size 25 7 (.slice a 4 c) 4 (fl prV abcdL))) (fun i _=>4 - (intOf i).toNat)
 case atStart=>exact ⟨0,Nat.zero_le _,rfl,hst⟩
 case round =>
  obtain ⟨k,hk,rfl,hR⟩:=hrel
  clear hst
  by_cases hlt:k<4
  ·have hkI:(k:Int)<4:=by omega
   obtain ⟨hKr,hact⟩:=hR.out
   have hat:=Cb5 (l:=abcdL) hact hlt
   obtain ⟨g,c',e9,-,-,hcell⟩:=hat
   have hrm:=kT_room hlt
   simp only [Value.slice.injEq] at e9
   obtain ⟨rfl,-,rfl⟩:=e9
   have hnx:=kT_next hlt
   generalize abcdL[k]'hlt=r at hcell hrm hnx
   have x0:wr.cell? ⟨g,k*7,none⟩=some (.int .u8 1):=hcell 0 _ rfl
   have x1:wr.cell? ⟨g,k*7+1,none⟩=some (.int .i32 r):=hcell 1 _ rfl
   have x2:wr.cell? ⟨g,k*7+2,none⟩=some (.int .i32 0):=hcell 2 _ rfl
   have x3:wr.cell? ⟨g,k*7+3,none⟩=some (.slice none 0 0):=hcell 3 _ rfl
   have x4:wr.cell? ⟨g,k*7+4,none⟩=some (.slice none 0 0):=hcell 4 _ rfl
   have x5:wr.cell? ⟨g,k*7+5,none⟩=some (.int .i32 0):=hcell 5 _ rfl
   have x6:wr.cell? ⟨g,k*7+6,none⟩=some (.slice none 0 0):=hcell 6 _ rfl
   clear hcell
   have hdo:=J0 (Bw2 (hKr.on (Aa1 wr (.cells #[.int .u8 1,.int .i32 r,.int .i32 0,.slice none 0 0,.slice none 0 0,.int .i32 0,.slice none 0 0] 25))) r hrm.2 hrm.1)
   rw [<- hnx] at hdo
   have hend:=J0 (fun w3 (hf:Rw.Fr 0 TT (wr.alloc (.cells #[.int .u8 1,.int .i32 r,.int .i32 0,.slice none 0 0,.slice none 0 0,.int .i32 0,.slice none 0 0] 25)) w3)=>Ai6 (Ac8 hact (Only.of_below (Aa1 wr (.cells #[.int .u8 1,.int .i32 r,.int .i32 0,.slice none 0 0,.slice none 0 0,.int .i32 0,.slice none 0 0] 25)) []) (by simp)) hf (by decide))
   clear hKr hact hrm hnx hR
   go_wp2_with ((go_at_call 9;(with_reducible refine (hdo.out).mono ?_);rintro e w3 ⟨rfl,hK3,hf3⟩))
   have hR3:=J0 (And.intro hK3 (hend.out _ hf3))
   clear hK3 hf3 hdo hend x0 x1 x2 x3 x4 x5 x6
   go_roundw
   case rel=>exact ⟨k+1,by omega,by go_num,hR3⟩
   case measure=>simp [intOf];omega
  ·obtain rfl:k=4:=by omega
   obtain ⟨hK,_⟩:=hR.out
   rw [kT_4] at hK
   clear hR
   go_wp2_with fail
   refine (Bj6 hK).mono ?_
   rintro e w4 ⟨cv,iv,rs,rfl,hg,hb4,hK4⟩
   obtain ⟨g,c4,x,a2,c2,e9,-,-⟩:=Cc9 hg
   rw [e9]
   go_upto_region 10 with (fail)
   have hbn:=Aa1 w4 (.cells #[.slice (some ⟨g,0,none⟩) 2 c4,.slice a2 2 c2,.int .i64 0,.int .i64 3,.bool true,.bool false,.bool true,.int .i64 0,.int .i64 1,.int .u32 0,.int .u32 0,.int .u16 0] 43)
   have hbx:=Block.made w4 43 #[.slice (some ⟨g,0,none⟩) 2 c4,.slice a2 2 c2,.int .i64 0,.int .i64 3,.bool true,.bool false,.bool true,.int .i64 0,.int .i64 1,.int .u32 0,.int .u32 0,.int .u16 0]
   replace hK:=hK4.on hbn
   replace hg:=hg.below hbn
   have hb5:=J0 hK4.below.size
   generalize w4.heap.size=b5 at hbx hb5 |-
   generalize w4.alloc (.cells #[.slice (some ⟨g,0,none⟩) 2 c4,.slice a2 2 c2,.int .i64 0,.int .i64 3,.bool true,.bool false,.bool true,.int .i64 0,.int .i64 1,.int .u32 0,.int .u32 0,.int .u16 0] 43)=w5 at hK hg hbx |-
   have hd:=Cc9 hg
   obtain ⟨g',c4',x,a2',c2',e9',d0,d1⟩:=hd
   rw [e9] at e9'
   simp only [Array.mk.injEq,List.cons.injEq,Value.slice.injEq,Option.some.injEq,Addr.mk.injEq] at e9'
   obtain ⟨⟨rfl,-⟩,-⟩:=e9'.1
   clear e9' e9 hb4 hK4 hg
   have y0:=hbx.cell 0 (v:=.slice (some ⟨g,0,none⟩) 2 c4) rfl
   have y2:=hbx.cell 2 (v:=.int .i64 0) rfl
   have y3:=hbx.cell 3 (v:=.int .i64 3) rfl
   have y4:=hbx.cell 4 (v:=.bool true) rfl
   replace hK:=J0 hK
   replace hbx:=J0 hbx
   go_wp2_with fail
   refine Calls.mono (show Calls _ _ #[.string { data:=#[101] }] w5 (Ci0 w5 oneE) from hte.out w5) ?_
   rintro e w6 ⟨v6,rfl,hact,hb6⟩
   have hsz6:oneE.size=1:=rfl
   rw [hsz6,oneE_is] at hact
   obtain ⟨g6,c6,rfl,-,-,hcell⟩:=Cb5 (l:=[101]) hact (k:=0) (by decide)
   have x0:w6.cell? ⟨g6,0,none⟩=some (.int .u8 1):=hcell 0 _ rfl
   have x1:w6.cell? ⟨g6,1,none⟩=some (.int .i32 101):=hcell 1 _ rfl
   have x2:w6.cell? ⟨g6,2,none⟩=some (.int .i32 0):=hcell 2 _ rfl
   have x3:w6.cell? ⟨g6,3,none⟩=some (.slice none 0 0):=hcell 3 _ rfl
   have x4:w6.cell? ⟨g6,4,none⟩=some (.slice none 0 0):=hcell 4 _ rfl
   have x5:w6.cell? ⟨g6,5,none⟩=some (.int .i32 0):=hcell 5 _ rfl
   have x6:w6.cell? ⟨g6,6,none⟩=some (.slice none 0 0):=hcell 6 _ rfl
   change w6.ownsRow w5.heap.size 25 7 (.slice (some ⟨g6,0,none⟩) 1 c6) 1 (fl prV [101]) at hact
   have hK6:=hK.out.on hb6
   have hbx6:=Block.only hbx.out (Only.of_below hb6 []) (by simp)
   have hdo:=J0 (Bw2 hK6 101 (by decide) (Ap9 (by kernel_rfl)))
   rw [show ([101]:List Int).length=1 from rfl]
   clear hcell hsz6 hact y0 y2 y3 y4 d0 d1 hK hb6
   replace hbx6:=J0 hbx6
   clear hbx hK6
   go_upto_region 13 with ((go_at_call 9;(with_reducible refine (hdo.out).mono ?_);rintro e w7 ⟨rfl,hK7,hf7⟩))
   have hbx7:=Rw.Block.fr hbx6.out hf7 (.inl (by decide))
   clear hbx6 hf7 hdo x0 x1 x2 x3 x4 x5 x6
   have hb8:=Aa1 w7 (.cells #[.int .i64 6] 3)
   have hb8x:=Block.made w7 3 #[.int .i64 6]
   have hK8:=hK7.on hb8
   have hbx8:=Block.only hbx7 (Only.of_below hb8 []) (by simp)
   have hcs:=J0 (csi_any 110 (some ⟨w7.heap.size,0,none⟩) 1 1 (w7.alloc (.cells #[.int .i64 6] 3)))
   have hdo:=J0 (fun w9 (hb:Below (w7.alloc (.cells #[.int .i64 6] 3)).heap.size (w7.alloc (.cells #[.int .i64 6] 3)) w9)=>Ce2 (c:=1) (hK8.on hb) 0 6 110 (by decide) (by decide) (Block.only hb8x (Only.of_below hb []) (by simp)) (by simp [maxLen]) (Ap9 (by kernel_rfl)))
   replace hbx8:=J0 hbx8
   clear hbx7 hb8x hb8 hK8 hK7
   go_upto_region 14 with (first
    |(go_at_call 23;(with_reducible refine (hcs.out).mono ?_);rintro e w9 ⟨rfl,hb9⟩)
    |(go_at_call 9;(with_reducible refine (hdo.out _ hb9).mono ?_);rintro e w10 ⟨rfl,hK10,hf10⟩))
   have hbx10:=Rw.Block.fr (Block.only hbx8.out (Only.of_below hb9 []) (by simp)) hf10 (.inl (by decide))
   change Kn w w10 d t k5 at hK10
   clear hbx8 hf10 hb9 hdo hcs
   go_wp2_with fail
   refine (Bj6 hK10).mono ?_
   rintro e w11 ⟨cv5,iv5,rs5,rfl,hg,hb11,hK11⟩
   have hbx11:=Block.only hbx10 (Only.of_below hb11 []) (by simp)
   obtain ⟨g5,c5,x5',a5,d5,e9,-,-⟩:=Cd0 hg
   rw [e9]
   have hinf:(Tryz.prog.info? 43).map (·.size)=some (#[.slice (some ⟨g5,0,none⟩) 2 c5,.slice a5 2 d5,.int .i64 1,.int .i64 1,.bool false,.bool false,.bool true,.int .i64 0,.int .i64 1,.int .u32 0,.int .u32 0,.int .u16 0]:Array Value).size:=by kernel_rfl
   have hB5:w.heap.size<=b5:=hb5.out
   clear hK10 hbx10 hb11
   go_upto_region 15 with ((with_reducible show wpList _ _ _ (⟨none,.store _ (.tmp 5) _,_,_,_,_⟩::_) _ _;go_must (refine Aa5 rfl _ (.tmp 5) (.tmp 76) rfl hbx11 #[.slice (some ⟨g5,0,none⟩) 2 c5,.slice a5 2 d5,.int .i64 1,.int .i64 1,.bool false,.bool false,.bool true,.int .i64 0,.int .i64 1,.int .u32 0,.int .u32 0,.int .u16 0] rfl rfl hinf rfl (by simp [Value.oneCell']) ?_);intro w12 hb12 ho12))
   have hK12:=hK11.kept ho12 (Block.typ hbx11) hB5 (by decide) (by decide)
   have hg12:=hg.fr (Rw.Fr.of_only (B:=0) (ts:=[43]) ho12 fun k hk _=>by
    obtain rfl:k=b5:=by simpa using hk
    exact ⟨Nat.zero_le _,_,by simp,Block.typ hbx11⟩) (by decide) (by decide) (by decide) (by decide)
   obtain ⟨g5',c5',x,a5',d5',e9',d0,d1⟩:=Cd0 hg12
   rw [e9] at e9'
   simp only [Array.mk.injEq,List.cons.injEq,Value.slice.injEq,Option.some.injEq,Addr.mk.injEq] at e9'
   obtain ⟨⟨rfl,-⟩,-⟩:=e9'.1
   replace e9:=J0 e9
   clear e9' hbx11 hK11 ho12 hg
   have y0:=hb12.cell 0 (v:=.slice (some ⟨g5,0,none⟩) 2 c5) rfl
   have y2:=hb12.cell 2 (v:=.int .i64 1) rfl
   have y3:=hb12.cell 3 (v:=.int .i64 1) rfl
   have hrp:=J0 (kn_repl hK12)
   rw [k5_rp] at hrp
   replace hb12:=J0 hb12
   replace hg12:=J0 hg12
   clear hK12 hinf
   go_upto_region 17 with (first
    |(go_at_call 16;(with_reducible refine hrp.out.mono ?_);rintro e w13 ⟨⟨v13,rfl,hr13⟩,hK13,hf13⟩;obtain ⟨a13,c13,rfl,_,_,hn13⟩:=hr13.shape;have htx13:(convert 52 9 (.slice a13 6 c13)).run Tryz.prog w13=.ok (.string { data:=#[27,91,50,59,50,82] }) w13:=Kys.text_of hn13 c13)
    |(go_at_call 17;(with_reducible refine (k5r_prints hK13).mono ?_);rintro e w14 ⟨rfl,rfl⟩)
    |(go_at_call 15;(with_reducible refine (k5r_jour hK13).mono ?_);rintro e w15 ⟨⟨a15,c15,rfl⟩,hK15,hf15⟩))
   have hbx15:=Rw.Block.fr (Rw.Block.fr hb12.out hf13 (.inl (by decide))) hf15 (.inl (by decide))
   have hg15:=(hg12.out.fr hf13 (by decide) (by decide) (by decide) (by decide)).fr hf15 (by decide) (by decide) (by decide) (by decide)
   clear hb12 hg12 hf13 hf15 hrp hn13 htx13 hK13 hr13 d0 d1 y0 y2 y3
   have hb16:=Aa1 w15 (.cells #[.int .i64 1049] 3)
   have hb16x:=Block.made w15 3 #[.int .i64 1049]
   have hdo:=J0 (Ce2 (c:=1) (hK15.on hb16) 63 1049 104 (by decide) (by decide) hb16x (by simp [maxLen]) (Ap9 (by kernel_rfl)))
   have hbx16:=J0 (Block.only hbx15 (Only.of_below hb16 []) (by simp))
   have hg16:=J0 (hg15.below hb16)
   clear hbx15 hg15 hb16 hb16x hK15
   go_upto_region 18 with ((go_at_call 9;(with_reducible refine (hdo.out).mono ?_);rintro e w17 ⟨rfl,hK17,hf17⟩))
   have hbx17:=Rw.Block.fr hbx16.out hf17 (.inl (by decide))
   have hg17:=hg16.out.fr hf17 (by decide) (by decide) (by decide) (by decide)
   change Kn w w17 d t k6 at hK17
   clear hbx16 hg16 hf17 hdo
   go_wp2_with fail
   refine (Bj6 hK17).mono ?_
   rintro e w18 ⟨cv6,iv6,rs6,rfl,hg6,hb18,hK18⟩
   obtain ⟨g6,c6,x6',a6,d6,e6,-,-⟩:=Cd1 hg6
   rw [e6]
   have hbx18:=Block.only hbx17 (Only.of_below hb18 []) (by simp)
   have hg18:=hg17.below hb18
   clear hbx17 hg17 hb18 hK17
   go_upto_region 19 with (fail)
   have hbn:=Aa1 w18 (.cells #[.slice (some ⟨g6,0,none⟩) 2 c6,.slice a6 2 d6,.int .i64 1,.int .i64 1,.bool false,.bool false,.bool false,.int .i64 0,.int .i64 1,.int .u32 0,.int .u32 0,.int .u16 0] 43)
   have hbx6:=Block.made w18 43 #[.slice (some ⟨g6,0,none⟩) 2 c6,.slice a6 2 d6,.int .i64 1,.int .i64 1,.bool false,.bool false,.bool false,.int .i64 0,.int .i64 1,.int .u32 0,.int .u32 0,.int .u16 0]
   have hK19:=hK18.on hbn
   have hbx19:=Block.only hbx18 (Only.of_below hbn []) (by simp)
   have hg19:=hg18.below hbn
   replace hg6:=hg6.below hbn
   generalize w18.heap.size=b6 at hbx6 |-
   generalize w18.alloc (.cells #[.slice (some ⟨g6,0,none⟩) 2 c6,.slice a6 2 d6,.int .i64 1,.int .i64 1,.bool false,.bool false,.bool false,.int .i64 0,.int .i64 1,.int .u32 0,.int .u32 0,.int .u16 0] 43)=w19 at hK19 hbx19 hg19 hg6 hbx6 |-
   obtain ⟨g6',c6',x6,a6',d6',e6',d0,d1⟩:=Cd1 hg6
   rw [e6] at e6'
   simp only [Array.mk.injEq,List.cons.injEq,Value.slice.injEq,Option.some.injEq,Addr.mk.injEq] at e6'
   obtain ⟨⟨rfl,-⟩,-⟩:=e6'.1
   clear e6' hbx18 hg18 hg6 e6 hbn hK18
   have y0:=hbx6.cell 0 (v:=.slice (some ⟨g6,0,none⟩) 2 c6) rfl
   have y6:=hbx6.cell 6 (v:=.bool false) rfl
   replace hbx19:=J0 hbx19
   replace hg19:=J0 hg19
   replace hK19:=J0 hK19
   clear hbx6
   go_upto_region 21 with (fail)
   have hb20:=Aa1 w19 (.cells #[.int .i64 1049] 3)
   have hb20x:=Block.made w19 3 #[.int .i64 1049]
   have hdo:=J0 (Ce2 (c:=1) (hK19.out.on hb20) 63 1049 108 (by decide) (by decide) hb20x (by simp [maxLen]) (Ap9 (by kernel_rfl)))
   have hbx20:=J0 (Block.only hbx19.out (Only.of_below hb20 []) (by simp))
   have hg20:=J0 (hg19.out.below hb20)
   clear hbx19 hg19 hb20 hb20x hK19 d0 d1 y0 y6
   go_upto_region 22 with ((go_at_call 9;(with_reducible refine (hdo.out).mono ?_);rintro e w21 ⟨rfl,hK21,hf21⟩))
   have hbx21:=Rw.Block.fr hbx20.out hf21 (.inl (by decide))
   have hg21:=hg20.out.fr hf21 (by decide) (by decide) (by decide) (by decide)
   change Kn w w21 d t k7 at hK21
   clear hbx20 hg20 hf21 hdo
   refine Eqt.region_until (fun w'=>Below w21.heap.size w21 w') (by kernel_rfl) ?_
   have hH:Below w21.heap.size w21 w21.drew:=Aa4 (Below.refl w21.heap.size w21) 1
   refine Eqt.K2 0 ⟨some 134,_,_,_,_,_⟩ ?_ rfl (Or.inl ⟨by rfl,?_⟩) (fun _=>hH) ?_
   rotate_left 1
   ·(intro w;go_simp)<;>with_reducible rfl
   try simp only [Act.put,J1,J2,J3]
   refine Eqt.K1 2 ⟨some 136,_,_,_,_,_⟩ ?_ rfl (Or.inl ⟨by rfl,?_⟩) hH ?_
   rotate_left 1
   ·(intro w hSw;have q:=Block.only hbx21 (Only.of_below hSw []) (by simp);have q0:=q.cell 0 (v:=.slice (some ⟨g5,0,none⟩) 2 c5) rfl;have q1:=q.cell 1 (v:=.slice a5 2 d5) rfl;have q2:=q.cell 2 (v:=.int .i64 1) rfl;have q3:=q.cell 3 (v:=.int .i64 1) rfl;have q4:=q.cell 4 (v:=.bool false) rfl;have q5:=q.cell 5 (v:=.bool false) rfl;have q6:=q.cell 6 (v:=.bool true) rfl;have q7:=q.cell 7 (v:=.int .i64 0) rfl;have q8:=q.cell 8 (v:=.int .i64 1) rfl;have q9:=q.cell 9 (v:=.int .u32 0) rfl;have q10:=q.cell 10 (v:=.int .u32 0) rfl;have q11:=q.cell 11 (v:=.int .u16 0) rfl;go_simp)<;>with_reducible rfl
   try simp only [Act.put,J1,J2,J3]
   refine Eqt.wpAnyU_one 1 [2] (o:=⟨some 135,_,_,_,_,_⟩) (by kernel_rfl) rfl (by kernel_rfl) (fun K hK=>?_)
   go_simp
   refine (Bj6 (hK21.on hH)).mono ?_
   rintro e w22 ⟨cv7,iv7,rs7,rfl,hg7,hb22,hK22⟩
   have hg22:=hg21.below (Aa0 hH hb22)
   replace hH:=Aa0 hH hb22
   refine hK.out _ _ (fun _=>hH) ?_
   clear hK K
   try simp only [Act.put,J1,J2,J3]
   refine Eqt.wpAnyU_one 3 [] (o:=⟨some 137,_,_,_,_,_⟩) (by kernel_rfl) rfl (by kernel_rfl) (fun K hK=>?_)
   go_simp
   have e5:=e9.out
   rw [<- e5]
   refine (same_told hg7 hg22 hK22.ok (k5_L.trans k7_L.symm) k7_cols.symm (k5_G.trans k7_G.symm) (by rw [k7_L];exact kl2_four)).mono ?_
   rintro e w23 ⟨rfl,hb23⟩
   replace hH:=Aa0 hH hb23
   refine hK.out _ _ (fun h=>absurd rfl h) ?_
   clear hK K
   try simp only [Act.put,J1,J2,J3]
   refine Eqt.K2 4 ⟨some 0,_,_,_,_,_⟩ ?_ rfl (Or.inl ⟨by rfl,?_⟩) (fun _=>hH) ?_
   rotate_left 1
   ·(intro w;go_simp)<;>with_reducible rfl
   try simp only [Act.put,J1,J2]
   refine Eqt.wpAnyU_done (by kernel_rfl) ?_ _
   (try dsimp only [Act.put])
   have hres:=Aa0 hK21.below hH
   clear hg7 hg22 hK22 hK21 hg21 hbx21 e9
   go_wp2
   go_ret
   exact ⟨rfl,hres⟩
end
section
variable {wp wr w w':World} {b1 b2 B:Nat} {ls:List (List Cel)} {v:Value} {hs:List Az8}
theorem fl_heldV (hs:List Az8):∀ i (hi:i<hs.length),(fl As8 hs)[i*2]?=some (.int .i64 hs[i].1)/\(fl As8 hs)[i*2+1]?=some (.slice (some ⟨hs[i].2.1,0,none⟩) hs[i].2.2.length hs[i].2.2.length):=fun i hi=>by
 have h0:=Bc2 (f:=As8) Ap2 hi (j:=0) (by omega)
 have h1:=Bc2 (f:=As8) Ap2 hi (j:=1) (by omega)
 exact ⟨h0,h1⟩
theorem BackT.at (h:BackT B w v hs) {i:Nat} (hi:i<hs.length):∃ g c,v=.slice (some ⟨g,0,none⟩) hs.length c/\hs.length<=c/\c<=maxLen/\w.cell? ⟨g,i*2,none⟩=some (.int .i64 hs[i].1)/\w.cell? ⟨g,i*2+1,none⟩=some (.slice (some ⟨hs[i].2.1,0,none⟩) hs[i].2.2.length hs[i].2.2.length):=by
 obtain ⟨g,c,tail,rfl,_,hb,h1,h2⟩:=Ae5 h.rows (by omega)
 have hl:(fl As8 hs).length=hs.length*2:=Ab3 Ap2 hs
 obtain ⟨e0,e1⟩:=fl_heldV hs i hi
 refine ⟨g,c,rfl,h1,h2,hb.cell (i*2) ?_,hb.cell (i*2+1) ?_⟩
 ·rw [List.getElem?_toArray,List.getElem?_append_left (by omega),e0]
 ·rw [List.getElem?_toArray,List.getElem?_append_left (by omega),e1]
variable {cols:Nat} {cv iv:Value} {rs:List TRow} {ids:List Int}
end
structure Tld (w:World) (n cols:Nat) (L:List Ln) (g1 c1 g2 c2:Nat) (rs:List TRow):Prop where
 rws:Rws 0 w cols (.slice (some ⟨g1,0,none⟩) n c1) (.slice (some ⟨g2,0,none⟩) n c2) rs (L.map (·.1))
 len:rs.length=n
 llen:L.length=n
 got:rs.map (fun p=>p.2.map (·.1))=L.map (·.2)
 wid:∀ p∈L,p.2.length=cols
section
variable {Z:Zn} {W w w':World} {d t n cols g1 c1 g2 c2:Nat} {L:List Ln} {rs:List TRow} {T:Ter} {v:Value} {hs:List Az8}
theorem Tld.below (h:Tld w n cols L g1 c1 g2 c2 rs) (hb:Below w.heap.size w w'):Tld w' n cols L g1 c1 g2 c2 rs:=⟨h.rws.below hb,h.len,h.llen,h.got,h.wid⟩
theorem Tld.fr (h:Tld w n cols L g1 c1 g2 c2 rs) (hf:Rw.Fr 0 TT w w'):Tld w' n cols L g1 c1 g2 c2 rs:=⟨h.rws.fr hf (by decide) (by decide) (by decide) (by decide),h.len,h.llen,h.got,h.wid⟩
theorem Tld.row (h:Tld w n cols L g1 c1 g2 c2 rs) {i:Nat} (hi:i<n):∃ x,w.cell? ⟨g1,i,none⟩=some (.slice (some ⟨x,0,none⟩) cols cols)/\w.cell? ⟨g2,i,none⟩=some (.int .i64 (L[i]'(by rw [h.llen];exact hi)).1) /\
  ∀ j (hj:j<cols),w.cell? ⟨x,j*6,none⟩=some (.int .i32 (((L[i]'(by rw [h.llen];exact hi)).2)[j]'(by rw [h.wid _ (List.getElem_mem _)];exact hj)).r)/\w.cell? ⟨x,j*6+2,none⟩=some (.int .u8 (((L[i]'(by rw [h.llen];exact hi)).2)[j]'(by rw [h.wid _ (List.getElem_mem _)];exact hj)).wide) /\
   w.cell? ⟨x,j*6+3,none⟩=some (.int .u32 (((L[i]'(by rw [h.llen];exact hi)).2)[j]'(by rw [h.wid _ (List.getElem_mem _)];exact hj)).a.f)/\w.cell? ⟨x,j*6+4,none⟩=some (.int .u32 (((L[i]'(by rw [h.llen];exact hi)).2)[j]'(by rw [h.wid _ (List.getElem_mem _)];exact hj)).a.b)/\w.cell? ⟨x,j*6+5,none⟩=some (.int .u16 (((L[i]'(by rw [h.llen];exact hi)).2)[j]'(by rw [h.wid _ (List.getElem_mem _)];exact hj)).a.g) /\
   ∃ y cc,w.cell? ⟨x,j*6+1,none⟩=some (.slice y (((L[i]'(by rw [h.llen];exact hi)).2)[j]'(by rw [h.wid _ (List.getElem_mem _)];exact hj)).m.length cc):=by
 have hi':i<rs.length:=by rw [h.len];exact hi
 have hL:i<L.length:=by rw [h.llen];exact hi
 obtain ⟨g,c,e,_,_,hc⟩:=h.rws.cv_at hi'
 obtain ⟨g',c',e',_,_,hc'⟩:=h.rws.iv_at (i:=i) (by rw [List.length_map];exact hL)
 simp only [Value.slice.injEq,Option.some.injEq,Addr.mk.injEq,and_true] at e e'
 obtain ⟨rfl,_,rfl⟩:=e
 obtain ⟨rfl,_,rfl⟩:=e'
 rw [List.getElem_map] at hc'
 refine ⟨_,hc,hc',fun j hj=>?_⟩
 have hg:=congrArg (·[i]?) h.got
 simp only [List.getElem?_map,List.getElem?_eq_getElem hi',List.getElem?_eq_getElem hL,Option.map_some,Option.some.injEq] at hg
 have hw:=h.wid _ (List.getElem_mem hL)
 have hj':j<(rs[i]'hi').2.length:=by
  have:=congrArg List.length hg
  rw [List.length_map] at this
  omega
 have hA:=h.rws.apis _ (List.getElem_mem hi')
 have hx:=api6 hA hj'
 have he:((rs[i]'hi').2[j]'hj').1=(L[i].2)[j]'(by omega):=by
  have:=congrArg (·[j]?) hg
  simp only [List.getElem?_map,List.getElem?_eq_getElem hj',List.getElem?_eq_getElem (show j<(L[i].2).length by omega),Option.map_some,Option.some.injEq] at this
  exact this
 obtain ⟨y,cc,ey,_⟩:=(hA.comb _ (List.getElem_mem hj')).shape
 rw [ey,he] at hx
 exact ⟨hx.1,hx.2.2.1,hx.2.2.2.1,hx.2.2.2.2.1,hx.2.2.2.2.2,y,cc,hx.2.1⟩
theorem Aw8 (h:TZ Z W w d t T):Calls Tryz.prog 12 #[.pointer (some ⟨d,0,none⟩)] w fun e w'=>∃ g1 c1 g2 c2 rs,e=.returned (.agg #[.slice (some ⟨g1,0,none⟩) T.vis.L.length c1,.slice (some ⟨g2,0,none⟩) T.vis.L.length c2,.int .i64 T.c.row,.int .i64 T.c.col,.bool T.c.pend,.bool (!T.m.a5),.bool T.other.isNone,.int .i64 T.vis.top,.int .i64 T.vis.bot,.int .u32 T.p.a.f,.int .u32 T.p.a.b,.int .u16 T.p.a.g]) /\
  Tld w' T.vis.L.length T.vis.cols T.vis.L g1 c1 g2 c2 rs/\Below w.heap.size w w':=by
 refine (Bq8 h.tv h.ok).mono fun e w' ⟨cv,iv,rs,he,hg,hb⟩=>?_
 have hn:=h.ok.fit.len
 obtain ⟨g1,c1,e1,_,_,_⟩:=hg.rws.cv_at (i:=0) (by rw [hg.len];omega)
 obtain ⟨g2,c2,e2,_,_,_⟩:=hg.rws.iv_at (i:=0) (by rw [List.length_map];omega)
 rw [hg.len] at e1
 rw [List.length_map] at e2
 subst e1 e2
 exact ⟨g1,c1,g2,c2,rs,he,⟨hg.rws.lower (Nat.zero_le _),hg.len,rfl,hg.got,h.ok.fit.wid⟩,hb⟩
structure Bld (w:World) (v:Value) (n:Nat) (R:List Ln) (hs:List Az8):Prop where
 back:∃ B,BackT B w v hs
 got:hs.map lnOf=R
 len:R.length=n
theorem Bld.below {R:List Ln} (h:Bld w v n R hs) (hb:Below w.heap.size w w'):Bld w' v n R hs:=⟨h.back.imp fun _ h=>h.below hb,h.got,h.len⟩
theorem Bld.fr {R:List Ln} (h:Bld w v n R hs) (hf:Rw.Fr 0 TT w w'):Bld w' v n R hs:=⟨h.back.imp fun _ h=>h.fr hf (by decide) (by decide) (by decide),h.got,h.len⟩
theorem Bld.at {R:List Ln} {ba:Option Addr} {bc:Nat} (h:Bld w (.slice ba n bc) n R hs) {i:Nat} (hi:i<n):∃ g,ba=some ⟨g,0,none⟩/\w.cell? ⟨g,i*2,none⟩=some (.int .i64 (R[i]'(by rw [h.len];exact hi)).1):=by
 obtain ⟨B,hB⟩:=h.back
 have hn:=h.len
 have hl:hs.length=R.length:=by rw [<- h.got,List.length_map]
 have hiR:i<R.length:=by omega
 obtain ⟨g,c,e,_,_,x0,_⟩:=hB.at (i:=i) (by omega)
 simp only [Value.slice.injEq] at e
 have e2:(hs[i]'(by omega)).1=R[i].1:=by
  have:=congrArg (·[i]?) h.got
  simp only [List.getElem?_map,List.getElem?_eq_getElem (show i<hs.length by omega),List.getElem?_eq_getElem hiR,Option.map_some,Option.some.injEq] at this
  rw [<- this]
  rfl
 exact ⟨g,e.1,by rw [<- e2];exact x0⟩
theorem Bm3 (h:TZ Z W w d t T):Calls Tryz.prog 14 #[.pointer (some ⟨d,0,none⟩)] w fun e w'=>∃ ba bc hs,e=.returned (.slice ba T.R.length bc)/\Bld w' (.slice ba T.R.length bc) T.R.length T.R hs/\T.R.length<=maxLen/\Below w.heap.size w w':=by
 refine (tback_any h.tv).mono fun e w' ⟨v,hs,he,hB,hL,hb⟩=>?_
 obtain ⟨ba,bc,rfl,h1,h2⟩:=Ac0 hB.rows
 have hl:hs.length=T.R.length:=by rw [<- hL,List.length_map]
 rw [hl] at he hB h1
 exact ⟨ba,bc,hs,he,⟨⟨_,hB⟩,hL,rfl⟩,Nat.le_trans h1 h2,hb⟩
end
section
variable {Z:Zn} {W w wr w':World} {d t n nm cm:Nat} {T:Ter} {am:Option Addr} {m:List OpA}
theorem na_one {Z:Zn} {w:World} {v:Int} (hn:(Lit.int .i64 v).wf=true) {g c:Nat} (hb:Block w g 3 #[.int .i64 v]) (hc:1<=c/\c<=maxLen):NA Z w (.slice (some ⟨g,0,none⟩) 1 c) [v]:=by
 refine ⟨some ⟨g,0,none⟩,c,rfl,hc.1,hc.2,fun m hm=>?_,fun i y hy=>?_⟩
 ·obtain rfl:m=v:=by simpa using hm
  exact hn
 ·rcases i with _|i
  ·obtain rfl:v=y:=by simpa using hy
   refine ⟨_,rfl,⟨hb.lt,.inr fun t' ht' hT=>?_⟩,?_⟩
   ·have e:=Typ.inj (Block.typ hb) hT
    rw [<- e] at ht'
    revert ht'
    decide
   ·exact hb.cell 0 rfl
  ·simp at hy
theorem Cl0 (h:TZ Z W wr d t T) (pr v f:Int) (hn:(Lit.int .i64 v).wf=true) (hf:(Lit.int .i32 f).wf=true) {g c:Nat} (hb:Block wr g 3 #[.int .i64 v]) (hc:1<=c/\c<=maxLen) (hR:As5 T (csA pr [v] f)):Calls Tryz.prog 9 #[.pointer (some ⟨d,0,none⟩),.agg #[.int .u8 4,.int .i32 0,.int .i32 pr,.slice (some ⟨g,0,none⟩) 1 c,.slice none 0 0,.int .i32 f,.slice none 0 0]] wr fun e w'=>e=.returned (.int .i64 0)/\TZ Z W w' d t (doT T (csA pr [v] f))/\Scn.Fr Z TT wr w' :=
 (Bt4 (x:=csA pr [v] f) h.tv h.ok ⟨(by decide:(Lit.int .u8 4).wf=true),(by decide:(Lit.int .i32 0).wf=true),hf,fun n hn=>by simp [csA] at hn⟩ hR (na_one hn hb hc) (Cg5 _ _ _)).mono fun _ _ ⟨he,h1,hf⟩=>⟨he,⟨h1,(Cd2 h.ok _).ok,Bc3 h.below h.out hf,h.out⟩,hf⟩
def csO (pr v f:Int):OpA:=⟨csA pr [v] f,⟨none,0,none,0,none,0⟩,false,0,0⟩
theorem rm_csi (h:Rm n T) (pr v f:Int):Rm (n+1) (doT T (csA pr [v] f)):=h.op (o:=csO pr v f) rfl
theorem Bx9 (h:Rm n T) (hn:n<=500) (pr v f:Int):As5 T (csA pr [v] f):=h.room (o:=csO pr v f) hn rfl
def Cm6 (Z:Zn) (W:World) (d t:Nat) (T:Ter) (n cols:Nat) (L:List Ln) (row col:Nat) (pn hd:Bool) (tp bt:Nat) (f b g:Int):Prop:=∀ wr,TZ Z W wr d t T->Calls Tryz.prog 12 #[.pointer (some ⟨d,0,none⟩)] wr fun e w'=>∃ g1 c1 g2 c2 rs,e=.returned (.agg #[.slice (some ⟨g1,0,none⟩) n c1,.slice (some ⟨g2,0,none⟩) n c2,.int .i64 row,.int .i64 col,.bool pn,.bool hd,.bool true,.int .i64 tp,.int .i64 bt,.int .u32 f,.int .u32 b,.int .u16 g]) /\
  Tld w' n cols L g1 c1 g2 c2 rs/\Below wr.heap.size wr w'
def Cm3 (Z:Zn) (W:World) (d t:Nat) (T:Ter) (n:Nat) (R:List Ln):Prop:=∀ wr,TZ Z W wr d t T->Calls Tryz.prog 14 #[.pointer (some ⟨d,0,none⟩)] wr fun e w'=>∃ ba bc hs,e=.returned (.slice ba n bc)/\Bld w' (.slice ba n bc) n R hs/\n<=maxLen/\Below wr.heap.size wr w'
def Csi (Z:Zn) (W:World) (d t:Nat) (T T':Ter) (pr v f:Int):Prop:=∀ wr g c,TZ Z W wr d t T->Block wr g 3 #[.int .i64 v]->1<=c/\c<=maxLen->Calls Tryz.prog 9 #[.pointer (some ⟨d,0,none⟩),.agg #[.int .u8 4,.int .i32 0,.int .i32 pr,.slice (some ⟨g,0,none⟩) 1 c,.slice none 0 0,.int .i32 f,.slice none 0 0]] wr fun e w'=>e=.returned (.int .i64 0)/\TZ Z W w' d t T'/\Scn.Fr Z TT wr w'
def Dos (Z:Zn) (W:World) (d t:Nat) (T T':Ter) (am:Option Addr) (nm cm:Nat):Prop:=∀ wr,TZ Z W wr d t T->Calls Tryz.prog 20 #[.pointer (some ⟨d,0,none⟩),.slice am nm cm] wr fun e w'=>e=.returned (.bool true)/\TZ Z W w' d t T'/\Scn.Fr Z TT wr w'
theorem aside_kit (hd0:Pd T) (hR:Rm n T) (hn:n<=130) (h6:T.m.a6=false) (hW:Bi0 W am m) (hin:∀ o∈m,OpIn W o) (ht:m.all Aj4=true) (hm:∀ o∈m,o.size=false/\stays o.x.kind o.x.priv o.x.fin) (hnm:m.length=nm) (hnm5:nm<=120):∃ T1 T2 T3 h3,
  Csi Z W d t T T1 63 1049 104/\Dos Z W d t T1 T2 am nm cm/\Csi Z W d t T2 T3 63 1049 108 /\
  Cm6 Z W d t T T.vis.L.length T.vis.cols T.vis.L T.c.row T.c.col T.c.pend (!T.m.a5) T.vis.top T.vis.bot T.p.a.f T.p.a.b T.p.a.g /\
  Cm6 Z W d t T3 T.vis.L.length T.vis.cols T.vis.L T.c.row T.c.col T.c.pend h3 T.vis.top T.vis.bot T.p.a.f T.p.a.b T.p.a.g /\
  Cm3 Z W d t T T.R.length T.R/\Cm3 Z W d t T3 T.R.length T.R:=by
 have R1:=rm_csi hR 63 1049 104
 have R2:=R1.run (os:=m) fun o ho=>List.all_eq_true.1 ht o ho
 have ho:=alone hR.ok h6
 obtain ⟨eL,ec,et,eb,eR,ecu,ep,eo⟩:=as_off hR.ok hd0 h6 (as_run m (as_on hR.ok h6) hm)
 refine ⟨_,_,_,!(doT (runT (doT T (csA 63 [1049] 104)) m) (csA 63 [1049] 108)).m.a5,fun wr g c h hb hc=>Cl0 h 63 1049 104 (by decide) (by decide) hb hc (Bx9 hR (by omega) _ _ _),
  fun wr h=>(Ce4 (cp:=cm) h R1 hW hin ht (by omega) hnm).mono fun _ _ ⟨he,h1,_,hf⟩=>⟨he,h1,hf⟩,
  fun wr g c h hb hc=>Cl0 h 63 1049 108 (by decide) (by decide) hb hc (Bx9 R2 (by omega) _ _ _),fun wr h=>?_,fun wr h=>?_,fun wr h=>Bm3 h,fun wr h=>?_⟩
 ·have h1:=Aw8 h
  rw [ho] at h1
  exact h1
 ·have h1:=Aw8 h
  rw [eL,ec,et,eb,ecu,ep,eo] at h1
  exact h1
 ·have h1:=Bm3 h
  rw [eR] at h1
  exact h1
end
