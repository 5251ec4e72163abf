/- Part 47 of the proof that the card of EmuReset holds. -/
import Derived.Test.YtkjpjegmanpbfaaGreatDoorPR46
set_option maxHeartbeats 16000000
set_option maxRecDepth 100000
namespace Go.Proofs.YtkjpjegmanpbfaaGreatDoor.Emu
open Go RowKit Com Rw Lns Scn
def Cq3 (T:Ter) (x:AcT):Bool:=decide (T.jr.length<=88000) && (decide (T.prints<=999000) && (decide (T.rp.length<=1000000) && (decide (x.params.length<=100) && decide (T.nx+100*T.main.L.length<=990000))))
theorem Ar5 {T:Ter} {x:AcT} (h:Cq3 T x=true):Au0 T x:=by
 simp only [Cq3,Bool.and_eq_true,decide_eq_true_eq] at h
 exact ⟨h.1,h.2.1,h.2.2.1,h.2.2.2.1,h.2.2.2.2⟩
def abcd:ByteArray:={ data:=#[97,98,99,100] }
def abcdL:List Int:=[97,98,99,100]
theorem abcd_is:Al4 abcd=abcdL:=by kernel_rfl
theorem abcd_low:∀ k (h:k<abcd.size),(abcd[k]'h).toNat<128:=by decide
def oneE:ByteArray:={ data:=#[101] }
theorem oneE_is:Al4 oneE=[101]:=by kernel_rfl
theorem oneE_low:∀ k (h:k<oneE.size),(oneE[k]'h).toNat<128:=by decide
def kT (k:Nat):Ter:=(abcdL.take k).foldl (fun T r=>doT T (prA r)) k0
theorem kT_4:kT 4=k4:=rfl
theorem kT_next {k:Nat} (h:k<4):kT (k+1)=doT (kT k) (prA (abcdL[k]'h)):=by
 match k,h with
 |0,_=>rfl
 |1,_=>rfl
 |2,_=>rfl
 |3,_=>rfl
theorem kT_room {k:Nat} (h:k<4):Au0 (kT k) (prA (abcdL[k]'h))/\(Lit.int .i32 (abcdL[k]'h)).wf=true:=by
 match k,h with
 |0,_=>exact ⟨Ar5 (by kernel_rfl),by kernel_rfl⟩
 |1,_=>exact ⟨Ar5 (by kernel_rfl),by kernel_rfl⟩
 |2,_=>exact ⟨Ar5 (by kernel_rfl),by kernel_rfl⟩
 |3,_=>exact ⟨Ar5 (by kernel_rfl),by kernel_rfl⟩
section
variable {w w':World} {B:Nat} {v:Value} {l:List Int}
theorem flat7 {l:List Int} {k j:Nat} (hk:k<l.length) (hj:j<7):(fl prV l)[k*7+j]?=(prV (l[k]'hk))[j]?:=by
 induction l generalizing k with
 |nil=>simp at hk
 |cons a l ih =>
  have e:fl prV (a::l)=prV a++fl prV l:=by rw [show a::l=[a]++l from rfl,fl_app,fl_one]
  rw [e]
  rcases k with _|k
  ·rw [Nat.zero_mul,Nat.zero_add,List.getElem?_append_left (by rw [prV_length];exact hj)]
   rfl
  ·rw [List.getElem?_append_right (by rw [prV_length];omega),prV_length,show (k+1)*7+j - 7=k*7+j by omega]
   exact ih (by simpa using hk)
theorem Ce5 (h:w.ownsRow B 25 7 v l.length (fl prV l)) {k:Nat} (hk:k<l.length):∃ g c,v=.slice (some ⟨g,0,none⟩) l.length c/\l.length<=c/\c<=maxLen/\∀ j u,(prV (l[k]'hk))[j]?=some u->w.cell? ⟨g,k*7+j,none⟩=some u:=by
 obtain ⟨g,c,tail,rfl,_,hb,h1,h2⟩:=Af9 h (by omega)
 refine ⟨g,c,rfl,h1,h2,fun j u hu=>hb.cell _ ?_⟩
 have hj:j<7:=by
  have:=(List.getElem?_eq_some_iff.1 hu).1
  rw [prV_length] at this
  exact this
 rw [List.getElem?_toArray,List.getElem?_append_left (by rw [Ab5 prV_length];have:=Nat.mul_le_mul_right 7 (Nat.succ_le_of_lt hk);omega),flat7 hk hj]
 exact hu
end
section
variable {w wr w':World} {B:Nat} {T:Ter} {cv iv:Value} {rs:List TRow}
theorem GridT.cell (h:GridT B w T cv iv rs) {i j:Nat} (hi:i<T.vis.L.length) (hj:j<(T.vis.L[i]).2.length):∃ g c x,cv=.slice (some ⟨g,0,none⟩) T.vis.L.length c/\T.vis.L.length<=c/\c<=maxLen/\w.cell? ⟨g,i,none⟩=some (.slice (some ⟨x,0,none⟩) T.vis.cols T.vis.cols) /\
  w.cell? ⟨x,j*6,none⟩=some (.int .i32 (((T.vis.L[i]).2)[j]).r)/\w.cell? ⟨x,j*6+2,none⟩=some (.int .u8 (((T.vis.L[i]).2)[j]).wide)/\w.cell? ⟨x,j*6+3,none⟩=some (.int .u32 (((T.vis.L[i]).2)[j]).a.f)/\w.cell? ⟨x,j*6+4,none⟩=some (.int .u32 (((T.vis.L[i]).2)[j]).a.b)/\w.cell? ⟨x,j*6+5,none⟩=some (.int .u16 (((T.vis.L[i]).2)[j]).a.g):=by
 have hi':i<rs.length:=by rw [h.len];exact hi
 obtain ⟨g,c,e,h1,h2,hc⟩:=h.rws.cv_at hi'
 rw [h.len] at e h1
 have hA:=h.rws.apis _ (List.getElem_mem hi')
 have hg:=congrArg (·[i]?) h.got
 simp only [List.getElem?_map,List.getElem?_eq_getElem hi',List.getElem?_eq_getElem hi,Option.map_some,Option.some.injEq] at hg
 have hj':j<(rs[i]'hi').2.length:=by
  have:=congrArg List.length hg
  rw [List.length_map] at this
  omega
 have hx:=api6 hA hj'
 have he:((rs[i]'hi').2[j]'hj').1=((T.vis.L[i]).2)[j]:=by
  have:=congrArg (·[j]?) hg
  simp only [List.getElem?_map,List.getElem?_eq_getElem hj',List.getElem?_eq_getElem hj,Option.map_some,Option.some.injEq] at this
  exact this
 rw [he] at hx
 exact ⟨g,c,_,e,h1,h2,hc,hx.1,hx.2.2⟩
theorem GridT.ivs (h:GridT B w T cv iv rs):∃ a c,iv=.slice a T.vis.L.length c:=by
 obtain ⟨a,c,e,_⟩:=h.rws.ids.shape
 rw [List.length_map] at e
 exact ⟨a,c,e⟩
theorem k4_G:gridG k4=[.int .i64 0,.int .i64 3,.bool true,.bool false,.bool true,.int .i64 0,.int .i64 1,.int .u32 0,.int .u32 0,.int .u16 0]:=by kernel_rfl
theorem k5_G:gridG k5=[.int .i64 1,.int .i64 1,.bool false,.bool false,.bool true,.int .i64 0,.int .i64 1,.int .u32 0,.int .u32 0,.int .u16 0]:=by kernel_rfl
theorem k6_G:gridG k6=[.int .i64 1,.int .i64 1,.bool false,.bool false,.bool false,.int .i64 0,.int .i64 1,.int .u32 0,.int .u32 0,.int .u16 0]:=by kernel_rfl
theorem k7_G:gridG k7=[.int .i64 1,.int .i64 1,.bool false,.bool false,.bool true,.int .i64 0,.int .i64 1,.int .u32 0,.int .u32 0,.int .u16 0]:=by kernel_rfl
theorem Ck8 (h:GridT B w k4 cv iv rs):∃ g c x a c2,Ah9 cv iv (gridG k4)=#[.slice (some ⟨g,0,none⟩) 2 c,.slice a 2 c2,.int .i64 0,.int .i64 3,.bool true,.bool false,.bool true,.int .i64 0,.int .i64 1,.int .u32 0,.int .u32 0,.int .u16 0] /\
  w.cell? ⟨g,0,none⟩=some (.slice (some ⟨x,0,none⟩) 4 4)/\w.cell? ⟨x,18,none⟩=some (.int .i32 100):=by
 obtain ⟨g,c,x,rfl,_,_,h1,h2,_⟩:=h.cell (i:=0) (j:=3) (by decide) (by decide)
 obtain ⟨a,c2,rfl⟩:=h.ivs
 exact ⟨g,c,x,a,c2,by rw [k4_G];rfl,h1,h2⟩
theorem Ce6 (h:GridT B w k5 cv iv rs):∃ g c x a c2,Ah9 cv iv (gridG k5)=#[.slice (some ⟨g,0,none⟩) 2 c,.slice a 2 c2,.int .i64 1,.int .i64 1,.bool false,.bool false,.bool true,.int .i64 0,.int .i64 1,.int .u32 0,.int .u32 0,.int .u16 0] /\
  w.cell? ⟨g,1,none⟩=some (.slice (some ⟨x,0,none⟩) 4 4)/\w.cell? ⟨x,0,none⟩=some (.int .i32 101):=by
 obtain ⟨g,c,x,rfl,_,_,h1,h2,_⟩:=h.cell (i:=1) (j:=0) (by decide) (by decide)
 obtain ⟨a,c2,rfl⟩:=h.ivs
 exact ⟨g,c,x,a,c2,by rw [k5_G];rfl,h1,h2⟩
theorem Cd5 (h:GridT B w k6 cv iv rs):∃ g c x a c2,Ah9 cv iv (gridG k6)=#[.slice (some ⟨g,0,none⟩) 2 c,.slice a 2 c2,.int .i64 1,.int .i64 1,.bool false,.bool false,.bool false,.int .i64 0,.int .i64 1,.int .u32 0,.int .u32 0,.int .u16 0] /\
  w.cell? ⟨g,1,none⟩=some (.slice (some ⟨x,0,none⟩) 4 4)/\w.cell? ⟨x,0,none⟩=some (.int .i32 32):=by
 obtain ⟨g,c,x,rfl,_,_,h1,h2,_⟩:=h.cell (i:=1) (j:=0) (by decide) (by decide)
 obtain ⟨a,c2,rfl⟩:=h.ivs
 exact ⟨g,c,x,a,c2,by rw [k6_G];rfl,h1,h2⟩
end
section
variable {w wr w':World} {d t:Nat}
theorem k5r_prints (h:Kn w wr d t k5r):Calls Tryz.prog 17 #[.pointer (some ⟨d,0,none⟩)] wr fun e w'=>e=.returned (.int .u64 5)/\wr=w':=by
 have e:((k5r.prints:Nat):Int)=5:=by kernel_rfl
 have h1:=kn_prints h
 rw [e] at h1
 exact h1
theorem k5r_jour (h:Kn w wr d t k5r):Calls Tryz.prog 15 #[.pointer (some ⟨d,0,none⟩)] wr fun e w'=>(∃ ao c,e=.returned (.slice ao 6 c))/\Kn w w' d t k5j/\Rw.Fr 0 TT wr w':=by
 have e:k5r.jr.length=6:=by kernel_rfl
 have h1:=kn_jour h
 rw [e] at h1
 exact h1
theorem Bq5 (hT:Tbl w):Calls Tryz.prog 8 #[] w fun e w'=>e=.returned (.bool true)/\Below w.heap.size w w':=by
 have hnew:Hid (Calls Tryz.prog 18 #[.int .i64 2,.int .i64 4,.int .i64 5] w fun e w'=>∃ d t,e=.returned (.tuple #[.pointer (some ⟨d,0,none⟩),.int .i64 0])/\Kn w w' d t k0/\Below w.heap.size w w'):=J0 (Ch1 hT 2 4 5 (by omega) (by omega) (by omega) (by omega) (by omega))
 have htx:=J0 (fun w1=>Bw7 abcd abcd_low (by decide) w1)
 have hte:=J0 (fun w1=>Bw7 oneE oneE_low (by decide) w1)
 clear hT
 go_enter Tryz.func8,Tryz.ntmps8
 go_wp2_with ((go_at_call 18;(with_reducible refine (hnew.out).mono ?_);rintro e w1 ⟨d,t,rfl,hK,hb1⟩))
 clear hnew
 refine Calls.mono (show Calls _ _ #[.string { data:=#[97,98,99,100] }] w1 (Cl5 w1 abcd) from htx.out w1) ?_
 rintro e w2 ⟨v,rfl,hact,hb2⟩
 replace hK:=hK.on hb2
 have hsz:abcd.size=4:=rfl
 rw [hsz,abcd_is] at hact
 obtain ⟨a,c,rfl,_,_⟩:=Ac1 hact
 go_wp2
 clear hb1 hb2
 have hst:Hid (Kn w w2 d t (kT 0)/\w2.ownsRow w1.heap.size 25 7 (.slice a 4 c) 4 (fl prV abcdL)):=J0 ⟨hK,hact⟩
 clear hK hact
 go_loopw [19] (fun i wr=>∃ k:Nat,k<=4/\i=.int .i64 k/\Hid (Kn w wr d t (kT k)/\wr.ownsRow w1.heap.size 25 7 (.slice a 4 c) 4 (fl prV abcdL))) (fun i _=>4 - (intOf i).toNat)
 case atStart=>exact ⟨0,Nat.zero_le _,rfl,hst⟩
 case round =>
  obtain ⟨k,hk,rfl,hR⟩:=hrel
  clear hst
  by_cases hlt:k<4
  ·have hkI:(k:Int)<4:=by omega
   obtain ⟨hKr,hact⟩:=hR.out
   have hat:=Ce5 (l:=abcdL) hact hlt
   obtain ⟨g,c',e9,-,-,hcell⟩:=hat
   have hrm:=kT_room hlt
   simp only [Value.slice.injEq] at e9
   obtain ⟨rfl,-,rfl⟩:=e9
   have hnx:=kT_next hlt
   generalize abcdL[k]'hlt=r at hcell hrm hnx
   have x0:wr.cell? ⟨g,k*7,none⟩=some (.int .u8 1):=hcell 0 _ rfl
   have x1:wr.cell? ⟨g,k*7+1,none⟩=some (.int .i32 r):=hcell 1 _ rfl
   have x2:wr.cell? ⟨g,k*7+2,none⟩=some (.int .i32 0):=hcell 2 _ rfl
   have x3:wr.cell? ⟨g,k*7+3,none⟩=some (.slice none 0 0):=hcell 3 _ rfl
   have x4:wr.cell? ⟨g,k*7+4,none⟩=some (.slice none 0 0):=hcell 4 _ rfl
   have x5:wr.cell? ⟨g,k*7+5,none⟩=some (.int .i32 0):=hcell 5 _ rfl
   have x6:wr.cell? ⟨g,k*7+6,none⟩=some (.slice none 0 0):=hcell 6 _ rfl
   clear hcell
   have hdo:=J0 (By8 (hKr.on (Aa1 wr (.cells #[.int .u8 1,.int .i32 r,.int .i32 0,.slice none 0 0,.slice none 0 0,.int .i32 0,.slice none 0 0] 25))) r hrm.2 hrm.1)
   rw [<- hnx] at hdo
   have hend:=J0 (fun w3 (hf:Rw.Fr 0 TT (wr.alloc (.cells #[.int .u8 1,.int .i32 r,.int .i32 0,.slice none 0 0,.slice none 0 0,.int .i32 0,.slice none 0 0] 25)) w3)=>Ai8 (Ad4 hact (Only.of_below (Aa1 wr (.cells #[.int .u8 1,.int .i32 r,.int .i32 0,.slice none 0 0,.slice none 0 0,.int .i32 0,.slice none 0 0] 25)) []) (by simp)) hf (by decide))
   clear hKr hact hrm hnx hR
   go_wp2_with ((go_at_call 9;(with_reducible refine (hdo.out).mono ?_);rintro e w3 ⟨rfl,hK3,hf3⟩))
   have hR3:=J0 (And.intro hK3 (hend.out _ hf3))
   clear hK3 hf3 hdo hend x0 x1 x2 x3 x4 x5 x6
   go_roundw
   case rel=>exact ⟨k+1,by omega,by go_num,hR3⟩
   case measure=>simp [intOf];omega
  ·obtain rfl:k=4:=by omega
   obtain ⟨hK,_⟩:=hR.out
   rw [kT_4] at hK
   clear hR
   go_wp2_with fail
   refine (Bk3 hK).mono ?_
   rintro e w4 ⟨cv,iv,rs,rfl,hg,hb4,hK4⟩
   obtain ⟨g,c4,x,a2,c2,e9,-,-⟩:=Ck8 hg
   rw [e9]
   go_upto_region 10 with (fail)
   have hbn:=Aa1 w4 (.cells #[.slice (some ⟨g,0,none⟩) 2 c4,.slice a2 2 c2,.int .i64 0,.int .i64 3,.bool true,.bool false,.bool true,.int .i64 0,.int .i64 1,.int .u32 0,.int .u32 0,.int .u16 0] 43)
   have hbx:=Block.made w4 43 #[.slice (some ⟨g,0,none⟩) 2 c4,.slice a2 2 c2,.int .i64 0,.int .i64 3,.bool true,.bool false,.bool true,.int .i64 0,.int .i64 1,.int .u32 0,.int .u32 0,.int .u16 0]
   replace hK:=hK4.on hbn
   replace hg:=hg.below hbn
   have hb5:=J0 hK4.below.size
   generalize w4.heap.size=b5 at hbx hb5 |-
   generalize w4.alloc (.cells #[.slice (some ⟨g,0,none⟩) 2 c4,.slice a2 2 c2,.int .i64 0,.int .i64 3,.bool true,.bool false,.bool true,.int .i64 0,.int .i64 1,.int .u32 0,.int .u32 0,.int .u16 0] 43)=w5 at hK hg hbx |-
   have hd:=Ck8 hg
   obtain ⟨g',c4',x,a2',c2',e9',d0,d1⟩:=hd
   rw [e9] at e9'
   simp only [Array.mk.injEq,List.cons.injEq,Value.slice.injEq,Option.some.injEq,Addr.mk.injEq] at e9'
   obtain ⟨⟨rfl,-⟩,-⟩:=e9'.1
   clear e9' e9 hb4 hK4 hg
   have y0:=hbx.cell 0 (v:=.slice (some ⟨g,0,none⟩) 2 c4) rfl
   have y2:=hbx.cell 2 (v:=.int .i64 0) rfl
   have y3:=hbx.cell 3 (v:=.int .i64 3) rfl
   have y4:=hbx.cell 4 (v:=.bool true) rfl
   replace hK:=J0 hK
   replace hbx:=J0 hbx
   go_wp2_with fail
   refine Calls.mono (show Calls _ _ #[.string { data:=#[101] }] w5 (Cl5 w5 oneE) from hte.out w5) ?_
   rintro e w6 ⟨v6,rfl,hact,hb6⟩
   have hsz6:oneE.size=1:=rfl
   rw [hsz6,oneE_is] at hact
   obtain ⟨g6,c6,rfl,-,-,hcell⟩:=Ce5 (l:=[101]) hact (k:=0) (by decide)
   have x0:w6.cell? ⟨g6,0,none⟩=some (.int .u8 1):=hcell 0 _ rfl
   have x1:w6.cell? ⟨g6,1,none⟩=some (.int .i32 101):=hcell 1 _ rfl
   have x2:w6.cell? ⟨g6,2,none⟩=some (.int .i32 0):=hcell 2 _ rfl
   have x3:w6.cell? ⟨g6,3,none⟩=some (.slice none 0 0):=hcell 3 _ rfl
   have x4:w6.cell? ⟨g6,4,none⟩=some (.slice none 0 0):=hcell 4 _ rfl
   have x5:w6.cell? ⟨g6,5,none⟩=some (.int .i32 0):=hcell 5 _ rfl
   have x6:w6.cell? ⟨g6,6,none⟩=some (.slice none 0 0):=hcell 6 _ rfl
   change w6.ownsRow w5.heap.size 25 7 (.slice (some ⟨g6,0,none⟩) 1 c6) 1 (fl prV [101]) at hact
   have hK6:=hK.out.on hb6
   have hbx6:=Block.only hbx.out (Only.of_below hb6 []) (by simp)
   have hdo:=J0 (By8 hK6 101 (by decide) (Ar5 (by kernel_rfl)))
   rw [show ([101]:List Int).length=1 from rfl]
   clear hcell hsz6 hact y0 y2 y3 y4 d0 d1 hK hb6
   replace hbx6:=J0 hbx6
   clear hbx hK6
   go_upto_region 13 with ((go_at_call 9;(with_reducible refine (hdo.out).mono ?_);rintro e w7 ⟨rfl,hK7,hf7⟩))
   have hbx7:=Rw.Block.fr hbx6.out hf7 (.inl (by decide))
   clear hbx6 hf7 hdo x0 x1 x2 x3 x4 x5 x6
   have hb8:=Aa1 w7 (.cells #[.int .i64 6] 3)
   have hb8x:=Block.made w7 3 #[.int .i64 6]
   have hK8:=hK7.on hb8
   have hbx8:=Block.only hbx7 (Only.of_below hb8 []) (by simp)
   have hcs:=J0 (csi_any 110 (some ⟨w7.heap.size,0,none⟩) 1 1 (w7.alloc (.cells #[.int .i64 6] 3)))
   have hdo:=J0 (fun w9 (hb:Below (w7.alloc (.cells #[.int .i64 6] 3)).heap.size (w7.alloc (.cells #[.int .i64 6] 3)) w9)=>Cg6 (c:=1) (hK8.on hb) 0 6 110 (by decide) (by decide) (Block.only hb8x (Only.of_below hb []) (by simp)) (by simp [maxLen]) (Ar5 (by kernel_rfl)))
   replace hbx8:=J0 hbx8
   clear hbx7 hb8x hb8 hK8 hK7
   go_upto_region 14 with (first
    |(go_at_call 23;(with_reducible refine (hcs.out).mono ?_);rintro e w9 ⟨rfl,hb9⟩)
    |(go_at_call 9;(with_reducible refine (hdo.out _ hb9).mono ?_);rintro e w10 ⟨rfl,hK10,hf10⟩))
   have hbx10:=Rw.Block.fr (Block.only hbx8.out (Only.of_below hb9 []) (by simp)) hf10 (.inl (by decide))
   change Kn w w10 d t k5 at hK10
   clear hbx8 hf10 hb9 hdo hcs
   go_wp2_with fail
   refine (Bk3 hK10).mono ?_
   rintro e w11 ⟨cv5,iv5,rs5,rfl,hg,hb11,hK11⟩
   have hbx11:=Block.only hbx10 (Only.of_below hb11 []) (by simp)
   obtain ⟨g5,c5,x5',a5,d5,e9,-,-⟩:=Ce6 hg
   rw [e9]
   have hinf:(Tryz.prog.info? 43).map (·.size)=some (#[.slice (some ⟨g5,0,none⟩) 2 c5,.slice a5 2 d5,.int .i64 1,.int .i64 1,.bool false,.bool false,.bool true,.int .i64 0,.int .i64 1,.int .u32 0,.int .u32 0,.int .u16 0]:Array Value).size:=by kernel_rfl
   have hB5:w.heap.size<=b5:=hb5.out
   clear hK10 hbx10 hb11
   go_upto_region 15 with ((with_reducible show wpList _ _ _ (⟨none,.store _ (.tmp 5) _,_,_,_,_⟩::_) _ _;go_must (refine Aa5 rfl _ (.tmp 5) (.tmp 76) rfl hbx11 #[.slice (some ⟨g5,0,none⟩) 2 c5,.slice a5 2 d5,.int .i64 1,.int .i64 1,.bool false,.bool false,.bool true,.int .i64 0,.int .i64 1,.int .u32 0,.int .u32 0,.int .u16 0] rfl rfl hinf rfl (by simp [Value.oneCell']) ?_);intro w12 hb12 ho12))
   have hK12:=hK11.kept ho12 (Block.typ hbx11) hB5 (by decide) (by decide)
   have hg12:=hg.fr (Rw.Fr.of_only (B:=0) (ts:=[43]) ho12 fun k hk _=>by
    obtain rfl:k=b5:=by simpa using hk
    exact ⟨Nat.zero_le _,_,by simp,Block.typ hbx11⟩) (by decide) (by decide) (by decide) (by decide)
   obtain ⟨g5',c5',x,a5',d5',e9',d0,d1⟩:=Ce6 hg12
   rw [e9] at e9'
   simp only [Array.mk.injEq,List.cons.injEq,Value.slice.injEq,Option.some.injEq,Addr.mk.injEq] at e9'
   obtain ⟨⟨rfl,-⟩,-⟩:=e9'.1
   replace e9:=J0 e9
   clear e9' hbx11 hK11 ho12 hg
   have y0:=hb12.cell 0 (v:=.slice (some ⟨g5,0,none⟩) 2 c5) rfl
   have y2:=hb12.cell 2 (v:=.int .i64 1) rfl
   have y3:=hb12.cell 3 (v:=.int .i64 1) rfl
   have hrp:=J0 (kn_repl hK12)
   rw [k5_rp] at hrp
   replace hb12:=J0 hb12
   replace hg12:=J0 hg12
   clear hK12 hinf
   go_upto_region 17 with (first
    |(go_at_call 16;(with_reducible refine hrp.out.mono ?_);rintro e w13 ⟨⟨v13,rfl,hr13⟩,hK13,hf13⟩;obtain ⟨a13,c13,rfl,_,_,hn13⟩:=hr13.shape;have htx13:(convert 52 9 (.slice a13 6 c13)).run Tryz.prog w13=.ok (.string { data:=#[27,91,50,59,50,82] }) w13:=Kys.text_of hn13 c13)
    |(go_at_call 17;(with_reducible refine (k5r_prints hK13).mono ?_);rintro e w14 ⟨rfl,rfl⟩)
    |(go_at_call 15;(with_reducible refine (k5r_jour hK13).mono ?_);rintro e w15 ⟨⟨a15,c15,rfl⟩,hK15,hf15⟩))
   have hbx15:=Rw.Block.fr (Rw.Block.fr hb12.out hf13 (.inl (by decide))) hf15 (.inl (by decide))
   have hg15:=(hg12.out.fr hf13 (by decide) (by decide) (by decide) (by decide)).fr hf15 (by decide) (by decide) (by decide) (by decide)
   clear hb12 hg12 hf13 hf15 hrp hn13 htx13 hK13 hr13 d0 d1 y0 y2 y3
   have hb16:=Aa1 w15 (.cells #[.int .i64 1049] 3)
   have hb16x:=Block.made w15 3 #[.int .i64 1049]
   have hdo:=J0 (Cg6 (c:=1) (hK15.on hb16) 63 1049 104 (by decide) (by decide) hb16x (by simp [maxLen]) (Ar5 (by kernel_rfl)))
   have hbx16:=J0 (Block.only hbx15 (Only.of_below hb16 []) (by simp))
   have hg16:=J0 (hg15.below hb16)
   clear hbx15 hg15 hb16 hb16x hK15
   go_upto_region 18 with ((go_at_call 9;(with_reducible refine (hdo.out).mono ?_);rintro e w17 ⟨rfl,hK17,hf17⟩))
   have hbx17:=Rw.Block.fr hbx16.out hf17 (.inl (by decide))
   have hg17:=hg16.out.fr hf17 (by decide) (by decide) (by decide) (by decide)
   change Kn w w17 d t k6 at hK17
   clear hbx16 hg16 hf17 hdo
   go_wp2_with fail
   refine (Bk3 hK17).mono ?_
   rintro e w18 ⟨cv6,iv6,rs6,rfl,hg6,hb18,hK18⟩
   obtain ⟨g6,c6,x6',a6,d6,e6,-,-⟩:=Cd5 hg6
   rw [e6]
   have hbx18:=Block.only hbx17 (Only.of_below hb18 []) (by simp)
   have hg18:=hg17.below hb18
   clear hbx17 hg17 hb18 hK17
   go_upto_region 19 with (fail)
   have hbn:=Aa1 w18 (.cells #[.slice (some ⟨g6,0,none⟩) 2 c6,.slice a6 2 d6,.int .i64 1,.int .i64 1,.bool false,.bool false,.bool false,.int .i64 0,.int .i64 1,.int .u32 0,.int .u32 0,.int .u16 0] 43)
   have hbx6:=Block.made w18 43 #[.slice (some ⟨g6,0,none⟩) 2 c6,.slice a6 2 d6,.int .i64 1,.int .i64 1,.bool false,.bool false,.bool false,.int .i64 0,.int .i64 1,.int .u32 0,.int .u32 0,.int .u16 0]
   have hK19:=hK18.on hbn
   have hbx19:=Block.only hbx18 (Only.of_below hbn []) (by simp)
   have hg19:=hg18.below hbn
   replace hg6:=hg6.below hbn
   generalize w18.heap.size=b6 at hbx6 |-
   generalize w18.alloc (.cells #[.slice (some ⟨g6,0,none⟩) 2 c6,.slice a6 2 d6,.int .i64 1,.int .i64 1,.bool false,.bool false,.bool false,.int .i64 0,.int .i64 1,.int .u32 0,.int .u32 0,.int .u16 0] 43)=w19 at hK19 hbx19 hg19 hg6 hbx6 |-
   obtain ⟨g6',c6',x6,a6',d6',e6',d0,d1⟩:=Cd5 hg6
   rw [e6] at e6'
   simp only [Array.mk.injEq,List.cons.injEq,Value.slice.injEq,Option.some.injEq,Addr.mk.injEq] at e6'
   obtain ⟨⟨rfl,-⟩,-⟩:=e6'.1
   clear e6' hbx18 hg18 hg6 e6 hbn hK18
   have y0:=hbx6.cell 0 (v:=.slice (some ⟨g6,0,none⟩) 2 c6) rfl
   have y6:=hbx6.cell 6 (v:=.bool false) rfl
   replace hbx19:=J0 hbx19
   replace hg19:=J0 hg19
   replace hK19:=J0 hK19
   clear hbx6
   go_upto_region 21 with (fail)
   have hb20:=Aa1 w19 (.cells #[.int .i64 1049] 3)
   have hb20x:=Block.made w19 3 #[.int .i64 1049]
   have hdo:=J0 (Cg6 (c:=1) (hK19.out.on hb20) 63 1049 108 (by decide) (by decide) hb20x (by simp [maxLen]) (Ar5 (by kernel_rfl)))
   have hbx20:=J0 (Block.only hbx19.out (Only.of_below hb20 []) (by simp))
   have hg20:=J0 (hg19.out.below hb20)
   clear hbx19 hg19 hb20 hb20x hK19 d0 d1 y0 y6
   go_upto_region 22 with ((go_at_call 9;(with_reducible refine (hdo.out).mono ?_);rintro e w21 ⟨rfl,hK21,hf21⟩))
   have hbx21:=Rw.Block.fr hbx20.out hf21 (.inl (by decide))
   have hg21:=hg20.out.fr hf21 (by decide) (by decide) (by decide) (by decide)
   change Kn w w21 d t k7 at hK21
   clear hbx20 hg20 hf21 hdo
   refine Eqt.region_until (fun w'=>Below w21.heap.size w21 w') (by kernel_rfl) ?_
   have hH:Below w21.heap.size w21 w21.drew:=Aa4 (Below.refl w21.heap.size w21) 1
   refine Eqt.K2 0 ⟨some 134,_,_,_,_,_⟩ ?_ rfl (Or.inl ⟨by rfl,?_⟩) (fun _=>hH) ?_
   rotate_left 1
   ·(intro w;go_simp)<;>with_reducible rfl
   try simp only [Act.put,J1,J2,J3]
   refine Eqt.K1 2 ⟨some 136,_,_,_,_,_⟩ ?_ rfl (Or.inl ⟨by rfl,?_⟩) hH ?_
   rotate_left 1
   ·(intro w hSw;have q:=Block.only hbx21 (Only.of_below hSw []) (by simp);have q0:=q.cell 0 (v:=.slice (some ⟨g5,0,none⟩) 2 c5) rfl;have q1:=q.cell 1 (v:=.slice a5 2 d5) rfl;have q2:=q.cell 2 (v:=.int .i64 1) rfl;have q3:=q.cell 3 (v:=.int .i64 1) rfl;have q4:=q.cell 4 (v:=.bool false) rfl;have q5:=q.cell 5 (v:=.bool false) rfl;have q6:=q.cell 6 (v:=.bool true) rfl;have q7:=q.cell 7 (v:=.int .i64 0) rfl;have q8:=q.cell 8 (v:=.int .i64 1) rfl;have q9:=q.cell 9 (v:=.int .u32 0) rfl;have q10:=q.cell 10 (v:=.int .u32 0) rfl;have q11:=q.cell 11 (v:=.int .u16 0) rfl;go_simp)<;>with_reducible rfl
   try simp only [Act.put,J1,J2,J3]
   refine Eqt.wpAnyU_one 1 [2] (o:=⟨some 135,_,_,_,_,_⟩) (by kernel_rfl) rfl (by kernel_rfl) (fun K hK=>?_)
   go_simp
   refine (Bk3 (hK21.on hH)).mono ?_
   rintro e w22 ⟨cv7,iv7,rs7,rfl,hg7,hb22,hK22⟩
   have hg22:=hg21.below (Aa0 hH hb22)
   replace hH:=Aa0 hH hb22
   refine hK.out _ _ (fun _=>hH) ?_
   clear hK K
   try simp only [Act.put,J1,J2,J3]
   refine Eqt.wpAnyU_one 3 [] (o:=⟨some 137,_,_,_,_,_⟩) (by kernel_rfl) rfl (by kernel_rfl) (fun K hK=>?_)
   go_simp
   have e5:=e9.out
   rw [<- e5]
   refine (same_told hg7 hg22 hK22.ok (k5_L.trans k7_L.symm) k7_cols.symm (k5_G.trans k7_G.symm) (by rw [k7_L];exact kl2_four)).mono ?_
   rintro e w23 ⟨rfl,hb23⟩
   replace hH:=Aa0 hH hb23
   refine hK.out _ _ (fun h=>absurd rfl h) ?_
   clear hK K
   try simp only [Act.put,J1,J2,J3]
   refine Eqt.K2 4 ⟨some 0,_,_,_,_,_⟩ ?_ rfl (Or.inl ⟨by rfl,?_⟩) (fun _=>hH) ?_
   rotate_left 1
   ·(intro w;go_simp)<;>with_reducible rfl
   try simp only [Act.put,J1,J2]
   refine Eqt.wpAnyU_done (by kernel_rfl) ?_ _
   (try dsimp only [Act.put])
   have hres:=Aa0 hK21.below hH
   clear hg7 hg22 hK22 hK21 hg21 hbx21 e9
   go_wp2
   go_ret
   exact ⟨rfl,hres⟩
end
structure Tld (w:World) (n cols:Nat) (L:List Ln) (g1 c1 g2 c2:Nat) (rs:List TRow):Prop where
 rws:Rws 0 w cols (.slice (some ⟨g1,0,none⟩) n c1) (.slice (some ⟨g2,0,none⟩) n c2) rs (L.map (·.1))
 len:rs.length=n
 llen:L.length=n
 got:rs.map (fun p=>p.2.map (·.1))=L.map (·.2)
 wid:∀ p∈L,p.2.length=cols
section
variable {Z:Zn} {W w w':World} {d t n cols g1 c1 g2 c2:Nat} {L:List Ln} {rs:List TRow} {T:Ter} {v:Value} {hs:List Bm5}
theorem Tld.below (h:Tld w n cols L g1 c1 g2 c2 rs) (hb:Below w.heap.size w w'):Tld w' n cols L g1 c1 g2 c2 rs:=⟨h.rws.below hb,h.len,h.llen,h.got,h.wid⟩
theorem Tld.fr (h:Tld w n cols L g1 c1 g2 c2 rs) (hf:Rw.Fr 0 TT w w'):Tld w' n cols L g1 c1 g2 c2 rs:=⟨h.rws.fr hf (by decide) (by decide) (by decide) (by decide),h.len,h.llen,h.got,h.wid⟩
theorem Tld.row (h:Tld w n cols L g1 c1 g2 c2 rs) {i:Nat} (hi:i<n):∃ x,w.cell? ⟨g1,i,none⟩=some (.slice (some ⟨x,0,none⟩) cols cols)/\w.cell? ⟨g2,i,none⟩=some (.int .i64 (L[i]'(by rw [h.llen];exact hi)).1) /\
  ∀ j (hj:j<cols),w.cell? ⟨x,j*6,none⟩=some (.int .i32 (((L[i]'(by rw [h.llen];exact hi)).2)[j]'(by rw [h.wid _ (List.getElem_mem _)];exact hj)).r)/\w.cell? ⟨x,j*6+2,none⟩=some (.int .u8 (((L[i]'(by rw [h.llen];exact hi)).2)[j]'(by rw [h.wid _ (List.getElem_mem _)];exact hj)).wide) /\
   w.cell? ⟨x,j*6+3,none⟩=some (.int .u32 (((L[i]'(by rw [h.llen];exact hi)).2)[j]'(by rw [h.wid _ (List.getElem_mem _)];exact hj)).a.f)/\w.cell? ⟨x,j*6+4,none⟩=some (.int .u32 (((L[i]'(by rw [h.llen];exact hi)).2)[j]'(by rw [h.wid _ (List.getElem_mem _)];exact hj)).a.b)/\w.cell? ⟨x,j*6+5,none⟩=some (.int .u16 (((L[i]'(by rw [h.llen];exact hi)).2)[j]'(by rw [h.wid _ (List.getElem_mem _)];exact hj)).a.g) /\
   ∃ y cc,w.cell? ⟨x,j*6+1,none⟩=some (.slice y (((L[i]'(by rw [h.llen];exact hi)).2)[j]'(by rw [h.wid _ (List.getElem_mem _)];exact hj)).m.length cc):=by
 have hi':i<rs.length:=by rw [h.len];exact hi
 have hL:i<L.length:=by rw [h.llen];exact hi
 obtain ⟨g,c,e,_,_,hc⟩:=h.rws.cv_at hi'
 obtain ⟨g',c',e',_,_,hc'⟩:=h.rws.iv_at (i:=i) (by rw [List.length_map];exact hL)
 simp only [Value.slice.injEq,Option.some.injEq,Addr.mk.injEq,and_true] at e e'
 obtain ⟨rfl,_,rfl⟩:=e
 obtain ⟨rfl,_,rfl⟩:=e'
 rw [List.getElem_map] at hc'
 refine ⟨_,hc,hc',fun j hj=>?_⟩
 have hg:=congrArg (·[i]?) h.got
 simp only [List.getElem?_map,List.getElem?_eq_getElem hi',List.getElem?_eq_getElem hL,Option.map_some,Option.some.injEq] at hg
 have hw:=h.wid _ (List.getElem_mem hL)
 have hj':j<(rs[i]'hi').2.length:=by
  have:=congrArg List.length hg
  rw [List.length_map] at this
  omega
 have hA:=h.rws.apis _ (List.getElem_mem hi')
 have hx:=api6 hA hj'
 have he:((rs[i]'hi').2[j]'hj').1=(L[i].2)[j]'(by omega):=by
  have:=congrArg (·[j]?) hg
  simp only [List.getElem?_map,List.getElem?_eq_getElem hj',List.getElem?_eq_getElem (show j<(L[i].2).length by omega),Option.map_some,Option.some.injEq] at this
  exact this
 obtain ⟨y,cc,ey,_⟩:=(hA.comb _ (List.getElem_mem hj')).shape
 rw [ey,he] at hx
 exact ⟨hx.1,hx.2.2.1,hx.2.2.2.1,hx.2.2.2.2.1,hx.2.2.2.2.2,y,cc,hx.2.1⟩
theorem Bc3 (h:TZ Z W w d t T):Calls Tryz.prog 12 #[.pointer (some ⟨d,0,none⟩)] w fun e w'=>∃ g1 c1 g2 c2 rs,e=.returned (.agg #[.slice (some ⟨g1,0,none⟩) T.vis.L.length c1,.slice (some ⟨g2,0,none⟩) T.vis.L.length c2,.int .i64 T.c.row,.int .i64 T.c.col,.bool T.c.pend,.bool (!T.m.a5),.bool T.other.isNone,.int .i64 T.vis.top,.int .i64 T.vis.bot,.int .u32 T.p.a.f,.int .u32 T.p.a.b,.int .u16 T.p.a.g]) /\
  Tld w' T.vis.L.length T.vis.cols T.vis.L g1 c1 g2 c2 rs/\Below w.heap.size w w':=by
 refine (Bq7 h.tv h.ok).mono fun e w' ⟨cv,iv,rs,he,hg,hb⟩=>?_
 have hn:=h.ok.fit.len
 obtain ⟨g1,c1,e1,_,_,_⟩:=hg.rws.cv_at (i:=0) (by rw [hg.len];omega)
 obtain ⟨g2,c2,e2,_,_,_⟩:=hg.rws.iv_at (i:=0) (by rw [List.length_map];omega)
 rw [hg.len] at e1
 rw [List.length_map] at e2
 subst e1 e2
 exact ⟨g1,c1,g2,c2,rs,he,⟨hg.rws.lower (Nat.zero_le _),hg.len,rfl,hg.got,h.ok.fit.wid⟩,hb⟩
structure Bld (w:World) (v:Value) (n:Nat) (R:List Ln) (hs:List Bm5):Prop where
 back:∃ B,BackT B w v hs
 got:hs.map lnOf=R
 len:R.length=n
theorem back_told (h:TZ Z W w d t T):Calls Tryz.prog 14 #[.pointer (some ⟨d,0,none⟩)] w fun e w'=>∃ ba bc hs,e=.returned (.slice ba T.R.length bc)/\Bld w' (.slice ba T.R.length bc) T.R.length T.R hs/\T.R.length<=maxLen/\Below w.heap.size w w':=by
 refine (tback_any h.tv).mono fun e w' ⟨v,hs,he,hB,hL,hb⟩=>?_
 obtain ⟨ba,bc,rfl,h1,h2⟩:=Ac1 hB.rows
 have hl:hs.length=T.R.length:=by rw [<- hL,List.length_map]
 rw [hl] at he hB h1
 exact ⟨ba,bc,hs,he,⟨⟨_,hB⟩,hL,rfl⟩,Nat.le_trans h1 h2,hb⟩
end
section
variable {W w w':World}
theorem new_not (_:Tbl W) (r c b:Int) (h:¬ (Ah5 r c/\0<=b/\b<=10000)):Calls Tryz.prog 18 #[.int .i64 r,.int .i64 c,.int .i64 b] W fun e w'=>e=.returned (.tuple #[.pointer none,.int .i64 2])/\Below W.heap.size W w':=by
 by_cases hb:0<=b/\b<=10000
 ·obtain ⟨b,rfl⟩:=Int.eq_ofNat_of_zero_le hb.1
  refine tnew_size r c b (by omega) ?_ W
  by_cases h1:1<=r/\r<=512
  ·exact .inr fun h2=>h ⟨⟨h1,h2⟩,hb⟩
  ·exact .inl h1
 ·exact tnew_back r c b (by omega) W
theorem rm_new {r c b:Nat} (h1:1<=r) (h2:r<=12) (h3:1<=c) (h4:c<=512):Rm 0 (newT r c b):=by
 have hv:(newT r c b).vis.L.length=r:=Ae4 _ _ _ _
 refine ⟨Cd9 r c b h1 (by omega) h3 h4,by omega,?_,J5 _,J5 _,J5 _⟩
 show 1+r<=_
 omega
theorem Bq4 {r c b:Int} {os:List OpA} (h:Cd1 r c b os=true):r<=12/\c<=24/\b<=20/\os.length<=120/\os.all Ai6=true:=by
 unfold Cd1 at h
 simp only [Bool.and_eq_true,Bool.not_eq_true',Bool.or_eq_false_iff,decide_eq_false_iff_not] at h
 obtain ⟨⟨h1,h2,h3,h4⟩,h5⟩:=h
 exact ⟨by omega,by omega,by omega,by omega,h5⟩
end
structure Keep (Z Z':Zn) (w w':World):Prop where
 size:w.heap.size<=w'.heap.size
 same:∀ k,k<w.heap.size->Z k->w'.heap[k]?=w.heap[k]?
 zone:∀ k,k<w.heap.size->Z k->Z' k
 up:∀ k,w'.heap.size<=k->Z' k
section
variable {Z Z':Zn} {w w':World} {x s nx most cols top bot n x1 x2 t d:Nat} {kp:Bool} {sv lv:Value} {xs:List Value} {L R:List En} {S S1 S2:Scr} {T:Ter} {P:Pt}
theorem MidX.keep (h:MidX Z w x s nx most kp cols sv lv top bot n xs L R) (hk:Keep Z Z' w w'):MidX Z' w' x s nx most kp cols sv lv top bot n xs L R:=by
 obtain ⟨_,hk,hZ,up⟩:=hk
 have lo:=h.ln.lo
 have hr:∀ e∈R,e.d<w.heap.size/\e.g<w.heap.size:=fun e he=>Ak5 (h.ln.st.2 e he)
 have hl:∀ e∈L,e.d<w.heap.size/\e.g<w.heap.size:=fun e he=>Ak5 (h.rows e he)
 have hst:SX 0 w' s nx most sv R:=by
  have hp:=h.ln.st.ptyp
  obtain ⟨⟨o,Q,h0,hR⟩,hg⟩:=h.ln.st
  exact ⟨⟨o,Q,⟨(hk _ h0.blk.lt lo.s).trans h0.blk,Ac8 h0.own (fun g hg=>hk _ (hp g hg).2.1 (lo.p g hg)),h0.le,h0.old,h0.olt,h0.most,h0.pos,h0.small,h0.lo⟩,hR⟩,
   fun e he=>Ay3 (hg e he) (hk _ (hr e he).1 (lo.r e he).1) (hk _ (hr e he).2 (lo.r e he).2)⟩
 exact ⟨⟨(hk _ h.ln.blk.lt lo.x).trans h.ln.blk,Ac8 h.ln.own (fun g hg=>hk _ (h.ln.ltyp g hg).2.1 (lo.l g hg)),hst,h.ln.apart,⟨hZ _ h.ln.blk.lt lo.x,hZ _ (Ah0 h.ln.st.typ) lo.s,fun g hg=>hZ _ (h.ln.ltyp g hg).2.1 (lo.l g hg),fun g hg=>hZ _ (h.ln.st.ptyp g hg).2.1 (lo.p g hg),
  fun e he=>⟨hZ _ (hr e he).1 (lo.r e he).1,hZ _ (hr e he).2 (lo.r e he).2⟩,up⟩,h.ln.small⟩,fun e he=>Ay3 (h.rows e he) (hk _ (hl e he).1 (h.zr e he).1) (hk _ (hl e he).2 (h.zr e he).2),fun e he=>⟨hZ _ (hl e he).1 (h.zr e he).1,hZ _ (hl e he).2 (h.zr e he).2⟩,h.dd,h.gg⟩
theorem SC.keep (h:SC Z w x s S) (hk:Keep Z Z' w w'):SC Z' w' x s S:=by
 obtain ⟨sv,lv,L,R,h1,h2,h3⟩:=h
 exact ⟨sv,lv,L,R,MidX.keep h1 hk,h2,h3⟩
theorem Two.keep (h:Two Z w s x1 x2 S1 S2) (hk:Keep Z Z' w w'):Two Z' w' s x1 x2 S1 S2:=by
 obtain ⟨sv,R,l1,L1,l2,L2,h1,e1,eR,h2,e2,hx,hl,hd,hg⟩:=h
 exact ⟨sv,R,l1,L1,l2,L2,MidX.keep h1 hk,e1,eR,MidX.keep h2 hk,e2,hx,hl,hd,hg⟩
theorem TMx.keep (h:TMx Z w t T P) (hk:Keep Z Z' w w') (low:∀ k,k<6->¬ Z' k) (htb:Tbl w'):TMx Z' w' t T P:=by
 have hs:Scrs Z' w' T P:=by
  have h1:=h.scr
  unfold Scrs at h1 |-
  split at h1
  ·exact SC.keep h1 hk
  ·exact Two.keep h1 hk
 obtain ⟨_,hk,hZ,up⟩:=hk
 have same:∀ {k:Nat} {ty:TypeId} {cs:Array Value},Block w k ty cs->Z k->Block w' k ty cs:=fun hb hz=>(hk _ hb.lt hz).trans hb
 have tj:∀ g,P.jv.ownBlock=some g->g<w.heap.size:=fun g hg=>Ah0 (Ac0 h.jr g hg)
 have tr:∀ g,P.rv.ownBlock=some g->g<w.heap.size:=fun g hg=>Ah0 (Ac7 h.rp g hg)
 have tb:P.tb<w.heap.size:=Block.lt h.tabs
 exact ⟨same h.blk h.zt,same h.main h.zm,fun o ho=>⟨same (h.aside o ho).1 (h.aside o ho).2.2,(h.aside o ho).2.1,hZ _ (h.aside o ho).1.lt (h.aside o ho).2.2⟩,hs,same h.tabs h.zb,
  Ac8 h.jr (fun g hg=>hk _ (tj g hg) (h.zj g hg)),Ac5 h.rp (fun g hg=>hk _ (tr g hg) (h.zr g hg)),hZ _ h.blk.lt h.zt,hZ _ h.main.lt h.zm,hZ _ tb h.zb,fun g hg=>hZ _ (tj g hg) (h.zj g hg),fun g hg=>hZ _ (tr g hg) (h.zr g hg),up,low,htb⟩
end
def Bo (W w:World) (d t:Nat) (T:Ter) (d2 t2:Nat) (U:Ter):Prop:=∃ Z Z2:Zn,TZ Z W w d t T/\TZ Z2 W w d2 t2 U/\∀ k,k<w.heap.size->Z k->¬ Z2 k
section
variable {Z:Zn} {W w w':World} {d t d2 t2:Nat} {T T' U:Ter}
theorem Bo.swap (h:Bo W w d t T d2 t2 U):Bo W w d2 t2 U d t T:=by
 obtain ⟨Z,Z2,h1,h2,h3⟩:=h
 exact ⟨Z2,Z,h2,h1,fun k hk hz hz2=>h3 k hk hz2 hz⟩
theorem TZ.low (h:TZ Z W w d t T):(∀ k,k<6->¬ Z k)/\(∀ k,w.heap.size<=k->Z k)/\6<=w.heap.size:=by
 obtain ⟨P,hP⟩:=h.tv.tm
 exact ⟨hP.low,hP.up,hP.tbl.1⟩
theorem TZ.keep {Z2:Zn} (h:TZ Z W w d t T) (hf:Scn.Fr Z2 TT w w') (hd:∀ k,k<w.heap.size->Z k->¬ Z2 k) (hlow:∀ k,k<6->¬ Z2 k) (hout:∀ k,k<W.heap.size->¬ Z2 k):TZ (fun k=>(Z k/\k<w.heap.size)\/w'.heap.size<=k) W w' d t T:=by
 obtain ⟨hl,_,h6⟩:=h.low
 have hs:=hf.size
 have hW:=h.below.size
 obtain ⟨P,hP⟩:=h.tv.tm
 have hk:Keep Z (fun k=>(Z k/\k<w.heap.size)\/w'.heap.size<=k) w w':=⟨hs,fun k hk hz=>hf.block k hk (.inl (hd k hk hz)),fun k hk hz=>.inl ⟨hz,hk⟩,fun k hk=>.inr hk⟩
 refine ⟨⟨Scn.Block.fr h.tv.blk hf (.inl (by decide)),P,hP.keep hk (fun k hk hz=>?_) (hP.tbl.fr hf hlow)⟩,h.ok,An3 h.below hout hf,fun k hk hz=>?_⟩
 ·rcases hz with hz|hz
  ·exact hl k hk hz.1
  ·omega
 ·rcases hz with hz|hz
  ·exact h.out k hk hz.1
  ·omega
theorem Bo.left (h:Bo W w d t T d2 t2 U):∃ Z,TZ Z W w d t T/\∀ w' T',TZ Z W w' d t T'->Scn.Fr Z TT w w'->Bo W w' d t T' d2 t2 U:=by
 obtain ⟨Z,Z2,h1,h2,h3⟩:=h
 refine ⟨Z,h1,fun w' T' h4 hf=>⟨Z,_,h4,h2.keep hf (fun k hk hz2 hz=>h3 k hk hz hz2) h1.low.1 h1.out,fun k hk hz hz2=>?_⟩⟩
 rcases hz2 with hz2|hz2
 ·exact h3 k hz2.2 hz hz2.1
 ·omega
theorem Bo.right (h:Bo W w d t T d2 t2 U):∃ Z,TZ Z W w d2 t2 U/\∀ w' U',TZ Z W w' d2 t2 U'->Scn.Fr Z TT w w'->Bo W w' d t T d2 t2 U':=by
 obtain ⟨Z,h1,h2⟩:=h.swap.left
 exact ⟨Z,h1,fun w' U' h3 hf=>(h2 w' U' h3 hf).swap⟩
theorem Bo.on (h:Bo W w d t T d2 t2 U) (hb:Below w.heap.size w w'):Bo W w' d t T d2 t2 U:=by
 obtain ⟨Z,h1,h2⟩:=h.left
 exact h2 w' T (h1.on hb) (Scn.Fr.of_below hb)
theorem Bo.below (h:Bo W w d t T d2 t2 U):Below W.heap.size W w:=by
 obtain ⟨Z,h1,h2⟩:=h.left
 exact h1.below
theorem Bo.made (h:TZ Z W w d t T) (hk:Kn w w' d2 t2 U):Bo W w' d t T d2 t2 U:=by
 have hW:=h.below.size
 obtain ⟨hl,_,h6⟩:=h.low
 have h1:=h.keep (w':=w') (Scn.Fr.of_below (B:=fun _=>False) (ts:=TT) hk.below) (fun _ _ _ h=>h) (fun _ _ h=>h) (fun _ _ h=>h)
 refine ⟨_,fun k=>w.heap.size<=k,h1,⟨hk.tv,hk.ok,Aa0 h.below hk.below,fun k hk=>by omega⟩,fun k hk hz hz2=>?_⟩
 rcases hz with hz|hz
 ·exact absurd hz.2 (by omega)
 ·omega
end
