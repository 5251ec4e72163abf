/- Part 50 of the proof that the card of EmuReset holds. -/
import Derived.Test.YtkjpjegmanpbfaaGreatDoorPR49
set_option maxHeartbeats 16000000
set_option maxRecDepth 100000
namespace Go.Proofs.YtkjpjegmanpbfaaGreatDoor.Emu
open Go RowKit Com Rw Lns Scn
section
variable {W w w':World}
theorem Ao9 {a:Option Addr} {n c:Nat} {l:List Int} (h:Kys.Row w 0 5 (.slice a n c) l):(convert 52 9 (.slice a n c)).run Tryz.prog w=.ok (.string (strOfNums l)) w:=by
 obtain ⟨a',c',e,_,_,hn⟩:=h.shape
 rw [e]
 exact Kys.text_of hn c'
theorem Tld.head {n cols g1 c1 g2 c2:Nat} {L:List Ln} {rs:List TRow} (h:Tld w n cols L g1 c1 g2 c2 rs) (hn:1<=n):∃ xr,∀ w',Tld w' n cols L g1 c1 g2 c2 rs->w'.cell? ⟨g1,0,none⟩=some (.slice (some ⟨xr,0,none⟩) cols cols):=by
 have hi:0<rs.length:=by rw [h.len];omega
 refine ⟨(rs[0]).1,fun w' h'=>?_⟩
 obtain ⟨g,c,e,_,_,hc⟩:=h'.rws.cv_at hi
 simp only [Value.slice.injEq,Option.some.injEq,Addr.mk.injEq,and_true] at e
 obtain ⟨rfl,_,rfl⟩:=e
 exact hc
theorem Ab2 {w:World} {a:Addr} {v:Value} (h:w.cell? a=some v) (o:Obj):(w.alloc o).cell? a=some v:=(World.cell?_alloc_lt _ _ _ (World.block_lt_of_cell? _ _ h)).trans h
theorem Bo.typ2 {d t d2 t2:Nat} {T U:Ter} (h:Bo W w d t T d2 t2 U):Typ w t2 88:=by
 obtain ⟨Z,h1⟩:=h.snd
 obtain ⟨P,hP⟩:=h1.tv.tm
 exact Block.typ hP.blk
theorem reset_no (r c b:Int) (al:Option Addr) (nl cl:Nat) (am:Option Addr) (nm cm:Nat) (hT:Tbl W) (hno:¬ (Ah5 r c/\0<=b/\b<=10000)):Calls Tryz.prog 4 #[.int .i64 r,.int .i64 c,.int .i64 b,.slice al nl cl,.slice am nm cm] W fun e w'=>e=.returned (.bool true)/\Below W.heap.size W w':=by
 have hkn:=J0 (fun w1 (hb:Below W.heap.size W w1)=>Bq5 (hT.below hb))
 have hnew:=J0 (new_not hT r c b hno)
 clear hT hno
 go_enter Tryz.func4,Tryz.ntmps4
 go_wp2_with (first|(go_at_call 18;(with_reducible refine (hnew.out).mono ?_);rintro e w1 ⟨rfl,hb1⟩)|(go_at_call 8;(with_reducible refine (hkn.out _ hb1).mono ?_);rintro e w2 ⟨rfl,hb2⟩))
 go_ret
 exact ⟨rfl,Aa0 hb1 hb2⟩
theorem reset_yes (r c b:Nat) (al:Option Addr) (cl:Nat) (l:List OpA) (am:Option Addr) (cm:Nat) (m:List OpA) (hT:Tbl W) (hr1:1<=r) (hr5:r<=512) (hc1:1<=c) (hc5:c<=512) (hb5:b<=10000) {nl nm:Nat} (hnle:l.length=nl) (hnme:m.length=nm) (hnl:Bh4 W al l) (hfl:∀ o∈l,OpIn W o) (hnm:Bh4 W am m) (hfm:∀ o∈m,OpIn W o):Calls Tryz.prog 4 #[.int .i64 r,.int .i64 c,.int .i64 b,.slice al nl cl,.slice am nm cm] W fun e w'=>e=.returned (.bool true)/\Below W.heap.size W w':=by
 have hkn:=J0 (fun w1 (hb:Below W.heap.size W w1)=>Bq5 (hT.below hb))
 have hnew:=J0 (Ch1 hT r c b hr1 hr5 hc1 hc5 hb5)
 have htl:=J0 (fun w1 (hb:Below W.heap.size W w1)=>Ca6 (wr:=w1) r c b (cp:=cl) hnl hnle hb)
 have htm:=J0 (fun w1 (hb:Below W.heap.size W w1)=>Ca6 (wr:=w1) r c b (cp:=cm) hnm hnme hb)
 have hdl:=J0 (fun Z wr d t T n (h:TZ Z W wr d t T) (hR:Rm n T) (ht:l.all Ai6=true) (h5:n+l.length<=500)=>Ck2 (cp:=cl) h hR hnl hfl ht h5 hnle)
 have hrm:=J0 (fun h=>rm_new (b:=b) hr1 h hc1 hc5)
 replace hnle:=J0 hnle
 replace hnme:=J0 hnme
 have hnmm:=J0 hnm
 have hfmm:=J0 hfm
 have hb5':=J0 hb5
 clear hT hnl hfl hnm hfm hr5 hb5
 go_enter Tryz.func4,Tryz.ntmps4
 go_upto_region 2 with ((go_at_call 18;(with_reducible refine (hnew.out).mono ?_);rintro e w1 ⟨d,t,rfl,hK,hb1⟩))
 have htl1:=J0 (htl.out _ hb1)
 cases hyl:Cd1 r c b l with
 |false =>
  rw [hyl] at htl1
  clear hyl hK
  go_wp2_with (first|(go_at_call 19;(with_reducible refine (htl1.out).mono ?_);rintro e w2 ⟨rfl,hb2⟩)|(go_at_call 8;(with_reducible refine (hkn.out _ (Aa0 hb1 hb2)).mono ?_);rintro e w3 ⟨rfl,hb3⟩))
  go_ret
  exact ⟨rfl,Aa0 (Aa0 hb1 hb2) hb3⟩
 |true =>
 rw [hyl] at htl1
 have htm1:=J0 (fun w2 (hb2:Below w1.heap.size w1 w2)=>htm.out _ (Aa0 hb1 hb2))
 cases hym:Cd1 r c b m with
 |false =>
  rw [hym] at htm1
  clear hyl hym hK
  go_wp2_with (first|(go_at_call 19;(with_reducible refine (htl1.out).mono ?_);rintro e w2 ⟨rfl,hb2⟩)|(go_at_call 19;(with_reducible refine (htm1.out _ hb2).mono ?_);rintro e w3 ⟨rfl,hb3⟩)|(go_at_call 8;(with_reducible refine (hkn.out _ (Aa0 (Aa0 hb1 hb2) hb3)).mono ?_);rintro e w4 ⟨rfl,hb4⟩))
  go_ret
  exact ⟨rfl,Aa0 (Aa0 (Aa0 hb1 hb2) hb3) hb4⟩
 |true =>
 rw [hym] at htm1
 obtain ⟨hr12,_,_,hl5,hla⟩:=Bq4 hyl
 obtain ⟨_,_,_,hm5,hma⟩:=Bq4 hym
 clear hyl hym
 go_upto_region 4 with (first|(go_at_call 19;(with_reducible refine (htl1.out).mono ?_);rintro e w2 ⟨rfl,hb2⟩)|(go_at_call 19;(with_reducible refine (htm1.out _ hb2).mono ?_);rintro e w3 ⟨rfl,hb3⟩))
 have hK3:=J0 ((hK.on hb2).on hb3)
 clear htl1 htm1 hK hb1 hb2 hb3 hnew htl htm
 rw [hnle.out] at hl5
 rw [hnme.out] at hm5
 have hdo1:=J0 (hdl.out _ _ d t _ 0 hK3.out.tz (hrm.out (by omega)) hla (by rw [hnle.out];omega))
 have hRk:Hid (Rm nl (runT (newT r c b) l)):=J0 (by
  have h:=(hrm.out (by omega)).run (os:=l) fun o ho=>List.all_eq_true.1 hla o ho
  rw [Nat.zero_add,hnle.out] at h
  exact h)
 have hmo:Hid ((runT (newT r c b) l).most=b):=J0 (mo_run (T:=newT r c b) l (rfl:(newT r c b).most=b))
 generalize runT (newT r c b) l=T at hdo1 hRk hmo
 generalize hZe:(fun k=>W.heap.size<=k)=Z at hdo1
 obtain ⟨T0,n,cols,nx,L0,U0,T1,U1,dd,n1,cols1,rn,L1,row1,col1,pn1,rpl,m1,kit⟩:=reset_kit (W:=W) (d:=d) (t:=t) (cm:=cm) hRk.out (by omega) hmo.out hb5'.out hnmm.out hfmm.out hma hnme.out hm5
 have hn1:=kit.one0
 have h1n:=kit.le1
 have h1c:=kit.le2
 have hfst:=kit.first
 replace kit:=J0 kit
 clear hdl hrm hla hma hZe hK3 hRk hmo hb5' hnmm hfmm
 go_upto_region 6 with (first|(go_at_call 20;(with_reducible refine (hdo1.out).mono ?_);rintro e w5 ⟨rfl,hT5,_,_⟩)|(go_at_call 9;(with_reducible refine (kit.out.res _ _ hT5).mono ?_);rintro e w6 ⟨rfl,hT6,hf6⟩))
 obtain ⟨row0,col0,pn0,hgr⟩:=kit.out.grd _ _ hT6
 unfold Grd at hgr
 replace hgr:=J0 hgr
 clear hf6 hT5 hdo1
 go_upto_region 7 with ((go_at_call 12;(with_reducible refine (hgr.out).mono ?_);rintro e w7 ⟨g1,c1,g2,c2,rs,hd0,mn0,tp0,bt0,ff0,bb0,gg0,rfl,hg,hb7⟩))
 have hbn:=Aa1 w7 (.cells #[.slice (some ⟨g1,0,none⟩) n c1,.slice (some ⟨g2,0,none⟩) n c2,.int .i64 row0,.int .i64 col0,.bool pn0,.bool hd0,.bool mn0,.int .i64 tp0,.int .i64 bt0,.int .u32 ff0,.int .u32 bb0,.int .u16 gg0] 43)
 have hbx:=Block.made w7 43 #[.slice (some ⟨g1,0,none⟩) n c1,.slice (some ⟨g2,0,none⟩) n c2,.int .i64 row0,.int .i64 col0,.bool pn0,.bool hd0,.bool mn0,.int .i64 tp0,.int .i64 bt0,.int .u32 ff0,.int .u32 bb0,.int .u16 gg0]
 replace hT6:=(hT6.on hb7).on hbn
 replace hg:=hg.below hbn
 generalize w7.heap.size=bg at hbx |-
 generalize w7.alloc (.cells #[.slice (some ⟨g1,0,none⟩) n c1,.slice (some ⟨g2,0,none⟩) n c2,.int .i64 row0,.int .i64 col0,.bool pn0,.bool hd0,.bool mn0,.int .i64 tp0,.int .i64 bt0,.int .u32 ff0,.int .u32 bb0,.int .u16 gg0] 43)=w8 at hbx hT6 hg |-
 clear hbn hb7 hgr
 have hlen0:=kit.out.len0
 obtain ⟨xr,q0,q2,-⟩:=hg.row (i:=0) (by omega)
 rw [kit.out.ids0] at q2
 obtain ⟨xr,hxr⟩:=hg.head hn1
 have y0:=hbx.cell 0 (v:=.slice (some ⟨g1,0,none⟩) n c1) rfl
 have zn:((n:Int) == 0)=false:=by simp;omega
 have hfr:=J0 (fun w1 (hf:Rw.Fr 0 TT w8 w1)=>(And.intro (Rw.Block.fr hbx hf (.inl (by decide))) (hg.fr hf)))
 clear hg hbx
 go_upto_region 9 with (fail)
 have hTn:=J0 hT6
 have hld:Hid (∀ w1,Below w8.heap.size w8 w1->w1.cell? ⟨bg,0,none⟩=some (.slice (some ⟨g1,0,none⟩) n c1)/\w1.cell? ⟨g1,0,none⟩=some (.slice (some ⟨xr,0,none⟩) cols cols)):=J0 fun w1 hb=>by
  obtain ⟨h1,h2⟩:=hfr.out w1 (Rw.Fr.of_below hb)
  exact ⟨h1.cell 0 rfl,hxr w1 h2⟩
 clear hxr hT6 y0 zn hlen0 q2
 have hdw:Below w8.heap.size w8 w8.drew:=Aa4 (Below.refl w8.heap.size w8) 1
 have hpos:0<n:=hn1
 go_wp2_with fail
 refine wp_region_held_drew (S:=fun w'=>w'.cell? ⟨bg,0,none⟩=some (.slice (some ⟨g1,0,none⟩) n c1)/\w'.cell? ⟨g1,0,none⟩=some (.slice (some ⟨xr,0,none⟩) cols cols)) (by kernel_rfl) (by exact hld.out _ hdw) (fun hH=>?_)
 refine K3 0 ⟨some 69,_,_,_,_,_⟩ ?_ rfl (Or.inl ⟨by rfl,?_⟩) hH ?_
 rotate_left 1
 ·(intro w hSw;(try dsimp only at hSw);go_simp)<;>with_reducible rfl
 try simp only [Act.put,J1,J2,J3]
 refine K3 1 ⟨some 70,_,_,_,_,_⟩ ?_ rfl (Or.inl ⟨by rfl,?_⟩) hH ?_
 rotate_left 1
 ·(intro w hSw;(try dsimp only at hSw);go_simp)<;>with_reducible rfl
 try simp only [Act.put,J1,J2,J3]
 refine K3 2 ⟨some 71,_,_,_,_,_⟩ ?_ rfl (Or.inl ⟨by rfl,?_⟩) hH ?_
 rotate_left 1
 ·(intro w hSw;(try dsimp only at hSw);go_simp)<;>with_reducible rfl
 try simp only [Act.put,J1,J2,J3]
 refine K3 3 ⟨some 72,_,_,_,_,_⟩ ?_ rfl (Or.inl ⟨by rfl,?_⟩) hH ?_
 rotate_left 1
 ·(intro w hSw;(try dsimp only at hSw);go_simp)<;>with_reducible rfl
 try simp only [Act.put,J1,J2,J3]
 refine K3 4 ⟨some 73,_,_,_,_,_⟩ ?_ rfl (Or.inl ⟨by rfl,?_⟩) hH ?_
 rotate_left 1
 ·(intro w hSw;(try dsimp only at hSw);go_simp)<;>with_reducible rfl
 try simp only [Act.put,J1,J2,J3]
 refine K3 5 ⟨some 74,_,_,_,_,_⟩ ?_ rfl (Or.inl ⟨by rfl,?_⟩) hH ?_
 rotate_left 1
 ·(intro w hSw;(try dsimp only at hSw);go_simp)<;>with_reducible rfl
 try simp only [Act.put,J1,J2,J3]
 refine K3 6 ⟨some 75,_,_,_,_,_⟩ ?_ rfl (Or.inl ⟨by rfl,?_⟩) hH ?_
 rotate_left 1
 ·(intro w hSw;(try dsimp only at hSw);go_simp)<;>with_reducible rfl
 try simp only [Act.put,J1,J2,J3]
 refine K3 7 ⟨some 76,_,_,_,_,_⟩ ?_ rfl (Or.inl ⟨by rfl,?_⟩) hH ?_
 rotate_left 1
 ·(intro w hSw;(try dsimp only at hSw);go_simp)<;>with_reducible rfl
 try simp only [Act.put,J1,J2,J3]
 refine K3 8 ⟨some 77,_,_,_,_,_⟩ ?_ rfl (Or.inl ⟨by rfl,?_⟩) hH ?_
 rotate_left 1
 ·(intro w hSw;(try dsimp only at hSw);go_simp)<;>with_reducible rfl
 try simp only [Act.put,J1,J2,J3]
 refine wpAnyH_ready (rs:=[9]) (by kernel_rfl) (by simp) ?_
 refine AllReadyH.cons (o:=⟨some 78,_,_,_,_,_⟩) rfl (fun K hK=>?_) AllReadyH.nil
 go_simp
 (go_at_call 18;(with_reducible refine (kit.out.new _ _ (hTn.out.on hdw)).mono ?_);rintro e w10 ⟨d2,t2,rfl,hB,hb10⟩)
 refine hK.out _ _ (by exact hld.out _ (Aa0 hdw hb10)) (fun hH=>?_)
 clear hK K
 try simp only [Act.put,J1,J2,J3]
 refine K3 10 ⟨some 68,_,_,_,_,_⟩ ?_ rfl (Or.inl ⟨by rfl,?_⟩) hH ?_
 rotate_left 1
 ·(intro w hSw;(try dsimp only at hSw);go_simp)<;>with_reducible rfl
 try simp only [Act.put,J1,J2,J3]
 refine K3 11 ⟨some 79,_,_,_,_,_⟩ ?_ rfl (Or.inl ⟨by rfl,?_⟩) hH ?_
 rotate_left 1
 ·(intro w hSw;(try dsimp only at hSw);go_simp)<;>with_reducible rfl
 try simp only [Act.put,J1,J2,J3]
 refine K3 12 ⟨some 80,_,_,_,_,_⟩ ?_ rfl (Or.inl ⟨by rfl,?_⟩) hH ?_
 rotate_left 1
 ·(intro w hSw;(try dsimp only at hSw);go_simp)<;>with_reducible rfl
 try simp only [Act.put,J1,J2,J3]
 refine K3 13 ⟨some 14,_,_,_,_,_⟩ ?_ rfl (Or.inl ⟨by rfl,?_⟩) hH ?_
 rotate_left 1
 ·(intro w hSw;(try dsimp only at hSw);go_simp)<;>with_reducible rfl
 try simp only [Act.put,J1,J2,J3]
 refine K3 14 ⟨some 12,_,_,_,_,_⟩ ?_ rfl (Or.inl ⟨by rfl,?_⟩) hH ?_
 rotate_left 1
 ·(intro w hSw;(try dsimp only at hSw);go_simp)<;>with_reducible rfl
 try simp only [Act.put,J1,J2,J3]
 refine wpAnyH_done (by kernel_rfl) ?_ _
 have hfr10:=J0 (hfr.out _ (Rw.Fr.of_below (Aa0 hdw hb10)))
 clear hfr hTn hld hH
 go_upto_region 12 with ((go_at_call 14;(with_reducible refine (kit.out.bck _ _ _ hB).mono ?_);rintro e w11 ⟨ba,bc,rfl,hb11⟩))
 replace hB:=hB.on hb11
 go_upto_region 13 with ((go_at_call 16;(with_reducible refine (kit.out.rep _ _ _ hB).mono ?_);rintro e w12 ⟨⟨v12,rfl⟩,hB12,hf12⟩))
 go_upto_region 15 with (first|(go_at_call 20;(with_reducible refine (kit.out.do1 _ _ _ hB12).mono ?_);rintro e w13 ⟨rfl,hB13,hf13⟩)|(go_at_call 20;(with_reducible refine (kit.out.do2 _ _ _ hB13).mono ?_);rintro e w14 ⟨rfl,hB14,hf14⟩))
 have hf14:=(((Rw.Fr.of_below (B:=0) (ts:=TT) hb11).trans hf12).trans hf13).trans hf14
 have hfr14:=J0 (And.intro (Rw.Block.fr hfr10.out.1 hf14 (.inl (by decide))) (hfr10.out.2.fr hf14))
 have hga:=fun w1 (h:Bo W w1 d t T1 d2 t2 U1)=>kit.out.gr1 d2 t2 w1 h
 have hgb:=fun w1 (h:Bo W w1 d t T1 d2 t2 U1)=>kit.out.gr2 d2 t2 w1 h
 unfold Grd at hga hgb
 replace hga:=J0 hga
 replace hgb:=J0 hgb
 clear hfr10 hf14 hf12 hf13 hb11 hb10 hB hB12 hB13
 go_upto_region 16 with (first|(go_at_call 12;(with_reducible refine (hga.out _ hB14).mono ?_);rintro e w15 ⟨ga,ca,gi,ci,rsa,hd1,mn1,tp1,bt1,ff1,bb1,gg1,rfl,hta,hb15⟩;have hB15:=hB14.on hb15)|(go_at_call 12;(with_reducible refine (hgb.out _ hB15).mono ?_);rintro e w16 ⟨gb,cb,gj,cj,rsb,hd2,mn2,tp2,bt2,ff2,bb2,gg2,rfl,htb,hb16⟩;have hB16:=hB15.on hb16))
 have hb2:=Aa0 (Aa1 w16 (.cells #[.slice (some ⟨ga,0,none⟩) n1 ca,.slice (some ⟨gi,0,none⟩) n1 ci,.int .i64 row1,.int .i64 col1,.bool pn1,.bool hd1,.bool mn1,.int .i64 tp1,.int .i64 bt1,.int .u32 ff1,.int .u32 bb1,.int .u16 gg1] 43)) (Aa1 (w16.alloc (.cells #[.slice (some ⟨ga,0,none⟩) n1 ca,.slice (some ⟨gi,0,none⟩) n1 ci,.int .i64 row1,.int .i64 col1,.bool pn1,.bool hd1,.bool mn1,.int .i64 tp1,.int .i64 bt1,.int .u32 ff1,.int .u32 bb1,.int .u16 gg1] 43)) (.cells #[.slice (some ⟨gb,0,none⟩) n1 cb,.slice (some ⟨gj,0,none⟩) n1 cj,.int .i64 row1,.int .i64 col1,.bool pn1,.bool hd2,.bool mn2,.int .i64 tp2,.int .i64 bt2,.int .u32 ff2,.int .u32 bb2,.int .u16 gg2] 43))
 have hx1:=Block.only (Block.made w16 43 #[.slice (some ⟨ga,0,none⟩) n1 ca,.slice (some ⟨gi,0,none⟩) n1 ci,.int .i64 row1,.int .i64 col1,.bool pn1,.bool hd1,.bool mn1,.int .i64 tp1,.int .i64 bt1,.int .u32 ff1,.int .u32 bb1,.int .u16 gg1]) (Only.of_below (Aa1 (w16.alloc (.cells #[.slice (some ⟨ga,0,none⟩) n1 ca,.slice (some ⟨gi,0,none⟩) n1 ci,.int .i64 row1,.int .i64 col1,.bool pn1,.bool hd1,.bool mn1,.int .i64 tp1,.int .i64 bt1,.int .u32 ff1,.int .u32 bb1,.int .u16 gg1] 43)) (.cells #[.slice (some ⟨gb,0,none⟩) n1 cb,.slice (some ⟨gj,0,none⟩) n1 cj,.int .i64 row1,.int .i64 col1,.bool pn1,.bool hd2,.bool mn2,.int .i64 tp2,.int .i64 bt2,.int .u32 ff2,.int .u32 bb2,.int .u16 gg2] 43)) []) (by simp)
 have hx2:=Block.made (w16.alloc (.cells #[.slice (some ⟨ga,0,none⟩) n1 ca,.slice (some ⟨gi,0,none⟩) n1 ci,.int .i64 row1,.int .i64 col1,.bool pn1,.bool hd1,.bool mn1,.int .i64 tp1,.int .i64 bt1,.int .u32 ff1,.int .u32 bb1,.int .u16 gg1] 43)) 43 #[.slice (some ⟨gb,0,none⟩) n1 cb,.slice (some ⟨gj,0,none⟩) n1 cj,.int .i64 row1,.int .i64 col1,.bool pn1,.bool hd2,.bool mn2,.int .i64 tp2,.int .i64 bt2,.int .u32 ff2,.int .u32 bb2,.int .u16 gg2]
 rw [World.size_alloc] at hx2
 replace hta:=(hta.below hb16).below hb2
 replace htb:=htb.below hb2
 have hB17:=J0 (hB16.on hb2)
 have hb17:=Aa0 (Aa0 hb15 hb16) hb2
 have hg17:=hfr14.out.2.below hb17
 have hx17:=Block.only hfr14.out.1 (Only.of_below hb17 []) (by simp)
 clear hB14 hB15 hB16 hfr14 hga hgb hb15 hb16 hb17
 generalize (w16.alloc (.cells #[.slice (some ⟨ga,0,none⟩) n1 ca,.slice (some ⟨gi,0,none⟩) n1 ci,.int .i64 row1,.int .i64 col1,.bool pn1,.bool hd1,.bool mn1,.int .i64 tp1,.int .i64 bt1,.int .u32 ff1,.int .u32 bb1,.int .u16 gg1] 43)).alloc (.cells #[.slice (some ⟨gb,0,none⟩) n1 cb,.slice (some ⟨gj,0,none⟩) n1 cj,.int .i64 row1,.int .i64 col1,.bool pn1,.bool hd2,.bool mn2,.int .i64 tp2,.int .i64 bt2,.int .u32 ff2,.int .u32 bb2,.int .u16 gg2] 43)=w17 at hb2 hx1 hx2 hta htb hB17 hg17 hx17 |-
 generalize w16.heap.size+1=b16 at hx2 |-
 generalize w16.heap.size=b15 at hx1 hb2 |-
 clear hb2
 have y1:=hx17.cell 1 (v:=.slice (some ⟨g2,0,none⟩) n c2) rfl
 have hlen0:=kit.out.len0
 obtain ⟨_,-,q2,-⟩:=hg17.row (i:=0) (by omega)
 rw [kit.out.ids0] at q2
 have hdl:=kit.out.dle
 have hwd:IntKind.i64.wrap ((nx:Int) - 1)=(dd:Int):=by rw [hfst];exact IntWalk.i64_in _ (by omega)
 have hq17:=J0 (fun w1 (hf:Rw.Fr 0 TT w17 w1)=>And.intro (hta.fr hf) (And.intro (htb.fr hf) (And.intro (Rw.Block.fr hx1 hf (.inl (by decide))) (Rw.Block.fr hx2 hf (.inl (by decide))))))
 clear hg17 hx17 hta htb hx1 hx2
 go_upto_region 17 with (fail)
 clear y1 q2 hwd
 have hcell:Hid (∀ w1,Rw.Fr 0 TT w17 w1->w1.cell? ⟨b15,1,none⟩=some (.slice (some ⟨gi,0,none⟩) n1 ci)/\w1.cell? ⟨b16,1,none⟩=some (.slice (some ⟨gj,0,none⟩) n1 cj)):=J0 fun w1 hf=>by
  obtain ⟨_,_,h1,h2⟩:=hq17.out w1 hf
  exact ⟨h1.cell 1 rfl,h2.cell 1 rfl⟩
 have hdw:Below w17.heap.size w17 w17.drew:=Aa4 (Below.refl w17.heap.size w17) 1
 have hF0:Rw.Fr 0 TT w17 w17.drew:=Rw.Fr.of_below hdw
 have hBd:=J0 (hB17.out.on hdw)
 have zn:((n1:Int) != (n1:Int))=false:=by simp
 have zr:((rn:Int) != (rn:Int))=false:=by simp
 obtain ⟨s9,hs9⟩:∃ s,strOfNums rpl=s:=⟨_,rfl⟩
 replace hs9:=J0 hs9
 have hmm:=Mds.neq_m m1
 have hgm:=fun w=>Mds.guard_m m1 (.tmp 141) (.tmp 143) w
 clear hB17
 go_wp2_with fail
 refine wp_region_held_drew (S:=fun w'=>w'.cell? ⟨b15,1,none⟩=some (.slice (some ⟨gi,0,none⟩) n1 ci)/\w'.cell? ⟨b16,1,none⟩=some (.slice (some ⟨gj,0,none⟩) n1 cj)) (by kernel_rfl) (by exact hcell.out _ hF0) (fun hH=>?_)
 refine K3 0 ⟨some 114,_,_,_,_,_⟩ ?_ rfl (Or.inl ⟨by rfl,?_⟩) hH ?_
 rotate_left 1
 ·(intro w hSw;(try dsimp only at hSw);go_simp)<;>with_reducible rfl
 try simp only [Act.put,J1,J2,J3]
 refine K3 1 ⟨some 115,_,_,_,_,_⟩ ?_ rfl (Or.inl ⟨by rfl,?_⟩) hH ?_
 rotate_left 1
 ·(intro w hSw;(try dsimp only at hSw);go_simp)<;>with_reducible rfl
 try simp only [Act.put,J1,J2,J3]
 refine K3 2 ⟨some 116,_,_,_,_,_⟩ ?_ rfl (Or.inl ⟨by rfl,?_⟩) hH ?_
 rotate_left 1
 ·(intro w hSw;(try dsimp only at hSw);go_simp)<;>with_reducible rfl
 try simp only [Act.put,J1,J2,J3]
 refine K3 3 ⟨some 117,_,_,_,_,_⟩ ?_ rfl (Or.inl ⟨by rfl,?_⟩) hH ?_
 rotate_left 1
 ·(intro w hSw;(try dsimp only at hSw);go_simp)<;>with_reducible rfl
 try simp only [Act.put,J1,J2,J3]
 refine K3 4 ⟨some 118,_,_,_,_,_⟩ ?_ rfl (Or.inl ⟨by rfl,?_⟩) hH ?_
 rotate_left 1
 ·(intro w hSw;(try dsimp only at hSw);go_simp)<;>with_reducible rfl
 try simp only [Act.put,J1,J2,J3]
 refine K3 5 ⟨some 119,_,_,_,_,_⟩ ?_ rfl (Or.inl ⟨by rfl,?_⟩) hH ?_
 rotate_left 1
 ·(intro w hSw;(try dsimp only at hSw);go_simp)<;>with_reducible rfl
 try simp only [Act.put,J1,J2,J3]
 refine K3 6 ⟨some 120,_,_,_,_,_⟩ ?_ rfl (Or.inl ⟨by rfl,?_⟩) hH ?_
 rotate_left 1
 ·(intro w hSw;(try dsimp only at hSw);go_simp)<;>with_reducible rfl
 try simp only [Act.put,J1,J2,J3]
 refine K3 7 ⟨some 121,_,_,_,_,_⟩ ?_ rfl (Or.inl ⟨by rfl,?_⟩) hH ?_
 rotate_left 1
 ·(intro w hSw;(try dsimp only at hSw);go_simp)<;>with_reducible rfl
 try simp only [Act.put,J1,J2,J3]
 refine K3 8 ⟨some 122,_,_,_,_,_⟩ ?_ rfl (Or.inl ⟨by rfl,?_⟩) hH ?_
 rotate_left 1
 ·(intro w hSw;(try dsimp only at hSw);go_simp)<;>with_reducible rfl
 try simp only [Act.put,J1,J2,J3]
 refine K3 11 ⟨some 125,_,_,_,_,_⟩ ?_ rfl (Or.inl ⟨by rfl,?_⟩) hH ?_
 rotate_left 1
 ·(intro w hSw;(try dsimp only at hSw);go_simp)<;>with_reducible rfl
 try simp only [Act.put,J1,J2,J3]
 refine wpAnyH_ready (rs:=[9]) (by kernel_rfl) (by simp) ?_
 refine AllReadyH.cons (o:=⟨some 123,_,_,_,_,_⟩) rfl (fun K hK=>?_) AllReadyH.nil
 go_simp
 (go_at_call 14;(with_reducible refine (kit.out.bk1 _ _ _ hBd.out).mono ?_);rintro e w31 ⟨ba1,bc1,rfl,hb31⟩;have hF31:=hF0.trans (Rw.Fr.of_below hb31);have hB31:=hBd.out.on hb31)
 refine hK.out _ _ (by exact hcell.out _ hF31) (fun hH=>?_)
 clear hK K
 try simp only [Act.put,J1,J2,J3]
 refine K3 10 ⟨some 124,_,_,_,_,_⟩ ?_ rfl (Or.inl ⟨by rfl,?_⟩) hH ?_
 rotate_left 1
 ·(intro w hSw;(try dsimp only at hSw);go_simp)<;>with_reducible rfl
 try simp only [Act.put,J1,J2,J3]
 refine wpAnyH_ready (rs:=[12]) (by kernel_rfl) (by simp) ?_
 refine AllReadyH.cons (o:=⟨some 126,_,_,_,_,_⟩) rfl (fun K hK=>?_) AllReadyH.nil
 go_simp
 (go_at_call 14;(with_reducible refine (kit.out.bk2 _ _ _ hB31).mono ?_);rintro e w32 ⟨ba2,bc2,rfl,hb32⟩;have hF32:=hF31.trans (Rw.Fr.of_below hb32);have hB32:=hB31.on hb32)
 refine hK.out _ _ (by exact hcell.out _ hF32) (fun hH=>?_)
 clear hK K
 try simp only [Act.put,J1,J2,J3]
 refine K3 13 ⟨some 127,_,_,_,_,_⟩ ?_ rfl (Or.inl ⟨by rfl,?_⟩) hH ?_
 rotate_left 1
 ·(intro w hSw;(try dsimp only at hSw);go_simp)<;>with_reducible rfl
 try simp only [Act.put,J1,J2,J3]
 refine K3 14 ⟨some 128,_,_,_,_,_⟩ ?_ rfl (Or.inl ⟨by rfl,?_⟩) hH ?_
 rotate_left 1
 ·(intro w hSw;(try dsimp only at hSw);go_simp)<;>with_reducible rfl
 try simp only [Act.put,J1,J2,J3]
 refine K3 15 ⟨some 129,_,_,_,_,_⟩ ?_ rfl (Or.inl ⟨by rfl,?_⟩) hH ?_
 rotate_left 1
 ·(intro w hSw;(try dsimp only at hSw);go_simp)<;>with_reducible rfl
 try simp only [Act.put,J1,J2,J3]
 refine K3 16 ⟨some 130,_,_,_,_,_⟩ ?_ rfl (Or.inl ⟨by rfl,?_⟩) hH ?_
 rotate_left 1
 ·(intro w hSw;(try dsimp only at hSw);go_simp)<;>with_reducible rfl
 try simp only [Act.put,J1,J2,J3]
 refine K3 17 ⟨some 131,_,_,_,_,_⟩ ?_ rfl (Or.inl ⟨by rfl,?_⟩) hH ?_
 rotate_left 1
 ·(intro w hSw;(try dsimp only at hSw);go_simp)<;>with_reducible rfl
 try simp only [Act.put,J1,J2,J3]
 refine K3 20 ⟨some 134,_,_,_,_,_⟩ ?_ rfl (Or.inl ⟨by rfl,?_⟩) hH ?_
 rotate_left 1
 ·(intro w hSw;(try dsimp only at hSw);go_simp)<;>with_reducible rfl
 try simp only [Act.put,J1,J2,J3]
 refine wpAnyH_ready (rs:=[18]) (by kernel_rfl) (by simp) ?_
 refine AllReadyH.cons (o:=⟨some 132,_,_,_,_,_⟩) rfl (fun K hK=>?_) AllReadyH.nil
 go_simp
 (go_at_call 16;(with_reducible refine (kit.out.rq1 _ _ _ hB32).mono ?_);rintro e w33 ⟨⟨v33,rfl,hr33⟩,hB33,hf33⟩;obtain ⟨a33,c33,rfl,_,_,_⟩:=hr33.shape;have hF33:=hF32.trans hf33)
 refine hK.out _ _ (by exact hcell.out _ hF33) (fun hH=>?_)
 clear hK K
 refine Kys.held_mono (S':=fun w'=>(w'.cell? ⟨b15,1,none⟩=some (.slice (some ⟨gi,0,none⟩) n1 ci)/\w'.cell? ⟨b16,1,none⟩=some (.slice (some ⟨gj,0,none⟩) n1 cj))/\(convert 52 9 (.slice a33 rpl.length c33)).run Tryz.prog w'=.ok (.string s9) w') (fun _ h=>h.1) _ _ _ _ ?_
 replace hH:=And.intro hH (hs9.out▸Ao9 hr33)
 try simp only [Act.put,J1,J2,J3]
 refine K3 19 ⟨some 133,_,_,_,_,_⟩ ?_ rfl (Or.inl ⟨by rfl,?_⟩) hH ?_
 rotate_left 1
 ·(intro w hSw;(try dsimp only at hSw);go_simp)<;>with_reducible rfl
 try simp only [Act.put,J1,J2,J3]
 refine wpAnyH_ready (rs:=[21]) (by kernel_rfl) (by simp) ?_
 refine AllReadyH.cons (o:=⟨some 135,_,_,_,_,_⟩) rfl (fun K hK=>?_) AllReadyH.nil
 go_simp
 (go_at_call 16;(with_reducible refine (kit.out.rq2 _ _ _ hB33).mono ?_);rintro e w34 ⟨⟨v34,rfl,hr34⟩,hB34,ho34⟩;obtain ⟨a34,c34,rfl,_,_,_⟩:=hr34.shape;have hF34:=hF33.trans (Rw.Fr.of_only (B:=0) (ts:=TT) ho34 fun k hk _=>by (obtain rfl:k=t2:=(by simpa using hk));exact ⟨Nat.zero_le _,_,(by simp [TT]),hB33.typ2⟩);have hr33b:=Ac5 hr33 (fun g hg=>ho34.block _ (Ah0 (Ac7 hr33 g hg)) (Ad5 (Ac7 hr33 g hg) hB33.typ2 (by decide))))
 refine hK.out _ _ (by exact ⟨hcell.out _ hF34,hs9.out▸Ao9 hr33b⟩) (fun hH=>?_)
 clear hK K
 refine Kys.held_mono (S':=fun w'=>((w'.cell? ⟨b15,1,none⟩=some (.slice (some ⟨gi,0,none⟩) n1 ci)/\w'.cell? ⟨b16,1,none⟩=some (.slice (some ⟨gj,0,none⟩) n1 cj))/\(convert 52 9 (.slice a33 rpl.length c33)).run Tryz.prog w'=.ok (.string s9) w')/\(convert 52 9 (.slice a34 rpl.length c34)).run Tryz.prog w'=.ok (.string s9) w') (fun _ h=>h.1) _ _ _ _ ?_
 replace hH:=And.intro hH (hs9.out▸Ao9 hr34)
 try simp only [Act.put,J1,J2,J3]
 refine K3 22 ⟨some 136,_,_,_,_,_⟩ ?_ rfl (Or.inl ⟨by rfl,?_⟩) hH ?_
 rotate_left 1
 ·(intro w hSw;(try dsimp only at hSw);go_simp)<;>with_reducible rfl
 try simp only [Act.put,J1,J2,J3]
 refine K3 23 ⟨some 137,_,_,_,_,_⟩ ?_ rfl (Or.inl ⟨by rfl,?_⟩) hH ?_
 rotate_left 1
 ·(intro w hSw;(try dsimp only at hSw);go_simp)<;>with_reducible rfl
 try simp only [Act.put,J1,J2,J3]
 refine K3 24 ⟨some 138,_,_,_,_,_⟩ ?_ rfl (Or.inl ⟨by rfl,?_⟩) hH ?_
 rotate_left 1
 ·(intro w hSw;(try dsimp only at hSw);go_simp)<;>with_reducible rfl
 try simp only [Act.put,J1,J2,J3]
 refine K3 25 ⟨some 139,_,_,_,_,_⟩ ?_ rfl (Or.inl ⟨by rfl,?_⟩) hH ?_
 rotate_left 1
 ·(intro w hSw;(try dsimp only at hSw);go_simp)<;>with_reducible rfl
 try simp only [Act.put,J1,J2,J3]
 refine K3 26 ⟨some 140,_,_,_,_,_⟩ ?_ rfl (Or.inl ⟨by rfl,?_⟩) hH ?_
 rotate_left 1
 ·(intro w hSw;(try dsimp only at hSw);go_simp)<;>with_reducible rfl
 try simp only [Act.put,J1,J2,J3]
 refine K3 28 ⟨some 142,_,_,_,_,_⟩ ?_ rfl (Or.inl ⟨by rfl,?_⟩) hH ?_
 rotate_left 1
 ·(intro w hSw;(try dsimp only at hSw);go_simp)<;>with_reducible rfl
 try simp only [Act.put,J1,J2,J3]
 refine wpAnyH_ready (rs:=[27]) (by kernel_rfl) (by simp) ?_
 refine AllReadyH.cons (o:=⟨some 141,_,_,_,_,_⟩) rfl (fun K hK=>?_) AllReadyH.nil
 go_simp
 (go_at_call 13;(with_reducible refine (kit.out.md1 _ _ _ hB34).mono ?_);rintro e w35 ⟨rfl,hb35⟩;have hF35:=hF34.trans (Rw.Fr.of_below hb35);have hB35:=hB34.on hb35;have hr33c:=Ac5 hr33b (fun g hg=>hb35.block _ (Ah0 (Ac7 hr33b g hg)));have hr34c:=Ac5 hr34 (fun g hg=>hb35.block _ (Ah0 (Ac7 hr34 g hg))))
 refine hK.out _ _ (by exact ⟨⟨hcell.out _ hF35,hs9.out▸Ao9 hr33c⟩,hs9.out▸Ao9 hr34c⟩) (fun hH=>?_)
 clear hK K
 try simp only [Act.put,J1,J2,J3]
 refine wpAnyH_ready (rs:=[29]) (by kernel_rfl) (by simp) ?_
 refine AllReadyH.cons (o:=⟨some 143,_,_,_,_,_⟩) rfl (fun K hK=>?_) AllReadyH.nil
 go_simp
 (go_at_call 13;(with_reducible refine (kit.out.md2 _ _ _ hB35).mono ?_);rintro e w36 ⟨rfl,hb36⟩;have hB36:=hB35.on hb36)
 refine hK.out _ _ (by exact ⟨⟨hcell.out _ (hF35.trans (Rw.Fr.of_below hb36)),hs9.out▸Ao9 (Ac5 hr33c (fun g hg=>hb36.block _ (Ah0 (Ac7 hr33c g hg))))⟩,hs9.out▸Ao9 (Ac5 hr34c (fun g hg=>hb36.block _ (Ah0 (Ac7 hr34c g hg))))⟩) (fun hH=>?_)
 clear hK K
 try simp only [Act.put,J1,J2,J3]
 refine K3 30 ⟨some 144,_,_,_,_,_⟩ ?_ rfl (Or.inl ⟨by rfl,?_⟩) hH ?_
 rotate_left 1
 ·(intro w hSw;(try dsimp only at hSw);go_simp)<;>with_reducible rfl
 try simp only [Act.put,J1,J2,J3]
 refine K3 31 ⟨some 145,_,_,_,_,_⟩ ?_ rfl (Or.inl ⟨by rfl,?_⟩) hH ?_
 rotate_left 1
 ·(intro w hSw;(try dsimp only at hSw);go_simp)<;>with_reducible rfl
 try simp only [Act.put,J1,J2,J3]
 refine wpAnyH_done (by kernel_rfl) ?_ _
 have hF36:=hF35.trans (Rw.Fr.of_below hb36)
 have hbW:=J0 hB36.below
 have hq36:=hq17.out _ hF36
 have hall:=J0 (fun w1 (hb:Below w36.heap.size w36 w1)=>And.intro (hq36.1.below hb) (And.intro (hq36.2.1.below hb) (And.intro (Block.only hq36.2.2.1 (Only.of_below hb []) (by simp)) (Block.only hq36.2.2.2 (Only.of_below hb []) (by simp)))))
 have y0:=hq36.2.2.1.cell 1 (v:=.slice (some ⟨gi,0,none⟩) n1 ci) rfl
 clear hq36 hq17 hcell hF0 hF31 hF32 hF33 hF34 hF35 hF36 hB31 hB32 hB33 hB34 hB35 hB36 hBd hr33 hr33b hr33c hr34 hr34c hmm hgm hH
 go_wp2
 clear y0
 go_loopw [149] (fun i wr=>∃ k:Nat,k<=n1/\i=.int .i64 k/\Hid (Below w36.heap.size w36 wr)) (fun i _=>n1 - (intOf i).toNat)
 case atStart=>exact ⟨0,Nat.zero_le _,rfl,J0 (Below.refl _ _)⟩
 case round =>
  obtain ⟨i,hi,rfl,hQ⟩:=hrel
  obtain ⟨hA,hBt,hx1,hx2⟩:=hall.out _ hQ.out
  have hlen1:=kit.out.len1
  by_cases hlt:i<n1
  ·have hiI:(i:Int)<(n1:Int):=by omega
   have y1:=hx1.cell 1 (v:=.slice (some ⟨gi,0,none⟩) n1 ci) rfl
   have y2:=hx2.cell 1 (v:=.slice (some ⟨gj,0,none⟩) n1 cj) rfl
   have y3:=hx1.cell 0 (v:=.slice (some ⟨ga,0,none⟩) n1 ca) rfl
   obtain ⟨xa,p0,p1,-⟩:=hA.rowS hlen1 hlt
   obtain ⟨xb,r0,r1,-⟩:=hBt.row hlt
   have hiL:i<L1.length:=by omega
   have hids:=kit.out.ids1 _ (List.getElem_mem hiL)
   generalize (L1[i]).1=y at p1 r1 hids
   have hwy:IntKind.i64.wrap (y+(dd:Int))=y+(dd:Int):=IntWalk.i64_in _ (by omega)
   have zy:(y+(dd:Int) != y+(dd:Int))=false:=by simp
   clear hA hBt hx1 hx2 hlen1 r0
   go_upto_region 22 with (fail)
   go_quiet (fail)
   go_wp2
   clear y1 y2 y3 p0 p1 r1 hids hwy zy
   go_loopw [171] (fun j wr=>∃ k:Nat,k<=cols1/\j=.int .i64 k/\Hid (Below w36.heap.size w36 wr)) (fun j _=>cols1 - (intOf j).toNat)
   case atStart=>exact ⟨0,Nat.zero_le _,rfl,J0 (Aa4 hQ.out _)⟩
   case round =>
    clear hQ
    obtain ⟨j,hj,rfl,hQ⟩:=hrel
    by_cases hlt2:j<cols1
    ·have hjI:(j:Int)<(cols1:Int):=by omega
     obtain ⟨hA,hBt,hx1,hx2⟩:=hall.out _ hQ.out
     have hlen1:=kit.out.len1
     have y1:=hx1.cell 0 (v:=.slice (some ⟨ga,0,none⟩) n1 ca) rfl
     have y2:=hx2.cell 0 (v:=.slice (some ⟨gb,0,none⟩) n1 cb) rfl
     obtain ⟨xa,p0,-,pc⟩:=hA.rowS hlen1 hlt
     obtain ⟨xb,r0,-,rc⟩:=hBt.row hlt
     have hjL:j<(L1[i]).2.length:=by rw [kit.out.wid1 _ (List.getElem_mem hiL)];exact hlt2
     obtain ⟨m0,m2,m3,m4,m5,ya,cca,m6⟩:=pc j hjL hlt2
     obtain ⟨v0,v2,v3,v4,v5,yb,ccb,v6⟩:=rc j hlt2
     generalize ((L1[i]).2[j]'hjL)=ce at m0 m2 m3 m4 m5 m6 v0 v2 v3 v4 v5 v6
     obtain ⟨cr,cm',cw,⟨cf,cb',cg⟩⟩:=ce
     simp only at m0 m2 m3 m4 m5 m6 v0 v2 v3 v4 v5 v6
     generalize cm'.length=ml at m6 v6
     clear pc rc hA hBt hx1 hx2 hlen1 hjL
     go_upto_region 27 with (fail)
     have y1a:=fun o=>Ab2 y1 o
     have y1b:=fun o o'=>Ab2 (Ab2 y1 o) o'
     have y2a:=fun o=>Ab2 y2 o
     have y2b:=fun o o'=>Ab2 (Ab2 y2 o) o'
     have p0a:=fun o=>Ab2 p0 o
     have p0b:=fun o o'=>Ab2 (Ab2 p0 o) o'
     have r0a:=fun o=>Ab2 r0 o
     have r0b:=fun o o'=>Ab2 (Ab2 r0 o) o'
     have m0a:=fun o=>Ab2 m0 o
     have m0b:=fun o o'=>Ab2 (Ab2 m0 o) o'
     have m2a:=fun o=>Ab2 m2 o
     have m2b:=fun o o'=>Ab2 (Ab2 m2 o) o'
     have m3a:=fun o=>Ab2 m3 o
     have m3b:=fun o o'=>Ab2 (Ab2 m3 o) o'
     have m4a:=fun o=>Ab2 m4 o
     have m4b:=fun o o'=>Ab2 (Ab2 m4 o) o'
     have m5a:=fun o=>Ab2 m5 o
     have m5b:=fun o o'=>Ab2 (Ab2 m5 o) o'
     have m6a:=fun o=>Ab2 m6 o
     have m6b:=fun o o'=>Ab2 (Ab2 m6 o) o'
     have v0a:=fun o=>Ab2 v0 o
     have v0b:=fun o o'=>Ab2 (Ab2 v0 o) o'
     have v2a:=fun o=>Ab2 v2 o
     have v2b:=fun o o'=>Ab2 (Ab2 v2 o) o'
     have v3a:=fun o=>Ab2 v3 o
     have v3b:=fun o o'=>Ab2 (Ab2 v3 o) o'
     have v4a:=fun o=>Ab2 v4 o
     have v4b:=fun o o'=>Ab2 (Ab2 v4 o) o'
     have v5a:=fun o=>Ab2 v5 o
     have v5b:=fun o o'=>Ab2 (Ab2 v5 o) o'
     have v6a:=fun o=>Ab2 v6 o
     have v6b:=fun o o'=>Ab2 (Ab2 v6 o) o'
     go_region
     have z1:(cr != cr)=false:=by simp
     have z2:(cw != cw)=false:=by simp
     have z3:(cf != cf)=false:=by simp
     have z4:(cb' != cb')=false:=by simp
     have z5:(cg != cg)=false:=by simp
     have z6:((ml:Int) != (ml:Int))=false:=by simp
     ·clear y1 y1a y1b y2 y2a y2b p0 p0a p0b r0 r0a r0b m0 m0a m0b m2 m2a m2b m3 m3a m3b m4 m4a m4b m5 m5a m5b m6 m6a m6b v0 v0a v0b v2 v2a v2b v3 v3a v3b v4 v4a v4b v5 v5a v5b v6 v6a v6b
      as_aux_lemma =>
      have hd:Below ((wr.alloc (.cells #[.int .i32 cr,.slice ya ml cca,.int .u8 cw,.int .u32 cf,.int .u32 cb',.int .u16 cg] 64)).alloc (.cells #[.int .i32 cr,.slice yb ml ccb,.int .u8 cw,.int .u32 cf,.int .u32 cb',.int .u16 cg] 64)).heap.size ((wr.alloc (.cells #[.int .i32 cr,.slice ya ml cca,.int .u8 cw,.int .u32 cf,.int .u32 cb',.int .u16 cg] 64)).alloc (.cells #[.int .i32 cr,.slice yb ml ccb,.int .u8 cw,.int .u32 cf,.int .u32 cb',.int .u16 cg] 64)) ((wr.alloc (.cells #[.int .i32 cr,.slice ya ml cca,.int .u8 cw,.int .u32 cf,.int .u32 cb',.int .u16 cg] 64)).alloc (.cells #[.int .i32 cr,.slice yb ml ccb,.int .u8 cw,.int .u32 cf,.int .u32 cb',.int .u16 cg] 64)).drew:=Aa4 (Below.refl _ _) 1
      have hbn:=Aa0 (Aa0 hQ.out (Aa0 (Aa1 wr (.cells #[.int .i32 cr,.slice ya ml cca,.int .u8 cw,.int .u32 cf,.int .u32 cb',.int .u16 cg] 64)) (Aa1 (wr.alloc (.cells #[.int .i32 cr,.slice ya ml cca,.int .u8 cw,.int .u32 cf,.int .u32 cb',.int .u16 cg] 64)) (.cells #[.int .i32 cr,.slice yb ml ccb,.int .u8 cw,.int .u32 cf,.int .u32 cb',.int .u16 cg] 64)))) hd
      have hx1:=Block.only (Block.only (Block.made wr 64 #[.int .i32 cr,.slice ya ml cca,.int .u8 cw,.int .u32 cf,.int .u32 cb',.int .u16 cg]) (Only.of_below (Aa1 (wr.alloc (.cells #[.int .i32 cr,.slice ya ml cca,.int .u8 cw,.int .u32 cf,.int .u32 cb',.int .u16 cg] 64)) (.cells #[.int .i32 cr,.slice yb ml ccb,.int .u8 cw,.int .u32 cf,.int .u32 cb',.int .u16 cg] 64)) []) (by simp)) (Only.of_below hd []) (by simp)
      have hx2:=Block.only (Block.made (wr.alloc (.cells #[.int .i32 cr,.slice ya ml cca,.int .u8 cw,.int .u32 cf,.int .u32 cb',.int .u16 cg] 64)) 64 #[.int .i32 cr,.slice yb ml ccb,.int .u8 cw,.int .u32 cf,.int .u32 cb',.int .u16 cg]) (Only.of_below hd []) (by simp)
      rw [World.size_alloc] at hx2
      clear hd
      generalize ((wr.alloc (.cells #[.int .i32 cr,.slice ya ml cca,.int .u8 cw,.int .u32 cf,.int .u32 cb',.int .u16 cg] 64)).alloc (.cells #[.int .i32 cr,.slice yb ml ccb,.int .u8 cw,.int .u32 cf,.int .u32 cb',.int .u16 cg] 64)).drew=w7 at hx1 hx2 hbn |-
      generalize wr.heap.size+1=q2 at hx2 |-
      generalize wr.heap.size=q1 at hx1 |-
      have u0':=hx1.cell 0 (v:=.int .i32 cr) rfl
      have u1':=hx1.cell 1 (v:=.slice ya ml cca) rfl
      have u2':=hx1.cell 2 (v:=.int .u8 cw) rfl
      have u3':=hx1.cell 3 (v:=.int .u32 cf) rfl
      have u4':=hx1.cell 4 (v:=.int .u32 cb') rfl
      have u5':=hx1.cell 5 (v:=.int .u16 cg) rfl
      have t0':=hx2.cell 0 (v:=.int .i32 cr) rfl
      have t1':=hx2.cell 1 (v:=.slice yb ml ccb) rfl
      have t2':=hx2.cell 2 (v:=.int .u8 cw) rfl
      have t3':=hx2.cell 3 (v:=.int .u32 cf) rfl
      have t4':=hx2.cell 4 (v:=.int .u32 cb') rfl
      have t5':=hx2.cell 5 (v:=.int .u16 cg) rfl
      clear hx1 hx2
      go_wp2
      go_roundw
      case rel=>exact ⟨j+1,by omega,by go_num,J0 hbn⟩
      case measure=>simp [intOf];omega
     ·clear y1 y1a y1b y2 y2a y2b p0 p0a p0b r0 r0a r0b m0 m0a m0b m2 m2a m2b m3 m3a m3b m4 m4a m4b m5 m5a m5b m6 m6a m6b v0 v0a v0b v2 v2a v2b v3 v3a v3b v4 v4a v4b v5 v5a v5b v6 v6a v6b
      as_aux_lemma =>
      have hd:Below ((wr.alloc (.cells #[.int .i32 cr,.slice yb ml ccb,.int .u8 cw,.int .u32 cf,.int .u32 cb',.int .u16 cg] 64)).alloc (.cells #[.int .i32 cr,.slice ya ml cca,.int .u8 cw,.int .u32 cf,.int .u32 cb',.int .u16 cg] 64)).heap.size ((wr.alloc (.cells #[.int .i32 cr,.slice yb ml ccb,.int .u8 cw,.int .u32 cf,.int .u32 cb',.int .u16 cg] 64)).alloc (.cells #[.int .i32 cr,.slice ya ml cca,.int .u8 cw,.int .u32 cf,.int .u32 cb',.int .u16 cg] 64)) ((wr.alloc (.cells #[.int .i32 cr,.slice yb ml ccb,.int .u8 cw,.int .u32 cf,.int .u32 cb',.int .u16 cg] 64)).alloc (.cells #[.int .i32 cr,.slice ya ml cca,.int .u8 cw,.int .u32 cf,.int .u32 cb',.int .u16 cg] 64)).drew:=Aa4 (Below.refl _ _) 1
      have hbn:=Aa0 (Aa0 hQ.out (Aa0 (Aa1 wr (.cells #[.int .i32 cr,.slice yb ml ccb,.int .u8 cw,.int .u32 cf,.int .u32 cb',.int .u16 cg] 64)) (Aa1 (wr.alloc (.cells #[.int .i32 cr,.slice yb ml ccb,.int .u8 cw,.int .u32 cf,.int .u32 cb',.int .u16 cg] 64)) (.cells #[.int .i32 cr,.slice ya ml cca,.int .u8 cw,.int .u32 cf,.int .u32 cb',.int .u16 cg] 64)))) hd
      have hx1:=Block.only (Block.only (Block.made wr 64 #[.int .i32 cr,.slice yb ml ccb,.int .u8 cw,.int .u32 cf,.int .u32 cb',.int .u16 cg]) (Only.of_below (Aa1 (wr.alloc (.cells #[.int .i32 cr,.slice yb ml ccb,.int .u8 cw,.int .u32 cf,.int .u32 cb',.int .u16 cg] 64)) (.cells #[.int .i32 cr,.slice ya ml cca,.int .u8 cw,.int .u32 cf,.int .u32 cb',.int .u16 cg] 64)) []) (by simp)) (Only.of_below hd []) (by simp)
      have hx2:=Block.only (Block.made (wr.alloc (.cells #[.int .i32 cr,.slice yb ml ccb,.int .u8 cw,.int .u32 cf,.int .u32 cb',.int .u16 cg] 64)) 64 #[.int .i32 cr,.slice ya ml cca,.int .u8 cw,.int .u32 cf,.int .u32 cb',.int .u16 cg]) (Only.of_below hd []) (by simp)
      rw [World.size_alloc] at hx2
      clear hd
      generalize ((wr.alloc (.cells #[.int .i32 cr,.slice yb ml ccb,.int .u8 cw,.int .u32 cf,.int .u32 cb',.int .u16 cg] 64)).alloc (.cells #[.int .i32 cr,.slice ya ml cca,.int .u8 cw,.int .u32 cf,.int .u32 cb',.int .u16 cg] 64)).drew=w7 at hx1 hx2 hbn |-
      generalize wr.heap.size+1=q2 at hx2 |-
      generalize wr.heap.size=q1 at hx1 |-
      have u0':=hx1.cell 0 (v:=.int .i32 cr) rfl
      have u1':=hx1.cell 1 (v:=.slice yb ml ccb) rfl
      have u2':=hx1.cell 2 (v:=.int .u8 cw) rfl
      have u3':=hx1.cell 3 (v:=.int .u32 cf) rfl
      have u4':=hx1.cell 4 (v:=.int .u32 cb') rfl
      have u5':=hx1.cell 5 (v:=.int .u16 cg) rfl
      have t0':=hx2.cell 0 (v:=.int .i32 cr) rfl
      have t1':=hx2.cell 1 (v:=.slice ya ml cca) rfl
      have t2':=hx2.cell 2 (v:=.int .u8 cw) rfl
      have t3':=hx2.cell 3 (v:=.int .u32 cf) rfl
      have t4':=hx2.cell 4 (v:=.int .u32 cb') rfl
      have t5':=hx2.cell 5 (v:=.int .u16 cg) rfl
      clear hx1 hx2
      go_wp2
      go_roundw
      case rel=>exact ⟨j+1,by omega,by go_num,J0 hbn⟩
      case measure=>simp [intOf];omega
    ·obtain rfl:j=cols1:=by omega
     go_wp2
     go_roundw
     case rel=>exact ⟨i+1,by omega,by go_num,hQ⟩
     case measure=>simp [intOf];omega
  ·obtain rfl:i=n1:=by omega
   have hbq:=Aa0 hbW.out hQ.out
   have y2:=hx1.cell 2 (v:=.int .i64 row1) rfl
   have x2:=hx2.cell 2 (v:=.int .i64 row1) rfl
   have y3:=hx1.cell 3 (v:=.int .i64 col1) rfl
   have x3:=hx2.cell 3 (v:=.int .i64 col1) rfl
   have y4:=hx1.cell 4 (v:=.bool pn1) rfl
   have x4:=hx2.cell 4 (v:=.bool pn1) rfl
   clear hA hBt hx1 hx2 hall
   go_wp2_with ((go_at_call 8;(with_reducible refine (hkn.out _ hbq).mono ?_);rintro e w40 ⟨rfl,hb40⟩))
   go_ret
   exact ⟨rfl,Aa0 hbq hb40⟩
theorem reset_law (r:Int) (_:(Lit.int .i64 r).wf=true) (c:Int) (_:(Lit.int .i64 c).wf=true) (b:Int) (_:(Lit.int .i64 b).wf=true) (al:Option Addr) (cl:Nat) (l:List OpA) (_:l.length<=cl) (_:cl<=maxLen) (am:Option Addr) (cm:Nat) (m:List OpA) (_:m.length<=cm) (_:cm<=maxLen) (W:World) (hT:Tbl W) (hl:Bh4 W al l) (fl:∀ o∈l,OpIn W o) (hm:Bh4 W am m) (fm:∀ o∈m,OpIn W o):Calls Tryz.prog 4 #[.int .i64 r,.int .i64 c,.int .i64 b,.slice al l.length cl,.slice am m.length cm] W fun e w'=>e=.returned (.bool true)/\Below W.heap.size W w':=by
 by_cases h:Ah5 r c/\0<=b/\b<=10000
 ·obtain ⟨⟨⟨h1,h2⟩,h3,h4⟩,h5,h6⟩:=h
  obtain ⟨r,rfl⟩:=Int.eq_ofNat_of_zero_le (show 0<=r by omega)
  obtain ⟨c,rfl⟩:=Int.eq_ofNat_of_zero_le (show 0<=c by omega)
  obtain ⟨b,rfl⟩:=Int.eq_ofNat_of_zero_le h5
  exact reset_yes r c b al cl l am cm m hT (by omega) (by omega) (by omega) (by omega) (by omega) rfl rfl hl fl hm fm
 ·exact reset_no r c b al _ cl am _ cm hT h
end
