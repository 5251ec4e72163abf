/- Part 45 of HostKeys. -/
import Derived.Test.YtecnpoigegiooaaGreatDoorW44
set_option maxHeartbeats 16000000
set_option maxRecDepth 100000
namespace Go.Proofs.YtecnpoigegiooaaGreatDoor.Hos
open Go.Proofs.Tryz
open Go RowKit Com Rw Lns Emu Scn
def Aan(m:Mds.Md)(k:Kys.Ky):List Int:=if k.may then Kys.Aee m.a2 m.a1 k else []
def Aow(k:Kys.Ky):Int:=if k.may then 0 else 2
section
variable {Z Z' B:Zn}{W w w1 w2 w':World}{h d t:Nat}{p p':HP}{H H':Hst}{X:Tri}{T:Ter}{v sv:Value}{s b l:List Int}{ao:Option Addr}{n cp c:Nat}
theorem Cjk(m:Mds.Md)(k:Kys.Ky)(hk:k.Ok)(w:World)(hT:Kys.Tab w):Calls prog 28 #[.agg (Mds.mA m),.agg (Kys.kA k)] w fun e w'=>∃v,e=.returned (.tuple #[v,.int .i64 (Aow k)])/\Kys.Row w' w.heap.size 5 v (Aan m k)/\Below w.heap.size w w':=by
 by_cases hm:k.may
 ·rw[show Aow k=0 from if_pos hm,show Aan m k=Kys.Aee m.a2 m.a1 k from if_pos hm]
  exact Kys.Bwx m k hk hm w hT
 ·rw[show Aow k=2 from if_neg hm,show Aan m k=[]from if_neg hm]
  exact(Kys.Bzx m k hk hm w).mono fun e w' ⟨he,hb⟩=>⟨_,he,Kys.Row.nil _ _ _,hb⟩
theorem HX.tbl(hx:HX Z W w h p H):Tbl w:=by
 obtain⟨P,hP⟩:=hx.tz.tv.tm
 exact hP.tbl
theorem Biu(hs:∀k,HZn Z h p k->B k)(hup:∀k,w.heap.size<=k->B k):(∃Z' sv,HX Z' W w' h (p.snd sv) { H with B8:=H.B8++b }/\Hf (HZn Z h p) w w'/\∀k,HZn Z' h (p.snd sv) k->HZn Z h p k\/w.heap.size<=k)->Did B W w h { H with B8:=H.B8++b } w' :=
 fun⟨_,_,h1,h2,h3⟩=>Bnt hs hup h1 h2 h3
theorem Cfg(hB:HB B W w h H)(k:Kys.Ky)(hk:k.Ok)(hl:H.B8.length+(Aan H.T.m k).length<=140737488355328):Calls prog 12 #[.pointer (some ⟨h,0,none⟩),.agg (Kys.kA k)] w fun e w'=>e=.returned (.int .i64 (Aow k))/\Did B W w h { H with B8:=H.B8++Aan H.T.m k } w':=by
 have hbn:=A3 w (.cells (Kys.kA k) 25)
 have hbx:=Block.made w 25 (Kys.kA k)
 have hB0:=hB.on hbn
 have hB1:=hB
 have hup:=hB0.up
 obtain⟨Z,p,hx,hs⟩:=hB0
 generalize hw0:w.alloc (.cells (Kys.kA k) 25)=w0 at *
 have hm:=J0 (W6 hx)
 have c0:=hx.hb.cell 0 (v:=.pointer (some ⟨p.e,0,none⟩)) rfl
 have Y2:Hid (∀w1,Below w0.heap.size w0 w1->(w1.cell? ⟨h,0,none⟩=some (.pointer (some ⟨p.e,0,none⟩))/\w1.cell? ⟨p.e,2,none⟩=some (.pointer (some ⟨p.d,0,none⟩))/\w1.cell? ⟨w.heap.size,0,none⟩=some (.int .u8 k.kd)/\w1.cell? ⟨w.heap.size,1,none⟩=some (.int .i32 k.r)/\w1.cell? ⟨w.heap.size,2,none⟩=some (.int .i64 k.n)/\w1.cell? ⟨w.heap.size,3,none⟩=some (.int .u8 k.md))):=J0 fun w1 hb=>by
  have hx1:=hx.on' hb
  have hb1:=Block.only hbx (A0.A1 hb []) (by simp)
  exact⟨hx1.hb.cell 0 rfl,hx1.eb.cell 2 rfl,hb1.cell 0 rfl,hb1.cell 1 rfl,hb1.cell 2 rfl,hb1.cell 3 rfl⟩
 have hmd:=J0 (fun w1 (hb:Below w0.heap.size w0 w1)=>Azj (hx.on' hb).tz.tv)
 have hen:=J0 (fun w1 (hb:Below w0.heap.size w0 w1)=>Cjk H.T.m k hk w1 (hx.on' hb).tbl.kys)
 have hsd:Hid (∀w1 ao cp,Below w0.heap.size w0 w1->A8 w1 w1.heap.size .u8 ao (Aan H.T.m k)->Calls prog 30 #[.pointer (some ⟨p.e,0,none⟩),.slice ao (Aan H.T.m k).length cp] w1 fun e w'=>(∃x,e=.returned x)/\Did B W w1 h { H with B8:=H.B8++Aan H.T.m k } w'):=J0 fun w1 ao cp hb hn =>
  (Avb (cp:=cp) (hx.on' hb) hn hl rfl).mono fun e w' ⟨h1,h2⟩=>⟨h1,Biu hs (fun k hk=>hup k (Nat.le_trans hb.size hk)) h2⟩
 have hfr:Hid (∀w1 w2,Below w0.heap.size w0 w1->Did B W w1 h { H with B8:=H.B8++Aan H.T.m k } w2->Did B W w h { H with B8:=H.B8++Aan H.T.m k } w2):=J0 fun w1 w2 hb h2=>((hB.did (hw0▸hbn)).on hb).trans h2
 generalize Aan H.T.m k=l at hen hsd hfr |-
 generalize Aow k=y at hen |-
 generalize H.T.m=m at hmd hen
 clear hx hs hup hbx hB hk hl
 obtain⟨kk,kr,kn,km⟩:=k
 simp only[Kys.kA]at hen hw0 |-
 simp only at Y2
 have hdw:Below w0.heap.size w0 w0.drew:=C7 (Below.refl w0.heap.size w0) 1
 go_enter func12,ntmps12
 go_upto_region 1 with(fail)
 replace hw0:=J0 hw0
 go_upto_region 3 with((go_at_call 21;(with_reducible refine(hm.out).mono ?_);rintro e w1 ⟨rfl,rfl⟩))
 go_wp2_with fail
 refine wp_region_held_drew (S:=fun w'=>w'.cell? ⟨h,0,none⟩=some (.pointer (some ⟨p.e,0,none⟩))/\w'.cell? ⟨p.e,2,none⟩=some (.pointer (some ⟨p.d,0,none⟩))/\w'.cell? ⟨w.heap.size,0,none⟩=some (.int .u8 kk)/\w'.cell? ⟨w.heap.size,1,none⟩=some (.int .i32 kr)/\w'.cell? ⟨w.heap.size,2,none⟩=some (.int .i64 kn)/\w'.cell? ⟨w.heap.size,3,none⟩=some (.int .u8 km)) (by kernel_rfl) (by exact Y2.out _ hdw) (fun hH=>?_)
 refine K3 0 ⟨some 11,_,_,_,_,_⟩ ?_ rfl (Or.inl ⟨by rfl,?_⟩) hH ?_
 rotate_left
 ·(intro w hSw;(try dsimp only at hSw);go_simp)<;>with_reducible rfl
 try simp only[Act.put,J1,J2,J3]
 refine K3 1 ⟨some 12,_,_,_,_,_⟩ ?_ rfl (Or.inl ⟨by rfl,?_⟩) hH ?_
 rotate_left
 ·(intro w hSw;(try dsimp only at hSw);go_simp)<;>with_reducible rfl
 try simp only[Act.put,J1,J2,J3]
 refine K3 2 ⟨some 13,_,_,_,_,_⟩ ?_ rfl (Or.inl ⟨by rfl,?_⟩) hH ?_
 rotate_left
 ·(intro w hSw;(try dsimp only at hSw);go_simp)<;>with_reducible rfl
 try simp only[Act.put,J1,J2,J3]
 refine K3 3 ⟨some 14,_,_,_,_,_⟩ ?_ rfl (Or.inl ⟨by rfl,?_⟩) hH ?_
 rotate_left
 ·(intro w hSw;(try dsimp only at hSw);go_simp)<;>with_reducible rfl
 try simp only[Act.put,J1,J2,J3]
 refine K3 4 ⟨some 15,_,_,_,_,_⟩ ?_ rfl (Or.inl ⟨by rfl,?_⟩) hH ?_
 rotate_left
 ·(intro w hSw;(try dsimp only at hSw);go_simp)<;>with_reducible rfl
 try simp only[Act.put,J1,J2,J3]
 refine K3 5 ⟨some 16,_,_,_,_,_⟩ ?_ rfl (Or.inl ⟨by rfl,?_⟩) hH ?_
 rotate_left
 ·(intro w hSw;(try dsimp only at hSw);go_simp)<;>with_reducible rfl
 try simp only[Act.put,J1,J2,J3]
 refine K3 6 ⟨some 17,_,_,_,_,_⟩ ?_ rfl (Or.inl ⟨by rfl,?_⟩) hH ?_
 rotate_left
 ·(intro w hSw;(try dsimp only at hSw);go_simp)<;>with_reducible rfl
 try simp only[Act.put,J1,J2,J3]
 refine K3 8 ⟨some 19,_,_,_,_,_⟩ ?_ rfl (Or.inl ⟨by rfl,?_⟩) hH ?_
 rotate_left
 ·(intro w hSw;(try dsimp only at hSw);go_simp)<;>with_reducible rfl
 try simp only[Act.put,J1,J2,J3]
 refine wpAnyH_ready (rs:=[7]) (by kernel_rfl) (by simp) ?_
 refine AllReadyH.cons (o:=⟨some 18,_,_,_,_,_⟩) rfl (fun K hK=>?_) AllReadyH.nil
 go_simp
 (go_at_call 29;(with_reducible refine(hmd.out _ hdw).mono ?_);rintro e w2 ⟨rfl,hb2'⟩;have hb2:=A2 hdw hb2')
 refine hK.out _ _ (by exact Y2.out _ hb2) (fun hH=>?_)
 clear hK K
 try simp only[Act.put,J1,J2,J3]
 refine wpAnyH_ready (rs:=[9]) (by kernel_rfl) (by simp) ?_
 refine AllReadyH.cons (o:=⟨some 20,_,_,_,_,_⟩) rfl (fun K hK=>?_) AllReadyH.nil
 go_simp
 (go_at_call 28;(with_reducible refine(hen.out _ hb2).mono ?_);rintro e w3 ⟨v3,rfl,hr3,hb3'⟩;have hb3:=A2 hb2 hb3';have Bqw:=J0 (Y2.out _ hb3))
 refine hK.out _ _ (by exact Bqw.out) (fun hH=>?_)
 clear hK K
 try simp only[Act.put,J1,J2,J3]
 refine K3 10 ⟨some 10,_,_,_,_,_⟩ ?_ rfl (Or.inl ⟨by rfl,?_⟩) hH ?_
 rotate_left
 ·(intro w hSw;(try dsimp only at hSw);go_simp)<;>with_reducible rfl
 try simp only[Act.put,J1,J2,J3]
 refine K3 11 ⟨some 21,_,_,_,_,_⟩ ?_ rfl (Or.inl ⟨by rfl,?_⟩) hH ?_
 rotate_left
 ·(intro w hSw;(try dsimp only at hSw);go_simp)<;>with_reducible rfl
 try simp only[Act.put,J1,J2,J3]
 refine K3 12 ⟨some 22,_,_,_,_,_⟩ ?_ rfl (Or.inl ⟨by rfl,?_⟩) hH ?_
 rotate_left
 ·(intro w hSw;(try dsimp only at hSw);go_simp)<;>with_reducible rfl
 try simp only[Act.put,J1,J2,J3]
 refine K3 13 ⟨some 5,_,_,_,_,_⟩ ?_ rfl (Or.inl ⟨by rfl,?_⟩) hH ?_
 rotate_left
 ·(intro w hSw;(try dsimp only at hSw);go_simp)<;>with_reducible rfl
 try simp only[Act.put,J1,J2,J3]
 refine K3 14 ⟨some 6,_,_,_,_,_⟩ ?_ rfl (Or.inl ⟨by rfl,?_⟩) hH ?_
 rotate_left
 ·(intro w hSw;(try dsimp only at hSw);go_simp)<;>with_reducible rfl
 try simp only[Act.put,J1,J2,J3]
 refine wpAnyH_done (by kernel_rfl) ?_ _
 clear Y2 hmd hen hH
 obtain⟨ar,cr,rfl,_,_,hnr⟩:=hr3.shape
 have Beg:=J0 (hsd.out _ ar cr hb3 hnr)
 have Ctp:=Bqw.out
 obtain⟨x0,-,-⟩:=Ctp
 go_wp2_with((go_at_call 30;(with_reducible refine(Beg.out).mono ?_);rintro e w4 ⟨⟨x4,rfl⟩,hD⟩))
 go_ret
 exact⟨rfl,hfr.out _ _ hb3 hD⟩
theorem Bxt(hB:HB B W w h H)(hn:A8 w w.heap.size .i32 ao s)(hn5:s.length<=100000)(hl:H.B8.length+(Kys.Aaw H.T.m.a7 s).length<=140737488355328)(hsn:s.length=n):Calls prog 13 #[.pointer (some ⟨h,0,none⟩),.slice ao n cp] w fun e w'=>e=.returned (.int .i64 0)/\Did B W w h { H with B8:=H.B8++Kys.Aaw H.T.m.a7 s } w':=by
 subst hsn
 have hB1:=hB
 have hup:=hB.up
 obtain⟨Z,p,hx,hs⟩:=hB
 have hm:=J0 (W6 hx)
 have c0:=hx.hb.cell 0 (v:=.pointer (some ⟨p.e,0,none⟩)) rfl
 have Y2:Hid (∀w1,Below w.heap.size w w1->(w1.cell? ⟨h,0,none⟩=some (.pointer (some ⟨p.e,0,none⟩))/\w1.cell? ⟨p.e,2,none⟩=some (.pointer (some ⟨p.d,0,none⟩)))):=J0 fun w1 hb=>by
  have hx1:=hx.on' hb
  exact⟨hx1.hb.cell 0 rfl,hx1.eb.cell 2 rfl⟩
 have hmd:=J0 (fun w1 (hb:Below w.heap.size w w1)=>Azj (hx.on' hb).tz.tv)
 have hen:=J0 (fun w1 (hb:Below w.heap.size w w1)=>Kys.Cbo H.T.m ao cp s (by omega) w1 ((hn.below hb (J5 _)).more hb.size) (hx.on' hb).tbl.kys)
 have hsd:Hid (∀w1 ao cp,Below w.heap.size w w1->A8 w1 w1.heap.size .u8 ao (Kys.Aaw H.T.m.a7 s)->Calls prog 30 #[.pointer (some ⟨p.e,0,none⟩),.slice ao (Kys.Aaw H.T.m.a7 s).length cp] w1 fun e w'=>(∃x,e=.returned x)/\Did B W w h { H with B8:=H.B8++Kys.Aaw H.T.m.a7 s } w'/\(w'.cell? ⟨h,0,none⟩=some (.pointer (some ⟨p.e,0,none⟩))/\w'.cell? ⟨p.e,2,none⟩=some (.pointer (some ⟨p.d,0,none⟩)))):=J0 fun w1 ao cp hb hn =>
  (Avb (cp:=cp) (hx.on' hb) hn hl rfl).mono fun e w' ⟨h1,h2⟩=>⟨h1,(hB1.did hb).trans (Biu hs (fun k hk=>hup k (Nat.le_trans hb.size hk)) h2),by
   obtain⟨Z',sv,h3,_⟩:=h2
   exact⟨h3.hb.cell 0 rfl,h3.eb.cell 2 rfl⟩⟩
 generalize Kys.Aaw H.T.m.a7 s=l at hen hsd |-
 generalize H.T.m=m at hmd hen
 unfold Kys.Put at hen
 have hdw:Below w.heap.size w w.drew:=C7 (Below.refl w.heap.size w) 1
 clear hx hs hup hB1 hl hn hn5
 generalize s.length=sl at hen
 go_enter func13,ntmps13
 go_upto_region 3 with((go_at_call 21;(with_reducible refine(hm.out).mono ?_);rintro e w1 ⟨rfl,rfl⟩))
 go_wp2_with fail
 refine wp_region_held_drew (S:=fun w'=>w'.cell? ⟨h,0,none⟩=some (.pointer (some ⟨p.e,0,none⟩))/\w'.cell? ⟨p.e,2,none⟩=some (.pointer (some ⟨p.d,0,none⟩))) (by kernel_rfl) (by exact Y2.out _ hdw) (fun hH=>?_)
 refine K3 0 ⟨some 8,_,_,_,_,_⟩ ?_ rfl (Or.inl ⟨by rfl,?_⟩) hH ?_
 rotate_left
 ·(intro w hSw;(try dsimp only at hSw);go_simp)<;>with_reducible rfl
 try simp only[Act.put,J1,J2,J3]
 refine K3 1 ⟨some 9,_,_,_,_,_⟩ ?_ rfl (Or.inl ⟨by rfl,?_⟩) hH ?_
 rotate_left
 ·(intro w hSw;(try dsimp only at hSw);go_simp)<;>with_reducible rfl
 try simp only[Act.put,J1,J2,J3]
 refine K3 2 ⟨some 10,_,_,_,_,_⟩ ?_ rfl (Or.inl ⟨by rfl,?_⟩) hH ?_
 rotate_left
 ·(intro w hSw;(try dsimp only at hSw);go_simp)<;>with_reducible rfl
 try simp only[Act.put,J1,J2,J3]
 refine K3 3 ⟨some 11,_,_,_,_,_⟩ ?_ rfl (Or.inl ⟨by rfl,?_⟩) hH ?_
 rotate_left
 ·(intro w hSw;(try dsimp only at hSw);go_simp)<;>with_reducible rfl
 try simp only[Act.put,J1,J2,J3]
 refine K3 4 ⟨some 12,_,_,_,_,_⟩ ?_ rfl (Or.inl ⟨by rfl,?_⟩) hH ?_
 rotate_left
 ·(intro w hSw;(try dsimp only at hSw);go_simp)<;>with_reducible rfl
 try simp only[Act.put,J1,J2,J3]
 refine K3 5 ⟨some 13,_,_,_,_,_⟩ ?_ rfl (Or.inl ⟨by rfl,?_⟩) hH ?_
 rotate_left
 ·(intro w hSw;(try dsimp only at hSw);go_simp)<;>with_reducible rfl
 try simp only[Act.put,J1,J2,J3]
 refine K3 6 ⟨some 14,_,_,_,_,_⟩ ?_ rfl (Or.inl ⟨by rfl,?_⟩) hH ?_
 rotate_left
 ·(intro w hSw;(try dsimp only at hSw);go_simp)<;>with_reducible rfl
 try simp only[Act.put,J1,J2,J3]
 refine K3 7 ⟨some 15,_,_,_,_,_⟩ ?_ rfl (Or.inl ⟨by rfl,?_⟩) hH ?_
 rotate_left
 ·(intro w hSw;(try dsimp only at hSw);go_simp)<;>with_reducible rfl
 try simp only[Act.put,J1,J2,J3]
 refine K3 8 ⟨some 16,_,_,_,_,_⟩ ?_ rfl (Or.inl ⟨by rfl,?_⟩) hH ?_
 rotate_left
 ·(intro w hSw;(try dsimp only at hSw);go_simp)<;>with_reducible rfl
 try simp only[Act.put,J1,J2,J3]
 refine K3 9 ⟨some 17,_,_,_,_,_⟩ ?_ rfl (Or.inl ⟨by rfl,?_⟩) hH ?_
 rotate_left
 ·(intro w hSw;(try dsimp only at hSw);go_simp)<;>with_reducible rfl
 try simp only[Act.put,J1,J2,J3]
 refine K3 10 ⟨some 18,_,_,_,_,_⟩ ?_ rfl (Or.inl ⟨by rfl,?_⟩) hH ?_
 rotate_left
 ·(intro w hSw;(try dsimp only at hSw);go_simp)<;>with_reducible rfl
 try simp only[Act.put,J1,J2,J3]
 refine K3 12 ⟨some 20,_,_,_,_,_⟩ ?_ rfl (Or.inl ⟨by rfl,?_⟩) hH ?_
 rotate_left
 ·(intro w hSw;(try dsimp only at hSw);go_simp)<;>with_reducible rfl
 try simp only[Act.put,J1,J2,J3]
 refine wpAnyH_ready (rs:=[11]) (by kernel_rfl) (by simp) ?_
 refine AllReadyH.cons (o:=⟨some 19,_,_,_,_,_⟩) rfl (fun K hK=>?_) AllReadyH.nil
 go_simp
 (go_at_call 29;(with_reducible refine(hmd.out _ hdw).mono ?_);rintro e w2 ⟨rfl,hb2'⟩;have hb2:=A2 hdw hb2')
 refine hK.out _ _ (by exact Y2.out _ hb2) (fun hH=>?_)
 clear hK K
 try simp only[Act.put,J1,J2,J3]
 refine wpAnyH_ready (rs:=[13]) (by kernel_rfl) (by simp) ?_
 refine AllReadyH.cons (o:=⟨some 21,_,_,_,_,_⟩) rfl (fun K hK=>?_) AllReadyH.nil
 go_simp
 (go_at_call 31;(with_reducible refine(hen.out _ hb2).mono ?_);rintro e w3 ⟨v3,rfl,hr3,hb3'⟩;have hb3:=A2 hb2 hb3';obtain⟨ar,cr,rfl,_,_,hnr⟩:=hr3.shape;have Beg:=J0 (hsd.out _ ar cr hb3 hnr))
 refine hK.out _ _ (by exact Y2.out _ hb3) (fun hH=>?_)
 clear hK K
 try simp only[Act.put,J1,J2,J3]
 refine wpAnyH_ready (rs:=[14]) (by kernel_rfl) (by simp) ?_
 refine AllReadyH.cons (o:=⟨some 22,_,_,_,_,_⟩) rfl (fun K hK=>?_) AllReadyH.nil
 go_simp
 (go_at_call 30;(with_reducible refine(Beg.out).mono ?_);rintro e w4 ⟨⟨x4,rfl⟩,hD,Ctq⟩)
 refine hK.out _ _ (by exact Ctq) (fun hH=>?_)
 clear hK K
 try simp only[Act.put,J1,J2,J3]
 refine wpAnyH_done (by kernel_rfl) ?_ _
 clear Y2 hmd hen hH
 go_wp2
 go_ret
 exact⟨rfl,hD⟩
theorem Cqe(hT:Tbl w)(rows cols most:Nat)(hr1:1<=rows)(hr5:rows<=512)(hc1:1<=cols)(hc5:cols<=512)(hm:most<=10000):Calls prog 18 #[.int .i64 rows,.int .i64 cols,.int .i64 most] w fun e w'=>∃d t Z,e=.returned (.tuple #[.pointer (some ⟨d,0,none⟩),.int .i64 0])/\w.heap.size<=d/\Block w' d 105 #[.pointer (some ⟨t,0,none⟩)]/\TM Z w' t (Akk rows cols most)/\¬Z d/\(∀k,Z k->w.heap.size<=k)/\Below w.heap.size w w':=by
 have hln:=J0 (Avs most hm w)
 have hbg:Hid (∀w1,SX w.heap.size w1 w.heap.size 1 most (.slice none 0 0) []->Below w.heap.size w w1->Calls prog 35 #[.pointer (some ⟨w1.heap.size,0,none⟩),.int .i64 rows,.int .i64 cols] (w1.alloc (.cells (Afc w.heap.size) 102)) fun e w'=>e=.returned (.int .i64 0)/\TM (fun k=>w.heap.size<=k) w' w1.heap.size (Akk rows cols most)/\Below w.heap.size w w'):=J0 fun w1 hs hb=>by
  have hba:=A3 w1 (.cells (Afc w.heap.size) 102)
  have hb2:=A2 hb hba
  have hbl:=Block.made w1 102 (Afc w.heap.size)
  rw[Bkn w.heap.size most]at hbl
  have hsz:=hb.size
  have h6:=hT.1
  have Aws:N5 (fun k=>w.heap.size<=k) (w1.alloc (.cells (Afc w.heap.size) 102)) w1.heap.size (Bcw most) w.heap.size (.slice none 0 0) (.slice none 0 0) (.pointer none) (.pointer none) (.pointer none) :=
   ⟨by rw[Bkn w.heap.size most];exact hbl,World.ownsRow_nil _ _ _ _,Kys.Row.nil _ _ _,hsz,fun g hg=>(by cases hg),fun g hg=>(by cases hg),fun k hk=>Nat.le_trans hb2.size hk,fun k hk hz=>(by omega),hT.below hb2⟩
  have Amd:Sto (fun k=>w.heap.size<=k) (w1.alloc (.cells (Afc w.heap.size) 102)) w.heap.size 1 most (.slice none 0 0) [] :=
   ⟨(Cmu hs).below hba,⟨J5 _,fun g hg=>(by cases hg),fun e he=>(by cases he),fun k hk=>Nat.le_trans hb2.size hk⟩,by simp,by simp⟩
  refine(Ahb (T:=Bcw most) Aws Amd rows cols hr1 hr5 hc1 hc5 (by show 1+512<=10000000000;omega)).mono fun e w' ⟨he,h1,hf⟩=>⟨he,h1,?_⟩
  exact⟨hf.os.trans hb2.os,hf.tape.trans hb2.tape,hf.output.trans hb2.output,Nat.le_trans hb2.size hf.size,fun k hk=>(hf.block k (Nat.lt_of_lt_of_le hk hb2.size) (.inl (by omega))).trans (hb2.block k hk)⟩
 simp only[Afc]at hbg
 generalize Akk rows cols most=T at hbg |-
 clear hT
 go_enter func18,ntmps18
 go_wp2_with (first
  |(go_at_call 34;(with_reducible refine(hln.out).mono ?_);rintro e w1 ⟨rfl,hs,hb1⟩)
  |(go_at_call 35;(with_reducible refine(hbg.out _ hs hb1).mono ?_);rintro e w3 ⟨rfl,h3,hb3⟩))
 have hb4:=A3 w3 (.cells #[.pointer (some ⟨w1.heap.size,0,none⟩)] 105)
 go_ret2
 obtain⟨P,hP⟩:=h3
 have hs3:=hb3.size
 have hs4:(w3.alloc (.cells #[.pointer (some ⟨w1.heap.size,0,none⟩)] 105)).heap.size=w3.heap.size+1:=by simp
 have hk:Aol (fun k=>w.heap.size<=k) (re (fun k=>w.heap.size<=k) w3 (w3.alloc (.cells #[.pointer (some ⟨w1.heap.size,0,none⟩)] 105))) w3 (w3.alloc (.cells #[.pointer (some ⟨w1.heap.size,0,none⟩)] 105)):=⟨hb4.size,fun k hk _=>hb4.block k hk,fun k hk hz=>.inl ⟨hz,hk⟩,fun k hk=>.inr hk⟩
 refine⟨_,_,re (fun k=>w.heap.size<=k) w3 (w3.alloc (.cells #[.pointer (some ⟨w1.heap.size,0,none⟩)] 105)),rfl,hb3.size,Block.made w3 105 #[.pointer (some ⟨w1.heap.size,0,none⟩)],⟨P,hP.E8 hk (fun k hk hz=>?_) (hP.tbl.below hb4)⟩,fun hz=>?_,fun k hz=>?_,A2 hb3 hb4⟩
 ·rcases hz with hz|hz
  ·exact hP.low k hk hz.1
  ·have:=hP.tbl.1
   omega
 ·rcases hz with hz|hz
  ·have:=hz.2
   omega
  ·omega
 ·rcases hz with hz|hz
  ·exact hz.1
  ·omega
def Agt(r c b:Nat):Hst:=⟨Utf.zero,Prs.start,Akk r c b,[]⟩
theorem Cfh{T:Ter}{dp:Nat}(hT:Tbl W)(hbW:Below W.heap.size W w)(ok:Ok T)(hd:w.heap.size<=d)(hbk:Block w1 d 105 #[.pointer (some ⟨t,0,none⟩)])(hz:∀k,Z k->w.heap.size<=k)(hnd:¬Z d)(hTM:TM Z w1 t T)(hb1:Below w.heap.size w w1)(Bqy:Utf.F1 w2 w1.heap.size Utf.zero)(ho:A0 [] w1 w2)(hdp:w2.heap.size=dp) :
  HB (fun k=>w.heap.size<=k) W (((w2.alloc (.cells (Prs.F7 Prs.start (.slice none 0 0)).toArray 115)).alloc (.cells #[.pointer (some ⟨w1.heap.size,0,none⟩),.pointer (some ⟨dp,0,none⟩),.pointer (some ⟨d,0,none⟩),.slice none 0 0] 69)).alloc (.cells #[.pointer (some ⟨dp+1,0,none⟩)] 71)) (dp+2) ⟨Utf.zero,Prs.start,T,[]⟩ /\
   Below w.heap.size w (((w2.alloc (.cells (Prs.F7 Prs.start (.slice none 0 0)).toArray 115)).alloc (.cells #[.pointer (some ⟨w1.heap.size,0,none⟩),.pointer (some ⟨dp,0,none⟩),.pointer (some ⟨d,0,none⟩),.slice none 0 0] 69)).alloc (.cells #[.pointer (some ⟨dp+1,0,none⟩)] 71)):=by
 subst hdp
 have hb2:Below w1.heap.size w1 w2:=ho.nil
 have Axp:=Bqy.lt
 have hd1:=Block.lt hbk
 have hs1:=hb1.size
 have hsW:=hbW.size
 have m3:=Block.made w2 115 (Prs.F7 Prs.start (.slice none 0 0)).toArray
 have b3:=A3 w2 (.cells (Prs.F7 Prs.start (.slice none 0 0)).toArray 115)
 have s3:(w2.alloc (.cells (Prs.F7 Prs.start (.slice none 0 0)).toArray 115)).heap.size=w2.heap.size+1:=by simp
 generalize w2.alloc (.cells (Prs.F7 Prs.start (.slice none 0 0)).toArray 115)=w3 at *
 have m4:=Block.made w3 69 #[.pointer (some ⟨w1.heap.size,0,none⟩),.pointer (some ⟨w2.heap.size,0,none⟩),.pointer (some ⟨d,0,none⟩),.slice none 0 0]
 have b4:=A3 w3 (.cells #[.pointer (some ⟨w1.heap.size,0,none⟩),.pointer (some ⟨w2.heap.size,0,none⟩),.pointer (some ⟨d,0,none⟩),.slice none 0 0] 69)
 have s4:(w3.alloc (.cells #[.pointer (some ⟨w1.heap.size,0,none⟩),.pointer (some ⟨w2.heap.size,0,none⟩),.pointer (some ⟨d,0,none⟩),.slice none 0 0] 69)).heap.size=w2.heap.size+2:=by simp[s3]
 generalize w3.alloc (.cells #[.pointer (some ⟨w1.heap.size,0,none⟩),.pointer (some ⟨w2.heap.size,0,none⟩),.pointer (some ⟨d,0,none⟩),.slice none 0 0] 69)=w4 at *
 have m5:=Block.made w4 71 #[.pointer (some ⟨w2.heap.size+1,0,none⟩)]
 have b5:=A3 w4 (.cells #[.pointer (some ⟨w2.heap.size+1,0,none⟩)] 71)
 have s5:(w4.alloc (.cells #[.pointer (some ⟨w2.heap.size+1,0,none⟩)] 71)).heap.size=w2.heap.size+3:=by simp[s4]
 generalize w4.alloc (.cells #[.pointer (some ⟨w2.heap.size+1,0,none⟩)] 71)=w5 at *
 rw[s3]at m4
 rw[s4]at m5
 have h25:=A2 (A2 b3 b4) b5
 have h15:=A2 hb2 h25
 have hTZ:TZ Z W w1 d t T:=⟨⟨hbk,hTM⟩,ok,A2 hbW hb1,fun k hk hz'=>by have:=hz k hz';omega⟩
 have hTZ5:TZ (re Z w1 w5) W w5 d t T:=TZ.re hTZ (Hf.A1 (fun _=>False) h15) (fun _ _ _ h=>h) (fun h=>h) (fun _ _ h=>h) hT.1
 have E8:∀ {a b:World} {k:Nat} {ty:TypeId} {cs:Array Value},Block a k ty cs->Below a.heap.size a b->Block b k ty cs:=fun hb hbl=>Block.only hb (A0.A1 hbl []) (by simp)
 refine⟨⟨re Z w1 w5,⟨w2.heap.size+1,w1.heap.size,w2.heap.size,d,t,.slice none 0 0,.slice none 0 0⟩,⟨m5,E8 m4 b5,E8 Bqy h25,⟨E8 m3 (A2 b4 b5),Own.nil _ _ _ _,by show W.heap.size<=w2.heap.size;omega⟩,Kys.Row.nil _ _ _,hTZ5,fun k hk hz'=>?_,⟨by omega,by show W.heap.size<=w2.heap.size+1;omega,by show W.heap.size<=w1.heap.size;omega,by show W.heap.size<=d;omega⟩,hT.1⟩,fun k hk=>?_⟩,A2 hb1 h15⟩
 ·have h1:k<w5.heap.size/\(k=d\/w1.heap.size<=k):=by
   rcases hk with hk|hk|hk|hk|hk|hk|hk
   ·omega
   ·have hk:k=w2.heap.size+1:=hk
    omega
   ·have hk:k=w1.heap.size:=hk
    omega
   ·have hk:k=w2.heap.size:=hk
    omega
   ·have hk:k=d:=hk
    omega
   ·cases hk
   ·cases hk
  rcases hz' with hz'|hz'
  ·rcases h1.2 with e|e
   ·subst e;exact hnd hz'.1
   ·omega
  ·omega
 ·rcases hk with hk|hk
  ·rcases hk with hk|hk
   ·exact hz k hk.1
   ·show w.heap.size<=k
    have:=h15.size
    omega
  ·show w.heap.size<=k
   rcases hk with hk|hk|hk|hk|hk|hk|hk
   ·omega
   ·have hk:k=w2.heap.size+1:=hk
    omega
   ·have hk:k=w1.heap.size:=hk
    omega
   ·have hk:k=w2.heap.size:=hk
    omega
   ·have hk:k=d:=hk
    omega
   ·cases hk
   ·cases hk
theorem Bat(hT:Tbl W)(hbW:Below W.heap.size W w)(r c b:Nat)(hr1:1<=r)(hr5:r<=512)(hc1:1<=c)(hc5:c<=512)(hb5:b<=10000):Calls prog 7 #[.int .i64 r,.int .i64 c,.int .i64 b] w fun e w'=>∃h,e=.returned (.tuple #[.pointer (some ⟨h,0,none⟩),.int .i64 0])/\HB (fun k=>w.heap.size<=k) W w' h (Agt r c b)/\Below w.heap.size w w':=by
 have hn:=J0 (Cqe (hT.below hbW) r c b hr1 hr5 hc1 hc5 hb5)
 have hun:=fun w1=>J0 (Utf.Bbp w1)
 have hpn:=fun w1=>J0 (Prs.Bbp w1)
 have hok:=Boi r c b hr1 hr5 hc1 hc5
 unfold Agt
 generalize Akk r c b=T at hn hok |-
 have C3:=J0 (fun w1 w2 Z d t (h1:w.heap.size<=d) h2 h3 h4 h5 h6 h7 h8=>Cfh (w1:=w1) (w2:=w2) (Z:=Z) (d:=d) (t:=t) (dp:=w2.heap.size) hT hbW hok h1 h2 h3 h4 h5 h6 h7 h8 rfl)
 clear hT hbW hok
 go_enter func7,ntmps7
 go_wp2_with (first
  |(go_at_call 18;(with_reducible refine(hn.out).mono ?_);rintro e w1 ⟨d,t,Z,rfl,h1,h2,h3,h4,h5,h6⟩)
  |(go_at_call 19;(with_reducible refine((hun _).out).mono ?_);rintro e w2 ⟨rfl,h7,h8⟩)
  |(go_at_call 20;(with_reducible refine((hpn _).out).mono ?_);rintro e w3 ⟨rfl,rfl⟩))
 go_ret2
 have hF:=C3.out w1 w2 Z d t h1 h2 h5 h4 h3 h6 h7 h8
 exact⟨_,rfl,hF.1,hF.2⟩
end
section
variable {Z Z' B:Zn}{W w w1 w2 w':World}{h d t:Nat}{p p':HP}{H H':Hst}{X:Tri}{T:Ter}{v sv:Value}{s b l:List Int}{ao:Option Addr}{n cp c:Nat}
theorem HB.ok(hB:HB B W w h H):Ok H.T:=by
 obtain⟨Z,p,hx,_⟩:=hB
 exact hx.tz.ok
theorem Bhy(hB:HB B W w h H):Calls prog 27 #[.pointer (some ⟨h,0,none⟩)] w fun e w'=>∃g1 c1 g2 c2 rs,e=.returned (.agg #[.slice (some ⟨g2,0,none⟩) H.T.vis.L.length c2,.int .i64 H.T.vis.cols,.int .i64 H.T.c.row,.int .i64 H.T.c.col]) /\
  Tld w' H.T.vis.L.length H.T.vis.cols H.T.vis.L g1 c1 g2 c2 rs/\Below w.heap.size w w':=by
 have hbn:=A3 w (.cells #[.slice none 0 0,.int .i64 0,.int .i64 0,.int .i64 0] 84)
 have hbx:=Block.made w 84 #[.slice none 0 0,.int .i64 0,.int .i64 0,.int .i64 0]
 have hok:=hB.ok
 have hn1:=hok.fit.len
 obtain⟨Z,p,hx,hs⟩:=hB.on hbn
 have hm:=J0 (W6 hx)
 have c0:=hx.hb.cell 0 (v:=.pointer (some ⟨p.e,0,none⟩)) rfl
 have c2:=hx.eb.cell 2 (v:=.pointer (some ⟨p.d,0,none⟩)) rfl
 have ht:=Aqc hx.tz
 have Y9:=J0 (fun w1 (hb:Below (w.alloc (.cells #[.slice none 0 0,.int .i64 0,.int .i64 0,.int .i64 0] 84)).heap.size (w.alloc (.cells #[.slice none 0 0,.int .i64 0,.int .i64 0,.int .i64 0] 84)) w1)=>Block.only hbx (A0.A1 hb []) (by simp))
 have B9:(prog.info? 84).map (·.size)=some 4:=by kernel_rfl
 generalize H.T.vis.L.length=n0 at ht hn1 |-
 generalize H.T.vis.cols=n1 at ht |-
 generalize H.T.vis.L=L at ht |-
 generalize H.T.vis.top=n2 at ht
 generalize H.T.vis.bot=n3 at ht
 generalize H.T.c=cu at ht |-
 generalize H.T.m.a5=m5 at ht
 generalize H.T.other.isNone=oi at ht
 generalize H.T.p.a=pa at ht
 obtain⟨q0,q1,q2⟩:=cu
 obtain⟨r0,r1,r2⟩:=pa
 simp only at ht |-
 replace ht:=J0 ht
 clear hx hs hbx hB hok
 go_enter func27,ntmps27
 go_upto_region 4 with (first
  |(go_at_call 21;(with_reducible refine(hm.out).mono ?_);rintro e w1 ⟨rfl,rfl⟩)
  |(go_at_call 32;(with_reducible refine(ht.out).mono ?_);rintro e w1 ⟨g1,c1,g2,c2',rs,rfl,htl,hb1⟩))
 have hb7:=Y9.out _ hb1
 have hbb:=A2 hbn hb1
 have hgn:=A3 w1 (.cells #[.slice (some ⟨g1,0,none⟩) n0 c1,.slice (some ⟨g2,0,none⟩) n0 c2',.int .i64 q0,.int .i64 q1,.bool q2,.bool (!m5),.bool oi,.int .i64 n2,.int .i64 n3,.int .u32 r0,.int .u32 r1,.int .u16 r2] 53)
 have hgx:=Block.made w1 53 #[.slice (some ⟨g1,0,none⟩) n0 c1,.slice (some ⟨g2,0,none⟩) n0 c2',.int .i64 q0,.int .i64 q1,.bool q2,.bool (!m5),.bool oi,.int .i64 n2,.int .i64 n3,.int .u32 r0,.int .u32 r1,.int .u16 r2]
 replace htl:=htl.below hgn
 replace hb7:=Block.only hb7 (A0.A1 hgn []) (by simp)
 replace hbb:=A2 hbb hgn
 generalize w1.heap.size=bg at hgx |-
 generalize w1.alloc (.cells #[.slice (some ⟨g1,0,none⟩) n0 c1,.slice (some ⟨g2,0,none⟩) n0 c2',.int .i64 q0,.int .i64 q1,.bool q2,.bool (!m5),.bool oi,.int .i64 n2,.int .i64 n3,.int .u32 r0,.int .u32 r1,.int .u16 r2] 53)=w2 at hgx htl hb7 hbb |-
 obtain⟨x,z1,-,-⟩:=htl.row (i:=0) (by omega)
 have y0:=hgx.cell 0 (v:=.slice (some ⟨g1,0,none⟩) n0 c1) rfl
 have y1:=hgx.cell 1 (v:=.slice (some ⟨g2,0,none⟩) n0 c2') rfl
 have y2:=hgx.cell 2 (v:=.int .i64 q0) rfl
 have y3:=hgx.cell 3 (v:=.int .i64 q1) rfl
 have f0:=hb7.free 0
 have f1:=hb7.free 1
 have f2:=hb7.free 2
 have f3:=hb7.free 3
 have u0:=hb7.cell 0 (v:=.slice none 0 0) rfl
 have u1:=hb7.cell 1 (v:=.int .i64 0) rfl
 have u2:=hb7.cell 2 (v:=.int .i64 0) rfl
 have u3:=hb7.cell 3 (v:=.int .i64 0) rfl
 have hn0:(0:Int)<n0:=by omega
 clear ht hm Y9 hb1 hgn hgx
 go_wp2
 go_region
 have hb8:Block (((((w2.setCell ⟨w.heap.size,0,none⟩ (.slice (some ⟨g2,0,none⟩) n0 c2')).setCell ⟨w.heap.size,1,none⟩ (.int .i64 n1)).setCell ⟨w.heap.size,2,none⟩ (.int .i64 q0)).setCell ⟨w.heap.size,3,none⟩ (.int .i64 q1)).drew) w.heap.size 84 #[.slice (some ⟨g2,0,none⟩) n0 c2',.int .i64 n1,.int .i64 q0,.int .i64 q1]:=Block.only ((((hb7.set 0 (.slice (some ⟨g2,0,none⟩) n0 c2')).set 1 (.int .i64 n1)).set 2 (.int .i64 q0)).set 3 (.int .i64 q1)) (A0.drewN [] _ 1) (by simp)
 have ho8:A0 [w.heap.size] w2 (((((w2.setCell ⟨w.heap.size,0,none⟩ (.slice (some ⟨g2,0,none⟩) n0 c2')).setCell ⟨w.heap.size,1,none⟩ (.int .i64 n1)).setCell ⟨w.heap.size,2,none⟩ (.int .i64 q0)).setCell ⟨w.heap.size,3,none⟩ (.int .i64 q1)).drew):=((((A0.setCell w2 ⟨w.heap.size,0,none⟩ _).trans (A0.setCell _ ⟨w.heap.size,1,none⟩ _)).trans (A0.setCell _ ⟨w.heap.size,2,none⟩ _)).trans (A0.setCell _ ⟨w.heap.size,3,none⟩ _)).trans (A0.drewN _ _ 1)
 generalize ((((w2.setCell ⟨w.heap.size,0,none⟩ (.slice (some ⟨g2,0,none⟩) n0 c2')).setCell ⟨w.heap.size,1,none⟩ (.int .i64 n1)).setCell ⟨w.heap.size,2,none⟩ (.int .i64 q0)).setCell ⟨w.heap.size,3,none⟩ (.int .i64 q1)).drew=w9 at hb8 ho8 |-
 have hbe:=hbb.trans (ho8.below hbb.size (by simp))
 have hfr:Rw.Fr 0 [84] w2 w9:=Rw.Fr.I9 ho8 fun k hk _=>by
  obtain rfl:k=w.heap.size:=by simpa using hk
  exact⟨Nat.zero_le _,_,by simp,Block.typ hb7⟩
 have Aaz:(prog.info? 84).map (·.size)=some (#[.slice (some ⟨g2,0,none⟩) n0 c2',.int .i64 n1,.int .i64 q0,.int .i64 q1]:Array Value).size:=B9
 clear y0 y1 y2 y3 f0 f1 f2 f3 u0 u1 u2 u3 z1
 go_wp2
 exact bodyPost_ret (results_cell_row rfl _ _ _ _ _ _ _ rfl hb8 underlying84 rfl Aaz) rfl ⟨g1,c1,g2,c2',rs,rfl,⟨htl.rws.fr hfr (by decide) (by decide) (by decide) (by decide),htl.len,htl.Aei,htl.got,htl.wid⟩,hbe⟩
end
