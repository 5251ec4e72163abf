/- Part 52 of HostSplits. -/
import Derived.Test.YtecnpoigegiooaaGreatDoorP51
import Derived.SevenTiedAt
set_option maxHeartbeats 16000000
set_option maxRecDepth 100000
namespace Go.Proofs.YtecnpoigegiooaaGreatDoor.Hos
open Go RowKit Com Rw Lns Emu Scn
section
variable {W w w':World}
theorem told_len {c N P S:Nat} {H:Hst} (g:Gh c N P S H) {b:List Int} (hb:Utf.Bytes b):(H.told b).length<=400*b.length:=by
 have h1:=(Tr.hand g.tr hb).rh.jr
 have h2:(H.told b).length<=0+400*b.length:=h1
 omega
theorem fl_one (l:List Ev):∀u∈fl evL l,u.oneCell'=true:=by
 intro u hu
 unfold fl at hu
 obtain⟨e,_,he⟩:=List.mem_flatMap.1 hu
 exact Ch4 e u he
structure St (W w:World) (h1:Nat) (H1:Hst) (h2:Nat) (H0:Hst) (va vp:Value) (la:List Ev) (lb:List Int) (ax:Option Addr) (m cx:Nat) (off:Nat):Prop where
 sp:Sp W w h1 H1 h2 (H0.bytes (lb.take off)) va vp la (H0.told (lb.take off))
 nums:Nums W W.heap.size .u8 ax (lb.drop off)
 le:off<=lb.length
 len:m=lb.length - off
 cap:m<=cx
 most:cx<=maxLen
theorem piece_nums {ax:Option Addr} {l:List Int} {B:Nat} (h:Nums w B .u8 ax l) (q:Nat) (y:Option Addr) (hy:y=ax\/y=ax.map (·.add 0)):Nums w B .u8 y (l.take q):=by
 have h1:=h.piece 0 q
 rw[List.drop_zero] at h1
 have h2:ax.map (·.add 0)=ax:=by
  cases ax with
  |none=>rfl
  |some a=>simp[Addr.add]
 rcases hy with rfl|rfl
 ·rw[h2] at h1
  exact h1
 ·exact h1
theorem rest_nums {ax:Option Addr} {l:List Int} {B:Nat} (h:Nums w B .u8 ax l) (q:Nat) {cx:Nat} (hl:l.length<=cx):Nums w B .u8 (if cx=q then ax else ax.map (·.add q)) (l.drop q):=by
 by_cases e:cx=q
 ·rw[List.drop_of_length_le (by omega)]
  exact Nums.nil _ _ _ _
 ·rw[if_neg e]
  have:=h.piece q l.length
  rwa [List.take_length] at this
theorem bytes_none {H:Hst} (h1:H.T.jr=[]) (h2:H.T.rp=[]):H.bytes []=H/\H.told []=[]:=by
 rcases H with ⟨d,p,T,s⟩
 rcases T with ⟨m,c,pe,nx,most,R,main,other,tn,tf,prints,last,jr,rp⟩
 simp only at h1 h2
 subst h1 h2
 exact⟨by show Hst.mk d p _ (s++[])=_;rw[List.append_nil];rfl,rfl⟩
theorem Cn8 (l:List Int) (off q:Nat):l.take off++(l.drop off).take q=l.take (off+q):=by
 rw[List.take_add]
theorem splits_law (r:Int) (_:(Lit.int .i64 r).wf=true) (c:Int) (_:(Lit.int .i64 c).wf=true) (b:Int) (_:(Lit.int .i64 b).wf=true) (la:List Int) (hfa:Fits .u8 la) (aa:Option Addr) (ca:Nat) (hca:la.length<=ca) (hcm:ca<=maxLen) (lc:List Int) (hfc:Fits .u8 lc) (ac:Option Addr) (cc:Nat) (_:lc.length<=cc) (_:cc<=maxLen) (W:World) (hT:Tbl W)
  (hna:Nums W W.heap.size .u8 aa la) (hnc:Nums W W.heap.size .u8 ac lc):Calls Tryz.prog 3 #[.int .i64 r,.int .i64 c,.int .i64 b,.slice aa la.length ca,.slice ac lc.length cc] W fun e w'=>e=.returned (.bool true)/\Below W.heap.size W w':=by
 have hkn:=J0 (fun w1 (hb:Below W.heap.size W w1)=>known_any (hT.below hb))
 have hba:=Bj5 hfa
 have hbc:=Bj5 hfc
 obtain⟨o1,ho1⟩:∃o1:Oh,o1=⟨0,la,0,0,kz,[],aa,ca,none,0⟩:=⟨_,rfl⟩
 have hbn:=Aa1 W (.cells (ohV o1).toArray 28)
 have hbo:=Block.made W 28 (ohV o1).toArray
 have hgr:Calls Tryz.prog 5 #[.int .i64 r,.int .i64 c,.int .i64 b,.slice (some ⟨W.heap.size,0,none⟩) 1 1] (W.alloc (.cells (ohV o1).toArray 28)) fun e w'=>e=.returned (.bool (Aj7 r c b [o1]))/\(W.alloc (.cells (ohV o1).toArray 28))=w':=great_any (n:=1) (cp:=1) (l:=[o1]) r c b (fun i hi=>by
  refine⟨_,rfl,fun j v hv=>?_⟩
  simp only[Addr.add_lit,Nat.zero_add]
  refine hbo.cell _ ?_
  have hi2:i=0:=by
   have:i<1:=hi
   omega
  subst hi2
  have hv':(ohV o1)[j]?=some v:=hv
  rw[List.getElem?_toArray,Nat.zero_mul,Nat.zero_add]
  exact hv') rfl
 have hno:Hid (Aj7 r c b [o1]=false->Ai6 r=false/\Ai6 c=false/\¬(200<b/\b<=10000)/\la.length<=600):=J0 fun h=>by
  obtain⟨h1,h2,h3,h4⟩:=great_no h
  have h5:=h4 o1 (by simp)
  rw[ho1] at h5
  exact⟨h1,h2,h3,h5.1⟩
 generalize Aj7 r c b [o1]=y at hgr hno
 subst ho1
 simp only[ohV,kz,List.length_nil] at hgr hbn hbo
 clear hbo hfa hfc
 obtain⟨na,hnla⟩:∃na,la.length=na:=⟨_,rfl⟩
 obtain⟨nc,hnlc⟩:∃nc,lc.length=nc:=⟨_,rfl⟩
 rw[hnla] at hgr hbn hca |-
 rw[hnlc]
 replace hgr:=J0 hgr
 replace hbn:=J0 hbn
 by_cases hyc:y=true\/100<nc
 ·clear hno hca
  rcases hy:y with _|_
  ·have hc9:(100:Int)<(nc:Int):=by
    rcases hyc with h|h
    ·rw[hy] at h
     cases h
    ·omega
   rw[hy] at hgr
   clear hyc hy
   go_enter Tryz.func3,Tryz.ntmps3
   go_wp2_with (first
    |(go_at_call 5;(with_reducible refine(hgr.out).mono ?_);rintro e w1 ⟨rfl,rfl⟩)
    |(go_at_call 6;(with_reducible refine(hkn.out _ hbn.out).mono ?_);rintro e w2 ⟨rfl,hb2⟩))
   go_ret
   exact⟨rfl,Aa0 hbn.out hb2⟩
  ·rw[hy] at hgr
   clear hyc hy
   go_enter Tryz.func3,Tryz.ntmps3
   go_wp2_with (first
    |(go_at_call 5;(with_reducible refine(hgr.out).mono ?_);rintro e w1 ⟨rfl,rfl⟩)
    |(go_at_call 6;(with_reducible refine(hkn.out _ hbn.out).mono ?_);rintro e w2 ⟨rfl,hb2⟩))
   go_ret
   exact⟨rfl,Aa0 hbn.out hb2⟩
 ·have hc9:¬((100:Int)<(nc:Int)):=by omega
  obtain rfl:y=false:=by
   rcases y with _|_
   ·rfl
   ·exact absurd (Or.inl rfl) hyc
  obtain⟨hs1,hs2,hs3,hla⟩:=hno.out rfl
  clear hyc
  go_enter Tryz.func3,Tryz.ntmps3
  go_upto_region 3 with ((go_at_call 5;(with_reducible refine(hgr.out).mono ?_);rintro e w1 ⟨rfl,rfl⟩))
  clear hgr hno
  generalize W.alloc (.cells #[.int .i64 0,.slice aa na ca,.int .i64 0,.int .i64 0,.int .u8 0,.int .i32 0,.int .i64 0,.int .u8 0,.slice none 0 0] 28)=w1 at hbn |-
  by_cases hok:Ba3 r c/\0<=b/\b<=10000
  ·obtain⟨⟨⟨p1,p2⟩,p3,p4⟩,p5,p6⟩:=hok
   have hr24:=Cn1 hs1 (by omega)
   have hc24:=Cn1 hs2 (by omega)
   obtain⟨r,rfl⟩:=Int.eq_ofNat_of_zero_le (show 0<=r by omega)
   obtain⟨c,rfl⟩:=Int.eq_ofNat_of_zero_le (show 0<=c by omega)
   obtain⟨b,rfl⟩:=Int.eq_ofNat_of_zero_le p5
   have hn1:=J0 (Bo2 hT hbn.out r c b (by omega) (by omega) (by omega) (by omega) (by omega))
   have hn2:=J0 (fun w2 (hb:Below W.heap.size W w2)=>Bo2 hT hb r c b (by omega) (by omega) (by omega) (by omega) (by omega))
   have g0:=J0 (Cq0 r c b (by omega) (by omega) (by omega) (by omega))
   have hb0:(newH r c b).bytes []=newH r c b/\(newH r c b).told []=[]:=bytes_none rfl rfl
   generalize newH r c b=H0 at hn1 hn2 g0 hb0
   have h6:0<W.heap.size:=by have:=hT.1;omega
   clear hs1 hs2 hs3 p1 p2 p3 p4 p5 p6 hr24 hc24 hT hc9
   go_upto_region 7 with (first
    |(go_at_call 7;(with_reducible refine(hn1.out).mono ?_);rintro e w2 ⟨h1,rfl,hA1,hb2⟩)
    |(go_at_call 7;(with_reducible refine(hn2.out _ (Aa0 hbn.out hb2)).mono ?_);rintro e w3 ⟨h2,rfl,hA2,hb3⟩))
   have D3:Duo (fun _=>False) W w3 h1 H0 h2 H0:=Duo.made hA1 (fun k hk hz=>by have hz:w1.heap.size<=k:=hz;have:=hbn.out.size;omega) hA2 hb3 (fun k hk=>hk.elim)
   clear hA1 hA2 hb2 hb3 hbn hn1 hn2
   have by1:=D3.begin (cp:=ca) g0.out (by omega) (by omega) (by omega) hna hba (by omega) hnla
   unfold Ce9 at by1
   replace by1:=J0 by1
   have gt:=J0 (fun x:List Int=>fun hx:Utf.Bytes x=>fun hl:x.length<=600=>(g0.out.bytes hx (by omega)).mono (N':=4000100) (P':=4000) (S':=80000) (by omega) (by omega) (by omega))
   have tl:=J0 (fun x (hx:Utf.Bytes x)=>told_len g0.out hx)
   have hle:Hid ((H0.told la).length<=1000000):=J0 (by have:=tl.out la hba;omega)
   go_upto_region 8 with ((go_at_call 8;(with_reducible refine(by1.out).mono ?_);rintro e w4 ⟨va,rfl,S4⟩))
   clear by1 D3
   have st0:Hid (St W w4 h1 (H0.bytes la) h2 H0 va (.slice none 0 0) (H0.told la) la aa na ca 0):=J0 ⟨by rw[List.take_zero,hb0.1,hb0.2];exact S4,by rw[List.drop_zero];exact hna,Nat.zero_le _,by omega,hca,hcm⟩
   generalize hHa:H0.bytes la=Ha at st0 S4
   generalize hel:H0.told la=el at st0 S4 hle
   obtain⟨xa,ya,hva,-⟩:=Ab3 S4.ra
   clear S4 hb0
   subst hva
   replace hHa:=J0 hHa
   replace hel:=J0 hel
   go_wp2
   go_loopw [16,3,64] (fun vp vb i wr=>∃(k:Nat) (ax:Option Addr) (m cx off:Nat),k<=nc/\i=.int .i64 k/\vb=.slice ax m cx/\Hid (St W wr h1 Ha h2 H0 (.slice xa el.length ya) vp el la ax m cx off)) (fun _ _ i _=>nc - (intOf i).toNat)
   case atStart=>exact⟨0,_,_,_,0,Nat.zero_le _,rfl,rfl,st0⟩
   case round =>
    obtain⟨k,ax,m,cx,off,hk,rfl,rfl,hS⟩:=hrel
    obtain⟨xp,yp,hvp,-⟩:=Ab3 hS.out.sp.rp
    subst hvp
    clear st0
    by_cases hlt:k<nc
    ·have hkI:(k:Int)<(nc:Int):=by omega
     have hkl:k<lc.length:=by omega
     obtain⟨ad,rfl,hadb,hcell⟩:=hnc.at hkl
     have hx0:=(hbc lc[k] (List.getElem_mem hkl)).1
     have hx1:=(hbc lc[k] (List.getElem_mem hkl)).2
     have hcw:wr.cell? (ad.add k)=some (.int .u8 lc[k]):=(World.cell?_of_block (w:=W) (by rw[Ac5];exact hS.out.sp.below.block _ hadb)).trans hcell
     generalize lc[k]=x at hcw hx0 hx1
     clear hcell
     have hm9:(m:Int)<=9223372036854775807:=by have h1:=hS.out.cap;have h2:=hS.out.most;unfold maxLen at h2;omega
     have hmc:(m:Int)<=(cx:Int):=by have h1:=hS.out.cap;omega
     obtain⟨q,hq,hqm⟩:∃q:Nat,min x (m:Int)=(q:Int)/\q<=m:=⟨(min x (m:Int)).toNat,by omega,by omega⟩
     have hlo:=hS.out.le
     have hle2:=hS.out.len
     have hqI:(q:Int)<=(m:Int):=by omega
     have hqc:(q:Int)<=(cx:Int):=by omega
     have gb:=gt.out (la.take off) (Aq6 hba off) (by rw[List.length_take];omega)
     have hpl:((la.drop off).take q).length=q:=by rw[List.length_take,List.length_drop];omega
     have hpb:Utf.Bytes ((la.drop off).take q):=fun z hz=>hba z (List.mem_of_mem_drop (List.mem_of_mem_take hz))
     have by2:=fun y cp (hy:y=ax\/y=ax.map (·.add 0))=>hS.out.sp.bytes (ao:=y) (cp:=cp) (n:=q) gb (by omega) (by omega) (by omega) (piece_nums hS.out.nums q y hy) hpb (by omega) hpl
     have htd:H0.told (la.take off)++(H0.bytes (la.take off)).told ((la.drop off).take q)=H0.told (la.take (off+q)):=by rw[<- Ao7,Cn8]
     have hbt:(H0.bytes (la.take off)).bytes ((la.drop off).take q)=H0.bytes (la.take (off+q)):=by rw[Br4,Cn8]
     rw[hbt] at by2
     have hrs:=rest_nums hS.out.nums q (cx:=cx) (by rw[List.length_drop];omega)
     rw[List.drop_drop] at hrs
     have hlen:=tl.out (la.take (off+q)) (Aq6 hba _)
     rw[List.length_take] at hlen
     have hSm:=J0 hS.out.most
     have hca2:=J0 hS.out.cap
     have hrp0:=hS.out.sp.rp
     generalize hlb:(H0.bytes (la.take off)).told ((la.drop off).take q)=lb at by2 htd
     have hlen2:(H0.told (la.take off)).length+lb.length<=100000000:=by rw[<- List.length_append,htd];omega
     generalize hlp:H0.told (la.take off)=lp at by2 htd hlen2 hrp0 |-
     unfold Cf4 at by2
     replace by2:=J0 by2
     replace htd:=J0 htd
     clear hS hlb hlp hpb hpl gb hbt
     have hnx:Hid (off+q<=la.length/\m - q=la.length - (off+q)/\m - q<=cx - q/\cx - q<=maxLen):=J0 (by
      have h1:=hca2.out
      have h2:=hSm.out
      omega)
     replace hlen2:=J0 hlen2
     replace hrs:=J0 hrs
     clear hlo hle2 hrp0 hlen
     go_upto_region 14 with (first
      |(go_at_call 8;(with_reducible refine(by2.out _ _ (.inl rfl)).mono ?_);rintro e wA ⟨vA,rfl,hrA,hSA⟩;obtain⟨aA,cA,rfl,_⟩:=Ab3 hrA;replace hrA:=J0 hrA;replace hSA:=J0 hSA)
      |(with_reducible refine J6 79 ?_;go_must (refine Al1 Ch1 rfl (.tmp 73) (.tmp 78) rfl W.heap.size (.slice xp lp.length yp) lp.length (fl evL lp) (.slice aA lb.length cA) lb.length (fl evL lb) rfl rfl hSA.out.rp hrA.out (fl_one _) hSA.out.below.size (by exact hlen2.out) ?_);intro v2 wB hrB hoB hvB;have hSB:=hSA.out.put hrB hoB hvB;rw[htd.out] at hSB;obtain⟨aB,cB,rfl,_⟩:=Ab3 hrB;replace hSB:=J0 hSB;clear hrB hoB hvB hrA hSA))
     clear by2 htd
     go_wp2
     go_roundw
     case rel=>exact⟨k+1,_,_,_,off+q,by omega,by go_num,rfl,J0 ⟨hSB.out,hrs.out,hnx.out.1,hnx.out.2.1,hnx.out.2.2.1,hnx.out.2.2.2⟩⟩
     case measure=>simp[intOf];omega
    ·obtain rfl:k=nc:=by omega
     have hlo:=hS.out.le
     have hle2:=hS.out.len
     have gb:=gt.out (la.take off) (Aq6 hba off) (by rw[List.length_take];omega)
     have hpl:(la.drop off).length=m:=by rw[List.length_drop];omega
     have hpb:Utf.Bytes (la.drop off):=fun z hz=>hba z (List.mem_of_mem_drop hz)
     have by2:=hS.out.sp.bytes (cp:=cx) (n:=m) gb (by omega) (by omega) (by omega) hS.out.nums hpb (by omega) hpl
     have htd:H0.told (la.take off)++(H0.bytes (la.take off)).told (la.drop off)=el:=by rw[<- Ao7,List.take_append_drop];exact hel.out
     have hbt:(H0.bytes (la.take off)).bytes (la.drop off)=Ha:=by rw[Br4,List.take_append_drop];exact hHa.out
     rw[hbt] at by2
     have gz:=J0 (gt.out la hba hla)
     rw[hHa.out] at gz
     generalize hlb:(H0.bytes (la.take off)).told (la.drop off)=lb at by2 htd
     have hlen2:Hid ((H0.told (la.take off)).length+lb.length<=100000000):=J0 (by rw[<- List.length_append,htd];have:=hle.out;omega)
     generalize hlp:H0.told (la.take off)=lp at by2 htd hlen2 |-
     unfold Cf4 at by2
     replace by2:=J0 by2
     replace htd:=J0 htd
     clear hS hlb hlp hpb hpl gb hbt hlo hle2 hHa hel gt tl g0
     generalize hsl:Ha.sent=ls
     replace hsl:=J0 hsl
     go_upto_region 17 with (first
      |(go_at_call 8;(with_reducible refine(by2.out).mono ?_);rintro e wA ⟨vA,rfl,hrA,hSA⟩;obtain⟨aA,cA,rfl,_⟩:=Ab3 hrA;replace hrA:=J0 hrA;replace hSA:=J0 hSA)
      |(with_reducible refine J6 88 ?_;go_must (refine Al1 Ch1 rfl (.tmp 84) (.tmp 87) rfl W.heap.size (.slice xp lp.length yp) lp.length (fl evL lp) (.slice aA lb.length cA) lb.length (fl evL lb) rfl rfl hSA.out.rp hrA.out (fl_one _) hSA.out.below.size (by exact hlen2.out) ?_);intro v2 wB hrB hoB hvB;have hSB:=hSA.out.put hrB hoB hvB;rw[htd.out] at hSB;obtain⟨aB,cB,rfl,_⟩:=Ab3 hSB.rp;replace hSB:=J0 hSB;clear hrB hoB hvB hrA hSA))
     clear by2 htd
     have hdw:Below wB.heap.size wB wB.drew:=Aa4 (Below.refl wB.heap.size wB) 1
     have DB:=hSB.out.duo.on hdw
     have eA:=J0 ((Ch5 hSB.out.ra).2.below hdw)
     have eB:=J0 ((Ch5 (owns_lower hSB.out.rp (Nat.zero_le _))).2.below hdw)
     have h6d:0<wB.drew.heap.size:=Nat.lt_of_lt_of_le h6 DB.below.size
     clear hSB hla hba hbc hna hnc gz
     go_wp2_with fail
     refine wp_region_held_drew (S:=fun w'=>0<w'.heap.size) (by kernel_rfl) (by exact h6d) (fun hH=>?_)
     refine K3 0 ⟨some 89,_,_,_,_,_⟩ ?_ rfl (Or.inl ⟨by rfl,?_⟩) hH ?_
     rotate_left 1
     ·(intro w hSw;(try dsimp only at hSw);go_simp)<;>with_reducible rfl
     try simp only[Act.put,J1,J2,J3]
     refine K3 1 ⟨some 90,_,_,_,_,_⟩ ?_ rfl (Or.inl ⟨by rfl,?_⟩) hH ?_
     rotate_left 1
     ·(intro w hSw;(try dsimp only at hSw);go_simp)<;>with_reducible rfl
     try simp only[Act.put,J1,J2,J3]
     refine wpAnyH_ready (rs:=[2]) (by kernel_rfl) (by simp) ?_
     refine AllReadyH.cons (o:=⟨some 91,_,_,_,_,_⟩) rfl (fun K hK=>?_) AllReadyH.nil
     go_simp
     (go_at_call 9;(with_reducible refine(sameev_any eA.out eB.out rfl (Nat.le_trans hle.out (by omega))).mono ?_);rintro e wC ⟨rfl,hbC⟩;have DC:=DB.on hbC)
     refine hK.out _ _ (by exact Nat.lt_of_lt_of_le h6 DC.below.size) (fun hH=>?_)
     clear hK K
     try simp only[Act.put,J1,J2,J3]
     refine K3 3 ⟨some 92,_,_,_,_,_⟩ ?_ rfl (Or.inl ⟨by rfl,?_⟩) hH ?_
     rotate_left 1
     ·(intro w hSw;(try dsimp only at hSw);go_simp)<;>with_reducible rfl
     try simp only[Act.put,J1,J2,J3]
     refine K3 4 ⟨some 93,_,_,_,_,_⟩ ?_ rfl (Or.inl ⟨by rfl,?_⟩) hH ?_
     rotate_left 1
     ·(intro w hSw;(try dsimp only at hSw);go_simp)<;>with_reducible rfl
     try simp only[Act.put,J1,J2,J3]
     refine K3 5 ⟨some 94,_,_,_,_,_⟩ ?_ rfl (Or.inl ⟨by rfl,?_⟩) hH ?_
     rotate_left 1
     ·(intro w hSw;(try dsimp only at hSw);go_simp)<;>with_reducible rfl
     try simp only[Act.put,J1,J2,J3]
     refine wpAnyH_ready (rs:=[6]) (by kernel_rfl) (by simp) ?_
     refine AllReadyH.cons (o:=⟨some 95,_,_,_,_,_⟩) rfl (fun K hK=>?_) AllReadyH.nil
     go_simp
     (go_at_call 10;(with_reducible refine(DC.same rfl).mono ?_);rintro e wD ⟨rfl,hbD⟩;have DD:=DC.on hbD)
     refine hK.out _ _ (by exact Nat.lt_of_lt_of_le h6 DD.below.size) (fun hH=>?_)
     clear hK K
     try simp only[Act.put,J1,J2,J3]
     refine K3 7 ⟨some 96,_,_,_,_,_⟩ ?_ rfl (Or.inl ⟨by rfl,?_⟩) hH ?_
     rotate_left 1
     ·(intro w hSw;(try dsimp only at hSw);go_simp)<;>with_reducible rfl
     try simp only[Act.put,J1,J2,J3]
     refine K3 8 ⟨some 97,_,_,_,_,_⟩ ?_ rfl (Or.inl ⟨by rfl,?_⟩) hH ?_
     rotate_left 1
     ·(intro w hSw;(try dsimp only at hSw);go_simp)<;>with_reducible rfl
     try simp only[Act.put,J1,J2,J3]
     refine K3 9 ⟨some 98,_,_,_,_,_⟩ ?_ rfl (Or.inl ⟨by rfl,?_⟩) hH ?_
     rotate_left 1
     ·(intro w hSw;(try dsimp only at hSw);go_simp)<;>with_reducible rfl
     try simp only[Act.put,J1,J2,J3]
     refine K3 12 ⟨some 101,_,_,_,_,_⟩ ?_ rfl (Or.inl ⟨by rfl,?_⟩) hH ?_
     rotate_left 1
     ·(intro w hSw;(try dsimp only at hSw);go_simp)<;>with_reducible rfl
     try simp only[Act.put,J1,J2,J3]
     refine wpAnyH_ready (rs:=[10]) (by kernel_rfl) (by simp) ?_
     refine AllReadyH.cons (o:=⟨some 99,_,_,_,_,_⟩) rfl (fun K hK=>?_) AllReadyH.nil
     go_simp
     (go_at_call 11;(with_reducible refine(DD.sent).mono ?_);rintro e wE ⟨vE,rfl,hrE,DE,-⟩;rw[hsl.out] at hrE;obtain⟨aE,cE,rfl,_⟩:=hrE.shape)
     refine hK.out _ _ (by exact Nat.lt_of_lt_of_le h6 DE.below.size) (fun hH=>?_)
     clear hK K
     refine Kys.held_mono (S':=fun w'=>(0<w'.heap.size)/\(convert 22 9 (.slice aE ls.length cE)).run Tryz.prog w'=.ok (.string (strOfNums ls)) w') (fun _ h=>h.1) _ _ _ _ ?_
     replace hH:=And.intro hH (Ar8 hrE)
     try simp only[Act.put,J1,J2,J3]
     refine K3 11 ⟨some 100,_,_,_,_,_⟩ ?_ rfl (Or.inl ⟨by rfl,?_⟩) hH ?_
     rotate_left 1
     ·(intro w hSw;(try dsimp only at hSw);go_simp)<;>with_reducible rfl
     try simp only[Act.put,J1,J2,J3]
     refine wpAnyH_ready (rs:=[13]) (by kernel_rfl) (by simp) ?_
     refine AllReadyH.cons (o:=⟨some 102,_,_,_,_,_⟩) rfl (fun K hK=>?_) AllReadyH.nil
     go_simp
     (go_at_call 11;(with_reducible refine(DE.swap.sent).mono ?_);rintro e wF ⟨vF,rfl,hrF,DF,hNF⟩;rw[hsl.out] at hrF;obtain⟨aF,cF,rfl,_⟩:=hrF.shape;replace hrE:=row_same hrE (fun g hg=>hNF g (.inr hg)))
     refine hK.out _ _ (by exact⟨Nat.lt_of_lt_of_le h6 DF.below.size,Ar8 hrE⟩) (fun hH=>?_)
     clear hK K
     refine Kys.held_mono (S':=fun w'=>((0<w'.heap.size)/\(convert 22 9 (.slice aE ls.length cE)).run Tryz.prog w'=.ok (.string (strOfNums ls)) w')/\(convert 22 9 (.slice aF ls.length cF)).run Tryz.prog w'=.ok (.string (strOfNums ls)) w') (fun _ h=>h.1) _ _ _ _ ?_
     replace hH:=And.intro hH (Ar8 hrF)
     try simp only[Act.put,J1,J2,J3]
     refine K3 14 ⟨some 103,_,_,_,_,_⟩ ?_ rfl (Or.inl ⟨by rfl,?_⟩) hH ?_
     rotate_left 1
     ·(intro w hSw;(try dsimp only at hSw);go_simp)<;>with_reducible rfl
     try simp only[Act.put,J1,J2,J3]
     refine K3 15 ⟨some 104,_,_,_,_,_⟩ ?_ rfl (Or.inl ⟨by rfl,?_⟩) hH ?_
     rotate_left 1
     ·(intro w hSw;(try dsimp only at hSw);go_simp)<;>with_reducible rfl
     try simp only[Act.put,J1,J2,J3]
     refine K3 16 ⟨some 105,_,_,_,_,_⟩ ?_ rfl (Or.inl ⟨by rfl,?_⟩) hH ?_
     rotate_left 1
     ·(intro w hSw;(try dsimp only at hSw);go_simp)<;>with_reducible rfl
     try simp only[Act.put,J1,J2,J3]
     refine K3 17 ⟨some 106,_,_,_,_,_⟩ ?_ rfl (Or.inl ⟨by rfl,?_⟩) hH ?_
     rotate_left 1
     ·(intro w hSw;(try dsimp only at hSw);go_simp)<;>with_reducible rfl
     try simp only[Act.put,J1,J2,J3]
     refine wpAnyH_ready (rs:=[18]) (by kernel_rfl) (by simp) ?_
     refine AllReadyH.cons (o:=⟨some 107,_,_,_,_,_⟩) rfl (fun K hK=>?_) AllReadyH.nil
     go_simp
     (go_at_call 6;(with_reducible refine(hkn.out _ DF.below).mono ?_);rintro e wG ⟨rfl,hbG⟩)
     refine hK.out _ _ (by exact⟨⟨Nat.lt_of_lt_of_le h6 (Nat.le_trans DF.below.size hbG.size),Ar8 (hrE.below hbG)⟩,Ar8 (hrF.below hbG)⟩) (fun hH=>?_)
     clear hK K
     try simp only[Act.put,J1,J2,J3]
     refine K3 19 ⟨some 108,_,_,_,_,_⟩ ?_ rfl (Or.inl ⟨by rfl,?_⟩) hH ?_
     rotate_left 1
     ·(intro w hSw;(try dsimp only at hSw);go_simp)<;>with_reducible rfl
     try simp only[Act.put,J1,J2,J3]
     refine K3 20 ⟨some 10,_,_,_,_,_⟩ ?_ rfl (Or.inl ⟨by rfl,?_⟩) hH ?_
     rotate_left 1
     ·(intro w hSw;(try dsimp only at hSw);go_simp)<;>with_reducible rfl
     try simp only[Act.put,J1,J2,J3]
     refine wpAnyH_done (by kernel_rfl) ?_ _
     clear hH
     go_wp2
     go_ret
     exact⟨rfl,Aa0 DF.below hbG⟩
  ·have hn1:=J0 (Bw7 (hT.below hbn.out) r c b hok)
   have hn2:=J0 (fun w2 (hb:Below W.heap.size W w2)=>Bw7 (hT.below hb) r c b hok)
   go_wp2_with (first
    |(go_at_call 7;(with_reducible refine(hn1.out).mono ?_);rintro e w2 ⟨rfl,hb2⟩)
    |(go_at_call 7;(with_reducible refine(hn2.out _ (Aa0 hbn.out hb2)).mono ?_);rintro e w3 ⟨rfl,hb3⟩)
    |(go_at_call 6;(with_reducible refine(hkn.out _ (Aa0 (Aa0 hbn.out hb2) hb3)).mono ?_);rintro e w4 ⟨rfl,hb4⟩))
   go_ret
   exact⟨rfl,Aa0 (Aa0 (Aa0 hbn.out hb2) hb3) hb4⟩
end
end Go.Proofs.YtecnpoigegiooaaGreatDoor.Hos
namespace Go.Proofs.YtecnpoigegiooaaGreatDoor.Hos
open Go RowKit
theorem goes_none {P:Program} (h:P.funcs.toList.any Func.goes=false) (f:FuncId):P.goes f=false:=by
 have hall:∀fn∈P.funcs.toList,fn.goes=false:=fun fn hfn=>by
  rw[List.any_eq_false] at h
  simpa using h fn hfn
 have h1:P.funcs.any Func.goes=false:=by
  rw[<- Array.any_toList]
  exact h
 unfold Program.goes
 rw[h1,Bool.and_false,Bool.or_false,List.any_eq_false]
 intro g _ hg
 cases hq:P.funcs[g]? with
 |none=>rw[hq] at hg;cases hg
 |some fn =>
  rw[hq] at hg
  have h2:fn∈P.funcs.toList:=by
   have:=Array.mem_of_getElem? hq
   simpa using this
  have h3:=hall fn h2
  simp only[Option.any_some] at hg
  rw[h3] at hg
  cases hg
theorem goes_by {P:Program} (h:P.funcs.toList.any Func.goes=false) {c:OpenClaim} (hs:c.start=.entering):false=c.goesBy P:=by
 unfold OpenClaim.goesBy Program.goesAt Program.goesFrom
 rw[hs]
 simp only[Bool.or_false]
 cases P.funcNamed c.func with
 |none=>rfl
 |some f=>exact(goes_none h f).symm
theorem no_go:Tryz.pinned.checked.prog.funcs.toList.any Func.goes=false:=by kernel_rfl
