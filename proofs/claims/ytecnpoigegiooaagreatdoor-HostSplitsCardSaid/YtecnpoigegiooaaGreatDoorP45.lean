/- Part 45 of HostSplits. -/
import Derived.Test.YtecnpoigegiooaaGreatDoorP44
set_option maxHeartbeats 16000000
set_option maxRecDepth 100000
namespace Go.Proofs.YtecnpoigegiooaaGreatDoor.Emu
open Go RowKit Com Rw Lns Scn
abbrev Av0:=Int×TRow
def At1 (p:Av0):List Value:=[.int .i64 p.1,.slice (some ⟨p.2.1,0,none⟩) p.2.2.length p.2.2.length]
theorem Ap6 (p:Av0):(At1 p).length=2:=rfl
theorem heldV_one (p:Av0):∀v∈At1 p,v.oneCell'=true:=by
 intro v hv
 simp only[At1,List.mem_cons,List.not_mem_nil,or_false] at hv
 rcases hv with rfl|rfl<;>rfl
theorem elemHd:As9 Tryz.prog 74 77 (.agg #[.int .i64 0,.slice none 0 0]) 2:=by
 have h:(Tryz.prog.info? 77).map (fun i=>(i.zero,i.size,decide (i.bytes<=100)))=some (some (.agg #[.int .i64 0,.slice none 0 0]),2,true):=by kernel_rfl
 refine⟨Tryz.underlying74,?_,rfl,by omega⟩
 cases hq:Tryz.prog.info? 77 with
 |none=>simp[hq] at h
 |some i =>
  simp only[hq,Option.map_some,Option.some.injEq,Prod.mk.injEq,decide_eq_true_eq] at h
  exact⟨i,rfl,h.1,h.2.1,h.2.2⟩
structure BackT (B:Nat) (w:World) (v:Value) (hs:List Av0):Prop where
 rows:w.ownsRow B 77 2 v hs.length (fl At1 hs)
 apis:∀p∈hs,Api B w (.slice (some ⟨p.2.1,0,none⟩) p.2.2.length p.2.2.length) p.2.2
def lnOf (p:Av0):Ln:=(p.1,p.2.2.map (·.1))
section
variable {B:Nat}{w w' wa w2 wc:World}{v v2:Value}{hs:List Av0}{k:Nat}{R:List Ln}
theorem BackT.fr {B':Nat} {ts:List TypeId} (h:BackT B w v hs) (hf:Rw.Fr B' ts w w') (h1:77∉ts) (h3:57∉ts) (h4:21∉ts):BackT B w' v hs :=
 ⟨Ak3 h.rows hf h1,fun p hp=>(h.apis p hp).fr hf h3 h4⟩
theorem BackT.below (h:BackT B w v hs) (hb:Below w.heap.size w w'):BackT B w' v hs:=h.fr (Rw.Fr.of_below (B:=0) (ts:=[]) hb) (by simp) (by simp) (by simp)
structure BkSt (w wr:World) (R:List Ln) (k:Nat) (v:Value) (hs:List Av0):Prop where
 below:Below w.heap.size w wr
 back:BackT w.heap.size wr v hs
 len:hs.length=k
 got:hs.map lnOf=R.take k
theorem BkSt.on (h:BkSt w wa R k v hs) (hb:Below wa.heap.size wa w2):BkSt w w2 R k v hs:=⟨Aa0 h.below hb,h.back.below hb,h.len,h.got⟩
theorem BkSt.more (h:BkSt w wa R k v hs) {g2:Nat} {ps:List (Cel×Value)} (hk:k<R.length) (hbc:Below wa.heap.size wa wc) (hA:Api w.heap.size wc (.slice (some ⟨g2,0,none⟩) ps.length ps.length) ps) (hm:ps.map (·.1)=R[k].2)
  (hown:w2.ownsRow w.heap.size 77 2 v2 (k+1) (fl At1 hs++At1 (R[k].1,g2,ps))) (ho:Only v.ownBlock.toList wc w2):BkSt w w2 R (k+1) v2 (hs++[(R[k].1,g2,ps)]):=by
 have hc:=h.on hbc
 have ht:∀g,v.ownBlock=some g->Typ wc g 77:=Ab9 hc.back.rows
 have hf:Rw.Fr 0 [77] wc w2:=Rw.Fr.of_only ho fun k hk _=>⟨Nat.zero_le _,_,by simp,ht k (by simpa using hk)⟩
 have hlow:∀g,v.ownBlock=some g->w.heap.size<=g:=fun g hg=>(World.ownsRow.lt hc.back.rows g hg).1
 have hbl:Below w.heap.size w w2:=hc.below.trans (ho.below hc.below.size fun k hk=>hlow k (by simpa using hk))
 refine⟨hbl,⟨?_,fun p hp=>?_⟩,by simp[h.len],?_⟩
 ·have e:(hs++[(R[k].1,g2,ps)]).length=k+1:=by simp[h.len]
  rw[e,fl_app,fl_one]
  exact hown
 ·rcases List.mem_append.1 hp with hp|hp
  ·exact(hc.back.apis p hp).fr hf (by decide) (by decide)
  ·obtain rfl:p=(R[k].1,g2,ps):=by simpa using hp
   exact hA.fr hf (by decide) (by decide)
 ·rw[List.map_append,h.got,Bi0 hk]
  have e:lnOf (R[k].1,g2,ps)=R[k]:=by
   unfold lnOf
   simp only[hm]
  simp[e]
end
section
variable {Z Z1:Zn}{w w':World}{d t x s b:Nat}{T:Ter}{P:Pt}{S:Scr}
theorem TMx.stoR (h:TMx Z w t T P):∃sv R,Sto Z w P.s T.nx T.most sv R/\vw R=T.R:=by
 have hs:=h.scr
 unfold Scrs at hs
 split at hs
 ·obtain⟨sv,lv,L,R,h1,_,h3⟩:=hs
  exact⟨sv,R,Cd1 h1,h3⟩
 ·obtain⟨sv,R,l1,L1,l2,L2,h1,_,h3,_⟩:=hs
  exact⟨sv,R,Cd1 h1,h3⟩
theorem sx_small {B s nx most:Nat} {sv:Value} {R:List En} (h:SX B w s nx most sv R):R.length<=10000:=by
 obtain⟨⟨o,P,h0,rfl⟩,_⟩:=h
 rw[Ca5]
 exact Nat.le_trans h0.le h0.most
theorem new_held (w6:World) (id:Int) (g2:Nat) (ps:List (Cel×Value)):∀j u,(At1 (id,g2,ps))[j]?=some u->((w6.alloc (.cells #[.int .i64 id,.slice (some ⟨g2,0,none⟩) ps.length ps.length] 77)).alloc (.cells #[.int .i64 id,.slice (some ⟨g2,0,none⟩) ps.length ps.length] 77)).cell? ((⟨w6.heap.size+1,0,none⟩:Addr).add j)=some u:=fun j u hj=>by
 have h:=Block.made (w6.alloc (.cells #[.int .i64 id,.slice (some ⟨g2,0,none⟩) ps.length ps.length] 77)) 77 #[.int .i64 id,.slice (some ⟨g2,0,none⟩) ps.length ps.length]
 rw[World.size_alloc] at h
 rw[Addr.add_lit,Nat.zero_add]
 exact h.cell j (by simpa[At1] using hj)
def Bl8 (w:World) (R:List Ln) (e:Ending) (w':World):Prop:=∃v hs,e=.returned v/\BackT w.heap.size w' v hs/\hs.map lnOf=R/\Below w.heap.size w w'
def AtLn (w:World) (l:Ln) (e:Ending) (w':World):Prop:=∃g2 ps,e=.returned (.tuple #[.agg #[.int .i64 l.1,.slice (some ⟨g2,0,none⟩) ps.length ps.length],.int .i64 0])/\Api w.heap.size w' (.slice (some ⟨g2,0,none⟩) ps.length ps.length) ps/\ps.map (·.1)=l.2/\Below w.heap.size w w'
theorem at_ln {B nx most:Nat} {sv:Value} {R:List En} (h:SX B w s nx most sv R) (k:Nat) (hk:k<(vw R).length):Calls Tryz.prog 95 #[.pointer (some ⟨s,0,none⟩),.int .i64 k] w (AtLn w (vw R)[k]):=by
 have hk':k<R.length:=by rwa [Ay7] at hk
 refine(at_yes h k hk').mono ?_
 rintro e w' ⟨g2,ps,rfl,hA,hm,hb,_⟩
 have e1:(vw R)[k]=(R[k].id,R[k].l):=by simp[vw]
 have e2:R[k].l.length=ps.length:=by rw[<- hm,List.length_map]
 rw[e1]
 rw[e2] at hA |-
 exact⟨g2,ps,rfl,hA,hm,hb⟩
theorem back_any (h:TMx Z w t T P):Calls Tryz.prog 61 #[.pointer (some ⟨t,0,none⟩)] w (Bl8 w T.R):=by
 obtain⟨sv,R,hs,hR⟩:=h.stoR
 have hl5:=sx_small hs.st
 have hlen:=J0 (slen_any hs.st)
 have hat:=J0 (fun w1 (hb:Below w.heap.size w w1) k hk=>at_ln (hs.st.below hb) k hk)
 have hst:=J0 (fun w1 (hb:Below w.heap.size w w1)=>(h.below hb).c17)
 have c17:=h.c17
 rw[<- Ay7,hR] at hl5
 rw[<- Ay7] at hlen
 rw[hR] at hlen hat
 have hgoal:Hid (∀v hs w1,BkSt w w1 T.R T.R.length v hs->Bl8 w T.R (.returned v) w1):=J0 fun v hs w1 g=>⟨v,hs,rfl,g.back,by rw[g.got,List.take_length],g.below⟩
 have hst0:Hid (BkSt w w T.R 0 (.slice none 0 0) []):=J0 ⟨Below.refl _ _,⟨World.ownsRow_nil _ _ _ _,fun p hp=>(by cases hp)⟩,rfl,rfl⟩
 generalize T.R=L at *
 generalize hn:L.length=n at hl5 hlen hgoal
 replace hn:=J0 hn
 generalize P.s=s at *
 clear h hs hR
 go_enter Tryz.func61,Tryz.ntmps61
 go_wp2_with ((go_at_call 94;(with_reducible refine(hlen.out).mono ?_);rintro e w1 ⟨rfl,rfl⟩))
 clear hlen c17
 go_loopw [3,12] (fun v i wr=>∃(k:Nat) (hs:List Av0),k<=n/\i=.int .i64 k/\Hid (BkSt w wr L k v hs)) (fun _ i _=>n - (intOf i).toNat)
 case atStart=>exact⟨0,[],Nat.zero_le _,rfl,hst0⟩
 case round =>
  obtain⟨k,hs,hk,rfl,hR⟩:=hrel
  clear hst0
  by_cases hlt:k<n
  ·have hkL:k<L.length:=by rw[hn.out];exact hlt
   have hkI:(k:Int)<(n:Int):=by omega
   have hbr:=J0 (fun w2 (hb:Below wr.heap.size wr w2)=>Aa0 hR.out.below hb)
   have hown0:=hR.out.back.rows
   rw[hR.out.len] at hown0
   replace hown0:=J0 hown0
   have c17:=hst.out _ hR.out.below
   obtain⟨av,cvp,hvs,_,_⟩:=Ab3 hown0.out
   subst hvs
   go_wp2_with (first
    |(go_at_call 95;(with_reducible refine(hat.out _ hR.out.below k hkL).mono ?_);rintro e w6 ⟨g2,ps,rfl,hA,hmap,hb6⟩);(have hbz:=J0 (hb6.trans ((Aa1 w6 (.cells #[.int .i64 L[k].1,.slice (some ⟨g2,0,none⟩) ps.length ps.length] 77)).mono hb6.size));have hbz2:=J0 (Aa0 hbz.out (Aa1 _ (.cells #[.int .i64 L[k].1,.slice (some ⟨g2,0,none⟩) ps.length ps.length] 77)));have hownA:=J0 (Af0 hown0.out (Only.of_below hbz2.out []) (by simp)))
    |(with_reducible refine J6 27 ?_;go_must (refine Bi4 elemHd rfl (.tmp 24) (.tmp 26) rfl w.heap.size (.slice av k cvp) k (fl At1 hs) ⟨w6.heap.size+1,0,none⟩ 1 1 (At1 (L[k].1,g2,ps)) rfl rfl hownA.out rfl (new_held w6 L[k].1 g2 ps) (heldV_one _) (hbr.out _ hbz2.out).size (by omega) ?_);intro v2 w7 hown2 ho2 _))
   have hA3:=((hA.lower (B':=w.heap.size) hR.out.below.size).below (Aa1 w6 (.cells #[.int .i64 L[k].1,.slice (some ⟨g2,0,none⟩) ps.length ps.length] 77))).below (Aa1 _ (.cells #[.int .i64 L[k].1,.slice (some ⟨g2,0,none⟩) ps.length ps.length] 77))
   have hR2:=J0 (hR.out.more hkL hbz2.out hA3 hmap hown2 ho2)
   clear hown2 ho2 hown0 hA3 hownA hbz hbz2
   go_roundw
   case rel=>exact⟨k+1,_,by omega,by go_num,hR2⟩
   case measure=>simp[intOf];omega
  ·obtain rfl:k=n:=by omega
   have hres:=J0 (hgoal.out _ _ _ hR.out)
   clear hgoal hR
   go_wp2
   go_ret
   exact hres.out
end
section
variable {Z:Zn}{w w':World}{d t:Nat}{T:Ter}{P:Pt}{B:Nat}{cv iv:Value}{rs:List TRow}
theorem GridT.lower {B':Nat} (h:GridT B w T cv iv rs) (hB:B'<=B):GridT B' w T cv iv rs:=⟨h.rws.lower hB,h.len,h.got⟩
theorem GridT.fr {B':Nat} {ts:List TypeId} (h:GridT B w T cv iv rs) (hf:Rw.Fr B' ts w w') (h1:55∉ts) (h2:3∉ts) (h3:57∉ts) (h4:21∉ts):GridT B w' T cv iv rs:=⟨h.rws.fr hf h1 h2 h3 h4,h.len,h.got⟩
theorem GridT.one (h:GridT B w T cv iv rs):(Ak0 cv iv (gridG T)).all (·.oneCell')=true:=by
 obtain⟨a,c,rfl,_⟩:=Ab3 h.rws.rows
 obtain⟨a2,c2,rfl,_⟩:=h.rws.ids.shape
 simp[Ak0,gridG,Value.oneCell']
theorem gridA_info (cv iv:Value) (T:Ter):(Tryz.prog.info? 53).map (·.size)=some (Ak0 cv iv (gridG T)).size:=by kernel_rfl
theorem tgrid_any (h:TV Z w d t T) (ok:Ok T):Calls Tryz.prog 32 #[.pointer (some ⟨d,0,none⟩)] w (Bm0 w T):=by
 have hbn:=Aa1 w (.cells #[.slice none 0 0,.slice none 0 0,.int .i64 0,.int .i64 0,.bool false,.bool false,.bool false,.int .i64 0,.int .i64 0,.int .u32 0,.int .u32 0,.int .u16 0] 53)
 have hbx:=Block.made w 53 #[.slice none 0 0,.slice none 0 0,.int .i64 0,.int .i64 0,.bool false,.bool false,.bool false,.int .i64 0,.int .i64 0,.int .u32 0,.int .u32 0,.int .u16 0]
 have hlt:=hbx.lt
 replace h:=h.below hbn
 generalize hw0:w.alloc (.cells #[.slice none 0 0,.slice none 0 0,.int .i64 0,.int .i64 0,.bool false,.bool false,.bool false,.int .i64 0,.int .i64 0,.int .u32 0,.int .u32 0,.int .u16 0] 53)=w0 at h hbn hbx hlt
 have hm:=J0 (isMade_yes h)
 have cd:=h.blk.cell 0 (v:=.pointer (some ⟨t,0,none⟩)) rfl
 obtain⟨P,hT⟩:=h.tm
 have hg:=J0 (grid_any hT ok)
 have hbx1:=J0 (fun w1 (hb:Below w0.heap.size w0 w1)=>(Block.only hbx (Only.of_below hb []) (by simp):Block w1 w.heap.size 53 _))
 clear h hT ok
 go_enter Tryz.func32,Tryz.ntmps32
 go_wp2_with (first
  |(go_at_call 49;(with_reducible refine(hm.out).mono ?_);rintro e w1 ⟨rfl,rfl⟩)
  |(go_at_call 53;(with_reducible refine(hg.out).mono ?_);rintro e w1 ⟨cv,iv,rs,rfl,hG,hb1⟩);have hbx2:=hbx1.out _ hb1;have hone:=hG.one;have hinf:=gridA_info cv iv T
  |(with_reducible refine J8 2 ?_;go_must (refine Aa3 rfl _ (.tmp 2) (.tmp 11) rfl hbx2 (Ak0 cv iv (gridG T)) rfl rfl hinf (Bj6 hinf) hone ?_);intro w8 hb8 ho8))
 have hfr:Rw.Fr 0 [53] w1 w8:=Rw.Fr.of_only ho8 fun k hk _=>by
  obtain rfl:k=w.heap.size:=by simpa using hk
  exact⟨Nat.zero_le _,_,by simp,Block.typ hbx2⟩
 have hb2:Below w.heap.size w w1:=Aa0 hbn hb1
 exact bodyPost_ret (results_cell_row rfl _ _ _ _ _ _ _ rfl hb8 Tryz.underlying53 rfl hinf) rfl ⟨cv,iv,rs,rfl,(hG.lower (by omega)).fr hfr (by decide) (by decide) (by decide) (by decide),hb2.trans (ho8.below hb2.size fun k hk=>by obtain rfl:k=w.heap.size:=(by simpa using hk);exact J5 _)⟩
theorem tback_any (h:TV Z w d t T):Calls Tryz.prog 40 #[.pointer (some ⟨d,0,none⟩)] w (Bl8 w T.R):=by
 have hm:=J0 (isMade_yes h)
 have cd:=h.blk.cell 0 (v:=.pointer (some ⟨t,0,none⟩)) rfl
 obtain⟨P,hT⟩:=h.tm
 have hg:=J0 (back_any hT)
 generalize T.R=R at hg |-
 clear h hT
 go_enter Tryz.func40,Tryz.ntmps40
 go_wp2_with (first
  |(go_at_call 49;(with_reducible refine(hm.out).mono ?_);rintro e w1 ⟨rfl,rfl⟩)
  |(go_at_call 61;(with_reducible refine(hg.out).mono ?_);rintro e w1 ⟨v,hs,rfl,hB,hL,hb1⟩))
 have hres:Bl8 w R (.returned v) w1:=⟨v,hs,rfl,hB,hL,hb1⟩
 obtain⟨av,cvp,rfl,_⟩:=Ab3 hB.rows
 replace hres:=J0 hres
 clear hB hL
 go_wp2
 go_ret
 exact hres.out
end
end Go.Proofs.YtecnpoigegiooaaGreatDoor.Emu
namespace Go.Proofs.YtecnpoigegiooaaGreatDoor.Rw
open Go RowKit Com
structure SameSt (w wr:World) (C C':Array Value) (ao ao':Option Addr) (m:List Int):Prop where
 b1:Block wr w.heap.size 57 C
 b2:Block wr (w.heap.size+1) 57 C'
 n1:Nums wr w.heap.size .i32 ao m
 n2:Nums wr w.heap.size .i32 ao' m
 below:Below w.heap.size w wr
theorem SameSt.drawn {w wr:World} {C C':Array Value} {ao ao':Option Addr} {m:List Int} (h:SameSt w wr C C' ao ao' m) (q:Nat):SameSt w (wr.drewN q) C C' ao ao' m:=by
 have ho:=Only.drewN [] wr q
 exact⟨h.b1.only ho (by simp),h.b2.only ho (by simp),h.n1.only ho h.below.size (by simp),h.n2.only ho h.below.size (by simp),h.below.trans (ho.below h.below.size (by simp))⟩
theorem SameSt.start {w:World} {C C':Array Value} {ao ao':Option Addr} {m:List Int} (h1:Nums w w.heap.size .i32 ao m) (h2:Nums w w.heap.size .i32 ao' m):SameSt w ((w.alloc (.cells C 57)).alloc (.cells C' 57)) C C' ao ao' m:=by
 refine⟨(Block.made w _ _).alloc _,?_,(h1.alloc (J5 _) _).alloc (by simp) _,(h2.alloc (J5 _) _).alloc (by simp) _,((Below.refl _ _).alloc (J5 _) _).alloc (by simp) _⟩
 have:=Block.made (w.alloc (.cells C 57)) 57 C'
 simpa using this
theorem samecell_any {B B':Nat} (c:Cel) (v v':Value) (w:World) (h:Own w B 21 .i32 v c.m) (h':Own w B' 21 .i32 v' c.m) (hm:c.m.length<=4):Calls Tryz.prog 62 #[.agg (apiC c v).toArray,.agg (apiC c v').toArray] w fun e w'=>e=.returned (.bool true)/\Below w.heap.size w w':=by
 obtain⟨ao,cp,rfl,hc1,hc2,hnums⟩:=h.shape
 obtain⟨ao',cp',rfl,hc1',hc2',hnums'⟩:=h'.shape
 obtain⟨r,m,wd,⟨af,ab,ag⟩⟩:=c
 simp only at hm hnums hnums' hc1 hc1' |-
 have hC:∀ao cp,(apiC ⟨r,m,wd,⟨af,ab,ag⟩⟩ (.slice ao m.length cp)).toArray=#[.int .i32 r,.slice ao m.length cp,.int .u8 wd,.int .u32 af,.int .u32 ab,.int .u16 ag]:=fun _ _=>rfl
 rw[hC,hC]
 clear hC h h'
 obtain⟨n,hn⟩:∃n,n=m.length:=⟨_,rfl⟩
 rw[<- hn] at hm hc1 hc1' |-
 have hst:=J0 (SameSt.start (C:=#[.int .i32 r,.slice ao n cp,.int .u8 wd,.int .u32 af,.int .u32 ab,.int .u16 ag]) (C':=#[.int .i32 r,.slice ao' n cp',.int .u8 wd,.int .u32 af,.int .u32 ab,.int .u16 ag]) hnums hnums')
 replace hn:=J0 hn
 clear hnums hnums'
 go_enter Tryz.func62,Tryz.ntmps62
 go_wp2
 go_loopw [5] (fun i wr=>∃k:Nat,k<=n/\i=.int .i64 k/\Hid (SameSt w wr #[.int .i32 r,.slice ao n cp,.int .u8 wd,.int .u32 af,.int .u32 ab,.int .u16 ag] #[.int .i32 r,.slice ao' n cp',.int .u8 wd,.int .u32 af,.int .u32 ab,.int .u16 ag] ao ao' m)) (fun i _=>n - (intOf i).toNat)
 case atStart=>exact⟨0,Nat.zero_le _,rfl,hst⟩
 case round =>
  obtain⟨k,hk,rfl,hR⟩:=hrel
  have hR:=hR.out
  have c1:=hR.b1.cell 1 rfl
  have c2:=hR.b2.cell 1 rfl
  by_cases hlt:k<n
  ·have hkm:k<m.length:=by rw[<- hn.out];exact hlt
   obtain⟨ad,rfl,_,hx⟩:=hR.n1.at hkm
   obtain⟨ad',rfl,_,hx'⟩:=hR.n2.at hkm
   generalize m[k]=y at hx hx'
   have hnx:=J0 (fun q=>hR.drawn q)
   have hki:(k:Int)<(n:Int):=by omega
   clear hR hst
   go_wp2
   go_region
   go_wp2
   go_roundw
   case rel=>exact⟨k+1,by omega,by go_num,J0 (hnx.out 1)⟩
   case measure=>simp[intOf];omega
  ·obtain rfl:k=n:=by omega
   have hb:=J0 hR.below
   clear hR hst
   go_wp2
   go_ret
   exact⟨rfl,hb.out⟩
theorem api6 {B:Nat} {w:World} {g n cap:Nat} {ps:List (Cel×Value)} (h:Api B w (.slice (some ⟨g,0,none⟩) n cap) ps) {i:Nat} (hi:i<ps.length):w.cell? ⟨g,i*6,none⟩=some (.int .i32 ps[i].1.r)/\w.cell? ⟨g,i*6+1,none⟩=some ps[i].2/\w.cell? ⟨g,i*6+2,none⟩=some (.int .u8 ps[i].1.wide)/\w.cell? ⟨g,i*6+3,none⟩=some (.int .u32 ps[i].1.a.f)/\w.cell? ⟨g,i*6+4,none⟩=some (.int .u32 ps[i].1.a.b)/\w.cell? ⟨g,i*6+5,none⟩=some (.int .u16 ps[i].1.a.g):=by
 have hl:=h.load hi
 have e:=fun j v hj=>by have:=hl j v hj;rw[Addr.add_lit] at this;exact this
 exact⟨e 0 _ rfl,e 1 _ rfl,e 2 _ rfl,e 3 _ rfl,e 4 _ rfl,e 5 _ rfl⟩
theorem same_any {B B':Nat} {w:World} {g g' n cap cap':Nat} {ps ps':List (Cel×Value)} (hA:Api B w (.slice (some ⟨g,0,none⟩) n cap) ps) (hA':Api B' w (.slice (some ⟨g',0,none⟩) n cap') ps') (hl:ps.length=n) (hc:ps'.map (·.1)=ps.map (·.1)) (h5:n<=512) (h4:∀p∈ps,p.1.m.length<=4) :
  Calls Tryz.prog 41 #[.slice (some ⟨g,0,none⟩) n cap,.slice (some ⟨g',0,none⟩) n cap'] w fun e w'=>e=.returned (.bool true)/\Below w.heap.size w w':=by
 have hl':ps'.length=n:=by have:=congrArg List.length hc;simpa[hl] using this
 replace hA:=J0 hA
 replace hA':=J0 hA'
 replace hc:=J0 hc
 replace h4:=J0 h4
 go_enter Tryz.func41,Tryz.ntmps41
 go_wp2
 go_loopw [5] (fun i wr=>∃k:Nat,k<=n/\i=.int .i64 k/\Hid (Below w.heap.size w wr)) (fun i _=>n - (intOf i).toNat)
 case atStart=>exact⟨0,Nat.zero_le _,rfl,J0 (Below.refl _ _)⟩
 case round =>
  obtain⟨k,hk,rfl,hR⟩:=hrel
  have hB:=hR.out
  by_cases hlt:k<n
  ·have hkp:k<ps.length:=by omega
   have hkp':k<ps'.length:=by omega
   have he:ps'[k].1=ps[k].1:=by
    have:=congrArg (fun l=>l[k]?) hc.out
    simpa[hkp,hkp'] using this
   have hS:=fun w' (hb:Below wr.heap.size wr w')=>And.intro (api6 ((hA.out.below hB).below hb) hkp) (api6 ((hA'.out.below hB).below hb) hkp')
   have hcall:=fun w' (hb:Below wr.heap.size wr w') (h'':Own w' B' 21 .i32 ps'[k].2 ps[k].1.m)=>samecell_any ps[k].1 ps[k].2 ps'[k].2 w' (((hA.out.below hB).below hb).comb _ (List.getElem_mem hkp)) h'' (h4.out _ (List.getElem_mem hkp))
   have ho:=fun w' (hb:Below wr.heap.size wr w')=>((hA'.out.below hB).below hb).comb _ (List.getElem_mem hkp')
   rw[he] at ho
   have hcall2:=fun w' (hb:Below wr.heap.size wr w')=>hcall w' hb (ho w' hb)
   simp only[he] at hS
   have hv1:=Own.one (ho wr (Below.refl _ _))
   have hv2:=Own.one ((hA.out.below hB).comb _ (List.getElem_mem hkp))
   clear hcall ho he
   generalize ps[k]=q at hS hcall2 hv2
   generalize ps'[k].2=v' at hS hcall2 hv1
   obtain⟨⟨r,m,wd,⟨af,ab,ag⟩⟩,v⟩:=q
   have hC:∀v,(apiC ⟨r,m,wd,⟨af,ab,ag⟩⟩ v).toArray=#[.int .i32 r,v,.int .u8 wd,.int .u32 af,.int .u32 ab,.int .u16 ag]:=fun _=>rfl
   simp only[hC] at hS hcall2 hv2
   clear hC
   have hnx:=J0 (fun w' (hb:Below wr.heap.size wr w')=>Aa0 hB hb)
   replace hS:=J0 hS
   replace hcall2:=J0 hcall2
   replace hkp:=J0 hkp
   replace hkp':=J0 hkp'
   have hki:(k:Int)<(n:Int):=by omega
   have hdr:Below wr.heap.size wr wr.drew:=Aa4 (a:=wr) (b:=wr) (Below.refl wr.heap.size wr) 1
   replace hdr:=J0 hdr
   clear hR hB
   go_wp2
   go_region_held3 (fun w'=>(w'.cell? ⟨g,k*6,none⟩=some (.int .i32 r)/\w'.cell? ⟨g,k*6+1,none⟩=some v/\w'.cell? ⟨g,k*6+2,none⟩=some (.int .u8 wd)/\w'.cell? ⟨g,k*6+3,none⟩=some (.int .u32 af)/\w'.cell? ⟨g,k*6+4,none⟩=some (.int .u32 ab)/\w'.cell? ⟨g,k*6+5,none⟩=some (.int .u16 ag))/\w'.cell? ⟨g',k*6,none⟩=some (.int .i32 r)/\w'.cell? ⟨g',k*6+1,none⟩=some v'/\w'.cell? ⟨g',k*6+2,none⟩=some (.int .u8 wd)/\w'.cell? ⟨g',k*6+3,none⟩=some (.int .u32 af)/\w'.cell? ⟨g',k*6+4,none⟩=some (.int .u32 ab)/\w'.cell? ⟨g',k*6+5,none⟩=some (.int .u16 ag))
    (first|exact hS.out _ (Below.refl _ _)|exact hS.out _ hdr.out|exact hS.out _ (Aa0 hdr.out hb6)|go_keep)
    (first
     |(go_at_call 62;with_reducible refine(hcall2.out _ ?_).mono ?_;exact hdr.out;rintro e w6 ⟨rfl,hb6⟩))
   have hn6:=J0 (hnx.out _ (Aa0 hdr.out hb6))
   clear hb6
   go_wp2
   go_roundw
   case rel=>exact⟨k+1,by omega,by go_num,hn6⟩
   case measure=>simp[intOf];omega
  ·obtain rfl:k=n:=by omega
   have hb:=J0 hB
   clear hR hB
   go_wp2
   go_ret
   exact⟨rfl,hb.out⟩
