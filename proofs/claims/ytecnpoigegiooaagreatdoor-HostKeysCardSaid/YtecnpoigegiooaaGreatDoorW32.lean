/- Part 32 of HostKeys. -/
import Derived.Test.YtecnpoigegiooaaGreatDoorW31
set_option maxHeartbeats 16000000
set_option maxRecDepth 100000
namespace Go.Proofs.YtecnpoigegiooaaGreatDoor.Emu
open Go.Proofs.Tryz
open Go RowKit Com Rw Lns Scn
def Aoz (T:Ter) (s:Nat) (a18 a19 a20 jv rv:Value):Array Value:=#[.bool T.m.a0,.bool T.m.a1,.bool T.m.a2,.bool T.m.a3,.bool T.m.a4,.bool T.m.a5,.bool T.m.a6,.bool T.m.a7,
 .int .i64 T.c.row,.int .i64 T.c.col,.bool T.c.F6,.int .u32 T.p.a.f,.int .u32 T.p.a.b,.int .u16 T.p.a.g,.int .u8 T.p.g0,.int .u8 T.p.g1,.int .i64 (whI T.p.wh),
 .pointer (some ⟨s,0,none⟩),a18,a19,a20,.int .u64 T.C5,
 .int .u8 T.last.k,.int .u64 T.last.ix,.int .i64 T.last.line,.int .i64 T.last.col,.bool T.last.wide,.int .i32 T.last.r,.bool T.last.bl,.bool T.last.la,.bool T.last.fr,.bool T.last.wr,jv,rv]
structure N5(Z:Zn)(w:World)(t:Nat)(T:Ter)(s:Nat)(jv rv a18 a19 a20:Value):Prop where
 blk:Block w t 102 (Aoz T s a18 a19 a20 jv rv)
 jr:w.ownsRow 0 73 10 jv T.jr.length (fl evL T.jr)
 rp:Kys.Row w 0 5 rv T.rp
 zt:Z t
 zj:∀g,jv.ownBlock=some g->Z g
 zr:∀g,rv.ownBlock=some g->Z g
 up:∀k,w.heap.size<=k->Z k
 low:∀k,k<6->¬Z k
 tbl:Tbl w
structure Sto(Z:Zn)(w:World)(s nx most:Nat)(sv:Value)(R:List En):Prop where
 st:SX 0 w s nx most sv R
 z:Z s/\(∀g,sv.ownBlock=some g->Z g)/\(∀e∈R,Z e.d/\Z e.g)/\∀k,w.heap.size<=k->Z k
 d:(R.map En.d).Nodup
 g:(R.map En.g).Nodup
section
variable {Z Z1:Zn}{w w':World}{t x s:Nat}{S:Scr}{T:Ter}{P:Pt}{v jv rv a18 a19 a20:Value}{l:List Int}
theorem TMx.bare(h:TMx Z w t T P):N5 Z w t T P.s P.jv P.rv (.pointer (some ⟨P.hm,0,none⟩)) (Aiv T.other P.ho) (.pointer (some ⟨P.tb,0,none⟩)):=⟨h.blk,h.jr,h.rp,h.zt,h.zj,h.zr,h.up,h.low,h.tbl⟩
theorem Awn{x s nx most cols top bot n:Nat}{kp:Bool}{sv lv:Value}{xs:List Value}{L R:List En}(h:E2 Z w x s nx most kp cols sv lv top bot n xs L R):Sto Z w s nx most sv R :=
 ⟨h.ln.st,⟨h.ln.lo.s,h.ln.lo.p,h.ln.lo.r,h.ln.lo.up⟩,Afr h.dd,Afr h.gg⟩
theorem TMx.sto(h:TMx Z w t T P):∃sv R,Sto Z w P.s T.nx T.most sv R:=by
 have hs:=h.scr
 unfold Y0 at hs
 split at hs
 ·obtain⟨sv,lv,L,R,h1,_,_⟩:=hs
  exact⟨sv,R,Awn h1⟩
 ·obtain⟨sv,R,l1,L1,l2,L2,h1,_⟩:=hs
  exact⟨sv,R,Awn h1⟩
theorem N5.fr{B:Zn}{ts:List TypeId}(h:N5 Z w t T s jv rv a18 a19 a20)(hf:Scn.Fr B ts w w')(hn:102∉ts/\73∉ts/\5∉ts)(N1:∀k,k<6->¬B k):N5 Z w' t T s jv rv a18 a19 a20:=by
 have E8:∀ {k:Nat} {ty:TypeId},Typ w k ty->ty∉ts->w'.heap[k]?=w.heap[k]?:=fun hk hty=>hf.block _ (Aax hk) (.inr fun t' ht' hT=>hty (by rw[Typ.inj hk hT];exact ht'))
 exact⟨(E8 (Block.typ h.blk) hn.1).trans h.blk,V4 h.jr (fun g hg=>E8 (M4 h.jr g hg) hn.2.1),W8 h.rp (fun g hg=>E8 (R0 h.rp g hg) hn.2.2),h.zt,h.zj,h.zr,fun k hk=>h.up k (Nat.le_trans hf.size hk),h.low,h.tbl.fr hf N1⟩
theorem N5.below(h:N5 Z w t T s jv rv a18 a19 a20)(hb:Below w.heap.size w w'):N5 Z w' t T s jv rv a18 a19 a20:=h.fr (B:=fun _=>False) (ts:=[]) (Scn.Fr.A1 hb) (by simp) (by simp)
theorem N5.G9{T':Ter}{b18 b19 b20:Value}(h:N5 Z w t T s jv rv a18 a19 a20)(ho:A0 [t] w w')(hb:Block w' t 102 (Aoz T' s b18 b19 b20 jv rv))(hj:T'.jr=T.jr)(hr:T'.rp=T.rp):N5 Z w' t T' s jv rv b18 b19 b20/\Scn.Fr Z [102] w w':=by
 have hf:Scn.Fr Z [102] w w':=Scn.Fr.I9 ho fun k hk _=>by
  obtain rfl:k=t:=by simpa using hk
  exact⟨h.zt,_,by simp,Block.typ h.blk⟩
 have E8:∀ {k:Nat} {ty:TypeId},Typ w k ty->ty≠102->w'.heap[k]?=w.heap[k]?:=fun hk hty=>ho.block _ (Aax hk) (V0 hk (Block.typ h.blk) hty)
 exact⟨⟨hb,by rw[hj];exact V4 h.jr (fun g hg=>E8 (M4 h.jr g hg) (by decide)),by rw[hr];exact W8 h.rp (fun g hg=>E8 (R0 h.rp g hg) (by decide)),h.zt,h.zj,h.zr,fun k hk=>h.up k (Nat.le_trans hf.size hk),h.low,h.tbl.fr hf h.low⟩,hf⟩
theorem N5.cells(h:N5 Z w t T s jv rv a18 a19 a20):(∀i,w.frozen? ⟨t,i,none⟩=false)/\w.cell? ⟨t,17,none⟩=some (.pointer (some ⟨s,0,none⟩))/\w.cell? ⟨t,18,none⟩=some a18/\w.cell? ⟨t,19,none⟩=some a19/\w.cell? ⟨t,20,none⟩=some a20 :=
 ⟨h.blk.free,h.blk.cell 17 rfl,h.blk.cell 18 rfl,h.blk.cell 19 rfl,h.blk.cell 20 rfl⟩
theorem N5.Csb(h:N5 Z w t T s jv rv a18 a19 a20):w.cell? ⟨t,0,none⟩=some (.bool T.m.a0)/\w.cell? ⟨t,1,none⟩=some (.bool T.m.a1)/\w.cell? ⟨t,2,none⟩=some (.bool T.m.a2)/\w.cell? ⟨t,3,none⟩=some (.bool T.m.a3)/\w.cell? ⟨t,4,none⟩=some (.bool T.m.a4)/\w.cell? ⟨t,5,none⟩=some (.bool T.m.a5)/\w.cell? ⟨t,6,none⟩=some (.bool T.m.a6)/\w.cell? ⟨t,7,none⟩=some (.bool T.m.a7) /\
  w.cell? ⟨t,8,none⟩=some (.int .i64 T.c.row)/\w.cell? ⟨t,9,none⟩=some (.int .i64 T.c.col)/\w.cell? ⟨t,10,none⟩=some (.bool T.c.F6)/\w.cell? ⟨t,11,none⟩=some (.int .u32 T.p.a.f)/\w.cell? ⟨t,12,none⟩=some (.int .u32 T.p.a.b)/\w.cell? ⟨t,13,none⟩=some (.int .u16 T.p.a.g)/\w.cell? ⟨t,14,none⟩=some (.int .u8 T.p.g0)/\w.cell? ⟨t,15,none⟩=some (.int .u8 T.p.g1)/\w.cell? ⟨t,16,none⟩=some (.int .i64 (whI T.p.wh)) :=
 ⟨h.blk.cell 0 rfl,h.blk.cell 1 rfl,h.blk.cell 2 rfl,h.blk.cell 3 rfl,h.blk.cell 4 rfl,h.blk.cell 5 rfl,h.blk.cell 6 rfl,h.blk.cell 7 rfl,h.blk.cell 8 rfl,h.blk.cell 9 rfl,h.blk.cell 10 rfl,h.blk.cell 11 rfl,h.blk.cell 12 rfl,h.blk.cell 13 rfl,h.blk.cell 14 rfl,h.blk.cell 15 rfl,h.blk.cell 16 rfl⟩
theorem Bme(nx most rows cols:Nat)(R:List Ln):({ W4 nx most rows cols true R with R:=[] }:Scr)=(Anj nx rows cols).scr (nx+rows) most true []:=by
 have hL:=Bck nx most rows cols true R
 have hb:(W4 nx most rows cols true R).bot=(W4 nx most rows cols true R).L.length-1:=rfl
 rw[hL,Agy]at hb
 show Scr.mk _ _ _ _ _ _ _ _=_
 rw[hL,hb]
 rfl
def Agk(w:World)(t:Nat):World:=(((((((((((((((((w.setCell ⟨t,0,none⟩ (.bool false)).setCell ⟨t,1,none⟩ (.bool false)).setCell ⟨t,2,none⟩ (.bool false)).setCell ⟨t,3,none⟩ (.bool false)).setCell ⟨t,4,none⟩ (.bool true)).setCell ⟨t,5,none⟩ (.bool true)).setCell ⟨t,6,none⟩ (.bool false)).setCell ⟨t,7,none⟩ (.bool false)).setCell ⟨t,8,none⟩ (.int .i64 0)).setCell ⟨t,9,none⟩ (.int .i64 0)).setCell ⟨t,10,none⟩ (.bool false)).setCell ⟨t,11,none⟩ (.int .u32 0)).setCell ⟨t,12,none⟩ (.int .u32 0)).setCell ⟨t,13,none⟩ (.int .u16 0)).setCell ⟨t,14,none⟩ (.int .u8 0)).setCell ⟨t,15,none⟩ (.int .u8 0)).setCell ⟨t,16,none⟩ (.int .i64 0))
theorem N5.first(h:N5 Z w t T s jv rv a18 a19 a20):N5 Z (Agk w t) t { T with m:=Mds.start,c:=Acd,p:=Aoy } s jv rv a18 a19 a20/\Scn.Fr Z [102] w (Agk w t):=by
 have e:((((((((((((((((((Aoz T s a18 a19 a20 jv rv).setIfInBounds 0 (.bool false)).setIfInBounds 1 (.bool false)).setIfInBounds 2 (.bool false)).setIfInBounds 3 (.bool false)).setIfInBounds 4 (.bool true)).setIfInBounds 5 (.bool true)).setIfInBounds 6 (.bool false)).setIfInBounds 7 (.bool false)).setIfInBounds 8 (.int .i64 0)).setIfInBounds 9 (.int .i64 0)).setIfInBounds 10 (.bool false)).setIfInBounds 11 (.int .u32 0)).setIfInBounds 12 (.int .u32 0)).setIfInBounds 13 (.int .u16 0)).setIfInBounds 14 (.int .u8 0)).setIfInBounds 15 (.int .u8 0)).setIfInBounds 16 (.int .i64 0))=Aoz { T with m:=Mds.start,c:=Acd,p:=Aoy } s a18 a19 a20 jv rv:=by kernel_rfl
 have hb:Block (Agk w t) t 102 ((((((((((((((((((Aoz T s a18 a19 a20 jv rv).setIfInBounds 0 (.bool false)).setIfInBounds 1 (.bool false)).setIfInBounds 2 (.bool false)).setIfInBounds 3 (.bool false)).setIfInBounds 4 (.bool true)).setIfInBounds 5 (.bool true)).setIfInBounds 6 (.bool false)).setIfInBounds 7 (.bool false)).setIfInBounds 8 (.int .i64 0)).setIfInBounds 9 (.int .i64 0)).setIfInBounds 10 (.bool false)).setIfInBounds 11 (.int .u32 0)).setIfInBounds 12 (.int .u32 0)).setIfInBounds 13 (.int .u16 0)).setIfInBounds 14 (.int .u8 0)).setIfInBounds 15 (.int .u8 0)).setIfInBounds 16 (.int .i64 0)):=(((((((((((((((((h.blk.set 0 _).set 1 _).set 2 _).set 3 _).set 4 _).set 5 _).set 6 _).set 7 _).set 8 _).set 9 _).set 10 _).set 11 _).set 12 _).set 13 _).set 14 _).set 15 _).set 16 _)
 rw[e]at hb
 exact h.G9 (w':=Agk w t) (((((((((((((((((A0.setCell w ⟨t,0,none⟩ _).trans (A0.setCell _ ⟨t,1,none⟩ _)).trans (A0.setCell _ ⟨t,2,none⟩ _)).trans (A0.setCell _ ⟨t,3,none⟩ _)).trans (A0.setCell _ ⟨t,4,none⟩ _)).trans (A0.setCell _ ⟨t,5,none⟩ _)).trans (A0.setCell _ ⟨t,6,none⟩ _)).trans (A0.setCell _ ⟨t,7,none⟩ _)).trans (A0.setCell _ ⟨t,8,none⟩ _)).trans (A0.setCell _ ⟨t,9,none⟩ _)).trans (A0.setCell _ ⟨t,10,none⟩ _)).trans (A0.setCell _ ⟨t,11,none⟩ _)).trans (A0.setCell _ ⟨t,12,none⟩ _)).trans (A0.setCell _ ⟨t,13,none⟩ _)).trans (A0.setCell _ ⟨t,14,none⟩ _)).trans (A0.setCell _ ⟨t,15,none⟩ _)).trans (A0.setCell _ ⟨t,16,none⟩ _)) hb rfl rfl
theorem N5.Cst(h:N5 Z w t T s jv rv a18 a19 a20)(b18 b19:Value):N5 Z ((w.setCell ⟨t,18,none⟩ b18).setCell ⟨t,19,none⟩ b19) t T s jv rv b18 b19 a20/\Scn.Fr Z [102] w ((w.setCell ⟨t,18,none⟩ b18).setCell ⟨t,19,none⟩ b19) :=
 h.G9 (T':=T) ((A0.setCell w ⟨t,18,none⟩ _).trans (A0.setCell _ ⟨t,19,none⟩ _)) ((h.blk.set 18 _).set 19 _) rfl rfl
theorem N5.Csu(h:N5 Z w t T s jv rv a18 a19 a20)(b20:Value):N5 Z (w.setCell ⟨t,20,none⟩ b20) t T s jv rv a18 a19 b20/\Scn.Fr Z [102] w (w.setCell ⟨t,20,none⟩ b20) :=
 h.G9 (T':=T) (A0.setCell w ⟨t,20,none⟩ _) (h.blk.set 20 _) rfl rfl
structure Abz(Z:Zn)(w:World)(t:Nat)(T:Ter)(s x hm:Nat)(S:Scr)(jv rv a20:Value):Prop where
 bare:N5 Z w t T s jv rv (.pointer (some ⟨hm,0,none⟩)) (.pointer none) a20
 sc:SC Z w x s S
 main:Block w hm 143 (shA x Ate)
 zm:Z hm
theorem Abz.fr{B:Zn}{ts:List TypeId}{hm:Nat}(h:Abz Z w t T s x hm S jv rv a20)(hf:Scn.Fr B ts w w')(hn:102∉ts/\73∉ts/\5∉ts)(hs:143∉ts)(hp:P0 ts)(N1:∀k,k<6->¬B k):Abz Z w' t T s x hm S jv rv a20 :=
 ⟨h.bare.fr hf hn N1,h.sc.fr hf hp,Scn.Block.fr h.main hf (.inl hs),h.zm⟩
theorem Abz.below{hm:Nat}(h:Abz Z w t T s x hm S jv rv a20)(hb:Below w.heap.size w w'):Abz Z w' t T s x hm S jv rv a20:=h.fr (B:=fun _=>False) (ts:=[]) (Scn.Fr.A1 hb) (by simp) (by simp) (by simp[P0]) (by simp)
theorem Bla(h:N5 Z w t T s jv rv a18 a19 a20)(hs:SC Z w x s S) :
  Abz Z (((w.alloc (.cells #[.pointer (some ⟨x,0,none⟩),.int .i64 0,.int .i64 0,.bool false,.int .u32 0,.int .u32 0,.int .u16 0,.int .u8 0,.int .u8 0,.int .i64 0,.bool false] 143)).setCell ⟨t,18,none⟩ (.pointer (some ⟨w.heap.size,0,none⟩))).setCell ⟨t,19,none⟩ (.pointer none)) t T s x w.heap.size S jv rv a20/\Scn.Fr Z TT w (((w.alloc (.cells #[.pointer (some ⟨x,0,none⟩),.int .i64 0,.int .i64 0,.bool false,.int .u32 0,.int .u32 0,.int .u16 0,.int .u8 0,.int .u8 0,.int .i64 0,.bool false] 143)).setCell ⟨t,18,none⟩ (.pointer (some ⟨w.heap.size,0,none⟩))).setCell ⟨t,19,none⟩ (.pointer none)):=by
 have hb:=A3 w (.cells #[.pointer (some ⟨x,0,none⟩),.int .i64 0,.int .i64 0,.bool false,.int .u32 0,.int .u32 0,.int .u16 0,.int .u8 0,.int .u8 0,.int .i64 0,.bool false] 143)
 obtain⟨h1,hf1⟩:=(h.below hb).Cst (.pointer (some ⟨w.heap.size,0,none⟩)) (.pointer none)
 have hs0:=hs.fr (B':=fun _=>True) (ts:=[]) (Scn.Fr.A1 hb) (by simp[P0])
 have hs1:=hs0.fr hf1 (by unfold P0;decide)
 have hm:=Block.made w 143 #[.pointer (some ⟨x,0,none⟩),.int .i64 0,.int .i64 0,.bool false,.int .u32 0,.int .u32 0,.int .u16 0,.int .u8 0,.int .u8 0,.int .i64 0,.bool false]
 exact⟨⟨h1,hs1,Scn.Block.fr hm hf1 (.inl (by decide)),h.up _ (J5 _)⟩,(Scn.Fr.A1 hb).trans (hf1.mono (by simp[TT]))⟩
theorem Cja{hm tb rows cols:Nat}{R:List Ln}(h:Abz Z w t T s x hm { W4 T.nx T.most rows cols true R with R:=[] } jv rv (.pointer (some ⟨tb,0,none⟩)))(ht:Tbs.G2 w tb cols (Tbs.Aaa 0 cols))(hz:Z tb):TM Z (Agk w t) t (Y6 T rows cols)/\Scn.Fr Z TT w (Agk w t):=by
 obtain⟨h1,hf⟩:=h.bare.first
 have hsc:=h.sc.fr hf (by unfold P0;decide)
 have Ant:=Scn.Block.fr h.main hf (.inl (by decide))
 have Aam:Tbs.G2 (Agk w t) tb cols (Tbs.Aaa 0 cols):=Scn.Block.fr ht hf (.inl (by decide))
 rw[Bme]at hsc
 exact⟨⟨⟨s,x,hm,0,0,tb,jv,rv⟩,⟨h1.blk,Ant,fun o ho=>(by cases ho),hsc,Aam,h1.jr,h1.rp,h1.zt,h.zm,hz,h1.zj,h1.zr,h1.up,h1.low,h1.tbl⟩⟩,hf.mono (by simp[TT])⟩
def Bot(Z:Zn)(w:World)(t:Nat)(T:Ter)(e:Ending)(w':World):Prop:=e=.returned (.int .i64 0)/\TM Z w' t T/\Scn.Fr Z TT w w'
theorem Ahb{sv:Value}{R:List En}(h:N5 Z w t T s jv rv a18 a19 a20)(hs:Sto Z w s T.nx T.most sv R)(rows cols:Nat)(hr1:1<=rows)(hr5:rows<=512)(hc1:1<=cols)(hc5:cols<=512)(hnx:T.nx+512<=10000000000) :
  Calls prog 35 #[.pointer (some ⟨t,0,none⟩),.int .i64 rows,.int .i64 cols] w (Bot Z w t (Y6 T rows cols)):=by
 have Adh:=J0 (Bkj hs.st hs.z hs.d hs.g rows cols true hr1 hr5 hc1 hc5 hnx)
 obtain⟨_,c17,_,_,_⟩:=h.cells
 have N1:=h.low
 have hup:=h.up
 have h18:Hid (∀w1,Scn.Fr Z PT w w1->∀o,(w1.alloc o).frozen? ⟨t,18,none⟩=false/\(w1.alloc o).frozen? ⟨t,19,none⟩=false/\(w1.alloc o).cell? ⟨t,18,none⟩=some a18/\(w1.alloc o).cell? ⟨t,19,none⟩=some a19/\(w1.alloc o).cell? ⟨t,17,none⟩=some (.pointer (some ⟨s,0,none⟩))):=J0 fun w1 hf o=>by
  obtain⟨q1,q4,q2,q3,_⟩:=((h.fr hf (by decide) h.low).below (A3 w1 o)).cells
  exact⟨q1 18,q1 19,q2,q3,q4⟩
 have Y4:=J0 (fun w1 (hf:Scn.Fr Z PT w w1) (h1:SC Z w1 w.heap.size s (W4 T.nx T.most rows cols true (vw R)))=>(⟨(Bla (h.fr hf (by decide) h.low) h1).1,(hf.mono Aro).trans (Bla (h.fr hf (by decide) h.low) h1).2⟩:Abz Z _ t T s w.heap.size w1.heap.size _ jv rv a20/\Scn.Fr Z TT w _))
 have hcl:Hid (∀w1 hm S,Abz Z w1 t T s w.heap.size hm S jv rv a20->Calls prog 55 #[.pointer (some ⟨s,0,none⟩)] w1 fun e w'=>e=.returned (.int .i64 0)/\Abz Z w' t T s w.heap.size hm { S with R:=[] } jv rv a20/\Scn.Fr Z TT w1 w'):=J0 fun w1 hm S hB=>(Bkf hB.sc).mono fun e w' ⟨he,h1,hf⟩=>⟨he,⟨(hB.bare.fr hf (by decide) N1),h1,Scn.Block.fr hB.main hf (.inl (by decide)),hB.zm⟩,hf.mono Aro⟩
 have htn:=J0 (fun w1=>Tbs.Cph cols hc1 hc5 w1)
 have h20:Hid (∀w1 w2 hm S d,Abz Z w1 t T s w.heap.size hm S jv rv a20->Below w1.heap.size w1 w2->Tbs.G2 w2 d cols (Tbs.Aaa 0 cols)->w2.cell? ⟨t,17,none⟩=some (.pointer (some ⟨s,0,none⟩))/\w2.cell? ⟨t,20,none⟩=some a20/\w2.frozen? ⟨t,20,none⟩=false/\Abz Z (w2.setCell ⟨t,20,none⟩ (.pointer (some ⟨d,0,none⟩))) t T s w.heap.size hm S jv rv (.pointer (some ⟨d,0,none⟩))/\Tbs.G2 (w2.setCell ⟨t,20,none⟩ (.pointer (some ⟨d,0,none⟩))) d cols (Tbs.Aaa 0 cols)/\Scn.Fr Z TT w1 (w2.setCell ⟨t,20,none⟩ (.pointer (some ⟨d,0,none⟩)))):=J0 fun w1 w2 hm S d hB hb ht=>by
  have hB2:=hB.below hb
  obtain⟨q1,q2,_,_,q3⟩:=hB2.bare.cells
  obtain⟨h1,hf⟩:=hB2.bare.Csu (.pointer (some ⟨d,0,none⟩))
  exact⟨q2,q3,q1 20,⟨h1,hB2.sc.fr hf (by unfold P0;decide),Scn.Block.fr hB2.main hf (.inl (by decide)),hB2.zm⟩,Scn.Block.fr ht hf (.inl (by decide)),(Scn.Fr.A1 hb).trans (hf.mono (by simp[TT]))⟩
 have hdf:=J0 (fun w1=>Mds.Buk w1)
 change Hid (∀w1:World,Calls prog 57 #[] w1 fun e w'=>e=.returned (.agg #[.bool false,.bool false,.bool false,.bool false,.bool true,.bool true,.bool false,.bool false])/\Below w1.heap.size w1 w')at hdf
 have C3:Hid (∀w1 w2 hm tb,Abz Z w1 t T s w.heap.size hm { W4 T.nx T.most rows cols true (vw R) with R:=[] } jv rv (.pointer (some ⟨tb,0,none⟩))->Below w1.heap.size w1 w2->Tbs.G2 w1 tb cols (Tbs.Aaa 0 cols)->Z tb->((∀i,w2.frozen? ⟨t,i,none⟩=false)/\∃m c p,w2.cell? ⟨t,0,none⟩=some (.bool (Mds.Md.a0 m))/\w2.cell? ⟨t,1,none⟩=some (.bool m.a1)/\w2.cell? ⟨t,2,none⟩=some (.bool m.a2)/\w2.cell? ⟨t,3,none⟩=some (.bool m.a3)/\w2.cell? ⟨t,4,none⟩=some (.bool m.a4)/\w2.cell? ⟨t,5,none⟩=some (.bool m.a5)/\w2.cell? ⟨t,6,none⟩=some (.bool m.a6)/\w2.cell? ⟨t,7,none⟩=some (.bool m.a7) /\
   w2.cell? ⟨t,8,none⟩=some (.int .i64 (Cur.row c))/\w2.cell? ⟨t,9,none⟩=some (.int .i64 c.col)/\w2.cell? ⟨t,10,none⟩=some (.bool c.F6)/\w2.cell? ⟨t,11,none⟩=some (.int .u32 (Pen.a p).f)/\w2.cell? ⟨t,12,none⟩=some (.int .u32 p.a.b)/\w2.cell? ⟨t,13,none⟩=some (.int .u16 p.a.g)/\w2.cell? ⟨t,14,none⟩=some (.int .u8 p.g0)/\w2.cell? ⟨t,15,none⟩=some (.int .u8 p.g1)/\w2.cell? ⟨t,16,none⟩=some (.int .i64 (whI p.wh)))/\(TM Z (Agk w2 t) t (Y6 T rows cols)/\Scn.Fr Z TT w1 (Agk w2 t))):=J0 fun w1 w2 hm tb hB hb ht hz=>by
  have hB2:=hB.below hb
  have ht2:Tbs.G2 w2 tb cols (Tbs.Aaa 0 cols):=Scn.Block.fr (B:=fun _=>False) (ts:=[]) ht (Scn.Fr.A1 hb) (.inl (by simp))
  obtain⟨q1,q2⟩:=Cja hB2 ht2 hz
  exact⟨⟨hB2.bare.cells.1,T.m,T.c,T.p,hB2.bare.Csb⟩,q1,(Scn.Fr.A1 hb).trans q2⟩
 replace hup:=J0 hup
 generalize Y6 T rows cols=T1 at C3 |-
 generalize W4 T.nx T.most rows cols true (vw R)=S1 at Adh Y4 C3
 generalize Tbs.Aaa 0 cols=fr at htn h20 C3
 clear h hs hnx N1
 go_enter func35,ntmps35
 go_wp2_with (first
  |(go_at_call 54;(with_reducible refine Adh.out.mono ?_);rintro e w1 ⟨rfl,hs1,hf1⟩;have hh:=h18.out _ hf1;have f18:=fun o=>(hh o).1;have f19:=fun o=>(hh o).2.1;have k18:=fun o=>(hh o).2.2.1;have k19:=fun o=>(hh o).2.2.2.1;have k17:=fun o=>(hh o).2.2.2.2;clear hh;obtain⟨hB,hfB⟩:=Y4.out _ hf1 hs1)
  |(go_at_call 55;(with_reducible refine(hcl.out _ _ _ hB).mono ?_);rintro e w3 ⟨rfl,hB3,hf3⟩)
  |(go_at_call 56;(with_reducible refine(htn.out _).mono ?_);rintro e w4 ⟨d,rfl,htb,hb4,hd4⟩;obtain⟨e17,e20,f20,hB5,ht5,hf5⟩:=h20.out _ _ _ _ _ hB3 hb4 htb)
  |(go_at_call 57;(with_reducible refine(hdf.out _).mono ?_);rintro e w6 ⟨rfl,hb6⟩;obtain⟨⟨Z5,m6,c6,p6,d0,d1,d2,d3,d4,d5,d6,d7,d8,d9,d10,d11,d12,d13,d14,d15,d16⟩,hT,hfT⟩:=C3.out _ _ _ _ hB5 hb6 ht5 (hup.out _ (Nat.le_trans (Nat.le_trans hfB.size hf3.size) hd4));have g0:=Z5 0;have g1:=Z5 1;have g2:=Z5 2;have g3:=Z5 3;have g4:=Z5 4;have g5:=Z5 5;have g6:=Z5 6;have g7:=Z5 7;have g8:=Z5 8;have g9:=Z5 9;have g10:=Z5 10;have g11:=Z5 11;have g12:=Z5 12;have g13:=Z5 13;have g14:=Z5 14;have g15:=Z5 15;have g16:=Z5 16))
 simp only[Agk]at hT hfT
 go_ret
 exact⟨rfl,hT,((hfB.trans hf3).trans hf5).trans hfT⟩
theorem Bhs(nx rows cols most:Nat)(R:List Ln)(h1:1<=rows)(h5:rows<=512)(c1:1<=cols)(c5:cols<=512)(hn:1<=nx):Fit ((Anj nx rows cols).scr (nx+rows) most true R):=by
 have h:=Cgh (nx:=nx) (most:=most) (kp:=true) (R:=([]:List Ln)) h1 h5 c1 c5 hn
 have e:=Bme nx most rows cols ([]:List Ln)
 have hl:=congrArg Scr.L e
 have hb:=congrArg Scr.bot e
 have hc:=congrArg Scr.cols e
 have ht:=congrArg Scr.top e
 have hx:=congrArg Scr.nx e
 simp only at hl hb hc ht hx
 refine⟨?_,?_,?_,?_,c1,c5,?_,?_,Nat.le_trans hn (Nat.le_add_right _ _)⟩
 ·have:=h.len;rw[hl]at this;exact this
 ·have:=h.G8;rw[hl]at this;exact this
 ·have:=h.bot;rw[hl,hb]at this;exact this
 ·exact Nat.zero_le _
 ·have:=h.wid;rw[hl,hc]at this;exact this
 ·have:=h.ids;rw[hl,hx]at this;exact this
theorem Ok.begin(hn:1<=T.nx){rows cols:Nat}(h1:1<=rows)(h5:rows<=512)(c1:1<=cols)(c5:cols<=512):Ok (Y6 T rows cols):=by
 have hF:Fit (Y6 T rows cols).vis:=Bhs T.nx rows cols T.most [] h1 h5 c1 c5 hn
 have hL:(Y6 T rows cols).vis.L.length=rows:=Agy _ _ _ _
 exact⟨hF,hF,rfl,rfl,by rw[hL];exact h1,c1,⟨by rw[hL];exact h1,c1⟩,⟨by show 0<(Y6 T rows cols).vis.L.length;rw[hL];exact h1,c1⟩,rfl,rfl⟩
theorem Cdm(h:TM Z w t T)(rows cols:Nat)(hr1:1<=rows)(hr5:rows<=512)(hc1:1<=cols)(hc5:cols<=512)(hnx:T.nx<=9900000000) :
  Calls prog 35 #[.pointer (some ⟨t,0,none⟩),.int .i64 rows,.int .i64 cols] w (Bot Z w t (Y6 T rows cols)):=by
 obtain⟨P,h⟩:=h
 obtain⟨sv,R,hs⟩:=h.sto
 exact Ahb h.bare hs rows cols hr1 hr5 hc1 hc5 (by omega)
theorem Cbt(h:TM Z w t T)(ok:Ok T)(hj:T.jr.length<=90000000)(hnx:T.nx<=9900000000):Calls prog 140 #[.pointer (some ⟨t,0,none⟩)] w (A7 Z w t (reset T)):=by
 obtain⟨P,h⟩:=h
 obtain⟨Z1,hf⟩:=h.focus
 have s0:=h.s0
 have hsh:=J0 (I7 h)
 have hro:=J0 (Adx hf.sc ok.fit.len)
 have hco:=J0 (Aco hf.sc ok.fit.len)
 have hbg:=J0 (Cdm h.tm T.vis.L.length T.vis.cols ok.fit.len ok.fit.G8 ok.fit.c1 ok.fit.c5 hnx)
 have Brg:Ok (Y6 T T.vis.L.length T.vis.cols):=Ok.begin (show 1<=T.nx from ok.fit.pos) ok.fit.len ok.fit.G8 ok.fit.c1 ok.fit.c5
 have htl:Hid (∀w2,TM Z w2 t (Y6 T T.vis.L.length T.vis.cols)->Calls prog 178 #[.pointer (some ⟨t,0,none⟩)] w2 (A7 Z w2 t (reset T))):=J0 fun w2 h2=>Bsr h2 Brg hj
 generalize Y6 T T.vis.L.length T.vis.cols=T1 at hbg htl
 generalize reset T=T2 at htl |-
 generalize T.vis.L.length=rows at *
 generalize T.vis.cols=cols at *
 generalize P.h T.other=hh at s0 hsh
 generalize P.x T.other=xx at s0 hro hco
 clear h ok hj hf Brg
 go_enter func140,ntmps140
 go_wp2_with (first
  |(go_at_call 68;(with_reducible refine(hsh.out).mono ?_);rintro e w1 ⟨rfl,rfl⟩)
  |(go_at_call 70;(with_reducible refine(hro.out).mono ?_);rintro e w1 ⟨rfl,rfl⟩)
  |(go_at_call 124;(with_reducible refine(hco.out).mono ?_);rintro e w1 ⟨rfl,rfl⟩)
  |(go_at_call 35;(with_reducible refine(hbg.out).mono ?_);rintro e w2 ⟨rfl,h2,hf2⟩)
  |(go_at_call 178;(with_reducible refine(htl.out _ h2).mono ?_);rintro e w3 ⟨⟨v3,rfl⟩,h3,hf3⟩))
 go_end0
 exact⟨⟨_,rfl⟩,h3,hf2.trans hf3⟩
end
end Go.Proofs.YtecnpoigegiooaaGreatDoor.Emu
namespace Go.Proofs.YtecnpoigegiooaaGreatDoor.Eqt
open Go.Proofs.Tryz
open Go RowKit
section
variable {P:Program}{ops:Array Oper}{md:Region.Mode}{C:World->Prop}
def Awa(md:Region.Mode)(ops:Array Oper)(n:Nat):Bool :=
 (List.range ops.size).all fun t=>decide (t<=n)||(List.range t).any fun u=>decide (n<=u)&&Region.waitsFor md ops t u
theorem Bfw{n:Nat}{listed:Array Bool}(hs:Region.sinkB md ops n=true)(hc:Awa md ops n=true)(hn:n<ops.size)(inv:HeadInv md ops n listed) :
  ∀(d i:Nat),n-i=d->i<n->listed.getD i true=false->∀t,n<=t->t∉Region.ready md ops listed:=by
 intro d
 induction d using Nat.strongRecOn with
 |_ d ih =>
  intro i hd hi hun t ht hr
  obtain⟨_,ot,hot,F2⟩:=mem_ready.1 hr
  have Bei:t<ops.size:=(Array.getElem?_eq_some_iff.1 hot).1
  by_cases htn:t=n
  ·subst htn
   have h1:=List.all_eq_true.1 hs i (List.mem_range.2 hi)
   obtain⟨j,hj,hj2⟩:=List.any_eq_true.1 h1
   simp only[Bool.and_eq_true,decide_eq_true_eq]at hj2
   obtain⟨oj,hoj,e,he,hb,hon⟩:=Region.waitsFor_spec hj2.2
   have hjle:j<=t:=by have:=List.mem_range.1 hj;omega
   by_cases hjt:j=t
   ·subst hjt
    have:oj=ot:=Option.some.inj (hoj.symm.trans hot)
    subst this
    have h2:=F2 e he hb
    rw[hon,getD_both hun]at h2
    cases h2
   ·cases hl:listed.getD j false with
    |true =>
     have h2:=inv.closed j oj hoj hl e he hb
     rw[hon,getD_both hun]at h2
     cases h2
    |false =>
     have hjs:j<listed.size:=by rw[inv.size];omega
     exact ih (t-j) (by omega) j rfl (by omega) (getD_in hjs hl) t (J5 _) hr
  ·have h1:=List.all_eq_true.1 hc t (List.mem_range.2 Bei)
   simp only[Bool.or_eq_true,decide_eq_true_eq]at h1
   rcases h1 with h1|h1
   ·omega
   ·obtain⟨u,hu,hu2⟩:=List.any_eq_true.1 h1
    simp only[Bool.and_eq_true,decide_eq_true_eq]at hu2
    have hut:=List.mem_range.1 hu
    obtain⟨o',ho',e,he,hb,hon⟩:=Region.waitsFor_spec hu2.2
    have:o'=ot:=Option.some.inj (ho'.symm.trans hot)
    subst this
    have h2:=F2 e he hb
    rw[hon,getD_both (inv.tail u hu2.1 (by omega))]at h2
    cases h2
theorem Bte{n i:Nat}{oi:Oper}{v:Value}{L:Array Bool->Act->Prop}(hi:ops[i]?=some oi)(W3:∀(j:Nat) (o:Oper) cs b,ops[j]?=some o->o.op≠.select cs b)
  (hs:Region.sinkB md ops n=true) (hc:Awa md ops n=true) (hin:i<n) (Bde:∀listed a,L listed a->∀j∈Region.ready md ops listed,n<=j) :
  ∀(f:Nat) (listed:Array Bool) (a:Act),HeadInv md ops n listed ->
   (∀j oj,ops[j]?=some oj->j≠i->listed.getD j true=false->(∀e∈oj.after,Region.binds md e=true->e.on≠i)->oi.apart ops oj=true) ->
   i∈Region.ready md ops listed->YieldsIn P ops C oi v a->Ajy P md ops C n L f (listed.setIfInBounds i true) (a.put oi.dst v)->Ajy P md ops C n L (f+1) listed a:=by
 intro f
 induction f with
 |zero =>
  intro listed a inv Acv hr hy H
  have hlt:∀j∈Region.ready md ops listed,j<n:=fun j hj=>Nat.lt_of_not_le fun h=>absurd hj (Bfw hs hc (Nat.lt_of_le_of_lt h (by obtain⟨_,o,ho,_⟩:=mem_ready.1 hj;exact(Array.getElem?_eq_some_iff.1 ho).1)) inv _ i rfl hin (mem_ready.1 hr).1 j h)
  refine⟨fun h=>(by rw[h]at hr;cases hr),fun j hj=>⟨hlt j hj,?_⟩⟩
  by_cases hji:j=i
  ·subst hji;exact hy.qOp hi H
  ·exact absurd (Bde _ _ H j (ready_mono hj hji)) (Nat.not_le_of_lt (hlt j hj))
 |succ f ih =>
  intro listed a inv Acv hr hy H
  have hun:=(mem_ready.1 hr).1
  have hlt:∀j∈Region.ready md ops listed,j<n:=fun j hj=>Nat.lt_of_not_le fun h=>absurd hj (Bfw hs hc (Nat.lt_of_le_of_lt h (by obtain⟨_,o,ho,_⟩:=mem_ready.1 hj;exact(Array.getElem?_eq_some_iff.1 ho).1)) inv _ i rfl hin hun j h)
  refine⟨fun h=>(by rw[h]at hr;cases hr),fun j hj=>⟨hlt j hj,?_⟩⟩
  by_cases hji:j=i
  ·subst hji;exact hy.qOp hi H
  ·have h1:=(H.2 j (ready_mono hj hji)).2
   obtain⟨Afk,oj,hoj,F2⟩:=mem_ready.1 hj
   have S3:∀e∈oj.after,Region.binds md e=true->e.on≠i:=fun e he hb heq=>by
    have h2:=F2 e he hb
    rw[heq,getD_both hun]at h2
    cases h2
   have h2:=qOp_put hoj (Acv j oj hoj hji Afk S3) (fun cs b=>W3 i oi cs b hi) (fun cs b=>W3 j oj cs b hoj) hy h1
   have hfree':∀k ok,ops[k]?=some ok->k≠i->(listed.setIfInBounds j true).getD k true=false->(∀e∈ok.after,Region.binds md e=true->e.on≠i)->oi.apart ops ok=true:=fun k ok hk hki hn hno=>by
    refine Acv k ok hk hki ?_ hno
    by_cases hjk:j=k
    ·exact hjk▸Afk
    ·rwa [getD_set_ne true hjk]at hn
   refine qOp_mono (fun a' h3=>ih (listed.setIfInBounds j true) a' (inv.set hj (hlt j hj)) hfree' (ready_mono hr (Ne.symm hji)) h3.1 ?_) h2
   rw[Array.setIfInBounds_comm _ _ hji]
   exact h3.2
def Ata(md:Region.Mode)(ops:Array Oper)(n:Nat)(goal:Array Bool):Nat->Nat->Array Bool->Bool
 |0,_,listed=>decide (listed=goal)&&(Region.ready md ops listed).all fun j=>decide (n<=j)
 |f+1,k,listed=>(Region.ready md ops listed).contains k&&Region.free md ops listed k&&Ata md ops n goal f (k+1) (listed.setIfInBounds k true)
theorem Bxs{n:Nat}{goal:Array Bool}{Lq:Act->Prop}(W3:Region.noSelect ops=true)(hs:Region.sinkB md ops n=true)(hc:Awa md ops n=true) :
  ∀(l:List Oper) (k:Nat) (listed:Array Bool) (a:Act),(∀j,j<l.length->l[j]?=ops[k+j]?)->k+l.length=n->HeadInv md ops n listed->Ata md ops n goal l.length k listed=true->wpQuiet P ops C Lq l a ->
   Ajy P md ops C n (fun listed' a'=>(listed'=goal/\∀j∈Region.ready md ops listed',n<=j)/\Lq a') l.length listed a:=by
 intro l
 induction l with
 |nil =>
  intro k listed a hl hk inv hB h
  simp only[List.length_nil,Ata,Bool.and_eq_true,decide_eq_true_eq,List.all_eq_true]at hB
  exact⟨hB,h⟩
 |cons o l ih =>
  intro k listed a hl hk inv hB h
  have h0:ops[k]?=some o:=by simpa using(hl 0 (by simp)).symm
  simp only[List.length_cons,Ata,Bool.and_eq_true]at hB
  obtain⟨⟨hr,hf⟩,hB'⟩:=hB
  have hkn:k<n:=by simp only[List.length_cons]at hk;omega
  have hr':k∈Region.ready md ops listed:=by simpa using hr
  obtain⟨v,hy,hK⟩:=yieldsIn_of_qOp (P:=P) (C:=C) h0 (K:=wpQuiet P ops C Lq l) (by unfold qOp;simp only[h0];exact h)
  exact Bte h0 (Region.noSelect_spec W3) hs hc hkn (fun listed' a' hL=>hL.1.2) l.length listed a inv (Region.free_spec h0 hf) hr' hy
   (ih (k+1) _ _ (fun j hj=>by have:=hl (j+1) (by simp;omega);simpa[Nat.add_assoc,Nat.add_comm 1 j]using this) (by simp only[List.length_cons]at hk;omega) (inv.set hr' hkn) hB' hK)
def Bav(md:Region.Mode)(ops:Array Oper)(n:Nat)(goal:Array Bool):Bool :=
 Region.noSelect ops&&decide (n<ops.size)&&Region.sinkB md ops n&&Awa md ops n&&Ata md ops n goal n 0 (Array.replicate ops.size false)
theorem Btp{id:Nat}{Q:Exit->Act->World->Prop}{a:Act}{w:World}{l:List Oper}(n:Nat)(goal:Array Bool)(hB:Bav .any l.toArray n goal=true)(hm:P.follows .mixedOrders=true)(hC:C w.drew)
  (h:wpQuiet P l.toArray C (fun a'=>∀w',C w'->wpAny P .any l.toArray Q (l.length-n) goal a' w') (l.take n) a):(Code.region id l.toArray true).wp P Q a w:=by
 simp only[Bav,Bool.and_eq_true,decide_eq_true_eq]at hB
 obtain⟨⟨⟨⟨W3,hn⟩,hs⟩,hc⟩,Beb⟩:=hB
 have hn':n<l.length:=by simpa using hn
 have htl:(l.take n).length=n:=by simp;omega
 have inv0:HeadInv .any l.toArray n (Array.replicate l.toArray.size false) :=
  ⟨by simp,fun j oj _ hl=>(by rw[getD_replicate_false]at hl;cases hl),fun t _ ht=>getD_in (by simpa using ht) (getD_replicate_false _ _)⟩
 have H:=Bxs (md:=.any) (goal:=goal) W3 hs hc (l.take n) 0 _ a (fun j hj=>by
  have hj':j<n:=by rw[htl]at hj;exact hj
  simp[hj']) (by simpa using htl) inv0 (by rw[htl];exact Beb) h
 refine wp_region_any hm ?_
 have:=Bfa (Q':=Q) (g:=l.length - n) (fun listed a' w' hw' hL=>by
  rw[hL.1.1]
  exact hL.2 w' hw') _ _ _ _ hC H
 rw[htl,show n+(l.length-n)=l.toArray.size by simp;omega]at this
 exact this
theorem Bsh{id:Nat}{Q:Exit->Act->World->Prop}{a:Act}{w:World}{l:List Oper}(n:Nat)(goal:Array Bool)(hB:Bav .any l.toArray n goal=true)(hm:P.follows .mixedOrders=true)
  (h:wpQuiet P l.toArray (fun w'=>∃k:Ext w,w'=k.w) (fun a'=>∀w',(∃k:Ext w,w'=k.w)->wpAny P .any l.toArray Q (l.length-n) goal a' w') (l.take n) a):(Code.region id l.toArray true).wp P Q a w :=
 Btp n goal hB hm ⟨⟨w.drewN 1,below_drewN (Below.refl _ _) 1⟩,rfl⟩ h
end
