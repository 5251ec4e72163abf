/- Part 35 of HostSplits. -/
import Derived.Test.YtecnpoigegiooaaGreatDoorP34
set_option maxHeartbeats 16000000
set_option maxRecDepth 100000
namespace Go.Proofs.YtecnpoigegiooaaGreatDoor.Emu
open Go RowKit Com Rw Lns Scn
def terB (T:Ter) (s:Nat) (a18 a19 a20 jv rv:Value):Array Value:=#[.bool T.m.a0,.bool T.m.a1,.bool T.m.a2,.bool T.m.a3,.bool T.m.a4,.bool T.m.a5,.bool T.m.a6,.bool T.m.a7,
 .int .i64 T.c.row,.int .i64 T.c.col,.bool T.c.pend,.int .u32 T.p.a.f,.int .u32 T.p.a.b,.int .u16 T.p.a.g,.int .u8 T.p.g0,.int .u8 T.p.g1,.int .i64 (whI T.p.wh),
 .pointer (some ⟨s,0,none⟩),a18,a19,a20,.int .u64 T.prints,
 .int .u8 T.last.k,.int .u64 T.last.ix,.int .i64 T.last.line,.int .i64 T.last.col,.bool T.last.wide,.int .i32 T.last.r,.bool T.last.bl,.bool T.last.la,.bool T.last.fr,.bool T.last.wr,jv,rv]
structure Bare (Z:Zn) (w:World) (t:Nat) (T:Ter) (s:Nat) (jv rv a18 a19 a20:Value):Prop where
 blk:Block w t 102 (terB T s a18 a19 a20 jv rv)
 jr:w.ownsRow 0 73 10 jv T.jr.length (fl evL T.jr)
 rp:Kys.Row w 0 5 rv T.rp
 zt:Z t
 zj:∀g,jv.ownBlock=some g->Z g
 zr:∀g,rv.ownBlock=some g->Z g
 up:∀k,w.heap.size<=k->Z k
 low:∀k,k<6->¬Z k
 tbl:Tbl w
structure Sto (Z:Zn) (w:World) (s nx most:Nat) (sv:Value) (R:List En):Prop where
 st:SX 0 w s nx most sv R
 z:Z s/\(∀g,sv.ownBlock=some g->Z g)/\(∀e∈R,Z e.d/\Z e.g)/\∀k,w.heap.size<=k->Z k
 d:(R.map En.d).Nodup
 g:(R.map En.g).Nodup
section
variable {Z Z1:Zn}{w w':World}{t x s:Nat}{S:Scr}{T:Ter}{P:Pt}{v jv rv a18 a19 a20:Value}{l:List Int}
theorem TMx.bare (h:TMx Z w t T P):Bare Z w t T P.s P.jv P.rv (.pointer (some ⟨P.hm,0,none⟩)) (optP T.other P.ho) (.pointer (some ⟨P.tb,0,none⟩)):=⟨h.blk,h.jr,h.rp,h.zt,h.zj,h.zr,h.up,h.low,h.tbl⟩
theorem Cd1 {x s nx most cols top bot n:Nat} {kp:Bool} {sv lv:Value} {xs:List Value} {L R:List En} (h:MidX Z w x s nx most kp cols sv lv top bot n xs L R):Sto Z w s nx most sv R :=
 ⟨h.ln.st,⟨h.ln.lo.s,h.ln.lo.p,h.ln.lo.r,h.ln.lo.up⟩,Ad6 h.dd,Ad6 h.gg⟩
theorem TMx.sto (h:TMx Z w t T P):∃sv R,Sto Z w P.s T.nx T.most sv R:=by
 have hs:=h.scr
 unfold Scrs at hs
 split at hs
 ·obtain⟨sv,lv,L,R,h1,_,_⟩:=hs
  exact⟨sv,R,Cd1 h1⟩
 ·obtain⟨sv,R,l1,L1,l2,L2,h1,_⟩:=hs
  exact⟨sv,R,Cd1 h1⟩
theorem Bare.fr {B:Zn} {ts:List TypeId} (h:Bare Z w t T s jv rv a18 a19 a20) (hf:Scn.Fr B ts w w') (hn:102∉ts/\73∉ts/\5∉ts) (hlow:∀k,k<6->¬B k):Bare Z w' t T s jv rv a18 a19 a20:=by
 have keep:∀ {k:Nat} {ty:TypeId},Typ w k ty->ty∉ts->w'.heap[k]?=w.heap[k]?:=fun hk hty=>hf.block _ (Al0 hk) (.inr fun t' ht' hT=>hty (by rw[Typ.inj hk hT];exact ht'))
 exact⟨(keep (Block.typ h.blk) hn.1).trans h.blk,Ac1 h.jr (fun g hg=>keep (Ab9 h.jr g hg) hn.2.1),Ad3 h.rp (fun g hg=>keep (Ad2 h.rp g hg) hn.2.2),h.zt,h.zj,h.zr,fun k hk=>h.up k (Nat.le_trans hf.size hk),h.low,h.tbl.fr hf hlow⟩
theorem Bare.below (h:Bare Z w t T s jv rv a18 a19 a20) (hb:Below w.heap.size w w'):Bare Z w' t T s jv rv a18 a19 a20:=h.fr (B:=fun _=>False) (ts:=[]) (Scn.Fr.of_below hb) (by simp) (by simp)
theorem Bare.turn {T':Ter} {b18 b19 b20:Value} (h:Bare Z w t T s jv rv a18 a19 a20) (ho:Only [t] w w') (hb:Block w' t 102 (terB T' s b18 b19 b20 jv rv)) (hj:T'.jr=T.jr) (hr:T'.rp=T.rp):Bare Z w' t T' s jv rv b18 b19 b20/\Scn.Fr Z [102] w w':=by
 have hf:Scn.Fr Z [102] w w':=Scn.Fr.of_only ho fun k hk _=>by
  obtain rfl:k=t:=by simpa using hk
  exact⟨h.zt,_,by simp,Block.typ h.blk⟩
 have keep:∀ {k:Nat} {ty:TypeId},Typ w k ty->ty≠102->w'.heap[k]?=w.heap[k]?:=fun hk hty=>ho.block _ (Al0 hk) (Ad9 hk (Block.typ h.blk) hty)
 exact⟨⟨hb,by rw[hj];exact Ac1 h.jr (fun g hg=>keep (Ab9 h.jr g hg) (by decide)),by rw[hr];exact Ad3 h.rp (fun g hg=>keep (Ad2 h.rp g hg) (by decide)),h.zt,h.zj,h.zr,fun k hk=>h.up k (Nat.le_trans hf.size hk),h.low,h.tbl.fr hf h.low⟩,hf⟩
theorem Bare.cells (h:Bare Z w t T s jv rv a18 a19 a20):(∀i,w.frozen? ⟨t,i,none⟩=false)/\w.cell? ⟨t,17,none⟩=some (.pointer (some ⟨s,0,none⟩))/\w.cell? ⟨t,18,none⟩=some a18/\w.cell? ⟨t,19,none⟩=some a19/\w.cell? ⟨t,20,none⟩=some a20 :=
 ⟨h.blk.free,h.blk.cell 17 rfl,h.blk.cell 18 rfl,h.blk.cell 19 rfl,h.blk.cell 20 rfl⟩
theorem Bare.low17 (h:Bare Z w t T s jv rv a18 a19 a20):w.cell? ⟨t,0,none⟩=some (.bool T.m.a0)/\w.cell? ⟨t,1,none⟩=some (.bool T.m.a1)/\w.cell? ⟨t,2,none⟩=some (.bool T.m.a2)/\w.cell? ⟨t,3,none⟩=some (.bool T.m.a3)/\w.cell? ⟨t,4,none⟩=some (.bool T.m.a4)/\w.cell? ⟨t,5,none⟩=some (.bool T.m.a5)/\w.cell? ⟨t,6,none⟩=some (.bool T.m.a6)/\w.cell? ⟨t,7,none⟩=some (.bool T.m.a7) /\
  w.cell? ⟨t,8,none⟩=some (.int .i64 T.c.row)/\w.cell? ⟨t,9,none⟩=some (.int .i64 T.c.col)/\w.cell? ⟨t,10,none⟩=some (.bool T.c.pend)/\w.cell? ⟨t,11,none⟩=some (.int .u32 T.p.a.f)/\w.cell? ⟨t,12,none⟩=some (.int .u32 T.p.a.b)/\w.cell? ⟨t,13,none⟩=some (.int .u16 T.p.a.g)/\w.cell? ⟨t,14,none⟩=some (.int .u8 T.p.g0)/\w.cell? ⟨t,15,none⟩=some (.int .u8 T.p.g1)/\w.cell? ⟨t,16,none⟩=some (.int .i64 (whI T.p.wh)) :=
 ⟨h.blk.cell 0 rfl,h.blk.cell 1 rfl,h.blk.cell 2 rfl,h.blk.cell 3 rfl,h.blk.cell 4 rfl,h.blk.cell 5 rfl,h.blk.cell 6 rfl,h.blk.cell 7 rfl,h.blk.cell 8 rfl,h.blk.cell 9 rfl,h.blk.cell 10 rfl,h.blk.cell 11 rfl,h.blk.cell 12 rfl,h.blk.cell 13 rfl,h.blk.cell 14 rfl,h.blk.cell 15 rfl,h.blk.cell 16 rfl⟩
theorem Ck0 (nx most rows cols:Nat) (R:List Ln):({ newS nx most rows cols true R with R:=[] }:Scr)=(Az6 nx rows cols).scr (nx+rows) most true []:=by
 have hL:=Cj9 nx most rows cols true R
 have hb:(newS nx most rows cols true R).bot=(newS nx most rows cols true R).L.length - 1:=rfl
 rw[hL,Af2] at hb
 show Scr.mk _ _ _ _ _ _ _ _=_
 rw[hL,hb]
 rfl
def begW (w:World) (t:Nat):World:=(((((((((((((((((w.setCell ⟨t,0,none⟩ (.bool false)).setCell ⟨t,1,none⟩ (.bool false)).setCell ⟨t,2,none⟩ (.bool false)).setCell ⟨t,3,none⟩ (.bool false)).setCell ⟨t,4,none⟩ (.bool true)).setCell ⟨t,5,none⟩ (.bool true)).setCell ⟨t,6,none⟩ (.bool false)).setCell ⟨t,7,none⟩ (.bool false)).setCell ⟨t,8,none⟩ (.int .i64 0)).setCell ⟨t,9,none⟩ (.int .i64 0)).setCell ⟨t,10,none⟩ (.bool false)).setCell ⟨t,11,none⟩ (.int .u32 0)).setCell ⟨t,12,none⟩ (.int .u32 0)).setCell ⟨t,13,none⟩ (.int .u16 0)).setCell ⟨t,14,none⟩ (.int .u8 0)).setCell ⟨t,15,none⟩ (.int .u8 0)).setCell ⟨t,16,none⟩ (.int .i64 0))
theorem Bare.first (h:Bare Z w t T s jv rv a18 a19 a20):Bare Z (begW w t) t { T with m:=Mds.start,c:=cur0,p:=pen0 } s jv rv a18 a19 a20/\Scn.Fr Z [102] w (begW w t):=by
 have e:((((((((((((((((((terB T s a18 a19 a20 jv rv).setIfInBounds 0 (.bool false)).setIfInBounds 1 (.bool false)).setIfInBounds 2 (.bool false)).setIfInBounds 3 (.bool false)).setIfInBounds 4 (.bool true)).setIfInBounds 5 (.bool true)).setIfInBounds 6 (.bool false)).setIfInBounds 7 (.bool false)).setIfInBounds 8 (.int .i64 0)).setIfInBounds 9 (.int .i64 0)).setIfInBounds 10 (.bool false)).setIfInBounds 11 (.int .u32 0)).setIfInBounds 12 (.int .u32 0)).setIfInBounds 13 (.int .u16 0)).setIfInBounds 14 (.int .u8 0)).setIfInBounds 15 (.int .u8 0)).setIfInBounds 16 (.int .i64 0))=terB { T with m:=Mds.start,c:=cur0,p:=pen0 } s a18 a19 a20 jv rv:=by kernel_rfl
 have hb:Block (begW w t) t 102 ((((((((((((((((((terB T s a18 a19 a20 jv rv).setIfInBounds 0 (.bool false)).setIfInBounds 1 (.bool false)).setIfInBounds 2 (.bool false)).setIfInBounds 3 (.bool false)).setIfInBounds 4 (.bool true)).setIfInBounds 5 (.bool true)).setIfInBounds 6 (.bool false)).setIfInBounds 7 (.bool false)).setIfInBounds 8 (.int .i64 0)).setIfInBounds 9 (.int .i64 0)).setIfInBounds 10 (.bool false)).setIfInBounds 11 (.int .u32 0)).setIfInBounds 12 (.int .u32 0)).setIfInBounds 13 (.int .u16 0)).setIfInBounds 14 (.int .u8 0)).setIfInBounds 15 (.int .u8 0)).setIfInBounds 16 (.int .i64 0)):=(((((((((((((((((h.blk.set 0 _).set 1 _).set 2 _).set 3 _).set 4 _).set 5 _).set 6 _).set 7 _).set 8 _).set 9 _).set 10 _).set 11 _).set 12 _).set 13 _).set 14 _).set 15 _).set 16 _)
 rw[e] at hb
 exact h.turn (w':=begW w t) (((((((((((((((((Only.setCell w ⟨t,0,none⟩ _).trans (Only.setCell _ ⟨t,1,none⟩ _)).trans (Only.setCell _ ⟨t,2,none⟩ _)).trans (Only.setCell _ ⟨t,3,none⟩ _)).trans (Only.setCell _ ⟨t,4,none⟩ _)).trans (Only.setCell _ ⟨t,5,none⟩ _)).trans (Only.setCell _ ⟨t,6,none⟩ _)).trans (Only.setCell _ ⟨t,7,none⟩ _)).trans (Only.setCell _ ⟨t,8,none⟩ _)).trans (Only.setCell _ ⟨t,9,none⟩ _)).trans (Only.setCell _ ⟨t,10,none⟩ _)).trans (Only.setCell _ ⟨t,11,none⟩ _)).trans (Only.setCell _ ⟨t,12,none⟩ _)).trans (Only.setCell _ ⟨t,13,none⟩ _)).trans (Only.setCell _ ⟨t,14,none⟩ _)).trans (Only.setCell _ ⟨t,15,none⟩ _)).trans (Only.setCell _ ⟨t,16,none⟩ _)) hb rfl rfl
theorem Bare.set18 (h:Bare Z w t T s jv rv a18 a19 a20) (b18 b19:Value):Bare Z ((w.setCell ⟨t,18,none⟩ b18).setCell ⟨t,19,none⟩ b19) t T s jv rv b18 b19 a20/\Scn.Fr Z [102] w ((w.setCell ⟨t,18,none⟩ b18).setCell ⟨t,19,none⟩ b19) :=
 h.turn (T':=T) ((Only.setCell w ⟨t,18,none⟩ _).trans (Only.setCell _ ⟨t,19,none⟩ _)) ((h.blk.set 18 _).set 19 _) rfl rfl
theorem Bare.set20 (h:Bare Z w t T s jv rv a18 a19 a20) (b20:Value):Bare Z (w.setCell ⟨t,20,none⟩ b20) t T s jv rv a18 a19 b20/\Scn.Fr Z [102] w (w.setCell ⟨t,20,none⟩ b20) :=
 h.turn (T':=T) (Only.setCell w ⟨t,20,none⟩ _) (h.blk.set 20 _) rfl rfl
structure BegS (Z:Zn) (w:World) (t:Nat) (T:Ter) (s x hm:Nat) (S:Scr) (jv rv a20:Value):Prop where
 bare:Bare Z w t T s jv rv (.pointer (some ⟨hm,0,none⟩)) (.pointer none) a20
 sc:SC Z w x s S
 main:Block w hm 143 (shA x sav0)
 zm:Z hm
theorem BegS.fr {B:Zn} {ts:List TypeId} {hm:Nat} (h:BegS Z w t T s x hm S jv rv a20) (hf:Scn.Fr B ts w w') (hn:102∉ts/\73∉ts/\5∉ts) (hs:143∉ts) (hp:NoPT ts) (hlow:∀k,k<6->¬B k):BegS Z w' t T s x hm S jv rv a20 :=
 ⟨h.bare.fr hf hn hlow,h.sc.fr hf hp,Scn.Block.fr h.main hf (.inl hs),h.zm⟩
theorem BegS.below {hm:Nat} (h:BegS Z w t T s x hm S jv rv a20) (hb:Below w.heap.size w w'):BegS Z w' t T s x hm S jv rv a20:=h.fr (B:=fun _=>False) (ts:=[]) (Scn.Fr.of_below hb) (by simp) (by simp) (by simp[NoPT]) (by simp)
theorem Cg2 (h:Bare Z w t T s jv rv a18 a19 a20) (hs:SC Z w x s S) :
  BegS Z (((w.alloc (.cells #[.pointer (some ⟨x,0,none⟩),.int .i64 0,.int .i64 0,.bool false,.int .u32 0,.int .u32 0,.int .u16 0,.int .u8 0,.int .u8 0,.int .i64 0,.bool false] 143)).setCell ⟨t,18,none⟩ (.pointer (some ⟨w.heap.size,0,none⟩))).setCell ⟨t,19,none⟩ (.pointer none)) t T s x w.heap.size S jv rv a20/\Scn.Fr Z TT w (((w.alloc (.cells #[.pointer (some ⟨x,0,none⟩),.int .i64 0,.int .i64 0,.bool false,.int .u32 0,.int .u32 0,.int .u16 0,.int .u8 0,.int .u8 0,.int .i64 0,.bool false] 143)).setCell ⟨t,18,none⟩ (.pointer (some ⟨w.heap.size,0,none⟩))).setCell ⟨t,19,none⟩ (.pointer none)):=by
 have hb:=Aa1 w (.cells #[.pointer (some ⟨x,0,none⟩),.int .i64 0,.int .i64 0,.bool false,.int .u32 0,.int .u32 0,.int .u16 0,.int .u8 0,.int .u8 0,.int .i64 0,.bool false] 143)
 obtain⟨h1,hf1⟩:=(h.below hb).set18 (.pointer (some ⟨w.heap.size,0,none⟩)) (.pointer none)
 have hs0:=hs.fr (B':=fun _=>True) (ts:=[]) (Scn.Fr.of_below hb) (by simp[NoPT])
 have hs1:=hs0.fr hf1 (by unfold NoPT;decide)
 have hm:=Block.made w 143 #[.pointer (some ⟨x,0,none⟩),.int .i64 0,.int .i64 0,.bool false,.int .u32 0,.int .u32 0,.int .u16 0,.int .u8 0,.int .u8 0,.int .i64 0,.bool false]
 exact⟨⟨h1,hs1,Scn.Block.fr hm hf1 (.inl (by decide)),h.up _ (J5 _)⟩,(Scn.Fr.of_below hb).trans (hf1.mono (by simp[TT]))⟩
theorem beg_fin {hm tb rows cols:Nat} {R:List Ln} (h:BegS Z w t T s x hm { newS T.nx T.most rows cols true R with R:=[] } jv rv (.pointer (some ⟨tb,0,none⟩))) (ht:Tbs.TabsIn w tb cols (Tbs.freshF 0 cols)) (hz:Z tb):TM Z (begW w t) t (Ag7 T rows cols)/\Scn.Fr Z TT w (begW w t):=by
 obtain⟨h1,hf⟩:=h.bare.first
 have hsc:=h.sc.fr hf (by unfold NoPT;decide)
 have hmain:=Scn.Block.fr h.main hf (.inl (by decide))
 have htab:Tbs.TabsIn (begW w t) tb cols (Tbs.freshF 0 cols):=Scn.Block.fr ht hf (.inl (by decide))
 rw[Ck0] at hsc
 exact⟨⟨⟨s,x,hm,0,0,tb,jv,rv⟩,⟨h1.blk,hmain,fun o ho=>(by cases ho),hsc,htab,h1.jr,h1.rp,h1.zt,h.zm,hz,h1.zj,h1.zr,h1.up,h1.low,h1.tbl⟩⟩,hf.mono (by simp[TT])⟩
def Ce9 (Z:Zn) (w:World) (t:Nat) (T:Ter) (e:Ending) (w':World):Prop:=e=.returned (.int .i64 0)/\TM Z w' t T/\Scn.Fr Z TT w w'
theorem Ah0 {sv:Value} {R:List En} (h:Bare Z w t T s jv rv a18 a19 a20) (hs:Sto Z w s T.nx T.most sv R) (rows cols:Nat) (hr1:1<=rows) (hr5:rows<=512) (hc1:1<=cols) (hc5:cols<=512) (hnx:T.nx+512<=10000000000) :
  Calls Tryz.prog 35 #[.pointer (some ⟨t,0,none⟩),.int .i64 rows,.int .i64 cols] w (Ce9 Z w t (Ag7 T rows cols)):=by
 have hnew:=J0 (Cc8 hs.st hs.z hs.d hs.g rows cols true hr1 hr5 hc1 hc5 hnx)
 obtain⟨_,c17,_,_,_⟩:=h.cells
 have hlow:=h.low
 have hup:=h.up
 have h18:Hid (∀w1,Scn.Fr Z PT w w1->∀o,(w1.alloc o).frozen? ⟨t,18,none⟩=false/\(w1.alloc o).frozen? ⟨t,19,none⟩=false/\(w1.alloc o).cell? ⟨t,18,none⟩=some a18/\(w1.alloc o).cell? ⟨t,19,none⟩=some a19/\(w1.alloc o).cell? ⟨t,17,none⟩=some (.pointer (some ⟨s,0,none⟩))):=J0 fun w1 hf o=>by
  obtain⟨q1,q4,q2,q3,_⟩:=((h.fr hf (by decide) h.low).below (Aa1 w1 o)).cells
  exact⟨q1 18,q1 19,q2,q3,q4⟩
 have hmid:=J0 (fun w1 (hf:Scn.Fr Z PT w w1) (h1:SC Z w1 w.heap.size s (newS T.nx T.most rows cols true (vw R)))=>(⟨(Cg2 (h.fr hf (by decide) h.low) h1).1,(hf.mono Cl6).trans (Cg2 (h.fr hf (by decide) h.low) h1).2⟩:BegS Z _ t T s w.heap.size w1.heap.size _ jv rv a20/\Scn.Fr Z TT w _))
 have hcl:Hid (∀w1 hm S,BegS Z w1 t T s w.heap.size hm S jv rv a20->Calls Tryz.prog 55 #[.pointer (some ⟨s,0,none⟩)] w1 fun e w'=>e=.returned (.int .i64 0)/\BegS Z w' t T s w.heap.size hm { S with R:=[] } jv rv a20/\Scn.Fr Z TT w1 w'):=J0 fun w1 hm S hB=>(Cc3 hB.sc).mono fun e w' ⟨he,h1,hf⟩=>⟨he,⟨(hB.bare.fr hf (by decide) hlow),h1,Scn.Block.fr hB.main hf (.inl (by decide)),hB.zm⟩,hf.mono Cl6⟩
 have htn:=J0 (fun w1=>Tbs.new_ok cols hc1 hc5 w1)
 have h20:Hid (∀w1 w2 hm S d,BegS Z w1 t T s w.heap.size hm S jv rv a20->Below w1.heap.size w1 w2->Tbs.TabsIn w2 d cols (Tbs.freshF 0 cols)->w2.cell? ⟨t,17,none⟩=some (.pointer (some ⟨s,0,none⟩))/\w2.cell? ⟨t,20,none⟩=some a20/\w2.frozen? ⟨t,20,none⟩=false/\BegS Z (w2.setCell ⟨t,20,none⟩ (.pointer (some ⟨d,0,none⟩))) t T s w.heap.size hm S jv rv (.pointer (some ⟨d,0,none⟩))/\Tbs.TabsIn (w2.setCell ⟨t,20,none⟩ (.pointer (some ⟨d,0,none⟩))) d cols (Tbs.freshF 0 cols)/\Scn.Fr Z TT w1 (w2.setCell ⟨t,20,none⟩ (.pointer (some ⟨d,0,none⟩)))):=J0 fun w1 w2 hm S d hB hb ht=>by
  have hB2:=hB.below hb
  obtain⟨q1,q2,_,_,q3⟩:=hB2.bare.cells
  obtain⟨h1,hf⟩:=hB2.bare.set20 (.pointer (some ⟨d,0,none⟩))
  exact⟨q2,q3,q1 20,⟨h1,hB2.sc.fr hf (by unfold NoPT;decide),Scn.Block.fr hB2.main hf (.inl (by decide)),hB2.zm⟩,Scn.Block.fr ht hf (.inl (by decide)),(Scn.Fr.of_below hb).trans (hf.mono (by simp[TT]))⟩
 have hdf:=J0 (fun w1=>Mds.default_any w1)
 change Hid (∀w1:World,Calls Tryz.prog 57 #[] w1 fun e w'=>e=.returned (.agg #[.bool false,.bool false,.bool false,.bool false,.bool true,.bool true,.bool false,.bool false])/\Below w1.heap.size w1 w') at hdf
 have hfin:Hid (∀w1 w2 hm tb,BegS Z w1 t T s w.heap.size hm { newS T.nx T.most rows cols true (vw R) with R:=[] } jv rv (.pointer (some ⟨tb,0,none⟩))->Below w1.heap.size w1 w2->Tbs.TabsIn w1 tb cols (Tbs.freshF 0 cols)->Z tb->((∀i,w2.frozen? ⟨t,i,none⟩=false)/\∃m c p,w2.cell? ⟨t,0,none⟩=some (.bool (Mds.Md.a0 m))/\w2.cell? ⟨t,1,none⟩=some (.bool m.a1)/\w2.cell? ⟨t,2,none⟩=some (.bool m.a2)/\w2.cell? ⟨t,3,none⟩=some (.bool m.a3)/\w2.cell? ⟨t,4,none⟩=some (.bool m.a4)/\w2.cell? ⟨t,5,none⟩=some (.bool m.a5)/\w2.cell? ⟨t,6,none⟩=some (.bool m.a6)/\w2.cell? ⟨t,7,none⟩=some (.bool m.a7) /\
   w2.cell? ⟨t,8,none⟩=some (.int .i64 (Cur.row c))/\w2.cell? ⟨t,9,none⟩=some (.int .i64 c.col)/\w2.cell? ⟨t,10,none⟩=some (.bool c.pend)/\w2.cell? ⟨t,11,none⟩=some (.int .u32 (Pen.a p).f)/\w2.cell? ⟨t,12,none⟩=some (.int .u32 p.a.b)/\w2.cell? ⟨t,13,none⟩=some (.int .u16 p.a.g)/\w2.cell? ⟨t,14,none⟩=some (.int .u8 p.g0)/\w2.cell? ⟨t,15,none⟩=some (.int .u8 p.g1)/\w2.cell? ⟨t,16,none⟩=some (.int .i64 (whI p.wh)))/\(TM Z (begW w2 t) t (Ag7 T rows cols)/\Scn.Fr Z TT w1 (begW w2 t))):=J0 fun w1 w2 hm tb hB hb ht hz=>by
  have hB2:=hB.below hb
  have ht2:Tbs.TabsIn w2 tb cols (Tbs.freshF 0 cols):=Scn.Block.fr (B:=fun _=>False) (ts:=[]) ht (Scn.Fr.of_below hb) (.inl (by simp))
  obtain⟨q1,q2⟩:=beg_fin hB2 ht2 hz
  exact⟨⟨hB2.bare.cells.1,T.m,T.c,T.p,hB2.bare.low17⟩,q1,(Scn.Fr.of_below hb).trans q2⟩
 replace hup:=J0 hup
 generalize Ag7 T rows cols=T1 at hfin |-
 generalize newS T.nx T.most rows cols true (vw R)=S1 at hnew hmid hfin
 generalize Tbs.freshF 0 cols=fr at htn h20 hfin
 clear h hs hnx hlow
 go_enter Tryz.func35,Tryz.ntmps35
 go_wp2_with (first
  |(go_at_call 54;(with_reducible refine hnew.out.mono ?_);rintro e w1 ⟨rfl,hs1,hf1⟩;have hh:=h18.out _ hf1;have f18:=fun o=>(hh o).1;have f19:=fun o=>(hh o).2.1;have k18:=fun o=>(hh o).2.2.1;have k19:=fun o=>(hh o).2.2.2.1;have k17:=fun o=>(hh o).2.2.2.2;clear hh;obtain⟨hB,hfB⟩:=hmid.out _ hf1 hs1)
  |(go_at_call 55;(with_reducible refine(hcl.out _ _ _ hB).mono ?_);rintro e w3 ⟨rfl,hB3,hf3⟩)
  |(go_at_call 56;(with_reducible refine(htn.out _).mono ?_);rintro e w4 ⟨d,rfl,htb,hb4,hd4⟩;obtain⟨e17,e20,f20,hB5,ht5,hf5⟩:=h20.out _ _ _ _ _ hB3 hb4 htb)
  |(go_at_call 57;(with_reducible refine(hdf.out _).mono ?_);rintro e w6 ⟨rfl,hb6⟩;obtain⟨⟨hfz6,m6,c6,p6,d0,d1,d2,d3,d4,d5,d6,d7,d8,d9,d10,d11,d12,d13,d14,d15,d16⟩,hT,hfT⟩:=hfin.out _ _ _ _ hB5 hb6 ht5 (hup.out _ (Nat.le_trans (Nat.le_trans hfB.size hf3.size) hd4));have g0:=hfz6 0;have g1:=hfz6 1;have g2:=hfz6 2;have g3:=hfz6 3;have g4:=hfz6 4;have g5:=hfz6 5;have g6:=hfz6 6;have g7:=hfz6 7;have g8:=hfz6 8;have g9:=hfz6 9;have g10:=hfz6 10;have g11:=hfz6 11;have g12:=hfz6 12;have g13:=hfz6 13;have g14:=hfz6 14;have g15:=hfz6 15;have g16:=hfz6 16))
 simp only[begW] at hT hfT
 go_ret
 exact⟨rfl,hT,((hfB.trans hf3).trans hf5).trans hfT⟩
theorem Bs1 (nx rows cols most:Nat) (R:List Ln) (h1:1<=rows) (h5:rows<=512) (c1:1<=cols) (c5:cols<=512) (hn:1<=nx):Fit ((Az6 nx rows cols).scr (nx+rows) most true R):=by
 have h:=newS_fit (nx:=nx) (most:=most) (kp:=true) (R:=([]:List Ln)) h1 h5 c1 c5 hn
 have e:=Ck0 nx most rows cols ([]:List Ln)
 have hl:=congrArg Scr.L e
 have hb:=congrArg Scr.bot e
 have hc:=congrArg Scr.cols e
 have ht:=congrArg Scr.top e
 have hx:=congrArg Scr.nx e
 simp only at hl hb hc ht hx
 refine⟨?_,?_,?_,?_,c1,c5,?_,?_,Nat.le_trans hn (Nat.le_add_right _ _)⟩
 ·have:=h.len;rw[hl] at this;exact this
 ·have:=h.len5;rw[hl] at this;exact this
 ·have:=h.bot;rw[hl,hb] at this;exact this
 ·exact Nat.zero_le _
 ·have:=h.wid;rw[hl,hc] at this;exact this
 ·have:=h.ids;rw[hl,hx] at this;exact this
theorem Ok.begin (hn:1<=T.nx) {rows cols:Nat} (h1:1<=rows) (h5:rows<=512) (c1:1<=cols) (c5:cols<=512):Ok (Ag7 T rows cols):=by
 have hF:Fit (Ag7 T rows cols).vis:=Bs1 T.nx rows cols T.most [] h1 h5 c1 c5 hn
 have hL:(Ag7 T rows cols).vis.L.length=rows:=Af2 _ _ _ _
 exact⟨hF,hF,rfl,rfl,by rw[hL];exact h1,c1,⟨by rw[hL];exact h1,c1⟩,⟨by show 0<(Ag7 T rows cols).vis.L.length;rw[hL];exact h1,c1⟩,rfl,rfl⟩
theorem begin_tm (h:TM Z w t T) (rows cols:Nat) (hr1:1<=rows) (hr5:rows<=512) (hc1:1<=cols) (hc5:cols<=512) (hnx:T.nx<=9900000000) :
  Calls Tryz.prog 35 #[.pointer (some ⟨t,0,none⟩),.int .i64 rows,.int .i64 cols] w (Ce9 Z w t (Ag7 T rows cols)):=by
 obtain⟨P,h⟩:=h
 obtain⟨sv,R,hs⟩:=h.sto
 exact Ah0 h.bare hs rows cols hr1 hr5 hc1 hc5 (by omega)
theorem reset_any (h:TM Z w t T) (ok:Ok T) (hj:T.jr.length<=90000000) (hnx:T.nx<=9900000000):Calls Tryz.prog 140 #[.pointer (some ⟨t,0,none⟩)] w (Does Z w t (reset T)):=by
 obtain⟨P,h⟩:=h
 obtain⟨Z1,hf⟩:=h.focus
 have s0:=h.s0
 have hsh:=J0 (Aa8 h)
 have hro:=J0 (Af8 hf.sc ok.fit.len)
 have hco:=J0 (Ai2 hf.sc ok.fit.len)
 have hbg:=J0 (begin_tm h.tm T.vis.L.length T.vis.cols ok.fit.len ok.fit.len5 ok.fit.c1 ok.fit.c5 hnx)
 have hokb:Ok (Ag7 T T.vis.L.length T.vis.cols):=Ok.begin (show 1<=T.nx from ok.fit.pos) ok.fit.len ok.fit.len5 ok.fit.c1 ok.fit.c5
 have htl:Hid (∀w2,TM Z w2 t (Ag7 T T.vis.L.length T.vis.cols)->Calls Tryz.prog 178 #[.pointer (some ⟨t,0,none⟩)] w2 (Does Z w2 t (reset T))):=J0 fun w2 h2=>tellReset_any h2 hokb hj
 generalize Ag7 T T.vis.L.length T.vis.cols=T1 at hbg htl
 generalize reset T=T2 at htl |-
 generalize T.vis.L.length=rows at *
 generalize T.vis.cols=cols at *
 generalize P.h T.other=hh at s0 hsh
 generalize P.x T.other=xx at s0 hro hco
 clear h ok hj hf hokb
 go_enter Tryz.func140,Tryz.ntmps140
 go_wp2_with (first
  |(go_at_call 68;(with_reducible refine(hsh.out).mono ?_);rintro e w1 ⟨rfl,rfl⟩)
  |(go_at_call 70;(with_reducible refine(hro.out).mono ?_);rintro e w1 ⟨rfl,rfl⟩)
  |(go_at_call 124;(with_reducible refine(hco.out).mono ?_);rintro e w1 ⟨rfl,rfl⟩)
  |(go_at_call 35;(with_reducible refine(hbg.out).mono ?_);rintro e w2 ⟨rfl,h2,hf2⟩)
  |(go_at_call 178;(with_reducible refine(htl.out _ h2).mono ?_);rintro e w3 ⟨⟨v3,rfl⟩,h3,hf3⟩))
 go_end0
 exact⟨⟨_,rfl⟩,h3,hf2.trans hf3⟩
end
end Go.Proofs.YtecnpoigegiooaaGreatDoor.Emu
namespace Go.Proofs.YtecnpoigegiooaaGreatDoor.Eqt
open Go RowKit
section
variable {P:Program}{ops:Array Oper}{md:Region.Mode}{C:World->Prop}
def By7 (md:Region.Mode) (ops:Array Oper) (n:Nat):Bool :=
 (List.range ops.size).all fun t=>decide (t<=n) || (List.range t).any fun u=>decide (n<=u) && Region.waitsFor md ops t u
theorem Bh9 {n:Nat} {listed:Array Bool} (hs:Region.sinkB md ops n=true) (hc:By7 md ops n=true) (hn:n<ops.size) (inv:HeadInv md ops n listed) :
  ∀(d i:Nat),n - i=d->i<n->listed.getD i true=false->∀t,n<=t->t∉Region.ready md ops listed:=by
 intro d
 induction d using Nat.strongRecOn with
 |_ d ih =>
  intro i hd hi hun t ht hr
  obtain⟨_,ot,hot,hall⟩:=mem_ready.1 hr
  have htlt:t<ops.size:=(Array.getElem?_eq_some_iff.1 hot).1
  by_cases htn:t=n
  ·subst htn
   have h1:=List.all_eq_true.1 hs i (List.mem_range.2 hi)
   obtain⟨j,hj,hj2⟩:=List.any_eq_true.1 h1
   simp only[Bool.and_eq_true,decide_eq_true_eq] at hj2
   obtain⟨oj,hoj,e,he,hb,hon⟩:=Region.waitsFor_spec hj2.2
   have hjle:j<=t:=by have:=List.mem_range.1 hj;omega
   by_cases hjt:j=t
   ·subst hjt
    have:oj=ot:=Option.some.inj (hoj.symm.trans hot)
    subst this
    have h2:=hall e he hb
    rw[hon,getD_both hun] at h2
    cases h2
   ·cases hl:listed.getD j false with
    |true =>
     have h2:=inv.closed j oj hoj hl e he hb
     rw[hon,getD_both hun] at h2
     cases h2
    |false =>
     have hjs:j<listed.size:=by rw[inv.size];omega
     exact ih (t - j) (by omega) j rfl (by omega) (getD_in hjs hl) t (J5 _) hr
  ·have h1:=List.all_eq_true.1 hc t (List.mem_range.2 htlt)
   simp only[Bool.or_eq_true,decide_eq_true_eq] at h1
   rcases h1 with h1|h1
   ·omega
   ·obtain⟨u,hu,hu2⟩:=List.any_eq_true.1 h1
    simp only[Bool.and_eq_true,decide_eq_true_eq] at hu2
    have hut:=List.mem_range.1 hu
    obtain⟨o',ho',e,he,hb,hon⟩:=Region.waitsFor_spec hu2.2
    have:o'=ot:=Option.some.inj (ho'.symm.trans hot)
    subst this
    have h2:=hall e he hb
    rw[hon,getD_both (inv.tail u hu2.1 (by omega))] at h2
    cases h2
theorem headQ_firstG {n i:Nat} {oi:Oper} {v:Value} {L:Array Bool->Act->Prop} (hi:ops[i]?=some oi) (hsel:∀(j:Nat) (o:Oper) cs b,ops[j]?=some o->o.op≠.select cs b)
  (hs:Region.sinkB md ops n=true) (hc:By7 md ops n=true) (hin:i<n) (hdone:∀listed a,L listed a->∀j∈Region.ready md ops listed,n<=j) :
  ∀(f:Nat) (listed:Array Bool) (a:Act),HeadInv md ops n listed ->
   (∀j oj,ops[j]?=some oj->j≠i->listed.getD j true=false->(∀e∈oj.after,Region.binds md e=true->e.on≠i)->oi.apart ops oj=true) ->
   i∈Region.ready md ops listed->YieldsIn P ops C oi v a->Bs9 P md ops C n L f (listed.setIfInBounds i true) (a.put oi.dst v)->Bs9 P md ops C n L (f+1) listed a:=by
 intro f
 induction f with
 |zero =>
  intro listed a inv hfree hr hy H
  have hlt:∀j∈Region.ready md ops listed,j<n:=fun j hj=>Nat.lt_of_not_le fun h=>absurd hj (Bh9 hs hc (Nat.lt_of_le_of_lt h (by obtain⟨_,o,ho,_⟩:=mem_ready.1 hj;exact(Array.getElem?_eq_some_iff.1 ho).1)) inv _ i rfl hin (mem_ready.1 hr).1 j h)
  refine⟨fun h=>(by rw[h] at hr;cases hr),fun j hj=>⟨hlt j hj,?_⟩⟩
  by_cases hji:j=i
  ·subst hji;exact hy.qOp hi H
  ·exact absurd (hdone _ _ H j (ready_mono hj hji)) (Nat.not_le_of_lt (hlt j hj))
 |succ f ih =>
  intro listed a inv hfree hr hy H
  have hun:=(mem_ready.1 hr).1
  have hlt:∀j∈Region.ready md ops listed,j<n:=fun j hj=>Nat.lt_of_not_le fun h=>absurd hj (Bh9 hs hc (Nat.lt_of_le_of_lt h (by obtain⟨_,o,ho,_⟩:=mem_ready.1 hj;exact(Array.getElem?_eq_some_iff.1 ho).1)) inv _ i rfl hin hun j h)
  refine⟨fun h=>(by rw[h] at hr;cases hr),fun j hj=>⟨hlt j hj,?_⟩⟩
  by_cases hji:j=i
  ·subst hji;exact hy.qOp hi H
  ·have h1:=(H.2 j (ready_mono hj hji)).2
   obtain⟨hjun,oj,hoj,hall⟩:=mem_ready.1 hj
   have hnot:∀e∈oj.after,Region.binds md e=true->e.on≠i:=fun e he hb heq=>by
    have h2:=hall e he hb
    rw[heq,getD_both hun] at h2
    cases h2
   have h2:=qOp_put hoj (hfree j oj hoj hji hjun hnot) (fun cs b=>hsel i oi cs b hi) (fun cs b=>hsel j oj cs b hoj) hy h1
   have hfree':∀k ok,ops[k]?=some ok->k≠i->(listed.setIfInBounds j true).getD k true=false->(∀e∈ok.after,Region.binds md e=true->e.on≠i)->oi.apart ops ok=true:=fun k ok hk hki hn hno=>by
    refine hfree k ok hk hki ?_ hno
    by_cases hjk:j=k
    ·exact hjk▸hjun
    ·rwa [getD_set_ne true hjk] at hn
   refine qOp_mono (fun a' h3=>ih (listed.setIfInBounds j true) a' (inv.set hj (hlt j hj)) hfree' (ready_mono hr (Ne.symm hji)) h3.1 ?_) h2
   rw[Array.setIfInBounds_comm _ _ hji]
   exact h3.2
def lexG (md:Region.Mode) (ops:Array Oper) (n:Nat) (goal:Array Bool):Nat->Nat->Array Bool->Bool
 |0,_,listed=>decide (listed=goal) && (Region.ready md ops listed).all fun j=>decide (n<=j)
 |f+1,k,listed=>(Region.ready md ops listed).contains k && Region.free md ops listed k && lexG md ops n goal f (k+1) (listed.setIfInBounds k true)
theorem headQ_lexG {n:Nat} {goal:Array Bool} {Lq:Act->Prop} (hsel:Region.noSelect ops=true) (hs:Region.sinkB md ops n=true) (hc:By7 md ops n=true) :
  ∀(l:List Oper) (k:Nat) (listed:Array Bool) (a:Act),(∀j,j<l.length->l[j]?=ops[k+j]?)->k+l.length=n->HeadInv md ops n listed->lexG md ops n goal l.length k listed=true->wpQuiet P ops C Lq l a ->
   Bs9 P md ops C n (fun listed' a'=>(listed'=goal/\∀j∈Region.ready md ops listed',n<=j)/\Lq a') l.length listed a:=by
 intro l
 induction l with
 |nil =>
  intro k listed a hl hk inv hB h
  simp only[List.length_nil,lexG,Bool.and_eq_true,decide_eq_true_eq,List.all_eq_true] at hB
  exact⟨hB,h⟩
 |cons o l ih =>
  intro k listed a hl hk inv hB h
  have h0:ops[k]?=some o:=by simpa using (hl 0 (by simp)).symm
  simp only[List.length_cons,lexG,Bool.and_eq_true] at hB
  obtain⟨⟨hr,hf⟩,hB'⟩:=hB
  have hkn:k<n:=by simp only[List.length_cons] at hk;omega
  have hr':k∈Region.ready md ops listed:=by simpa using hr
  obtain⟨v,hy,hK⟩:=yieldsIn_of_qOp (P:=P) (C:=C) h0 (K:=wpQuiet P ops C Lq l) (by unfold qOp;simp only[h0];exact h)
  exact headQ_firstG h0 (Region.noSelect_spec hsel) hs hc hkn (fun listed' a' hL=>hL.1.2) l.length listed a inv (Region.free_spec h0 hf) hr' hy
   (ih (k+1) _ _ (fun j hj=>by have:=hl (j+1) (by simp;omega);simpa[Nat.add_assoc,Nat.add_comm 1 j] using this) (by simp only[List.length_cons] at hk;omega) (inv.set hr' hkn) hB' hK)
def Bo7 (md:Region.Mode) (ops:Array Oper) (n:Nat) (goal:Array Bool):Bool :=
 Region.noSelect ops && decide (n<ops.size) && Region.sinkB md ops n && By7 md ops n && lexG md ops n goal n 0 (Array.replicate ops.size false)
theorem region_tailG {id:Nat} {Q:Exit->Act->World->Prop} {a:Act} {w:World} {l:List Oper} (n:Nat) (goal:Array Bool) (hB:Bo7 .any l.toArray n goal=true) (hm:P.follows .mixedOrders=true) (hC:C w.drew)
  (h:wpQuiet P l.toArray C (fun a'=>∀w',C w'->wpAny P .any l.toArray Q (l.length - n) goal a' w') (l.take n) a):(Code.region id l.toArray true).wp P Q a w:=by
 simp only[Bo7,Bool.and_eq_true,decide_eq_true_eq] at hB
 obtain⟨⟨⟨⟨hsel,hn⟩,hs⟩,hc⟩,hlex⟩:=hB
 have hn':n<l.length:=by simpa using hn
 have htl:(l.take n).length=n:=by simp;omega
 have inv0:HeadInv .any l.toArray n (Array.replicate l.toArray.size false) :=
  ⟨by simp,fun j oj _ hl=>(by rw[getD_replicate_false] at hl;cases hl),fun t _ ht=>getD_in (by simpa using ht) (getD_replicate_false _ _)⟩
 have H:=headQ_lexG (md:=.any) (goal:=goal) hsel hs hc (l.take n) 0 _ a (fun j hj=>by
  have hj':j<n:=by rw[htl] at hj;exact hj
  simp[hj']) (by simpa using htl) inv0 (by rw[htl];exact hlex) h
 refine wp_region_any hm ?_
 have:=Ba9 (Q':=Q) (g:=l.length - n) (fun listed a' w' hw' hL=>by
  rw[hL.1.1]
  exact hL.2 w' hw') _ _ _ _ hC H
 rw[htl,show n+(l.length - n)=l.toArray.size by simp;omega] at this
 exact this
theorem region_ext_any {id:Nat} {Q:Exit->Act->World->Prop} {a:Act} {w:World} {l:List Oper} (n:Nat) (goal:Array Bool) (hB:Bo7 .any l.toArray n goal=true) (hm:P.follows .mixedOrders=true)
  (h:wpQuiet P l.toArray (fun w'=>∃k:Ext w,w'=k.w) (fun a'=>∀w',(∃k:Ext w,w'=k.w)->wpAny P .any l.toArray Q (l.length - n) goal a' w') (l.take n) a):(Code.region id l.toArray true).wp P Q a w :=
 region_tailG n goal hB hm ⟨⟨w.drewN 1,below_drewN (Below.refl _ _) 1⟩,rfl⟩ h
end
