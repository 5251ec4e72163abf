/- Part 24 of HostKeys. -/
import Derived.Test.YtecnpoigegiooaaGreatDoorW23
import Derived.Test.YtecnpoigegiooaaGreatDoorRows
import Derived.LaidMore
import Derived.Stop.Joined
import Derived.Deep.Strs
import Derived.Lib.LaidTab
import Derived.Deep.Slices
set_option maxHeartbeats 16000000
set_option maxRecDepth 100000
namespace Go.Proofs.YtecnpoigegiooaaGreatDoor.Emu
open Go.Proofs.Tryz
open Go RowKit Com Rw Lns Scn
def Tbl(w:World):Prop:=6<=w.heap.size/\∀w',Below 6 w w'->Cht.Arv w'/\Tbs.Tab w'/\Sgr.Tab w'/\Kys.Tab w'
theorem Tbl.low{w w':World}(h:Tbl w)(hb:Below 6 w w'):Tbl w':=⟨Nat.le_trans h.1 hb.size,fun w2 h2=>h.2 w2 (hb.trans h2)⟩
theorem Tbl.below{w w':World}(h:Tbl w)(hb:Below w.heap.size w w'):Tbl w':=h.low (hb.mono h.1)
theorem Tbl.cht{w:World}(h:Tbl w):Cht.Arv w:=(h.2 w (Below.refl _ _)).1
theorem Tbl.tbs{w:World}(h:Tbl w):Tbs.Tab w:=(h.2 w (Below.refl _ _)).2.1
theorem Tbl.sgr{w:World}(h:Tbl w):Sgr.Tab w:=(h.2 w (Below.refl _ _)).2.2.1
theorem Tbl.kys{w:World}(h:Tbl w):Kys.Tab w:=(h.2 w (Below.refl _ _)).2.2.2
theorem Tbl.fr{w w':World}{Z:Zn}{ts:List TypeId}(h:Tbl w)(hf:Scn.Fr Z ts w w')(hz:∀k,k<6->¬Z k):Tbl w' :=
 h.low ⟨hf.os,hf.tape,hf.output,hf.size,fun k hk=>hf.block k (Nat.lt_of_lt_of_le hk h.1) (.inl (hz k hk))⟩
def whI(b:Bool):Int:=if b then 1 else 0
def Bem(s:Sav):List Value:=[.int .i64 s.c.row,.int .i64 s.c.col,.bool s.c.F6,.int .u32 s.p.a.f,.int .u32 s.p.a.b,.int .u16 s.p.a.g,.int .u8 s.p.g0,.int .u8 s.p.g1,.int .i64 (whI s.p.wh),.bool s.org]
def shA(x:Nat)(s:Sav):Array Value:=#[.pointer (some ⟨x,0,none⟩),.int .i64 s.c.row,.int .i64 s.c.col,.bool s.c.F6,.int .u32 s.p.a.f,.int .u32 s.p.a.b,.int .u16 s.p.a.g,.int .u8 s.p.g0,.int .u8 s.p.g1,.int .i64 (whI s.p.wh),.bool s.org]
def evA(e:Ev):Array Value:=#[.int .u8 e.k,.int .u64 e.ix,.int .i64 e.line,.int .i64 e.col,.bool e.wide,.int .i32 e.r,.bool e.bl,.bool e.la,.bool e.fr,.bool e.wr]
def evL(e:Ev):List Value:=[.int .u8 e.k,.int .u64 e.ix,.int .i64 e.line,.int .i64 e.col,.bool e.wide,.int .i32 e.r,.bool e.bl,.bool e.la,.bool e.fr,.bool e.wr]
theorem Cjp(e:Ev):∀v∈evL e,v.oneCell'=true:=by
 intro v hv
 simp only[evL,List.mem_cons,List.not_mem_nil,or_false]at hv
 rcases hv with rfl|rfl|rfl|rfl|rfl|rfl|rfl|rfl|rfl|rfl<;>rfl
structure Pt where
 s:Nat
 xm:Nat
 hm:Nat
 xo:Nat
 ho:Nat
 tb:Nat
 jv:Value
 rv:Value
def Aiv(o:Option Sh)(h:Nat):Value:=match o with
 |none=>.pointer none
 |some _=>.pointer (some ⟨h,0,none⟩)
def S6 (T:Ter) (P:Pt):Array Value:=#[.bool T.m.a0,.bool T.m.a1,.bool T.m.a2,.bool T.m.a3,.bool T.m.a4,.bool T.m.a5,.bool T.m.a6,.bool T.m.a7,
 .int .i64 T.c.row,.int .i64 T.c.col,.bool T.c.F6,.int .u32 T.p.a.f,.int .u32 T.p.a.b,.int .u16 T.p.a.g,.int .u8 T.p.g0,.int .u8 T.p.g1,.int .i64 (whI T.p.wh),
 .pointer (some ⟨P.s,0,none⟩),.pointer (some ⟨P.hm,0,none⟩),Aiv T.other P.ho,.pointer (some ⟨P.tb,0,none⟩),.int .u64 T.C5,
 .int .u8 T.last.k,.int .u64 T.last.ix,.int .i64 T.last.line,.int .i64 T.last.col,.bool T.last.wide,.int .i32 T.last.r,.bool T.last.bl,.bool T.last.la,.bool T.last.fr,.bool T.last.wr,P.jv,P.rv]
def Y0(Z:Zn)(w:World)(T:Ter)(P:Pt):Prop:=match T.other with
 |none=>SC Z w P.xm P.s T.vis
 |some _=>Two Z w P.s P.xo P.xm T.vis T.Afo
def TT:List TypeId:=PT++[102,143,177,73,5]
theorem Aro:∀t∈PT,t∈TT:=fun _ ht=>List.mem_append_left _ ht
structure TMx(Z:Zn)(w:World)(t:Nat)(T:Ter)(P:Pt):Prop where
 blk:Block w t 102 (S6 T P)
 main:Block w P.hm 143 (shA P.xm T.main.sv)
 aside:∀o,T.other=some o->Block w P.ho 143 (shA P.xo o.sv)/\P.ho≠P.hm/\Z P.ho
 scr:Y0 Z w T P
 V3:Tbs.G2 w P.tb T.tn T.tf
 jr:w.ownsRow 0 73 10 P.jv T.jr.length (fl evL T.jr)
 rp:Kys.Row w 0 5 P.rv T.rp
 zt:Z t
 zm:Z P.hm
 zb:Z P.tb
 zj:∀g,P.jv.ownBlock=some g->Z g
 zr:∀g,P.rv.ownBlock=some g->Z g
 up:∀k,w.heap.size<=k->Z k
 low:∀k,k<6->¬Z k
 tbl:Tbl w
def TM(Z:Zn)(w:World)(t:Nat)(T:Ter):Prop:=∃P,TMx Z w t T P
section
variable {Z:Zn}{w w':World}{t:Nat}{T:Ter}{P:Pt}
theorem R0{B:Nat}{e:TypeId}{v:Value}{l:List Int}(h:Kys.Row w B e v l):∀g,v.ownBlock=some g->Typ w g e:=fun g hg=>by
 rcases h with⟨rfl,_⟩|⟨x,cap,cur,fz,rfl,_,hh,_⟩
 ·cases hg
 ·obtain rfl:x=g:=by simpa[Value.ownBlock]using hg
  exact⟨cur,fz,hh⟩
theorem W8{B:Nat}{e:TypeId}{v:Value}{l:List Int}(h:Kys.Row w B e v l)(hv:∀g,v.ownBlock=some g->w'.heap[g]?=w.heap[g]?):Kys.Row w' B e v l:=by
 rcases h with h|⟨x,cap,cur,fz,rfl,hB,hh,r⟩
 ·exact .inl h
 ·exact .inr ⟨x,cap,cur,fz,rfl,hB,(hv x rfl).trans hh,r⟩
theorem Aax{k:Nat}{ty:TypeId}(h:Typ w k ty):k<w.heap.size:=by
 obtain⟨cs,fz,h⟩:=h
 exact(Array.getElem?_eq_some_iff.1 h).1
theorem Y0.fr{B:Zn}{ts:List TypeId}(h:Y0 Z w T P)(hf:Scn.Fr B ts w w')(hn:P0 ts):Y0 Z w' T P:=by
 unfold Y0 at h |-
 split at h
 ·exact h.fr hf hn
 ·exact h.fr hf hn
theorem TMx.kept(h:TMx Z w t T P){B:Zn}{ts:List TypeId}(hf:Scn.Fr B ts w w')(hn:∀x∈TT,x∉ts)(N1:∀k,k<6->¬B k):TMx Z w' t T P:=by
 have E8:∀ {k:Nat} {ty:TypeId},Typ w k ty->ty∈TT->w'.heap[k]?=w.heap[k]?:=fun hk hty=>hf.block _ (Aax hk) (.inr fun t' ht' hT=>hn _ hty (by rw[Typ.inj hk hT];exact ht'))
 have same:∀ {k:Nat} {ty:TypeId} {cs:Array Value},Block w k ty cs->ty∈TT->Block w' k ty cs:=fun hb hty=>(E8 (Block.typ hb) hty).trans hb
 exact⟨same h.blk (by simp[TT]),same h.main (by simp[TT]),fun o ho=>⟨same (h.aside o ho).1 (by simp[TT]),(h.aside o ho).2⟩,h.scr.fr hf (fun x hx=>hn x (Aro x hx)),same h.V3 (by simp[TT]),
  V4 h.jr (fun g hg=>E8 (M4 h.jr g hg) (by simp[TT])),W8 h.rp (fun g hg=>E8 (R0 h.rp g hg) (by simp[TT])),h.zt,h.zm,h.zb,h.zj,h.zr,fun k hk=>h.up k (Nat.le_trans hf.size hk),h.low,h.tbl.fr hf N1⟩
theorem TMx.below(h:TMx Z w t T P)(hb:Below w.heap.size w w'):TMx Z w' t T P:=h.kept (B:=fun _=>False) (ts:=[]) (Scn.Fr.A1 hb) (by simp) (by simp)
theorem TMx.drew(h:TMx Z w t T P)(n:Nat):TMx Z (w.drewN n) t T P:=h.below (C7 (Below.refl _ _) n)
theorem TMx.tm(h:TMx Z w t T P):TM Z w t T:=⟨P,h⟩
theorem TM.below(h:TM Z w t T)(hb:Below w.heap.size w w'):TM Z w' t T:=h.imp fun _ h=>h.below hb
theorem TMx.G9(h:TMx Z w t T P){m:Mds.Md}{c:Cur}{p:Pen}{n:Nat}{e:Ev}(ho:A0 [t] w w')(hb:Block w' t 102 (S6 { T with m:=m,c:=c,p:=p,C5:=n,last:=e } P)) :
  TMx Z w' t { T with m:=m,c:=c,p:=p,C5:=n,last:=e } P/\Scn.Fr Z TT w w':=by
 have hf:Scn.Fr Z [102] w w':=Scn.Fr.I9 ho fun k hk _=>by
  obtain rfl:k=t:=by simpa using hk
  exact⟨h.zt,_,by simp,Block.typ h.blk⟩
 have E8:∀ {k:Nat} {ty:TypeId},Typ w k ty->ty≠102->w'.heap[k]?=w.heap[k]?:=fun hk hty=>ho.block _ (Aax hk) (V0 hk (Block.typ h.blk) hty)
 have same:∀ {k:Nat} {ty:TypeId} {cs:Array Value},Block w k ty cs->ty≠102->Block w' k ty cs:=fun hb hty=>(E8 (Block.typ hb) hty).trans hb
 exact⟨⟨hb,same h.main (by decide),fun o ho=>⟨same (h.aside o ho).1 (by decide),(h.aside o ho).2⟩,h.scr.fr hf (by unfold P0;decide),same h.V3 (by decide),
  V4 h.jr (fun g hg=>E8 (M4 h.jr g hg) (by decide)),W8 h.rp (fun g hg=>E8 (R0 h.rp g hg) (by decide)),h.zt,h.zm,h.zb,h.zj,h.zr,fun k hk=>h.up k (Nat.le_trans hf.size hk),h.low,h.tbl.fr hf h.low⟩,
  hf.mono (by simp[TT])⟩
def Pt.x(P:Pt)(o:Option Sh):Nat:=match o with|none=>P.xm|some _=>P.xo
def Pt.h(P:Pt)(o:Option Sh):Nat:=match o with|none=>P.hm|some _=>P.ho
structure Foc(Z:Zn)(w:World)(t:Nat)(T:Ter)(P:Pt)(Z1:Zn):Prop where
 sub:∀k,Z1 k->Z k
 sc:SC Z1 w (P.x T.other) P.s T.vis
 back:∀w' S',SC Z1 w' (P.x T.other) P.s S'->S'.most=T.most->S'.kp=T.other.isNone->Scn.Fr Z1 PT w w'->TMx Z w' t (T.C2 S') P/\Scn.Fr Z TT w w'
theorem TMx.focus(h:TMx Z w t T P):∃Z1,Foc Z w t T P Z1:=by
 have hn:∀x∈[102,143,177,73,5],x∉PT:=by decide
 have rest:∀(Z1:Zn) (w':World),(∀k,Z1 k->Z k)->Scn.Fr Z1 PT w w'->Scn.Fr Z TT w w':=fun Z1 w' hs hf=>(hf.Afp hs).mono Aro
 have E8:∀ {Z1:Zn} {w':World},Scn.Fr Z1 PT w w'->∀ {k:Nat} {ty:TypeId},Typ w k ty->ty∉PT->w'.heap[k]?=w.heap[k]?:=fun {Z1 w'} hf {k ty} hk hty=>hf.block _ (Aax hk) (.inr fun t' ht' hT=>hty (by rw[Typ.inj hk hT];exact ht'))
 have same:∀ {Z1:Zn} {w':World},Scn.Fr Z1 PT w w'->∀ {k:Nat} {ty:TypeId} {cs:Array Value},Block w k ty cs->ty∉PT->Block w' k ty cs:=fun {Z1 w'} hf {k ty cs} hb hty=>(E8 hf (Block.typ hb) hty).trans hb
 obtain⟨P6,Ant,Con,Afm,Bpi,hjr,hrp,hzt,hzm,hzb,hzj,hzr,hup,N1,Brk⟩:=h
 unfold Y0 at Afm
 rcases hoo:T.other with _|o
 ·rw[hoo]at Afm
  refine⟨Z,⟨fun _ h=>h,by rw[hoo];exact Afm,fun w' S' hS hmo hkp hf=>⟨?_,rest Z w' (fun _ h=>h) hf⟩⟩⟩
  have hv:(T.C2 S')={ T with nx:=S'.nx,R:=S'.R,main:=T.main.of S' }:=by unfold Ter.C2;rw[hoo]
  rw[hv]
  refine⟨same hf P6 (by decide),same hf Ant (by decide),fun o ho=>(by rw[hoo] at ho;cases ho),?_,same hf Bpi (by decide),V4 hjr (fun g hg=>E8 hf (M4 hjr g hg) (by decide)),W8 hrp (fun g hg=>E8 hf (R0 hrp g hg) (by decide)),
   hzt,hzm,hzb,hzj,hzr,fun k hk=>hup k (Nat.le_trans hf.size hk),N1,Brk.fr hf N1⟩
  unfold Y0
  rw[hoo]at hS hkp |-
  obtain⟨nx,most,kp,cols,top,bot,L,R⟩:=S'
  simp only at hmo hkp
  subst hmo hkp
  simpa[Ter.vis,Ter.sh,Sh.scr,Sh.of,hoo,Pt.x]using hS
 ·rw[hoo]at Afm
  obtain⟨Z1,hs,h1,hb⟩:=Afm.focus
  obtain⟨a1,a2,a3⟩:=Con o hoo
  refine⟨Z1,⟨hs,by rw[hoo];exact h1,fun w' S' hS hmo hkp hf=>⟨?_,rest Z1 w' hs hf⟩⟩⟩
  have hv:(T.C2 S')={ T with nx:=S'.nx,R:=S'.R,other:=some (o.of S') }:=by unfold Ter.C2;rw[hoo]
  rw[hv]
  have Cro:∀k,k<6->¬Z1 k:=fun k hk hz=>N1 k hk (hs k hz)
  have hA:S6 { T with nx:=S'.nx,R:=S'.R,other:=some (o.of S') } P=S6 T P:=by unfold S6;rw[hoo];rfl
  refine⟨by rw[hA];exact same hf P6 (by decide),same hf Ant (by decide),fun o2 ho2=>?_,?_,same hf Bpi (by decide),V4 hjr (fun g hg=>E8 hf (M4 hjr g hg) (by decide)),W8 hrp (fun g hg=>E8 hf (R0 hrp g hg) (by decide)),
   hzt,hzm,hzb,hzj,hzr,fun k hk=>hup k (Nat.le_trans hf.size hk),N1,Brk.fr hf Cro⟩
  ·simp only[Option.some.injEq]at ho2
   subst ho2
   exact⟨same hf a1 (by decide),a2,a3⟩
  ·unfold Y0
   rw[hoo]at hS hkp
   have h2:=hb w' S' hS hmo hf
   obtain⟨nx,most,kp,cols,top,bot,L,R⟩:=S'
   simp only at hmo hkp
   subst hmo hkp
   exact h2
end
section
variable {Z:Zn}{w:World}{t:Nat}{T:Ter}{P:Pt}
theorem TMx.c0(h:TMx Z w t T P):w.cell? ⟨t,0,none⟩=some (.bool T.m.a0):=h.blk.cell 0 rfl
theorem TMx.c1(h:TMx Z w t T P):w.cell? ⟨t,1,none⟩=some (.bool T.m.a1):=h.blk.cell 1 rfl
theorem TMx.c2(h:TMx Z w t T P):w.cell? ⟨t,2,none⟩=some (.bool T.m.a2):=h.blk.cell 2 rfl
theorem TMx.c3(h:TMx Z w t T P):w.cell? ⟨t,3,none⟩=some (.bool T.m.a3):=h.blk.cell 3 rfl
theorem TMx.c4(h:TMx Z w t T P):w.cell? ⟨t,4,none⟩=some (.bool T.m.a4):=h.blk.cell 4 rfl
theorem TMx.c5(h:TMx Z w t T P):w.cell? ⟨t,5,none⟩=some (.bool T.m.a5):=h.blk.cell 5 rfl
theorem TMx.c6(h:TMx Z w t T P):w.cell? ⟨t,6,none⟩=some (.bool T.m.a6):=h.blk.cell 6 rfl
theorem TMx.c7(h:TMx Z w t T P):w.cell? ⟨t,7,none⟩=some (.bool T.m.a7):=h.blk.cell 7 rfl
theorem TMx.c8(h:TMx Z w t T P):w.cell? ⟨t,8,none⟩=some (.int .i64 T.c.row):=h.blk.cell 8 rfl
theorem TMx.c9(h:TMx Z w t T P):w.cell? ⟨t,9,none⟩=some (.int .i64 T.c.col):=h.blk.cell 9 rfl
theorem TMx.c10(h:TMx Z w t T P):w.cell? ⟨t,10,none⟩=some (.bool T.c.F6):=h.blk.cell 10 rfl
theorem TMx.c11(h:TMx Z w t T P):w.cell? ⟨t,11,none⟩=some (.int .u32 T.p.a.f):=h.blk.cell 11 rfl
theorem TMx.c12(h:TMx Z w t T P):w.cell? ⟨t,12,none⟩=some (.int .u32 T.p.a.b):=h.blk.cell 12 rfl
theorem TMx.c13(h:TMx Z w t T P):w.cell? ⟨t,13,none⟩=some (.int .u16 T.p.a.g):=h.blk.cell 13 rfl
theorem TMx.c14(h:TMx Z w t T P):w.cell? ⟨t,14,none⟩=some (.int .u8 T.p.g0):=h.blk.cell 14 rfl
theorem TMx.c15(h:TMx Z w t T P):w.cell? ⟨t,15,none⟩=some (.int .u8 T.p.g1):=h.blk.cell 15 rfl
theorem TMx.c16(h:TMx Z w t T P):w.cell? ⟨t,16,none⟩=some (.int .i64 (whI T.p.wh)):=h.blk.cell 16 rfl
theorem TMx.c17(h:TMx Z w t T P):w.cell? ⟨t,17,none⟩=some (.pointer (some ⟨P.s,0,none⟩)):=h.blk.cell 17 rfl
theorem TMx.c18(h:TMx Z w t T P):w.cell? ⟨t,18,none⟩=some (.pointer (some ⟨P.hm,0,none⟩)):=h.blk.cell 18 rfl
theorem TMx.c19(h:TMx Z w t T P):w.cell? ⟨t,19,none⟩=some (Aiv T.other P.ho):=h.blk.cell 19 rfl
theorem TMx.c20(h:TMx Z w t T P):w.cell? ⟨t,20,none⟩=some (.pointer (some ⟨P.tb,0,none⟩)):=h.blk.cell 20 rfl
theorem TMx.c21(h:TMx Z w t T P):w.cell? ⟨t,21,none⟩=some (.int .u64 T.C5):=h.blk.cell 21 rfl
theorem TMx.c22(h:TMx Z w t T P):w.cell? ⟨t,22,none⟩=some (.int .u8 T.last.k):=h.blk.cell 22 rfl
theorem TMx.c23(h:TMx Z w t T P):w.cell? ⟨t,23,none⟩=some (.int .u64 T.last.ix):=h.blk.cell 23 rfl
theorem TMx.c24(h:TMx Z w t T P):w.cell? ⟨t,24,none⟩=some (.int .i64 T.last.line):=h.blk.cell 24 rfl
theorem TMx.c25(h:TMx Z w t T P):w.cell? ⟨t,25,none⟩=some (.int .i64 T.last.col):=h.blk.cell 25 rfl
theorem TMx.c26(h:TMx Z w t T P):w.cell? ⟨t,26,none⟩=some (.bool T.last.wide):=h.blk.cell 26 rfl
theorem TMx.c27(h:TMx Z w t T P):w.cell? ⟨t,27,none⟩=some (.int .i32 T.last.r):=h.blk.cell 27 rfl
theorem TMx.c28(h:TMx Z w t T P):w.cell? ⟨t,28,none⟩=some (.bool T.last.bl):=h.blk.cell 28 rfl
theorem TMx.c29(h:TMx Z w t T P):w.cell? ⟨t,29,none⟩=some (.bool T.last.la):=h.blk.cell 29 rfl
theorem TMx.c30(h:TMx Z w t T P):w.cell? ⟨t,30,none⟩=some (.bool T.last.fr):=h.blk.cell 30 rfl
theorem TMx.c31(h:TMx Z w t T P):w.cell? ⟨t,31,none⟩=some (.bool T.last.wr):=h.blk.cell 31 rfl
theorem TMx.c32(h:TMx Z w t T P):w.cell? ⟨t,32,none⟩=some (P.jv):=h.blk.cell 32 rfl
theorem TMx.c33(h:TMx Z w t T P):w.cell? ⟨t,33,none⟩=some (P.rv):=h.blk.cell 33 rfl
theorem TMx.free(h:TMx Z w t T P)(i:Nat):w.frozen? ⟨t,i,none⟩=false:=h.blk.free i
theorem TMx.Abx(h:TMx Z w t T P):Block w (P.h T.other) 143 (shA (P.x T.other) T.sh.sv):=by
 unfold Ter.sh Pt.h Pt.x
 rcases ho:T.other with _|o
 ·exact h.main
 ·exact(h.aside o ho).1
theorem TMx.s0(h:TMx Z w t T P):w.cell? ⟨P.h T.other,0,none⟩=some (.pointer (some ⟨P.x T.other,0,none⟩)):=h.Abx.cell 0 rfl
theorem TMx.s1(h:TMx Z w t T P):w.cell? ⟨P.h T.other,1,none⟩=some (.int .i64 T.sh.sv.c.row):=h.Abx.cell 1 rfl
theorem TMx.s2(h:TMx Z w t T P):w.cell? ⟨P.h T.other,2,none⟩=some (.int .i64 T.sh.sv.c.col):=h.Abx.cell 2 rfl
theorem TMx.s3(h:TMx Z w t T P):w.cell? ⟨P.h T.other,3,none⟩=some (.bool T.sh.sv.c.F6):=h.Abx.cell 3 rfl
theorem TMx.s4(h:TMx Z w t T P):w.cell? ⟨P.h T.other,4,none⟩=some (.int .u32 T.sh.sv.p.a.f):=h.Abx.cell 4 rfl
theorem TMx.s5(h:TMx Z w t T P):w.cell? ⟨P.h T.other,5,none⟩=some (.int .u32 T.sh.sv.p.a.b):=h.Abx.cell 5 rfl
theorem TMx.s6(h:TMx Z w t T P):w.cell? ⟨P.h T.other,6,none⟩=some (.int .u16 T.sh.sv.p.a.g):=h.Abx.cell 6 rfl
theorem TMx.s7(h:TMx Z w t T P):w.cell? ⟨P.h T.other,7,none⟩=some (.int .u8 T.sh.sv.p.g0):=h.Abx.cell 7 rfl
theorem TMx.s8(h:TMx Z w t T P):w.cell? ⟨P.h T.other,8,none⟩=some (.int .u8 T.sh.sv.p.g1):=h.Abx.cell 8 rfl
theorem TMx.s9(h:TMx Z w t T P):w.cell? ⟨P.h T.other,9,none⟩=some (.int .i64 (whI T.sh.sv.p.wh)):=h.Abx.cell 9 rfl
theorem TMx.s10(h:TMx Z w t T P):w.cell? ⟨P.h T.other,10,none⟩=some (.bool T.sh.sv.org):=h.Abx.cell 10 rfl
end
end Go.Proofs.YtecnpoigegiooaaGreatDoor.Emu
namespace Go.Proofs.YtecnpoigegiooaaGreatDoor.Emu
open Go.Proofs.Tryz
open Go Go.ChangeShapes Go.WideShapes Go.ChangeAt RowKit Go.Deep Com
theorem own:ownKnob prog.godebug=none:=by kernel_rfl
theorem laidOut:laidOutB prog=true:=by kernel_rfl
theorem Bqo:prog.globalNamed "math/bits.deBruijn32tab"=some 4:=by kernel_rfl
theorem Cvd:(prog.globals[4]?).map (·.type)=some 309:=by kernel_rfl
theorem Bqp:prog.globalNamed "math/bits.deBruijn64tab"=some 3:=by kernel_rfl
theorem Cve:(prog.globals[3]?).map (·.type)=some 292:=by kernel_rfl
theorem Bqs:prog.globalNamed "internal/strconv.uint64pow10"=some 2:=by kernel_rfl
theorem Cvh:(prog.globals[2]?).map (·.type)=some 274:=by kernel_rfl
theorem Axk:prog.globalNamed "tactile/chartab.widths"=some 0:=by kernel_rfl
theorem Cvi:(prog.globals[0]?).map (·.type)=some 228:=by kernel_rfl
theorem Bqr:prog.globalNamed "tactile/chartab.graphics"=some 1:=by kernel_rfl
theorem Cvg:(prog.globals[1]?).map (·.type)=some 260:=by kernel_rfl
theorem Bqq:prog.globalNamed "tactile/sgr.flags"=some 5:=by kernel_rfl
theorem Cvf:(prog.globals[5]?).map (·.type)=some 154:=by kernel_rfl
theorem cU8:prog.cellsOf 5=1:=by kernel_rfl
theorem Cte:prog.cellsOf 58=1:=by kernel_rfl
theorem Bqj:prog.cellsOf 3=1:=by kernel_rfl
theorem Bdq:prog.cellsOf 21=1:=by kernel_rfl
theorem c32:prog.cellsOf 309=32:=by kernel_rfl
theorem c64:prog.cellsOf 292=64:=by kernel_rfl
theorem c20:prog.cellsOf 274=20:=by kernel_rfl
theorem c31:prog.cellsOf 260=31:=by kernel_rfl
theorem c8:prog.cellsOf 154=8:=by kernel_rfl
theorem Cqx:prog.cellsOf 227=3:=by kernel_rfl
def Apw{H:Type}(x:Int×Int×Int):DataW H:=.agg [.lit (.int .i32 x.1),.lit (.int .i32 x.2.1),.lit (.int .u8 x.2.2)]
theorem Byl{H:Type}{enc:TypeId×Value->H}{w:World}{base:Nat}{sp:Nat->Bool}{held:Bool}{fuel:Nat}{t n:Nat}{cs:List Value}{l:List (Int×Int×Int)}{p:List MemPlace}
  (ht:prog.underlying t=some (.array n 227)) (h:DataW.trod enc prog w base sp held fuel t cs=some (.agg (l.map Apw),p)) (k:Nat) (hk:k<n) :
  cs[k*3]?=some (.int .i32 (l.getD k (0,0,0)).1)/\cs[k*3+1]?=some (.int .i32 (l.getD k (0,0,0)).2.1)/\cs[k*3+2]?=some (.int .u8 (l.getD k (0,0,0)).2.2):=by
 obtain⟨xs,m,-,hx,-,hn,hel⟩:=DataW.trod_array ht h
 have hk':=hel k hk
 rw[Cqx]at hk'
 have hl:l.map Apw=xs.map (·.1):=by
  have:=congrArg Prod.fst hx
  simpa using this
 have hlen:l.length=n:=by
  have:=congrArg List.length hl
  simpa[hn]using this
 have hkl:k<l.length:=by omega
 have hkx:k<xs.length:=by omega
 rw[List.getElem?_eq_getElem hkx]at hk'
 have hd:Apw (l[k]'hkl)=(xs[k]'hkx).1:=by
  have:=congrArg (·[k]?) hl
  simpa[hkl,hkx]using this
 obtain⟨y0,y1,y2,m',hy,-,e0,e1,e2⟩:=trod_struct3 underlying227 hk'
 rw[Bdq]at e0 e1
 rw[cU8]at e2
 obtain⟨z0,q0,rfl,-⟩:=DataW.trod_int underlying21 e0
 obtain⟨z1,q1,rfl,-⟩:=DataW.trod_int underlying21 e1
 obtain⟨z2,q2,rfl,-⟩:=DataW.trod_int underlying5 e2
 rw[hy]at hd
 simp only[Apw,DataW.agg.injEq,List.cons.injEq,DataW.lit.injEq,Lit.int.injEq,true_and,and_true]at hd
 obtain⟨d0,d1,d2⟩:=hd
 have hg:l.getD k (0,0,0)=l[k]'hkl:=by simp[List.getD,hkl]
 rw[hg,d0,d1,d2]
 refine⟨?_,?_,?_⟩
 ·have:=congrArg (·[0]?) q0
  simpa[List.getElem?_take,List.getElem?_drop]using this
 ·have:=congrArg (·[0]?) q1
  simpa[List.getElem?_take,List.getElem?_drop]using this
 ·have:=congrArg (·[0]?) q2
  simpa[List.getElem?_take,List.getElem?_drop]using this
theorem Bfl{w:World}{a:Addr}{v:Value}(h:w.cell? a=some v):a.block<w.heap.size:=by
 unfold World.cell? at h
 by_cases c:a.block<w.heap.size
 ·exact c
 ·rw[Array.getElem?_eq_none (by omega)]at h
  cases h
def Arm:List (String×DataW Unit):=[("math/bits.deBruijn32tab",Rows.laid_math_bits_deBruijn32tab),("math/bits.deBruijn64tab",Rows.laid_math_bits_deBruijn64tab),("internal/strconv.uint64pow10",Rows.laid_internal_strconv_uint64pow10),("tactile/chartab.widths",Rows.laid_tactile_chartab_widths),("tactile/chartab.graphics",Rows.laid_tactile_chartab_graphics),("tactile/sgr.flags",Rows.laid_tactile_sgr_flags)]
theorem Ane{w w':World}(hb:Below 6 w w'){g k:Nat}(hg:g<6){v:Value}(h:w.cell? ⟨g,k,none⟩=some v):w'.cell? ⟨g,k,none⟩=some v:=(World.cell?_of_block (w:=w) (hb.block g hg)).trans h
theorem Bvr{W:World}(h:laidMetH prog Arm W):Tbl W:=by
 rw[MakeChecks.laidMetH_plain _ _ _ (by kernel_rfl)]at h
 obtain⟨ps,⟨i0,u0,cs0,f0,p0,q0,hg0,ht0,hv0,hd0,⟨i1,u1,cs1,f1,p1,q1,hg1,ht1,hv1,hd1,⟨i2,u2,cs2,f2,p2,q2,hg2,ht2,hv2,hd2,⟨i3,u3,cs3,f3,p3,q3,hg3,ht3,hv3,hd3,⟨i4,u4,cs4,f4,p4,q4,hg4,ht4,hv4,hd4,⟨i5,u5,cs5,f5,p5,q5,hg5,ht5,hv5,hd5,_,_⟩,_⟩,_⟩,_⟩,_⟩,_⟩,_,_⟩:=h
 obtain rfl:=Option.some.inj (Bqo.symm.trans hg0)
 obtain rfl:=Option.some.inj (Cvd.symm.trans ht0)
 obtain rfl:=Option.some.inj (Bqp.symm.trans hg1)
 obtain rfl:=Option.some.inj (Cve.symm.trans ht1)
 obtain rfl:=Option.some.inj (Bqs.symm.trans hg2)
 obtain rfl:=Option.some.inj (Cvh.symm.trans ht2)
 obtain rfl:=Option.some.inj (Axk.symm.trans hg3)
 obtain rfl:=Option.some.inj (Cvi.symm.trans ht3)
 obtain rfl:=Option.some.inj (Bqr.symm.trans hg4)
 obtain rfl:=Option.some.inj (Cvg.symm.trans ht4)
 obtain rfl:=Option.some.inj (Bqq.symm.trans hg5)
 obtain rfl:=Option.some.inj (Cvf.symm.trans ht5)
 have r0:=Lib.cells_of_tab (zs:=Lib.deBruijn32tab.map fun(n:Nat)=>(n:Int)) underlying309 underlying5 cU8 c32 (show _=some (Lib.tabData .u8 (Lib.deBruijn32tab.map fun(n:Nat)=>(n:Int)),p0)from hd0)
 have r1:=Lib.cells_of_tab (zs:=Lib.deBruijn64tab.map fun(n:Nat)=>(n:Int)) underlying292 underlying5 cU8 c64 (show _=some (Lib.tabData .u8 (Lib.deBruijn64tab.map fun(n:Nat)=>(n:Int)),p1)from hd1)
 have r2:=Lib.cells_of_tab (zs:=Lib.pow10Tab) underlying274 underlying58 Cte c20 (show _=some (Lib.tabData .u64 Lib.pow10Tab,p2)from hd2)
 have r3:=Byl (l:=Cht.X9) underlying228 (show _=some (DataW.agg (Cht.X9.map Apw),p3)from hd3)
 have r4:=Lib.cells_of_tab (zs:=Cht.Ajr) underlying260 underlying21 Bdq c31 (show _=some (Lib.tabData .i32 Cht.Ajr,p4)from hd4)
 have r5:=Lib.cells_of_tab (zs:=Sgr.tab) underlying154 underlying3 Bqj c8 (show _=some (Lib.tabData .i64 Sgr.tab,p5)from hd5)
 have hc0:W.cell? ⟨4,0,none⟩=some (.int .u8 0):=by
  rw[World.var?_cell Bqo hv0 0,<- Array.getElem?_toList,r0]
  rfl
 have hc1:∀k,k<64->W.cell? ⟨3,k,none⟩=some (.int .u8 (Lib.deBruijn64tab.getD k 0)):=fun k hk=>by
  have hk':k<Lib.deBruijn64tab.length:=hk
  rw[World.var?_cell Bqp hv1 k,<- Array.getElem?_toList,r1]
  simp[List.getD,hk']
 have hc4:∀k,k<31->W.cell? ⟨1,k,none⟩=some (.int .i32 (Cht.Ajr.getD k 0)):=fun k hk=>by
  have hk':k<Cht.Ajr.length:=hk
  rw[World.var?_cell Bqr hv4 k,<- Array.getElem?_toList,r4]
  simp[List.getD,hk']
 have hc5:∀k,k<8->W.cell? ⟨5,k,none⟩=some (.int .i64 (Sgr.tab.getD k 0)):=fun k hk=>by
  have hk':k<Sgr.tab.length:=hk
  rw[World.var?_cell Bqq hv5 k,<- Array.getElem?_toList,r5]
  simp[List.getD,hk']
 have hc3:∀k,k<29->W.cell? ⟨0,k*3,none⟩=some (.int .i32 (Cht.X9.getD k (0,0,0)).1)/\W.cell? ⟨0,k*3+1,none⟩=some (.int .i32 (Cht.X9.getD k (0,0,0)).2.1)/\W.cell? ⟨0,k*3+2,none⟩=some (.int .u8 (Cht.X9.getD k (0,0,0)).2.2):=fun k hk=>by
  obtain⟨a,b,c⟩:=r3 k hk
  exact⟨by rw[World.var?_cell Axk hv3,<- Array.getElem?_toList];exact a,by rw[World.var?_cell Axk hv3,<- Array.getElem?_toList];exact b,by rw[World.var?_cell Axk hv3,<- Array.getElem?_toList];exact c⟩
 have h6:6<=W.heap.size:=by
  have a:=Bfl hc0
  have b:=Bfl (hc5 0 (by omega))
  simp only at a b
  omega
 have hP:Kys.Tab W:=by
  show Lib.TabIs prog W "internal/strconv.uint64pow10" .u64 Lib.pow10Tab
  unfold Lib.TabIs
  rw[hv2,<- r2]
 refine⟨h6,fun w' hb=>⟨⟨Nat.le_trans (show 3<=6 by decide) (Nat.le_trans h6 hb.size),fun k hk=>?_,fun k hk=>Ane hb (by decide) (hc4 k hk)⟩,⟨Nat.le_trans (show 3<6 by decide) (Nat.le_trans h6 hb.size),fun k hk=>Ane hb (by decide) (hc1 k hk)⟩,⟨Nat.le_trans (show 5<6 by decide) (Nat.le_trans h6 hb.size),fun k hk=>Ane hb (by decide) (hc5 k hk)⟩,?_⟩⟩
 ·obtain⟨a,b,c⟩:=hc3 k hk
  exact⟨Ane hb (by decide) a,Ane hb (by decide) b,Ane hb (by decide) c⟩
 ·show Lib.TabIs prog w' "internal/strconv.uint64pow10" .u64 Lib.pow10Tab
  have h1:Lib.TabIs prog W "internal/strconv.uint64pow10" .u64 Lib.pow10Tab:=hP
  unfold Lib.TabIs World.var? at *
  rw[Bqs]at h1 |-
  simp only[Option.bind_some]at h1 |-
  rw[hb.block _ (by decide)]
  exact h1
theorem Cdx(os:Os)(args:Array Value):laidMetH prog Arm ((World.doorLaid prog 400 os).forCall (fun _ _=>0) ⟨#[],args,[]⟩).memory :=
 laidMetH_of_parts3 (fuel:=8) (laidMet_of_run' 8 (by kernel_rfl) (by kernel_rfl)) (by kernel_rfl) (by kernel_rfl)
structure Pl3 where
 pa:Option Addr
 pc:Nat
 ia:Option Addr
 ic:Nat
 ta:Option Addr
 tc:Nat
section
variable {H:Type}{enc:TypeId×Value->H}{W:World}
theorem Awk{fuel:Nat}{t:TypeId}{k:IntKind}{v:Value}{y:DataW H×List MemPlace}(ht:prog.underlying t=some (.int k))(h:DataW.trod enc prog W 0 (fun _=>true) true fuel t [v]=some y):∃n:Int,v=.int k n/\(Lit.int k n).wf=true:=by
 obtain⟨n,q,_,w⟩:=DataW.trod_int ht h
 exact⟨n,by simpa using q,w⟩
structure OpA where
 x:AcT
 q:Pl3
 size:Bool
 rows:Int
 cols:Int
instance:Inhabited OpA:=⟨⟨⟨0,0,0,[],[],0,[]⟩,⟨none,0,none,0,none,0⟩,false,0,0⟩⟩
end
end Go.Proofs.YtecnpoigegiooaaGreatDoor.Emu
namespace Go.Proofs.YtecnpoigegiooaaGreatDoor.Hos
open Go.Proofs.Tryz
open Go RowKit Com Emu
structure Oh where
 kd:Int
 b:List Int
 rows:Int
 cols:Int
 k:Kys.Ky
 text:List Int
 ba:Option Addr
 bc:Nat
 ta:Option Addr
 tc:Nat
def ohV(o:Oh):List Value:=[.int .i64 o.kd,.slice o.ba o.b.length o.bc,.int .i64 o.rows,.int .i64 o.cols,.int .u8 o.k.kd,.int .i32 o.k.r,.int .i64 o.k.n,.int .u8 o.k.md,.slice o.ta o.text.length o.tc]
def O3(n:Int):Bool:=decide (24<n/\n<=512)
def Abe(o:Oh):Bool:=O3 o.rows||O3 o.cols||decide (600<o.b.length)||decide (200<o.text.length)
def Aac(r c b:Int)(l:List Oh):Bool:=O3 r||O3 c||decide (200<b/\b<=10000)||decide (60<l.length)||l.any Abe
def Cqt(w:World)(ao:Option Addr)(l:List Oh):Prop:=∀k (hk:k<l.length),∃ad,ao=some ad/\∀j v,(ohV l[k])[j]?=some v->w.cell? ((ad.add (k*9)).add j)=some v
section
variable {w w':World}{ao:Option Addr}{n cp:Nat}{l:List Oh}
theorem Apz(n:Int)(w:World):Calls prog 15 #[.int .i64 n] w fun e w'=>e=.returned (.bool (O3 n))/\w=w':=by
 by_cases h1:24<n
 ·by_cases h2:n<=512
  ·have hE:Hid (O3 n=true):=J0 (decide_eq_true ⟨h1,h2⟩)
   go_enter func15,ntmps15
   go_wp2
   go_ret
   rw[hE.out]
   exact⟨rfl,rfl⟩
  ·have hE:Hid (O3 n=false):=J0 (decide_eq_false fun h=>h2 h.2)
   go_enter func15,ntmps15
   go_wp2
   go_ret
   rw[hE.out]
   exact⟨rfl,rfl⟩
 ·have hE:Hid (O3 n=false):=J0 (decide_eq_false fun h=>h1 h.1)
  go_enter func15,ntmps15
  go_wp2
  go_ret
  rw[hE.out]
  exact⟨rfl,rfl⟩
theorem Avw{n:Int}{b:Bool}(h:O3 n=b)(w:World):Calls prog 15 #[.int .i64 n] w fun e w'=>e=.returned (.bool b)/\w=w':=h▸Apz n w
theorem Cal(r c b:Int)(hl:Cqt w ao l)(hn:l.length=n):Calls prog 5 #[.int .i64 r,.int .i64 c,.int .i64 b,.slice ao n cp] w fun e w'=>e=.returned (.bool (Aac r c b l))/\w=w':=by
 by_cases h1:O3 r=true
 ·have hE:Hid (Aac r c b l=true):=J0 (by unfold Aac;simp[h1])
  have q1:=J0 (fun w=>Avw h1 w)
  clear h1 hl hn
  go_enter func5,ntmps5
  go_wp2_with((go_at_call 15;(with_reducible refine(q1.out _).mono ?_);rintro e w1 ⟨rfl,rfl⟩))
  go_ret
  rw[hE.out]
  exact⟨rfl,rfl⟩
 have h1':O3 r=false:=by simpa using h1
 have q1:=J0 (fun w=>Avw h1' w)
 by_cases h2:O3 c=true
 ·have hE:Hid (Aac r c b l=true):=J0 (by unfold Aac;simp[h2])
  have q2:=J0 (fun w=>Avw h2 w)
  clear h1 h1' h2 hl hn
  go_enter func5,ntmps5
  go_wp2_with(first|(go_at_call 15;(with_reducible refine(q1.out _).mono ?_);rintro e w1 ⟨rfl,rfl⟩)|(go_at_call 15;(with_reducible refine(q2.out _).mono ?_);rintro e w1 ⟨rfl,rfl⟩))
  go_ret
  rw[hE.out]
  exact⟨rfl,rfl⟩
 have h2':O3 c=false:=by simpa using h2
 have q2:=J0 (fun w=>Avw h2' w)
 by_cases h3:200<b/\b<=10000
 ·have hE:Hid (Aac r c b l=true):=J0 (by unfold Aac;simp[h3])
  obtain⟨h3,h3b⟩:=h3
  clear h1 h1' h2 h2' hl hn
  go_enter func5,ntmps5
  go_wp2_with(first|(go_at_call 15;(with_reducible refine(q1.out _).mono ?_);rintro e w1 ⟨rfl,rfl⟩)|(go_at_call 15;(with_reducible refine(q2.out _).mono ?_);rintro e w1 ⟨rfl,rfl⟩))
  go_ret
  rw[hE.out]
  exact⟨rfl,rfl⟩
 by_cases h4:60<n
 ·have hE:Hid (Aac r c b l=true):=J0 (by unfold Aac;simp[hn,h4])
  have h4I:(60:Int)<(n:Int):=by omega
  clear h1 h1' h2 h2' hl hn
  by_cases h5:200<b
  ·have h6:¬b<=10000:=fun h=>h3 ⟨h5,h⟩
   clear h3
   go_enter func5,ntmps5
   go_wp2_with(first|(go_at_call 15;(with_reducible refine(q1.out _).mono ?_);rintro e w1 ⟨rfl,rfl⟩)|(go_at_call 15;(with_reducible refine(q2.out _).mono ?_);rintro e w1 ⟨rfl,rfl⟩))
   go_ret
   rw[hE.out]
   exact⟨rfl,rfl⟩
  ·clear h3
   go_enter func5,ntmps5
   go_wp2_with(first|(go_at_call 15;(with_reducible refine(q1.out _).mono ?_);rintro e w1 ⟨rfl,rfl⟩)|(go_at_call 15;(with_reducible refine(q2.out _).mono ?_);rintro e w1 ⟨rfl,rfl⟩))
   go_ret
   rw[hE.out]
   exact⟨rfl,rfl⟩
 have h4I:¬(60:Int)<(n:Int):=by omega
 have hE:Hid (Aac r c b l=l.any Abe):=J0 (by unfold Aac;simp[h1',h2',h3,hn,h4])
 rw[hE.out]
 clear h1 h1' h2 h2' hE
 replace hl:=J0 hl
 replace hn:=J0 hn
 have hw3:Hid (200<b->¬b<=10000):=J0 fun h5 h=>h3 ⟨h5,h⟩
 clear h3
 by_cases h5:200<b
 ·have h6:=hw3.out h5
  clear hw3
  go_enter func5,ntmps5
  go_wp2_with(first|(go_at_call 15;(with_reducible refine(q1.out _).mono ?_);rintro e w1 ⟨rfl,rfl⟩)|(go_at_call 15;(with_reducible refine(q2.out _).mono ?_);rintro e w1 ⟨rfl,rfl⟩))
  clear q1 q2
  go_loopw [34] (fun i wr=>∃k:Nat,k<=n/\i=.int .i64 k/\w=wr/\Hid ((l.take k).any Abe=false)) (fun i _=>n-(intOf i).toNat)
  case atStart=>exact⟨0,Nat.zero_le _,rfl,rfl,J0 rfl⟩
  case round =>
   obtain⟨k,hk,rfl,rfl,hQ⟩:=hrel
   by_cases hlt:k<n
   ·have hkI:(k:Int)<(n:Int):=by omega
    have hkl:k<l.length:=by rw[hn.out];exact hlt
    obtain⟨ad,rfl,hcl⟩:=hl.out k hkl
    have L5:Hid (Abe l[k]=true->l.any Abe=true):=J0 fun h=>List.any_eq_true.2 ⟨_,List.getElem_mem hkl,h⟩
    have hno:Hid (Abe l[k]=false->(l.take (k+1)).any Abe=false):=J0 fun h=>by
     rw[List.take_succ_eq_append_getElem hkl,List.any_append,hQ.out]
     simp[h]
    have x1:w.cell? ⟨(ad.add (k*9)).block,(ad.add (k*9)).off+1,none⟩=some (.slice l[k].ba l[k].b.length l[k].bc):=hcl 1 _ rfl
    have x2:w.cell? ⟨(ad.add (k*9)).block,(ad.add (k*9)).off+2,none⟩=some (.int .i64 l[k].rows):=hcl 2 _ rfl
    have x3:w.cell? ⟨(ad.add (k*9)).block,(ad.add (k*9)).off+3,none⟩=some (.int .i64 l[k].cols):=hcl 3 _ rfl
    have x8:w.cell? ⟨(ad.add (k*9)).block,(ad.add (k*9)).off+8,none⟩=some (.slice l[k].ta l[k].text.length l[k].tc):=hcl 8 _ rfl
    clear hcl hQ
    generalize l[k]=o at L5 hno x1 x2 x3 x8
    have p1:=fun w=>Apz o.rows w
    have p2:=fun w=>Apz o.cols w
    have N0:Hid (Abe o=(O3 o.rows||O3 o.cols||decide (600<o.b.length)||decide (200<o.text.length))):=J0 rfl
    generalize O3 o.rows=s1 at p1 N0
    generalize O3 o.cols=s2 at p2 N0
    generalize o.b.length=bl at x1 N0
    generalize o.text.length=tl at x8 N0
    generalize o.rows=orw at x2 p1
    generalize o.cols=ocl at x3 p2
    replace p1:=J0 p1
    replace p2:=J0 p2
    cases s1 with
    |true =>
     have hy:=J0 (L5.out (by rw[N0.out];rfl))
     clear L5 hno N0
     go_wp2_with((go_at_call 15;(with_reducible refine(p1.out _).mono ?_);rintro e w1 ⟨rfl,rfl⟩))
     go_ret
     rw[hy.out]
     exact⟨rfl,rfl⟩
    |false =>
    cases s2 with
    |true =>
     have hy:=J0 (L5.out (by rw[N0.out];rfl))
     clear L5 hno N0
     go_wp2_with(first|(go_at_call 15;(with_reducible refine(p1.out _).mono ?_);rintro e w1 ⟨rfl,rfl⟩)|(go_at_call 15;(with_reducible refine(p2.out _).mono ?_);rintro e w1 ⟨rfl,rfl⟩))
     go_ret
     rw[hy.out]
     exact⟨rfl,rfl⟩
    |false =>
    by_cases hb6:600<bl
    ·have hy:=J0 (L5.out (by rw[N0.out];simp[hb6]))
     have hb6I:(600:Int)<(bl:Int):=by omega
     clear L5 hno N0
     go_wp2_with(first|(go_at_call 15;(with_reducible refine(p1.out _).mono ?_);rintro e w1 ⟨rfl,rfl⟩)|(go_at_call 15;(with_reducible refine(p2.out _).mono ?_);rintro e w1 ⟨rfl,rfl⟩))
     go_ret
     rw[hy.out]
     exact⟨rfl,rfl⟩
    have hb6I:¬(600:Int)<(bl:Int):=by omega
    by_cases ht2:200<tl
    ·have hy:=J0 (L5.out (by rw[N0.out];simp[ht2]))
     have ht2I:(200:Int)<(tl:Int):=by omega
     clear L5 hno N0
     go_wp2_with(first|(go_at_call 15;(with_reducible refine(p1.out _).mono ?_);rintro e w1 ⟨rfl,rfl⟩)|(go_at_call 15;(with_reducible refine(p2.out _).mono ?_);rintro e w1 ⟨rfl,rfl⟩))
     go_ret
     rw[hy.out]
     exact⟨rfl,rfl⟩
    have ht2I:¬(200:Int)<(tl:Int):=by omega
    have Bee:=J0 (hno.out (by rw[N0.out];simp[hb6,ht2]))
    clear L5 hno N0
    go_wp2_with(first|(go_at_call 15;(with_reducible refine(p1.out _).mono ?_);rintro e w1 ⟨rfl,rfl⟩)|(go_at_call 15;(with_reducible refine(p2.out _).mono ?_);rintro e w1 ⟨rfl,rfl⟩))
    go_roundw
    case rel=>exact⟨k+1,by omega,by go_num,trivial,Bee⟩
    case measure=>simp[intOf];omega
   ·obtain rfl:k=n:=by omega
    have hE:=hQ.out
    rw[List.take_of_length_le (by rw[hn.out];exact J5 _)]at hE
    replace hE:=J0 hE
    clear hQ hl hn
    go_wp2
    go_ret
    rw[hE.out]
    exact⟨rfl,rfl⟩
 ·clear hw3
  go_enter func5,ntmps5
  go_wp2_with(first|(go_at_call 15;(with_reducible refine(q1.out _).mono ?_);rintro e w1 ⟨rfl,rfl⟩)|(go_at_call 15;(with_reducible refine(q2.out _).mono ?_);rintro e w1 ⟨rfl,rfl⟩))
  clear q1 q2
  go_loopw [34] (fun i wr=>∃k:Nat,k<=n/\i=.int .i64 k/\w=wr/\Hid ((l.take k).any Abe=false)) (fun i _=>n-(intOf i).toNat)
  case atStart=>exact⟨0,Nat.zero_le _,rfl,rfl,J0 rfl⟩
  case round =>
   obtain⟨k,hk,rfl,rfl,hQ⟩:=hrel
   by_cases hlt:k<n
   ·have hkI:(k:Int)<(n:Int):=by omega
    have hkl:k<l.length:=by rw[hn.out];exact hlt
    obtain⟨ad,rfl,hcl⟩:=hl.out k hkl
    have L5:Hid (Abe l[k]=true->l.any Abe=true):=J0 fun h=>List.any_eq_true.2 ⟨_,List.getElem_mem hkl,h⟩
    have hno:Hid (Abe l[k]=false->(l.take (k+1)).any Abe=false):=J0 fun h=>by
     rw[List.take_succ_eq_append_getElem hkl,List.any_append,hQ.out]
     simp[h]
    have x1:w.cell? ⟨(ad.add (k*9)).block,(ad.add (k*9)).off+1,none⟩=some (.slice l[k].ba l[k].b.length l[k].bc):=hcl 1 _ rfl
    have x2:w.cell? ⟨(ad.add (k*9)).block,(ad.add (k*9)).off+2,none⟩=some (.int .i64 l[k].rows):=hcl 2 _ rfl
    have x3:w.cell? ⟨(ad.add (k*9)).block,(ad.add (k*9)).off+3,none⟩=some (.int .i64 l[k].cols):=hcl 3 _ rfl
    have x8:w.cell? ⟨(ad.add (k*9)).block,(ad.add (k*9)).off+8,none⟩=some (.slice l[k].ta l[k].text.length l[k].tc):=hcl 8 _ rfl
    clear hcl hQ
    generalize l[k]=o at L5 hno x1 x2 x3 x8
    have p1:=fun w=>Apz o.rows w
    have p2:=fun w=>Apz o.cols w
    have N0:Hid (Abe o=(O3 o.rows||O3 o.cols||decide (600<o.b.length)||decide (200<o.text.length))):=J0 rfl
    generalize O3 o.rows=s1 at p1 N0
    generalize O3 o.cols=s2 at p2 N0
    generalize o.b.length=bl at x1 N0
    generalize o.text.length=tl at x8 N0
    generalize o.rows=orw at x2 p1
    generalize o.cols=ocl at x3 p2
    replace p1:=J0 p1
    replace p2:=J0 p2
    cases s1 with
    |true =>
     have hy:=J0 (L5.out (by rw[N0.out];rfl))
     clear L5 hno N0
     go_wp2_with((go_at_call 15;(with_reducible refine(p1.out _).mono ?_);rintro e w1 ⟨rfl,rfl⟩))
     go_ret
     rw[hy.out]
     exact⟨rfl,rfl⟩
    |false =>
    cases s2 with
    |true =>
     have hy:=J0 (L5.out (by rw[N0.out];rfl))
     clear L5 hno N0
     go_wp2_with(first|(go_at_call 15;(with_reducible refine(p1.out _).mono ?_);rintro e w1 ⟨rfl,rfl⟩)|(go_at_call 15;(with_reducible refine(p2.out _).mono ?_);rintro e w1 ⟨rfl,rfl⟩))
     go_ret
     rw[hy.out]
     exact⟨rfl,rfl⟩
    |false =>
    by_cases hb6:600<bl
    ·have hy:=J0 (L5.out (by rw[N0.out];simp[hb6]))
     have hb6I:(600:Int)<(bl:Int):=by omega
     clear L5 hno N0
     go_wp2_with(first|(go_at_call 15;(with_reducible refine(p1.out _).mono ?_);rintro e w1 ⟨rfl,rfl⟩)|(go_at_call 15;(with_reducible refine(p2.out _).mono ?_);rintro e w1 ⟨rfl,rfl⟩))
     go_ret
     rw[hy.out]
     exact⟨rfl,rfl⟩
    have hb6I:¬(600:Int)<(bl:Int):=by omega
    by_cases ht2:200<tl
    ·have hy:=J0 (L5.out (by rw[N0.out];simp[ht2]))
     have ht2I:(200:Int)<(tl:Int):=by omega
     clear L5 hno N0
     go_wp2_with(first|(go_at_call 15;(with_reducible refine(p1.out _).mono ?_);rintro e w1 ⟨rfl,rfl⟩)|(go_at_call 15;(with_reducible refine(p2.out _).mono ?_);rintro e w1 ⟨rfl,rfl⟩))
     go_ret
     rw[hy.out]
     exact⟨rfl,rfl⟩
    have ht2I:¬(200:Int)<(tl:Int):=by omega
    have Bee:=J0 (hno.out (by rw[N0.out];simp[hb6,ht2]))
    clear L5 hno N0
    go_wp2_with(first|(go_at_call 15;(with_reducible refine(p1.out _).mono ?_);rintro e w1 ⟨rfl,rfl⟩)|(go_at_call 15;(with_reducible refine(p2.out _).mono ?_);rintro e w1 ⟨rfl,rfl⟩))
    go_roundw
    case rel=>exact⟨k+1,by omega,by go_num,trivial,Bee⟩
    case measure=>simp[intOf];omega
   ·obtain rfl:k=n:=by omega
    have hE:=hQ.out
    rw[List.take_of_length_le (by rw[hn.out];exact J5 _)]at hE
    replace hE:=J0 hE
    clear hQ hl hn
    go_wp2
    go_ret
    rw[hE.out]
    exact⟨rfl,rfl⟩
end
