/- Part 25 of HostSplits. -/
import Derived.Test.YtecnpoigegiooaaGreatDoorP24
import Derived.Test.YtecnpoigegiooaaGreatDoorRows
import Derived.LaidMore
import Derived.Stop.Joined
import Derived.Deep.Strs
import Derived.Lib.LaidTab
set_option maxHeartbeats 16000000
set_option maxRecDepth 100000
namespace Go.Proofs.YtecnpoigegiooaaGreatDoor.Emu
open Go RowKit Com Rw Lns Scn
section
variable {Z Z':Zn}{w w':World}{x s nx most cols top bot n:Nat}{kp:Bool}{sv lv:Value}{xs:List Value}{L R:List En}
theorem LoX.zone (h:LoX Z w x s sv lv R) (hZ:∀k,Z k->Z' k):LoX Z' w x s sv lv R:=⟨hZ _ h.x,hZ _ h.s,fun g hg=>hZ _ (h.l g hg),fun g hg=>hZ _ (h.p g hg),fun e he=>⟨hZ _ (h.r e he).1,hZ _ (h.r e he).2⟩,fun k hk=>hZ _ (h.up k hk)⟩
theorem MidX.zone (h:MidX Z w x s nx most kp cols sv lv top bot n xs L R) (hZ:∀k,Z k->Z' k):MidX Z' w x s nx most kp cols sv lv top bot n xs L R :=
 ⟨⟨h.ln.blk,h.ln.own,h.ln.st,h.ln.apart,LoX.zone h.ln.lo hZ,h.ln.small⟩,h.rows,fun e he=>⟨hZ _ (h.zr e he).1,hZ _ (h.zr e he).2⟩,h.dd,h.gg⟩
theorem Ax9 {e:En} (h:RowG 0 w e) (hd:w'.heap[e.d]?=w.heap[e.d]?) (hg:w'.heap[e.g]?=w.heap[e.g]?):RowG 0 w' e:=by
 obtain⟨h1,h2,h3,n,cap,tail,hx⟩:=h
 exact⟨h1,h2,h3,n,cap,tail,⟨hd.trans hx.ptr,hg.trans hx.row,hx.len,hx.le,hx.cap,hx.pos,hx.small⟩⟩
theorem Ac1 {B:Nat} {e:TypeId} {k n:Nat} {v:Value} {xs:List Value} (h:w.ownsRow B e k v n xs) (hv:∀g,v.ownBlock=some g->w'.heap[g]?=w.heap[g]?):w'.ownsRow B e k v n xs:=by
 refine⟨h.1,?_⟩
 rcases h.2 with h2|⟨g,cap,cur,rfl,hg,hh,r⟩
 ·exact .inl h2
 ·exact .inr ⟨g,cap,cur,rfl,hg,(hv g rfl).trans hh,r⟩
end
def Two (Z:Zn) (w:World) (s x1 x2:Nat) (S1 S2:Scr):Prop :=
 ∃sv R l1 L1 l2 L2,
  MidX Z w x1 s S1.nx S1.most S1.kp S1.cols sv l1 S1.top S1.bot L1.length (fl Ac3 L1) L1 R/\vw L1=S1.L/\vw R=S1.R /\
  MidX Z w x2 s S1.nx S1.most S2.kp S2.cols sv l2 S2.top S2.bot L2.length (fl Ac3 L2) L2 R/\vw L2=S2.L /\
  x1≠x2/\(∀g,l1.ownBlock=some g->l2.ownBlock≠some g)/\((L1++L2).map En.d).Nodup/\((L1++L2).map En.g).Nodup
section
variable {Z:Zn}{w w':World}{s x1 x2:Nat}{S1 S2:Scr}
theorem Bk4 {α:Type} {f:α->Nat} {l m:List α} (h:((l++m).map f).Nodup):((m++l).map f).Nodup:=((List.perm_append_comm (l₁:=l) (l₂:=m)).map f).nodup_iff.1 h
theorem Two.swap (h:Two Z w s x1 x2 S1 S2):Two Z w s x2 x1 { S2 with nx:=S1.nx,most:=S1.most,R:=S1.R } S1:=by
 obtain⟨sv,R,l1,L1,l2,L2,h1,e1,eR,h2,e2,hx,hl,hd,hg⟩:=h
 exact⟨sv,R,l2,L2,l1,L1,h2,e2,eR,h1,e1,hx.symm,fun g h2 h1=>hl g h1 h2,Bk4 hd,Bk4 hg⟩
theorem Two.fr {B:Zn} {ts:List TypeId} (h:Two Z w s x1 x2 S1 S2) (hf:Scn.Fr B ts w w') (hn:NoPT ts):Two Z w' s x1 x2 S1 S2:=by
 obtain⟨sv,R,l1,L1,l2,L2,h1,e1,eR,h2,e2,hx,hl,hd,hg⟩:=h
 have up:=hf.size
 exact⟨sv,R,l1,L1,l2,L2,h1.fr hf hn,e1,eR,h2.fr hf hn,e2,hx,hl,hd,hg⟩
theorem Two.sc1 (h:Two Z w s x1 x2 S1 S2):SC Z w x1 s S1:=by
 obtain⟨sv,R,l1,L1,l2,L2,h1,e1,eR,h2,e2,hx,hl,hd,hg⟩:=h
 exact⟨sv,l1,L1,R,h1,e1,eR⟩
theorem Ai4 {α:Type} {f:α->Nat} {l m:List α} (h:((l++m).map f).Nodup) {a b:α} (ha:a∈l) (hb:b∈m):f a≠f b:=by
 rw[List.map_append] at h
 exact(List.nodup_append.1 h).2.2 (f a) (List.mem_map_of_mem ha) (f b) (List.mem_map_of_mem hb)
theorem Ag9 {α:Type} {f:α->Nat} {l m:List α} (hl:(l.map f).Nodup) (hm:(m.map f).Nodup) (h:∀a∈l,∀b∈m,f a≠f b):((l++m).map f).Nodup:=by
 rw[List.map_append,List.nodup_append]
 refine⟨hl,hm,fun a ha b hb=>?_⟩
 obtain⟨x,hx,rfl⟩:=List.mem_map.1 ha
 obtain⟨y,hy,rfl⟩:=List.mem_map.1 hb
 exact h x hx y hy
theorem Ae4 {α:Type} {f:α->Nat} {l m:List α} (h:((l++m).map f).Nodup):(l.map f).Nodup:=by
 rw[List.map_append] at h
 exact(List.nodup_append.1 h).1
theorem Ad6 {α:Type} {f:α->Nat} {l m:List α} (h:((l++m).map f).Nodup):(m.map f).Nodup:=by
 rw[List.map_append] at h
 exact(List.nodup_append.1 h).2.1
theorem Two.focus (h:Two Z w s x1 x2 S1 S2):∃Z1:Zn,(∀k,Z1 k->Z k)/\SC Z1 w x1 s S1 /\
  ∀w' S',SC Z1 w' x1 s S'->S'.most=S1.most->Scn.Fr Z1 PT w w'->Two Z w' s x1 x2 S' S2:=by
 obtain⟨sv,R,l1,L1,l2,L2,h1,e1,eR,h2,e2,hx,hl,hd,hg⟩:=h
 have tx2:=h2.ln.typ
 have ts:=h2.ln.st.typ
 have tl2:=fun g hg=>(h2.ln.ltyp g hg).2.2
 have hlt2:=h2.ln.blk.lt
 have ne:∀ {k k':Nat} {t t':TypeId},Typ w k t->Typ w k' t'->t≠t'->k≠k':=fun h h' ht e=>ht (Typ.inj h (e▸h'))
 let F:Zn:=fun k=>k=x2\/l2.ownBlock=some k\/∃e∈L2,k=e.d\/k=e.g
 let Z1:Zn:=fun k=>Z k/\¬F k
 have nrow:∀ {k:Nat},Typ w k 191->(∀e∈L2,k≠e.d)->¬F k:=fun hk hd' hF=>by
  rcases hF with e|e|⟨e,he,e'|e'⟩
  ·exact ne hk tx2 (by decide) e
  ·exact ne hk (tl2 _ e) (by decide) rfl
  ·exact hd' e he e'
  ·exact ne hk (h2.rows e he).typ.2 (by decide) e'
 have ncel:∀ {k:Nat},Typ w k 194->(∀e∈L2,k≠e.g)->¬F k:=fun hk hd' hF=>by
  rcases hF with e|e|⟨e,he,e'|e'⟩
  ·exact ne hk tx2 (by decide) e
  ·exact ne hk (tl2 _ e) (by decide) rfl
  ·exact ne hk (h2.rows e he).typ.1 (by decide) e'
  ·exact hd' e he e'
 have nlin:∀ {k:Nat},Typ w k 188->l2.ownBlock≠some k->¬F k:=fun hk hn hF=>by
  rcases hF with e|e|⟨e,he,e'|e'⟩
  ·exact ne hk tx2 (by decide) e
  ·exact hn e
  ·exact ne hk (h2.rows e he).typ.1 (by decide) e'
  ·exact ne hk (h2.rows e he).typ.2 (by decide) e'
 have noth:∀ {k:Nat} {t:TypeId},Typ w k t->t≠188->t≠191->t≠194->k≠x2->¬F k:=fun hk n1 n2 n3 hn hF=>by
  rcases hF with e|e|⟨e,he,e'|e'⟩
  ·exact hn e
  ·exact ne hk (tl2 _ e) n1 rfl
  ·exact ne hk (h2.rows e he).typ.1 n2 e'
  ·exact ne hk (h2.rows e he).typ.2 n3 e'
 have hlo:LoX Z1 w x1 s sv l1 R:=by
  have lo:=h1.ln.lo
  refine⟨⟨lo.x,noth h1.ln.typ (by decide) (by decide) (by decide) hx⟩,⟨lo.s,noth ts (by decide) (by decide) (by decide) (ne ts tx2 (by decide))⟩,fun g hg=>⟨lo.l g hg,nlin (h1.ln.ltyp g hg).2.2 (hl g hg)⟩,
   fun g hg=>⟨lo.p g hg,nlin (h1.ln.st.ptyp g hg).2.2 (fun e=>h2.ln.apart g e hg)⟩,fun e he=>?_,fun k hk=>⟨lo.up k hk,fun hF=>?_⟩⟩
  ·exact⟨⟨(lo.r e he).1,nrow (h1.ln.st.2 e he).typ.1 (fun e2 he2=>(Ai4 h2.dd he2 he).symm)⟩,⟨(lo.r e he).2,ncel (h1.ln.st.2 e he).typ.2 (fun e2 he2=>(Ai4 h2.gg he2 he).symm)⟩⟩
  ·rcases hF with e|e|⟨e,he,e'|e'⟩
   ·omega
   ·have:=(h2.ln.ltyp k e).2.1;omega
   ·have:=(Aj3 (h2.rows e he)).1;omega
   ·have:=(Aj3 (h2.rows e he)).2;omega
 have hm1:MidX Z1 w x1 s S1.nx S1.most S1.kp S1.cols sv l1 S1.top S1.bot L1.length (fl Ac3 L1) L1 R :=
  ⟨⟨h1.ln.blk,h1.ln.own,h1.ln.st,h1.ln.apart,hlo,h1.ln.small⟩,h1.rows,
   fun e he=>⟨⟨(h1.zr e he).1,nrow (h1.rows e he).typ.1 (fun e2 he2=>Ai4 hd he he2)⟩,⟨(h1.zr e he).2,ncel (h1.rows e he).typ.2 (fun e2 he2=>Ai4 hg he he2)⟩⟩,h1.dd,h1.gg⟩
 refine⟨Z1,fun k hk=>hk.1,⟨sv,l1,L1,R,hm1,e1,eR⟩,fun w' S' hS hmost hf=>?_⟩
 obtain⟨sv',l1',L1',R',m,f1,fR⟩:=hS
 have out:∀k,F k->¬Z1 k:=fun k hF hz=>hz.2 hF
 have same:∀k,k<w.heap.size->F k->w'.heap[k]?=w.heap[k]?:=fun k hk hF=>hf.block k hk (.inl (out k hF))
 have hb2:Block w' x2 168 #[.pointer (some ⟨s,0,none⟩),.bool S2.kp,.int .i64 S2.cols,l2,.int .i64 S2.top,.int .i64 S2.bot]:=(same x2 hlt2 (.inl rfl)).trans h2.ln.blk
 have ho2:=Ac1 (w':=w') h2.ln.own (fun g hg=>same g (h2.ln.ltyp g hg).2.1 (.inr (.inl hg)))
 have hr2:∀e∈L2,RowG 0 w' e:=fun e he=>Ax9 (h2.rows e he) (same _ (Aj3 (h2.rows e he)).1 (.inr (.inr ⟨e,he,.inl rfl⟩))) (same _ (Aj3 (h2.rows e he)).2 (.inr (.inr ⟨e,he,.inr rfl⟩)))
 have hZ:∀k,Z1 k->Z k:=fun k hk=>hk.1
 refine⟨sv',R',l1',L1',l2,L2,MidX.zone m hZ,f1,fR,⟨⟨hb2,ho2,m.ln.st,fun g hg hs=>(m.ln.lo.p g hs).2 (.inr (.inl hg)),⟨h2.ln.lo.x,h2.ln.lo.s,h2.ln.lo.l,fun g hg=>hZ _ (m.ln.lo.p g hg),fun e he=>⟨hZ _ (m.ln.lo.r e he).1,hZ _ (m.ln.lo.r e he).2⟩,fun k hk=>hZ _ (m.ln.lo.up k hk)⟩,h2.ln.small⟩,hr2,h2.zr,?_,?_⟩,e2,hx,?_,?_,?_⟩
 ·exact Ag9 (Ae4 h2.dd) (Ad6 m.dd) fun a ha b hb e=>(m.ln.lo.r b hb).1.2 (.inr (.inr ⟨a,ha,.inl e.symm⟩))
 ·exact Ag9 (Ae4 h2.gg) (Ad6 m.gg) fun a ha b hb e=>(m.ln.lo.r b hb).2.2 (.inr (.inr ⟨a,ha,.inr e.symm⟩))
 ·exact fun g hg1 hg2=>(m.ln.lo.l g hg1).2 (.inr (.inl hg2))
 ·exact Ag9 (Ae4 m.dd) (Ad6 hd) fun a ha b hb e=>(m.zr a ha).1.2 (.inr (.inr ⟨b,hb,.inl e⟩))
 ·exact Ag9 (Ae4 m.gg) (Ad6 hg) fun a ha b hb e=>(m.zr a ha).2.2 (.inr (.inr ⟨b,hb,.inr e⟩))
end
def Tbl (w:World):Prop:=6<=w.heap.size/\∀w',Below 6 w w'->Cht.Tabs w'/\Tbs.Tab w'/\Sgr.Tab w'/\Kys.Tab w'
theorem Tbl.low {w w':World} (h:Tbl w) (hb:Below 6 w w'):Tbl w':=⟨Nat.le_trans h.1 hb.size,fun w2 h2=>h.2 w2 (hb.trans h2)⟩
theorem Tbl.below {w w':World} (h:Tbl w) (hb:Below w.heap.size w w'):Tbl w':=h.low (hb.mono h.1)
theorem Tbl.cht {w:World} (h:Tbl w):Cht.Tabs w:=(h.2 w (Below.refl _ _)).1
theorem Tbl.tbs {w:World} (h:Tbl w):Tbs.Tab w:=(h.2 w (Below.refl _ _)).2.1
theorem Tbl.sgr {w:World} (h:Tbl w):Sgr.Tab w:=(h.2 w (Below.refl _ _)).2.2.1
theorem Tbl.kys {w:World} (h:Tbl w):Kys.Tab w:=(h.2 w (Below.refl _ _)).2.2.2
theorem Tbl.fr {w w':World} {Z:Zn} {ts:List TypeId} (h:Tbl w) (hf:Scn.Fr Z ts w w') (hz:∀k,k<6->¬Z k):Tbl w' :=
 h.low ⟨hf.os,hf.tape,hf.output,hf.size,fun k hk=>hf.block k (Nat.lt_of_lt_of_le hk h.1) (.inl (hz k hk))⟩
def whI (b:Bool):Int:=if b then 1 else 0
def savL (s:Sav):List Value:=[.int .i64 s.c.row,.int .i64 s.c.col,.bool s.c.pend,.int .u32 s.p.a.f,.int .u32 s.p.a.b,.int .u16 s.p.a.g,.int .u8 s.p.g0,.int .u8 s.p.g1,.int .i64 (whI s.p.wh),.bool s.org]
def shA (x:Nat) (s:Sav):Array Value:=#[.pointer (some ⟨x,0,none⟩),.int .i64 s.c.row,.int .i64 s.c.col,.bool s.c.pend,.int .u32 s.p.a.f,.int .u32 s.p.a.b,.int .u16 s.p.a.g,.int .u8 s.p.g0,.int .u8 s.p.g1,.int .i64 (whI s.p.wh),.bool s.org]
def evA (e:Ev):Array Value:=#[.int .u8 e.k,.int .u64 e.ix,.int .i64 e.line,.int .i64 e.col,.bool e.wide,.int .i32 e.r,.bool e.bl,.bool e.la,.bool e.fr,.bool e.wr]
def evL (e:Ev):List Value:=[.int .u8 e.k,.int .u64 e.ix,.int .i64 e.line,.int .i64 e.col,.bool e.wide,.int .i32 e.r,.bool e.bl,.bool e.la,.bool e.fr,.bool e.wr]
theorem Ch4 (e:Ev):∀v∈evL e,v.oneCell'=true:=by
 intro v hv
 simp only[evL,List.mem_cons,List.not_mem_nil,or_false] at hv
 rcases hv with rfl|rfl|rfl|rfl|rfl|rfl|rfl|rfl|rfl|rfl<;>rfl
structure Pt where
 s:Nat
 xm:Nat
 hm:Nat
 xo:Nat
 ho:Nat
 tb:Nat
 jv:Value
 rv:Value
def optP (o:Option Sh) (h:Nat):Value:=match o with
 |none=>.pointer none
 |some _=>.pointer (some ⟨h,0,none⟩)
def terA (T:Ter) (P:Pt):Array Value:=#[.bool T.m.a0,.bool T.m.a1,.bool T.m.a2,.bool T.m.a3,.bool T.m.a4,.bool T.m.a5,.bool T.m.a6,.bool T.m.a7,
 .int .i64 T.c.row,.int .i64 T.c.col,.bool T.c.pend,.int .u32 T.p.a.f,.int .u32 T.p.a.b,.int .u16 T.p.a.g,.int .u8 T.p.g0,.int .u8 T.p.g1,.int .i64 (whI T.p.wh),
 .pointer (some ⟨P.s,0,none⟩),.pointer (some ⟨P.hm,0,none⟩),optP T.other P.ho,.pointer (some ⟨P.tb,0,none⟩),.int .u64 T.prints,
 .int .u8 T.last.k,.int .u64 T.last.ix,.int .i64 T.last.line,.int .i64 T.last.col,.bool T.last.wide,.int .i32 T.last.r,.bool T.last.bl,.bool T.last.la,.bool T.last.fr,.bool T.last.wr,P.jv,P.rv]
def Scrs (Z:Zn) (w:World) (T:Ter) (P:Pt):Prop:=match T.other with
 |none=>SC Z w P.xm P.s T.vis
 |some _=>Two Z w P.s P.xo P.xm T.vis T.mscr
def TT:List TypeId:=PT++[102,143,177,73,5]
theorem Cl6:∀t∈PT,t∈TT:=fun _ ht=>List.mem_append_left _ ht
structure TMx (Z:Zn) (w:World) (t:Nat) (T:Ter) (P:Pt):Prop where
 blk:Block w t 102 (terA T P)
 main:Block w P.hm 143 (shA P.xm T.main.sv)
 aside:∀o,T.other=some o->Block w P.ho 143 (shA P.xo o.sv)/\P.ho≠P.hm/\Z P.ho
 scr:Scrs Z w T P
 tabs:Tbs.TabsIn w P.tb T.tn T.tf
 jr:w.ownsRow 0 73 10 P.jv T.jr.length (fl evL T.jr)
 rp:Kys.Row w 0 5 P.rv T.rp
 zt:Z t
 zm:Z P.hm
 zb:Z P.tb
 zj:∀g,P.jv.ownBlock=some g->Z g
 zr:∀g,P.rv.ownBlock=some g->Z g
 up:∀k,w.heap.size<=k->Z k
 low:∀k,k<6->¬Z k
 tbl:Tbl w
def TM (Z:Zn) (w:World) (t:Nat) (T:Ter):Prop:=∃P,TMx Z w t T P
section
variable {Z:Zn}{w w':World}{t:Nat}{T:Ter}{P:Pt}
theorem Ad2 {B:Nat} {e:TypeId} {v:Value} {l:List Int} (h:Kys.Row w B e v l):∀g,v.ownBlock=some g->Typ w g e:=fun g hg=>by
 rcases h with ⟨rfl,_⟩|⟨x,cap,cur,fz,rfl,_,hh,_⟩
 ·cases hg
 ·obtain rfl:x=g:=by simpa[Value.ownBlock] using hg
  exact⟨cur,fz,hh⟩
theorem Ad3 {B:Nat} {e:TypeId} {v:Value} {l:List Int} (h:Kys.Row w B e v l) (hv:∀g,v.ownBlock=some g->w'.heap[g]?=w.heap[g]?):Kys.Row w' B e v l:=by
 rcases h with h|⟨x,cap,cur,fz,rfl,hB,hh,r⟩
 ·exact .inl h
 ·exact .inr ⟨x,cap,cur,fz,rfl,hB,(hv x rfl).trans hh,r⟩
theorem Al0 {k:Nat} {ty:TypeId} (h:Typ w k ty):k<w.heap.size:=by
 obtain⟨cs,fz,h⟩:=h
 exact(Array.getElem?_eq_some_iff.1 h).1
theorem Scrs.fr {B:Zn} {ts:List TypeId} (h:Scrs Z w T P) (hf:Scn.Fr B ts w w') (hn:NoPT ts):Scrs Z w' T P:=by
 unfold Scrs at h |-
 split at h
 ·exact h.fr hf hn
 ·exact h.fr hf hn
theorem TMx.kept (h:TMx Z w t T P) {B:Zn} {ts:List TypeId} (hf:Scn.Fr B ts w w') (hn:∀x∈TT,x∉ts) (hlow:∀k,k<6->¬B k):TMx Z w' t T P:=by
 have keep:∀ {k:Nat} {ty:TypeId},Typ w k ty->ty∈TT->w'.heap[k]?=w.heap[k]?:=fun hk hty=>hf.block _ (Al0 hk) (.inr fun t' ht' hT=>hn _ hty (by rw[Typ.inj hk hT];exact ht'))
 have same:∀ {k:Nat} {ty:TypeId} {cs:Array Value},Block w k ty cs->ty∈TT->Block w' k ty cs:=fun hb hty=>(keep (Block.typ hb) hty).trans hb
 exact⟨same h.blk (by simp[TT]),same h.main (by simp[TT]),fun o ho=>⟨same (h.aside o ho).1 (by simp[TT]),(h.aside o ho).2⟩,h.scr.fr hf (fun x hx=>hn x (Cl6 x hx)),same h.tabs (by simp[TT]),
  Ac1 h.jr (fun g hg=>keep (Ab9 h.jr g hg) (by simp[TT])),Ad3 h.rp (fun g hg=>keep (Ad2 h.rp g hg) (by simp[TT])),h.zt,h.zm,h.zb,h.zj,h.zr,fun k hk=>h.up k (Nat.le_trans hf.size hk),h.low,h.tbl.fr hf hlow⟩
theorem TMx.below (h:TMx Z w t T P) (hb:Below w.heap.size w w'):TMx Z w' t T P:=h.kept (B:=fun _=>False) (ts:=[]) (Scn.Fr.of_below hb) (by simp) (by simp)
theorem TMx.drew (h:TMx Z w t T P) (n:Nat):TMx Z (w.drewN n) t T P:=h.below (Aa4 (Below.refl _ _) n)
theorem TMx.tm (h:TMx Z w t T P):TM Z w t T:=⟨P,h⟩
theorem TM.below (h:TM Z w t T) (hb:Below w.heap.size w w'):TM Z w' t T:=h.imp fun _ h=>h.below hb
theorem TMx.turn (h:TMx Z w t T P) {m:Mds.Md} {c:Cur} {p:Pen} {n:Nat} {e:Ev} (ho:Only [t] w w') (hb:Block w' t 102 (terA { T with m:=m,c:=c,p:=p,prints:=n,last:=e } P)) :
  TMx Z w' t { T with m:=m,c:=c,p:=p,prints:=n,last:=e } P/\Scn.Fr Z TT w w':=by
 have hf:Scn.Fr Z [102] w w':=Scn.Fr.of_only ho fun k hk _=>by
  obtain rfl:k=t:=by simpa using hk
  exact⟨h.zt,_,by simp,Block.typ h.blk⟩
 have keep:∀ {k:Nat} {ty:TypeId},Typ w k ty->ty≠102->w'.heap[k]?=w.heap[k]?:=fun hk hty=>ho.block _ (Al0 hk) (Ad9 hk (Block.typ h.blk) hty)
 have same:∀ {k:Nat} {ty:TypeId} {cs:Array Value},Block w k ty cs->ty≠102->Block w' k ty cs:=fun hb hty=>(keep (Block.typ hb) hty).trans hb
 exact⟨⟨hb,same h.main (by decide),fun o ho=>⟨same (h.aside o ho).1 (by decide),(h.aside o ho).2⟩,h.scr.fr hf (by unfold NoPT;decide),same h.tabs (by decide),
  Ac1 h.jr (fun g hg=>keep (Ab9 h.jr g hg) (by decide)),Ad3 h.rp (fun g hg=>keep (Ad2 h.rp g hg) (by decide)),h.zt,h.zm,h.zb,h.zj,h.zr,fun k hk=>h.up k (Nat.le_trans hf.size hk),h.low,h.tbl.fr hf h.low⟩,
  hf.mono (by simp[TT])⟩
def Pt.x (P:Pt) (o:Option Sh):Nat:=match o with|none=>P.xm|some _=>P.xo
def Pt.h (P:Pt) (o:Option Sh):Nat:=match o with|none=>P.hm|some _=>P.ho
structure Foc (Z:Zn) (w:World) (t:Nat) (T:Ter) (P:Pt) (Z1:Zn):Prop where
 sub:∀k,Z1 k->Z k
 sc:SC Z1 w (P.x T.other) P.s T.vis
 back:∀w' S',SC Z1 w' (P.x T.other) P.s S'->S'.most=T.most->S'.kp=T.other.isNone->Scn.Fr Z1 PT w w'->TMx Z w' t (T.putVis S') P/\Scn.Fr Z TT w w'
theorem TMx.focus (h:TMx Z w t T P):∃Z1,Foc Z w t T P Z1:=by
 have hn:∀x∈[102,143,177,73,5],x∉PT:=by decide
 have rest:∀(Z1:Zn) (w':World),(∀k,Z1 k->Z k)->Scn.Fr Z1 PT w w'->Scn.Fr Z TT w w':=fun Z1 w' hs hf=>(hf.zone hs).mono Cl6
 have keep:∀ {Z1:Zn} {w':World},Scn.Fr Z1 PT w w'->∀ {k:Nat} {ty:TypeId},Typ w k ty->ty∉PT->w'.heap[k]?=w.heap[k]?:=fun {Z1 w'} hf {k ty} hk hty=>hf.block _ (Al0 hk) (.inr fun t' ht' hT=>hty (by rw[Typ.inj hk hT];exact ht'))
 have same:∀ {Z1:Zn} {w':World},Scn.Fr Z1 PT w w'->∀ {k:Nat} {ty:TypeId} {cs:Array Value},Block w k ty cs->ty∉PT->Block w' k ty cs:=fun {Z1 w'} hf {k ty cs} hb hty=>(keep hf (Block.typ hb) hty).trans hb
 obtain⟨hblk,hmain,haside,hscr,htabs,hjr,hrp,hzt,hzm,hzb,hzj,hzr,hup,hlow,htbl⟩:=h
 unfold Scrs at hscr
 rcases hoo:T.other with _|o
 ·rw[hoo] at hscr
  refine⟨Z,⟨fun _ h=>h,by rw[hoo];exact hscr,fun w' S' hS hmo hkp hf=>⟨?_,rest Z w' (fun _ h=>h) hf⟩⟩⟩
  have hv:(T.putVis S')={ T with nx:=S'.nx,R:=S'.R,main:=T.main.of S' }:=by unfold Ter.putVis;rw[hoo]
  rw[hv]
  refine⟨same hf hblk (by decide),same hf hmain (by decide),fun o ho=>(by rw[hoo] at ho;cases ho),?_,same hf htabs (by decide),Ac1 hjr (fun g hg=>keep hf (Ab9 hjr g hg) (by decide)),Ad3 hrp (fun g hg=>keep hf (Ad2 hrp g hg) (by decide)),
   hzt,hzm,hzb,hzj,hzr,fun k hk=>hup k (Nat.le_trans hf.size hk),hlow,htbl.fr hf hlow⟩
  unfold Scrs
  rw[hoo] at hS hkp |-
  obtain⟨nx,most,kp,cols,top,bot,L,R⟩:=S'
  simp only at hmo hkp
  subst hmo hkp
  simpa[Ter.vis,Ter.sh,Sh.scr,Sh.of,hoo,Pt.x] using hS
 ·rw[hoo] at hscr
  obtain⟨Z1,hs,h1,hb⟩:=hscr.focus
  obtain⟨a1,a2,a3⟩:=haside o hoo
  refine⟨Z1,⟨hs,by rw[hoo];exact h1,fun w' S' hS hmo hkp hf=>⟨?_,rest Z1 w' hs hf⟩⟩⟩
  have hv:(T.putVis S')={ T with nx:=S'.nx,R:=S'.R,other:=some (o.of S') }:=by unfold Ter.putVis;rw[hoo]
  rw[hv]
  have hlow1:∀k,k<6->¬Z1 k:=fun k hk hz=>hlow k hk (hs k hz)
  have hA:terA { T with nx:=S'.nx,R:=S'.R,other:=some (o.of S') } P=terA T P:=by unfold terA;rw[hoo];rfl
  refine⟨by rw[hA];exact same hf hblk (by decide),same hf hmain (by decide),fun o2 ho2=>?_,?_,same hf htabs (by decide),Ac1 hjr (fun g hg=>keep hf (Ab9 hjr g hg) (by decide)),Ad3 hrp (fun g hg=>keep hf (Ad2 hrp g hg) (by decide)),
   hzt,hzm,hzb,hzj,hzr,fun k hk=>hup k (Nat.le_trans hf.size hk),hlow,htbl.fr hf hlow1⟩
  ·simp only[Option.some.injEq] at ho2
   subst ho2
   exact⟨same hf a1 (by decide),a2,a3⟩
  ·unfold Scrs
   rw[hoo] at hS hkp
   have h2:=hb w' S' hS hmo hf
   obtain⟨nx,most,kp,cols,top,bot,L,R⟩:=S'
   simp only at hmo hkp
   subst hmo hkp
   exact h2
end
section
variable {Z:Zn}{w:World}{t:Nat}{T:Ter}{P:Pt}
theorem TMx.c0 (h:TMx Z w t T P):w.cell? ⟨t,0,none⟩=some (.bool T.m.a0):=h.blk.cell 0 rfl
theorem TMx.c1 (h:TMx Z w t T P):w.cell? ⟨t,1,none⟩=some (.bool T.m.a1):=h.blk.cell 1 rfl
theorem TMx.c2 (h:TMx Z w t T P):w.cell? ⟨t,2,none⟩=some (.bool T.m.a2):=h.blk.cell 2 rfl
theorem TMx.c3 (h:TMx Z w t T P):w.cell? ⟨t,3,none⟩=some (.bool T.m.a3):=h.blk.cell 3 rfl
theorem TMx.c4 (h:TMx Z w t T P):w.cell? ⟨t,4,none⟩=some (.bool T.m.a4):=h.blk.cell 4 rfl
theorem TMx.c5 (h:TMx Z w t T P):w.cell? ⟨t,5,none⟩=some (.bool T.m.a5):=h.blk.cell 5 rfl
theorem TMx.c6 (h:TMx Z w t T P):w.cell? ⟨t,6,none⟩=some (.bool T.m.a6):=h.blk.cell 6 rfl
theorem TMx.c7 (h:TMx Z w t T P):w.cell? ⟨t,7,none⟩=some (.bool T.m.a7):=h.blk.cell 7 rfl
theorem TMx.c8 (h:TMx Z w t T P):w.cell? ⟨t,8,none⟩=some (.int .i64 T.c.row):=h.blk.cell 8 rfl
theorem TMx.c9 (h:TMx Z w t T P):w.cell? ⟨t,9,none⟩=some (.int .i64 T.c.col):=h.blk.cell 9 rfl
theorem TMx.c10 (h:TMx Z w t T P):w.cell? ⟨t,10,none⟩=some (.bool T.c.pend):=h.blk.cell 10 rfl
theorem TMx.c11 (h:TMx Z w t T P):w.cell? ⟨t,11,none⟩=some (.int .u32 T.p.a.f):=h.blk.cell 11 rfl
theorem TMx.c12 (h:TMx Z w t T P):w.cell? ⟨t,12,none⟩=some (.int .u32 T.p.a.b):=h.blk.cell 12 rfl
theorem TMx.c13 (h:TMx Z w t T P):w.cell? ⟨t,13,none⟩=some (.int .u16 T.p.a.g):=h.blk.cell 13 rfl
theorem TMx.c14 (h:TMx Z w t T P):w.cell? ⟨t,14,none⟩=some (.int .u8 T.p.g0):=h.blk.cell 14 rfl
theorem TMx.c15 (h:TMx Z w t T P):w.cell? ⟨t,15,none⟩=some (.int .u8 T.p.g1):=h.blk.cell 15 rfl
theorem TMx.c16 (h:TMx Z w t T P):w.cell? ⟨t,16,none⟩=some (.int .i64 (whI T.p.wh)):=h.blk.cell 16 rfl
theorem TMx.c17 (h:TMx Z w t T P):w.cell? ⟨t,17,none⟩=some (.pointer (some ⟨P.s,0,none⟩)):=h.blk.cell 17 rfl
theorem TMx.c18 (h:TMx Z w t T P):w.cell? ⟨t,18,none⟩=some (.pointer (some ⟨P.hm,0,none⟩)):=h.blk.cell 18 rfl
theorem TMx.c19 (h:TMx Z w t T P):w.cell? ⟨t,19,none⟩=some (optP T.other P.ho):=h.blk.cell 19 rfl
theorem TMx.c20 (h:TMx Z w t T P):w.cell? ⟨t,20,none⟩=some (.pointer (some ⟨P.tb,0,none⟩)):=h.blk.cell 20 rfl
theorem TMx.c21 (h:TMx Z w t T P):w.cell? ⟨t,21,none⟩=some (.int .u64 T.prints):=h.blk.cell 21 rfl
theorem TMx.c22 (h:TMx Z w t T P):w.cell? ⟨t,22,none⟩=some (.int .u8 T.last.k):=h.blk.cell 22 rfl
theorem TMx.c23 (h:TMx Z w t T P):w.cell? ⟨t,23,none⟩=some (.int .u64 T.last.ix):=h.blk.cell 23 rfl
theorem TMx.c24 (h:TMx Z w t T P):w.cell? ⟨t,24,none⟩=some (.int .i64 T.last.line):=h.blk.cell 24 rfl
theorem TMx.c25 (h:TMx Z w t T P):w.cell? ⟨t,25,none⟩=some (.int .i64 T.last.col):=h.blk.cell 25 rfl
theorem TMx.c26 (h:TMx Z w t T P):w.cell? ⟨t,26,none⟩=some (.bool T.last.wide):=h.blk.cell 26 rfl
theorem TMx.c27 (h:TMx Z w t T P):w.cell? ⟨t,27,none⟩=some (.int .i32 T.last.r):=h.blk.cell 27 rfl
theorem TMx.c28 (h:TMx Z w t T P):w.cell? ⟨t,28,none⟩=some (.bool T.last.bl):=h.blk.cell 28 rfl
theorem TMx.c29 (h:TMx Z w t T P):w.cell? ⟨t,29,none⟩=some (.bool T.last.la):=h.blk.cell 29 rfl
theorem TMx.c30 (h:TMx Z w t T P):w.cell? ⟨t,30,none⟩=some (.bool T.last.fr):=h.blk.cell 30 rfl
theorem TMx.c31 (h:TMx Z w t T P):w.cell? ⟨t,31,none⟩=some (.bool T.last.wr):=h.blk.cell 31 rfl
theorem TMx.c32 (h:TMx Z w t T P):w.cell? ⟨t,32,none⟩=some (P.jv):=h.blk.cell 32 rfl
theorem TMx.c33 (h:TMx Z w t T P):w.cell? ⟨t,33,none⟩=some (P.rv):=h.blk.cell 33 rfl
theorem TMx.free (h:TMx Z w t T P) (i:Nat):w.frozen? ⟨t,i,none⟩=false:=h.blk.free i
theorem TMx.sheet (h:TMx Z w t T P):Block w (P.h T.other) 143 (shA (P.x T.other) T.sh.sv):=by
 unfold Ter.sh Pt.h Pt.x
 rcases ho:T.other with _|o
 ·exact h.main
 ·exact(h.aside o ho).1
theorem TMx.s0 (h:TMx Z w t T P):w.cell? ⟨P.h T.other,0,none⟩=some (.pointer (some ⟨P.x T.other,0,none⟩)):=h.sheet.cell 0 rfl
theorem TMx.s1 (h:TMx Z w t T P):w.cell? ⟨P.h T.other,1,none⟩=some (.int .i64 T.sh.sv.c.row):=h.sheet.cell 1 rfl
theorem TMx.s2 (h:TMx Z w t T P):w.cell? ⟨P.h T.other,2,none⟩=some (.int .i64 T.sh.sv.c.col):=h.sheet.cell 2 rfl
theorem TMx.s3 (h:TMx Z w t T P):w.cell? ⟨P.h T.other,3,none⟩=some (.bool T.sh.sv.c.pend):=h.sheet.cell 3 rfl
theorem TMx.s4 (h:TMx Z w t T P):w.cell? ⟨P.h T.other,4,none⟩=some (.int .u32 T.sh.sv.p.a.f):=h.sheet.cell 4 rfl
theorem TMx.s5 (h:TMx Z w t T P):w.cell? ⟨P.h T.other,5,none⟩=some (.int .u32 T.sh.sv.p.a.b):=h.sheet.cell 5 rfl
theorem TMx.s6 (h:TMx Z w t T P):w.cell? ⟨P.h T.other,6,none⟩=some (.int .u16 T.sh.sv.p.a.g):=h.sheet.cell 6 rfl
theorem TMx.s7 (h:TMx Z w t T P):w.cell? ⟨P.h T.other,7,none⟩=some (.int .u8 T.sh.sv.p.g0):=h.sheet.cell 7 rfl
theorem TMx.s8 (h:TMx Z w t T P):w.cell? ⟨P.h T.other,8,none⟩=some (.int .u8 T.sh.sv.p.g1):=h.sheet.cell 8 rfl
theorem TMx.s9 (h:TMx Z w t T P):w.cell? ⟨P.h T.other,9,none⟩=some (.int .i64 (whI T.sh.sv.p.wh)):=h.sheet.cell 9 rfl
theorem TMx.s10 (h:TMx Z w t T P):w.cell? ⟨P.h T.other,10,none⟩=some (.bool T.sh.sv.org):=h.sheet.cell 10 rfl
end
end Go.Proofs.YtecnpoigegiooaaGreatDoor.Emu
namespace Go.Proofs.YtecnpoigegiooaaGreatDoor.Emu
open Go Go.ChangeShapes Go.WideShapes Go.ChangeAt RowKit Go.Deep Com
theorem own:ownKnob Tryz.prog.godebug=none:=by kernel_rfl
theorem laidOut:laidOutB Tryz.prog=true:=by kernel_rfl
theorem gD32:Tryz.prog.globalNamed "math/bits.deBruijn32tab"=some 4:=by kernel_rfl
theorem tD32:(Tryz.prog.globals[4]?).map (·.type)=some 309:=by kernel_rfl
theorem gD64:Tryz.prog.globalNamed "math/bits.deBruijn64tab"=some 3:=by kernel_rfl
theorem tD64:(Tryz.prog.globals[3]?).map (·.type)=some 292:=by kernel_rfl
theorem gP10:Tryz.prog.globalNamed "internal/strconv.uint64pow10"=some 2:=by kernel_rfl
theorem tP10:(Tryz.prog.globals[2]?).map (·.type)=some 274:=by kernel_rfl
theorem gWid:Tryz.prog.globalNamed "tactile/chartab.widths"=some 0:=by kernel_rfl
theorem tWid:(Tryz.prog.globals[0]?).map (·.type)=some 228:=by kernel_rfl
theorem gGra:Tryz.prog.globalNamed "tactile/chartab.graphics"=some 1:=by kernel_rfl
theorem tGra:(Tryz.prog.globals[1]?).map (·.type)=some 260:=by kernel_rfl
theorem gFlg:Tryz.prog.globalNamed "tactile/sgr.flags"=some 5:=by kernel_rfl
theorem tFlg:(Tryz.prog.globals[5]?).map (·.type)=some 154:=by kernel_rfl
theorem cU8:Tryz.prog.cellsOf 5=1:=by kernel_rfl
theorem cU64:Tryz.prog.cellsOf 58=1:=by kernel_rfl
theorem cInt:Tryz.prog.cellsOf 3=1:=by kernel_rfl
theorem cI32:Tryz.prog.cellsOf 21=1:=by kernel_rfl
theorem c32:Tryz.prog.cellsOf 309=32:=by kernel_rfl
theorem c64:Tryz.prog.cellsOf 292=64:=by kernel_rfl
theorem c20:Tryz.prog.cellsOf 274=20:=by kernel_rfl
theorem c31:Tryz.prog.cellsOf 260=31:=by kernel_rfl
theorem c8:Tryz.prog.cellsOf 154=8:=by kernel_rfl
theorem cSpan:Tryz.prog.cellsOf 227=3:=by kernel_rfl
def Ax8 {H:Type} (x:Int×Int×Int):DataW H:=.agg [.lit (.int .i32 x.1),.lit (.int .i32 x.2.1),.lit (.int .u8 x.2.2)]
theorem rows_cells {H:Type} {enc:TypeId×Value->H} {w:World} {base:Nat} {sp:Nat->Bool} {held:Bool} {fuel:Nat} {t n:Nat} {cs:List Value} {l:List (Int×Int×Int)} {p:List MemPlace}
  (ht:Tryz.prog.underlying t=some (.array n 227)) (h:DataW.trod enc Tryz.prog w base sp held fuel t cs=some (.agg (l.map Ax8),p)) (k:Nat) (hk:k<n) :
  cs[k*3]?=some (.int .i32 (l.getD k (0,0,0)).1)/\cs[k*3+1]?=some (.int .i32 (l.getD k (0,0,0)).2.1)/\cs[k*3+2]?=some (.int .u8 (l.getD k (0,0,0)).2.2):=by
 obtain⟨xs,m,-,hx,-,hn,hel⟩:=DataW.trod_array ht h
 have hk':=hel k hk
 rw[cSpan] at hk'
 have hl:l.map Ax8=xs.map (·.1):=by
  have:=congrArg Prod.fst hx
  simpa using this
 have hlen:l.length=n:=by
  have:=congrArg List.length hl
  simpa[hn] using this
 have hkl:k<l.length:=by omega
 have hkx:k<xs.length:=by omega
 rw[List.getElem?_eq_getElem hkx] at hk'
 have hd:Ax8 (l[k]'hkl)=(xs[k]'hkx).1:=by
  have:=congrArg (·[k]?) hl
  simpa[hkl,hkx] using this
 obtain⟨y0,y1,y2,m',hy,-,e0,e1,e2⟩:=trod_struct3 Tryz.underlying227 hk'
 rw[cI32] at e0 e1
 rw[cU8] at e2
 obtain⟨z0,q0,rfl,-⟩:=DataW.trod_int Tryz.underlying21 e0
 obtain⟨z1,q1,rfl,-⟩:=DataW.trod_int Tryz.underlying21 e1
 obtain⟨z2,q2,rfl,-⟩:=DataW.trod_int Tryz.underlying5 e2
 rw[hy] at hd
 simp only[Ax8,DataW.agg.injEq,List.cons.injEq,DataW.lit.injEq,Lit.int.injEq,true_and,and_true] at hd
 obtain⟨d0,d1,d2⟩:=hd
 have hg:l.getD k (0,0,0)=l[k]'hkl:=by simp[List.getD,hkl]
 rw[hg,d0,d1,d2]
 refine⟨?_,?_,?_⟩
 ·have:=congrArg (·[0]?) q0
  simpa[List.getElem?_take,List.getElem?_drop] using this
 ·have:=congrArg (·[0]?) q1
  simpa[List.getElem?_take,List.getElem?_drop] using this
 ·have:=congrArg (·[0]?) q2
  simpa[List.getElem?_take,List.getElem?_drop] using this
theorem Bc3 {w:World} {a:Addr} {v:Value} (h:w.cell? a=some v):a.block<w.heap.size:=by
 unfold World.cell? at h
 by_cases c:a.block<w.heap.size
 ·exact c
 ·rw[Array.getElem?_eq_none (by omega)] at h
  cases h
def laid6:List (String×DataW Unit):=[("math/bits.deBruijn32tab",Rows.laid_math_bits_deBruijn32tab),("math/bits.deBruijn64tab",Rows.laid_math_bits_deBruijn64tab),("internal/strconv.uint64pow10",Rows.laid_internal_strconv_uint64pow10),("tactile/chartab.widths",Rows.laid_tactile_chartab_widths),("tactile/chartab.graphics",Rows.laid_tactile_chartab_graphics),("tactile/sgr.flags",Rows.laid_tactile_sgr_flags)]
theorem Ar5 {w w':World} (hb:Below 6 w w') {g k:Nat} (hg:g<6) {v:Value} (h:w.cell? ⟨g,k,none⟩=some v):w'.cell? ⟨g,k,none⟩=some v:=(World.cell?_of_block (w:=w) (hb.block g hg)).trans h
theorem tbl_of_laid {W:World} (h:laidMetH Tryz.prog laid6 W):Tbl W:=by
 rw[MakeChecks.laidMetH_plain _ _ _ (by kernel_rfl)] at h
 obtain⟨ps,⟨i0,u0,cs0,f0,p0,q0,hg0,ht0,hv0,hd0,⟨i1,u1,cs1,f1,p1,q1,hg1,ht1,hv1,hd1,⟨i2,u2,cs2,f2,p2,q2,hg2,ht2,hv2,hd2,⟨i3,u3,cs3,f3,p3,q3,hg3,ht3,hv3,hd3,⟨i4,u4,cs4,f4,p4,q4,hg4,ht4,hv4,hd4,⟨i5,u5,cs5,f5,p5,q5,hg5,ht5,hv5,hd5,_,_⟩,_⟩,_⟩,_⟩,_⟩,_⟩,_,_⟩:=h
 obtain rfl:=Option.some.inj (gD32.symm.trans hg0)
 obtain rfl:=Option.some.inj (tD32.symm.trans ht0)
 obtain rfl:=Option.some.inj (gD64.symm.trans hg1)
 obtain rfl:=Option.some.inj (tD64.symm.trans ht1)
 obtain rfl:=Option.some.inj (gP10.symm.trans hg2)
 obtain rfl:=Option.some.inj (tP10.symm.trans ht2)
 obtain rfl:=Option.some.inj (gWid.symm.trans hg3)
 obtain rfl:=Option.some.inj (tWid.symm.trans ht3)
 obtain rfl:=Option.some.inj (gGra.symm.trans hg4)
 obtain rfl:=Option.some.inj (tGra.symm.trans ht4)
 obtain rfl:=Option.some.inj (gFlg.symm.trans hg5)
 obtain rfl:=Option.some.inj (tFlg.symm.trans ht5)
 have r0:=Lib.cells_of_tab (zs:=Lib.deBruijn32tab.map fun (n:Nat)=>(n:Int)) Tryz.underlying309 Tryz.underlying5 cU8 c32 (show _=some (Lib.tabData .u8 (Lib.deBruijn32tab.map fun (n:Nat)=>(n:Int)),p0) from hd0)
 have r1:=Lib.cells_of_tab (zs:=Lib.deBruijn64tab.map fun (n:Nat)=>(n:Int)) Tryz.underlying292 Tryz.underlying5 cU8 c64 (show _=some (Lib.tabData .u8 (Lib.deBruijn64tab.map fun (n:Nat)=>(n:Int)),p1) from hd1)
 have r2:=Lib.cells_of_tab (zs:=Lib.pow10Tab) Tryz.underlying274 Tryz.underlying58 cU64 c20 (show _=some (Lib.tabData .u64 Lib.pow10Tab,p2) from hd2)
 have r3:=rows_cells (l:=Cht.wrows) Tryz.underlying228 (show _=some (DataW.agg (Cht.wrows.map Ax8),p3) from hd3)
 have r4:=Lib.cells_of_tab (zs:=Cht.graphs) Tryz.underlying260 Tryz.underlying21 cI32 c31 (show _=some (Lib.tabData .i32 Cht.graphs,p4) from hd4)
 have r5:=Lib.cells_of_tab (zs:=Sgr.tab) Tryz.underlying154 Tryz.underlying3 cInt c8 (show _=some (Lib.tabData .i64 Sgr.tab,p5) from hd5)
 have hc0:W.cell? ⟨4,0,none⟩=some (.int .u8 0):=by
  rw[World.var?_cell gD32 hv0 0,<- Array.getElem?_toList,r0]
  rfl
 have hc1:∀k,k<64->W.cell? ⟨3,k,none⟩=some (.int .u8 (Lib.deBruijn64tab.getD k 0)):=fun k hk=>by
  have hk':k<Lib.deBruijn64tab.length:=hk
  rw[World.var?_cell gD64 hv1 k,<- Array.getElem?_toList,r1]
  simp[List.getD,hk']
 have hc4:∀k,k<31->W.cell? ⟨1,k,none⟩=some (.int .i32 (Cht.graphs.getD k 0)):=fun k hk=>by
  have hk':k<Cht.graphs.length:=hk
  rw[World.var?_cell gGra hv4 k,<- Array.getElem?_toList,r4]
  simp[List.getD,hk']
 have hc5:∀k,k<8->W.cell? ⟨5,k,none⟩=some (.int .i64 (Sgr.tab.getD k 0)):=fun k hk=>by
  have hk':k<Sgr.tab.length:=hk
  rw[World.var?_cell gFlg hv5 k,<- Array.getElem?_toList,r5]
  simp[List.getD,hk']
 have hc3:∀k,k<29->W.cell? ⟨0,k*3,none⟩=some (.int .i32 (Cht.wrows.getD k (0,0,0)).1)/\W.cell? ⟨0,k*3+1,none⟩=some (.int .i32 (Cht.wrows.getD k (0,0,0)).2.1)/\W.cell? ⟨0,k*3+2,none⟩=some (.int .u8 (Cht.wrows.getD k (0,0,0)).2.2):=fun k hk=>by
  obtain⟨a,b,c⟩:=r3 k hk
  exact⟨by rw[World.var?_cell gWid hv3,<- Array.getElem?_toList];exact a,by rw[World.var?_cell gWid hv3,<- Array.getElem?_toList];exact b,by rw[World.var?_cell gWid hv3,<- Array.getElem?_toList];exact c⟩
 have h6:6<=W.heap.size:=by
  have a:=Bc3 hc0
  have b:=Bc3 (hc5 0 (by omega))
  simp only at a b
  omega
 have hP:Kys.Tab W:=by
  show Lib.TabIs Tryz.prog W "internal/strconv.uint64pow10" .u64 Lib.pow10Tab
  unfold Lib.TabIs
  rw[hv2,<- r2]
 refine⟨h6,fun w' hb=>⟨⟨Nat.le_trans (show 3<=6 by decide) (Nat.le_trans h6 hb.size),fun k hk=>?_,fun k hk=>Ar5 hb (by decide) (hc4 k hk)⟩,⟨Nat.le_trans (show 3<6 by decide) (Nat.le_trans h6 hb.size),fun k hk=>Ar5 hb (by decide) (hc1 k hk)⟩,⟨Nat.le_trans (show 5<6 by decide) (Nat.le_trans h6 hb.size),fun k hk=>Ar5 hb (by decide) (hc5 k hk)⟩,?_⟩⟩
 ·obtain⟨a,b,c⟩:=hc3 k hk
  exact⟨Ar5 hb (by decide) a,Ar5 hb (by decide) b,Ar5 hb (by decide) c⟩
 ·show Lib.TabIs Tryz.prog w' "internal/strconv.uint64pow10" .u64 Lib.pow10Tab
  have h1:Lib.TabIs Tryz.prog W "internal/strconv.uint64pow10" .u64 Lib.pow10Tab:=hP
  unfold Lib.TabIs World.var? at *
  rw[gP10] at h1 |-
  simp only[Option.bind_some] at h1 |-
  rw[hb.block _ (by decide)]
  exact h1
theorem door_met (os:Os) (args:Array Value):laidMetH Tryz.prog laid6 ((World.doorLaid Tryz.prog 400 os).forCall (fun _ _=>0) ⟨#[],args,[]⟩).memory :=
 laidMetH_of_parts3 (fuel:=8) (laidMet_of_run' 8 (by kernel_rfl) (by kernel_rfl)) (by kernel_rfl) (by kernel_rfl)
