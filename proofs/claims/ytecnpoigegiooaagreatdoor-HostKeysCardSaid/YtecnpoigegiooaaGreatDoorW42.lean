/- Part 42 of HostKeys. -/
import Derived.Test.YtecnpoigegiooaaGreatDoorW41
set_option maxHeartbeats 16000000
set_option maxRecDepth 100000
namespace Go.Proofs.YtecnpoigegiooaaGreatDoor.Emu
open Go.Proofs.Tryz
open Go RowKit Com Rw Lns Scn
structure Aol(Z Z':Zn)(w w':World):Prop where
 size:w.heap.size<=w'.heap.size
 same:∀k,k<w.heap.size->Z k->w'.heap[k]?=w.heap[k]?
 Afp:∀k,k<w.heap.size->Z k->Z' k
 up:∀k,w'.heap.size<=k->Z' k
section
variable {Z Z':Zn}{w w':World}{x s nx most cols top bot n x1 x2 t d:Nat}{kp:Bool}{sv lv:Value}{xs:List Value}{L R:List En}{S S1 S2:Scr}{T:Ter}{P:Pt}
theorem E2.E8(h:E2 Z w x s nx most kp cols sv lv top bot n xs L R)(hk:Aol Z Z' w w'):E2 Z' w' x s nx most kp cols sv lv top bot n xs L R:=by
 obtain⟨_,hk,hZ,up⟩:=hk
 have lo:=h.ln.lo
 have hr:∀e∈R,e.d<w.heap.size/\e.g<w.heap.size:=fun e he=>Adw (h.ln.st.2 e he)
 have hl:∀e∈L,e.d<w.heap.size/\e.g<w.heap.size:=fun e he=>Adw (h.rows e he)
 have hst:SX 0 w' s nx most sv R:=by
  have hp:=h.ln.st.Aci
  obtain⟨⟨o,Q,h0,hR⟩,hg⟩:=h.ln.st
  exact⟨⟨o,Q,⟨(hk _ h0.blk.lt lo.s).trans h0.blk,V4 h0.own (fun g hg=>hk _ (hp g hg).2.1 (lo.p g hg)),h0.le,h0.old,h0.olt,h0.most,h0.pos,h0.small,h0.lo⟩,hR⟩,
   fun e he=>Aun (hg e he) (hk _ (hr e he).1 (lo.r e he).1) (hk _ (hr e he).2 (lo.r e he).2)⟩
 exact⟨⟨(hk _ h.ln.blk.lt lo.x).trans h.ln.blk,V4 h.ln.own (fun g hg=>hk _ (h.ln.Q2 g hg).2.1 (lo.l g hg)),hst,h.ln.apart,⟨hZ _ h.ln.blk.lt lo.x,hZ _ (Aax h.ln.st.typ) lo.s,fun g hg=>hZ _ (h.ln.Q2 g hg).2.1 (lo.l g hg),fun g hg=>hZ _ (h.ln.st.Aci g hg).2.1 (lo.p g hg),
  fun e he=>⟨hZ _ (hr e he).1 (lo.r e he).1,hZ _ (hr e he).2 (lo.r e he).2⟩,up⟩,h.ln.small⟩,fun e he=>Aun (h.rows e he) (hk _ (hl e he).1 (h.zr e he).1) (hk _ (hl e he).2 (h.zr e he).2),fun e he=>⟨hZ _ (hl e he).1 (h.zr e he).1,hZ _ (hl e he).2 (h.zr e he).2⟩,h.dd,h.gg⟩
theorem SC.E8(h:SC Z w x s S)(hk:Aol Z Z' w w'):SC Z' w' x s S:=by
 obtain⟨sv,lv,L,R,h1,h2,h3⟩:=h
 exact⟨sv,lv,L,R,E2.E8 h1 hk,h2,h3⟩
theorem Two.E8(h:Two Z w s x1 x2 S1 S2)(hk:Aol Z Z' w w'):Two Z' w' s x1 x2 S1 S2:=by
 obtain⟨sv,R,l1,L1,l2,L2,h1,e1,eR,h2,e2,hx,hl,hd,hg⟩:=h
 exact⟨sv,R,l1,L1,l2,L2,E2.E8 h1 hk,e1,eR,E2.E8 h2 hk,e2,hx,hl,hd,hg⟩
theorem TMx.E8(h:TMx Z w t T P)(hk:Aol Z Z' w w')(low:∀k,k<6->¬Z' k)(htb:Tbl w'):TMx Z' w' t T P:=by
 have hs:Y0 Z' w' T P:=by
  have h1:=h.scr
  unfold Y0 at h1 |-
  split at h1
  ·exact SC.E8 h1 hk
  ·exact Two.E8 h1 hk
 obtain⟨_,hk,hZ,up⟩:=hk
 have same:∀ {k:Nat} {ty:TypeId} {cs:Array Value},Block w k ty cs->Z k->Block w' k ty cs:=fun hb hz=>(hk _ hb.lt hz).trans hb
 have tj:∀g,P.jv.ownBlock=some g->g<w.heap.size:=fun g hg=>Aax (M4 h.jr g hg)
 have tr:∀g,P.rv.ownBlock=some g->g<w.heap.size:=fun g hg=>Aax (R0 h.rp g hg)
 have tb:P.tb<w.heap.size:=Block.lt h.V3
 exact⟨same h.blk h.zt,same h.main h.zm,fun o ho=>⟨same (h.aside o ho).1 (h.aside o ho).2.2,(h.aside o ho).2.1,hZ _ (h.aside o ho).1.lt (h.aside o ho).2.2⟩,hs,same h.V3 h.zb,
  V4 h.jr (fun g hg=>hk _ (tj g hg) (h.zj g hg)),W8 h.rp (fun g hg=>hk _ (tr g hg) (h.zr g hg)),hZ _ h.blk.lt h.zt,hZ _ h.main.lt h.zm,hZ _ tb h.zb,fun g hg=>hZ _ (tj g hg) (h.zj g hg),fun g hg=>hZ _ (tr g hg) (h.zr g hg),up,low,htb⟩
end
section
variable {Z:Zn}{W w w':World}{d t d2 t2:Nat}{T T' U:Ter}
theorem TZ.low(h:TZ Z W w d t T):(∀k,k<6->¬Z k)/\(∀k,w.heap.size<=k->Z k)/\6<=w.heap.size:=by
 obtain⟨P,hP⟩:=h.tv.tm
 exact⟨hP.low,hP.up,hP.tbl.1⟩
end
section
variable {wp wr w w':World}{b1 b2 B:Nat}{ls:List (List Cel)}{v:Value}{hs:List Abv}
theorem Cem(hs:List Abv):∀i (hi:i<hs.length),(fl Aay hs)[i*2]?=some (.int .i64 hs[i].1)/\(fl Aay hs)[i*2+1]?=some (.slice (some ⟨hs[i].2.1,0,none⟩) hs[i].2.2.length hs[i].2.2.length):=fun i hi=>by
 have h0:=Ahz (f:=Aay) Ayi hi (j:=0) (by omega)
 have h1:=Ahz (f:=Aay) Ayi hi (j:=1) (by omega)
 exact⟨h0,h1⟩
theorem Aex.at(h:Aex B w v hs){i:Nat}(hi:i<hs.length):∃g c,v=.slice (some ⟨g,0,none⟩) hs.length c/\hs.length<=c/\c<=maxLen/\w.cell? ⟨g,i*2,none⟩=some (.int .i64 hs[i].1)/\w.cell? ⟨g,i*2+1,none⟩=some (.slice (some ⟨hs[i].2.1,0,none⟩) hs[i].2.2.length hs[i].2.2.length):=by
 obtain⟨g,c,tail,rfl,_,hb,h1,h2⟩:=Ahf h.rows (by omega)
 have hl:(fl Aay hs).length=hs.length*2:=Q4 Ayi hs
 obtain⟨e0,e1⟩:=Cem hs i hi
 refine⟨g,c,rfl,h1,h2,hb.cell (i*2) ?_,hb.cell (i*2+1) ?_⟩
 ·rw[List.getElem?_toArray,List.getElem?_append_left (by omega),e0]
 ·rw[List.getElem?_toArray,List.getElem?_append_left (by omega),e1]
variable {cols:Nat}{cv iv:Value}{rs:List Abc}{ids:List Int}
end
structure Tld(w:World)(n cols:Nat)(L:List Ln)(g1 c1 g2 c2:Nat)(rs:List Abc):Prop where
 rws:Rws 0 w cols (.slice (some ⟨g1,0,none⟩) n c1) (.slice (some ⟨g2,0,none⟩) n c2) rs (L.map (·.1))
 len:rs.length=n
 Aei:L.length=n
 got:rs.map (fun p=>p.2.map (·.1))=L.map (·.2)
 wid:∀p∈L,p.2.length=cols
section
variable {Z:Zn}{W w w':World}{d t n cols g1 c1 g2 c2:Nat}{L:List Ln}{rs:List Abc}{T:Ter}{v:Value}{hs:List Abv}
theorem Tld.below(h:Tld w n cols L g1 c1 g2 c2 rs)(hb:Below w.heap.size w w'):Tld w' n cols L g1 c1 g2 c2 rs:=⟨h.rws.below hb,h.len,h.Aei,h.got,h.wid⟩
theorem Tld.row(h:Tld w n cols L g1 c1 g2 c2 rs){i:Nat}(hi:i<n):∃x,w.cell? ⟨g1,i,none⟩=some (.slice (some ⟨x,0,none⟩) cols cols)/\w.cell? ⟨g2,i,none⟩=some (.int .i64 (L[i]'(by rw[h.Aei];exact hi)).1) /\
  ∀j (hj:j<cols),w.cell? ⟨x,j*6,none⟩=some (.int .i32 (((L[i]'(by rw[h.Aei];exact hi)).2)[j]'(by rw[h.wid _ (List.getElem_mem _)];exact hj)).r)/\w.cell? ⟨x,j*6+2,none⟩=some (.int .u8 (((L[i]'(by rw[h.Aei];exact hi)).2)[j]'(by rw[h.wid _ (List.getElem_mem _)];exact hj)).wide) /\
   w.cell? ⟨x,j*6+3,none⟩=some (.int .u32 (((L[i]'(by rw[h.Aei];exact hi)).2)[j]'(by rw[h.wid _ (List.getElem_mem _)];exact hj)).a.f)/\w.cell? ⟨x,j*6+4,none⟩=some (.int .u32 (((L[i]'(by rw[h.Aei];exact hi)).2)[j]'(by rw[h.wid _ (List.getElem_mem _)];exact hj)).a.b)/\w.cell? ⟨x,j*6+5,none⟩=some (.int .u16 (((L[i]'(by rw[h.Aei];exact hi)).2)[j]'(by rw[h.wid _ (List.getElem_mem _)];exact hj)).a.g) /\
   ∃y cc,w.cell? ⟨x,j*6+1,none⟩=some (.slice y (((L[i]'(by rw[h.Aei];exact hi)).2)[j]'(by rw[h.wid _ (List.getElem_mem _)];exact hj)).m.length cc):=by
 have hi':i<rs.length:=by rw[h.len];exact hi
 have hL:i<L.length:=by rw[h.Aei];exact hi
 obtain⟨g,c,e,_,_,hc⟩:=h.rws.Ans hi'
 obtain⟨g',c',e',_,_,hc'⟩:=h.rws.Anx (i:=i) (by rw[List.length_map];exact hL)
 simp only[Value.slice.injEq,Option.some.injEq,Addr.mk.injEq,and_true]at e e'
 obtain⟨rfl,_,rfl⟩:=e
 obtain⟨rfl,_,rfl⟩:=e'
 rw[List.getElem_map]at hc'
 refine⟨_,hc,hc',fun j hj=>?_⟩
 have hg:=congrArg (·[i]?) h.got
 simp only[List.getElem?_map,List.getElem?_eq_getElem hi',List.getElem?_eq_getElem hL,Option.map_some,Option.some.injEq]at hg
 have hw:=h.wid _ (List.getElem_mem hL)
 have hj':j<(rs[i]'hi').2.length:=by
  have:=congrArg List.length hg
  rw[List.length_map]at this
  omega
 have hA:=h.rws.Aff _ (List.getElem_mem hi')
 have hx:=Bdp hA hj'
 have he:((rs[i]'hi').2[j]'hj').1=(L[i].2)[j]'(by omega):=by
  have:=congrArg (·[j]?) hg
  simp only[List.getElem?_map,List.getElem?_eq_getElem hj',List.getElem?_eq_getElem (show j<(L[i].2).length by omega),Option.map_some,Option.some.injEq]at this
  exact this
 obtain⟨y,cc,ey,_⟩:=(hA.comb _ (List.getElem_mem hj')).shape
 rw[ey,he]at hx
 exact⟨hx.1,hx.2.2.1,hx.2.2.2.1,hx.2.2.2.2.1,hx.2.2.2.2.2,y,cc,hx.2.1⟩
theorem Aqc(h:TZ Z W w d t T):Calls prog 32 #[.pointer (some ⟨d,0,none⟩)] w fun e w'=>∃g1 c1 g2 c2 rs,e=.returned (.agg #[.slice (some ⟨g1,0,none⟩) T.vis.L.length c1,.slice (some ⟨g2,0,none⟩) T.vis.L.length c2,.int .i64 T.c.row,.int .i64 T.c.col,.bool T.c.F6,.bool (!T.m.a5),.bool T.other.isNone,.int .i64 T.vis.top,.int .i64 T.vis.bot,.int .u32 T.p.a.f,.int .u32 T.p.a.b,.int .u16 T.p.a.g]) /\
  Tld w' T.vis.L.length T.vis.cols T.vis.L g1 c1 g2 c2 rs/\Below w.heap.size w w':=by
 refine(Ccs h.tv h.ok).mono fun e w' ⟨cv,iv,rs,he,hg,hb⟩=>?_
 have hn:=h.ok.fit.len
 obtain⟨g1,c1,e1,_,_,_⟩:=hg.rws.Ans (i:=0) (by rw[hg.len];omega)
 obtain⟨g2,c2,e2,_,_,_⟩:=hg.rws.Anx (i:=0) (by rw[List.length_map];omega)
 rw[hg.len]at e1
 rw[List.length_map]at e2
 subst e1 e2
 exact⟨g1,c1,g2,c2,rs,he,⟨hg.rws.lower (Nat.zero_le _),hg.len,rfl,hg.got,h.ok.fit.wid⟩,hb⟩
structure Bld(w:World)(v:Value)(n:Nat)(R:List Ln)(hs:List Abv):Prop where
 back:∃B,Aex B w v hs
 got:hs.map Aox=R
 len:R.length=n
theorem Bld.below{R:List Ln}(h:Bld w v n R hs)(hb:Below w.heap.size w w'):Bld w' v n R hs:=⟨h.back.imp fun _ h=>h.below hb,h.got,h.len⟩
theorem Bzi(h:TZ Z W w d t T):Calls prog 40 #[.pointer (some ⟨d,0,none⟩)] w fun e w'=>∃ba bc hs,e=.returned (.slice ba T.R.length bc)/\Bld w' (.slice ba T.R.length bc) T.R.length T.R hs/\T.R.length<=maxLen/\Below w.heap.size w w':=by
 refine(Ccr h.tv).mono fun e w' ⟨v,hs,he,hB,hL,hb⟩=>?_
 obtain⟨ba,bc,rfl,h1,h2⟩:=U0 hB.rows
 have hl:hs.length=T.R.length:=by rw[<- hL,List.length_map]
 rw[hl]at he hB h1
 exact⟨ba,bc,hs,he,⟨⟨_,hB⟩,hL,rfl⟩,Nat.le_trans h1 h2,hb⟩
end
end Go.Proofs.YtecnpoigegiooaaGreatDoor.Emu
namespace Go.Proofs.YtecnpoigegiooaaGreatDoor.Emu
open Go.Proofs.Tryz
open Go Rw Lns Scn
def sln(d:Nat)(p:Ln):Ln:=(p.1+d,p.2)
def sl(d:Nat)(L:List Ln):List Ln:=L.map (sln d)
section
variable {d:Nat}{T U:Ter}
end
def Agu(T:Ter):Ter:={ T with rp:=[] }
end Go.Proofs.YtecnpoigegiooaaGreatDoor.Emu
namespace Go.Proofs.YtecnpoigegiooaaGreatDoor.Emu
open Go.Proofs.Tryz
open Go RowKit Com Rw Lns Scn
section
variable {Z:Zn}{W w wr w':World}{d t d2 t2 n nm cm dd:Nat}{T T' U U':Ter}{am:Option Addr}{m:List OpA}{F:FuncId}{args:Array Value}{A:Ending->World->Prop}
theorem Cll(h:Ok T):Ok (Agu T):=⟨h.fit,h.U6,h.rows,h.cols,h.row,h.col,h.sv,h.svm,h.tn,h.alt⟩
theorem Cnc(h:TZ Z W w d t T):Calls prog 38 #[.pointer (some ⟨d,0,none⟩)] w fun e w'=>(∃v,e=.returned v/\Kys.Row w' 0 5 v T.rp)/\TZ Z W w' d t (Agu T)/\Scn.Fr Z TT w w' :=
 (Bty h.tv).mono fun _ _ ⟨he,h1,hf⟩=>⟨he,⟨h1,Cll h.ok,Azu h.below h.out hf,h.out⟩,hf⟩
end
end Go.Proofs.YtecnpoigegiooaaGreatDoor.Emu
namespace Go.Proofs.YtecnpoigegiooaaGreatDoor.Hos
open Go.Proofs.Tryz
open Go RowKit Com Rw Lns Emu Scn
structure Hf(B:Zn)(w w':World):Prop where
 os:w'.os=w.os
 tape:w'.tape=w.tape
 output:w'.output=w.output
 size:w.heap.size<=w'.heap.size
 block:∀k,k<w.heap.size->¬B k->w'.heap[k]?=w.heap[k]?
section
variable {B B2:Zn}{L:List Nat}{ts:List TypeId}{w w1 w2 w':World}{n:Nat}
theorem Hf.refl(B:Zn)(w:World):Hf B w w:=⟨rfl,rfl,rfl,J5 _,fun _ _ _=>rfl⟩
theorem Hf.trans(h:Hf B w w1)(g:Hf B2 w1 w2)(hB:∀k,k<w.heap.size->B2 k->B k):Hf B w w2 :=
 ⟨g.os.trans h.os,g.tape.trans h.tape,g.output.trans h.output,Nat.le_trans h.size g.size,fun k hk hn=>(g.block k (Nat.lt_of_lt_of_le hk h.size) (fun hb=>hn (hB k hk hb))).trans (h.block k hk hn)⟩
theorem Hf.mono(h:Hf B w w')(hB:∀k,k<w.heap.size->B k->B2 k):Hf B2 w w':=⟨h.os,h.tape,h.output,h.size,fun k hk hn=>h.block k hk fun hb=>hn (hB k hk hb)⟩
theorem Hf.I9(h:A0 L w w'):Hf (·∈L) w w':=⟨h.os,h.tape,h.output,h.size,fun k hk hn=>h.block k hk hn⟩
theorem Hf.Bdi(h:Scn.Fr B ts w w'):Hf B w w':=⟨h.os,h.tape,h.output,h.size,fun k hk hn=>h.block k hk (.inl hn)⟩
theorem Hf.A1(B:Zn)(h:Below w.heap.size w w'):Hf B w w':=⟨h.os,h.tape,h.output,h.size,fun k hk _=>h.block k hk⟩
theorem Hf.below(h:Hf B w w')(hn:n<=w.heap.size)(hB:∀k,k<n->¬B k):Below n w w':=⟨h.os,h.tape,h.output,h.size,fun k hk=>h.block k (by omega) (hB k hk)⟩
theorem Hf.blk{k:Nat}{t:TypeId}{cs:Array Value}(h:Hf B w w')(hb:Block w k t cs)(hn:¬B k):Block w' k t cs:=(h.block k (Block.lt hb) hn).trans hb
end
def re(Z:Zn)(w w':World):Zn:=fun k=>(Z k/\k<w.heap.size)\/w'.heap.size<=k
section
variable {Z B:Zn}{W w w':World}{d t:Nat}{T:Ter}
theorem TZ.re(h:TZ Z W w d t T)(hf:Hf B w w')(hz:∀k,k<w.heap.size->Z k->¬B k)(hd:¬B d)(hW:∀k,k<W.heap.size->¬B k)(h6:6<=W.heap.size):TZ (Hos.re Z w w') W w' d t T:=by
 obtain⟨hl,_,_⟩:=h.low
 have hs:=hf.size
 have hWs:=h.below.size
 obtain⟨P,hP⟩:=h.tv.tm
 have hk:Aol Z (Hos.re Z w w') w w':=⟨hs,fun k hk hz'=>hf.block k hk (hz k hk hz'),fun k hk hz'=>.inl ⟨hz',hk⟩,fun k hk=>.inr hk⟩
 refine⟨⟨hf.blk h.tv.blk hd,P,hP.E8 hk (fun k hk hz'=>?_) (hP.tbl.low (hf.below (by omega) (fun k hk=>hW k (by omega))))⟩,h.ok,h.below.trans (hf.below hWs hW),fun k hk hz'=>?_⟩
 ·rcases hz' with hz'|hz'
  ·exact hl k hk hz'.1
  ·omega
 ·rcases hz' with hz'|hz'
  ·exact h.out k hk hz'.1
  ·omega
end
structure HP where
 e:Nat
 dd:Nat
 dp:Nat
 d:Nat
 t:Nat
 pv:Value
 sv:Value
def Bqm(p:HP):Array Value:=#[.pointer (some ⟨p.dd,0,none⟩),.pointer (some ⟨p.dp,0,none⟩),.pointer (some ⟨p.d,0,none⟩),p.sv]
def HP.own(p:HP)(h k:Nat):Prop:=k=h\/k=p.e\/k=p.dd\/k=p.dp\/k=p.d\/p.pv.ownBlock=some k\/p.sv.ownBlock=some k
structure HX(Z:Zn)(W w:World)(h:Nat)(p:HP)(H:Hst):Prop where
 hb:Block w h 71 #[.pointer (some ⟨p.e,0,none⟩)]
 eb:Block w p.e 69 (Bqm p)
 dec:Utf.F1 w p.dd H.dec
 par:Prs.C9 w W.heap.size p.dp p.pv H.ps
 B8:Kys.Row w W.heap.size 5 p.sv H.B8
 tz:TZ Z W w p.d p.t H.T
 nz:∀k,p.own h k->¬Z k
 lo:W.heap.size<=h/\W.heap.size<=p.e/\W.heap.size<=p.dd/\W.heap.size<=p.d
 six:6<=W.heap.size
section
variable {Z B:Zn}{W w w':World}{h:Nat}{p:HP}{H:Hst}
theorem HX.lt(hx:HX Z W w h p H):∀k,p.own h k->W.heap.size<=k/\k<w.heap.size:=by
 obtain⟨l1,l2,l3,l4⟩:=hx.lo
 intro k hk
 rcases hk with rfl|rfl|rfl|rfl|rfl|hk|hk
 ·exact⟨l1,Block.lt hx.hb⟩
 ·exact⟨l2,Block.lt hx.eb⟩
 ·exact⟨l3,Block.lt hx.dec⟩
 ·exact⟨hx.par.low,hx.par.blk.lt⟩
 ·exact⟨l4,Block.lt hx.tz.tv.blk⟩
 ·exact hx.par.own.lt k hk
 ·exact hx.B8.lt k hk
theorem HX.other(hx:HX Z W w h p H)(hf:Hf B w w')(h1:∀k,k<w.heap.size->Z k->¬B k)(h2:∀k,p.own h k->¬B k)(h3:∀k,k<W.heap.size->¬B k):HX (re Z w w') W w' h p H:=by
 have hs:=hf.size
 have hlt:=hx.lt
 refine⟨hf.blk hx.hb (h2 _ (.inl rfl)),hf.blk hx.eb (h2 _ (.inr (.inl rfl))),hf.blk hx.dec (h2 _ (.inr (.inr (.inl rfl)))),⟨hf.blk hx.par.blk.blk (h2 _ (.inr (.inr (.inr (.inl rfl))))),V4 hx.par.own (fun g hg=>hf.block g (hlt g (.inr (.inr (.inr (.inr (.inr (.inl hg))))))).2 (h2 _ (.inr (.inr (.inr (.inr (.inr (.inl hg)))))))),hx.par.low⟩,W8 hx.B8 (fun g hg=>hf.block g (hlt g (.inr (.inr (.inr (.inr (.inr (.inr hg))))))).2 (h2 _ (.inr (.inr (.inr (.inr (.inr (.inr hg)))))))),TZ.re hx.tz hf h1 (h2 _ (.inr (.inr (.inr (.inr (.inl rfl)))))) h3 hx.six,fun k hk hz=>?_,hx.lo,hx.six⟩
 rcases hz with hz|hz
 ·exact hx.nz k hk hz.1
 ·have:=(hlt k hk).2
  omega
end
def HP.at(p:HP)(v:Value):HP:={ p with pv:=v }
def Tri.hst(X:Tri)(s:List Int):Hst:=⟨X.dec,X.ps,X.T,s⟩
def HZn(Z:Zn)(h:Nat)(p:HP):Zn:=fun k=>Z k\/p.own h k
section
variable {Z B:Zn}{W w w':World}{h:Nat}{p:HP}{H:Hst}{X:Tri}{v:Value}{s:List Int}
theorem HX.up(hx:HX Z W w h p H):∀k,w.heap.size<=k->Z k:=hx.tz.low.2.1
theorem HX.below(hx:HX Z W w h p H):Below W.heap.size W w:=hx.tz.below
theorem HX.on(hx:HX Z W w h p H)(hb:Below w.heap.size w w'):HX (re Z w w') W w' h p H:=hx.other (Hf.A1 (fun _=>False) hb) (fun _ _ _ h=>h) (fun _ _ h=>h) (fun _ _ h=>h)
theorem HX.on'(hx:HX Z W w h p H)(hb:Below w.heap.size w w'):HX Z W w' h p H:=by
 have ho:=A0.A1 hb []
 have hlt:=hx.lt
 exact⟨Block.only hx.hb ho (by simp),Block.only hx.eb ho (by simp),Block.only hx.dec ho (by simp),hx.par.new hb,hx.B8.below hb,hx.tz.on hb,hx.nz,hx.lo,hx.six⟩
theorem HX.Ctf{D':Utf.Dec}(hx:HX Z W w h (p.at v) (X.hst s))(hd:Utf.F1 w' p.dd D')(ho:A0 [p.dd] w w'):HX (re Z w w') W w' h (p.at v) (Tri.hst ⟨D',X.ps,X.T⟩ s):=by
 have hs:=ho.size
 have hlt:=hx.lt
 have hf:=Hf.I9 ho
 have hnd:∀ {k:Nat} {ty:TypeId} {cs:Array Value},Block w k ty cs->ty≠107->k∉[p.dd]:=fun hb hn hm=>by
  obtain rfl:=List.mem_singleton.1 hm
  exact hn (Typ.inj (Block.typ hb) (Block.typ hx.dec))
 have hr:v.ownBlock≠some p.dd:=hx.par.own.apart hx.dec (by decide)
 have hq:∀g,p.sv.ownBlock=some g->g∉[p.dd]:=fun g hg hm=>by
  obtain rfl:=List.mem_singleton.1 hm
  exact hx.B8.apart (g:=p.dd) hx.dec (by decide) hg
 refine⟨Block.only hx.hb ho (hnd hx.hb (by decide)),Block.only hx.eb ho (hnd hx.eb (by decide)),hd,hx.par.only ho (hnd hx.par.blk.blk (by decide)) (fun g hg hm=>?_),hx.B8.only ho hq,TZ.re hx.tz hf (fun k hk hz hm=>?_) (fun hm=>hnd hx.tz.tv.blk (by decide) hm) (fun k hk hm=>?_) hx.six,fun k hk hz=>?_,hx.lo,hx.six⟩
 ·obtain rfl:=List.mem_singleton.1 hm
  exact hr hg
 ·obtain rfl:=List.mem_singleton.1 hm
  exact hx.nz p.dd (.inr (.inr (.inl rfl))) hz
 ·obtain rfl:=List.mem_singleton.1 hm
  have:=(hlt p.dd (.inr (.inr (.inl rfl)))).1
  omega
 ·rcases hz with hz|hz
  ·exact hx.nz k hk hz.1
  ·have:=(hlt k hk).2
   omega
theorem HX.par'{v':Value}{S':Prs.PS}(hx:HX Z W w h (p.at v) (X.hst s))(hp:Prs.C9 w' W.heap.size p.dp v' S')(hl:v'.ownBlock=v.ownBlock\/v'.ownBlock=none\/∃g,v'.ownBlock=some g/\w.heap.size<=g)(ho:A0 (p.dp::v.ownBlock.toList) w w') :
  HX (re Z w w') W w' h (p.at v') (Tri.hst ⟨X.dec,S',X.T⟩ s):=by
 have hs:=ho.size
 have hlt:=hx.lt
 have hf:=Hf.I9 ho
 have tp:=Block.typ hx.par.blk.blk
 have tv:∀g,v.ownBlock=some g->Typ w g 21:=fun g hg=>M4 hx.par.own g hg
 have hnd:∀ {k:Nat} {ty:TypeId},Typ w k ty->ty≠115->ty≠21->k∉p.dp::v.ownBlock.toList:=fun hb hn hn2 hm=>by
  rcases List.mem_cons.1 hm with rfl|hm
  ·exact hn (Typ.inj hb tp)
  ·exact hn2 (Typ.inj hb (tv _ (by simpa using hm)))
 have own:∀k,k∈p.dp::v.ownBlock.toList->(p.at v).own h k:=fun k hm=>by
  rcases List.mem_cons.1 hm with rfl|hm
  ·exact .inr (.inr (.inr (.inl rfl)))
  ·exact .inr (.inr (.inr (.inr (.inr (.inl (show v.ownBlock=some k by simpa using hm))))))
 refine⟨Block.only hx.hb ho (hnd (Block.typ hx.hb) (by decide) (by decide)),Block.only hx.eb ho (hnd (Block.typ hx.eb) (by decide) (by decide)),Block.only hx.dec ho (hnd (Block.typ hx.dec) (by decide) (by decide)),hp,hx.B8.only ho (fun g hg=>hnd (R0 hx.B8 g hg) (by decide) (by decide)),TZ.re hx.tz hf (fun k hk hz hm=>hx.nz k (own k hm) hz) (fun hm=>hnd (Block.typ hx.tz.tv.blk) (by decide) (by decide) hm) (fun k hk hm=>?_) hx.six,fun k hk hz=>?_,hx.lo,hx.six⟩
 ·have:=(hlt k (own k hm)).1
  omega
 ·have old:(p.at v).own h k\/w.heap.size<=k/\k<w'.heap.size:=by
   rcases hk with hk|hk|hk|hk|hk|hk|hk
   ·exact .inl (.inl hk)
   ·exact .inl (.inr (.inl hk))
   ·exact .inl (.inr (.inr (.inl hk)))
   ·exact .inl (.inr (.inr (.inr (.inl hk))))
   ·exact .inl (.inr (.inr (.inr (.inr (.inl hk)))))
   ·rcases hl with e|e|⟨g,e,hg⟩
    ·exact .inl (.inr (.inr (.inr (.inr (.inr (.inl (e▸hk)))))))
    ·have hk':v'.ownBlock=some k:=hk
     rw[e]at hk';cases hk'
    ·have hk':v'.ownBlock=some k:=hk
     have h2:=(hp.own.lt k hk').2
     rw[e]at hk';cases hk'
     exact .inr ⟨hg,h2⟩
   ·exact .inl (.inr (.inr (.inr (.inr (.inr (.inr hk))))))
  rcases hz with hz|hz
  ·rcases old with old|old
   ·exact hx.nz k old hz.1
   ·omega
  ·rcases old with old|old
   ·have:=(hlt k old).2
    omega
   ·omega
theorem HX.Bdk{T':Ter}(hx:HX Z W w h (p.at v) (X.hst s))(ht:TZ Z W w' p.d p.t T')(hf:Scn.Fr Z TT w w'):HX Z W w' h (p.at v) (Tri.hst ⟨X.dec,X.ps,T'⟩ s):=by
 have hlt:=hx.lt
 have same:∀k,(p.at v).own h k->w'.heap[k]?=w.heap[k]?:=fun k hk=>hf.block k (hlt k hk).2 (.inl (hx.nz k hk))
 have hb:∀ {k:Nat} {ty:TypeId} {cs:Array Value},Block w k ty cs->(p.at v).own h k->Block w' k ty cs:=fun hb hk=>(same _ hk).trans hb
 exact⟨hb hx.hb (.inl rfl),hb hx.eb (.inr (.inl rfl)),hb hx.dec (.inr (.inr (.inl rfl))),⟨hb hx.par.blk.blk (.inr (.inr (.inr (.inl rfl)))),V4 hx.par.own (fun g hg=>same g (.inr (.inr (.inr (.inr (.inr (.inl hg))))))),hx.par.low⟩,
  W8 hx.B8 (fun g hg=>same g (.inr (.inr (.inr (.inr (.inr (.inr hg))))))),ht,hx.nz,hx.lo,hx.six⟩
end
structure HD(B:Zn)(W w0 wr:World)(h:Nat)(p:HP)(s:List Int)(X:Tri):Prop where
 ex:∃Z v,HX Z W wr h (p.at v) (X.hst s)/\∀k,HZn Z h (p.at v) k->B k\/w0.heap.size<=k
 fr:Hf B w0 wr
section
variable {Z B B1:Zn}{W w w0 w1 wr w':World}{h:Nat}{p:HP}{X Y:Tri}{v:Value}{s:List Int}
theorem HX.start(hx:HX Z W w h (p.at v) (X.hst s)):HD (HZn Z h (p.at v)) W w w h p s X:=⟨⟨Z,v,hx,fun _ h=>.inl h⟩,Hf.refl _ _⟩
theorem Cpo{Z':Zn}{v':Value}(hz:∀k,Z' k->Z k\/w.heap.size<=k)(hv:v'.ownBlock=v.ownBlock\/v'.ownBlock=none\/∃g,v'.ownBlock=some g/\w.heap.size<=g):∀k,HZn Z' h (p.at v') k->HZn Z h (p.at v) k\/w.heap.size<=k:=fun k hk=>by
 rcases hk with hk|hk
 ·rcases hz k hk with h1|h1
  ·exact .inl (.inl h1)
  ·exact .inr h1
 ·rcases hk with hk|hk|hk|hk|hk|hk|hk
  ·exact .inl (.inr (.inl hk))
  ·exact .inl (.inr (.inr (.inl hk)))
  ·exact .inl (.inr (.inr (.inr (.inl hk))))
  ·exact .inl (.inr (.inr (.inr (.inr (.inl hk)))))
  ·exact .inl (.inr (.inr (.inr (.inr (.inr (.inl hk))))))
  ·have hk':v'.ownBlock=some k:=hk
   rcases hv with e|e|⟨g,e,hg⟩
   ·exact .inl (.inr (.inr (.inr (.inr (.inr (.inr (.inl (e▸hk'))))))))
   ·rw[e]at hk';cases hk'
   ·rw[e]at hk';cases hk';exact .inr hg
  ·exact .inl (.inr (.inr (.inr (.inr (.inr (.inr (.inr hk)))))))
theorem Bcp{Z:Zn}{w w':World}(hs:w.heap.size<=w'.heap.size):∀k,re Z w w' k->Z k\/w.heap.size<=k:=fun k hk=>by
 rcases hk with h|h
 ·exact .inl h.1
 ·exact .inr (by omega)
theorem HD.next{Z1:Zn}{v1:Value}(hd:∀k,HZn Z h (p.at v) k->B k\/w0.heap.size<=k)(hf:Hf B w0 wr)(hx:HX Z1 W w1 h (p.at v1) (Y.hst s))(hs:∀k,HZn Z1 h (p.at v1) k->HZn Z h (p.at v) k\/wr.heap.size<=k)(hg:Hf (HZn Z h (p.at v)) wr w1):HD B W w0 w1 h p s Y:=by
 have:=hf.size
 refine⟨⟨Z1,v1,hx,fun k hk=>?_⟩,hf.trans hg fun k hk hz=>?_⟩
 ·rcases hs k hk with h1|h1
  ·exact hd k h1
  ·exact .inr (by omega)
 ·rcases hd k hz with h1|h1
  ·exact h1
  ·omega
theorem HD.trans(hd:∀k,HZn Z h (p.at v) k->B k\/w0.heap.size<=k)(hf:Hf B w0 w1)(g:HD (HZn Z h (p.at v)) W w1 wr h p s Y):HD B W w0 wr h p s Y:=by
 obtain⟨⟨Z2,v2,hx,h2⟩,hg⟩:=g
 exact HD.next hd hf hx h2 hg
end
def Aju(w:World)(k:IntKind)(ao:Option Addr)(l:List Int):Prop:=∀i x,l[i]?=some x->∃ad,ao=some ad/\w.cell? (ad.add i)=some (.int k x)
def Cng(ok:Nat->Prop)(w:World)(ao:Option Addr)(As:List Prs.Act):Prop:=∀i A,As[i]?=some A->∃ad pa pc ia ic ta tc,ao=some ad /\
 (∀j u,(Prs.Arw A (.slice pa A.params.length pc) (.slice ia A.inter.length ic) (.slice ta A.text.length tc))[j]?=some u->w.cell? ((ad.add (i*7)).add j)=some u)/\A.params.length<=pc/\pc<=maxLen/\I2 w ok .i64 pa A.params/\I2 w ok .i32 ia A.inter
section
variable {Z B B1:Zn}{W w w0 w1 wr w':World}{h:Nat}{p:HP}{X Y:Tri}{v:Value}{s:List Int}
theorem HX.old(hx:HX Z W w h (p.at v) (X.hst s)):∀k,(p.at v).own h k->k<w.heap.size:=fun k hk=>(hx.lt k hk).2
theorem Apj{k:IntKind}{ao:Option Addr}{l:List Int}{ok:Nat->Prop}(hn:I2 w ok k ao l)(hf:Hf B w wr)(hok:∀g,g<w.heap.size->ok g->¬B g):I2 wr ok k ao l:=fun i x hx=>by
 obtain⟨ad,e,hk,hc⟩:=hn i x hx
 have hlt:=World.block_lt_of_cell? _ _ hc
 rw[Aa1]at hlt
 exact⟨ad,e,hk,(World.cell?_of_block (w:=w) (by rw[Aa1];exact hf.block _ hlt (hok _ hlt hk))).trans hc⟩
theorem HX.feed(hx:HX Z W w h (p.at v) (X.hst s))(hD:X.dec.Ok){x:Int}(hb:Utf.Aer x):Calls prog 58 #[.pointer (some ⟨p.dd,0,none⟩),.int .u8 x] w fun e w'=>∃ao c Z',e=.returned (.slice ao (Utf.M8 X.dec x).2.length c) /\
  HX Z' W w' h (p.at v) (Tri.hst ⟨(Utf.M8 X.dec x).1,X.ps,X.T⟩ s)/\Hf (HZn Z h (p.at v)) w w'/\(∀k,HZn Z' h (p.at v) k->HZn Z h (p.at v) k\/w.heap.size<=k)/\∀wr,Hf (HZn Z' h (p.at v)) w' wr->Aju wr .i32 ao (Utf.M8 X.dec x).2 :=
 (Utf.Ahj X.dec hD x hb p.dd w hx.dec).mono fun e w' ⟨v',he,hd,C0,ho⟩=>by
  obtain⟨ao,c,e',_,_,hn⟩:=Auj C0
  have hl:=C0.lt
  have hold:=hx.old
  subst e'
  refine⟨ao,c,re Z w w',he,hx.Ctf hd ho,(Hf.I9 ho).mono fun k _ hk=>?_,fun k hk=>?_,fun wr hf i r hr=>?_⟩
  ·obtain rfl:=List.mem_singleton.1 hk
   exact .inr (.inr (.inr (.inl rfl)))
  ·rcases hk with hk|hk
   ·exact(Bcp ho.size k hk).imp (fun h=>.inl h) id
   ·exact .inl (.inr hk)
  ·obtain⟨ad,e,_,hc⟩:=Apj hn hf (fun g hg hgo hz=>by
    have:=(hl g hgo).1
    rcases hz with(hz|hz)|hz
    ·omega
    ·omega
    ·have:=hold g hz
     omega) i r hr
   exact⟨ad,e,hc⟩
theorem HX.parse(hx:HX Z W w h (p.at v) (X.hst s))(hP:PSW X.ps)(r:Int):Calls prog 59 #[.pointer (some ⟨p.dp,0,none⟩),.int .i32 r] w fun e w'=>∃ao c Z' v',e=.returned (.slice ao (Prs.Q5 X.ps r).1.length c) /\
  HX Z' W w' h (p.at v') (Tri.hst ⟨X.dec,(Prs.Q5 X.ps r).2,X.T⟩ s)/\Hf (HZn Z h (p.at v)) w w'/\(∀k,HZn Z' h (p.at v') k->HZn Z h (p.at v) k\/w.heap.size<=k)/\∀wr,Hf (HZn Z' h (p.at v')) w' wr->Cng (fun k=>k<w'.heap.size/\¬HZn Z' h (p.at v') k) wr ao (Prs.Q5 X.ps r).1 :=
 (Prs.Ahj X.ps hP.ok v r W.heap.size p.dp w hx.par hx.below.size).mono fun e w' ⟨x,u,he,hf⟩=>by
  have hX:=hx.par' hf.par hf.Akj hf.only
  have hs:=hf.only.size
  have hold:=hx.old
  have tv:∀g,v.ownBlock=some g->Typ w g 21:=fun g hg=>M4 hx.par.own g hg
  have A6:=hf.M9.row
  have hap:=hf.M9.Bhl hf.par.own (by decide)
  obtain⟨css,h1,h2⟩:=hf.M9.ex
  have E7:=fun g hg=>World.ownsRow.cells h2 (g:=g) hg
  obtain⟨ao,c,e',_,_⟩:=hf.M9.shape
  subst e'
  have Adh:∀k,w.heap.size<=k->k<w'.heap.size->u.ownBlock≠some k->¬HZn (re Z w w') h (p.at u) k:=fun k h1 h2 h3 hz=>by
   rcases hz with(hz|hz)|hz
   ·omega
   ·omega
   ·rcases hz with hk|hk|hk|hk|hk|hk|hk
    ·have:=hold k (.inl hk);omega
    ·have:=hold k (.inr (.inl hk));omega
    ·have:=hold k (.inr (.inr (.inl hk)));omega
    ·have:=hold k (.inr (.inr (.inr (.inl hk))));omega
    ·have:=hold k (.inr (.inr (.inr (.inr (.inl hk)))));omega
    ·exact h3 hk
    ·have:=hold k (.inr (.inr (.inr (.inr (.inr (.inr hk))))));omega
  have Bpg:∀k,k<w'.heap.size->Prs.Bdn w.heap.size p.dp v u k->¬HZn (re Z w w') h (p.at u) k:=fun k hlt hm hz=>by
   rcases Nat.lt_or_ge k w.heap.size with hk|hk
   ·have ht:v.ownBlock=some k:=hm.from_.resolve_left (by omega)
    have hno:∀ {ty:TypeId},Typ w k ty->ty≠21->False:=fun h1 h2=>h2 (Typ.inj h1 (tv k ht))
    rcases hz with(hz|hz)|hz
    ·exact hx.nz k (.inr (.inr (.inr (.inr (.inr (.inl ht)))))) hz.1
    ·omega
    ·rcases hz with hz|hz|hz|hz|hz|hz|hz
     ·subst hz;exact hno (Block.typ hx.hb) (by decide)
     ·subst hz;exact hno (Block.typ hx.eb) (by decide)
     ·subst hz;exact hno (Block.typ hx.dec) (by decide)
     ·exact hm.block hz
     ·subst hz;exact hno (Block.typ hx.tz.tv.blk) (by decide)
     ·exact hm.text hz
     ·exact hno (R0 hx.B8 k hz) (by decide)
   ·exact Adh k hk hlt hm.text hz
  refine⟨ao,c,re Z w w',u,he,hX,(Hf.I9 hf.only).mono fun k _ hk=>?_,fun k hk=>Cpo (Bcp hs) hf.Akj k hk,fun wr hF i A hA=>?_⟩
  ·rcases List.mem_cons.1 hk with rfl|hk
   ·exact .inr (.inr (.inr (.inr (.inl rfl))))
   ·exact .inr (.inr (.inr (.inr (.inr (.inr (.inl (show v.ownBlock=some k by simpa using hk)))))))
  ·obtain⟨cs,hc,hi⟩:=h1.at hA
   obtain⟨pa,pc,ia,ic,ta,tc,e,n1,n2,_⟩:=hi.ex
   obtain⟨a,c',e3,l1,l2⟩:=hi.cap
   have e4:pc=c':=by
    rw[e]at e3
    simp[Prs.Arw]at e3
    exact e3.2
   subst e4
   rcases h2.2 with⟨e5,hn⟩|⟨g,cap,cur,e5,_,hh,_⟩
   ·exfalso
    have:i<(Prs.Q5 X.ps r).1.length:=(List.getElem?_eq_some_iff.1 hA).1
    omega
   ·cases e5
    have hg:=A6 g rfl
    refine⟨⟨g,0,none⟩,pa,pc,ia,ic,ta,tc,rfl,fun j u' hu=>?_,l1,l2,Apj (ok:=fun k=>k<w'.heap.size/\¬HZn (re Z w w') h (p.at u) k) (fun i x hx=>?_) hF (fun k _ hk=>hk.2),Apj (ok:=fun k=>k<w'.heap.size/\¬HZn (re Z w w') h (p.at u) k) (fun i x hx=>?_) hF (fun k _ hk=>hk.2)⟩
    ·rw[<- e]at hu
     have:=E7 g rfl _ u' (Prs.Cka h1 (fun _ _ h=>h.len) hc hu)
     rw[Addr.add_lit,Nat.zero_add]at this
     rw[Addr.add_lit,Addr.add_lit,Nat.zero_add]
     exact(World.cell?_of_block (w:=w') (hF.block g hg.2 (Adh g hg.1 hg.2 (hap g rfl)))).trans this
    ·obtain⟨ad,e6,hk,hcx⟩:=n1 i x hx
     have hlt:=World.block_lt_of_cell? _ _ hcx
     rw[Aa1]at hlt
     exact⟨ad,e6,⟨hlt,Bpg _ hlt hk.1⟩,hcx⟩
    ·obtain⟨ad,e6,hk,hcx⟩:=n2 i x hx
     have hlt:=World.block_lt_of_cell? _ _ hcx
     rw[Aa1]at hlt
     exact⟨ad,e6,⟨hlt,Bpg _ hlt hk.1⟩,hcx⟩
theorem HX.act(hx:HX Z W wr h (p.at v) (X.hst s))(hs:∀k,HZn Z h (p.at v) k->B k\/w0.heap.size<=k)(hf:Hf B w0 wr){A:Prs.Act}(hA:Aed A)(hR:Emu.Roomy X.T (toX A)){pa ia ta:Option Addr}{pc ic tc:Nat}(hc1:A.params.length<=pc)(hc2:pc<=maxLen)(hn1:I2 wr (fun k=>k<w0.heap.size/\¬B k) .i64 pa A.params)(hn2:I2 wr (fun k=>k<w0.heap.size/\¬B k) .i32 ia A.inter) :
  Calls prog 37 #[.pointer (some ⟨p.d,0,none⟩),.agg #[.int .u8 A.kind,.int .i32 A.R,.int .i32 A.L7,.slice pa A.params.length pc,.slice ia A.inter.length ic,.int .i32 A.final,.slice ta A.text.length tc]] wr fun e w'=>e=.returned (.int .i64 0)/\HD B W w0 w' h p s ⟨X.dec,X.ps,doT X.T (toX A)⟩:=by
 have Bpe:∀k,k<wr.heap.size->(k<w0.heap.size/\¬B k)->Kept Z wr k:=fun k hk ⟨h1,h2⟩=>⟨hk,.inl fun hz=>by
  rcases hs k (.inl hz)with h3|h3
  ·exact h2 h3
  ·omega⟩
 have hk9:(Lit.int .u8 A.kind).wf=true:=by
  obtain⟨h1,h2⟩:=hA.kind
  exact WalkArith.wf_u8 (by omega)
 have S0:Fits .i64 A.params:=fun x hx=>by
  obtain⟨h1,h2⟩:=hA.par x hx
  exact WalkArith.wf_i64 (by omega)
 refine(Cmx (x:=toX A) (pa:=pa) (pn:=A.params.length) (pc:=pc) (ia:=ia) (ic:=ic) (ta:=ta) (tn:=A.text.length) (tc:=tc) hx.tz.tv hx.tz.ok ⟨hk9,hA.r.wf,hA.fin.wf,fun x hx=>(hA.inter x hx).wf⟩ hR ⟨pa,pc,rfl,hc1,hc2,S0,hn1.mono Bpe⟩ (hn2.mono Bpe)).mono fun e w' ⟨he,h1,hF⟩=>⟨he,?_⟩
 have hz:TZ Z W w' p.d p.t (doT X.T (toX A)):=⟨h1,(Boz hx.tz.ok (toX A)).ok,Azu hx.tz.below hx.tz.out hF,hx.tz.out⟩
 have hX:=hx.Bdk hz hF
 exact⟨⟨Z,v,hX,hs⟩,hf.trans (Hf.Bdi hF) fun k hk hz=>by
  rcases hs k (.inl hz)with h3|h3
  ·exact h3
  ·omega⟩
end
