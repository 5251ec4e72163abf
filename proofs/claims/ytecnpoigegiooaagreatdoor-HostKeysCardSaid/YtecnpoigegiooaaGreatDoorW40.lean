/- Part 40 of HostKeys. -/
import Derived.Test.YtecnpoigegiooaaGreatDoorW39
set_option maxHeartbeats 16000000
set_option maxRecDepth 100000
namespace Go.Proofs.YtecnpoigegiooaaGreatDoor.Emu
open Go.Proofs.Tryz
open Go RowKit Com Rw Lns Scn
abbrev Abc:=Nat×List (Cel×Value)
def hdr(cols:Nat)(p:Abc):List Value:=[.slice (some ⟨p.1,0,none⟩) cols cols]
theorem Ckr(cols:Nat)(p:Abc):∀v∈hdr cols p,v.oneCell'=true:=by
 intro v hv
 simp only[hdr,List.mem_cons,List.not_mem_nil,or_false]at hv
 subst hv
 rfl
theorem Cog:Abu prog 46 55 (.slice none 0 0) 1:=by
 have h:(prog.info? 55).map (fun i=>(i.zero,i.size,decide (i.bytes<=100)))=some (some (.slice none 0 0),1,true):=by kernel_rfl
 refine⟨underlying46,?_,rfl,by omega⟩
 cases hq:prog.info? 55 with
 |none=>simp[hq]at h
 |some i =>
  simp only[hq,Option.map_some,Option.some.injEq,Prod.mk.injEq,decide_eq_true_eq]at h
  exact⟨i,rfl,h.1,h.2.1,h.2.2⟩
structure Rws(B:Nat)(w:World)(cols:Nat)(cv iv:Value)(rs:List Abc)(ids:List Int):Prop where
 rows:w.ownsRow B 55 1 cv rs.length (fl (hdr cols) rs)
 ids:Own w B 3 .i64 iv ids
 Aff:∀p∈rs,Api B w (.slice (some ⟨p.1,0,none⟩) cols cols) p.2
section
variable {B:Nat}{w w' wa w2:World}{cols:Nat}{cv iv v2:Value}{rs:List Abc}{ids:List Int}{G:List Value}{b k1 k2:Nat}{L:List Ln}
theorem Rws.fr{B':Nat}{ts:List TypeId}(h:Rws B w cols cv iv rs ids)(hf:Rw.Fr B' ts w w')(h1:55∉ts)(h2:3∉ts)(h3:57∉ts)(h4:21∉ts):Rws B w' cols cv iv rs ids :=
 ⟨Amr h.rows hf h1,Own.fr h.ids hf h2,fun p hp=>(h.Aff p hp).fr hf h3 h4⟩
theorem Rws.below(h:Rws B w cols cv iv rs ids)(hb:Below w.heap.size w w'):Rws B w' cols cv iv rs ids:=h.fr (Rw.Fr.A1 (B:=0) (ts:=[]) hb) (by simp) (by simp) (by simp) (by simp)
theorem Rws.lower{B':Nat}(h:Rws B w cols cv iv rs ids)(hB:B'<=B):Rws B' w cols cv iv rs ids:=by
 refine⟨⟨h.rows.1,?_⟩,Own.lower h.ids hB,fun p hp=>(h.Aff p hp).lower hB⟩
 rcases h.rows.2 with h2|⟨g,cap,cur,rfl,hg,r⟩
 ·exact .inl h2
 ·exact .inr ⟨g,cap,cur,rfl,Nat.le_trans hB hg,r⟩
def Q6(cv iv:Value)(G:List Value):Array Value:=(cv::iv::G).toArray
structure U5(w wr:World)(b cols:Nat)(L:List Ln)(G:List Value)(k1 k2:Nat)(cv iv:Value)(rs:List Abc)(ids:List Int):Prop where
 below:Below w.heap.size w wr
 box:Block wr b 53 (Q6 cv iv G)
 hb:w.heap.size<=b
 rws:Rws w.heap.size wr cols cv iv rs ids
 len:rs.length=k1
 got:rs.map (fun p=>p.2.map (·.1))=(L.take k1).map (·.2)
 idq:ids=(L.take k2).map (·.1)
theorem U5.on(h:U5 w wa b cols L G k1 k2 cv iv rs ids)(hb:Below wa.heap.size wa w2):U5 w w2 b cols L G k1 k2 cv iv rs ids :=
 ⟨A2 h.below hb,Block.only h.box (A0.A1 hb []) (by simp),h.hb,h.rws.below hb,h.len,h.got,h.idq⟩
theorem Bag{L:List Ln}{k:Nat}(h:k<L.length):L.take (k+1)=L.take k++[L[k]]:=by
 rw[List.take_add_one,List.getElem?_eq_getElem h]
 rfl
theorem U5.row(h:U5 w wa b cols L G k1 k2 cv iv rs ids){wc:World}{g2:Nat}{ps:List (Cel×Value)}(hk:k1<L.length)(hbc:Below wa.heap.size wa wc)(hA:Api w.heap.size wc (.slice (some ⟨g2,0,none⟩) cols cols) ps)(hm:ps.map (·.1)=L[k1].2)
  (C0:w2.ownsRow w.heap.size 55 1 v2 (k1+1) (fl (hdr cols) rs++hdr cols (g2,ps))) (ho:A0 cv.ownBlock.toList wc w2) :
  (w2.cell? ⟨b,0,none⟩=some cv/\w2.frozen? ⟨b,0,none⟩=false)/\U5 w (w2.setCell ⟨b,0,none⟩ v2) b cols L G (k1+1) k2 v2 iv (rs++[(g2,ps)]) ids:=by
 have hc:=h.on hbc
 have ht:∀g,cv.ownBlock=some g->Typ wc g 55:=M4 hc.rws.rows
 have hf:Rw.Fr 0 [55] wc w2:=Rw.Fr.I9 ho fun k hk _=>⟨Nat.zero_le _,_,by simp,ht k (by simpa using hk)⟩
 have hbx:Block w2 b 53 (Q6 cv iv G):=Rw.Block.fr hc.box hf (.inl (by decide))
 have hf2:Rw.Fr 0 [53] w2 (w2.setCell ⟨b,0,none⟩ v2):=Rw.Fr.I9 (A0.setCell w2 ⟨b,0,none⟩ v2) fun k hk _=>by
  obtain rfl:k=b:=by simpa using hk
  exact⟨Nat.zero_le _,_,by simp,Block.typ hbx⟩
 have N1:∀g,cv.ownBlock=some g->w.heap.size<=g:=fun g hg=>(World.ownsRow.lt hc.rws.rows g hg).1
 have hbl:Below w.heap.size w w2:=hc.below.trans (ho.below hc.below.size fun k hk=>N1 k (by simpa using hk))
 refine⟨⟨hbx.cell 0 rfl,hbx.free 0⟩,⟨hbl.trans ((A0.setCell w2 ⟨b,0,none⟩ v2).below hbl.size fun k hk=>by obtain rfl:k=b:=(by simpa using hk);exact h.hb),hbx.set 0 v2,h.hb,⟨?_,Own.fr (Own.fr hc.rws.ids hf (by decide)) hf2 (by decide),fun p hp=>?_⟩,by simp[h.len],?_,h.idq⟩⟩
 ·have e:(rs++[(g2,ps)]).length=k1+1:=by simp[h.len]
  rw[e,Z9,Acq]
  exact Amr C0 hf2 (by decide)
 ·rcases List.mem_append.1 hp with hp|hp
  ·exact((hc.rws.Aff p hp).fr hf (by decide) (by decide)).fr hf2 (by decide) (by decide)
  ·obtain rfl:p=(g2,ps):=by simpa using hp
   exact(hA.fr hf (by decide) (by decide)).fr hf2 (by decide) (by decide)
 ·rw[List.map_append,h.got,Bag hk,List.map_append]
  simp[hm]
theorem U5.id(h:U5 w wa b cols L G k1 k2 cv iv rs ids){wc:World}(hk:k2<L.length)(hbc:Below wa.heap.size wa wc)
  (C0:Own w2 w.heap.size 3 .i64 v2 (ids++[L[k2].1])) (ho:A0 iv.ownBlock.toList wc w2) :
  (w2.cell? ⟨b,1,none⟩=some iv/\w2.frozen? ⟨b,1,none⟩=false)/\U5 w (w2.setCell ⟨b,1,none⟩ v2) b cols L G k1 (k2+1) cv v2 rs (ids++[L[k2].1]):=by
 have hc:=h.on hbc
 have ht:∀g,iv.ownBlock=some g->Typ wc g 3:=fun g hg=>Own.typ hc.rws.ids hg
 have hf:Rw.Fr 0 [3] wc w2:=Rw.Fr.I9 ho fun k hk _=>⟨Nat.zero_le _,_,by simp,ht k (by simpa using hk)⟩
 have hbx:Block w2 b 53 (Q6 cv iv G):=Rw.Block.fr hc.box hf (.inl (by decide))
 have hf2:Rw.Fr 0 [53] w2 (w2.setCell ⟨b,1,none⟩ v2):=Rw.Fr.I9 (A0.setCell w2 ⟨b,1,none⟩ v2) fun k hk _=>by
  obtain rfl:k=b:=by simpa using hk
  exact⟨Nat.zero_le _,_,by simp,Block.typ hbx⟩
 have N1:∀g,iv.ownBlock=some g->w.heap.size<=g:=fun g hg=>(Own.lt hc.rws.ids g hg).1
 have hbl:Below w.heap.size w w2:=hc.below.trans (ho.below hc.below.size fun k hk=>N1 k (by simpa using hk))
 refine⟨⟨hbx.cell 1 rfl,hbx.free 1⟩,⟨hbl.trans ((A0.setCell w2 ⟨b,1,none⟩ v2).below hbl.size fun k hk=>by obtain rfl:k=b:=(by simpa using hk);exact h.hb),hbx.set 1 v2,h.hb,⟨Amr (Amr hc.rws.rows hf (by decide)) hf2 (by decide),Own.fr C0 hf2 (by decide),fun p hp=>((hc.rws.Aff p hp).fr hf (by decide) (by decide)).fr hf2 (by decide) (by decide)⟩,h.len,h.got,?_⟩⟩
 rw[h.idq,Bag hk,List.map_append]
 rfl
theorem U5.one(h:U5 w wa b cols L G k1 k2 cv iv rs ids)(hG:∀v∈G,v.oneCell'=true):(Q6 cv iv G).all (·.oneCell')=true:=by
 obtain⟨a,c,rfl,_⟩:=U0 h.rws.rows
 obtain⟨a2,c2,rfl,_⟩:=h.rws.ids.shape
 simp only[Q6,List.all_toArray,List.all_cons,Bool.and_eq_true,List.all_eq_true]
 exact⟨rfl,rfl,hG⟩
theorem Bgh{n:Nat}(h:(prog.info? 53).map (·.size)=some n):(#[.slice none 0 0,.slice none 0 0,.int .i64 0,.int .i64 0,.bool false,.bool false,.bool false,.int .i64 0,.int .i64 0,.int .u32 0,.int .u32 0,.int .u16 0]:Array Value).size=n:=by
 have e:(prog.info? 53).map (·.size)=some 12:=by kernel_rfl
 rw[e]at h
 exact Option.some.inj h
end
section
variable {Z Z1:Zn}{w w':World}{d t x s b:Nat}{T:Ter}{P:Pt}{S:Scr}
theorem U5.start(w:World)(cols:Nat)(L:List Ln)(G:List Value):U5 w (w.alloc (.cells (Q6 (.slice none 0 0) (.slice none 0 0) G) 53)).drew w.heap.size cols L G 0 0 (.slice none 0 0) (.slice none 0 0) [] [] :=
 have hb:=C7 (A3 w (.cells (Q6 (.slice none 0 0) (.slice none 0 0) G) 53)) 1
 ⟨hb,Block.only (Block.made w _ _) (A0.drewN [] _ 1) (by simp),J5 _,⟨World.ownsRow_nil _ _ _ _,Own.nil _ _ _ _,fun p hp=>(by cases hp)⟩,rfl,rfl,rfl⟩
theorem U5.set{B:World}{b cols:Nat}{L:List Ln}{G:List Value}{k1 k2:Nat}{cv iv:Value}{rs:List Abc}{ids:List Int}(h:U5 B w b cols L G k1 k2 cv iv rs ids)(i:Nat)(v:Value):U5 B (w.setCell ⟨b,i+2,none⟩ v) b cols L (G.set i v) k1 k2 cv iv rs ids:=by
 have hf2:Rw.Fr 0 [53] w (w.setCell ⟨b,i+2,none⟩ v):=Rw.Fr.I9 (A0.setCell w ⟨b,i+2,none⟩ v) fun k hk _=>by
  obtain rfl:k=b:=by simpa using hk
  exact⟨Nat.zero_le _,_,by simp,Block.typ h.box⟩
 have hs:=h.box.set (i+2) v
 have e:(Q6 cv iv G).setIfInBounds (i+2) v=Q6 cv iv (G.set i v):=by simp[Q6]
 rw[e]at hs
 exact⟨h.below.trans ((A0.setCell w ⟨b,i+2,none⟩ v).below h.below.size fun k hk=>by obtain rfl:k=b:=(by simpa using hk);exact h.hb),hs,h.hb,h.rws.fr hf2 (by decide) (by decide) (by decide) (by decide),h.len,h.got,h.idq⟩
theorem Cgn(w:World)(k:IntKind)(e:TypeId)(x:Int):A8 (w.alloc (.cells #[.int k x] e)) (w.heap.size+1) k (some ⟨w.heap.size,0,none⟩) [x]:=fun i y hy=>by
 rcases i with _|i
 ·obtain rfl:x=y:=by simpa using hy
  exact⟨_,rfl,Nat.lt_succ_self _,(Block.made w e #[.int k x]).cell 0 rfl⟩
 ·simp at hy
def Cni(w:World)(n:Nat)(l:List Cel)(e:Ending)(w':World):Prop:=∃d,e=.returned (.pointer (some ⟨d,0,none⟩))/\w=w'/\Calls prog 72 #[.pointer (some ⟨d,0,none⟩)] w (Baj w n l)
theorem Clw(h:SC Z1 w x s S)(hF:Fit S){i:Nat}(hi:i<S.L.length):Calls prog 71 #[.pointer (some ⟨x,0,none⟩),.int .i64 i] w (Cni w S.cols S.L[i].2):=by
 refine(Bmw h hF.len i hi).mono ?_
 rintro e w' ⟨⟨d,rfl,sv,lv,L,R,h1,h2,h3,en,he,rfl⟩,rfl⟩
 have hm:=List.mem_of_getElem? he
 obtain⟨hgd,_,_,n,cap,tail,hx⟩:=h1.rows en hm
 have hl:S.L[i].2=en.l:=by
  have e2:(vw L)[i]?=some (en.id,en.l):=by simp[vw,he]
  rw[h2,List.getElem?_eq_getElem hi]at e2
  rw[Option.some.inj e2]
 have hc:=hF.wid _ (List.getElem_mem hi)
 have h4:=Bhn hx (fun c hc=>(hgd.cell c hc).four)
 have hn:=hx.len
 rw[hl]at hc |-
 rw[show n=S.cols by omega]at h4
 exact⟨_,rfl,rfl,h4⟩
def Ajx(T:Ter):List Value:=[.int .i64 T.c.row,.int .i64 T.c.col,.bool T.c.F6,.bool (!T.m.a5),.bool T.other.isNone,.int .i64 T.vis.top,.int .i64 T.vis.bot,.int .u32 T.p.a.f,.int .u32 T.p.a.b,.int .u16 T.p.a.g]
structure Ahw(B:Nat)(w:World)(T:Ter)(cv iv:Value)(rs:List Abc):Prop where
 rws:Rws B w T.vis.cols cv iv rs (T.vis.L.map (·.1))
 len:rs.length=T.vis.L.length
 got:rs.map (fun p=>p.2.map (·.1))=T.vis.L.map (·.2)
def Avh(w:World)(T:Ter)(e:Ending)(w':World):Prop:=∃cv iv rs,e=.returned (.agg (Q6 cv iv (Ajx T)))/\Ahw w.heap.size w' T cv iv rs/\Below w.heap.size w w'
theorem Cfi(o:Option Sh)(hh:Nat):∃b,o.isNone=b/\(∀w,(binOp .eql 99 (Aiv o hh) (.pointer none)).run prog w=.ok (.bool b) w)/\∀w,(eqGuard .eql 99 (.tmp 32) (.const (.pointer none)) (Aiv o hh) (.pointer none)).run prog w=.ok () w:=by
 rcases o with _|o
 ·exact⟨true,rfl,fun w=>by kernel_rfl,fun w=>by kernel_rfl⟩
 ·exact⟨false,rfl,fun w=>by kernel_rfl,fun w=>by kernel_rfl⟩
theorem Cez(h:TMx Z w t T P)(ok:Ok T):Calls prog 53 #[.pointer (some ⟨t,0,none⟩)] w (Avh w T):=by
 have hbn:=A3 w (.cells #[.slice none 0 0,.slice none 0 0,.int .i64 0,.int .i64 0,.bool false,.bool false,.bool false,.int .i64 0,.int .i64 0,.int .u32 0,.int .u32 0,.int .u16 0] 53)
 have hbx:=Block.made w 53 #[.slice none 0 0,.slice none 0 0,.int .i64 0,.int .i64 0,.bool false,.bool false,.bool false,.int .i64 0,.int .i64 0,.int .u32 0,.int .u32 0,.int .u16 0]
 have hlt:=hbx.lt
 replace h:=h.below hbn
 generalize hw0:w.alloc (.cells #[.slice none 0 0,.slice none 0 0,.int .i64 0,.int .i64 0,.bool false,.bool false,.bool false,.int .i64 0,.int .i64 0,.int .u32 0,.int .u32 0,.int .u16 0] 53)=w0 at h hbn hbx hlt
 obtain⟨Z1,hf⟩:=h.focus
 have hsh:=J0 (I7 h)
 have hT:=J0 (fun w1 (hb:Below w0.heap.size w0 w1)=>h.below hb)
 have hmg:=J0 (fun w1 (hb:Below w0.heap.size w0 w1)=>Amx (hf.sc.below hb) ok.fit.len)
 have hro:=J0 (fun w1 (hb:Below w0.heap.size w0 w1)=>Adx (hf.sc.below hb) ok.fit.len)
 have hid:=J0 (fun w1 (hb:Below w0.heap.size w0 w1) i (hi:i<T.vis.L.length)=>(Blp hi▸Bpm (hf.sc.below hb) ok.fit.len (i:Int):Calls prog 73 #[.pointer (some ⟨P.x T.other,0,none⟩),.int .i64 i] w1 fun e w'=>e=.returned (.int .i64 T.vis.L[i].1)/\w1=w'))
 have hrc:=J0 (fun w1 (hb:Below w0.heap.size w0 w1) i (hi:i<T.vis.L.length)=>Clw (hf.sc.below hb) ok.fit hi)
 have hl5:=ok.fit.G8
 have hs0:=J0 (fun w1 (hb:Below w0.heap.size w0 w1)=>(h.below hb).s0)
 have E3:=J0 (fun w1 (hb:Below w0.heap.size w0 w1)=>(Block.only hbx (A0.A1 hb []) (by simp):Block w1 w.heap.size 53 _))
 have hoq:=Cfi T.other P.ho
 have Aag:Hid (∀(cv iv:Value) (rs:List Abc) (ids:List Int) (w1 w2:World),U5 w0 w1 w0.heap.size T.vis.cols T.vis.L (Ajx T) T.vis.L.length T.vis.L.length cv iv rs ids->A0 [w.heap.size] w1 w2->Avh w T (.returned (.agg (Q6 cv iv (Ajx T)))) w2):=J0 fun cv iv rs ids w1 w2 g ho=>by
  have hfr:Rw.Fr 0 [53] w1 w2:=Rw.Fr.I9 ho fun k hk _=>by
   obtain rfl:k=w.heap.size:=by simpa using hk
   exact⟨Nat.zero_le _,_,by simp,Block.typ (Block.only hbx (A0.A1 g.below []) (by simp))⟩
  have g1:=(g.rws.lower (B':=w.heap.size) (by omega)).fr hfr (by decide) (by decide) (by decide) (by decide)
  have g3:=g.got
  rw[g.idq,List.take_length]at g1
  rw[List.take_length]at g3
  refine⟨cv,iv,rs,rfl,⟨g1,g.len,g3⟩,?_⟩
  have hb1:Below w.heap.size w w1:=A2 hbn g.below
  exact hb1.trans (ho.below hb1.size fun k hk=>by obtain rfl:k=w.heap.size:=(by simpa using hk);exact J5 _)
 unfold Ajx at Aag
 obtain⟨L,hL⟩:∃L,T.vis.L=L:=⟨_,rfl⟩
 rw[hL]at hl5 hro hid hrc Aag
 generalize Avh w T=R at Aag |-
 generalize P.x T.other=xx at hmg hro hid hrc hs0
 generalize P.h T.other=hh at hsh hs0
 generalize T.vis.cols=cols at hrc Aag
 generalize T.vis.top=top at hmg Aag
 generalize T.vis.bot=bot at hmg Aag
 generalize hlen:L.length=n at hl5 hro Aag
 replace hlen:=J0 hlen
 replace hL:=J0 hL
 obtain⟨nl,hnl,hoq,hog⟩:=hoq
 rw[hnl]at Aag
 replace hnl:=J0 hnl
 have Asw:=fun w1 (hb:Below w0.heap.size w0 w1)=>(hT.out w1 hb).c19
 generalize Aiv T.other P.ho=v19 at hoq hog Asw
 replace Asw:=J0 Asw
 clear h ok hf hlt
 go_enter func53,ntmps53
 go_upto_region 1 with(fail)
 replace hw0:=J0 hw0
 go_wp2_with((go_at_call 68;(with_reducible refine(hsh.out).mono ?_);rintro e w1 ⟨rfl,rfl⟩))
 refine Eqt.Atg (fun w'=>Below w0.heap.size w0 w') (by kernel_rfl) ?_
 have hH:Below w0.heap.size w0 w0.drew:=C7 (Below.refl w0.heap.size w0) 1
 refine Eqt.E6 (i:=0) (oi:=⟨some 8,_,_,_,_,_⟩) (v:=?_) rfl (by kernel_rfl) (by kernel_rfl) (by kernel_rfl) (fun _ _ _ h=>h) (Or.inl ⟨by rfl,?_⟩) (fun _=>hH) ?_
 rotate_left
 ·(intro w;go_simp)<;>with_reducible rfl
 try simp only[Act.put,J1,J2,J3]
 refine Eqt.E6 (i:=1) (oi:=⟨some 9,_,_,_,_,_⟩) (v:=?_) rfl (by kernel_rfl) (by kernel_rfl) (by kernel_rfl) (fun _ _ _ h=>h) (Or.inl ⟨by rfl,?_⟩) (fun _=>hH) ?_
 rotate_left
 ·(intro w;go_simp)<;>with_reducible rfl
 try simp only[Act.put,J1,J2,J3]
 refine Eqt.E6 (i:=2) (oi:=⟨some 10,_,_,_,_,_⟩) (v:=?_) rfl (by kernel_rfl) (by kernel_rfl) (by kernel_rfl) (fun _ _ _ h=>h) (Or.inl ⟨by rfl,?_⟩) (fun _=>hH) ?_
 rotate_left
 ·(intro w;go_simp)<;>with_reducible rfl
 try simp only[Act.put,J1,J2,J3]
 refine Eqt.E6 (i:=3) (oi:=⟨some 11,_,_,_,_,_⟩) (v:=?_) rfl (by kernel_rfl) (by kernel_rfl) (by kernel_rfl) (fun _ _ _ h=>h) (Or.inl ⟨by rfl,?_⟩) (fun _=>hH) ?_
 rotate_left
 ·(intro w;go_simp)<;>with_reducible rfl
 try simp only[Act.put,J1,J2,J3]
 refine Eqt.E6 (i:=5) (oi:=⟨some 13,_,_,_,_,_⟩) (v:=?_) rfl (by kernel_rfl) (by kernel_rfl) (by kernel_rfl) (fun _ _ _ h=>h) (Or.inl ⟨by rfl,?_⟩) (fun _=>hH) ?_
 rotate_left
 ·(intro w;go_simp)<;>with_reducible rfl
 try simp only[Act.put,J1,J2,J3]
 refine Eqt.E6 (i:=6) (oi:=⟨some 14,_,_,_,_,_⟩) (v:=?_) rfl (by kernel_rfl) (by kernel_rfl) (by kernel_rfl) (fun _ _ _ h=>h) (Or.inl ⟨by rfl,?_⟩) (fun _=>hH) ?_
 rotate_left
 ·(intro w;go_simp)<;>with_reducible rfl
 try simp only[Act.put,J1,J2,J3]
 refine Eqt.E6 (i:=7) (oi:=⟨some 15,_,_,_,_,_⟩) (v:=?_) rfl (by kernel_rfl) (by kernel_rfl) (by kernel_rfl) (fun _ _ _ h=>h) (Or.inl ⟨by rfl,?_⟩) (fun _=>hH) ?_
 rotate_left
 ·(intro w;go_simp)<;>with_reducible rfl
 try simp only[Act.put,J1,J2,J3]
 refine Eqt.E6 (i:=8) (oi:=⟨some 16,_,_,_,_,_⟩) (v:=?_) rfl (by kernel_rfl) (by kernel_rfl) (by kernel_rfl) (fun _ _ _ h=>h) (Or.inl ⟨by rfl,?_⟩) (fun _=>hH) ?_
 rotate_left
 ·(intro w;go_simp)<;>with_reducible rfl
 try simp only[Act.put,J1,J2,J3]
 refine Eqt.E6 (i:=10) (oi:=⟨some 18,_,_,_,_,_⟩) (v:=?_) rfl (by kernel_rfl) (by kernel_rfl) (by kernel_rfl) (fun _ _ _ h=>h) (Or.inl ⟨by rfl,?_⟩) (fun _=>hH) ?_
 rotate_left
 ·(intro w;go_simp)<;>with_reducible rfl
 try simp only[Act.put,J1,J2,J3]
 refine Eqt.E6 (i:=11) (oi:=⟨some 19,_,_,_,_,_⟩) (v:=?_) rfl (by kernel_rfl) (by kernel_rfl) (by kernel_rfl) (fun _ _ _ h=>h) (Or.inl ⟨by rfl,?_⟩) (fun _=>hH) ?_
 rotate_left
 ·(intro w;go_simp)<;>with_reducible rfl
 try simp only[Act.put,J1,J2,J3]
 refine Eqt.E6 (i:=12) (oi:=⟨some 20,_,_,_,_,_⟩) (v:=?_) rfl (by kernel_rfl) (by kernel_rfl) (by kernel_rfl) (fun _ _ _ h=>h) (Or.inl ⟨by rfl,?_⟩) (fun _=>hH) ?_
 rotate_left
 ·(intro w;go_simp)<;>with_reducible rfl
 try simp only[Act.put,J1,J2,J3]
 refine Eqt.E6 (i:=13) (oi:=⟨some 21,_,_,_,_,_⟩) (v:=?_) rfl (by kernel_rfl) (by kernel_rfl) (by kernel_rfl) (fun _ _ _ h=>h) (Or.inl ⟨by rfl,?_⟩) (fun _=>hH) ?_
 rotate_left
 ·(intro w;go_simp)<;>with_reducible rfl
 try simp only[Act.put,J1,J2,J3]
 refine Eqt.E6 (i:=15) (oi:=⟨some 23,_,_,_,_,_⟩) (v:=?_) rfl (by kernel_rfl) (by kernel_rfl) (by kernel_rfl) (fun _ _ _ h=>h) (Or.inl ⟨by rfl,?_⟩) (fun _=>hH) ?_
 rotate_left
 ·(intro w;go_simp)<;>with_reducible rfl
 try simp only[Act.put,J1,J2,J3]
 refine Eqt.E6 (i:=16) (oi:=⟨some 24,_,_,_,_,_⟩) (v:=?_) rfl (by kernel_rfl) (by kernel_rfl) (by kernel_rfl) (fun _ _ _ h=>h) (Or.inl ⟨by rfl,?_⟩) (fun _=>hH) ?_
 rotate_left
 ·(intro w;go_simp)<;>with_reducible rfl
 try simp only[Act.put,J1,J2,J3]
 refine Eqt.E6 (i:=17) (oi:=⟨some 25,_,_,_,_,_⟩) (v:=?_) rfl (by kernel_rfl) (by kernel_rfl) (by kernel_rfl) (fun _ _ _ h=>h) (Or.inl ⟨by rfl,?_⟩) (fun _=>hH) ?_
 rotate_left
 ·(intro w;go_simp)<;>with_reducible rfl
 try simp only[Act.put,J1,J2,J3]
 refine Eqt.E6 (i:=18) (oi:=⟨some 26,_,_,_,_,_⟩) (v:=?_) rfl (by kernel_rfl) (by kernel_rfl) (by kernel_rfl) (fun _ _ _ h=>h) (Or.inl ⟨by rfl,?_⟩) (fun _=>hH) ?_
 rotate_left
 ·(intro w;go_simp)<;>with_reducible rfl
 try simp only[Act.put,J1,J2,J3]
 refine Eqt.E6 (i:=21) (oi:=⟨some 29,_,_,_,_,_⟩) (v:=?_) rfl (by kernel_rfl) (by kernel_rfl) (by kernel_rfl) (fun _ _ _ h=>h) (Or.inl ⟨by rfl,?_⟩) (fun _=>hH) ?_
 rotate_left
 ·(intro w;go_simp)<;>with_reducible rfl
 try simp only[Act.put,J1,J2,J3]
 refine Eqt.E6 (i:=22) (oi:=⟨some 30,_,_,_,_,_⟩) (v:=?_) rfl (by kernel_rfl) (by kernel_rfl) (by kernel_rfl) (fun _ _ _ h=>h) (Or.inl ⟨by rfl,?_⟩) (fun _=>hH) ?_
 rotate_left
 ·(intro w;go_simp)<;>with_reducible rfl
 try simp only[Act.put,J1,J2,J3]
 refine Eqt.E6 (i:=23) (oi:=⟨some 31,_,_,_,_,_⟩) (v:=?_) rfl (by kernel_rfl) (by kernel_rfl) (by kernel_rfl) (fun _ _ _ h=>h) (Or.inl ⟨by rfl,?_⟩) (fun _=>hH) ?_
 rotate_left
 ·(intro w;go_simp)<;>with_reducible rfl
 try simp only[Act.put,J1,J2,J3]
 refine Eqt.E6 (i:=26) (oi:=⟨some 34,_,_,_,_,_⟩) (v:=?_) rfl (by kernel_rfl) (by kernel_rfl) (by kernel_rfl) (fun _ _ _ h=>h) (Or.inl ⟨by rfl,?_⟩) (fun _=>hH) ?_
 rotate_left
 ·(intro w;go_simp)<;>with_reducible rfl
 try simp only[Act.put,J1,J2,J3]
 refine Eqt.E6 (i:=27) (oi:=⟨some 35,_,_,_,_,_⟩) (v:=?_) rfl (by kernel_rfl) (by kernel_rfl) (by kernel_rfl) (fun _ _ _ h=>h) (Or.inl ⟨by rfl,?_⟩) (fun _=>hH) ?_
 rotate_left
 ·(intro w;go_simp)<;>with_reducible rfl
 try simp only[Act.put,J1,J2,J3]
 refine Eqt.E6 (i:=28) (oi:=⟨some 36,_,_,_,_,_⟩) (v:=?_) rfl (by kernel_rfl) (by kernel_rfl) (by kernel_rfl) (fun _ _ _ h=>h) (Or.inl ⟨by rfl,?_⟩) (fun _=>hH) ?_
 rotate_left
 ·(intro w;go_simp)<;>with_reducible rfl
 try simp only[Act.put,J1,J2,J3]
 refine Eqt.E6 (i:=29) (oi:=⟨some 37,_,_,_,_,_⟩) (v:=?_) rfl (by kernel_rfl) (by kernel_rfl) (by kernel_rfl) (fun _ _ _ h=>h) (Or.inl ⟨by rfl,?_⟩) (fun _=>hH) ?_
 rotate_left
 ·(intro w;go_simp)<;>with_reducible rfl
 try simp only[Act.put,J1,J2,J3]
 refine Eqt.W5 (i:=4) (oi:=⟨some 12,_,_,_,_,_⟩) (v:=?_) rfl (by kernel_rfl) (by kernel_rfl) (by kernel_rfl) (fun _ _ _ h=>h) (Or.inl ⟨by rfl,?_⟩) hH ?_
 rotate_left
 ·(intro w hSw;have q:=(hT.out _ hSw).c8;go_simp)<;>with_reducible rfl
 try simp only[Act.put,J1,J2,J3]
 refine Eqt.W5 (i:=9) (oi:=⟨some 17,_,_,_,_,_⟩) (v:=?_) rfl (by kernel_rfl) (by kernel_rfl) (by kernel_rfl) (fun _ _ _ h=>h) (Or.inl ⟨by rfl,?_⟩) hH ?_
 rotate_left
 ·(intro w hSw;have q:=(hT.out _ hSw).c9;go_simp)<;>with_reducible rfl
 try simp only[Act.put,J1,J2,J3]
 refine Eqt.W5 (i:=14) (oi:=⟨some 22,_,_,_,_,_⟩) (v:=?_) rfl (by kernel_rfl) (by kernel_rfl) (by kernel_rfl) (fun _ _ _ h=>h) (Or.inl ⟨by rfl,?_⟩) hH ?_
 rotate_left
 ·(intro w hSw;have q:=(hT.out _ hSw).c10;go_simp)<;>with_reducible rfl
 try simp only[Act.put,J1,J2,J3]
 refine Eqt.W5 (i:=19) (oi:=⟨some 27,_,_,_,_,_⟩) (v:=?_) rfl (by kernel_rfl) (by kernel_rfl) (by kernel_rfl) (fun _ _ _ h=>h) (Or.inl ⟨by rfl,?_⟩) hH ?_
 rotate_left
 ·(intro w hSw;have q:=(hT.out _ hSw).c5;go_simp)<;>with_reducible rfl
 try simp only[Act.put,J1,J2,J3]
 refine Eqt.E6 (i:=20) (oi:=⟨some 28,_,_,_,_,_⟩) (v:=?_) rfl (by kernel_rfl) (by kernel_rfl) (by kernel_rfl) (fun _ _ _ h=>h) (Or.inl ⟨by rfl,?_⟩) (fun _=>hH) ?_
 rotate_left
 ·(intro w;go_simp)<;>with_reducible rfl
 try simp only[Act.put,J1,J2,J3]
 refine Eqt.W5 (i:=24) (oi:=⟨some 32,_,_,_,_,_⟩) (v:=?_) rfl (by kernel_rfl) (by kernel_rfl) (by kernel_rfl) (fun _ _ _ h=>h) (Or.inl ⟨by rfl,?_⟩) hH ?_
 rotate_left
 ·(intro w hSw;have q:=Asw.out _ hSw;go_simp)<;>with_reducible rfl
 try simp only[Act.put,J1,J2,J3]
 refine Eqt.E6 (i:=25) (oi:=⟨some 33,_,_,_,_,_⟩) (v:=?_) rfl (by kernel_rfl) (by kernel_rfl) (by kernel_rfl) (fun _ _ _ h=>h) (Or.inl ⟨by rfl,?_⟩) (fun _=>hH) ?_
 rotate_left
 ·(intro w;go_simp)<;>with_reducible rfl
 try simp only[Act.put,J1,J2,J3]
 refine Eqt.W5 (i:=30) (oi:=⟨some 38,_,_,_,_,_⟩) (v:=?_) rfl (by kernel_rfl) (by kernel_rfl) (by kernel_rfl) (fun _ _ _ h=>h) (Or.inl ⟨by rfl,?_⟩) hH ?_
 rotate_left
 ·(intro w hSw;have q:=(hT.out _ hSw).c11;have q2:=(hT.out _ hSw).c12;have q3:=(hT.out _ hSw).c13;go_simp)<;>with_reducible rfl
 try simp only[Act.put,J1,J2,J3]
 refine Eqt.E6 (i:=31) (oi:=⟨some 39,_,_,_,_,_⟩) (v:=?_) rfl (by kernel_rfl) (by kernel_rfl) (by kernel_rfl) (fun _ _ _ h=>h) (Or.inl ⟨by rfl,?_⟩) (fun _=>hH) ?_
 rotate_left
 ·(intro w;go_simp)<;>with_reducible rfl
 try simp only[Act.put,J1,J2,J3]
 refine Eqt.Adn 32 [30,24,19,14,9,4] (o:=⟨some 4,_,_,_,_,_⟩) (by kernel_rfl) rfl (by kernel_rfl) (fun K hK=>?_)
 go_simp
 replace hH:=hH.alloc (J5 _) (.cells #[.slice none 0 0,.slice none 0 0,.int .i64 0,.int .i64 0,.bool false,.bool false,.bool false,.int .i64 0,.int .i64 0,.int .u32 0,.int .u32 0,.int .u16 0] 53)
 refine hK.out _ _ (fun _=>hH) ?_
 clear hK K
 try simp only[Act.put,J1,J2,J3]
 refine Eqt.Adn 33 [] (o:=⟨none,_,_,_,_,_⟩) (by kernel_rfl) rfl (by kernel_rfl) (fun K hK=>?_)
 go_simp
 refine hK.out _ _ (fun h=>absurd rfl h) ?_
 clear hK K
 try simp only[Act.put,J1,J2,J3]
 refine Eqt.Atp (by kernel_rfl) ?_ _
 (try dsimp only [Act.put])
 clear hH
 have hg0:=U5.start w0 cols L [.int .i64 T.c.row,.int .i64 T.c.col,.bool T.c.F6,.bool (!T.m.a5),.bool nl,.int .i64 0,.int .i64 0,.int .u32 T.p.a.f,.int .u32 T.p.a.b,.int .u16 T.p.a.g]
 simp only[Q6]at hg0
 change U5 w0 (w0.alloc (.cells #[.slice none 0 0,.slice none 0 0,.int .i64 T.c.row,.int .i64 T.c.col,.bool T.c.F6,.bool (!T.m.a5),.bool nl,.int .i64 0,.int .i64 0,.int .u32 T.p.a.f,.int .u32 T.p.a.b,.int .u16 T.p.a.g] 53)).drew w0.heap.size cols L [.int .i64 T.c.row,.int .i64 T.c.col,.bool T.c.F6,.bool (!T.m.a5),.bool nl,.int .i64 0,.int .i64 0,.int .u32 T.p.a.f,.int .u32 T.p.a.b,.int .u16 T.p.a.g] 0 0 (.slice none 0 0) (.slice none 0 0) [] []at hg0
 generalize (w0.alloc (.cells #[.slice none 0 0,.slice none 0 0,.int .i64 T.c.row,.int .i64 T.c.col,.bool T.c.F6,.bool (!T.m.a5),.bool nl,.int .i64 0,.int .i64 0,.int .u32 T.p.a.f,.int .u32 T.p.a.b,.int .u16 T.p.a.g] 53)).drew=w1 at hg0 |-
 have hb1:=J0 hg0.below
 have s1:=hs0.out _ hg0.below
 have hg1:=J0 (fun q=>hg0.on (C7 (Below.refl _ _) q))
 have hst:Hid (∀q,U5 w0 (((w1.drewN q).setCell ⟨w0.heap.size,7,none⟩ (.int .i64 top)).setCell ⟨w0.heap.size,8,none⟩ (.int .i64 bot)) w0.heap.size cols L [.int .i64 T.c.row,.int .i64 T.c.col,.bool T.c.F6,.bool (!T.m.a5),.bool nl,.int .i64 top,.int .i64 bot,.int .u32 T.p.a.f,.int .u32 T.p.a.b,.int .u16 T.p.a.g] 0 0 (.slice none 0 0) (.slice none 0 0) [] []):=J0 (fun q=>((hg1.out q).set 5 (.int .i64 top)).set 6 (.int .i64 bot))
 have d7:=fun q=>(hg1.out q).box.cell 7 (v:=.int .i64 0) rfl
 have d8:=fun q=>(hg1.out q).box.cell 8 (v:=.int .i64 0) rfl
 have f7:=fun q=>(hg1.out q).box.free 7
 have f8:=fun q=>(hg1.out q).box.free 8
 clear hg0
 go_wp2_with((go_at_call 69;(with_reducible refine(hmg.out _ hb1.out).mono ?_);rintro e w2 ⟨rfl,q,rfl⟩))
 have Agp:=J0 (hst.out q)
 generalize ((w1.drewN q).setCell ⟨w0.heap.size,7,none⟩ (.int .i64 top)).setCell ⟨w0.heap.size,8,none⟩ (.int .i64 bot)=w4 at Agp |-
 have B9:Hid (∀cv iv,(prog.info? 53).map (·.size)=some (Q6 cv iv [.int .i64 T.c.row,.int .i64 T.c.col,.bool T.c.F6,.bool (!T.m.a5),.bool nl,.int .i64 top,.int .i64 bot,.int .u32 T.p.a.f,.int .u32 T.p.a.b,.int .u16 T.p.a.g]).size):=J0 fun cv iv=>by kernel_rfl
 have hG1:Hid (∀v∈([.int .i64 T.c.row,.int .i64 T.c.col,.bool T.c.F6,.bool (!T.m.a5),.bool nl,.int .i64 top,.int .i64 bot,.int .u32 T.p.a.f,.int .u32 T.p.a.b,.int .u16 T.p.a.g]:List Value),v.oneCell'=true):=J0 (by simp[Value.oneCell'])
 generalize ([.int .i64 T.c.row,.int .i64 T.c.col,.bool T.c.F6,.bool (!T.m.a5),.bool nl,.int .i64 top,.int .i64 bot,.int .u32 T.p.a.f,.int .u32 T.p.a.b,.int .u16 T.p.a.g]:List Value)=G at Agp Aag B9 hG1
 obtain⟨bx,D2⟩:∃bx,bx=w0.heap.size:=⟨_,rfl⟩
 rw[<- D2]at Agp Aag |-
 replace D2:=J0 D2
 clear hst hg1 d7 d8 f7 f8 hb1 s1 hmg hT hsh Asw hoq hog
 with_reducible refine(hro.out _ Agp.out.below).mono ?_
 rintro e w3 ⟨rfl,rfl⟩
 clear hro
 go_wp2
 go_loopw [55] (fun i wr=>∃k:Nat,k<=n/\i=.int .i64 k/\∃cv iv rs ids,Hid (U5 w0 wr bx cols L G k k cv iv rs ids)) (fun i _=>n-(intOf i).toNat)
 case atStart=>exact⟨0,Nat.zero_le _,rfl,_,_,_,_,Agp⟩
 case round =>
  obtain⟨k,hk,rfl,cv,iv,rs,ids,hR⟩:=hrel
  clear Agp
  rename_i wr _
  by_cases hlt:k<n
  ·have hkL:k<L.length:=by rw[hlen.out];exact hlt
   have hkI:(k:Int)<(n:Int):=by omega
   have hbr:=J0 (fun w2 (hb:Below wr.heap.size wr w2)=>A2 hR.out.below hb)
   have hbc:=J0 (fun w2 (hb:Below wr.heap.size wr w2)=>(hR.out.on hb))
   go_upto_region 7 with(fail)
   refine Eqt.Atg (fun w'=>Below wr.heap.size wr w') (by kernel_rfl) ?_
   have hH:Below wr.heap.size wr wr.drew:=C7 (Below.refl wr.heap.size wr) 1
   refine Eqt.E6 (i:=0) (oi:=⟨some 58,_,_,_,_,_⟩) (v:=?_) rfl (by kernel_rfl) (by kernel_rfl) (by kernel_rfl) (fun _ _ _ h=>h) (Or.inl ⟨by rfl,?_⟩) (fun _=>hH) ?_
   rotate_left
   ·(intro w;go_simp)<;>with_reducible rfl
   try simp only[Act.put,J1,J2,J3]
   refine Eqt.E6 (i:=2) (oi:=⟨some 60,_,_,_,_,_⟩) (v:=?_) rfl (by kernel_rfl) (by kernel_rfl) (by kernel_rfl) (fun _ _ _ h=>h) (Or.inl ⟨by rfl,?_⟩) (fun _=>hH) ?_
   rotate_left
   ·(intro w;go_simp)<;>with_reducible rfl
   try simp only[Act.put,J1,J2,J3]
   refine Eqt.E6 (i:=3) (oi:=⟨some 61,_,_,_,_,_⟩) (v:=?_) rfl (by kernel_rfl) (by kernel_rfl) (by kernel_rfl) (fun _ _ _ h=>h) (Or.inl ⟨by rfl,?_⟩) (fun _=>hH) ?_
   rotate_left
   ·(intro w;go_simp)<;>with_reducible rfl
   try simp only[Act.put,J1,J2,J3]
   refine Eqt.E6 (i:=4) (oi:=⟨some 62,_,_,_,_,_⟩) (v:=?_) rfl (by kernel_rfl) (by kernel_rfl) (by kernel_rfl) (fun _ _ _ h=>h) (Or.inl ⟨by rfl,?_⟩) (fun _=>hH) ?_
   rotate_left
   ·(intro w;go_simp)<;>with_reducible rfl
   try simp only[Act.put,J1,J2,J3]
   refine Eqt.E6 (i:=6) (oi:=⟨some 64,_,_,_,_,_⟩) (v:=?_) rfl (by kernel_rfl) (by kernel_rfl) (by kernel_rfl) (fun _ _ _ h=>h) (Or.inl ⟨by rfl,?_⟩) (fun _=>hH) ?_
   rotate_left
   ·(intro w;go_simp)<;>with_reducible rfl
   try simp only[Act.put,J1,J2,J3]
   refine Eqt.W5 (i:=1) (oi:=⟨some 59,_,_,_,_,_⟩) (v:=?_) rfl (by kernel_rfl) (by kernel_rfl) (by kernel_rfl) (fun _ _ _ h=>h) (Or.inl ⟨by rfl,?_⟩) hH ?_
   rotate_left
   ·(intro w hSw;have q:=(hbc.out _ hSw).box.cell 0 (v:=cv) rfl;go_simp)<;>with_reducible rfl
   try simp only[Act.put,J1,J2,J3]
   refine Eqt.W5 (i:=5) (oi:=⟨some 63,_,_,_,_,_⟩) (v:=?_) rfl (by kernel_rfl) (by kernel_rfl) (by kernel_rfl) (fun _ _ _ h=>h) (Or.inl ⟨by rfl,?_⟩) hH ?_
   rotate_left
   ·(intro w hSw;have q:=hs0.out _ (hbr.out _ hSw);go_simp)<;>with_reducible rfl
   try simp only[Act.put,J1,J2,J3]
   refine Eqt.Adn 7 [1] (o:=⟨some 65,_,_,_,_,_⟩) (by kernel_rfl) rfl (by kernel_rfl) (fun K hK=>?_)
   go_simp
   go_at_call 71
   (with_reducible refine(hrc.out _ (hbr.out _ hH) k hkL).mono ?_)
   rintro e w5 ⟨d2,rfl,rfl,hce⟩
   replace hce:=J0 hce
   replace hH:=hH
   refine hK.out _ _ (fun _=>hH) ?_
   clear hK K
   try simp only[Act.put,J1,J2,J3]
   refine Eqt.Adn 8 [1] (o:=⟨some 66,_,_,_,_,_⟩) (by kernel_rfl) rfl (by kernel_rfl) (fun K hK=>?_)
   go_simp
   go_at_call 72
   (with_reducible refine hce.out.mono ?_)
   rintro e w6 ⟨g2,ps,rfl,hA,Aos,hb6,hg2⟩
   replace hH:=A2 hH hb6
   refine hK.out _ _ (fun _=>hH) ?_
   clear hK K
   try simp only[Act.put,J1,J2,J3]
   refine Eqt.Adn 9 [1] (o:=⟨some 67,_,_,_,_,_⟩) (by kernel_rfl) rfl (by kernel_rfl) (fun K hK=>?_)
   go_simp
   replace hH:=hH.alloc hH.size (.cells #[.slice (some ⟨g2,0,none⟩) cols cols] 55)
   refine hK.out _ _ (fun _=>hH) ?_
   clear hK K
   try simp only[Act.put,J1,J2,J3]
   refine Eqt.Adn 10 [] (o:=⟨some 68,_,_,_,_,_⟩) (by kernel_rfl) rfl (by kernel_rfl) (fun K hK=>?_)
   have hA2:=(hA.lower (B':=w0.heap.size) ((hbr.out _ (C7 (Below.refl wr.heap.size wr) 1)).size)).below (A3 w6 (.cells #[.slice (some ⟨g2,0,none⟩) cols cols] 55))
   have Acw:=(hbc.out _ hH).rws.rows
   rw[hR.out.len]at Acw
   refine Biv Cog rfl (.tmp 59) (.tmp 67) rfl w0.heap.size cv k (fl (hdr cols) rs) ⟨w6.heap.size,0,none⟩ 1 1 (hdr cols (g2,ps)) rfl rfl Acw rfl (fun j u hj=>by rw[Addr.add_lit,Nat.zero_add];exact(Block.made w6 55 #[.slice (some ⟨g2,0,none⟩) cols cols]).cell j (by simpa[hdr]using hj)) (Ckr _ _) ((hbr.out _ hH).size) (by omega) ?_
   intro v2 w7 L4 ho2 _
   have A6:=hR.out.row hkL hH hA2 Aos L4 ho2
   obtain⟨⟨k2,f2⟩,hR2⟩:=A6
   replace hR2:=J0 hR2
   obtain⟨a2,c2,rfl,_⟩:=U0 L4
   clear L4 ho2 hA2 Acw
   refine hK.out _ _ (fun h=>absurd rfl h) ?_
   clear hK K
   try simp only[Act.put,J1,J2,J3]
   refine Eqt.E6 (i:=11) (oi:=⟨some 69,_,_,_,_,_⟩) (v:=?_) rfl (by kernel_rfl) (by kernel_rfl) (by kernel_rfl) (fun _ _ _ h=>h) (Or.inl ⟨by rfl,?_⟩) (fun h=>absurd rfl h) ?_
   rotate_left
   ·(intro w;go_simp)<;>with_reducible rfl
   try simp only[Act.put,J1,J2,J3]
   refine Eqt.Adn 12 [] (o:=⟨none,_,_,_,_,_⟩) (by kernel_rfl) rfl (by kernel_rfl) (fun K hK=>?_)
   go_simp
   refine hK.out _ _ (fun h=>absurd rfl h) ?_
   clear hK K
   try simp only[Act.put,J1,J2,J3]
   refine Eqt.Atp (by kernel_rfl) ?_ _
   (try dsimp only [Act.put])
   generalize w7.setCell ⟨bx,0,none⟩ (.slice a2 (k+1) c2)=w8 at hR2 |-
   obtain⟨V,hV⟩:∃V:Value,V=.slice a2 (k+1) c2:=⟨_,rfl⟩
   rw[<- hV]at hR2
   replace hV:=J0 hV
   clear hbr hbc Aos hg2 hb6 hR k2 f2
   have hbr:=J0 (fun w2 (hb:Below w8.heap.size w8 w2)=>A2 hR2.out.below hb)
   have hbc:=J0 (fun w2 (hb:Below w8.heap.size w8 w2)=>(hR2.out.on hb))
   have hln:ids.length=k:=by rw[hR2.out.idq,List.length_map,List.length_take];omega
   replace hln:=J0 hln
   go_wp2
   refine Eqt.Atg (fun w'=>Below w8.heap.size w8 w') (by kernel_rfl) ?_
   have hH:Below w8.heap.size w8 w8.drew:=C7 (Below.refl w8.heap.size w8) 1
   refine Eqt.E6 (i:=0) (oi:=⟨some 70,_,_,_,_,_⟩) (v:=?_) rfl (by kernel_rfl) (by kernel_rfl) (by kernel_rfl) (fun _ _ _ h=>h) (Or.inl ⟨by rfl,?_⟩) (fun _=>hH) ?_
   rotate_left
   ·(intro w;go_simp)<;>with_reducible rfl
   try simp only[Act.put,J1,J2,J3]
   refine Eqt.E6 (i:=2) (oi:=⟨some 72,_,_,_,_,_⟩) (v:=?_) rfl (by kernel_rfl) (by kernel_rfl) (by kernel_rfl) (fun _ _ _ h=>h) (Or.inl ⟨by rfl,?_⟩) (fun _=>hH) ?_
   rotate_left
   ·(intro w;go_simp)<;>with_reducible rfl
   try simp only[Act.put,J1,J2,J3]
   refine Eqt.E6 (i:=3) (oi:=⟨some 73,_,_,_,_,_⟩) (v:=?_) rfl (by kernel_rfl) (by kernel_rfl) (by kernel_rfl) (fun _ _ _ h=>h) (Or.inl ⟨by rfl,?_⟩) (fun _=>hH) ?_
   rotate_left
   ·(intro w;go_simp)<;>with_reducible rfl
   try simp only[Act.put,J1,J2,J3]
   refine Eqt.E6 (i:=4) (oi:=⟨some 74,_,_,_,_,_⟩) (v:=?_) rfl (by kernel_rfl) (by kernel_rfl) (by kernel_rfl) (fun _ _ _ h=>h) (Or.inl ⟨by rfl,?_⟩) (fun _=>hH) ?_
   rotate_left
   ·(intro w;go_simp)<;>with_reducible rfl
   try simp only[Act.put,J1,J2,J3]
   refine Eqt.E6 (i:=6) (oi:=⟨some 76,_,_,_,_,_⟩) (v:=?_) rfl (by kernel_rfl) (by kernel_rfl) (by kernel_rfl) (fun _ _ _ h=>h) (Or.inl ⟨by rfl,?_⟩) (fun _=>hH) ?_
   rotate_left
   ·(intro w;go_simp)<;>with_reducible rfl
   try simp only[Act.put,J1,J2,J3]
   refine Eqt.W5 (i:=1) (oi:=⟨some 71,_,_,_,_,_⟩) (v:=?_) rfl (by kernel_rfl) (by kernel_rfl) (by kernel_rfl) (fun _ _ _ h=>h) (Or.inl ⟨by rfl,?_⟩) hH ?_
   rotate_left
   ·(intro w hSw;have q:=(hbc.out _ hSw).box.cell 1 (v:=iv) rfl;go_simp)<;>with_reducible rfl
   try simp only[Act.put,J1,J2,J3]
   refine Eqt.W5 (i:=5) (oi:=⟨some 75,_,_,_,_,_⟩) (v:=?_) rfl (by kernel_rfl) (by kernel_rfl) (by kernel_rfl) (fun _ _ _ h=>h) (Or.inl ⟨by rfl,?_⟩) hH ?_
   rotate_left
   ·(intro w hSw;have q:=hs0.out _ (hbr.out _ hSw);go_simp)<;>with_reducible rfl
   try simp only[Act.put,J1,J2,J3]
   refine Eqt.Adn 7 [1] (o:=⟨some 77,_,_,_,_,_⟩) (by kernel_rfl) rfl (by kernel_rfl) (fun K hK=>?_)
   go_simp
   go_at_call 73
   (with_reducible refine(hid.out _ (hbr.out _ hH) k hkL).mono ?_)
   rintro e w9 ⟨rfl,rfl⟩
   generalize Ctu:L[k].1=id9
   replace hH:=hH
   refine hK.out _ _ (fun _=>hH) ?_
   clear hK K
   try simp only[Act.put,J1,J2,J3]
   refine Eqt.Adn 8 [1] (o:=⟨some 78,_,_,_,_,_⟩) (by kernel_rfl) rfl (by kernel_rfl) (fun K hK=>?_)
   go_simp
   replace hH:=hH.alloc hH.size (.cells #[.int .i64 id9] 3)
   refine hK.out _ _ (fun _=>hH) ?_
   clear hK K
   try simp only[Act.put,J1,J2,J3]
   refine Eqt.Adn 9 [] (o:=⟨some 79,_,_,_,_,_⟩) (by kernel_rfl) rfl (by kernel_rfl) (fun K hK=>?_)
   have Acw:=(hbc.out _ hH).rws.ids
   refine Bkl Tbs.Arf rfl (.tmp 71) (.tmp 78) rfl w0.heap.size iv ids [id9] (some ⟨w8.heap.size,0,none⟩) _ 1 rfl rfl Acw (Cgn w8.drew .i64 3 id9) ((hbr.out _ hH).size) (by rw[hln.out];simp;omega) (by rw[hln.out];simp[maxLen];omega) ?_
   intro v3 w10 Aic ho3 _
   rw[<- Ctu]at Aic
   have A6:=hR2.out.id hkL hH Aic ho3
   obtain⟨⟨k2,f2⟩,hR3⟩:=A6
   replace hR3:=J0 hR3
   obtain⟨a3,c3,e3,_⟩:=Aic.shape
   rw[List.length_append,List.length_singleton]at e3
   subst e3
   clear Aic ho3 Acw
   refine hK.out _ _ (fun h=>absurd rfl h) ?_
   clear hK K
   try simp only[Act.put,J1,J2,J3]
   refine Eqt.E6 (i:=10) (oi:=⟨some 80,_,_,_,_,_⟩) (v:=?_) rfl (by kernel_rfl) (by kernel_rfl) (by kernel_rfl) (fun _ _ _ h=>h) (Or.inl ⟨by rfl,?_⟩) (fun h=>absurd rfl h) ?_
   rotate_left
   ·(intro w;go_simp)<;>with_reducible rfl
   try simp only[Act.put,J1,J2,J3]
   refine Eqt.Adn 11 [] (o:=⟨none,_,_,_,_,_⟩) (by kernel_rfl) rfl (by kernel_rfl) (fun K hK=>?_)
   go_simp
   refine hK.out _ _ (fun h=>absurd rfl h) ?_
   clear hK K
   try simp only[Act.put,J1,J2,J3]
   refine Eqt.Atp (by kernel_rfl) ?_ _
   (try dsimp only [Act.put])
   clear hbr hbc hR2 k2 f2
   go_wp2
   go_roundw
   case rel=>exact⟨k+1,by omega,by go_num,_,_,_,_,hR3⟩
   case measure=>simp[intOf];omega
  ·obtain rfl:k=n:=by omega
   have hbe:=E3.out _ hR.out.below
   have Aeg:wr.heap[bx]?=some (.cells (Q6 cv iv G) 53 (0,0)):=hR.out.box
   have Ark:=hR.out.one hG1.out
   have Aaz:=B9.out cv iv
   have A4:=J0 (fun w2 (ho:A0 [w.heap.size] wr w2)=>Aag.out _ _ _ _ _ w2 hR.out ho)
   clear Aag E3 hR
   go_wp2_with (first
    |(with_reducible refine J9 82 4 ?_;go_must(refine wpList_load_row rfl _ (.tmp 4) rfl bx rfl _ (Q6 cv iv G) (0,0) _ Aeg underlying53 rfl Aaz ?_))
    |(with_reducible refine J8 2 ?_;go_must(refine L8 rfl _ (.tmp 2) (.tmp 82) rfl hbe (Q6 cv iv G) rfl rfl Aaz (Bgh Aaz) Ark ?_);intro w8 hb8 ho8))
   exact bodyPost_ret (results_cell_row rfl _ _ _ _ _ _ _ rfl hb8 underlying53 rfl Aaz) rfl (A4.out _ ho8)
end
