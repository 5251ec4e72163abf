/- Part 47 of HostSplits. -/
import Derived.Test.YtecnpoigegiooaaGreatDoorP46
set_option maxHeartbeats 16000000
set_option maxRecDepth 100000
namespace Go.Proofs.YtecnpoigegiooaaGreatDoor.Hos
open Go RowKit Com Rw Lns Emu Scn
def HP.at (p:HP) (v:Value):HP:={ p with pv:=v }
def Tri.hst (X:Tri) (s:List Int):Hst:=⟨X.dec,X.ps,X.T,s⟩
def HZn (Z:Zn) (h:Nat) (p:HP):Zn:=fun k=>Z k\/p.own h k
section
variable {Z B:Zn}{W w w':World}{h:Nat}{p:HP}{H:Hst}{X:Tri}{v:Value}{s:List Int}
theorem HX.up (hx:HX Z W w h p H):∀k,w.heap.size<=k->Z k:=hx.tz.low.2.1
theorem HX.below (hx:HX Z W w h p H):Below W.heap.size W w:=hx.tz.below
theorem HX.on (hx:HX Z W w h p H) (hb:Below w.heap.size w w'):HX (re Z w w') W w' h p H:=hx.other (Hf.of_below (fun _=>False) hb) (fun _ _ _ h=>h) (fun _ _ h=>h) (fun _ _ h=>h)
theorem HX.on' (hx:HX Z W w h p H) (hb:Below w.heap.size w w'):HX Z W w' h p H:=by
 have ho:=Only.of_below hb []
 have hlt:=hx.lt
 exact⟨Block.only hx.hb ho (by simp),Block.only hx.eb ho (by simp),Block.only hx.dec ho (by simp),hx.par.new hb,hx.sent.below hb,hx.tz.on hb,hx.nz,hx.lo,hx.six⟩
theorem HX.dec' {D':Utf.Dec} (hx:HX Z W w h (p.at v) (X.hst s)) (hd:Utf.DecIn w' p.dd D') (ho:Only [p.dd] w w'):HX (re Z w w') W w' h (p.at v) (Tri.hst ⟨D',X.ps,X.T⟩ s):=by
 have hs:=ho.size
 have hlt:=hx.lt
 have hf:=Hf.of_only ho
 have hnd:∀ {k:Nat} {ty:TypeId} {cs:Array Value},Block w k ty cs->ty≠107->k∉[p.dd]:=fun hb hn hm=>by
  obtain rfl:=List.mem_singleton.1 hm
  exact hn (Typ.inj (Block.typ hb) (Block.typ hx.dec))
 have hr:v.ownBlock≠some p.dd:=hx.par.own.apart hx.dec (by decide)
 have hq:∀g,p.sv.ownBlock=some g->g∉[p.dd]:=fun g hg hm=>by
  obtain rfl:=List.mem_singleton.1 hm
  exact hx.sent.apart (g:=p.dd) hx.dec (by decide) hg
 refine⟨Block.only hx.hb ho (hnd hx.hb (by decide)),Block.only hx.eb ho (hnd hx.eb (by decide)),hd,hx.par.only ho (hnd hx.par.blk.blk (by decide)) (fun g hg hm=>?_),hx.sent.only ho hq,TZ.re hx.tz hf (fun k hk hz hm=>?_) (fun hm=>hnd hx.tz.tv.blk (by decide) hm) (fun k hk hm=>?_) hx.six,fun k hk hz=>?_,hx.lo,hx.six⟩
 ·obtain rfl:=List.mem_singleton.1 hm
  exact hr hg
 ·obtain rfl:=List.mem_singleton.1 hm
  exact hx.nz p.dd (.inr (.inr (.inl rfl))) hz
 ·obtain rfl:=List.mem_singleton.1 hm
  have:=(hlt p.dd (.inr (.inr (.inl rfl)))).1
  omega
 ·rcases hz with hz|hz
  ·exact hx.nz k hk hz.1
  ·have:=(hlt k hk).2
   omega
theorem HX.par' {v':Value} {S':Prs.PS} (hx:HX Z W w h (p.at v) (X.hst s)) (hp:Prs.ParIn w' W.heap.size p.dp v' S') (hl:v'.ownBlock=v.ownBlock\/v'.ownBlock=none\/∃g,v'.ownBlock=some g/\w.heap.size<=g) (ho:Only (p.dp::v.ownBlock.toList) w w') :
  HX (re Z w w') W w' h (p.at v') (Tri.hst ⟨X.dec,S',X.T⟩ s):=by
 have hs:=ho.size
 have hlt:=hx.lt
 have hf:=Hf.of_only ho
 have tp:=Block.typ hx.par.blk.blk
 have tv:∀g,v.ownBlock=some g->Typ w g 21:=fun g hg=>Ab9 hx.par.own g hg
 have hnd:∀ {k:Nat} {ty:TypeId},Typ w k ty->ty≠115->ty≠21->k∉p.dp::v.ownBlock.toList:=fun hb hn hn2 hm=>by
  rcases List.mem_cons.1 hm with rfl|hm
  ·exact hn (Typ.inj hb tp)
  ·exact hn2 (Typ.inj hb (tv _ (by simpa using hm)))
 have own:∀k,k∈p.dp::v.ownBlock.toList->(p.at v).own h k:=fun k hm=>by
  rcases List.mem_cons.1 hm with rfl|hm
  ·exact .inr (.inr (.inr (.inl rfl)))
  ·exact .inr (.inr (.inr (.inr (.inr (.inl (show v.ownBlock=some k by simpa using hm))))))
 refine⟨Block.only hx.hb ho (hnd (Block.typ hx.hb) (by decide) (by decide)),Block.only hx.eb ho (hnd (Block.typ hx.eb) (by decide) (by decide)),Block.only hx.dec ho (hnd (Block.typ hx.dec) (by decide) (by decide)),hp,hx.sent.only ho (fun g hg=>hnd (Ad2 hx.sent g hg) (by decide) (by decide)),TZ.re hx.tz hf (fun k hk hz hm=>hx.nz k (own k hm) hz) (fun hm=>hnd (Block.typ hx.tz.tv.blk) (by decide) (by decide) hm) (fun k hk hm=>?_) hx.six,fun k hk hz=>?_,hx.lo,hx.six⟩
 ·have:=(hlt k (own k hm)).1
  omega
 ·have old:(p.at v).own h k\/w.heap.size<=k/\k<w'.heap.size:=by
   rcases hk with hk|hk|hk|hk|hk|hk|hk
   ·exact .inl (.inl hk)
   ·exact .inl (.inr (.inl hk))
   ·exact .inl (.inr (.inr (.inl hk)))
   ·exact .inl (.inr (.inr (.inr (.inl hk))))
   ·exact .inl (.inr (.inr (.inr (.inr (.inl hk)))))
   ·rcases hl with e|e|⟨g,e,hg⟩
    ·exact .inl (.inr (.inr (.inr (.inr (.inr (.inl (e▸hk)))))))
    ·have hk':v'.ownBlock=some k:=hk
     rw[e] at hk';cases hk'
    ·have hk':v'.ownBlock=some k:=hk
     have h2:=(hp.own.lt k hk').2
     rw[e] at hk';cases hk'
     exact .inr ⟨hg,h2⟩
   ·exact .inl (.inr (.inr (.inr (.inr (.inr (.inr hk))))))
  rcases hz with hz|hz
  ·rcases old with old|old
   ·exact hx.nz k old hz.1
   ·omega
  ·rcases old with old|old
   ·have:=(hlt k old).2
    omega
   ·omega
theorem HX.term' {T':Ter} (hx:HX Z W w h (p.at v) (X.hst s)) (ht:TZ Z W w' p.d p.t T') (hf:Scn.Fr Z TT w w'):HX Z W w' h (p.at v) (Tri.hst ⟨X.dec,X.ps,T'⟩ s):=by
 have hlt:=hx.lt
 have same:∀k,(p.at v).own h k->w'.heap[k]?=w.heap[k]?:=fun k hk=>hf.block k (hlt k hk).2 (.inl (hx.nz k hk))
 have hb:∀ {k:Nat} {ty:TypeId} {cs:Array Value},Block w k ty cs->(p.at v).own h k->Block w' k ty cs:=fun hb hk=>(same _ hk).trans hb
 exact⟨hb hx.hb (.inl rfl),hb hx.eb (.inr (.inl rfl)),hb hx.dec (.inr (.inr (.inl rfl))),⟨hb hx.par.blk.blk (.inr (.inr (.inr (.inl rfl)))),Ac1 hx.par.own (fun g hg=>same g (.inr (.inr (.inr (.inr (.inr (.inl hg))))))),hx.par.low⟩,
  Ad3 hx.sent (fun g hg=>same g (.inr (.inr (.inr (.inr (.inr (.inr hg))))))),ht,hx.nz,hx.lo,hx.six⟩
end
structure HD (B:Zn) (W w0 wr:World) (h:Nat) (p:HP) (s:List Int) (X:Tri):Prop where
 ex:∃Z v,HX Z W wr h (p.at v) (X.hst s)/\∀k,HZn Z h (p.at v) k->B k\/w0.heap.size<=k
 fr:Hf B w0 wr
section
variable {Z B B1:Zn}{W w w0 w1 wr w':World}{h:Nat}{p:HP}{X Y:Tri}{v:Value}{s:List Int}
theorem HX.start (hx:HX Z W w h (p.at v) (X.hst s)):HD (HZn Z h (p.at v)) W w w h p s X:=⟨⟨Z,v,hx,fun _ h=>.inl h⟩,Hf.refl _ _⟩
theorem own_at {Z':Zn} {v':Value} (hz:∀k,Z' k->Z k\/w.heap.size<=k) (hv:v'.ownBlock=v.ownBlock\/v'.ownBlock=none\/∃g,v'.ownBlock=some g/\w.heap.size<=g):∀k,HZn Z' h (p.at v') k->HZn Z h (p.at v) k\/w.heap.size<=k:=fun k hk=>by
 rcases hk with hk|hk
 ·rcases hz k hk with h1|h1
  ·exact .inl (.inl h1)
  ·exact .inr h1
 ·rcases hk with hk|hk|hk|hk|hk|hk|hk
  ·exact .inl (.inr (.inl hk))
  ·exact .inl (.inr (.inr (.inl hk)))
  ·exact .inl (.inr (.inr (.inr (.inl hk))))
  ·exact .inl (.inr (.inr (.inr (.inr (.inl hk)))))
  ·exact .inl (.inr (.inr (.inr (.inr (.inr (.inl hk))))))
  ·have hk':v'.ownBlock=some k:=hk
   rcases hv with e|e|⟨g,e,hg⟩
   ·exact .inl (.inr (.inr (.inr (.inr (.inr (.inr (.inl (e▸hk'))))))))
   ·rw[e] at hk';cases hk'
   ·rw[e] at hk';cases hk';exact .inr hg
  ·exact .inl (.inr (.inr (.inr (.inr (.inr (.inr (.inr hk)))))))
theorem Cm2 {Z:Zn} {w w':World} (hs:w.heap.size<=w'.heap.size):∀k,re Z w w' k->Z k\/w.heap.size<=k:=fun k hk=>by
 rcases hk with h|h
 ·exact .inl h.1
 ·exact .inr (by omega)
theorem HD.next {Z1:Zn} {v1:Value} (hd:∀k,HZn Z h (p.at v) k->B k\/w0.heap.size<=k) (hf:Hf B w0 wr) (hx:HX Z1 W w1 h (p.at v1) (Y.hst s)) (hs:∀k,HZn Z1 h (p.at v1) k->HZn Z h (p.at v) k\/wr.heap.size<=k) (hg:Hf (HZn Z h (p.at v)) wr w1):HD B W w0 w1 h p s Y:=by
 have:=hf.size
 refine⟨⟨Z1,v1,hx,fun k hk=>?_⟩,hf.trans hg fun k hk hz=>?_⟩
 ·rcases hs k hk with h1|h1
  ·exact hd k h1
  ·exact .inr (by omega)
 ·rcases hd k hz with h1|h1
  ·exact h1
  ·omega
theorem HD.trans (hd:∀k,HZn Z h (p.at v) k->B k\/w0.heap.size<=k) (hf:Hf B w0 w1) (g:HD (HZn Z h (p.at v)) W w1 wr h p s Y):HD B W w0 wr h p s Y:=by
 obtain⟨⟨Z2,v2,hx,h2⟩,hg⟩:=g
 exact HD.next hd hf hx h2 hg
end
def Bq8 (w:World) (k:IntKind) (ao:Option Addr) (l:List Int):Prop:=∀i x,l[i]?=some x->∃ad,ao=some ad/\w.cell? (ad.add i)=some (.int k x)
def ActsAt (ok:Nat->Prop) (w:World) (ao:Option Addr) (As:List Prs.Act):Prop:=∀i A,As[i]?=some A->∃ad pa pc ia ic ta tc,ao=some ad /\
 (∀j u,(Prs.actL A (.slice pa A.params.length pc) (.slice ia A.inter.length ic) (.slice ta A.text.length tc))[j]?=some u->w.cell? ((ad.add (i*7)).add j)=some u)/\A.params.length<=pc/\pc<=maxLen/\NumsP w ok .i64 pa A.params/\NumsP w ok .i32 ia A.inter
section
variable {Z B B1:Zn}{W w w0 w1 wr w':World}{h:Nat}{p:HP}{X Y:Tri}{v:Value}{s:List Int}
theorem HX.old (hx:HX Z W w h (p.at v) (X.hst s)):∀k,(p.at v).own h k->k<w.heap.size:=fun k hk=>(hx.lt k hk).2
theorem Aq0 {k:IntKind} {ao:Option Addr} {l:List Int} {ok:Nat->Prop} (hn:NumsP w ok k ao l) (hf:Hf B w wr) (hok:∀g,g<w.heap.size->ok g->¬B g):NumsP wr ok k ao l:=fun i x hx=>by
 obtain⟨ad,e,hk,hc⟩:=hn i x hx
 have hlt:=World.block_lt_of_cell? _ _ hc
 rw[Ac5] at hlt
 exact⟨ad,e,hk,(World.cell?_of_block (w:=w) (by rw[Ac5];exact hf.block _ hlt (hok _ hlt hk))).trans hc⟩
theorem HX.feed (hx:HX Z W w h (p.at v) (X.hst s)) (hD:X.dec.Ok) {x:Int} (hb:Utf.IsByte x):Calls Tryz.prog 58 #[.pointer (some ⟨p.dd,0,none⟩),.int .u8 x] w fun e w'=>∃ao c Z',e=.returned (.slice ao (Utf.takeF X.dec x).2.length c) /\
  HX Z' W w' h (p.at v) (Tri.hst ⟨(Utf.takeF X.dec x).1,X.ps,X.T⟩ s)/\Hf (HZn Z h (p.at v)) w w'/\(∀k,HZn Z' h (p.at v) k->HZn Z h (p.at v) k\/w.heap.size<=k)/\∀wr,Hf (HZn Z' h (p.at v)) w' wr->Bq8 wr .i32 ao (Utf.takeF X.dec x).2 :=
 (Utf.feed_any X.dec hD x hb p.dd w hx.dec).mono fun e w' ⟨v',he,hd,hown,ho⟩=>by
  obtain⟨ao,c,e',_,_,hn⟩:=Ax0 hown
  have hl:=hown.lt
  have hold:=hx.old
  subst e'
  refine⟨ao,c,re Z w w',he,hx.dec' hd ho,(Hf.of_only ho).mono fun k _ hk=>?_,fun k hk=>?_,fun wr hf i r hr=>?_⟩
  ·obtain rfl:=List.mem_singleton.1 hk
   exact .inr (.inr (.inr (.inl rfl)))
  ·rcases hk with hk|hk
   ·exact(Cm2 ho.size k hk).imp (fun h=>.inl h) id
   ·exact .inl (.inr hk)
  ·obtain⟨ad,e,_,hc⟩:=Aq0 hn hf (fun g hg hgo hz=>by
    have:=(hl g hgo).1
    rcases hz with (hz|hz)|hz
    ·omega
    ·omega
    ·have:=hold g hz
     omega) i r hr
   exact⟨ad,e,hc⟩
theorem HX.parse (hx:HX Z W w h (p.at v) (X.hst s)) (hP:PSW X.ps) (r:Int):Calls Tryz.prog 59 #[.pointer (some ⟨p.dp,0,none⟩),.int .i32 r] w fun e w'=>∃ao c Z' v',e=.returned (.slice ao (Prs.feedF X.ps r).1.length c) /\
  HX Z' W w' h (p.at v') (Tri.hst ⟨X.dec,(Prs.feedF X.ps r).2,X.T⟩ s)/\Hf (HZn Z h (p.at v)) w w'/\(∀k,HZn Z' h (p.at v') k->HZn Z h (p.at v) k\/w.heap.size<=k)/\∀wr,Hf (HZn Z' h (p.at v')) w' wr->ActsAt (fun k=>k<w'.heap.size/\¬HZn Z' h (p.at v') k) wr ao (Prs.feedF X.ps r).1 :=
 (Prs.feed_any X.ps hP.ok v r W.heap.size p.dp w hx.par hx.below.size).mono fun e w' ⟨x,u,he,hf⟩=>by
  have hX:=hx.par' hf.par hf.lies hf.only
  have hs:=hf.only.size
  have hold:=hx.old
  have tv:∀g,v.ownBlock=some g->Typ w g 21:=fun g hg=>Ab9 hx.par.own g hg
  have hrow:=hf.acts.row
  have hap:=hf.acts.apart_row hf.par.own (by decide)
  obtain⟨css,h1,h2⟩:=hf.acts.ex
  have hcell:=fun g hg=>World.ownsRow.cells h2 (g:=g) hg
  obtain⟨ao,c,e',_,_⟩:=hf.acts.shape
  subst e'
  have hnew:∀k,w.heap.size<=k->k<w'.heap.size->u.ownBlock≠some k->¬HZn (re Z w w') h (p.at u) k:=fun k h1 h2 h3 hz=>by
   rcases hz with (hz|hz)|hz
   ·omega
   ·omega
   ·rcases hz with hk|hk|hk|hk|hk|hk|hk
    ·have:=hold k (.inl hk);omega
    ·have:=hold k (.inr (.inl hk));omega
    ·have:=hold k (.inr (.inr (.inl hk)));omega
    ·have:=hold k (.inr (.inr (.inr (.inl hk))));omega
    ·have:=hold k (.inr (.inr (.inr (.inr (.inl hk)))));omega
    ·exact h3 hk
    ·have:=hold k (.inr (.inr (.inr (.inr (.inr (.inr hk))))));omega
  have hmine:∀k,k<w'.heap.size->Prs.Mine w.heap.size p.dp v u k->¬HZn (re Z w w') h (p.at u) k:=fun k hlt hm hz=>by
   rcases Nat.lt_or_ge k w.heap.size with hk|hk
   ·have ht:v.ownBlock=some k:=hm.from_.resolve_left (by omega)
    have hno:∀ {ty:TypeId},Typ w k ty->ty≠21->False:=fun h1 h2=>h2 (Typ.inj h1 (tv k ht))
    rcases hz with (hz|hz)|hz
    ·exact hx.nz k (.inr (.inr (.inr (.inr (.inr (.inl ht)))))) hz.1
    ·omega
    ·rcases hz with hz|hz|hz|hz|hz|hz|hz
     ·subst hz;exact hno (Block.typ hx.hb) (by decide)
     ·subst hz;exact hno (Block.typ hx.eb) (by decide)
     ·subst hz;exact hno (Block.typ hx.dec) (by decide)
     ·exact hm.block hz
     ·subst hz;exact hno (Block.typ hx.tz.tv.blk) (by decide)
     ·exact hm.text hz
     ·exact hno (Ad2 hx.sent k hz) (by decide)
   ·exact hnew k hk hlt hm.text hz
  refine⟨ao,c,re Z w w',u,he,hX,(Hf.of_only hf.only).mono fun k _ hk=>?_,fun k hk=>own_at (Cm2 hs) hf.lies k hk,fun wr hF i A hA=>?_⟩
  ·rcases List.mem_cons.1 hk with rfl|hk
   ·exact .inr (.inr (.inr (.inr (.inl rfl))))
   ·exact .inr (.inr (.inr (.inr (.inr (.inr (.inl (show v.ownBlock=some k by simpa using hk)))))))
  ·obtain⟨cs,hc,hi⟩:=h1.at hA
   obtain⟨pa,pc,ia,ic,ta,tc,e,n1,n2,_⟩:=hi.ex
   obtain⟨a,c',e3,l1,l2⟩:=hi.cap
   have e4:pc=c':=by
    rw[e] at e3
    simp[Prs.actL] at e3
    exact e3.2
   subst e4
   rcases h2.2 with ⟨e5,hn⟩|⟨g,cap,cur,e5,_,hh,_⟩
   ·exfalso
    have:i<(Prs.feedF X.ps r).1.length:=(List.getElem?_eq_some_iff.1 hA).1
    omega
   ·cases e5
    have hg:=hrow g rfl
    refine⟨⟨g,0,none⟩,pa,pc,ia,ic,ta,tc,rfl,fun j u' hu=>?_,l1,l2,Aq0 (ok:=fun k=>k<w'.heap.size/\¬HZn (re Z w w') h (p.at u) k) (fun i x hx=>?_) hF (fun k _ hk=>hk.2),Aq0 (ok:=fun k=>k<w'.heap.size/\¬HZn (re Z w w') h (p.at u) k) (fun i x hx=>?_) hF (fun k _ hk=>hk.2)⟩
    ·rw[<- e] at hu
     have:=hcell g rfl _ u' (Prs.flat_at h1 (fun _ _ h=>h.len) hc hu)
     rw[Addr.add_lit,Nat.zero_add] at this
     rw[Addr.add_lit,Addr.add_lit,Nat.zero_add]
     exact(World.cell?_of_block (w:=w') (hF.block g hg.2 (hnew g hg.1 hg.2 (hap g rfl)))).trans this
    ·obtain⟨ad,e6,hk,hcx⟩:=n1 i x hx
     have hlt:=World.block_lt_of_cell? _ _ hcx
     rw[Ac5] at hlt
     exact⟨ad,e6,⟨hlt,hmine _ hlt hk.1⟩,hcx⟩
    ·obtain⟨ad,e6,hk,hcx⟩:=n2 i x hx
     have hlt:=World.block_lt_of_cell? _ _ hcx
     rw[Ac5] at hlt
     exact⟨ad,e6,⟨hlt,hmine _ hlt hk.1⟩,hcx⟩
theorem HX.act (hx:HX Z W wr h (p.at v) (X.hst s)) (hs:∀k,HZn Z h (p.at v) k->B k\/w0.heap.size<=k) (hf:Hf B w0 wr) {A:Prs.Act} (hA:ActW A) (hR:Emu.Roomy X.T (toX A)) {pa ia ta:Option Addr} {pc ic tc:Nat} (hc1:A.params.length<=pc) (hc2:pc<=maxLen) (hn1:NumsP wr (fun k=>k<w0.heap.size/\¬B k) .i64 pa A.params) (hn2:NumsP wr (fun k=>k<w0.heap.size/\¬B k) .i32 ia A.inter) :
  Calls Tryz.prog 37 #[.pointer (some ⟨p.d,0,none⟩),.agg #[.int .u8 A.kind,.int .i32 A.R,.int .i32 A.priv,.slice pa A.params.length pc,.slice ia A.inter.length ic,.int .i32 A.final,.slice ta A.text.length tc]] wr fun e w'=>e=.returned (.int .i64 0)/\HD B W w0 w' h p s ⟨X.dec,X.ps,doT X.T (toX A)⟩:=by
 have hkept:∀k,k<wr.heap.size->(k<w0.heap.size/\¬B k)->Kept Z wr k:=fun k hk ⟨h1,h2⟩=>⟨hk,.inl fun hz=>by
  rcases hs k (.inl hz) with h3|h3
  ·exact h2 h3
  ·omega⟩
 have hk9:(Lit.int .u8 A.kind).wf=true:=by
  obtain⟨h1,h2⟩:=hA.kind
  exact WalkArith.wf_u8 (by omega)
 have hfit:Fits .i64 A.params:=fun x hx=>by
  obtain⟨h1,h2⟩:=hA.par x hx
  exact WalkArith.wf_i64 (by omega)
 refine(tdo_any (x:=toX A) (pa:=pa) (pn:=A.params.length) (pc:=pc) (ia:=ia) (ic:=ic) (ta:=ta) (tn:=A.text.length) (tc:=tc) hx.tz.tv hx.tz.ok ⟨hk9,hA.r.wf,hA.fin.wf,fun x hx=>(hA.inter x hx).wf⟩ hR ⟨pa,pc,rfl,hc1,hc2,hfit,hn1.mono hkept⟩ (hn2.mono hkept)).mono fun e w' ⟨he,h1,hF⟩=>⟨he,?_⟩
 have hz:TZ Z W w' p.d p.t (doT X.T (toX A)):=⟨h1,(Ct6 hx.tz.ok (toX A)).ok,Be9 hx.tz.below hx.tz.out hF,hx.tz.out⟩
 have hX:=hx.term' hz hF
 exact⟨⟨Z,v,hX,hs⟩,hf.trans (Hf.of_fr hF) fun k hk hz=>by
  rcases hs k (.inl hz) with h3|h3
  ·exact h3
  ·omega⟩
end
def Bd (c:Nat) (X:Tri):Prop:=Tr c 8000000000 70000000 8000000000 8000000 X
def Cp3 (B:Zn) (W w:World) (h:Nat) (p:HP) (s:List Int) (Y:Tri) (e:Ending) (w':World):Prop:=(∃x,e=.returned x)/\HD B W w w' h p s Y
theorem bd_rune {c:Nat} {X:Tri} (h:Bd c X) {l:List Int} (hl:l.length<=2) {i:Nat} {x:Int} (hx:Utf.IsByte x) (_hl:l=(Utf.takeF X.dec x).2):Tr c 8000004000 70000400 8000000080 8000004 (Tri.runes ⟨(Utf.takeF X.dec x).1,X.ps,X.T⟩ (l.take i)):=by
 have h1:Tr c 8000000000 70000000 8000000000 8000000 ⟨(Utf.takeF X.dec x).1,X.ps,X.T⟩:=⟨Utf.take_ok h.dec hx,h.ps,h.rh⟩
 have h2:(l.take i).length<=2:=by simp;omega
 exact(Tr.runes (l:=l.take i) h1).mono (by omega) (by omega) (by omega) (by omega)
section
variable {Z:Zn}{W w:World}{h:Nat}{p:HP}{X:Tri}{v:Value}{s b:List Int}{ao:Option Addr}{n cp c:Nat}
theorem hand_any (hx:HX Z W w h (p.at v) (X.hst s)) (hBd:∀k,k<=b.length->Bd c (X.hand (b.take k))) (hb:Utf.Bytes b) (hsh:∀wr,Hf (HZn Z h (p.at v)) w wr->Bq8 wr .u8 ao b) (hn:b.length=n) (hn5:n<=100000) :
  Calls Tryz.prog 36 #[.pointer (some ⟨p.e,0,none⟩),.slice ao n cp,.func (Fn.func 37) #[.pointer (some ⟨p.d,0,none⟩)] #[]] w (Cp3 (HZn Z h (p.at v)) W w h p s (X.hand b)):=by
 generalize hBz:HZn Z h (p.at v)=B at *
 have hst:Hid (HD B W w w h p s (X.hand (b.take 0))):=J0 (hBz▸hx.start)
 have hend:Hid (∀w1,HD B W w w1 h p s (X.hand (b.take n))->HD B W w w1 h p s (X.hand b)):=J0 fun w1 h1=>by
  rw[List.take_of_length_le (by omega)] at h1
  exact h1
 generalize hY:X.hand b=Y at hend |-
 replace hBd:=J0 hBd
 replace hb:=J0 hb
 replace hsh:=J0 hsh
 replace hn:=J0 hn
 clear hx hY hBz
 generalize w=w0 at *
 go_enter Tryz.func36,Tryz.ntmps36
 go_wp2
 go_loopw [14] (fun i wr=>∃k:Nat,k<=n/\i=.int .i64 k/\Hid (HD B W w0 wr h p s (X.hand (b.take k)))) (fun i _=>n - (intOf i).toNat)
 case atStart=>exact⟨0,Nat.zero_le _,rfl,hst⟩
 case round =>
  obtain⟨k,hk,rfl,hQ⟩:=hrel
  clear hst
  by_cases hlt:k<n
  ·have hkI:(k:Int)<(n:Int):=by omega
   have hkb:k<b.length:=by rw[hn.out];exact hlt
   obtain⟨Zr,vr,hxr,hsr⟩:=hQ.out.ex
   obtain⟨ad,rfl,hbc⟩:=hsh.out _ hQ.out.fr k _ (List.getElem?_eq_getElem hkb)
   have hbk:=hb.out _ (List.getElem_mem hkb)
   have hT0:=hBd.out k (by omega)
   have hE:=J0 (hand_take (X:=X) hkb)
   have e0:wr.cell? ⟨p.e,0,none⟩=some (.pointer (some ⟨p.dd,0,none⟩)):=hxr.eb.cell 0 rfl
   have hfd:=J0 (hxr.feed hT0.dec hbk)
   have htl:=Utf.take_len (X.hand (b.take k)).dec b[k]
   have htr:Hid (∀i,Tr c 8000004000 70000400 8000000080 8000004 (Tri.runes ⟨(Utf.takeF (X.hand (b.take k)).dec b[k]).1,(X.hand (b.take k)).ps,(X.hand (b.take k)).T⟩ ((Utf.takeF (X.hand (b.take k)).dec b[k]).2.take i))):=J0 fun i=>bd_rune hT0 htl hbk rfl
   have hfin:Hid (∀w1 Z1,Hf (HZn Zr h (p.at vr)) wr w1->(∀k,HZn Z1 h (p.at vr) k->HZn Zr h (p.at vr) k\/wr.heap.size<=k)->∀w2,HD (HZn Z1 h (p.at vr)) W w1 w2 h p s (Tri.runes ⟨(Utf.takeF (X.hand (b.take k)).dec b[k]).1,(X.hand (b.take k)).ps,(X.hand (b.take k)).T⟩ (Utf.takeF (X.hand (b.take k)).dec b[k]).2)->HD B W w0 w2 h p s (X.hand (b.take (k+1)))):=J0 fun w1 Z1 hf1 hs1 w2 h2=>by
    rw[hE.out]
    exact HD.trans hsr hQ.out.fr (HD.trans hs1 hf1 h2)
   generalize (Utf.takeF (X.hand (b.take k)).dec b[k]).1=D1 at hfd htr hfin
   generalize (Utf.takeF (X.hand (b.take k)).dec b[k]).2=l at hfd htr hfin htl
   generalize X.hand (b.take k)=X0 at hfd htr hfin
   generalize b[k]=x at hfd hbc
   clear hE hT0 hxr hsr hQ hbk hkb
   obtain⟨m,hm⟩:∃m,l.length=m:=⟨_,rfl⟩
   rw[hm] at hfd
   have hm2:m<=2:=hm▸htl
   replace hm:=J0 hm
   go_wp2_with ((go_at_call 58;(with_reducible refine(hfd.out).mono ?_);rintro e w1 ⟨a1,c1,Z1,rfl,hx1,hf1,hs1,hsh1⟩))
   have hst1:=J0 hx1.start
   replace hfin:=J0 (hfin.out w1 Z1 hf1 hs1)
   replace hsh1:=J0 hsh1
   clear hx1 hf1 hs1 hfd hbc e0
   generalize HZn Z1 h (p.at vr)=B1 at hst1 hfin hsh1
   obtain⟨X1,hX1⟩:∃X1,X1=(⟨D1,X0.ps,X0.T⟩:Tri):=⟨_,rfl⟩
   rw[<- hX1] at hst1 hfin htr
   clear hX1
   go_loopw [25] (fun i wr=>∃j:Nat,j<=m/\i=.int .i64 j/\Hid (HD B1 W w1 wr h p s (X1.runes (l.take j)))) (fun i _=>m - (intOf i).toNat)
   case atStart=>exact⟨0,Nat.zero_le _,rfl,hst1⟩
   case round =>
    obtain⟨j,hj,rfl,hQ⟩:=hrel
    clear hst1
    by_cases hjl:j<m
    ·have hjI:(j:Int)<(m:Int):=by omega
     have hjl2:j<l.length:=by rw[hm.out];exact hjl
     obtain⟨Zr2,vr2,hxr,hsr⟩:=hQ.out.ex
     obtain⟨ad2,rfl,hbc⟩:=hsh1.out _ hQ.out.fr j _ (List.getElem?_eq_getElem hjl2)
     have hT1:=htr.out j
     have hE:=J0 (runes_take (X:=X1) hjl2)
     have e1:wr.cell? ⟨p.e,1,none⟩=some (.pointer (some ⟨p.dp,0,none⟩)):=hxr.eb.cell 1 rfl
     have hfd:=J0 (hxr.parse hT1.ps l[j])
     obtain⟨hg1,hg2,hg3⟩:=hT1.ps.feed l[j]
     have hrh:=J0 (fun q=>hT1.rh.acts (As:=(Prs.feedF (X1.runes (l.take j)).ps l[j]).1.take q) fun A hA=>hg2 A (List.mem_of_mem_take hA))
     have hfin2:Hid (∀w2 Z2 v2,Hf (HZn Zr2 h (p.at vr2)) wr w2->(∀k,HZn Z2 h (p.at v2) k->HZn Zr2 h (p.at vr2) k\/wr.heap.size<=k)->∀w3,HD (HZn Z2 h (p.at v2)) W w2 w3 h p s ⟨(X1.runes (l.take j)).dec,(Prs.feedF (X1.runes (l.take j)).ps l[j]).2,As5 (X1.runes (l.take j)).T (Prs.feedF (X1.runes (l.take j)).ps l[j]).1⟩->HD B1 W w1 w3 h p s (X1.runes (l.take (j+1)))):=J0 fun w2 Z2 v2 hf2 hs2 w3 h3=>by
      rw[hE.out]
      exact HD.trans hsr hQ.out.fr (HD.trans hs2 hf2 h3)
     generalize (Prs.feedF (X1.runes (l.take j)).ps l[j]).2=S2 at hfd hfin2
     generalize (Prs.feedF (X1.runes (l.take j)).ps l[j]).1=As at hfd hfin2 hg2 hg3 hrh
     generalize X1.runes (l.take j)=X2 at hfd hfin2 hrh
     generalize l[j]=r at hfd hbc
     clear hE hT1 hxr hsr hQ hjl2 hg1
     replace hg2:=J0 hg2
     obtain⟨na,hna⟩:∃na,As.length=na:=⟨_,rfl⟩
     rw[hna] at hfd hg3
     replace hna:=J0 hna
     go_wp2_with ((go_at_call 59;(with_reducible refine(hfd.out).mono ?_);rintro e w2 ⟨a2,c2,Z2,v2,rfl,hx2,hf2,hs2,hac⟩))
     have hst2:=J0 hx2.start
     replace hfin2:=J0 (hfin2.out w2 Z2 v2 hf2 hs2)
     replace hac:=J0 hac
     have hs2w:=hx2.below.size
     clear hx2 hf2 hs2 hfd hbc e1
     obtain⟨B2,hB2⟩:∃B2,HZn Z2 h (p.at v2)=B2:=⟨_,rfl⟩
     rw[hB2] at hst2 hfin2 hac
     clear hB2
     obtain⟨X4,hX4⟩:∃X4,X4=(⟨X2.dec,S2,X2.T⟩:Tri):=⟨_,rfl⟩
     have hst2':Hid (HD B2 W w2 w2 h p s ⟨X2.dec,S2,As5 X2.T (As.take 0)⟩):=hst2
     clear hX4 hst2
     go_loopw [36] (fun i wr=>∃q:Nat,q<=na/\i=.int .i64 q/\Hid (HD B2 W w2 wr h p s ⟨X2.dec,S2,As5 X2.T (As.take q)⟩)) (fun i _=>na - (intOf i).toNat)
     case atStart=>exact⟨0,Nat.zero_le _,rfl,hst2'⟩
     case round =>
      obtain⟨q,hq,rfl,hQ⟩:=hrel
      clear hst2'
      by_cases hqn:q<na
      ·have hqI:(q:Int)<(na:Int):=by omega
       have hqa:q<As.length:=by rw[hna.out];exact hqn
       obtain⟨Zr3,vr3,hxr,hsr⟩:=hQ.out.ex
       obtain⟨ad3,pa,pc,ia,ic,ta,tc,rfl,hcel,l1,l2,n1,n2⟩:=hac.out _ hQ.out.fr q _ (List.getElem?_eq_getElem hqa)
       have hA:=hg2.out _ (List.getElem_mem hqa)
       have hR:=(hrh.out q).roomy hA (by simp;omega) (by simp;omega) (by simp;omega) (by simp;omega)
       have hE:=J0 (actsT_take (T:=X2.T) hqa)
       have hdo:Hid (∀w8,Below wr.heap.size wr w8->Calls Tryz.prog 37 #[.pointer (some ⟨p.d,0,none⟩),.agg #[.int .u8 As[q].kind,.int .i32 As[q].R,.int .i32 As[q].priv,.slice pa As[q].params.length pc,.slice ia As[q].inter.length ic,.int .i32 As[q].final,.slice ta As[q].text.length tc]] w8 fun e w'=>e=.returned (.int .i64 0)/\HD B2 W w2 w' h p s ⟨X2.dec,S2,As5 X2.T (As.take (q+1))⟩):=J0 fun w8 hb=>by
        rw[hE.out]
        exact(hxr.on' hb).act hsr (hQ.out.fr.trans (Hf.of_below (fun _=>False) hb) (fun _ _ h=>h.elim)) hA hR l1 l2 (Aq0 n1 (Hf.of_below (fun _=>False) hb) (fun _ _ _ h=>h)) (Aq0 n2 (Hf.of_below (fun _=>False) hb) (fun _ _ _ h=>h))
       generalize As[q]=A at hcel hdo
       clear hE hR hA hxr hsr hQ hqa n1 n2 l1 l2
       obtain⟨Ak,Ar,Ap,Al,Ai,Af,At⟩:=A
       simp only[Prs.actL] at hcel hdo
       have hbn:=Aa1 wr (.cells #[.int .u8 0,.int .i32 0,.int .i32 0,.slice none 0 0,.slice none 0 0,.int .i32 0,.slice none 0 0] 151)
       have hbx:=Block.made wr 151 #[.int .u8 0,.int .i32 0,.int .i32 0,.slice none 0 0,.slice none 0 0,.int .i32 0,.slice none 0 0]
       have hinf:(Tryz.prog.info? 151).map (·.size)=some (#[.int .u8 Ak,.int .i32 Ar,.int .i32 Ap,.slice pa Al.length pc,.slice ia Ai.length ic,.int .i32 Af,.slice ta At.length tc]:Array Value).size:=(show (Tryz.prog.info? 151).map (·.size)=some 7 by kernel_rfl)
       go_wp2_with (first
        |(with_reducible refine J9 39 38 ?_;go_must (refine Rw.wpList_loadAt rfl 151 (.tmp 38) rfl (ad3.add (q*7)) rfl [.int .u8 Ak,.int .i32 Ar,.int .i32 Ap,.slice pa Al.length pc,.slice ia Ai.length ic,.int .i32 Af,.slice ta At.length tc] _ hcel Tryz.underlying151 rfl (by kernel_rfl) ?_))
        |(with_reducible refine J8 11 ?_;go_must (refine Aa3 rfl _ (.tmp 11) (.tmp 39) rfl hbx #[.int .u8 Ak,.int .i32 Ar,.int .i32 Ap,.slice pa Al.length pc,.slice ia Ai.length ic,.int .i32 Af,.slice ta At.length tc] rfl rfl (by exact hinf) rfl (by simp[Value.oneCell']) ?_);intro w8 hb8 ho8;have hB8:=J0 (hbn.trans (ho8.below (by simp) (by simp)));have y0:=hb8.cell 0 (v:=.int .u8 Ak) rfl;have y1:=hb8.cell 1 (v:=.int .i32 Ar) rfl;have y2:=hb8.cell 2 (v:=.int .i32 Ap) rfl;have y3:=hb8.cell 3 (v:=.slice pa Al.length pc) rfl;have y4:=hb8.cell 4 (v:=.slice ia Ai.length ic) rfl;have y5:=hb8.cell 5 (v:=.int .i32 Af) rfl;have y6:=hb8.cell 6 (v:=.slice ta At.length tc) rfl)
        |(go_at_call 37;(with_reducible refine(hdo.out _ hB8.out).mono ?_);rintro e w9 ⟨rfl,hQ9⟩))
       replace hQ9:=J0 hQ9
       clear hdo hcel
       go_roundw
       case rel=>exact⟨q+1,by omega,by go_num,hQ9⟩
       case measure=>simp[intOf];omega
      ·obtain rfl:q=na:=by omega
       rw[List.take_of_length_le (by rw[hna.out];exact J5 _)] at hQ
       have hQ9:=J0 (hfin2.out _ hQ.out)
       clear hfin2 hrh hac hQ
       go_wp2
       go_roundw
       case rel=>exact⟨j+1,by omega,by go_num,hQ9⟩
       case measure=>simp[intOf];omega
    ·obtain rfl:j=m:=by omega
     rw[List.take_of_length_le (by rw[hm.out];exact J5 _)] at hQ
     have hQ9:=J0 (hfin.out _ hQ.out)
     clear hfin htr hsh1 hQ
     go_wp2
     go_roundw
     case rel=>exact⟨k+1,by omega,by go_num,hQ9⟩
     case measure=>simp[intOf];omega
  ·obtain rfl:k=n:=by omega
   replace hQ:=J0 (hend.out _ hQ.out)
   clear hBd hb hsh hend hn
   go_wp2
   go_end0
   exact⟨⟨_,rfl⟩,hQ.out⟩
end
def HP.snd (p:HP) (v:Value):HP:={ p with sv:=v }
def HB (B:Zn) (W w:World) (h:Nat) (H:Hst):Prop:=∃Z p,HX Z W w h p H/\∀k,HZn Z h p k->B k
section
variable {Z B:Zn}{W w w1 w2 w':World}{h:Nat}{p:HP}{H:Hst}{X:Tri}{v sv:Value}{s b l:List Int}{ao:Option Addr}{n cp c:Nat}
theorem HB.up (hB:HB B W w h H):∀k,w.heap.size<=k->B k:=fun k hk=>by
 obtain⟨Z,p,hx,hs⟩:=hB
 exact hs k (.inl (hx.up k hk))
theorem snd_own (hat:sv.ownBlock=p.sv.ownBlock\/sv.ownBlock=none\/∃g,sv.ownBlock=some g/\w.heap.size<=g):∀k,(p.snd sv).own h k->p.own h k\/w.heap.size<=k/\sv.ownBlock=some k:=fun k hk=>by
 rcases hk with hk|hk|hk|hk|hk|hk|hk
 ·exact .inl (.inl hk)
 ·exact .inl (.inr (.inl hk))
 ·exact .inl (.inr (.inr (.inl hk)))
 ·exact .inl (.inr (.inr (.inr (.inl hk))))
 ·exact .inl (.inr (.inr (.inr (.inr (.inl hk)))))
 ·exact .inl (.inr (.inr (.inr (.inr (.inr (.inl hk))))))
 ·have hk':sv.ownBlock=some k:=hk
  rcases hat with e|e|⟨g,e,hg⟩
  ·exact .inl (.inr (.inr (.inr (.inr (.inr (.inr (e▸hk')))))))
  ·rw[e] at hk';cases hk'
  ·rw[e] at hk';cases hk';exact .inr ⟨hg,e⟩
theorem HX.sent' (hx:HX Z W w h p H) (hr:Kys.Row w2 W.heap.size 5 sv l) (ho:Only p.sv.ownBlock.toList w w2) (hat:sv.ownBlock=p.sv.ownBlock\/sv.ownBlock=none\/∃g,sv.ownBlock=some g/\w.heap.size<=g) :
  HX (re Z w (w2.setCell ⟨p.e,3,none⟩ sv)) W (w2.setCell ⟨p.e,3,none⟩ sv) h (p.snd sv) { H with sent:=l }/\Hf (HZn Z h p) w (w2.setCell ⟨p.e,3,none⟩ sv)/\∀k,HZn (re Z w (w2.setCell ⟨p.e,3,none⟩ sv)) h (p.snd sv) k->HZn Z h p k\/w.heap.size<=k:=by
 have hlt:=hx.lt
 have te:=Block.typ hx.eb
 have ts:∀g,p.sv.ownBlock=some g->Typ w g 5:=fun g hg=>Ad2 hx.sent g hg
 have hO:Only (p.e::p.sv.ownBlock.toList) w (w2.setCell ⟨p.e,3,none⟩ sv):=(ho.mono (by simp +contextual)).trans ((Only.setCell w2 ⟨p.e,3,none⟩ sv).mono (by simp))
 have hs:=hO.size
 have own:∀k,k∈p.e::p.sv.ownBlock.toList->p.own h k:=fun k hm=>by
  rcases List.mem_cons.1 hm with rfl|hm
  ·exact .inr (.inl rfl)
  ·exact .inr (.inr (.inr (.inr (.inr (.inr (by simpa using hm))))))
 have hf:Hf (HZn Z h p) w (w2.setCell ⟨p.e,3,none⟩ sv):=(Hf.of_only hO).mono fun k _ hk=>.inr (own k hk)
 have hnd:∀ {k:Nat} {ty:TypeId},Typ w k ty->ty≠69->ty≠5->k∉p.e::p.sv.ownBlock.toList:=fun hb hn hn2 hm=>by
  rcases List.mem_cons.1 hm with rfl|hm
  ·exact hn (Typ.inj hb te)
  ·exact hn2 (Typ.inj hb (ts _ (by simpa using hm)))
 have he2:Block w2 p.e 69 (endA p):=Block.only hx.eb ho (fun hm=>absurd (Typ.inj te (ts _ (by simpa using hm))) (by decide))
 have hgt:∀g,sv.ownBlock=some g->g≠p.e:=fun g hg e=>absurd (Typ.inj (Ad2 hr g hg) (e▸Block.typ he2)) (by decide)
 have hso:=snd_own (p:=p) (w:=w) (h:=h) hat
 refine⟨⟨Block.only hx.hb hO (hnd (Block.typ hx.hb) (by decide) (by decide)),he2.set 3 sv,Block.only hx.dec hO (hnd (Block.typ hx.dec) (by decide) (by decide)),hx.par.only hO (hnd (Block.typ hx.par.blk.blk) (by decide) (by decide)) (fun g hg=>hnd (Ab9 hx.par.own g hg) (by decide) (by decide)),
  Ad3 hr (fun g hg=>Below.heap_setCell _ _ _ _ (hgt g hg)),TZ.re hx.tz (Hf.of_only hO) (fun k hk hz hm=>hx.nz k (own k hm) hz) (fun hm=>hnd (Block.typ hx.tz.tv.blk) (by decide) (by decide) hm) (fun k hk hm=>?_) hx.six,fun k hk hz=>?_,hx.lo,hx.six⟩,hf,fun k hk=>?_⟩
 ·have:=(hlt k (own k hm)).1
  omega
 ·have hk2:k<(w2.setCell ⟨p.e,3,none⟩ sv).heap.size:=by
   rcases hso k hk with h1|⟨_,h1⟩
   ·have:=(hlt k h1).2;omega
   ·have:=(hr.lt k h1).2
    simpa using this
  rcases hz with hz|hz
  ·rcases hso k hk with h1|h1
   ·exact hx.nz k h1 hz.1
   ·omega
  ·omega
 ·rcases hk with hk|hk
  ·exact(Cm2 hs k hk).imp (fun h=>.inl h) id
  ·rcases hso k hk with h1|h1
   ·exact .inl (.inr h1)
   ·exact .inr h1.1
def Co4 (Z:Zn) (W w:World) (h:Nat) (p:HP) (H:Hst) (b:List Int) (e:Ending) (w':World):Prop:=(∃x,e=.returned x)/\∃Z' sv,HX Z' W w' h (p.snd sv) { H with sent:=H.sent++b }/\Hf (HZn Z h p) w w'/\∀k,HZn Z' h (p.snd sv) k->HZn Z h p k\/w.heap.size<=k
theorem send_any (hx:HX Z W w h p H) (hn:Nums w w.heap.size .u8 ao b) (hl:H.sent.length+b.length<=140737488355328) (hbn:b.length=n):Calls Tryz.prog 30 #[.pointer (some ⟨p.e,0,none⟩),.slice ao n cp] w (Co4 Z W w h p H b):=by
 subst hbn
 have hrow:=hx.sent
 have c3:w.cell? ⟨p.e,3,none⟩=some p.sv:=hx.eb.cell 3 rfl
 have heb:=hx.eb
 have hfin:Hid (∀w2 sv,Kys.Row w2 W.heap.size 5 sv (H.sent++b)->Only p.sv.ownBlock.toList w w2->(sv.ownBlock=p.sv.ownBlock\/sv.ownBlock=some w.heap.size)->Co4 Z W w h p H b (.returned (.tuple #[])) (w2.setCell ⟨p.e,3,none⟩ sv)):=J0 fun w2 sv h1 h2 h3=>by
  obtain⟨a1,a2,a3⟩:=hx.sent' h1 h2 (h3.imp id fun h=>.inr ⟨_,h,J5 _⟩)
  exact⟨⟨_,rfl⟩,_,sv,a1,a2,a3⟩
 have hnot:p.e∉p.sv.ownBlock.toList:=fun hm=>absurd (Typ.inj (Block.typ hx.eb) (Ad2 hx.sent p.e (by simpa using hm))) (by decide)
 have hW:=hx.below.size
 obtain⟨ar,cr,hrv,_⟩:=hx.sent.shape
 generalize H.sent=l at hrow hfin hl hrv
 rw[hrv] at c3 hrow hfin hnot
 replace hrow:=J0 hrow
 replace hn:=J0 hn
 replace heb:=J0 heb
 replace hnot:=J0 hnot
 replace hl:=J0 hl
 replace hrv:=J0 hrv
 clear hx
 go_enter Tryz.func30,Tryz.ntmps30
 go_wp2_with (first
  |(with_reducible refine J6 10 ?_;go_must (refine Al1 Kys.elemB rfl (.tmp 8) (.tmp 9) rfl W.heap.size (.slice ar l.length cr) l b ao w.heap.size cp rfl rfl hrow.out hn.out hW hl.out ?_);intro v2 w2 hr2 ho2 hat2;have hb2:=heb.out.only ho2 hnot.out;have k2':=hb2.cell 3 rfl;have f2:=hb2.free 3;have hres:=J0 (hfin.out _ _ hr2 ho2 hat2);obtain⟨a2,c2,rfl,_⟩:=hr2.shape))
 have hres2:=hres.out
 rw[List.length_append] at hres2
 go_end0
 exact hres2
end
