/- Part 51 of HostSplits. -/
import Derived.Test.YtecnpoigegiooaaGreatDoorP50
set_option maxHeartbeats 16000000
set_option maxRecDepth 100000
namespace Go.Proofs.YtecnpoigegiooaaGreatDoor.Hos
open Go RowKit Com Rw Lns Emu Scn
section
variable {N N' B B' B1 B2:Zn}{W w w':World}{h h1 h2:Nat}{H H' H1 H2:Hst}{ao:Option Addr}{l b:List Int}{v:Value}{k:IntKind}{c n cp:Nat}
theorem HB.other (hB:HB B W w h H) (hf:Hf B1 w w') (hd:∀k,k<w.heap.size->B k->¬B1 k) (ho:∀k,k<W.heap.size->¬B1 k):HB (Hos.re B w w') W w' h H:=by
 obtain⟨Z,p,hx,hs⟩:=hB
 refine⟨_,p,hx.other hf (fun k hk hz=>hd k hk (hs k (.inl hz))) (fun k hk=>hd k (hx.lt k hk).2 (hs k (.inr hk))) ho,fun k hk=>?_⟩
 rcases hk with hk|hk
 ·rcases hk with hk|hk
  ·exact .inl ⟨hs k (.inl hk.1),hk.2⟩
  ·exact .inr hk
 ·exact .inl ⟨hs k (.inr hk),(hx.lt k hk).2⟩
def Duo (N:Zn) (W w:World) (h1:Nat) (H1:Hst) (h2:Nat) (H2:Hst):Prop:=∃B1 B2:Zn,HB B1 W w h1 H1/\HB B2 W w h2 H2/\(∀k,k<w.heap.size->B1 k->¬B2 k)/\(∀k,k<W.heap.size->¬B1 k/\¬B2 k)/\∀k,N k->k<w.heap.size/\¬B1 k/\¬B2 k
theorem Duo.swap (hD:Duo N W w h1 H1 h2 H2):Duo N W w h2 H2 h1 H1:=by
 obtain⟨B1,B2,a,b,c,d,e⟩:=hD
 exact⟨B2,B1,b,a,fun k hk h2 h1=>c k hk h1 h2,fun k hk=>(d k hk).symm,fun k hk=>⟨(e k hk).1,(e k hk).2.symm⟩⟩
theorem Duo.left (hD:Duo N W w h1 H1 h2 H2):∃B,HB B W w h1 H1/\(∀k,k<W.heap.size->¬B k)/\(∀k,N k->k<w.heap.size/\¬B k)/\∀w' H' B' N',HB B' W w' h1 H'->Hf B w w'->(∀k,B' k->B k)->(∀k,N' k->k<w'.heap.size/\¬B' k/\(N k\/B k))->Duo N' W w' h1 H' h2 H2:=by
 obtain⟨B1,B2,a,b,c,d,e⟩:=hD
 refine⟨B1,a,fun k hk=>(d k hk).1,fun k hk=>⟨(e k hk).1,(e k hk).2.1⟩,fun w' H' B' N' h3 hf hs hN=>⟨B',re B2 w w',h3,b.other hf (fun k hk h2 h1=>c k hk h1 h2) (fun k hk=>(d k hk).1),fun k hk h4 h5=>?_,fun k hk=>⟨fun h4=>(d k hk).1 (hs k h4),fun h5=>?_⟩,fun k hk=>?_⟩⟩
 ·rcases h5 with h5|h5
  ·exact c k h5.2 (hs k h4) h5.1
  ·omega
 ·rcases h5 with h5|h5
  ·exact(d k hk).2 h5.1
  ·have h6:=hf.size
   have h7:=a.below.size
   omega
 ·obtain⟨h4,h5,h6⟩:=hN k hk
  refine⟨h4,h5,fun h7=>?_⟩
  rcases h7 with h7|h7
  ·rcases h6 with h6|h6
   ·exact(e k h6).2.2 h7.1
   ·exact c k h7.2 h6 h7.1
  ·omega
theorem Duo.did (hD:Duo N W w h1 H1 h2 H2):∃B,HB B W w h1 H1/\(∀k,k<W.heap.size->¬B k)/\(∀k,N k->k<w.heap.size/\¬B k)/\∀w' H',Did B W w h1 H' w'->Duo N W w' h1 H' h2 H2:=by
 obtain⟨B,a,b,c,d⟩:=hD.left
 exact⟨B,a,b,c,fun w' H' hd=>d w' H' B N hd.hb hd.fr (fun _ h=>h) fun k hk=>⟨Nat.lt_of_lt_of_le (c k hk).1 hd.fr.size,(c k hk).2,.inl hk⟩⟩
theorem Duo.on (hD:Duo N W w h1 H1 h2 H2) (hb:Below w.heap.size w w'):Duo N W w' h1 H1 h2 H2:=by
 obtain⟨B,a,b,c,d⟩:=hD.did
 exact d w' H1 (a.did hb)
theorem Duo.fst (hD:Duo N W w h1 H1 h2 H2):∃B,HB B W w h1 H1:=by
 obtain⟨B,a,_⟩:=hD.left
 exact⟨B,a⟩
theorem Duo.below (hD:Duo N W w h1 H1 h2 H2):Below W.heap.size W w:=by
 obtain⟨B,a⟩:=hD.fst
 exact a.below
theorem Duo.made (hB:HB B W w h1 H1) (ho:∀k,k<W.heap.size->¬B k) (hB2:HB (fun k=>w.heap.size<=k) W w' h2 H2) (hb:Below w.heap.size w w') (hN:∀k,N k->k<w.heap.size/\¬B k):Duo N W w' h1 H1 h2 H2:=by
 have hW:=hB.below.size
 refine⟨re B w w',fun k=>w.heap.size<=k,hB.re hb,hB2,fun k hk h3 h4=>?_,fun k hk=>⟨fun h3=>?_,fun h3=>?_⟩,fun k hk=>⟨Nat.lt_of_lt_of_le (hN k hk).1 hb.size,fun h3=>?_,fun h3=>?_⟩⟩
 ·have h4:w.heap.size<=k:=h4
  rcases h3 with h3|h3
  ·omega
  ·omega
 ·rcases h3 with h3|h3
  ·exact ho k hk h3.1
  ·have:=hb.size
   omega
 ·have h3:w.heap.size<=k:=h3
  omega
 ·rcases h3 with h3|h3
  ·exact(hN k hk).2 h3.1
  ·have:=(hN k hk).1
   have:=hb.size
   omega
 ·have h3:w.heap.size<=k:=h3
  have:=(hN k hk).1
  omega
theorem Cc7 (hn:Nums W W.heap.size k ao l) (hb:Below W.heap.size W w) (ho:∀g,g<W.heap.size->¬B g):∀wr,Hf B w wr->Bq8 wr k ao l:=fun wr hf i x hx=>by
 obtain⟨ad,e,hlt,hc⟩:=hn i x hx
 refine⟨ad,e,?_⟩
 have h1:w.cell? (ad.add i)=some (.int k x):=(World.cell?_of_block (w:=W) (by rw[Ac5];exact hb.block _ hlt)).trans hc
 exact(World.cell?_of_block (w:=w) (by rw[Ac5];exact hf.block _ (Nat.lt_of_lt_of_le hlt hb.size) (ho _ hlt))).trans h1
theorem Duo.sent (hD:Duo N W w h1 H1 h2 H2):Calls Tryz.prog 11 #[.pointer (some ⟨h1,0,none⟩)] w fun e w'=>∃v,e=.returned v/\Kys.Row w' 0 5 v H1.sent/\Duo (fun k=>N k\/v.ownBlock=some k) W w' h1 { H1 with sent:=[] } h2 H2/\∀g,N g->w'.heap[g]?=w.heap[g]?:=by
 obtain⟨B,a,b,c,d⟩:=hD.left
 refine(Bg0 a).mono fun e w' ⟨v,he,hr,hb',hf,hv⟩=>⟨v,he,hr.lower (Nat.zero_le _),d w' _ _ _ hb' hf (fun k hk=>hk.1) fun k hk=>?_,fun g hg=>hf.block g (c g hg).1 (c g hg).2⟩
 rcases hk with hk|hk
 ·exact⟨Nat.lt_of_lt_of_le (c k hk).1 hf.size,fun h=>(c k hk).2 h.1,.inl hk⟩
 ·exact⟨Nat.lt_of_lt_of_le (hv k hk).2 hf.size,fun h=>h.2 hk,.inr (hv k hk).1⟩
theorem Duo.same (hD:Duo N W w h1 H1 h2 H2) (hT:H2.T=H1.T):Calls Tryz.prog 10 #[.pointer (some ⟨h1,0,none⟩),.pointer (some ⟨h2,0,none⟩)] w fun e w'=>e=.returned (.bool true)/\Below w.heap.size w w':=by
 obtain⟨B1,B2,a,b,_⟩:=hD
 exact lsame_any a b hT
end
end Go.Proofs.YtecnpoigegiooaaGreatDoor.Hos
namespace Go.Proofs.YtecnpoigegiooaaGreatDoor.Emu
open Go Rw Scn
def pr (J:List Ev) (R:List Int) (T:Ter):Ter:={ T with jr:=J++T.jr,rp:=R++T.rp }
section
variable {J:List Ev}{R:List Int}{A B:Ter}
theorem Ab4 {c:Prop} [Decidable c] {A B A' B':Ter} (ha:A=pr J R A') (hb:B=pr J R B'):(if c then A else B)=pr J R (if c then A' else B'):=by
 split
 ·exact ha
 ·exact hb
theorem Ax7 (h:A=pr J R B) (S:Scr):A.putVis S=pr J R (B.putVis S):=by
 subst h
 rcases B with ⟨m,c,p,nx,most,R1,main,other,tn,tf,prints,last,jr,rp⟩
 rcases other with _|o<;>rfl
theorem px_sv (h:A=pr J R B) (s:Sav):A.putSv s=pr J R (B.putSv s):=by
 subst h
 rcases B with ⟨m,c,p,nx,most,R1,main,other,tn,tf,prints,last,jr,rp⟩
 rcases other with _|o<;>rfl
theorem Bh4 (h:A=pr J R B) (e:Ev):tell A e=pr J R (tell B e):=by
 subst h
 show ({ B with last:=e,jr:=(J++B.jr)++[e],rp:=R++B.rp }:Ter)={ B with last:=e,jr:=J++(B.jr++[e]),rp:=R++B.rp }
 rw[List.append_assoc]
theorem Bp5 (h:A=pr J R B) (b:List Int):reply A b=pr J R (reply B b):=by
 subst h
 show ({ B with jr:=J++B.jr,rp:=(R++B.rp)++b }:Ter)={ B with jr:=J++B.jr,rp:=R++(B.rp++b) }
 rw[List.append_assoc]
theorem Am1 (h:A=pr J R B):tellOther A=pr J R (tellOther B):=by
 subst h
 exact Bh4 rfl (here B 4)
theorem Bh3 (h:A=pr J R B):tellStraight A=pr J R (tellStraight B):=by
 subst h
 exact Bh4 rfl (here B 3)
theorem Bd3 (h:A=pr J R B) (y x:Int):place A y x=pr J R (place B y x):=by
 subst h
 rfl
theorem Ae6 (h:A=pr J R B) (y x:Int):move A y x=pr J R (move B y x):=Am1 (Bd3 h y x)
theorem Bh0 (h:A=pr J R B) (l:List Cel):putLine A l=pr J R (putLine B l):=by
 subst h
 exact Ax7 rfl (Ae0 B.vis B.c.row l)
theorem Bx3 (h:A=pr J R B):feed A=pr J R (feed B):=by
 subst h
 exact Ab4 (Bd3 (Ax7 rfl (upT B.vis 1 B.p.a)) B.c.row B.c.col) rfl
theorem Bh5 (h:A=pr J R B) (b:Bool):tellFeed A b=pr J R (tellFeed B b):=by
 subst h
 exact Bh4 rfl { here B 3 with fr:=Ao9 (line B) 0,wr:=b }
theorem Cr2 (h:A=pr J R B) (w:Nat):makeWay A w=pr J R (makeWay B w):=by
 subst h
 exact Ab4 (Bh5 (Bx3 (A:=setCol (pr J R B) 0) (B:=setCol B 0) rfl) true) (Ab4 rfl rfl)
theorem Cm1 (h:A=pr J R B) (e:Ev) (x:Int):tellRune A e x=pr J R (tellRune B e x):=by
 subst h
 exact Bh4 (A:={ pr J R B with prints:=B.prints+1 }) (B:={ B with prints:=B.prints+1 }) rfl { e with ix:=B.prints,r:=x }
theorem px_join (h:A=pr J R B) (x:Int):Bc5 A x=pr J R (Bc5 B x):=by
 subst h
 have h1:∀c:Nat,At4 (pr J R B) c x=pr J R (At4 B c x):=fun c=>by
  have h2:putLine (pr J R B) (joiL (line B) c x)=pr J R (putLine B (joiL (line B) c x)):=Bh0 rfl _
  show tellRune (putLine (pr J R B) (joiL (line B) c x)) { here (putLine (pr J R B) (joiL (line B) c x)) 2 with col:=c,la:=isRuneAt (putLine (pr J R B) (joiL (line B) c x)).last (here (putLine (pr J R B) (joiL (line B) c x)) 2).line c } x=_
  rw[h2]
  exact Cm1 rfl _ x
 unfold Bc5
 exact Ab4 (h1 _) rfl
theorem Cm0 (h:A=pr J R B) (x:Int) (w:Nat):putT A x w=pr J R (putT B x w):=by
 subst h
 have h1:tellRune (putLine (pr J R B) (Aa6 B x w)) (Ag1 B w) x=pr J R (tellRune (putLine B (Aa6 B x w)) (Ag1 B w) x):=Cm1 (Bh0 rfl _) _ x
 show By5 (tellRune (putLine (pr J R B) (Aa6 B x w)) (Ag1 B w) x) (B.c.col+w) B.m.a4=_
 rw[h1]
 rfl
theorem px_print (h:A=pr J R B) (x:Int):Bb9 A x=pr J R (Bb9 B x):=by
 subst h
 have h1:∀c:Int,(if Cht.widthF c=0 then Bc5 (pr J R B) c else if (B.vis.cols:Int)<Cht.widthF c then putT (makeWay (pr J R B) 1) 65533 1 else putT (makeWay (pr J R B) (Cht.widthF c).toNat) c (Cht.widthF c).toNat)=pr J R (if Cht.widthF c=0 then Bc5 B c else if (B.vis.cols:Int)<Cht.widthF c then putT (makeWay B 1) 65533 1 else putT (makeWay B (Cht.widthF c).toNat) c (Cht.widthF c).toNat):=fun c =>
  Ab4 (px_join rfl _) (Ab4 (Cm0 (Cr2 rfl _) _ _) (Cm0 (Cr2 rfl _) _ _))
 exact h1 (Cht.charsetF (if B.p.wh then B.p.g1 else B.p.g0) x)
theorem px_stepBack (h:A=pr J R B):stepBack A=pr J R (stepBack B):=by
 subst h
 exact Ae6 rfl _ _
theorem px_nextTab (h:A=pr J R B):nextTab A=pr J R (nextTab B):=by
 subst h
 exact Bh3 (Bd3 rfl _ _)
theorem px_newLine (h:A=pr J R B):newLine A=pr J R (newLine B):=by
 subst h
 exact Bh5 (Bx3 (Ab4 (c:=B.m.a1=true) (A:=setCol (pr J R B) 0) (A':=setCol B 0) (B:=pr J R B) (B':=B) rfl rfl)) false
theorem px_begin (h:A=pr J R B):lineBegin A=pr J R (lineBegin B):=by
 subst h
 exact Bh3 (Bd3 rfl _ _)
theorem Ba6 (h:A=pr J R B):rowDown A=pr J R (rowDown B):=Am1 (Bx3 h)
theorem Bh1 (h:A=pr J R B):nextLine A=pr J R (nextLine B):=by
 subst h
 exact Ba6 (A:=setCol (pr J R B) 0) (B:=setCol B 0) rfl
theorem Cb9 (h:A=pr J R B):rowUp A=pr J R (rowUp B):=by
 subst h
 exact Ab4 (Ae6 (Ax7 rfl _) _ _) (Ae6 rfl _ _)
theorem px_control (h:A=pr J R B) (x:Int):control A x=pr J R (control B x):=by
 have h1:=px_stepBack h
 have h2:=px_nextTab h
 have h3:=px_newLine h
 have h4:=px_begin h
 have h5:=Ba6 h
 have h6:=Bh1 h
 have h7:=Cb9 h
 have h8:∀b,setWh A b=pr J R (setWh B b):=fun b=>by subst h;rfl
 have h9:setTab A=pr J R (setTab B):=by subst h;rfl
 unfold control
 exact Ab4 h1 (Ab4 h2 (Ab4 h3 (Ab4 h4 (Ab4 (h8 _) (Ab4 (h8 _) (Ab4 h5 (Ab4 h6 (Ab4 h9 (Ab4 h7 h)))))))))
theorem Bx4 (h:A=pr J R B):save A=pr J R (save B):=by
 subst h
 exact px_sv rfl ⟨B.c,B.p,B.m.a3⟩
theorem Ba5 (h:A=pr J R B):restore A=pr J R (restore B):=by
 subst h
 exact Am1 (A:=restored (pr J R B)) (B:=restored B) rfl
theorem px_reset (h:A=pr J R B):reset A=pr J R (reset B):=by
 subst h
 exact Bh4 (A:=Ag7 (pr J R B) B.vis.L.length B.vis.cols) (B:=Ag7 B B.vis.L.length B.vis.cols) rfl (here (Ag7 B B.vis.L.length B.vis.cols) 5)
theorem px_choose (h:A=pr J R B) (x:AcT):choose A x=pr J R (choose B x):=by
 subst h
 unfold choose
 split
 ·split
  ·exact Ab4 rfl rfl
  ·rfl
 ·rfl
theorem px_escape (h:A=pr J R B) (x:AcT):escape A x=pr J R (escape B x):=by
 have h9:setTab A=pr J R (setTab B):=by subst h;rfl
 unfold escape
 exact Ab4 (Ab4 (Bx4 h) (Ab4 (Ba5 h) (Ab4 (Ba6 h) (Ab4 (Bh1 h) (Ab4 h9 (Ab4 (Cb9 h) (Ab4 (px_reset h) h))))))) (px_choose h x)
theorem Aq2 (h:A=pr J R B) (f t:Nat):eraseRows A f t=pr J R (eraseRows B f t):=by
 subst h
 exact Ax7 rfl { B.vis with L:=eraRows B.vis.L f t B.vis.cols B.p.a }
theorem Ar7 (h:A=pr J R B) (f t:Int):An7 A f t=pr J R (An7 B f t):=by
 subst h
 exact Am1 (Bh0 rfl (eraL (line B) f t B.p.a))
theorem Bc0 (h:A=pr J R B) (n:Int):eraseLine A n=pr J R (eraseLine B n):=by
 subst h
 exact Ab4 (Ar7 rfl _ _) (Ab4 (Ar7 rfl _ _) (Ab4 (Ar7 rfl _ _) rfl))
theorem px_eraseScr (h:A=pr J R B) (n:Int):Al6 A n=pr J R (Al6 B n):=by
 subst h
 exact Bc0 (Ab4 (Aq2 rfl _ _) (Ab4 (Aq2 rfl _ _) (Ab4 (Aq2 rfl _ _) (Ab4 (A:=noBack (pr J R B)) (A':=noBack B) rfl rfl)))) n
theorem Cl9 (h:A=pr J R B):home A=pr J R (home B):=by
 subst h
 exact Ae6 rfl _ _
theorem px_margins (h:A=pr J R B) (l:List Int):setMargins A l=pr J R (setMargins B l):=by
 subst h
 exact Ab4 (Cl9 (Ax7 rfl _)) rfl
theorem px_modes (l:List Int) (on:Bool):∀ {A B:Ter},A=pr J R B->setModes A l on=pr J R (setModes B l on):=by
 unfold setModes
 induction l with
 |nil=>exact fun h=>h
 |cons a l ih=>exact fun {A B} h=>ih (A:=putM A false on (Aj4 a)) (B:=putM B false on (Aj4 a)) (by subst h;rfl)
theorem px_plain (h:A=pr J R B) (f:Int) (l:List Int):plain A f l=pr J R (plain B f l):=by
 have hm:∀on,setModes A l on=pr J R (setModes B l on):=fun on=>px_modes l on h
 subst h
 unfold plain
 refine Ab4 (Ae6 rfl _ _) ?_
 refine Ab4 (Ae6 rfl _ _) ?_
 refine Ab4 (Ae6 rfl _ _) ?_
 refine Ab4 (Ae6 rfl _ _) ?_
 refine Ab4 (Ae6 rfl _ _) ?_
 refine Ab4 (Ae6 rfl _ _) ?_
 refine Ab4 (Ae6 rfl _ _) ?_
 refine Ab4 (Ae6 rfl _ _) ?_
 refine Ab4 (Ae6 rfl _ _) ?_
 refine Ab4 (Ae6 rfl _ _) ?_
 refine Ab4 (Ae6 rfl _ _) ?_
 refine Ab4 (px_eraseScr rfl _) ?_
 refine Ab4 (Bc0 rfl _) ?_
 refine Ab4 (Ar7 rfl _ _) ?_
 refine Ab4 (Am1 (Bh0 rfl _)) ?_
 refine Ab4 (Am1 (Bh0 rfl _)) ?_
 refine Ab4 (Ab4 (Ae6 (Ax7 rfl _) _ _) rfl) ?_
 refine Ab4 (Ab4 (Ae6 (Ax7 rfl _) _ _) rfl) ?_
 refine Ab4 (Am1 (Ax7 rfl _)) ?_
 refine Ab4 (Am1 (Ax7 rfl _)) ?_
 refine Ab4 (px_margins rfl l) ?_
 refine Ab4 (Ab4 rfl (Ab4 rfl rfl)) ?_
 refine Ab4 rfl ?_
 refine Ab4 (hm _) ?_
 refine Ab4 (hm _) ?_
 refine Ab4 (Ab4 (Bp5 rfl _) (Ab4 (Bp5 rfl _) rfl)) ?_
 refine Ab4 (Ab4 (Bp5 rfl _) rfl) ?_
 rfl
theorem At9 (h:A=pr J R B) (on:Bool):setOther A on=pr J R (setOther B on):=by
 subst h
 refine Ab4 rfl ?_
 have h5:(if on then showOther (setAlt (pr J R B) true) else showMain (setAlt (pr J R B) false))=pr J R (if on then showOther (setAlt B true) else showMain (setAlt B false)):=Ab4 rfl rfl
 show (fun T=>move T T.c.row T.c.col) (if on then showOther (setAlt (pr J R B) true) else showMain (setAlt (pr J R B) false))=_
 rw[h5]
 exact Ae6 rfl _ _
theorem px_setOtherSaved (h:A=pr J R B) (on:Bool):setOtherSaved A on=pr J R (setOtherSaved B on):=by
 have h1:=At9 (Bx4 h) true
 have h2:=Ba5 (At9 h false)
 subst h
 exact Ab4 rfl (Ab4 h1 h2)
theorem px_priv1 (h:A=pr J R B) (n:Int) (on:Bool):Bg8 A n on=pr J R (Bg8 B n on):=by
 have h1:setOrigin A on=pr J R (setOrigin B on):=Cl9 (A:=setOrg A on) (B:=setOrg B on) (by subst h;rfl)
 have h2:setSaved A on=pr J R (setSaved B on):=Ab4 (Bx4 h) (Ba5 h)
 have h3:putM A true on n=pr J R (putM B true on n):=by subst h;rfl
 exact Ab4 h1 (Ab4 (At9 h on) (Ab4 h2 (Ab4 (px_setOtherSaved h on) h3)))
theorem Bh2 (l:List Int) (on:Bool):∀ {A B:Ter},A=pr J R B->Ac2 A l on=pr J R (Ac2 B l on):=by
 unfold Ac2
 induction l with
 |nil=>exact fun h=>h
 |cons a l ih=>exact fun h=>ih (px_priv1 h _ _)
theorem px_do (h:A=pr J R B) (x:AcT):doT A x=pr J R (doT B x):=by
 unfold doT
 refine Ab4 (px_print h _) (Ab4 (px_control h _) (Ab4 (px_escape h x) (Ab4 ?_ h)))
 unfold sequence
 exact Ab4 (Ab4 (px_plain h _ _) (Ab4 (Ab4 (Bh2 _ _ h) (Ab4 (Bh2 _ _ h) h)) h)) h
end
end Go.Proofs.YtecnpoigegiooaaGreatDoor.Emu
namespace Go.Proofs.YtecnpoigegiooaaGreatDoor.Hos
open Go Emu
section
variable {J:List Emu.Ev}{R:List Int}{A B:Ter}
theorem px_acts (l:List Prs.Act):∀ {A B:Ter},A=pr J R B->As5 A l=pr J R (As5 B l):=by
 unfold As5
 induction l with
 |nil=>exact fun h=>h
 |cons a l ih=>exact fun h=>ih (px_do h _)
end
def Tri.pr (J:List Emu.Ev) (R:List Int) (X:Tri):Tri:=⟨X.dec,X.ps,Emu.pr J R X.T⟩
section
variable {J:List Emu.Ev}{R:List Int}
theorem pt_rune (X:Tri) (r:Int):(X.pr J R).rune r=(X.rune r).pr J R:=by
 show Tri.mk X.dec _ (As5 (Emu.pr J R X.T) _)=Tri.mk X.dec _ (Emu.pr J R (As5 X.T _))
 rw[px_acts _ rfl]
 rfl
theorem pt_runes (l:List Int):∀X:Tri,(X.pr J R).runes l=(X.runes l).pr J R:=by
 unfold Tri.runes
 induction l with
 |nil=>exact fun X=>rfl
 |cons a l ih =>
  intro X
  show l.foldl Tri.rune ((X.pr J R).rune a)=_
  rw[pt_rune]
  exact ih _
theorem pt_byte (X:Tri) (x:Int):(X.pr J R).byte x=(X.byte x).pr J R:=pt_runes (Utf.takeF X.dec x).2 ⟨(Utf.takeF X.dec x).1,X.ps,X.T⟩
theorem Cl5 (b:List Int):∀X:Tri,(X.pr J R).hand b=(X.hand b).pr J R:=by
 unfold Tri.hand
 induction b with
 |nil=>exact fun X=>rfl
 |cons a b ih =>
  intro X
  show b.foldl Tri.byte ((X.pr J R).byte a)=_
  rw[pt_byte]
  exact ih _
def Tri.dry (X:Tri):Tri:=⟨X.dec,X.ps,{ { X.T with rp:=[] } with jr:=[] }⟩
theorem Cp6 (X:Tri):X=X.dry.pr X.T.jr X.T.rp:=by
 rcases X with ⟨d,p,T⟩
 show Tri.mk d p T=Tri.mk d p { T with jr:=T.jr++[],rp:=T.rp++[] }
 rw[List.append_nil,List.append_nil]
theorem bytes_tri (H:Hst) (b:List Int):(H.bytes b).tri=(H.tri.hand b).dry:=rfl
theorem Br4 (H:Hst) (a b:List Int):(H.bytes a).bytes b=H.bytes (a++b):=by
 have h:H.tri.hand (a++b)=(((H.bytes a).tri).hand b).pr (H.tri.hand a).T.jr (H.tri.hand a).T.rp:=by
  rw[Ca1,bytes_tri,<- Cl5,<- Cp6]
 unfold Hst.bytes at *
 rw[h]
 show Hst.mk _ _ _ ((H.sent++_)++_)=Hst.mk _ _ _ (H.sent++(_++_))
 rw[List.append_assoc]
 rfl
theorem Ao7 (H:Hst) (a b:List Int):H.told (a++b)=H.told a++(H.bytes a).told b:=by
 have h:H.tri.hand (a++b)=(((H.bytes a).tri).hand b).pr (H.tri.hand a).T.jr (H.tri.hand a).T.rp:=by
  rw[Ca1,bytes_tri,<- Cl5,<- Cp6]
 unfold Hst.told
 rw[h]
 rfl
end
end Go.Proofs.YtecnpoigegiooaaGreatDoor.Hos
namespace Go.Proofs.YtecnpoigegiooaaGreatDoor.Hos
open Go RowKit Com Rw Lns Emu Scn
theorem Al1 {P:Program} {t e:TypeId} {z:Value} {size:Nat} (E:As9 P t e z size) {w:World} {ops:Array Oper} {rest:List Oper} {o:Oper} {a:Go.Act} {Q:Exit->Go.Act->World->Prop} (hgd:Region.wanted o (yielded ops a.tmps)=true) (s x:Operand)
  (ho:o.op=.call { callee:=.builtin .append,args:=#[s,x],argTypes:=#[t,t] })
  (B:Nat) (v:Value) (n:Nat) (xs:List Value) (v2:Value) (m:Nat) (news:List Value) (hs:a.eval s=v) (hxe:a.eval x=v2)
  (h:w.ownsRow B e size v n xs) (h2:w.ownsRow 0 e size v2 m news) (h1:∀u∈news,u.oneCell'=true) (hB:B<=w.heap.size) (hx:n+m<=100000000)
  (hK:∀v' w',w'.ownsRow B e size v' (n+m) (xs++news)->Only v.ownBlock.toList w w'->(v'.ownBlock=v.ownBlock\/v'.ownBlock=some w.heap.size)->wpList P ops Q rest (a.put o.dst v') w'):wpList P ops Q (o::rest) a w:=by
 refine Ad1 hgd fun K hK'=>?_
 obtain⟨i,hi,hz,hsz,hb⟩:=E.info
 have key:∃v' w',(Builtin.append_ #[t,t] o.type #[v,v2]).run P w=.ok v' w'/\w'.ownsRow B e size v' (n+m) (xs++news)/\Only v.ownBlock.toList w w'/\(v'.ownBlock=v.ownBlock\/v'.ownBlock=some w.heap.size):=by
  have hl:=h2.1
  rcases h2.2 with ⟨rfl,h0⟩|⟨g,cap,cur,rfl,hg,hh,hc,hm,hq,htk⟩
  ·subst h0
   have hn0:news=[]:=List.eq_nil_of_length_eq_zero (by rw[hl,Nat.zero_mul])
   subst hn0
   exact⟨v,w,run_append_owned_none (w:=w) B t o.type e i size E.slice hi v n xs h,by simpa using h,Only.refl _ _,.inl rfl⟩
  ·have hby:(n+m)*i.bytes<=100000000*100:=Nat.mul_le_mul hx hb
   obtain⟨v',w',hr,h4,h3,_,h5⟩:=run_append_own_at (P:=P) w B t o.type e i z size i.bytes E.slice hi hz hsz rfl E.cells E.pos v n xs h ⟨g,0,none⟩ m cap news hl (fun j u hu=>by
    have hj:j<m*size:=by
     have:=(List.getElem?_eq_some_iff.1 hu).1
     omega
    have h6:=h2.cellAt j hj
    rw[hu] at h6
    simp only[Addr.add_lit,Nat.zero_add]
    exact h6) h1 (by unfold maxLen;omega) (by omega) hB
   exact⟨v',w',hr,h4,Only.grown h3,h5⟩
 obtain⟨v',w',hr,k2,k3,k4⟩:=key
 unfold Oper.wp execOp
 simp only[ho,resolve,invoke,builtin,Sem.run_bind,Sem.run_pure,Result.andThen_ok,List.map_toArray,List.map_cons,List.map_nil,hs,hxe,hr]
 exact hK' _ _ (hK v' w' k2 k3 k4)
section
variable {N B:Zn}{W w w':World}{h1 h2:Nat}{H1 H2:Hst}{ao:Option Addr}{la lp lb:List Ev}{b:List Int}{va vp vb v:Value}{c n cp:Nat}
structure Sp (W w:World) (h1:Nat) (H1:Hst) (h2:Nat) (H2:Hst) (va vp:Value) (la lp:List Ev):Prop where
 ex:∃B1 B2:Zn,HB B1 W w h1 H1/\HB B2 W w h2 H2/\(∀k,k<w.heap.size->B1 k->¬B2 k)/\(∀k,k<W.heap.size->¬B1 k/\¬B2 k)/\(∀g,va.ownBlock=some g->¬B2 g)/\∀g,vp.ownBlock=some g->¬B1 g/\¬B2 g/\va.ownBlock≠some g
 ra:w.ownsRow 0 73 10 va la.length (fl evL la)
 rp:w.ownsRow W.heap.size 73 10 vp lp.length (fl evL lp)
theorem Sp.below (hS:Sp W w h1 H1 h2 H2 va vp la lp):Below W.heap.size W w:=by
 obtain⟨B1,B2,a,_⟩:=hS.ex
 exact a.below
theorem Sp.duo (hS:Sp W w h1 H1 h2 H2 va vp la lp):Duo (fun _=>False) W w h1 H1 h2 H2:=by
 obtain⟨B1,B2,a,b,c,d,_⟩:=hS.ex
 exact⟨B1,B2,a,b,c,d,fun k hk=>hk.elim⟩
def Ce9 (W:World) (h1:Nat) (H1:Hst) (h2:Nat) (H2:Hst) (l:List Ev) (e:Ending) (w':World):Prop:=∃v,e=.returned v/\Sp W w' h1 H1 h2 H2 v (.slice none 0 0) l []
theorem Duo.begin {P S M:Nat} (hD:Duo N W w h1 H1 h2 H2) (g:Gh c M P S H1) (hM:M<=7000000000) (hP:P<=7000000) (hS:S<=1000000000) (hn:Nums W W.heap.size .u8 ao b) (hb:Utf.Bytes b) (hl:b.length<=1000) (hbn:b.length=n) :
  Calls Tryz.prog 8 #[.pointer (some ⟨h1,0,none⟩),.slice ao n cp] w (Ce9 W h1 (H1.bytes b) h2 H2 (H1.told b)):=by
 obtain⟨B1,B2,a,b2,c1,d,e1⟩:=hD
 refine(Ba0 a (g.bd hb hl hM hP) (by have:=g.sent;omega) hb (Cc7 hn a.below (fun k hk=>(d k hk).1)) hbn (by omega)).mono fun e w' ⟨v,he,hr,hd⟩=>?_
 have hfr:=hd.fr
 have hsz:=hfr.size
 have hW:=a.below.size
 have hb2:=b2.other hfr (fun k hk h2 h1=>c1 k hk h1 h2) (fun k hk=>(d k hk).1)
 have hdis:∀k,k<w'.heap.size->B1 k->¬Hos.re B2 w w' k:=fun k hk h4 h5=>by
  rcases h5 with h5|h5
  ·exact c1 k h5.2 h4 h5.1
  ·omega
 have hlt:=World.ownsRow.lt hr.1
 refine⟨v,he,⟨B1,Hos.re B2 w w',hd.hb,hb2,hdis,fun k hk=>⟨(d k hk).1,fun h5=>?_⟩,fun g hg=>hdis g (hlt g hg).2 (hr.2 g hg),fun g hg=>by cases hg⟩,hr.1,⟨rfl,.inl ⟨rfl,rfl⟩⟩⟩
 rcases h5 with h5|h5
 ·exact(d k hk).2 h5.1
 ·omega
def Cf4 (W:World) (h1:Nat) (H1:Hst) (h2:Nat) (H2:Hst) (va vp:Value) (la lp lb:List Ev) (e:Ending) (w':World):Prop:=∃v,e=.returned v/\w'.ownsRow 0 73 10 v lb.length (fl evL lb)/\Sp W w' h1 H1 h2 H2 va vp la lp
theorem Sp.bytes {P S M:Nat} (hS:Sp W w h1 H1 h2 H2 va vp la lp) (g:Gh c M P S H2) (hM:M<=7000000000) (hP:P<=7000000) (hS5:S<=1000000000) (hn:Nums W W.heap.size .u8 ao b) (hb:Utf.Bytes b) (hl:b.length<=1000) (hbn:b.length=n) :
  Calls Tryz.prog 8 #[.pointer (some ⟨h2,0,none⟩),.slice ao n cp] w (Cf4 W h1 H1 h2 (H2.bytes b) va vp la lp (H2.told b)):=by
 obtain⟨⟨B1,B2,a,b2,c1,d,e1,e2⟩,ra,rp⟩:=hS
 refine(Ba0 b2 (g.bd hb hl hM hP) (by have:=g.sent;omega) hb (Cc7 hn b2.below (fun k hk=>(d k hk).2)) hbn (by omega)).mono fun e w' ⟨v,he,hr,hd⟩=>?_
 have hfr:=hd.fr
 have hsz:=hfr.size
 have hW:=a.below.size
 have ha:=a.other hfr c1 (fun k hk=>(d k hk).2)
 have hla:=World.ownsRow.lt ra
 have hlp:=World.ownsRow.lt rp
 refine⟨v,he,hr.1,⟨Hos.re B1 w w',B2,ha,hd.hb,fun k hk h4 h5=>?_,fun k hk=>⟨fun h5=>?_,(d k hk).2⟩,e1,fun g hg=>⟨fun h5=>?_,(e2 g hg).2⟩⟩,Ac1 ra (fun g hg=>hfr.block g (hla g hg).2 (e1 g hg)),Ac1 rp (fun g hg=>hfr.block g (hlp g hg).2 (e2 g hg).2.1)⟩
 ·rcases h4 with h4|h4
  ·exact c1 k h4.2 h4.1 h5
  ·omega
 ·rcases h5 with h5|h5
  ·exact(d k hk).1 h5.1
  ·omega
 ·rcases h5 with h5|h5
  ·exact(e2 g hg).1 h5.1
  ·have:=(hlp g hg).2
   omega
theorem Sp.put (hS:Sp W w h1 H1 h2 H2 va vp la lp) (hr:w'.ownsRow W.heap.size 73 10 v (lp.length+lb.length) (fl evL lp++fl evL lb)) (ho:Only vp.ownBlock.toList w w') (hv:v.ownBlock=vp.ownBlock\/v.ownBlock=some w.heap.size):Sp W w' h1 H1 h2 H2 va v la (lp++lb):=by
 obtain⟨⟨B1,B2,a,b2,c1,d,e1,e2⟩,ra,rp⟩:=hS
 have hla:=World.ownsRow.lt ra
 have hlp:=World.ownsRow.lt rp
 have hlv:=World.ownsRow.lt hr
 have hsz:=ho.size
 have hW:=a.below.size
 have hf:=Hf.of_only ho
 have hm:∀k,k∈vp.ownBlock.toList->vp.ownBlock=some k:=fun k hk=>by
  rcases hq:vp.ownBlock with _|g
  ·rw[hq] at hk
   cases hk
  ·rw[hq] at hk
   simp only[Option.toList,List.mem_cons,List.not_mem_nil,or_false] at hk
   rw[hk]
 have ha:=a.other hf (fun k hk h3 h4=>(e2 k (hm k h4)).1 h3) (fun k hk h4=>by have:=(hlp k (hm k h4)).1;omega)
 have hb:=b2.other hf (fun k hk h3 h4=>(e2 k (hm k h4)).2.1 h3) (fun k hk h4=>by have:=(hlp k (hm k h4)).1;omega)
 have hno:∀g,va.ownBlock=some g->g∉vp.ownBlock.toList:=fun g hg h4=>(e2 g (hm g h4)).2.2 hg
 refine⟨⟨_,_,ha,hb,fun k hk h4 h5=>?_,fun k hk=>⟨fun h5=>?_,fun h5=>?_⟩,fun g hg h5=>?_,fun g hg=>⟨fun h5=>?_,fun h5=>?_,fun h5=>?_⟩⟩,Ac1 ra (fun g hg=>ho.block g (hla g hg).2 (hno g hg)),by rw[List.length_append,fl_app];exact hr⟩
 ·rcases h4 with h4|h4
  ·rcases h5 with h5|h5
   ·exact c1 k h4.2 h4.1 h5.1
   ·omega
  ·omega
 ·rcases h5 with h5|h5
  ·exact(d k hk).1 h5.1
  ·omega
 ·rcases h5 with h5|h5
  ·exact(d k hk).2 h5.1
  ·omega
 ·rcases h5 with h5|h5
  ·exact e1 g hg h5.1
  ·have:=(hla g hg).2
   omega
 ·have h6:=(hlv g hg).2
  rcases h5 with h5|h5
  ·rcases hv with hv|hv
   ·exact(e2 g (hv▸hg)).1 h5.1
   ·rw[hv] at hg
    have:=h5.2
    simp only[Option.some.injEq] at hg
    omega
  ·omega
 ·have h6:=(hlv g hg).2
  rcases h5 with h5|h5
  ·rcases hv with hv|hv
   ·exact(e2 g (hv▸hg)).2.1 h5.1
   ·rw[hv] at hg
    have:=h5.2
    simp only[Option.some.injEq] at hg
    omega
  ·omega
 ·have h6:=(hla g h5).2
  rcases hv with hv|hv
  ·exact(e2 g (hv▸hg)).2.2 h5
  ·rw[hv] at hg
   simp only[Option.some.injEq] at hg
   omega
end
section
variable {W w w':World}
def kz:Kys.Ky:=⟨0,0,0,0⟩
theorem great_no {r c b:Int} {l:List Oh} (h:Aj7 r c b l=false):Ai6 r=false/\Ai6 c=false/\¬(200<b/\b<=10000)/\∀o∈l,o.b.length<=600/\o.text.length<=200:=by
 unfold Aj7 at h
 simp only[Bool.or_eq_false_iff,decide_eq_false_iff_not] at h
 obtain⟨⟨⟨⟨h1,h2⟩,h3⟩,h4⟩,h5⟩:=h
 refine⟨h1,h2,h3,fun o ho=>?_⟩
 rw[List.any_eq_false] at h5
 have h6:=h5 o ho
 unfold bigO at h6
 simp only[Bool.or_eq_true,decide_eq_true_eq,not_or] at h6
 omega
theorem Cn1 {n:Int} (h:Ai6 n=false) (h5:n<=512):n<=24:=by
 unfold Ai6 at h
 simp only[decide_eq_false_iff_not] at h
 omega
theorem Bj5 {l:List Int} (h:Fits .u8 l):Utf.Bytes l:=fun x hx=>by
 have:=h x hx
 simp[Lit.wf,IntKind.min,IntKind.max,IntKind.signed,IntKind.bits] at this
 exact⟨by omega,by omega⟩
theorem row_same {v:Value} {l:List Int} (h:Kys.Row w 0 5 v l) (hs:∀g,v.ownBlock=some g->w'.heap[g]?=w.heap[g]?):Kys.Row w' 0 5 v l:=Ad3 h hs
end
