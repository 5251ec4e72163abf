/- Part 9 of HostKeys. -/
import Derived.WalkSpells
import Derived.Test.YtecnpoigegiooaaGreatDoorW08
import Derived.Test.YtecnpoigegiooaaGreatDoorW04
set_option maxHeartbeats 16000000
set_option maxRecDepth 100000
namespace Go.Proofs.YtecnpoigegiooaaGreatDoor.Rw
open Tryz
open Go RowKit Com
structure Abu(P:Program)(t e:TypeId)(z:Value)(size:Nat):Prop where
 slice:P.underlying t=some (.slice e)
 info:∃i,P.info? e=some i/\i.zero=some z/\i.size=size/\i.bytes<=100
 cells:z.cells.size=size
 pos:0<size
section
variable {P:Program}{t e:TypeId}{z:Value}{size:Nat}
theorem Bnl(E:Abu P t e z size){w:World}{o:Oper}{a:Go.Act}{K:Go.Act->World->Prop}{Q:Exit->Go.Act->World->Prop}(s x:Operand)
  (ho:o.op=.call { callee:=.builtin .append,args:=#[s,x],argTypes:=#[t,t] })
  (B:Nat) (v:Value) (n:Nat) (xs:List Value) (ad:Addr) (m c:Nat) (news:List Value) (hs:a.eval s=v) (hxe:a.eval x=.slice (some ad) m c)
  (h:w.ownsRow B e size v n xs) (hl:news.length=m*size) (Z0:∀j u,news[j]?=some u->w.cell? (ad.add j)=some u) (h1:∀u∈news,u.oneCell'=true) (hB:B<=w.heap.size) (hx:n+m<=100000)
  (hK:∀v' w',w'.ownsRow B e size v' (n+m) (xs++news)->A0 v.ownBlock.toList w w'->(v'.ownBlock=v.ownBlock\/v'.ownBlock=some w.heap.size)->K (a.put o.dst v') w'):o.wp P a w K Q:=by
 obtain⟨i,hi,hz,hsz,hb⟩:=E.info
 have hby:(n+m)*i.bytes<=100000*100:=Nat.mul_le_mul hx hb
 obtain⟨v',w',hr,h2,h3,_,h5⟩:=run_append_own_at (P:=P) w B t o.type e i z size i.bytes E.slice hi hz hsz rfl E.cells E.pos v n xs h ad m c news hl Z0 h1 (by unfold maxLen;omega) (by omega) hB
 unfold Oper.wp execOp
 simp only[ho,resolve,invoke,builtin,Sem.run_bind,Sem.run_pure,Result.andThen_ok,List.map_toArray,List.map_cons,List.map_nil,hs,hxe,hr]
 exact hK v' w' h2 (A0.grown h3) h5
theorem Bfy(E:Abu P t e z size){w:World}{ops:Array Oper}{rest:List Oper}{o:Oper}{a:Go.Act}{Q:Exit->Go.Act->World->Prop}(hgd:Region.wanted o (yielded ops a.tmps)=true)(s x:Operand)
  (ho:o.op=.call { callee:=.builtin .append,args:=#[s,x],argTypes:=#[t,t] })
  (B:Nat) (v:Value) (n:Nat) (xs:List Value) (ad:Addr) (m c:Nat) (news:List Value) (hs:a.eval s=v) (hxe:a.eval x=.slice (some ad) m c)
  (h:w.ownsRow B e size v n xs) (hl:news.length=m*size) (Z0:∀j u,news[j]?=some u->w.cell? (ad.add j)=some u) (h1:∀u∈news,u.oneCell'=true) (hB:B<=w.heap.size) (hx:n+m<=100000)
  (hK:∀v' w',w'.ownsRow B e size v' (n+m) (xs++news)->A0 v.ownBlock.toList w w'->(v'.ownBlock=v.ownBlock\/v'.ownBlock=some w.heap.size)->wpList P ops Q rest (a.put o.dst v') w'):wpList P ops Q (o::rest) a w :=
 Afq hgd fun _ hK'=>Bnl E s x ho B v n xs ad m c news hs hxe h hl Z0 h1 hB hx fun v' w' h1 h2 h3=>hK' _ _ (hK v' w' h1 h2 h3)
end
theorem Cra:Abu prog 189 194 (.agg (B6 O8).toArray) 10:=by
 have h:(prog.info? 194).map (fun i=>(i.zero,i.size,decide (i.bytes<=100)))=some (some (.agg (B6 O8).toArray),10,true):=by kernel_rfl
 refine⟨underlying189,?_,rfl,by omega⟩
 cases hq:prog.info? 194 with
 |none=>simp[hq]at h
 |some i =>
  simp only[hq,Option.map_some,Option.some.injEq,Prod.mk.injEq,decide_eq_true_eq]at h
  exact⟨i,rfl,h.1,h.2.1,h.2.2⟩
theorem Ahf{w:World}{B:Nat}{e:TypeId}{s n:Nat}{v:Value}{xs:List Value}(h:w.ownsRow B e s v n xs)(hn:0<n):∃g cap tail,v=.slice (some ⟨g,0,none⟩) n cap/\B<=g/\Block w g e (xs++tail).toArray/\n<=cap/\cap<=maxLen:=by
 rcases h.2 with⟨_,h0⟩|⟨g,cap,cur,rfl,hg,hh,hc,hm,_,ht⟩
 ·omega
 ·refine⟨g,cap,cur.toList.drop (n*s),rfl,hg,?_,hc,hm⟩
  rw[<- ht,List.take_append_drop]
  exact hh
def Bza(w:World)(n:Nat)(l:List Cel)(e:Ending)(w':World):Prop:=∃g cap tail,e=.returned (.slice (some ⟨g,0,none⟩) n cap)/\Block w' g 194 (fl B6 l++tail).toArray/\n<=cap/\cap<=maxLen/\Below w.heap.size w w'/\w.heap.size<=g
theorem Bzp{w:World}{d g n cap:Nat}{tail:List Value}{l:List Cel}(h:B7 w d g n cap tail l) :
  Calls prog 305 #[.slice (some ⟨g,0,none⟩) n cap] w (Bza w n l):=by
 have hn:=h.pos
 have hn5:=h.small
 have hll:=h.len
 have hnil:∀W,(binOp .eql 189 (.slice (some ⟨g,0,none⟩) n cap) (.slice none 0 0)).run prog W=.ok (.bool false) W:=fun W=>Lib.run_eql_slice_nil W _ _ (some ⟨g,0,none⟩) n cap 0 0 underlying189
 have C0:(w.alloc (.cells #[] 194)).ownsRow w.heap.size 194 10 (.slice (some ⟨w.heap.size,0,none⟩) 0 0) 0 []:=by
  have:=World.ownsRow_lit (e:=194) (base:=w.heap.size) (size:=10) w #[] 0 (J5 _) (by simp[maxLen]) (by simp)
  simpa using this
 have Z0:∀j u,(fl B6 l)[j]?=some u->(w.alloc (.cells #[] 194)).cell? ((⟨g,0,none⟩:Addr).add j)=some u:=by
  intro j u hj
  have:=((h.below (A3 w (.cells #[] 194))).part 0 l.length (by omega)) j u
  rw[List.drop_zero,List.take_length]at this
  exact this hj
 have hlen:(fl B6 l).length=n*10:=by rw[Q4 N3,hll]
 have E0:=Aqf Akr l
 replace C0:=J0 C0
 replace Z0:=J0 Z0
 replace hlen:=J0 hlen
 replace E0:=J0 E0
 clear h hll
 go_enter func305,ntmps305
 go_wp2_with (first
  |(with_reducible refine J6 7 ?_;go_must(refine Bfy Cra rfl (.tmp 5) (.tmp 6) rfl w.heap.size (.slice (some ⟨w.heap.size,0,none⟩) 0 0) 0 [] ⟨g,0,none⟩ n cap (fl B6 l) rfl rfl C0.out hlen.out Z0.out E0.out (by simp) (by omega) ?_);intro v2 w2 L4 ho2 Aak))
 go_ret
 rw[Nat.zero_add,List.nil_append]at L4
 obtain⟨g2,cap2,tail2,rfl,hg2,hb2,hc2,hm2⟩:=Ahf L4 hn
 exact⟨g2,cap2,tail2,rfl,hb2,hc2,hm2,((Below.refl _ _).alloc (J5 _) _).trans (ho2.below (by simp) (by simp[Value.ownBlock])),hg2⟩
def Cdf(w:World)(n:Nat)(l:List Cel)(e:Ending)(w':World):Prop:=∃d g cap tail,e=.returned (.pointer (some ⟨d,0,none⟩))/\B7 w' d g n cap tail l/\Below w.heap.size w w'/\w.heap.size<=d/\w.heap.size<=g
theorem Cdt{w:World}{d g n cap:Nat}{tail:List Value}{l:List Cel}(h:B7 w d g n cap tail l) :
  Calls prog 304 #[.pointer (some ⟨d,0,none⟩)] w (Cdf w n l):=by
 have hn:=h.pos
 have hn5:=h.small
 have hll:=J0 h.len
 have hn0:((n:Int)==0)=false:=beq_eq_false_iff_ne.2 (by omega)
 have hlen:=J0 (Aas h)
 have hc:=h.slice
 have hcl:=J0 (Bzp h)
 clear h
 go_enter func304,ntmps304
 go_wp2_with (first
  |(go_at_call 99;(with_reducible refine(hlen.out).mono ?_);rintro e w' ⟨rfl,rfl⟩)
  |(go_at_call 305;(with_reducible refine(hcl.out).mono ?_);rintro e w1 ⟨g1,cap1,tail1,rfl,hb1,Bea,hm1,Aia,hg1⟩))
 go_ret
 exact⟨w1.heap.size,g1,cap1,tail1,rfl,⟨Block.made w1 _ _,hb1.alloc _,hll.out,Bea,hm1,hn,hn5⟩,Aia.alloc Aia.size _,Aia.size,hg1⟩
theorem Cfz{w:World}{g:Nat}{c:Cel}{v:Value}(h:Block w g 57 (I5 c v).toArray):(loadVar 57 ⟨g,0,none⟩).run prog w=.ok (.agg (I5 c v).toArray) w :=
 Apa w 57 ⟨g,0,none⟩ (I5 c v) _ (fun j u hj=>by rw[Addr.add_lit,Nat.zero_add];exact h.cell j (by simpa using hj)) underlying57 rfl (Aql c v)
theorem Aa7{fn:Func}{p q:Tmp}(h:fn.results=#[.cell p 57,.tmp q])(tmps:Array Value)(w:World)(g:Nat)(c:Cel)(v:Value)
  (hp:tmps.getD p undef=.pointer (some ⟨g,0,none⟩)) (hg:Block w g 57 (I5 c v).toArray) :
  (results fn tmps).run prog w=.ok (.tuple #[.agg (I5 c v).toArray,tmps.getD q undef]) w:=by
 have hp':tmps[p]?.getD undef=.pointer (some ⟨g,0,none⟩):=by simpa using hp
 simp[results,h,hp',asAddr,Cfz hg]
def Bnm(w:World)(x:Int)(e:Ending)(w':World):Prop:=e=.returned (.tuple #[.agg (I5 O8 (.slice none 0 0)).toArray,.int .i64 x])/\Below w.heap.size w w'
theorem Bhu(w:World):Block (w.alloc (.cells #[.int .i32 0,.slice none 0 0,.int .u8 0,.int .u32 0,.int .u32 0,.int .u16 0] 57)) w.heap.size 57 (I5 O8 (.slice none 0 0)).toArray:=Block.made w _ _
theorem Bhd{w1:World}{b:Nat}{c c':Cel}{v v':Value}(hr:Block w1 b 57 (splice (I5 c v) 0 (I5 c' v')).toArray):Block w1 b 57 (I5 c' v').toArray:=by
 simpa[splice,I5,R9]using hr
theorem Bud{w w1:World}{o:Obj}(ho1:A0 [w.heap.size] (w.alloc o) w1):Below w.heap.size w w1:=(A3 _ _).trans (ho1.below (by simp) (by simp))
section
variable {w:World}{d g n cap:Nat}{tail:List Value}{l:List Cel}
theorem Cjd(h:B7 w d g n cap tail l)(i:Int)(hi:i<0\/(n:Int)<=i):Calls prog 161 #[.pointer (some ⟨d,0,none⟩),.int .i64 i] w (Bnm w 6):=by
 have hb:=J0 (Bhu w)
 have hn:=h.pos
 have hn0:((n:Int)==0)=false:=beq_eq_false_iff_ne.2 (by omega)
 have h1:=h.below (A3 w (.cells #[.int .i32 0,.slice none 0 0,.int .u8 0,.int .u32 0,.int .u32 0,.int .u16 0] 57))
 have hl:=J0 (Aas h1)
 have hno:=J0 (Awe h1 i hi)
 clear h h1 hi
 go_enter func161,ntmps161
 go_wp2_with (first
  |(go_at_call 99;(with_reducible refine(hl.out).mono ?_);rintro e w' ⟨rfl,rfl⟩)
  |(go_at_call 219;(with_reducible refine(hno.out).mono ?_);rintro e w' ⟨rfl,rfl⟩)
  |(with_reducible refine J8 4 ?_;go_must(refine Amj rfl 57 (.tmp 4) (.tmp 16) rfl (g:=w.heap.size) (i:=0) hb.out (I5 O8 (.slice none 0 0)) rfl rfl (by decide) (Aql _ _) (Auu rfl) ?_);intro w1 hr1 ho1))
 exact bodyPost_ret (Aa7 rfl _ _ w.heap.size _ _ rfl (Bhd hr1.out)) rfl ⟨rfl,Bud ho1⟩
def Bkv(w:World)(c:Cel)(e:Ending)(w':World):Prop:=∃v,e=.returned (.tuple #[.agg (I5 c v).toArray,.int .i64 0])/\Own w' w.heap.size 21 .i32 v c.m/\Below w.heap.size w w'
theorem Cdo(h:B7 w d g n cap tail l)(h4:∀c∈l,c.m.length<=4)(i:Nat)(hi:i<n)(hil:i<l.length):Calls prog 161 #[.pointer (some ⟨d,0,none⟩),.int .i64 i] w (Bkv w l[i]):=by
 have hb:=J0 (Bhu w)
 have hn:=h.pos
 have hn5:=h.small
 have hle:=h.le
 have hcm:=h.cap
 unfold maxLen at hcm
 have hn0:((n:Int)==0)=false:=beq_eq_false_iff_ne.2 (by omega)
 have h1:=h.below (A3 w (.cells #[.int .i32 0,.slice none 0 0,.int .u8 0,.int .u32 0,.int .u32 0,.int .u16 0] 57))
 have hl:=J0 (Aas h1)
 have hys:=J0 (Aqj h1 i (by omega) (by omega))
 have hsl:=h1.slice
 have hld:=h1.load hil
 have hto:=fun w=>Aqc l[i] (h4 _ (List.getElem_mem hil)) w
 have B9:=Awg l[i]
 generalize l[i]=c at hld hto B9 |-
 generalize B6 c=C at hld hto B9
 replace hld:=J0 hld
 replace hto:=J0 hto
 replace B9:=J0 B9
 clear h h1 h4 hil
 go_enter func161,ntmps161
 go_wp2_with (first
  |(go_at_call 99;(with_reducible refine(hl.out).mono ?_);rintro e w' ⟨rfl,rfl⟩)
  |(go_at_call 219;(with_reducible refine(hys.out).mono ?_);rintro e w' ⟨rfl,rfl⟩)
  |(with_reducible refine J9 23 22 ?_;go_must(refine Aix rfl 194 (.tmp 22) rfl ⟨g,i*10,none⟩ rfl C _ hld.out underlying194 rfl B9.out ?_)))
 refine(hto.out _).mono ?_
 rintro e w2 ⟨v,rfl,C0,hb2⟩
 have hb2':=J0 (hb.out.only (A0.A1 hb2 []) (by simp))
 have E0:=J0 (Auu (c:=c) (Own.one C0))
 go_wp2_with (first
  |(with_reducible refine J8 4 ?_;go_must(refine Amj rfl 57 (.tmp 4) (.tmp 24) rfl (g:=w.heap.size) (i:=0) hb2'.out (I5 c v) rfl rfl (by simp[I5,R9]) (Aql _ _) (E0.out) ?_);intro w3 hr3 ho3))
 have hb3:=Bhd hr3.out
 have hty:=fun g hg=>Own.typ C0 (g:=g) hg
 have Aic:=C0.only ho3 (fun g hg hm=>by
  simp at hm;subst hm
  exact absurd (Typ.inj (hty _ hg) (Block.typ hb2'.out)) (by decide))
 have hbw:Below w.heap.size w w2:=A2 (A3 _ _) hb2
 exact bodyPost_ret (Aa7 rfl _ _ w.heap.size _ _ rfl hb3) rfl ⟨v,rfl,Own.lower Aic (by simp),hbw.trans (ho3.below hbw.size (by simp))⟩
end
end Go.Proofs.YtecnpoigegiooaaGreatDoor.Rw
namespace Go.Proofs.YtecnpoigegiooaaGreatDoor.Com
open Tryz
open Go RowKit
section
variable {P:Program}
theorem Apa(w:World)(ty:TypeId)(ad:Addr)(cs:List Value)(d:TypeDesc)(hc:∀j v,cs[j]?=some v->w.cell? (ad.add j)=some v)
  (hu:P.underlying ty=some d) (hd:(match d with|.struct _|.array _ _=>true|_=>false)=true) (hi:(P.info? ty).map (·.size)=some cs.length):(loadVar ty ad).run P w=.ok (.agg cs.toArray) w:=by
 have hl:=run_loadCells_list (P:=P) w ad cs hc
 have Bdr:(isAgg ty).run P w=.ok true w:=by
  unfold isAgg
  rw[Sem.run_bind,run_underlying hu w]
  cases d<;>simp_all
 cases hq:P.info? ty with
 |none=>simp[hq]at hi
 |some i =>
  have hs:i.size=cs.length:=by simpa[hq]using hi
  simp[loadVar,Sem.run_bind,Bdr,sizeOf,typeInfo,hq,hs,hl]
end
end Go.Proofs.YtecnpoigegiooaaGreatDoor.Com
namespace Go.Proofs.YtecnpoigegiooaaGreatDoor.Lns
open Tryz
open Go RowKit Com Rw
structure En where
 id:Int
 d:Nat
 g:Nat
 dr:Nat
 l:List Cel
def E5(e:En):List Value:=[.int .i64 e.id,.pointer (some ⟨e.d,0,none⟩)]
theorem Abj(e:En):(E5 e).length=2:=rfl
theorem Bic(e:En):∀v∈E5 e,v.oneCell'=true:=by
 intro v hv
 simp only[E5,List.mem_cons,List.not_mem_nil,or_false]at hv
 rcases hv with rfl|rfl<;>rfl
theorem V0{w:World}{k j:Nat}{t t':TypeId}(h:Typ w k t)(h':Typ w j t')(ht:t≠t'):k∉[j]:=by
 intro hm
 obtain rfl:k=j:=by simpa using hm
 exact ht (Typ.inj h h')
theorem M4{w:World}{B:Nat}{e:TypeId}{s n:Nat}{v:Value}{xs:List Value}(h:w.ownsRow B e s v n xs):∀g,v.ownBlock=some g->Typ w g e:=by
 intro g hg
 rcases h.2 with⟨rfl,_⟩|⟨x,cap,cur,rfl,_,hh,_⟩
 ·cases hg
 ·obtain rfl:x=g:=by simpa[Value.ownBlock]using hg
  exact⟨cur,_,hh⟩
theorem Bbr{w:World}{k B:Nat}{t e:TypeId}{s n:Nat}{v:Value}{xs:List Value}(h:Typ w k t)(h':w.ownsRow B e s v n xs)(ht:t≠e):k∉v.ownBlock.toList:=by
 intro hm
 exact ht (Typ.inj h (M4 h' k (by simpa using hm)))
theorem Aen{w w':World}{L:List Nat}{B:Nat}{e:TypeId}{s n:Nat}{v:Value}{xs:List Value}(h:w.ownsRow B e s v n xs)(ho:A0 L w w')(hn:∀g,v.ownBlock=some g->g∉L):w'.ownsRow B e s v n xs:=by
 refine⟨h.1,?_⟩
 rcases h.2 with h2|⟨g,cap,cur,rfl,hg,hh,r⟩
 ·exact .inl h2
 ·exact .inr ⟨g,cap,cur,rfl,hg,(ho.block g (lt_of_block hh) (hn g rfl)).trans hh,r⟩
theorem U0{w:World}{B:Nat}{e:TypeId}{s n:Nat}{v:Value}{xs:List Value}(h:w.ownsRow B e s v n xs):∃ao c,v=.slice ao n c/\n<=c/\c<=maxLen:=by
 rcases h.2 with⟨rfl,h0⟩|⟨g,cap,cur,rfl,_,_,hc,hm,_⟩
 ·exact⟨none,0,by rw[h0],by omega,by unfold maxLen;omega⟩
 ·exact⟨_,cap,rfl,hc,hm⟩
theorem Bpo:(prog.info? 188).map (·.size)=some 2:=by kernel_rfl
theorem Crw:(prog.info? 77).map (·.size)=some 2:=by kernel_rfl
theorem Bce{w:World}{g:Nat}{t:TypeId}{a b:Value}(h:Block w g t #[a,b])(u v:Value):Block ((w.setCell ⟨g,0,none⟩ u).setCell ⟨g,1,none⟩ v) g t #[u,v]:=(h.set 0 u).set 1 v
theorem Apt{P:Program}{w:World}{g:Nat}{t ty:TypeId}{cs:Array Value}{d:TypeDesc}(h:Block w g t cs)(hu:P.underlying ty=some d)(hd:(match d with|.struct _|.array _ _=>true|_=>false)=true)(hi:(P.info? ty).map (·.size)=some cs.size):(loadVar ty ⟨g,0,none⟩).run P w=.ok (.agg cs) w :=
 Com.Apa w ty ⟨g,0,none⟩ cs.toList _ (fun j u hj=>by rw[Addr.add_lit,Nat.zero_add];exact h.cell j (by simpa using hj)) hu hd (by simpa using hi)
theorem Atf{P:Program}{fn:Func}{p q:Tmp}{ty t:TypeId}{d:TypeDesc}(h:fn.results=#[.cell p ty,.tmp q])(tmps:Array Value)(w:World)(g:Nat)(cs:Array Value)
  (hp:tmps.getD p undef=.pointer (some ⟨g,0,none⟩)) (hg:Block w g t cs) (hu:P.underlying ty=some d) (hd:(match d with|.struct _|.array _ _=>true|_=>false)=true) (hi:(P.info? ty).map (·.size)=some cs.size) :
  (results fn tmps).run P w=.ok (.tuple #[.agg cs,tmps.getD q undef]) w:=by
 have hp':tmps[p]?.getD undef=.pointer (some ⟨g,0,none⟩):=by simpa using hp
 simp[results,h,hp',asAddr,Apt hg hu hd hi]
def O4(B:Nat)(w:World)(e:En):Prop:=Rw.Good e.l/\B<=e.d/\B<=e.g/\∃n cap tail,B7 w e.d e.g n cap tail e.l
theorem O4.typ{B:Nat}{w:World}{e:En}(h:O4 B w e):Typ w e.d 191/\Typ w e.g 194:=by
 obtain⟨_,_,_,n,cap,tail,hx⟩:=h
 exact⟨Block.typ hx.ptr,Block.typ hx.row⟩
theorem O4.only{B:Nat}{w w':World}{e:En}{L:List Nat}(h:O4 B w e)(ho:A0 L w w')(hd:e.d∉L)(hg:e.g∉L):O4 B w' e:=by
 obtain⟨h1,h2,h3,n,cap,tail,hx⟩:=h
 exact⟨h1,h2,h3,n,cap,tail,hx.kept ho hd hg⟩
theorem O4.below{B:Nat}{w w':World}{e:En}(h:O4 B w e)(hb:Below w.heap.size w w'):O4 B w' e:=h.only (A0.A1 hb []) (by simp) (by simp)
structure SX0(B:Nat)(w:World)(s nx most:Nat)(sv:Value)(o:Nat)(P:List En):Prop where
 blk:Block w s 136 #[.int .i64 nx,.int .i64 most,sv,.int .i64 o]
 own:w.ownsRow B 188 2 sv P.length (fl E5 P)
 le:P.length<=most
 old:P.length<most->o=0
 olt:o<P.length\/o=0
 most:most<=10000
 pos:0<nx
 small:nx<=10000000000
 lo:B<=s
def SX(B:Nat)(w:World)(s nx most:Nat)(sv:Value)(R:List En):Prop:=(∃o P,SX0 B w s nx most sv o P/\lg P o=R)/\∀e∈R,O4 B w e
section
variable {B:Nat}{w w':World}{s nx most o:Nat}{sv:Value}{P R:List En}{L:List Nat}
theorem SX0.cells(h:SX0 B w s nx most sv o P):w.cell? ⟨s,0,none⟩=some (.int .i64 nx)/\w.cell? ⟨s,1,none⟩=some (.int .i64 most)/\w.cell? ⟨s,2,none⟩=some sv/\w.cell? ⟨s,3,none⟩=some (.int .i64 o) :=
 ⟨h.blk.cell 0 rfl,h.blk.cell 1 rfl,h.blk.cell 2 rfl,h.blk.cell 3 rfl⟩
theorem SX0.only(h:SX0 B w s nx most sv o P)(ho:A0 L w w')(hs:s∉L)(hp:∀g,sv.ownBlock=some g->g∉L):SX0 B w' s nx most sv o P :=
 ⟨h.blk.only ho hs,Aen h.own ho hp,h.le,h.old,h.olt,h.most,h.pos,h.small,h.lo⟩
theorem SX.only(h:SX B w s nx most sv R)(ho:A0 L w w')(hs:s∉L)(hp:∀g,sv.ownBlock=some g->g∉L)(hr:∀e∈R,e.d∉L/\e.g∉L):SX B w' s nx most sv R:=by
 obtain⟨⟨o,P,h0,hR⟩,hg⟩:=h
 exact⟨⟨o,P,h0.only ho hs hp,hR⟩,fun e he=>(hg e he).only ho (hr e he).1 (hr e he).2⟩
theorem SX.below(h:SX B w s nx most sv R)(hb:Below w.heap.size w w'):SX B w' s nx most sv R:=h.only (A0.A1 hb []) (by simp) (by simp) (by simp)
theorem SX.typ(h:SX B w s nx most sv R):Typ w s 136:=by
 obtain⟨⟨o,P,h0,hR⟩,hg⟩:=h
 exact Block.typ h0.blk
theorem SX.Aci(h:SX B w s nx most sv R):∀g,sv.ownBlock=some g->B<=g/\g<w.heap.size/\Typ w g 188:=by
 obtain⟨⟨o,P,h0,hR⟩,hg⟩:=h
 intro g hx
 have:=World.ownsRow.lt h0.own g hx
 exact⟨this.1,this.2,M4 h0.own g hx⟩
theorem SX0.len(h:SX0 B w s nx most sv o P):∃ao c,sv=.slice ao P.length c/\P.length<=c/\c<=maxLen:=U0 h.own
theorem SX0.place(h:SX0 B w s nx most sv o P){i:Nat}(hi:i<P.length):∃g c,sv=.slice (some ⟨g,0,none⟩) P.length c/\P.length<=c/\c<=maxLen/\w.cell? ⟨g,i*2,none⟩=some (.int .i64 P[i].id)/\w.cell? ⟨g,i*2+1,none⟩=some (.pointer (some ⟨P[i].d,0,none⟩)):=by
 obtain⟨g,cap,tail,rfl,hg,hb,hc,hm⟩:=Ahf h.own (by omega)
 have e0:=Ahz Abj hi (show 0<2 by decide)
 have e1:=Ahz Abj hi (show 1<2 by decide)
 have hl:i*2+1<(fl E5 P).length:=by rw[Q4 Abj];omega
 refine⟨g,cap,rfl,hc,hm,hb.cell _ ?_,hb.cell _ ?_⟩
 ·rw[List.getElem?_toArray,List.getElem?_append_left (by omega)];exact e0
 ·rw[List.getElem?_toArray,List.getElem?_append_left hl];exact e1
theorem SX0.drew(h:SX0 B w s nx most sv o P)(q:Nat):SX0 B (w.drewN q) s nx most sv o P:=h.only (A0.drewN [] w q) (by simp) (by simp)
end
section
variable {B:Nat}{w w':World}{s nx most o:Nat}{sv:Value}{P R:List En}
theorem Apu(h:SX0 B w s nx most sv o P):Calls prog 79 #[.pointer (some ⟨s,0,none⟩)] w fun e w'=>e=.returned (.bool true)/\w=w':=by
 obtain⟨h0,_⟩:=h.cells
 have hp:=h.pos
 clear h
 go_enter func79,ntmps79
 go_wp2
 go_ret
 exact⟨rfl,rfl⟩
theorem Abl(h:SX0 B w s nx most sv o P):Calls prog 143 #[.pointer (some ⟨s,1,none⟩)] w fun e w'=>e=.returned (.int .i64 P.length)/\w=w':=by
 obtain⟨_,_,h2,_⟩:=h.cells
 obtain⟨ao,c,rfl,_⟩:=h.len
 generalize P.length=n at h2 |-
 clear h
 go_enter func143,ntmps143
 go_wp2
 go_ret
 exact⟨rfl,rfl⟩
theorem Ckp(h:SX0 B w s nx most sv o P)(i:Int):Calls prog 144 #[.pointer (some ⟨s,1,none⟩),.int .i64 i] w fun e w'=>e=.returned (.bool (decide (0<=i/\i<P.length)))/\w=w':=by
 have hc:=J0 (Abl h)
 obtain⟨b,hb⟩:∃b,b=decide (0<=i/\i<P.length):=⟨_,rfl⟩
 rw[<- hb]
 replace hb:=J0 hb
 clear h
 by_cases h0:0<=i
 ·go_enter func144,ntmps144
  go_wp2_with((go_at_call 143;(with_reducible refine(hc.out).mono ?_);rintro e w' ⟨rfl,rfl⟩))
  go_ret
  exact⟨G1 (by rw[hb.out,Bool.eq_iff_iff];simp;omega),rfl⟩
 ·have h1:decide (0<=i)=false:=decide_eq_false h0
  go_enter func144,ntmps144
  go_wp2_with((go_at_call 143;(with_reducible refine(hc.out).mono ?_);rintro e w' ⟨rfl,rfl⟩))
  go_ret
  exact⟨G1 (by rw[hb.out];symm;exact decide_eq_false (by omega)),rfl⟩
theorem Ahg(h:SX0 B w s nx most sv o P)(i:Nat)(hi:i<=100000)(hn:0<P.length):Calls prog 208 #[.pointer (some ⟨s,1,none⟩),.int .i64 i] w fun e w'=>e=.returned (.int .i64 ((o+i) % P.length:Nat))/\∃q,w'=w.drewN q:=by
 obtain⟨_,_,_,h3⟩:=h.cells
 have hc:=fun q=>Abl (h.drew q)
 have ho:=h.olt
 have hle:=Nat.le_trans h.le h.most
 have hne:((P.length:Int)==0)=false:=beq_eq_false_iff_ne.2 (by omega)
 generalize P.length=n at hc ho hle hn hne |-
 obtain⟨m,hm⟩:∃m,m=(o+i) % n:=⟨_,rfl⟩
 rw[<- hm]
 replace hm:=J0 hm
 replace hc:=J0 hc
 clear h
 go_enter func208,ntmps208
 go_wp2
 go_quiet ((go_at_call 143;with_reducible exact Aft (hc.out _)))
 go_wp2
 go_ret
 refine⟨G6 ?_,_,rfl⟩
 rw[hm.out,Int.natCast_emod,Int.natCast_add]
def Cdh(w:World)(e0:En)(e:Ending)(w':World):Prop:=e=.returned (.agg #[.int .i64 e0.id,.pointer (some ⟨e0.d,0,none⟩)])/\Below w.heap.size w w'
theorem Acm(h:SX0 B w s nx most sv o P)(i:Nat)(hi:i<P.length)(e0:En)(he:(lg P o)[i]?=some e0):Calls prog 145 #[.pointer (some ⟨s,1,none⟩),.int .i64 i] w (Cdh w e0):=by
 have hle:=Nat.le_trans h.le h.most
 have ho:o<P.length:=by have:=h.olt;omega
 rw[Csa P ho hi]at he
 have hk:(o+i) % P.length<P.length:=Nat.mod_lt _ (by omega)
 rw[List.getElem?_eq_getElem hk]at he
 have hw:=h.only (A0.alloc [] w (.cells #[.int .i64 0,.pointer none] 188)) (by simp) (by simp)
 have hp:=Ahg (hw.only (M1 [] _) (by simp) (by simp)) i (by omega) (by omega)
 clear hw
 obtain⟨g,c,rfl,hc,hm,h0,h1⟩:=h.place hk
 have hlt:=World.block_lt_of_cell? _ _ h0
 obtain⟨_,_,h2,_⟩:=h.cells
 rw[Option.some.inj he]at h0 h1
 clear h he
 generalize (o+i) % P.length=k at hp hk h0 h1 hlt
 generalize P.length=n at hi hle ho hp hk h2 hc
 have hdr:=A3 w (.cells #[.int .i64 0,.pointer none] 188)
 have hki:(k:Int)<(n:Int):=by omega
 have n1:=World.new_ne w ⟨s,2,none⟩ h2
 have n2:=World.new_ne w ⟨g,k*2,none⟩ h0
 replace hp:=J0 hp
 go_enter func145,ntmps145
 go_wp2
 go_region_held3 (fun w'=>w'.cell? ⟨s,2,none⟩=some (.slice (some ⟨g,0,none⟩) n c)/\w'.cell? ⟨g,k*2,none⟩=some (.int .i64 e0.id)/\w'.cell? ⟨g,k*2+1,none⟩=some (.pointer (some ⟨e0.d,0,none⟩)))
  (first|exact⟨h2,h0,h1⟩|go_keep)
  (first
   |(go_at_call 208;(with_reducible refine hp.out.mono ?_);rintro e w1 ⟨rfl,q,rfl⟩))
 go_wp2
 exact bodyPost_ret (v:=.agg #[.int .i64 e0.id,.pointer (some ⟨e0.d,0,none⟩)]) (results_cell_row rfl _ _ w.heap.size 188 _ (0,0) _ rfl (Bce ((Block.made w _ _).only (A0.drewN [] _ _) (by simp)) _ _) underlying188 rfl Bpo) rfl ⟨rfl,((C7 hdr _).setCell (by simp) _).setCell (by simp) _⟩
end
theorem Biv{P:Program}{t e:TypeId}{z:Value}{size:Nat}(E:Abu P t e z size){w:World}{ops:Array Oper}{o:Oper}{a:Go.Act}{K:Go.Act->World->Prop}{Q:Exit->Go.Act->World->Prop}{F:Prop}(hw:Region.wanted o (yielded ops a.tmps)=true)(s x:Operand)
  (ho:o.op=.call { callee:=.builtin .append,args:=#[s,x],argTypes:=#[t,t] })
  (B:Nat) (v:Value) (n:Nat) (xs:List Value) (ad:Addr) (m c:Nat) (news:List Value) (hs:a.eval s=v) (hxe:a.eval x=.slice (some ad) m c)
  (h:w.ownsRow B e size v n xs) (hl:news.length=m*size) (Z0:∀j u,news[j]?=some u->w.cell? (ad.add j)=some u) (h1:∀u∈news,u.oneCell'=true) (hB:B<=w.heap.size) (hx:n+m<=100000)
  (hK:∀v' w',w'.ownsRow B e size v' (n+m) (xs++news)->A0 v.ownBlock.toList w w'->(v'.ownBlock=v.ownBlock\/v'.ownBlock=some w.heap.size)->K (a.put o.dst v') w') :
  if Region.wanted o (yielded ops a.tmps)=true then Oper.wp P o a w K Q else F:=by
 rw[if_pos hw]
 exact Bnl E s x ho B v n xs ad m c news hs hxe h hl Z0 h1 hB hx hK
theorem Bcx:Abu prog 132 188 (.agg #[.int .i64 0,.pointer none]) 2:=by
 have h:(prog.info? 188).map (fun i=>(i.zero,i.size,decide (i.bytes<=100)))=some (some (.agg #[.int .i64 0,.pointer none]),2,true):=by kernel_rfl
 refine⟨underlying132,?_,rfl,by omega⟩
 cases hq:prog.info? 188 with
 |none=>simp[hq]at h
 |some i =>
  simp only[hq,Option.map_some,Option.some.injEq,Prod.mk.injEq,decide_eq_true_eq]at h
  exact⟨i,rfl,h.1,h.2.1,h.2.2⟩
theorem Cmg{α:Type}(cur:List α)(o:Nat)(a b:α)(h:o+2<=cur.length):splice cur o [a,b]=(cur.set o a).set (o+1) b:=by
 unfold splice
 simp only[List.length_cons,List.length_nil]
 rw[List.set_eq_take_append_cons_drop,if_pos (by rw[List.length_set];omega),List.take_add_one,List.getElem?_set,if_pos rfl,if_pos (by omega),List.take_set_of_le (J5 _),List.drop_set_of_lt (by omega)]
 simp
theorem Cjz(P:List En)(o:Nat)(e0:En)(h:o<P.length):fl E5 (P.set o e0)=((fl E5 P).set (o*2) (.int .i64 e0.id)).set (o*2+1) (.pointer (some ⟨e0.d,0,none⟩)):=by
 have e1:=Ajb Abj P [e0] [] o (by simp;omega)
 rw[List.append_nil,List.append_nil,Acq,Aph _ _ _ h]at e1
 rw[<- e1]
 exact Cmg _ _ _ _ (by rw[Q4 Abj];omega)
section
variable {B:Nat}{w w':World}{s nx most o:Nat}{sv:Value}{P R:List En}
theorem Csx(h:SX0 B w s nx most sv o P)(m:Nat)(h0:0<m)(h1:m<=10000000000):SX0 B (w.setCell ⟨s,0,none⟩ (.int .i64 m)) s m most sv o P :=
 have ho:A0 [s] w (w.setCell ⟨s,0,none⟩ (.int .i64 m)):=A0.setCell w ⟨s,0,none⟩ _
 ⟨h.blk.set 0 _,Aen h.own ho (fun g hg=>V0 (M4 h.own g hg) (Block.typ h.blk) (by decide)),h.le,h.old,h.olt,h.most,h0,h1,h.lo⟩
theorem Bbd(h:SX0 B w s nx most sv o P)(hx:nx<10000000000):Calls prog 149 #[.pointer (some ⟨s,0,none⟩)] w fun e w'=>e=.returned (.int .i64 nx)/\SX0 B w' s (nx+1) most sv o P/\A0 [s] w w':=by
 obtain⟨h0,_,_,_⟩:=h.cells
 have hf:=h.blk.free 0
 have hn:=Csx h (nx+1) (by omega) (by omega)
 rw[Int.natCast_add,Int.natCast_one]at hn
 have A4:=J0 (And.intro hn (A0.setCell w ⟨s,0,none⟩ (.int .i64 ((nx:Int)+1))))
 clear h hn
 go_enter func149,ntmps149
 go_wp2
 go_ret
 exact⟨G6 (by omega),A4.out⟩
theorem Ccq(h:SX0 B w s nx most sv o P)(id:Int):Calls prog 302 #[.pointer (some ⟨s,0,none⟩),.int .i64 id] w fun e w'=>e=.returned (.bool (decide (1<=id/\id<nx)))/\w=w':=by
 obtain⟨h0,_,_,_⟩:=h.cells
 obtain⟨b,hb⟩:∃b,b=decide (1<=id/\id<nx):=⟨_,rfl⟩
 rw[<- hb]
 replace hb:=J0 hb
 clear h
 by_cases h1:1<=id
 ·go_enter func302,ntmps302
  go_wp2
  go_ret
  exact⟨G1 (by rw[hb.out,Bool.eq_iff_iff];simp;omega),rfl⟩
 ·have h2:decide (1<=id)=false:=decide_eq_false h1
  go_enter func302,ntmps302
  go_wp2
  go_ret
  exact⟨G1 (by rw[hb.out];symm;exact decide_eq_false (by omega)),rfl⟩
theorem Bzw(h:SX0 B w s nx most sv o P):Calls prog 80 #[.pointer (some ⟨s,1,none⟩)] w fun e w'=>(∃v,e=.returned v)/\SX0 B w' s nx most (.slice none 0 0) 0 []/\A0 [s] w w':=by
 obtain⟨_,_,h2,h3⟩:=h.cells
 have hf2:=h.blk.free 2
 have hf3:=h.blk.free 3
 have hb1:=(h.blk.set 2 (.slice none 0 0)).set 3 (.int .i64 0)
 have ho1:A0 [s] w ((w.setCell ⟨s,2,none⟩ (.slice none 0 0)).setCell ⟨s,3,none⟩ (.int .i64 0)):=(A0.setCell w ⟨s,2,none⟩ _).trans (A0.setCell _ ⟨s,3,none⟩ _)
 obtain⟨ao,c,rfl,_⟩:=h.len
 have A4:=J0 (And.intro (⟨hb1,World.ownsRow_nil _ _ _ _,by simp,fun _=>rfl,.inr rfl,h.most,h.pos,h.small,h.lo⟩:SX0 B _ s nx most (.slice none 0 0) 0 []) ho1)
 clear h hb1 ho1
 go_enter func80,ntmps80
 go_wp2
 go_end0
 exact⟨⟨_,rfl⟩,A4.out⟩
end
