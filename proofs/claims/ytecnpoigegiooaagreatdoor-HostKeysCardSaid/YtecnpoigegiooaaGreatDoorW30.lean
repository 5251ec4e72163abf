/- Part 30 of HostKeys. -/
import Derived.Test.YtecnpoigegiooaaGreatDoorW29
set_option maxHeartbeats 16000000
set_option maxRecDepth 100000
namespace Go.Proofs.YtecnpoigegiooaaGreatDoor.Emu
open Go.Proofs.Tryz
open Go RowKit Com Rw Lns Scn
theorem Chj{P:Program}{t e:TypeId}(E:Z4 P t e .u8 1)(w:World)(ty:TypeId)(B:Nat)(v:Value)(l m:List Int)(ao:Option Addr)(B' c:Nat)
  (h:Kys.Row w B e v l) (hm:A8 w B' .u8 ao m) (hB:B<=w.heap.size) (hn:l.length+m.length<=140737488355328) :
  ∃v' w',(Builtin.append_ #[t,t] ty #[v,.slice ao m.length c]).run P w=.ok v' w'/\Kys.Row w' B e v' (l++m)/\A0 v.ownBlock.toList w w'/\(v'.ownBlock=v.ownBlock\/v'.ownBlock=some w.heap.size):=by
 rcases h with⟨rfl,rfl⟩|⟨g,cap,cur,fz,rfl,hb,hg,hf,h1,h2,h3,h4⟩
 ·obtain⟨v',w',hr,h2,h3,hq⟩:=Bbw E w ty B (.slice none 0 0) [] m ao B' c (Own.nil w B e .u8) hm hB (by simpa using hn) (by simp[maxLen];simp at hn;omega)
  exact⟨v',w',hr,Kys.Row.own h2,h3,hq⟩
 ·obtain⟨i,hi,hz,hs,hby⟩:=E.info
  rcases ao with _|ad
  ·have hm0:m=[]:=by
    rcases m with _|⟨x,m⟩
    ·rfl
    ·obtain⟨ad,h',_⟩:=hm 0 x rfl
     cases h'
   subst hm0
   refine⟨_,w,?_,.inr ⟨g,cap,cur,fz,by rw[List.append_nil],hb,hg,hf,by simpa using h1,h2,h3,by simpa using h4⟩,A0.refl _ _,.inl rfl⟩
   simp[Builtin.append_,run_underlying E.slice,sizeOf,typeInfo,hi,Builtin.lenOf,Builtin.firstCells,h1,storeCells]
  ·have Z0:∀j u,(m.map (Value.int .u8))[j]?=some u->w.cell? (ad.add j)=some u:=fun j u hu=>by
    rw[List.getElem?_map]at hu
    rcases hx':m[j]? with _|x
    ·rw[hx']at hu;cases hu
    ·rw[hx']at hu
     obtain⟨ad',e',_,hc⟩:=hm j x hx'
     cases e'
     cases hu
     exact hc
   by_cases Acx:l.length+m.length<=cap
   ·have hfc:=run_firstCells_some (P:=P) w i.size m.length ad m.length c (m.map (Value.int .u8)) (by simp[hs]) Z0
    obtain⟨w',cur',hr,hg',hs',ht',ho'⟩:=Kys.Auo P e g fz (m.map (Value.int .u8)) w l.length 0 cur hg hf (by simp;omega) (fun u hu=>by
     obtain⟨x,_,rfl⟩:=List.mem_map.1 hu
     rfl)
    rw[hs]at hfc
    refine⟨.slice (some ⟨g,0,none⟩) (l.length+m.length) cap,w',?_,.inr ⟨g,cap,cur',fz,by rw[List.length_append],hb,hg',by rw[hs'];exact hf,by simpa using Acx,h2,hs'.trans h3,?_⟩,ho',.inl rfl⟩
    ·simp[Builtin.append_,run_underlying E.slice,sizeOf,typeInfo,hi,Builtin.lenOf,Acx,hfc,Addr.add_lit,hs,hr]
    ·have:=ht'
     simp only[Nat.add_zero,List.length_map]at this
     rw[List.length_append,this,h4,List.map_append]
   ·have holds:∀j u,(l.map (Value.int .u8))[j]?=some u->w.cell? ((⟨g,0,none⟩:Addr).add j)=some u:=fun j u hu=>by
     rw[List.getElem?_map]at hu
     rcases hx':l[j]? with _|x
     ·rw[hx']at hu;cases hu
     ·rw[hx']at hu
      cases hu
      rw[Addr.add_lit,Nat.zero_add]
      exact(show Kys.Row w B e (.slice (some ⟨g,0,none⟩) l.length cap) l from .inr ⟨g,cap,cur,fz,rfl,hb,hg,hf,h1,h2,h3,h4⟩).cells rfl hx'
    have hr:=run_append_grow (P:=P) w t ty e i (.int .u8 0) E.slice hi hz ⟨g,0,none⟩ l.length cap (l.map (Value.int .u8)) (by simp[hs]) holds ad m.length c (m.map (Value.int .u8)) (by simp[hs]) Z0 (by omega) (by omega) (by rw[hby];exact growslice_fits (by omega) (by omega))
    have hge:=grownCap_ge w (l.length+m.length) cap e
    have hcm:=grownCap_le_maxLen w (l.length+m.length) cap e (by unfold maxLen;omega)
    have hz1:(Value.int IntKind.u8 0).cells.size=1:=rfl
    refine⟨_,_,hr,.inr ⟨w.heap.size,_,_,(0,0),by rw[List.length_append],hB,heap_alloc_new w.drew _,by simp,by simpa using hge,hcm,?_,?_⟩,⟨rfl,rfl,rfl,by simp,fun k hk _=>Below.heap_alloc _ _ _ (by simpa using hk)⟩,.inr rfl⟩
    ·simp only[Array.size_append,List.size_toArray,List.length_map,size_zeroCells,hz1]
     omega
    ·have e1:(l++m).length=(l.map (Value.int .u8)++m.map (Value.int .u8)).length:=by simp
     rw[e1,List.map_append]
     simp only[Array.toList_append]
     exact List.take_left
theorem Bfx{P:Program}{t e:TypeId}(E:Z4 P t e .u8 1){w:World}{ops:Array Oper}{rest:List Oper}{o:Oper}{a:Go.Act}{Q:Exit->Go.Act->World->Prop}(hgd:Region.wanted o (yielded ops a.tmps)=true)(s x:Operand)
  (ho:o.op=.call { callee:=.builtin .append,args:=#[s,x],argTypes:=#[t,t] })
  (B:Nat) (v:Value) (l m:List Int) (ao:Option Addr) (B' c:Nat) (hs:a.eval s=v) (hxe:a.eval x=.slice ao m.length c)
  (h:Kys.Row w B e v l) (hm:A8 w B' .u8 ao m) (hB:B<=w.heap.size) (hn:l.length+m.length<=140737488355328)
  (hK:∀v' w',Kys.Row w' B e v' (l++m)->A0 v.ownBlock.toList w w'->(v'.ownBlock=v.ownBlock\/v'.ownBlock=some w.heap.size)->wpList P ops Q rest (a.put o.dst v') w'):wpList P ops Q (o::rest) a w :=
 Afq hgd fun _ hK'=>by
  obtain⟨v',w',hr,h2,h3,h4⟩:=Chj E w o.type B v l m ao B' c h hm hB hn
  unfold Oper.wp execOp
  simp only[ho,resolve,invoke,builtin,Sem.run_bind,Sem.run_pure,Result.andThen_ok,List.map_toArray,List.map_cons,List.map_nil,hs,hxe,hr]
  exact hK' _ _ (hK v' w' h2 h3 h4)
section
variable {Z Z1:Zn}{w w':World}{t x s:Nat}{S:Scr}{T:Ter}{P:Pt}{v:Value}{l:List Int}
theorem TMx.Clv(h:TMx Z w t T P){w2:World}{rv:Value}(b:List Int)(C0:Kys.Row w2 0 5 rv (T.rp++b))(ho:A0 P.rv.ownBlock.toList w w2)(hat:rv.ownBlock=P.rv.ownBlock\/rv.ownBlock=some w.heap.size) :
  TMx Z (w2.setCell ⟨t,33,none⟩ rv) t (Agi T b) { P with rv:=rv }/\Scn.Fr Z TT w (w2.setCell ⟨t,33,none⟩ rv):=by
 have hj:=fun g hg=>R0 h.rp g hg
 have tt:=Block.typ h.blk
 have hO:A0 (t::P.rv.ownBlock.toList) w (w2.setCell ⟨t,33,none⟩ rv):=(ho.mono (by simp +contextual)).trans ((A0.setCell w2 ⟨t,33,none⟩ rv).mono (by simp))
 have hf:Scn.Fr Z [102,5] w (w2.setCell ⟨t,33,none⟩ rv):=Scn.Fr.I9 hO fun k hk _=>by
  rcases List.mem_cons.1 hk with rfl|hk
  ·exact⟨h.zt,_,by simp,tt⟩
  ·have hk':P.rv.ownBlock=some k:=by simpa using hk
   exact⟨h.zr k hk',_,by simp,hj k hk'⟩
 have E8:∀ {k:Nat} {ty:TypeId},Typ w k ty->ty∉[102,5]->(w2.setCell ⟨t,33,none⟩ rv).heap[k]?=w.heap[k]?:=fun hk hty=>hf.block _ (Aax hk) (.inr fun t' ht' hT=>hty (by rw[Typ.inj hk hT];exact ht'))
 have same:∀ {k:Nat} {ty:TypeId} {cs:Array Value},Block w k ty cs->ty∉[102,5]->Block (w2.setCell ⟨t,33,none⟩ rv) k ty cs:=fun hb hty=>(E8 (Block.typ hb) hty).trans hb
 have htj:t∉P.rv.ownBlock.toList:=fun hm=>absurd (Typ.inj tt (hj t (by simpa using hm))) (by decide)
 have hb2:Block w2 t 102 (S6 T P):=h.blk.only ho htj
 have hgt:∀g,rv.ownBlock=some g->g≠t:=fun g hg e=>absurd (Typ.inj (R0 C0 g hg) (e▸Block.typ hb2)) (by decide)
 refine⟨⟨hb2.set 33 rv,same h.main (by decide),fun o ho=>⟨same (h.aside o ho).1 (by decide),(h.aside o ho).2⟩,h.scr.fr hf (by unfold P0;decide),same h.V3 (by decide),V4 h.jr (fun g hg=>E8 (M4 h.jr g hg) (by decide)),?_,h.zt,h.zm,h.zb,h.zj,fun g hg=>?_,fun k hk=>h.up k (Nat.le_trans hf.size hk),h.low,h.tbl.fr hf h.low⟩,hf.mono (by simp[TT])⟩
 ·exact W8 C0 (fun g hg=>by
   show(w2.setCell ⟨t,33,none⟩ rv).heap[g]?=w2.heap[g]?
   exact Below.heap_setCell _ _ _ _ (hgt g hg))
 ·rcases hat with hat|hat
  ·exact h.zr g (hat▸hg)
  ·rw[hat]at hg
   cases hg
   exact h.up _ (J5 _)
theorem Bae(h:TM Z w t T)(hr:T.rp.length<=10000000000){b:List Int}(hbl:b.length<=10000000000){B:Nat}(hb:Kys.Row w B 5 v b):Calls prog 253 #[.pointer (some ⟨t,0,none⟩),v] w (A7 Z w t (Agi T b)):=by
 obtain⟨P,h⟩:=h
 obtain⟨ao,c,rfl,hnc,hcm,Acg⟩:=hb.shape
 have A6:=h.rp
 have c33:=h.c33
 have C3:=fun w2 rv=>h.Clv (w2:=w2) (rv:=rv) b
 have P6:=h.blk
 have htJ:t∉P.rv.ownBlock.toList:=fun hm=>absurd (Typ.inj (Block.typ h.blk) (R0 h.rp t (by simpa using hm))) (by decide)
 obtain⟨ar,cr,hrv,_⟩:=h.rp.shape
 have hlen:T.rp.length+b.length<=140737488355328:=by omega
 rw[hrv]at c33 A6 C3 htJ
 replace A6:=J0 A6
 replace Acg:=J0 Acg
 replace C3:=J0 C3
 replace P6:=J0 P6
 replace htJ:=J0 htJ
 replace hlen:=J0 hlen
 replace hrv:=J0 hrv
 clear h hb
 go_enter func253,ntmps253
 go_wp2_with (first
  |(with_reducible refine J6 10 ?_;go_must(refine Bfx Kys.Y7 rfl (.tmp 8) (.tmp 9) rfl 0 (.slice ar T.rp.length cr) T.rp b ao w.heap.size c rfl rfl A6.out Acg.out (Nat.zero_le _) hlen.out ?_);intro v2 w2 hr2 ho2 Aak;have hb2:=P6.out.only ho2 htJ.out;have k2':=hb2.cell 33 rfl;have f2:=hb2.free 33;have A4:=J0 (C3.out _ _ hr2 ho2 Aak);obtain⟨a2,c2,rfl,_⟩:=hr2.shape))
 have Anv:=A4.out
 rw[List.length_append]at Anv
 go_end0
 exact⟨⟨_,rfl⟩,Anv.1.tm,Anv.2⟩
theorem Ayz(h:TM Z w t T)(hr:T.rp.length<=10000000000)(hp:NA Z w v l):Calls prog 205 #[.pointer (some ⟨t,0,none⟩),v] w (A7 Z w t (device T l)):=by
 obtain⟨P,h⟩:=h
 have ha:=J0 (Afw hp)
 unfold device
 by_cases h0:atN l 0=0
 ·rw[if_pos h0]
  rw[h0]at ha
  have hd:=J0 (Kys.Ayz w h.tbl.kys)
  have hre:=J0 (fun w1 v1 B (hb:Below w.heap.size w w1) (hv:Kys.Row w1 B 5 v1 Kys.Alw)=>Bae (h.below hb).tm hr (b:=Kys.Alw) (by decide) hv)
  generalize Agi T Kys.Alw=T1 at hre |-
  clear h hp
  go_enter func205,ntmps205
  go_wp2_with (first
   |(go_at_call 241;(with_reducible refine(ha.out).mono ?_);rintro e w1 ⟨rfl,rfl⟩)
   |(go_at_call 256;(with_reducible refine hd.out.mono ?_);rintro e w1 ⟨v1,rfl,hv1,hb1⟩;replace hre:=J0 (hre.out _ _ _ hb1 hv1))
   |(go_at_call 253;(with_reducible refine(hre.out).mono ?_);rintro e w2 ⟨⟨v2,rfl⟩,h2,hf2⟩))
  go_end0
  exact⟨⟨_,rfl⟩,h2,(I8 hb1).trans hf2⟩
 ·rw[if_neg h0]
  have hd0:(atN l 0==0)=false:=by simpa using h0
  have he0:decide (atN l 0=0)=false:=decide_eq_false h0
  have A4:=h.tm
  generalize atN l 0=n at ha hd0 he0 h0
  clear h hp
  go_enter func205,ntmps205
  go_wp2_with (first
   |(go_at_call 241;(with_reducible refine(ha.out).mono ?_);rintro e w1 ⟨rfl,rfl⟩))
  go_end0
  exact⟨⟨_,rfl⟩,A4,Scn.Fr.refl _ _ _⟩
theorem Adm{a b c:World}(h:Below a.heap.size a b)(hq:∃q,c=b.drewN q):Below a.heap.size a c:=by
 obtain⟨q,rfl⟩:=hq
 exact C7 h q
theorem Bwn(ok:Ok T):0<=N4 T 1/\N4 T 1<=512:=by
 have h1:=ok.fit.bot
 have h2:=ok.fit.G8
 unfold N4
 split<;>omega
theorem Cdv(r c:Int)(hr:r<=1000)(hc:c<=1000):(Kys.Afg r c).length<=10000000000:=by
 have hm:∀x:Int,x<=1000->(Kys.dgF (Kys.mx x)).length<=20:=fun x hx=>by
  have h0:0<=Kys.mx x/\Kys.mx x<=1000:=by unfold Kys.mx;split<;>omega
  generalize Kys.mx x=y at h0 |-
  obtain⟨n,rfl⟩:∃n:Nat,y=n:=⟨y.toNat,by omega⟩
  have:=Kys.Ajp (u:=n) (by omega)
  omega
 have h1:=hm r hr
 have h2:=hm c hc
 unfold Kys.Afg Kys.P2 Kys.S8
 simp only[Kys.Aby,List.length_append,List.length_cons,List.length_nil]
 omega
theorem Byi(h:TM Z w t T)(ok:Ok T)(hr:T.rp.length<=10000000000)(hp:NA Z w v l):Calls prog 204 #[.pointer (some ⟨t,0,none⟩),v] w (A7 Z w t (report T l)):=by
 obtain⟨P,h⟩:=h
 have ha:=J0 (Afw hp)
 unfold report
 by_cases h5:atN l 0=5
 ·rw[if_pos h5]
  rw[h5]at ha
  have hd:=J0 (Kys.Byq w h.tbl.kys)
  have hre:=J0 (fun w1 v1 B (hb:Below w.heap.size w w1) (hv:Kys.Row w1 B 5 v1 Kys.Amg)=>Bae (h.below hb).tm hr (b:=Kys.Amg) (by decide) hv)
  generalize Agi T Kys.Amg=T1 at hre |-
  clear h hp ok
  go_enter func204,ntmps204
  go_wp2_with (first
   |(go_at_call 241;(with_reducible refine(ha.out).mono ?_);rintro e w1 ⟨rfl,rfl⟩)
   |(go_at_call 254;(with_reducible refine hd.out.mono ?_);rintro e w1 ⟨v1,rfl,hv1,hb1⟩;replace hre:=J0 (hre.out _ _ _ hb1 hv1))
   |(go_at_call 253;(with_reducible refine(hre.out).mono ?_);rintro e w2 ⟨⟨v2,rfl⟩,h2,hf2⟩))
  go_end0
  exact⟨⟨_,rfl⟩,h2,(I8 hb1).trans hf2⟩
 ·rw[if_neg h5]
  have hd5:(atN l 0==5)=false:=by simpa using h5
  have he5:decide (atN l 0=5)=false:=decide_eq_false h5
  by_cases h6:atN l 0=6
  ·rw[if_pos h6]
   rw[h6]at ha
   have hci:=Bwn ok
   have A6:T.c.row<512:=by have:=ok.row;have:=ok.fit.G8;omega
   have F5:T.c.col<512:=by have:=ok.col;have:=ok.fit.c5;omega
   have c8:=h.c8
   have c9:=h.c9
   have hS:=fun w1 (hb:Below w.heap.size w w1)=>And.intro (h.below hb).c8 (h.below hb).c9
   have hct:=J0 (fun w1 (hb:Below w.heap.size w w1)=>Atk (h.below hb) ok 1 (by omega))
   have hcu:=J0 (fun w1 (hb:Below w.heap.size w w1)=>Kys.Bwp ((T.c.row:Int)-N4 T 1+1) ((T.c.col:Int)+1) (by omega) (by omega) w1 (h.below hb).tbl.kys)
   have hre:=J0 (fun w1 v1 B (hb:Below w.heap.size w w1) (hv:Kys.Row w1 B 5 v1 (Kys.Afg ((T.c.row:Int)-N4 T 1+1) ((T.c.col:Int)+1)))=>Bae (h.below hb).tm hr (b:=Kys.Afg ((T.c.row:Int)-N4 T 1+1) ((T.c.col:Int)+1)) (Cdv _ _ (by omega) (by omega)) hv)
   have hw1:IntKind.i64.wrap ((T.c.row:Int)-N4 T 1)=(T.c.row:Int)-N4 T 1:=IntWalk.i64_in _ (by omega)
   have hw2:IntKind.i64.wrap ((T.c.row:Int)-N4 T 1+1)=(T.c.row:Int)-N4 T 1+1:=IntWalk.i64_in _ (by omega)
   have hw3:IntKind.i64.wrap ((T.c.col:Int)+1)=(T.c.col:Int)+1:=IntWalk.i64_in _ (by omega)
   have hTz:Hid (∀w1,TM Z w1 t (Agi T (Kys.Afg ((T.c.row:Int)-N4 T 1+1) ((T.c.col:Int)+1)))->w1.cell? ⟨t,8,none⟩=some (.int .i64 T.c.row)/\w1.cell? ⟨t,9,none⟩=some (.int .i64 T.c.col)):=J0 (fun w1 ⟨P1,h1⟩=>⟨h1.c8,h1.c9⟩)
   generalize Agi T (Kys.Afg ((T.c.row:Int)-N4 T 1+1) ((T.c.col:Int)+1))=T1 at hre hTz |-
   generalize N4 T 1=n at hct hcu hre hw1 hw2 hci
   generalize T.c.row=row at c8 hS hcu hre hTz hw1 hw2 A6
   generalize T.c.col=col at c9 hS hcu hre hTz hw3 F5
   clear h hp ok
   go_enter func204,ntmps204
   go_wp2_with (first
    |(go_at_call 241;(with_reducible refine(ha.out).mono ?_);rintro e w1 ⟨rfl,rfl⟩))
   have hd0:Below w.heap.size w w.drew:=C7 (Below.refl _ _) 1
   have s1:=hS _ hd0
   replace hS:=J0 hS
   go_region_held3 (fun w'=>w'.cell? ⟨t,8,none⟩=some (.int .i64 row)/\w'.cell? ⟨t,9,none⟩=some (.int .i64 col))
    (first|exact s1|exact hS.out _ hb1|exact hS.out _ hb2|exact hz)
    (first
     |(go_at_call 239;(with_reducible refine(hct.out _ hd0).mono ?_);rintro e w1 ⟨rfl,hq⟩;have hb1:=Adm hd0 hq)
     |(go_at_call 255;(with_reducible refine(hcu.out _ hb1).mono ?_);rintro e w2 ⟨v2,rfl,hv2,hbb⟩;have hb2:=A2 hb1 hbb;replace hre:=J0 (hre.out _ _ _ hb2 hv2))
     |(go_at_call 253;(with_reducible refine hre.out.mono ?_);rintro e w3 ⟨⟨v3,rfl⟩,h3,hf3⟩;have hz:=hTz.out _ h3))
   go_end0
   exact⟨⟨_,rfl⟩,h3,(I8 hb2).trans hf3⟩
  ·rw[if_neg h6]
   have hd6:(atN l 0==6)=false:=by simpa using h6
   have he6:decide (atN l 0=6)=false:=decide_eq_false h6
   have A4:=h.tm
   generalize atN l 0=n at ha hd5 he5 hd6 he6 h5 h6
   clear h hp ok
   go_enter func204,ntmps204
   go_wp2_with (first
    |(go_at_call 241;(with_reducible refine(ha.out).mono ?_);rintro e w1 ⟨rfl,rfl⟩))
   go_end0
   exact⟨⟨_,rfl⟩,A4,Scn.Fr.refl _ _ _⟩
end
section
variable {Z Z1:Zn}{w w':World}{t x s:Nat}{S:Scr}{T:Ter}{P:Pt}{v:Value}{l:List Int}
theorem Ayf(h:TMx Z w t T P)(ok:Ok T)(hj:T.jr.length<=90000000)(hp:NA Z w v l)(f u:Int)
  (hpa:∀k:Eqt.Ext w,Calls prog 243 #[.pointer (some ⟨t,0,none⟩),.int .i64 (atN l 0)] k.w (Aik (.tuple #[.int .i64 f,.int .i64 u,.bool true]) k.w)) :
  Calls prog 191 #[.pointer (some ⟨t,0,none⟩),v] w (A7 Z w t (Akz T f u)):=by
 obtain⟨Z1,hf⟩:=h.focus
 obtain⟨d,hd⟩:=Adr hf.sc ok.row
 have ha:=J0 (Afw hp)
 have hpa':=hpa ⟨w,Below.refl _ _⟩
 change Calls prog 243 #[.pointer (some ⟨t,0,none⟩),.int .i64 (atN l 0)] w (Aik (.tuple #[.int .i64 f,.int .i64 u,.bool true]) w)at hpa'
 replace hpa':=J0 hpa'
 have ce:=J0 (fun w1 (hb:Below w.heap.size w w1) (k:Eqt.Ext w1)=>And.intro ((h.below hb).below k.below).c11 (And.intro ((h.below hb).below k.below).c12 ((h.below hb).below k.below).c13))
 have hl:=J0 (fun w1 (hb:Below w.heap.size w w1) (k:Eqt.Ext w1)=>Acm ((h.below hb).below k.below) ok (O0 (O0 hd hb) k.below))
 have he:=J0 (fun w1 (hb:Below w.heap.size w w1)=>Azt (O0 hd hb) f u T.p.a)
 have hbk:Hid (∀w1 w2 (hb:Below w.heap.size w w1) (h2:G3 Z1 w2 (P.x T.other) P.s (Aa2 T.vis T.c.row (M0 (C8 T.vis T.c.row) f u T.p.a)) T.c.row d) (hf2:Scn.Fr Z1 PT w1 w2),TMx Z w2 t (C1 T (M0 (line T) f u T.p.a)) P/\Scn.Fr Z TT w w2):=J0 (fun w1 w2 hb h2 hf2=>hf.back w2 _ (Ajk h2) rfl rfl ((Scn.Fr.A1 hb).trans hf2))
 have ht:=J0 (fun w2 (h2:TM Z w2 t (C1 T (M0 (line T) f u T.p.a)))=>Agw h2 (ok.C1 (Apo _ _ _ _)) (by rw[show(C1 T (M0 (line T) f u T.p.a)).jr=T.jr from V7 _ _];exact hj))
 unfold Akz
 generalize C1 T (M0 (line T) f u T.p.a)=T1 at hbk ht |-
 generalize Aa2 T.vis T.c.row (M0 (C8 T.vis T.c.row) f u T.p.a)=S1 at he hbk
 generalize atN l 0=n at ha hpa'
 generalize T.p.a=a at he ce
 obtain⟨af,ab,ag⟩:=a
 simp only at he ce
 clear h hf ok hd hj hp hpa
 go_enter func191,ntmps191
 go_wp2_with (first
  |(go_at_call 241;(with_reducible refine(ha.out).mono ?_);rintro e w1 ⟨rfl,rfl⟩)
  |(go_at_call 243;(with_reducible refine(hpa'.out).mono ?_);rintro e w1 ⟨rfl,hq⟩))
 have hb1:=Adm (Below.refl w.heap.size w) hq
 have c11:=fun k=>(ce.out _ hb1 k).1
 have c12:=fun k=>(ce.out _ hb1 k).2.1
 have c13:=fun k=>(ce.out _ hb1 k).2.2
 have hl1:=J0 (hl.out _ hb1)
 clear hq ha hpa' hl ce
 refine Eqt.H4 9 (by kernel_rfl) (by kernel_rfl) ?_
 simp only[List.take_succ_cons,List.take_zero,List.drop_succ_cons,List.drop_zero]
 repeat (go_big_quiet_step (first
  |(go_at_call 160;exact Eqt.Akp (hl1.out _))))
 refine wpQuiet_nil ?_
 intro w9 hw9
 obtain⟨k9,rfl⟩:=hw9
 have hb9:=k9.below
 generalize k9.w=w9 at hb9 |-
 go_wp2_with (first
  |(go_at_call 148;(with_reducible refine(he.out _ (A2 hb1 hb9)).mono ?_);rintro e w2 ⟨rfl,h2,hf2⟩))
 obtain⟨h3,hf3⟩:=hbk.out _ _ (A2 hb1 hb9) h2 hf2
 go_wp2_with (first
  |(go_at_call 175;(with_reducible refine(ht.out _ h3.tm).mono ?_);rintro e w4 ⟨⟨v4,rfl⟩,h4,hf4⟩))
 go_end0
 exact⟨⟨_,rfl⟩,h4,hf3.trans hf4⟩
theorem Ami(h:TM Z w t T)(ok:Ok T)(hj:T.jr.length<=90000000)(hp:NA Z w v l):Calls prog 191 #[.pointer (some ⟨t,0,none⟩),v] w (A7 Z w t (Ado T (atN l 0))):=by
 obtain⟨P,h⟩:=h
 have hpa:=fun k:Eqt.Ext w=>Baz (h.below k.below) ok (atN l 0)
 unfold Ado
 by_cases h0:atN l 0=0
 ·simp only[h0,if_true]at hpa |-
  exact Ayf h ok hj hp _ _ (by rw[h0];exact hpa)
 ·by_cases h1:atN l 0=1
  ·simp only[h1,if_true,if_neg (show ¬(1:Int)=0 by decide)]at hpa |-
   exact Ayf h ok hj hp _ _ (by rw[h1];exact hpa)
  ·by_cases h2:atN l 0=2
   ·simp only[h2,if_true,if_neg (show ¬(2:Int)=0 by decide),if_neg (show ¬(2:Int)=1 by decide)]at hpa |-
    exact Ayf h ok hj hp _ _ (by rw[h2];exact hpa)
   ·simp only[if_neg h0,if_neg h1,if_neg h2]at hpa |-
    have ha:=J0 (Afw hp)
    have hpa':=hpa ⟨w,Below.refl _ _⟩
    change Calls prog 243 #[.pointer (some ⟨t,0,none⟩),.int .i64 (atN l 0)] w (Aik (.tuple #[.int .i64 0,.int .i64 0,.bool false]) w)at hpa'
    replace hpa':=J0 hpa'
    have A4:=J0 (fun w1 (hb:Below w.heap.size w w1)=>(h.below hb).tm)
    generalize atN l 0=n at ha hpa' h0 h1 h2
    clear h ok hj hp hpa h0 h1 h2
    go_enter func191,ntmps191
    go_wp2_with (first
     |(go_at_call 241;(with_reducible refine(ha.out).mono ?_);rintro e w1 ⟨rfl,rfl⟩)
     |(go_at_call 243;(with_reducible refine(hpa'.out).mono ?_);rintro e w1 ⟨rfl,hq⟩))
    have hb1:=Adm (Below.refl w.heap.size w) hq
    go_end0
    exact⟨⟨_,rfl⟩,A4.out _ hb1,I8 hb1⟩
theorem Bjl(h:TM Z w t T)(ok:Ok T)(hj:T.jr.length<=90000000):Calls prog 248 #[.pointer (some ⟨t,0,none⟩)] w (A7 Z w t (home T)):=by
 obtain⟨P,h⟩:=h
 have hc:=J0 (Atk h ok 1 (by omega))
 have hm:=J0 (fun w1 (hb:Below w.heap.size w w1)=>V5 (h.below hb).tm ok hj (N4 T 1) 0)
 unfold home
 generalize move T (N4 T 1) 0=T1 at hm |-
 generalize N4 T 1=n at hc hm
 clear h ok hj
 go_enter func248,ntmps248
 go_wp2_with (first
  |(go_at_call 239;(with_reducible refine hc.out.mono ?_);rintro e w1 ⟨rfl,hq⟩;have hb1:=Adm (Below.refl w.heap.size w) hq)
  |(go_at_call 172;(with_reducible refine(hm.out _ hb1).mono ?_);rintro e w4 ⟨⟨v4,rfl⟩,h4,hf4⟩))
 go_end0
 exact⟨⟨_,rfl⟩,h4,(I8 hb1).trans hf4⟩
theorem Bsk(h:TM Z w t T)(ok:Ok T)(hp:NA Z w v l):Calls prog 200 #[.pointer (some ⟨t,0,none⟩),v] w (A7 Z w t (Amv T l)):=by
 obtain⟨P,h⟩:=h
 have ha:=J0 (Afw hp)
 have hn1:1<=T.tn:=by have:=ok.tn;have:=ok.fit.c1;omega
 have hn5:T.tn<=512:=by have:=ok.tn;have:=ok.fit.c5;omega
 have A4:=h.tm
 unfold Amv
 by_cases h0:atN l 0=0
 ·rw[if_pos h0]
  rw[h0]at ha
  have c9:=fun k:Eqt.Ext w=>(h.below k.below).c9
  have c20:=fun k:Eqt.Ext w=>(h.below k.below).c20
  have hs:=J0 (fun w1 (hb:Below w.heap.size w w1)=>Tbs.Cny (h.below hb).V3 hn5 T.c.col (by have:=ok.tn;have:=ok.col;omega))
  have hr:=J0 (fun w1 w2 (hb:Below w.heap.size w w1)=>(h.below hb).Bcr (w':=w2) (n:=T.tn) (f:=Tbs.G5 T.tf T.c.col false))
  generalize T.c.col=col at c9 hs hr |-
  clear h ok hp A4
  go_enter func200,ntmps200
  go_wp2_with (first
   |(go_at_call 241;(with_reducible refine(ha.out).mono ?_);rintro e w1 ⟨rfl,rfl⟩))
  refine Eqt.H4 9 (by kernel_rfl) (by kernel_rfl) ?_
  simp only[List.take_succ_cons,List.take_zero,List.drop_succ_cons,List.drop_zero]
  repeat(go_big_quiet_step(fail))
  refine wpQuiet_nil ?_
  intro w9 hw9
  obtain⟨k9,rfl⟩:=hw9
  have hb9:=k9.below
  generalize k9.w=w9 at hb9 |-
  go_wp2_with (first
   |(go_at_call 249;(with_reducible refine(hs.out _ hb9).mono ?_);rintro e w5 ⟨rfl,ht5,ho5⟩))
  obtain⟨h6,hf6⟩:=hr.out _ _ hb9 ho5 ht5
  go_end0
  exact⟨⟨_,rfl⟩,h6.tm,(I8 hb9).trans hf6⟩
 ·rw[if_neg h0]
  have hd0:(atN l 0==0)=false:=by simpa using h0
  have he0:decide (atN l 0=0)=false:=decide_eq_false h0
  by_cases h3:atN l 0=3
  ·rw[if_pos h3]
   rw[h3]at ha
   have c20:=h.c20
   have hs:=J0 (Tbs.Bsy h.V3 hn1)
   have hr:=J0 (fun w2=>h.Bcr (w':=w2) (n:=T.tn) (f:=fun _=>false))
   clear h ok hp A4
   go_enter func200,ntmps200
   go_wp2_with (first
    |(go_at_call 241;(with_reducible refine(ha.out).mono ?_);rintro e w1 ⟨rfl,rfl⟩)
    |(go_at_call 250;(with_reducible refine(hs.out).mono ?_);rintro e w5 ⟨rfl,ht5,ho5⟩))
   obtain⟨h6,hf6⟩:=hr.out _ ho5 ht5
   go_end0
   exact⟨⟨_,rfl⟩,h6.tm,hf6⟩
  ·rw[if_neg h3]
   have hd3:(atN l 0==3)=false:=by simpa using h3
   have he3:decide (atN l 0=3)=false:=decide_eq_false h3
   generalize atN l 0=n at ha hd0 he0 hd3 he3 h0 h3
   clear h ok hp
   go_enter func200,ntmps200
   go_wp2_with (first
    |(go_at_call 241;(with_reducible refine(ha.out).mono ?_);rintro e w1 ⟨rfl,rfl⟩))
   go_end0
   exact⟨⟨_,rfl⟩,A4,Scn.Fr.refl _ _ _⟩
theorem Cru(x y z:Value):(prog.info? 51).map (·.size)=some (#[x,y,z]:Array Value).size:=Sgr.Aof
theorem Ciy(f b g:Int):(#[.int .u32 f,.int .u32 b,.int .u16 g]:Array Value).all (·.oneCell')=true:=by simp[Value.oneCell']
theorem Cih(T:Ter)(P:Pt)(i n:Nat)(hi:i+n<=34)(vs:Array Value)(hv:vs.size=n):i+vs.size<=(S6 T P).size:=by rw[hv];exact hi
theorem TMx.Cva(h:TMx Z w t T P)(f b g:Int)(hb:Block w' t 102 ((S6 T P).toList.take 11++((#[.int .u32 f,.int .u32 b,.int .u16 g]:Array Value).toList++(S6 T P).toList.drop (11+3))).toArray)(ho:A0 [t] w w'):TMx Z w' t { T with p:={ T.p with a:=⟨f,b,g⟩ } } P/\Scn.Fr Z TT w w' :=
 h.G9 (m:=T.m) (c:=T.c) (p:={ T.p with a:=⟨f,b,g⟩ }) (n:=T.C5) (e:=T.last) ho hb
theorem Baw(h:TM Z w t T)(hp:NA Z w v l):Calls prog 201 #[.pointer (some ⟨t,0,none⟩),v] w (A7 Z w t (look T l)):=by
 obtain⟨P,h⟩:=h
 obtain⟨ao,cp,rfl,hl,hm,hfi,hn⟩:=hp
 have c11:=h.c11
 have c12:=h.c12
 have c13:=h.c13
 have hap:=J0 (Sgr.Bzh (toS T.p.a) l hfi ao cp hl hm w h.tbl.sgr hn.Ayd)
 have hr:=J0 (fun w1 (hb:Below w.heap.size w w1)=>And.intro (And.intro (h.below hb).c11 (And.intro (h.below hb).c12 (h.below hb).c13)) (And.intro (h.below hb).blk (fun w2=>(h.below hb).Cva (w':=w2) (ofS (Sgr.Acp (toS T.p.a) l)).f (ofS (Sgr.Acp (toS T.p.a) l)).b (ofS (Sgr.Acp (toS T.p.a) l)).g)))
 unfold look
 change Hid (Calls prog 251 #[.agg #[.int .u32 T.p.a.f,.int .u32 T.p.a.b,.int .u16 T.p.a.g],.slice ao l.length cp] w fun e w'=>e=.returned (.agg #[.int .u32 (ofS (Sgr.Acp (toS T.p.a) l)).f,.int .u32 (ofS (Sgr.Acp (toS T.p.a) l)).b,.int .u16 (ofS (Sgr.Acp (toS T.p.a) l)).g])/\Below w.heap.size w w')at hap
 generalize ofS (Sgr.Acp (toS T.p.a) l)=a1 at hr hap |-
 generalize T.p.a=a0 at c11 c12 c13 hap
 generalize l.length=n at hap hl hm |-
 obtain⟨f1,b1,g1⟩:=a1
 obtain⟨f0,b0,g0⟩:=a0
 simp only at c11 c12 c13 hap hr
 clear h hfi hn hl hm
 go_enter func201,ntmps201
 go_wp2_with (first
  |(go_at_call 251;(with_reducible refine(hap.out).mono ?_);rintro e w1 ⟨rfl,hb1⟩)
  |(with_reducible refine J8 14 ?_;go_must(refine Akm rfl 51 (.tmp 14) (.tmp 11) rfl (g:=t) (i:=11) (hr.out _ hb1).2.1 #[.int .u32 f1,.int .u32 b1,.int .u16 g1] rfl rfl (Cih T P 11 3 (by decide) _ rfl) (Cru _ _ _) (Ciy _ _ _) ?_);intro w2 hb2 ho2))
 obtain⟨h2,hf2⟩:=(hr.out _ hb1).2.2 _ hb2 ho2
 go_end0
 exact⟨⟨_,rfl⟩,h2.tm,(I8 hb1).trans hf2⟩
end
section
variable {Z Z1:Zn}{w w':World}{t x s:Nat}{S:Scr}{T:Ter}{P:Pt}{v:Value}{l:List Int}
theorem Cek{S:Scr}(h:Fit S){a b:Nat}(hb:b<S.L.length)(ha:a<=b):Fit { S with top:=a,bot:=b }:=⟨h.len,h.G8,hb,ha,h.c1,h.c5,h.wid,h.ids,h.pos⟩
theorem Ok.Brq(h:Ok T){a b:Nat}(hb:b<T.vis.L.length)(ha:a<=b):Ok (T.C2 { T.vis with top:=a,bot:=b }):=h.C2 rfl rfl (Cek h.fit hb ha) rfl rfl (J5 _)
theorem Cpy(h:TMx Z w t T P)(ok:Ok T)(hj:T.jr.length<=90000000)(hp:NA Z w v l)(q:Int)(hq:(atN l 1-1<0/\q=(T.vis.L.length:Int)-1)\/(¬atN l 1-1<0/\(T.vis.L.length:Int)<=atN l 1-1/\q=(T.vis.L.length:Int)-1)\/(¬atN l 1-1<0/\¬(T.vis.L.length:Int)<=atN l 1-1/\q=atN l 1-1))(hlt:A5 l 0-1<q):Calls prog 199 #[.pointer (some ⟨t,0,none⟩),v] w (A7 Z w t (home (T.C2 { T.vis with top:=(A5 l 0-1).toNat,bot:=q.toNat }))):=by
 obtain⟨Z1,hf⟩:=h.focus
 have hn:=Ajd l 0
 have ha:=Awr l 1
 have hlen:=ok.fit.len
 have hl5:=ok.fit.G8
 have s0:=h.s0
 have hsh:=J0 (I7 h)
 have hc:=J0 (Aek hp)
 have hc1:=J0 (Bkx hp)
 have hro:=J0 (Adx hf.sc ok.fit.len)
 have hok:Ali T.vis ((A5 l 0-1).toNat:Int) (q.toNat:Int):=.inr ⟨by omega,by omega,by omega⟩
 have he:=Chu hf.sc ok.fit (A5 l 0-1).toNat q.toNat hok
 rw[Int.toNat_of_nonneg (show 0<=A5 l 0-1 by omega),Int.toNat_of_nonneg (show 0<=q by omega)]at he
 replace he:=J0 he
 have hbk:=J0 (fun w2 (h2:SC Z1 w2 (P.x T.other) P.s { T.vis with top:=(A5 l 0-1).toNat,bot:=q.toNat }) (hf2:Scn.Fr Z1 PT w w2)=>hf.back w2 _ h2 rfl rfl hf2)
 have hho:=J0 (fun w2 (h2:TM Z w2 t (T.C2 { T.vis with top:=(A5 l 0-1).toNat,bot:=q.toNat }))=>Bjl h2 (ok.Brq (by omega) (by omega)) (by rw[V7];exact hj))
 generalize T.C2 { T.vis with top:=(A5 l 0-1).toNat,bot:=q.toNat }=T1 at hbk hho |-
 generalize ({ T.vis with top:=(A5 l 0-1).toNat,bot:=q.toNat }:Scr)=S1 at he hbk
 generalize T.vis.L.length=rows at *
 generalize P.h T.other=hh at s0 hsh
 generalize P.x T.other=xx at s0 he hbk hro
 generalize A5 l 0=n at *
 generalize atN l 1=b at *
 have hw:IntKind.i64.wrap (n-1)=n-1:=IntWalk.i64_in _ (by omega)
 have hw1:IntKind.i64.wrap (b-1)=b-1:=IntWalk.i64_in _ (by omega)
 have hw2:IntKind.i64.wrap ((rows:Int)-1)=(rows:Int)-1:=IntWalk.i64_in _ (by omega)
 have hd9:decide (n-1<q)=true:=decide_eq_true hlt
 clear h ok hj hp hf hok
 rcases hq with⟨h0,hq⟩|⟨h0,h1,hq⟩|⟨h0,h1,hq⟩
 case' inl=>have hd8:decide (b-1<0)=true:=decide_eq_true h0
 case' inr.inl =>
  have hd8:decide (b-1<0)=false:=decide_eq_false h0
  have hd7:decide ((rows:Int)<=b-1)=true:=decide_eq_true h1
 case' inr.inr =>
  have hd8:decide (b-1<0)=false:=decide_eq_false h0
  have hd7:decide ((rows:Int)<=b-1)=false:=decide_eq_false h1
 all_goals
  subst hq
  go_enter func199,ntmps199
  go_wp2_with (first
   |(go_at_call 68;(with_reducible refine(hsh.out).mono ?_);rintro e w1 ⟨rfl,rfl⟩)
   |(go_at_call 237;(with_reducible refine(hc.out).mono ?_);rintro e w1 ⟨rfl,rfl⟩)
   |(go_at_call 241;(with_reducible refine(hc1.out).mono ?_);rintro e w1 ⟨rfl,rfl⟩)
   |(go_at_call 70;(with_reducible refine(hro.out).mono ?_);rintro e w1 ⟨rfl,rfl⟩)
   |(go_at_call 247;(with_reducible refine(he.out).mono ?_);rintro e w2 ⟨rfl,h2,hf2⟩))
  obtain⟨h3,hf3⟩:=hbk.out _ h2 hf2
  go_wp2_with (first
   |(go_at_call 248;(with_reducible refine(hho.out _ h3.tm).mono ?_);rintro e w4 ⟨⟨v4,rfl⟩,h4,hf4⟩))
  go_end0
  exact⟨⟨_,rfl⟩,h4,hf3.trans hf4⟩
theorem Cpx(h:TMx Z w t T P)(ok:Ok T)(hp:NA Z w v l)(q:Int)(hq:(atN l 1-1<0/\q=(T.vis.L.length:Int)-1)\/(¬atN l 1-1<0/\(T.vis.L.length:Int)<=atN l 1-1/\q=(T.vis.L.length:Int)-1)\/(¬atN l 1-1<0/\¬(T.vis.L.length:Int)<=atN l 1-1/\q=atN l 1-1))(hlt:¬A5 l 0-1<q):Calls prog 199 #[.pointer (some ⟨t,0,none⟩),v] w (A7 Z w t T):=by
 obtain⟨Z1,hf⟩:=h.focus
 have hn:=Ajd l 0
 have ha:=Awr l 1
 have hlen:=ok.fit.len
 have hl5:=ok.fit.G8
 have s0:=h.s0
 have hsh:=J0 (I7 h)
 have hc:=J0 (Aek hp)
 have hc1:=J0 (Bkx hp)
 have hro:=J0 (Adx hf.sc ok.fit.len)
 have A4:=h.tm
 generalize T.vis.L.length=rows at *
 generalize P.h T.other=hh at s0 hsh
 generalize P.x T.other=xx at s0 hro
 generalize A5 l 0=n at *
 generalize atN l 1=b at *
 have hw:IntKind.i64.wrap (n-1)=n-1:=IntWalk.i64_in _ (by omega)
 have hw1:IntKind.i64.wrap (b-1)=b-1:=IntWalk.i64_in _ (by omega)
 have hw2:IntKind.i64.wrap ((rows:Int)-1)=(rows:Int)-1:=IntWalk.i64_in _ (by omega)
 have hd9:decide (n-1<q)=false:=decide_eq_false hlt
 clear h ok hp hf
 rcases hq with⟨h0,hq⟩|⟨h0,h1,hq⟩|⟨h0,h1,hq⟩
 case' inl=>have hd8:decide (b-1<0)=true:=decide_eq_true h0
 case' inr.inl =>
  have hd8:decide (b-1<0)=false:=decide_eq_false h0
  have hd7:decide ((rows:Int)<=b-1)=true:=decide_eq_true h1
 case' inr.inr =>
  have hd8:decide (b-1<0)=false:=decide_eq_false h0
  have hd7:decide ((rows:Int)<=b-1)=false:=decide_eq_false h1
 all_goals
  subst hq
  go_enter func199,ntmps199
  go_wp2_with (first
   |(go_at_call 68;(with_reducible refine(hsh.out).mono ?_);rintro e w1 ⟨rfl,rfl⟩)
   |(go_at_call 237;(with_reducible refine(hc.out).mono ?_);rintro e w1 ⟨rfl,rfl⟩)
   |(go_at_call 241;(with_reducible refine(hc1.out).mono ?_);rintro e w1 ⟨rfl,rfl⟩)
   |(go_at_call 70;(with_reducible refine(hro.out).mono ?_);rintro e w1 ⟨rfl,rfl⟩))
  go_end0
  exact⟨⟨_,rfl⟩,A4,Scn.Fr.refl _ _ _⟩
theorem Bsj(h:TM Z w t T)(ok:Ok T)(hj:T.jr.length<=90000000)(hp:NA Z w v l):Calls prog 199 #[.pointer (some ⟨t,0,none⟩),v] w (A7 Z w t (Amu T l)):=by
 obtain⟨P,h⟩:=h
 have hlen:=ok.fit.len
 have hq:(atN l 1-1<0/\Agg T l=(T.vis.L.length:Int)-1)\/(¬atN l 1-1<0/\(T.vis.L.length:Int)<=atN l 1-1/\Agg T l=(T.vis.L.length:Int)-1)\/(¬atN l 1-1<0/\¬(T.vis.L.length:Int)<=atN l 1-1/\Agg T l=atN l 1-1):=by
  unfold Agg
  split<;>omega
 unfold Amu
 split
 ·exact Cpy h ok hj hp _ hq (by assumption)
 ·exact Cpx h ok hp _ hq (by assumption)
end
