/- Part 26 of HostKeys. -/
import Derived.Test.YtecnpoigegiooaaGreatDoorW25
set_option maxHeartbeats 16000000
set_option maxRecDepth 100000
namespace Go.Proofs.YtecnpoigegiooaaGreatDoor.Emu
open Go.Proofs.Tryz
open Go RowKit Com Rw Lns Scn
theorem Ccl{P:Program}{t e:TypeId}{z:Value}{size:Nat}(E:Abu P t e z size){w:World}{ops:Array Oper}{o:Oper}{a:Go.Act}{K:Go.Act->World->Prop}{Q:Exit->Go.Act->World->Prop}{F:Prop}(hw:Region.wanted o (yielded ops a.tmps)=true)(s x:Operand)
  (ho:o.op=.call { callee:=.builtin .append,args:=#[s,x],argTypes:=#[t,t] })
  (B:Nat) (v:Value) (n:Nat) (xs:List Value) (ad:Addr) (m c:Nat) (news:List Value) (hs:a.eval s=v) (hxe:a.eval x=.slice (some ad) m c)
  (h:w.ownsRow B e size v n xs) (hl:news.length=m*size) (Z0:∀j u,news[j]?=some u->w.cell? (ad.add j)=some u) (h1:∀u∈news,u.oneCell'=true) (hB:B<=w.heap.size) (hx:n+m<=100000000)
  (hK:∀v' w',w'.ownsRow B e size v' (n+m) (xs++news)->A0 v.ownBlock.toList w w'->(v'.ownBlock=v.ownBlock\/v'.ownBlock=some w.heap.size)->K (a.put o.dst v') w') :
  if Region.wanted o (yielded ops a.tmps)=true then Oper.wp P o a w K Q else F:=by
 rw[if_pos hw]
 obtain⟨i,hi,hz,hsz,hb⟩:=E.info
 have hby:(n+m)*i.bytes<=100000000*100:=Nat.mul_le_mul hx hb
 obtain⟨v',w',hr,h2,h3,_,h5⟩:=run_append_own_at (P:=P) w B t o.type e i z size i.bytes E.slice hi hz hsz rfl E.cells E.pos v n xs h ad m c news hl Z0 h1 (by unfold maxLen;omega) (by omega) hB
 unfold Oper.wp execOp
 simp only[ho,resolve,invoke,builtin,Sem.run_bind,Sem.run_pure,Result.andThen_ok,List.map_toArray,List.map_cons,List.map_nil,hs,hxe,hr]
 exact hK v' w' h2 (A0.grown h3) h5
theorem Aht(e:Ev):(prog.info? 73).map (·.size)=some (evA e).size:=by kernel_rfl
theorem Bnu(e:Ev):(evA e).all (·.oneCell')=true:=by simp[evA,Value.oneCell']
theorem Coh:Abu prog 35 73 (.agg #[.int .u8 0,.int .u64 0,.int .i64 0,.int .i64 0,.bool false,.int .i32 0,.bool false,.bool false,.bool false,.bool false]) 10:=by
 have h:(prog.info? 73).map (fun i=>(i.zero,i.size,decide (i.bytes<=100)))=some (some (.agg #[.int .u8 0,.int .u64 0,.int .i64 0,.int .i64 0,.bool false,.int .i32 0,.bool false,.bool false,.bool false,.bool false]),10,true):=by kernel_rfl
 refine⟨underlying35,?_,rfl,by omega⟩
 cases hq:prog.info? 73 with
 |none=>simp[hq]at h
 |some i =>
  simp only[hq,Option.map_some,Option.some.injEq,Prod.mk.injEq,decide_eq_true_eq]at h
  exact⟨i,rfl,h.1,h.2.1,h.2.2⟩
def EvB(w:World)(b:Nat)(e:Ev):Prop:=Block w b 73 (evA e)
section
variable {Z Z1:Zn}{w w':World}{t:Nat}{T:Ter}{P:Pt}{v:Value}{l:List Int}
theorem Awl{P:Program}{f:FuncId}{args:Array Value}{w:World}{n:Nat}{v:Value}(h:Calls P f args (w.drewN n) fun e w'=>e=.returned v/\w.drewN n=w'):Calls P f args (w.drewN n) fun e w''=>e=.returned v/\∃m,w''=w.drewN m :=
 h.mono fun _ _ ⟨he,hm⟩=>⟨he,n,hm.symm⟩
theorem Ajf(h:TMx Z w t T P)(ok:Ok T)(k:Int):Calls prog 163 #[.pointer (some ⟨t,0,none⟩),.int .u8 k] w fun e w'=>e=.returned (.agg (evA (here T k)))/\Below w.heap.size w w':=by
 have hbn:=A3 w (.cells #[.int .u8 0,.int .u64 0,.int .i64 0,.int .i64 0,.bool false,.int .i32 0,.bool false,.bool false,.bool false,.bool false] 73)
 have hbx:=Block.made w 73 #[.int .u8 0,.int .u64 0,.int .i64 0,.int .i64 0,.bool false,.int .i32 0,.bool false,.bool false,.bool false,.bool false]
 have h0:=h.below hbn
 have c8:=h0.c8
 have c9:=h0.c9
 have hs:=h0.s0
 have hsh:=J0 (fun m=>I7 (h0.drew m))
 obtain⟨Z1,hf⟩:=h0.focus
 have hid:=J0 (fun m=>Bpm (hf.sc.below (C7 (Below.refl _ _) m)) ok.fit.len T.c.row)
 unfold here
 generalize L6 T.vis.L T.c.row=y at hid |-
 generalize P.h T.other=hh at hs hsh
 generalize P.x T.other=xx at hs hid
 generalize T.c.row=row at c8 hid
 generalize T.c.col=col at c9 |-
 clear h h0 hf ok
 go_enter func163,ntmps163
 go_wp2
 generalize w.alloc (.cells #[.int .u8 0,.int .u64 0,.int .i64 0,.int .i64 0,.bool false,.int .i32 0,.bool false,.bool false,.bool false,.bool false] 73)=w0 at *
 refine Eqt.Bru 18 (by kernel_rfl) (by kernel_rfl) ?_
 simp only[List.take_succ_cons,List.take_zero,List.drop_succ_cons,List.drop_zero]
 repeat (go_big_quiet_step (first
  |(go_at_call 68;exact Awl (hsh.out _))
  |(go_at_call 73;exact Awl (hid.out _))))
 refine wpQuiet_nil ?_
 intro w9 hw9
 obtain⟨nq,rfl⟩:=hw9
 have hb9:=hbx.only (A0.drewN [] _ nq) (by simp)
 have hl9:=C7 hbn nq
 generalize w0.drewN nq=w9 at hb9 hl9 |-
 clear c8 c9 hs hsh hid hbx hbn
 go_wp2_with(with_reducible refine J8 4 ?_;go_must(refine L8 rfl _ (.tmp 4) (.tmp 22) rfl hb9 (evA ⟨k,0,y,col,false,0,false,false,false,false⟩) rfl rfl (Aht _) rfl (Bnu _) ?_);intro w8 hb8 ho8)
 exact bodyPost_ret (results_cell_row rfl _ _ _ _ _ _ _ rfl hb8 underlying73 rfl (Aht _)) rfl ⟨rfl,hl9.trans (ho8.below hl9.size (by simp))⟩
theorem EvB.cells{b:Nat}{e:Ev}(h:EvB w b e):w.cell? ⟨b,0,none⟩=some (.int .u8 e.k)/\w.cell? ⟨b,1,none⟩=some (.int .u64 e.ix)/\w.cell? ⟨b,2,none⟩=some (.int .i64 e.line)/\w.cell? ⟨b,3,none⟩=some (.int .i64 e.col)/\w.cell? ⟨b,4,none⟩=some (.bool e.wide) /\
  w.cell? ⟨b,5,none⟩=some (.int .i32 e.r)/\w.cell? ⟨b,6,none⟩=some (.bool e.bl)/\w.cell? ⟨b,7,none⟩=some (.bool e.la)/\w.cell? ⟨b,8,none⟩=some (.bool e.fr)/\w.cell? ⟨b,9,none⟩=some (.bool e.wr) :=
 ⟨Block.cell h 0 rfl,Block.cell h 1 rfl,Block.cell h 2 rfl,Block.cell h 3 rfl,Block.cell h 4 rfl,Block.cell h 5 rfl,Block.cell h 6 rfl,Block.cell h 7 rfl,Block.cell h 8 rfl,Block.cell h 9 rfl⟩
theorem TMx.told(h:TMx Z w t T P){wa w2:World}{jv:Value}(e:Ev)(hb:Below w.heap.size w wa)(C0:w2.ownsRow 0 73 10 jv (T.jr.length+1) (fl evL T.jr++evL e))(ho:A0 P.jv.ownBlock.toList wa w2)
  (hat:jv.ownBlock=P.jv.ownBlock\/jv.ownBlock=some wa.heap.size):TMx Z (w2.setCell ⟨t,32,none⟩ jv) t { T with jr:=T.jr++[e] } { P with jv:=jv }/\Scn.Fr Z TT w (w2.setCell ⟨t,32,none⟩ jv):=by
 have hj:=fun g hg=>M4 h.jr g hg
 have tt:=Block.typ h.blk
 have hO:A0 (t::P.jv.ownBlock.toList) w (w2.setCell ⟨t,32,none⟩ jv):=(((A0.A1 hb _).trans ho).mono (by simp +contextual)).trans ((A0.setCell w2 ⟨t,32,none⟩ jv).mono (by simp))
 have hf:Scn.Fr Z [102,73] w (w2.setCell ⟨t,32,none⟩ jv):=Scn.Fr.I9 hO fun k hk _=>by
  rcases List.mem_cons.1 hk with rfl|hk
  ·exact⟨h.zt,_,by simp,tt⟩
  ·have hk':P.jv.ownBlock=some k:=by simpa using hk
   exact⟨h.zj k hk',_,by simp,hj k hk'⟩
 have E8:∀ {k:Nat} {ty:TypeId},Typ w k ty->ty∉[102,73]->(w2.setCell ⟨t,32,none⟩ jv).heap[k]?=w.heap[k]?:=fun hk hty=>hf.block _ (Aax hk) (.inr fun t' ht' hT=>hty (by rw[Typ.inj hk hT];exact ht'))
 have same:∀ {k:Nat} {ty:TypeId} {cs:Array Value},Block w k ty cs->ty∉[102,73]->Block (w2.setCell ⟨t,32,none⟩ jv) k ty cs:=fun hb hty=>(E8 (Block.typ hb) hty).trans hb
 have htj:t∉P.jv.ownBlock.toList:=fun hm=>absurd (Typ.inj tt (hj t (by simpa using hm))) (by decide)
 have hb2:Block w2 t 102 (S6 T P):=(h.blk.only (A0.A1 hb []) (by simp)).only ho htj
 have hgt:∀g,jv.ownBlock=some g->g≠t:=fun g hg e=>absurd (Typ.inj (M4 C0 g hg) (e▸Block.typ hb2)) (by decide)
 refine⟨⟨hb2.set 32 jv,same h.main (by decide),fun o ho=>⟨same (h.aside o ho).1 (by decide),(h.aside o ho).2⟩,h.scr.fr hf (by unfold P0;decide),same h.V3 (by decide),?_,W8 h.rp (fun g hg=>E8 (R0 h.rp g hg) (by decide)),h.zt,h.zm,h.zb,fun g hg=>?_,h.zr,fun k hk=>h.up k (Nat.le_trans hf.size hk),h.low,h.tbl.fr hf h.low⟩,hf.mono (by simp[TT])⟩
 ·have e1:fl evL (T.jr++[e])=fl evL T.jr++evL e:=by rw[Z9,Acq]
  show World.ownsRow _ 0 _ 10 jv (T.jr++[e]).length (fl evL (T.jr++[e]))
  rw[e1,List.length_append,List.length_singleton]
  exact Aen C0 (A0.setCell w2 ⟨t,32,none⟩ jv) (fun g hg=>by simpa using hgt g hg)
 ·rcases hat with hat|hat
  ·exact h.zj g (hat▸hg)
  ·rw[hat]at hg
   cases hg
   exact h.up _ hb.size
theorem EvB.heap{b:Nat}{e:Ev}(h:EvB w b e):w.heap[b]?=some (.cells (evA e) 73 (0,0)):=h
theorem Aqb(h:TMx Z w t T P)(hj:T.jr.length<=90000000)(e:Ev):Calls prog 222 #[.pointer (some ⟨t,0,none⟩),.agg (evA e)] w fun r w'=>(∃v,r=.returned v)/\(∃jv,TMx Z w' t (tell T e) { P with jv:=jv })/\Scn.Fr Z TT w w':=by
 have hbn:=A3 w (.cells (evA e) 73)
 have hbx:EvB (w.alloc (.cells (evA e) 73)) w.heap.size e:=Block.made w 73 (evA e)
 have h0:=h.below hbn
 have Bei:=h.blk.lt
 obtain⟨bx,D2⟩:∃bx,bx=w.heap.size:=⟨_,rfl⟩
 have htb:bx∉[t]:=by simp;omega
 clear h
 go_enter func222,ntmps222
 go_wp2_with (first
  |(with_reducible refine J9 5 3 ?_;go_must(refine wpList_load_row rfl _ (.tmp 3) rfl w.heap.size rfl _ (evA e) (0,0) _ hbx.heap underlying73 rfl (Aht _) ?_))
  |(with_reducible refine J8 7 ?_;go_must(refine Akm rfl _ (.tmp 7) (.tmp 5) rfl h0.blk (evA e) rfl rfl (by simp[S6,evA]) (Aht _) (Bnu _) ?_);intro w1 hb1 ho1))
 rw[<- D2]
 obtain⟨h1,hf1⟩:=h0.G9 (m:=T.m) (c:=T.c) (p:=T.p) (n:=T.C5) (e:=e) ho1 hb1
 have hx1:EvB w1 bx e:=Block.only (show EvB _ bx e from D2▸hbx) ho1 htb
 have hfr:=(Scn.Fr.A1 (B:=Z) (ts:=TT) hbn).trans hf1
 clear h0 hb1 ho1 hf1 hbx hbn htb Bei
 replace hfr:=J0 hfr
 replace D2:=J0 D2
 have hd1:Below w1.heap.size w1 w1.drew:=C7 (Below.refl _ _) 1
 have hda:=hd1.alloc (J5 _) (.cells (evA e) 73)
 have h2:=h1.below hda
 have C0:=h2.jr
 have c32:=h1.c32
 obtain⟨x0,x1,x2,x3,x4,x5,x6,x7,x8,x9⟩:=hx1.cells
 have hln:∀j u,(evL e)[j]?=some u->(w1.drew.alloc (.cells (evA e) 73)).cell? ((⟨w1.heap.size,0,none⟩:Addr).add j)=some u:=fun j u hj=>by
  rw[Addr.add_lit,Nat.zero_add]
  exact(Block.made w1.drew 73 (evA e)).cell j (by simpa[evA,evL]using hj)
 have C3:=fun w2 jv=>h1.told (wa:=w1.drew.alloc (.cells (evA e) 73)) (w2:=w2) (jv:=jv) e hda
 have P6:=h2.blk
 have htJ:t∉P.jv.ownBlock.toList:=fun hm=>absurd (Typ.inj (Block.typ h2.blk) (M4 h2.jr t (by simpa using hm))) (by decide)
 obtain⟨ao,c,hjv,hnc,hcm⟩:=U0 h1.jr
 have ka:=(h1.below (A3 w1 (.cells (evA e) 73))).c32
 simp only at C0 C3 c32 ka hjv hnc htJ
 rw[hjv]at c32 ka C0 C3 htJ
 generalize hlen:T.jr.length=n at c32 ka C0 C3 hj hnc htJ
 replace hlen:=J0 hlen
 replace hjv:=J0 hjv
 replace C0:=J0 C0
 replace P6:=J0 P6
 replace C3:=J0 C3
 replace htJ:=J0 htJ
 replace hln:=J0 hln
 clear h1 h2 hx1 hd1 hda
 obtain⟨ek,eix,el,ec,ew,er,ebl,ela,efr,ewr⟩:=e
 simp only[evA]at ka C0 P6 hln C3
 simp only at x0 x1 x2 x3 x4 x5 x6 x7 x8 x9
 go_region_law (first
  |(refine Ccl Coh rfl (.tmp 12) (.tmp 14) rfl 0 (.slice ao n c) n (fl evL T.jr) ⟨w1.heap.size,0,none⟩ 1 1 (evL ⟨ek,eix,el,ec,ew,er,ebl,ela,efr,ewr⟩) rfl rfl C0.out rfl hln.out (Cjp _) (Nat.zero_le _) (by omega) ?_;intro sv2 w2 L4 ho2 Aak;have hb2:=P6.out.only ho2 htJ.out;have k2':=hb2.cell 32 rfl;have f2:=hb2.free 32;obtain⟨a2,c2,rfl,_⟩:=U0 L4))
 all_goals
  have A4:=J0 (C3.out _ _ L4 ho2 Aak)
  clear L4 ho2 Aak hb2
  go_wp2
  go_end0
  exact⟨⟨_,rfl⟩,⟨_,A4.out.1⟩,hfr.out.trans A4.out.2⟩
end
def C8(S:Scr)(i:Nat):List Cel:=((S.L[i]?).map (·.2)).getD []
section
variable {Z Z1:Zn}{w w':World}{x s i d:Nat}{S:Scr}{t:Nat}{T:Ter}{P:Pt}
theorem Ajk(h:G3 Z1 w x s S i d):SC Z1 w x s S:=by
 obtain⟨sv,lv,L,R,h1,h2,h3,_⟩:=h
 exact⟨sv,lv,L,R,h1,h2,h3⟩
theorem Adr(h:SC Z1 w x s S)(hi:i<S.L.length):∃d,G3 Z1 w x s S i d:=by
 obtain⟨sv,lv,L,R,h1,h2,h3⟩:=h
 have hl:i<L.length:=by rw[<- Ahv,h2];exact hi
 exact⟨L[i].d,sv,lv,L,R,h1,h2,h3,L[i],List.getElem?_eq_getElem hl,rfl⟩
theorem Chg{B:Zn}{ts:List TypeId}(h:G3 Z1 w x s S i d)(hf:Scn.Fr B ts w w')(hn:P0 ts):G3 Z1 w' x s S i d:=by
 obtain⟨sv,lv,L,R,h1,h2⟩:=h
 exact⟨sv,lv,L,R,h1.fr hf hn,h2⟩
theorem O0(h:G3 Z1 w x s S i d)(hb:Below w.heap.size w w'):G3 Z1 w' x s S i d:=Chg (B:=fun _=>True) (ts:=[]) h (Scn.Fr.A1 hb) (by simp[P0])
theorem Byk{d':Nat}(h:G3 Z1 w x s S i d)(h':G3 Z1 w x s S i d'):d=d':=by
 obtain⟨sv,lv,L,R,h1,h2,h3,e,he,rfl⟩:=h
 obtain⟨sv',lv',L',R',g1,g2,g3,e',he',rfl⟩:=h'
 have hl:=(List.getElem?_eq_some_iff.1 he).1
 have hl':=(List.getElem?_eq_some_iff.1 he').1
 obtain⟨g,c,rfl,_,q,_⟩:=h1.elem rfl hl
 obtain⟨g',c',rfl,_,q',_⟩:=g1.elem rfl hl'
 have a:=h1.ln.cells.2.2.2.1
 have b:=g1.ln.cells.2.2.2.1
 rw[a]at b
 simp only[Option.some.injEq,Value.slice.injEq,Addr.mk.injEq]at b
 obtain⟨⟨rfl,_⟩,_⟩:=b
 rw[q]at q'
 simp only[Option.some.injEq,Value.pointer.injEq,Addr.mk.injEq]at q'
 have e1:=(List.getElem?_eq_some_iff.1 he).2
 have e2:=(List.getElem?_eq_some_iff.1 he').2
 rw[e1,e2]at q'
 exact q'.1
theorem Bqb(h:G3 Z1 w x s S i d)(hl:1<=S.L.length)(hi:i<S.L.length):Calls prog 71 #[.pointer (some ⟨x,0,none⟩),.int .i64 i] w fun e w'=>e=.returned (.pointer (some ⟨d,0,none⟩))/\w=w' :=
 (Bmw (Ajk h) hl i hi).mono fun e w' ⟨⟨d',he,hr⟩,hw⟩=>by
  obtain rfl:=Byk h hr
  exact⟨he,hw⟩
theorem Byb{α:Type}{L:List α}{i:Nat}{e:α}(h:L[i]?=some e):L=L.take i++e::L.drop (i+1):=by
 have hl:=(List.getElem?_eq_some_iff.1 h).1
 have he:=(List.getElem?_eq_some_iff.1 h).2
 rw[<- he,<- List.drop_eq_getElem_cons hl,List.take_append_drop]
theorem Btn{α:Type}{A C:List α}{e:α}(f:α->α):(A++e::C).modify A.length f=A++f e::C:=by
 induction A with
 |nil=>rfl
 |cons a A ih=>simp[List.modify_succ_cons,ih]
theorem Aha(h:G3 Z1 w x s S i d):∃g n cap tail,B7 w d g n cap tail (C8 S i)/\Rw.Good (C8 S i) /\
  ∀l' w',Rw.Good l'->B7 w' d g n cap tail l'->A0 [g] w w'->G3 Z1 w' x s (Aa2 S i l') i d/\Scn.Fr Z1 PT w w':=by
 obtain⟨sv,lv,L,R,h1,h2,h3,e,he,rfl⟩:=h
 have hs:=Byb he
 have hil:=(List.getElem?_eq_some_iff.1 he).1
 have hlt:(L.take i).length=i:=by rw[List.length_take];omega
 have Aez:C8 S i=e.l:=by
  unfold C8
  rw[<- h2]
  simp[vw,he]
 obtain⟨id,ed,eg,edr,el⟩:=e
 generalize L.take i=A at hs hlt
 generalize L.drop (i+1)=C at hs
 subst hs
 have hr:=h1.rows ⟨id,ed,eg,edr,el⟩ (by simp)
 have htg:=hr.typ.2
 have hzg:=(h1.zr ⟨id,ed,eg,edr,el⟩ (by simp)).2
 obtain⟨g1,g2,g3,n,cap,tail,hx⟩:=hr
 rw[Aez]
 refine⟨eg,n,cap,tail,hx,g1,fun l' w' hg hx' ho=>?_⟩
 obtain⟨m,hf⟩:=h1.row (e':=⟨id,ed,eg,edr,l'⟩) htg (by decide) (by decide) (by decide) hzg (by simp[PT]) ho h1.Cnn ⟨hg,Nat.zero_le _,Nat.zero_le _,_,_,_,hx'⟩ rfl (.inl rfl)
 refine⟨⟨sv,lv,A++⟨id,ed,eg,edr,l'⟩::C,R,?_,?_,h3,⟨id,ed,eg,edr,l'⟩,?_,rfl⟩,hf⟩
 ·have e1:fl E5 (A++⟨id,ed,eg,edr,l'⟩::C)=fl E5 (A++⟨id,ed,eg,edr,el⟩::C):=Cjy (e:=⟨id,ed,eg,edr,el⟩) (e':=⟨id,ed,eg,edr,l'⟩) rfl rfl
  have e2:(A++(⟨id,ed,eg,edr,l'⟩:En)::C).length=(A++(⟨id,ed,eg,edr,el⟩:En)::C).length:=by simp
  rw[e1,e2]
  exact m
 ·show vw _=(S.L).modify i _
  rw[<- h2,<- hlt]
  have:(vw (A++⟨id,ed,eg,edr,el⟩::C))=vw A++(id,el)::vw C:=by simp[vw]
  rw[this,<- Ahv A,Btn]
  simp[vw]
 ·rw[<- hlt,List.getElem?_append_right (J5 _),Nat.sub_self]
  rfl
theorem Byj(h:G3 Z1 w x s S i d):Rw.Good (C8 S i):=by
 obtain⟨g,n,cap,tail,_,hg,_⟩:=Aha h
 exact hg
theorem Bad(S:Scr)(i:Nat)(l:List Cel):(Aa2 S i l).L.length=S.L.length:=by simp[Aa2]
def Arb(Z1:Zn)(w:World)(x s:Nat)(S:Scr)(i d:Nat)(v:Value)(e:Ending)(w':World):Prop:=e=.returned v/\G3 Z1 w' x s S i d/\Scn.Fr Z1 PT w w'
theorem Azt(h:G3 Z1 w x s S i d)(lo hi:Int)(a:At) :
  Calls prog 148 #[.pointer (some ⟨d,0,none⟩),.int .i64 lo,.int .i64 hi,.agg #[.int .u32 a.f,.int .u32 a.b,.int .u16 a.g]] w (Arb Z1 w x s (Aa2 S i (M0 (C8 S i) lo hi a)) i d (.int .i64 0)):=by
 obtain⟨g,n,cap,tail,hx,hg,hb⟩:=Aha h
 refine(Bhr hx hg.whole lo hi a).mono fun e w' ⟨he,hx',ho⟩=>?_
 have hl:Ahs (C8 S i) (A9 lo n) (A9 hi n) a=M0 (C8 S i) lo hi a:=by unfold M0;rw[hx.len]
 rw[hl]at hx'
 obtain⟨h1,h2⟩:=hb _ _ (hg.era lo hi a) hx' ho
 exact⟨he,h1,h2⟩
theorem Bgj(h:G3 Z1 w x s S i d)(col k:Int)(a:At) :
  Calls prog 169 #[.pointer (some ⟨d,0,none⟩),.int .i64 col,.int .i64 k,.agg #[.int .u32 a.f,.int .u32 a.b,.int .u16 a.g]] w (Arb Z1 w x s (Aa2 S i (inL (C8 S i) col k a)) i d (.int .i64 0)):=by
 obtain⟨g,n,cap,tail,hx,hg,hb⟩:=Aha h
 refine(Bxv hx hg.whole col k a).mono fun e w' ⟨he,hx',ho⟩=>?_
 have hl:Amf (C8 S i) (A9 col n) (A9 k (n-A9 col n)) a=inL (C8 S i) col k a:=by unfold inL;rw[hx.len]
 rw[hl]at hx'
 obtain⟨h1,h2⟩:=hb _ _ (hg.ins col k a) hx' ho
 exact⟨he,h1,h2⟩
theorem Bws(h:G3 Z1 w x s S i d)(col k:Int)(a:At) :
  Calls prog 244 #[.pointer (some ⟨d,0,none⟩),.int .i64 col,.int .i64 k,.agg #[.int .u32 a.f,.int .u32 a.b,.int .u16 a.g]] w (Arb Z1 w x s (Aa2 S i (deL (C8 S i) col k a)) i d (.int .i64 0)):=by
 obtain⟨g,n,cap,tail,hx,hg,hb⟩:=Aha h
 refine(Bwr hx hg.whole col k a).mono fun e w' ⟨he,hx',ho⟩=>?_
 have hl:Aon (C8 S i) (A9 col n) (A9 k (n-A9 col n)) a=deL (C8 S i) col k a:=by unfold deL;rw[hx.len]
 rw[hl]at hx'
 obtain⟨h1,h2⟩:=hb _ _ (hg.del col k a) hx' ho
 exact⟨he,h1,h2⟩
theorem Bkb(h:G3 Z1 w x s S i d)(col r:Int)(hc:-9223372036854775808<=col/\col<=9223372036854775807)(wide:Bool)(a:At) :
  Calls prog 170 #[.pointer (some ⟨d,0,none⟩),.int .i64 col,.int .i32 r,.bool wide,.agg #[.int .u32 a.f,.int .u32 a.b,.int .u16 a.g]] w (Arb Z1 w x s (Aa2 S i (Abi (C8 S i) col r wide a)) i d (.int .i64 (Atc (C8 S i) col r wide a))):=by
 obtain⟨g,n,cap,tail,hx,hg,hb⟩:=Aha h
 generalize C8 S i=l at hx hg hb |-
 have hgd:=hg.put col r wide a
 by_cases hok:Aod l col r wide a
 ·have hok':=hok
  obtain⟨k1,k2,k3⟩:=hok'
  obtain⟨c,rfl⟩:∃c:Nat,col=c:=⟨col.toNat,by omega⟩
  refine(Clt hx hg.whole c r wide a k1 (by have:=hx.len;omega)).mono ?_
  rintro y w' ⟨rfl,hx',ho⟩
  have hl:Abi l c r wide a=G0 l c (L9 r wide a):=by unfold Abi;rw[if_pos hok];rfl
  have hv:Atc l c r wide a=0:=by unfold Atc;rw[if_pos hok]
  rw[hv]
  rw[hl]at hgd |-
  obtain⟨h1,h2⟩:=hb _ _ hgd hx' ho
  exact⟨rfl,h1,h2⟩
 ·have hl:Abi l col r wide a=l:=by unfold Abi;rw[if_neg hok]
  have hv:Atc l col r wide a=2:=by unfold Atc;rw[if_neg hok]
  rw[hl]at hgd
  rw[hl,hv]
  have hno:V1 r=false\/col<0\/(n:Int)<=col\/(wide=true/\(n:Int)<=col+1):=by
   have hlen:=hx.len
   unfold Aod at hok
   rcases hrb:V1 r with _|_
   ·exact .inl rfl
   ·right
    have:¬(0<=col/\col+((L9 r wide a).length:Int)<=(l.length:Int)):=fun hh=>hok ⟨hrb,hh.1,hh.2⟩
    cases wide
    ·have h1:(L9 r false a).length=1:=rfl
     rw[h1]at this
     by_cases c0:col<0
     ·exact .inl c0
     ·exact .inr (.inl (by omega))
    ·have h1:(L9 r true a).length=2:=rfl
     rw[h1]at this
     by_cases c0:col<0
     ·exact .inl c0
     ·exact .inr (.inr ⟨rfl,by omega⟩)
  refine(Bcn hx col r hc wide a hno).mono ?_
  rintro y w' ⟨rfl,hx',ho⟩
  obtain⟨h1,h2⟩:=hb _ _ hgd hx' ho
  exact⟨rfl,h1,h2⟩
theorem Bia(h:G3 Z1 w x s S i d)(col r:Int) :
  Calls prog 162 #[.pointer (some ⟨d,0,none⟩),.int .i64 col,.int .i32 r] w (Arb Z1 w x s (Aa2 S i (Q1 (C8 S i) col r)) i d (.int .i64 (Asx (C8 S i) col r))):=by
 obtain⟨g,n,cap,tail,hx,hg,hb⟩:=Aha h
 generalize C8 S i=l at hx hg hb |-
 have hgd:=hg.joi col r
 by_cases hok:Anz l col r
 ·have hok':=hok
  obtain⟨k1,k2,k3⟩:=hok'
  obtain⟨c,rfl⟩:∃c:Nat,col=c:=⟨col.toNat,by omega⟩
  refine(Cfm hx hg.whole (fun c hc=>(hg.cell c hc).four) c r k1 (by have:=hx.len;omega)).mono ?_
  rintro y w' ⟨rfl,hx',ho⟩
  have hl:Q1 l c r=Aid l c r:=by unfold Q1;rw[if_pos hok];rfl
  have hv:Asx l c r=Aoa l c:=by unfold Asx;rw[if_pos hok];rfl
  rw[hv]
  rw[hl]at hgd |-
  obtain⟨h1,h2⟩:=hb _ _ hgd hx' ho
  exact⟨rfl,h1,h2⟩
 ·have hl:Q1 l col r=l:=by unfold Q1;rw[if_neg hok]
  have hv:Asx l col r=2:=by unfold Asx;rw[if_neg hok]
  rw[hl]at hgd
  rw[hl,hv]
  have hno:V1 r=false\/col<0\/(n:Int)<=col:=by
   have hlen:=hx.len
   unfold Anz at hok
   rcases hrb:V1 r with _|_
   ·exact .inl rfl
   ·right
    by_cases c0:col<0
    ·exact .inl c0
    ·exact .inr (by
      have:¬(0<=col/\col<(l.length:Int)):=fun hh=>hok ⟨hrb,hh.1,hh.2⟩
      omega)
  refine(Ckx hx col r hno).mono ?_
  rintro y w' ⟨rfl,rfl⟩
  obtain⟨h1,h2⟩:=hb _ _ hgd hx (A0.refl _ _)
  exact⟨rfl,h1,h2⟩
theorem Azq(h:G3 Z1 w x s S i d)(k:Int):Calls prog 168 #[.pointer (some ⟨d,0,none⟩),.int .i64 k] w fun e w'=>e=.returned (.bool (Aes (C8 S i) k))/\Below w.heap.size w w':=by
 obtain⟨g,n,cap,tail,hx,hg,hb⟩:=Aha h
 exact Bwc hx k
theorem Bfc(h:G3 Z1 w x s S i d)(k:Nat)(hk:k<(C8 S i).length):Calls prog 161 #[.pointer (some ⟨d,0,none⟩),.int .i64 k] w (Bkv w (C8 S i)[k]):=by
 obtain⟨g,n,cap,tail,hx,hg,hb⟩:=Aha h
 exact Cdo hx (fun c hc=>(hg.cell c hc).four) k (by have:=hx.len;omega) hk
theorem Bfm(h:G3 Z1 w x s S i d)(k:Int)(hk:¬(0<=k/\k<((C8 S i).length:Int))):Calls prog 161 #[.pointer (some ⟨d,0,none⟩),.int .i64 k] w (Bnm w 6):=by
 obtain⟨g,n,cap,tail,hx,hg,hb⟩:=Aha h
 exact Cjd hx k (by have:=hx.len;omega)
def Lat(Z1:Zn)(w:World)(T:Ter)(P:Pt)(d:Nat):Prop:=G3 Z1 w (P.x T.other) P.s T.vis T.c.row d
theorem Alb(T:Ter):line T=C8 T.vis T.c.row:=rfl
theorem Acm(h:TMx Z w t T P)(ok:Ok T)(hd:Lat Z1 w T P d):Calls prog 160 #[.pointer (some ⟨t,0,none⟩)] w (Aik (.pointer (some ⟨d,0,none⟩)) w):=by
 have c8:=h.c8
 have hs:=h.s0
 have hsh:=J0 (fun m=>I7 (h.drew m))
 have hrw:=J0 (fun m=>Bqb (O0 hd (C7 (Below.refl _ _) m)) ok.fit.len ok.row)
 generalize P.h T.other=hh at hs hsh
 generalize P.x T.other=xx at hs hrw
 generalize T.c.row=row at c8 hrw
 clear h ok hd
 go_enter func160,ntmps160
 go_wp2
 go_quiet (first
  |(go_at_call 68;exact Awl (hsh.out _))
  |(go_at_call 71;exact Awl (hrw.out _)))
 go_wp2
 go_ret
 exact⟨rfl,_,rfl⟩
end
end Go.Proofs.YtecnpoigegiooaaGreatDoor.Emu
namespace Go.Proofs.YtecnpoigegiooaaGreatDoor.Emu
open Go.Proofs.Tryz
open Go Rw Scn
section
variable {T:Ter}
theorem Aqk(i:Int){n:Nat}(h:1<=n):Acu i n<n:=by unfold Acu;omega
theorem Ok.place(h:Ok T)(r c:Int):Ok (place T r c) :=
 ⟨h.fit,h.U6,h.rows,h.cols,Aqk _ h.fit.len,Aqk _ h.fit.c1,h.sv,h.svm,h.tn,h.alt⟩
theorem Ok.tell(h:Ok T)(e:Ev):Ok (tell T e):=⟨h.fit,h.U6,h.rows,h.cols,h.row,h.col,h.sv,h.svm,h.tn,h.alt⟩
theorem Ok.U7(h:Ok T):Ok (U7 T):=h.tell _
theorem Ok.move(h:Ok T)(r c:Int):Ok (move T r c):=(h.place r c).U7
theorem Ok.Acn(h:Ok T)(b:Bool):Ok (Acn T b):=h.tell _
end
end Go.Proofs.YtecnpoigegiooaaGreatDoor.Emu
namespace Go.Proofs.YtecnpoigegiooaaGreatDoor.Emu
open Go.Proofs.Tryz
open Go RowKit Com Rw Lns Scn
section
variable {Z Z1:Zn}{w w':World}{t:Nat}{T:Ter}{P:Pt}{v:Value}{l:List Int}
theorem Agw(h:TM Z w t T)(ok:Ok T)(hj:T.jr.length<=90000000):Calls prog 175 #[.pointer (some ⟨t,0,none⟩)] w (A7 Z w t (U7 T)):=by
 obtain⟨P,h⟩:=h
 have hh:=J0 (Ajf h ok 4)
 have ht:=J0 (fun w1 (hb:Below w.heap.size w w1)=>Aqb (h.below hb) hj (here T 4))
 unfold U7
 generalize here T 4=e at hh ht |-
 clear h ok
 go_enter func175,ntmps175
 go_wp2_with (first
  |(go_at_call 163;(with_reducible refine hh.out.mono ?_);rintro e w1 ⟨rfl,hb⟩)
  |(go_at_call 222;(with_reducible refine(ht.out _ hb).mono ?_);rintro e w2 ⟨⟨v2,rfl⟩,⟨jv,A4⟩,hf⟩))
 go_end0
 exact⟨⟨_,rfl⟩,⟨_,A4⟩,(Scn.Fr.A1 hb).trans hf⟩
theorem Ben(h:TM Z w t T)(ok:Ok T)(hj:T.jr.length<=90000000):Calls prog 174 #[.pointer (some ⟨t,0,none⟩)] w (A7 Z w t (Apd T)):=by
 obtain⟨P,h⟩:=h
 have hh:=J0 (Ajf h ok 3)
 have ht:=J0 (fun w1 (hb:Below w.heap.size w w1)=>Aqb (h.below hb) hj (here T 3))
 unfold Apd
 generalize here T 3=e at hh ht |-
 clear h ok
 go_enter func174,ntmps174
 go_wp2_with (first
  |(go_at_call 163;(with_reducible refine hh.out.mono ?_);rintro e w1 ⟨rfl,hb⟩)
  |(go_at_call 222;(with_reducible refine(ht.out _ hb).mono ?_);rintro e w2 ⟨⟨v2,rfl⟩,⟨jv,A4⟩,hf⟩))
 go_end0
 exact⟨⟨_,rfl⟩,⟨_,A4⟩,(Scn.Fr.A1 hb).trans hf⟩
theorem Bsr(h:TM Z w t T)(ok:Ok T)(hj:T.jr.length<=90000000):Calls prog 178 #[.pointer (some ⟨t,0,none⟩)] w (A7 Z w t (Bah T)):=by
 obtain⟨P,h⟩:=h
 have hh:=J0 (Ajf h ok 5)
 have ht:=J0 (fun w1 (hb:Below w.heap.size w w1)=>Aqb (h.below hb) hj (here T 5))
 unfold Bah
 generalize here T 5=e at hh ht |-
 clear h ok
 go_enter func178,ntmps178
 go_wp2_with (first
  |(go_at_call 163;(with_reducible refine hh.out.mono ?_);rintro e w1 ⟨rfl,hb⟩)
  |(go_at_call 222;(with_reducible refine(ht.out _ hb).mono ?_);rintro e w2 ⟨⟨v2,rfl⟩,⟨jv,A4⟩,hf⟩))
 go_end0
 exact⟨⟨_,rfl⟩,⟨_,A4⟩,(Scn.Fr.A1 hb).trans hf⟩
theorem Cgf(h:TM Z w t T)(fit:Fit T.vis)(hj:T.jr.length<=90000000)(r c:Int)(ok:Ok (place T r c)):Calls prog 172 #[.pointer (some ⟨t,0,none⟩),.int .i64 r,.int .i64 c] w (A7 Z w t (move T r c)):=by
 obtain⟨P,h⟩:=h
 have hp:=J0 (Bil h fit r c)
 have ht:=J0 (fun w1 (h1:TM Z w1 t (place T r c))=>Agw h1 ok hj)
 unfold move
 generalize place T r c=T1 at hp ht |-
 clear h ok fit
 go_enter func172,ntmps172
 go_wp2_with (first
  |(go_at_call 171;(with_reducible refine hp.out.mono ?_);rintro e w1 ⟨⟨v1,rfl⟩,h1,hf1⟩)
  |(go_at_call 175;(with_reducible refine(ht.out _ h1.tm).mono ?_);rintro e w2 ⟨⟨v2,rfl⟩,A4,hf⟩))
 go_end0
 exact⟨⟨_,rfl⟩,A4,hf1.trans hf⟩
theorem V5(h:TM Z w t T)(ok:Ok T)(hj:T.jr.length<=90000000)(r c:Int):Calls prog 172 #[.pointer (some ⟨t,0,none⟩),.int .i64 r,.int .i64 c] w (A7 Z w t (move T r c)):=Cgf h ok.fit hj r c (ok.place r c)
theorem Bar{k:Eqt.Ext w}{a:Addr}{v:Value}(h:w.cell? a=some v):k.w.cell? a=some v:=by
 have hlt:=World.block_lt_of_cell? _ _ h
 exact(World.cell?_of_block (w:=w) (k.below.block _ hlt)).trans h
theorem Bvf(h:TM Z w t T)(ok:Ok T)(hj:T.jr.length<=90000000):Calls prog 128 #[.pointer (some ⟨t,0,none⟩)] w (A7 Z w t (Avt T)):=by
 obtain⟨P,h⟩:=h
 have c8:=fun k:Eqt.Ext w=>Bar (k:=k) h.c8
 have c9:=fun k:Eqt.Ext w=>Bar (k:=k) h.c9
 have c20:=fun k:Eqt.Ext w=>Bar (k:=k) h.c20
 have hn:=J0 (fun k:Eqt.Ext w=>Tbs.Anf (h.below k.below).V3 (by have:=ok.tn;have:=ok.fit.c1;omega) (by have:=ok.tn;have:=ok.fit.c5;omega) T.c.col 1 (h.tbl.below k.below).tbs)
 have hp:=J0 (fun w1 (hb:Below w.heap.size w w1)=>Ahg (h.below hb) ok T.c.row (Tbs.X8 T.tn T.tf T.c.col 1))
 have ht:=J0 (fun w1 (h1:TM Z w1 t (place T T.c.row (Tbs.X8 T.tn T.tf T.c.col 1)))=>Ben h1 (ok.place _ _) hj)
 unfold Avt
 generalize Tbs.X8 T.tn T.tf T.c.col 1=y at hn hp ht |-
 generalize place T T.c.row y=T1 at hp ht |-
 generalize T.c.row=row at c8 hp
 generalize T.c.col=col at c9 hn
 clear h ok
 go_enter func128,ntmps128
 go_wp2
 refine Eqt.H4 16 (by kernel_rfl) (by kernel_rfl) ?_
 simp only[List.take_succ_cons,List.take_zero,List.drop_succ_cons,List.drop_zero]
 repeat (go_big_quiet_step (first
  |(go_at_call 173;exact Eqt.Arp (hn.out _))))
 refine wpQuiet_nil ?_
 intro w9 hw9
 obtain⟨k9,rfl⟩:=hw9
 have hb9:=k9.below
 generalize k9.w=w9 at hb9 |-
 go_wp2_with (first
  |(go_at_call 171;(with_reducible refine(hp.out _ hb9).mono ?_);rintro e w1 ⟨⟨v1,rfl⟩,h1,hf1⟩)
  |(go_at_call 174;(with_reducible refine(ht.out _ h1.tm).mono ?_);rintro e w2 ⟨⟨v2,rfl⟩,A4,hf⟩))
 go_end0
 exact⟨⟨_,rfl⟩,A4,((Scn.Fr.A1 hb9).trans hf1).trans hf⟩
end
end Go.Proofs.YtecnpoigegiooaaGreatDoor.Emu
namespace Go.Proofs.YtecnpoigegiooaaGreatDoor.Emu
open Go.Proofs.Tryz
open Go Rw Scn
section
variable {T:Ter}{S:Scr}
theorem Bbz(hm:S.most=T.most)(hk:S.kp=T.other.isNone):(T.C2 S).vis=S:=by
 obtain⟨m,c,p,nx,most,R,main,other,tn,tf,pr,la,jr,rp⟩:=T
 obtain⟨snx,smost,skp,sc,st,sb,sL,sR⟩:=S
 simp only at hm hk
 subst hm hk
 cases other<;>rfl
theorem Aih(T:Ter)(S:Scr):(T.C2 S).c=T.c:=by unfold Ter.C2;split<;>rfl
theorem Bpy(T:Ter)(S:Scr):(T.C2 S).p=T.p:=by unfold Ter.C2;split<;>rfl
theorem Bpx(T:Ter)(S:Scr):(T.C2 S).m=T.m:=by unfold Ter.C2;split<;>rfl
theorem V7(T:Ter)(S:Scr):(T.C2 S).jr=T.jr:=by unfold Ter.C2;split<;>rfl
theorem Cpq(T:Ter)(S:Scr):(T.C2 S).rp=T.rp:=by unfold Ter.C2;split<;>rfl
theorem Cpp(T:Ter)(S:Scr):(T.C2 S).nx=S.nx:=by unfold Ter.C2;split<;>rfl
theorem Cha(T:Ter)(S:Scr):(T.C2 S).most=T.most:=by unfold Ter.C2;split<;>rfl
theorem Ams(T:Ter)(S:Scr):(T.C2 S).C5=T.C5:=by unfold Ter.C2;split<;>rfl
theorem Byh(T:Ter)(S:Scr):(T.C2 S).other.isNone=T.other.isNone:=by
 unfold Ter.C2
 split<;>simp[*]
theorem Clr(T:Ter)(S S':Scr):(T.C2 S).C2 S'=T.C2 S':=by
 obtain⟨m,c,p,nx,most,R,main,other,tn,tf,pr,la,jr,rp⟩:=T
 cases other<;>rfl
theorem Bnw{S:Scr}(h:Fit S){n:Nat}(hn:S.nx<=n)(R:List Ln):Fit { S with nx:=n,R:=R } :=
 ⟨h.len,h.G8,h.bot,h.top,h.c1,h.c5,h.wid,fun p hp=>⟨(h.ids p hp).1,by have:=(h.ids p hp).2;show p.1<(n:Int);omega⟩,Nat.le_trans h.pos hn⟩
theorem Ok.C2(h:Ok T)(hm:S.most=T.most)(hk:S.kp=T.other.isNone)(hF:Fit S)(hl:S.L.length=T.vis.L.length)(hc:S.cols=T.vis.cols)(hn:T.nx<=S.nx):Ok (T.C2 S):=by
 obtain⟨h1,h2,h3,h4,h5,h6,h8,h9,h10,h11⟩:=h
 obtain⟨m,c,p,nx,most,R,main,other,tn,tf,pr,la,jr,rp⟩:=T
 obtain⟨snx,smost,skp,sc,st,sb,sL,sR⟩:=S
 simp only at hm hk hl hc hn
 subst hm hk
 cases other with
 |none =>
  simp only[Ter.vis,Ter.sh,Sh.scr,Ter.Afo]at h1 h2 h3 h4 h5 h6 h8 h9 h10 hl hc
  subst hc
  exact⟨hF,hF,rfl,rfl,by simpa[Ter.C2,Ter.vis,Ter.sh,Sh.scr,Sh.of,hl] using h5,by simpa[Ter.C2,Ter.vis,Ter.sh,Sh.scr,Sh.of] using h6,
   by simpa[Ter.C2,Ter.vis,Ter.sh,Sh.scr,Sh.of,hl]using h8,by simpa[Ter.C2,Ter.vis,Ter.sh,Sh.scr,Sh.of,hl]using h9,by simpa[Ter.C2,Ter.vis,Ter.sh,Sh.scr,Sh.of]using h10,h11⟩
 |some o =>
  simp only[Ter.vis,Ter.sh,Sh.scr,Ter.Afo]at h1 h2 h3 h4 h5 h6 h8 h9 h10 hl hc
  subst hc
  exact⟨hF,Bnw h2 hn sR,by simpa[Ter.C2,Ter.vis,Ter.sh,Sh.scr,Sh.of,hl] using h3,by simpa[Ter.C2,Ter.vis,Ter.sh,Sh.scr,Sh.of] using h4,by simpa[Ter.C2,Ter.vis,Ter.sh,Sh.scr,Sh.of,hl] using h5,by simpa[Ter.C2,Ter.vis,Ter.sh,Sh.scr,Sh.of] using h6,
   by simpa[Ter.C2,Ter.vis,Ter.sh,Sh.scr,Sh.of,hl]using h8,h9,by simpa[Ter.C2,Ter.vis,Ter.sh,Sh.scr,Sh.of]using h10,h11⟩
theorem Bnj{S:Scr}(h:Fit S){frm:Nat}(hf:frm<=S.bot)(n:Int)(a:At)(b:Bool):(upS S frm n a b).L.length=S.L.length:=by
 unfold upS
 have:=Aje n (S.bot+1-frm)
 have:=h.bot
 rw[Avk (by omega)]
 omega
theorem Bhp{S:Scr}(h:Fit S){tp:Nat}(hf:tp<=S.bot)(n:Int)(a:At):(L3 S tp n a).L.length=S.L.length:=by
 unfold L3
 have:=Aje n (S.bot+1-tp)
 have:=h.bot
 rw[Avk (by omega)]
 omega
theorem Ok.up(h:Ok T){frm:Nat}(hf:frm<=T.vis.bot)(n:Int)(a:At)(b:Bool):Ok (T.C2 (upS T.vis frm n a b)) :=
 h.C2 rfl rfl (h.fit.up hf n a b) (Bnj h.fit hf n a b) rfl (Nat.le_add_right _ _)
theorem Ok.upT(h:Ok T)(n:Int)(a:At):Ok (T.C2 (upT T.vis n a)):=h.up h.fit.top n a _
theorem Ok.down(h:Ok T){tp:Nat}(hf:tp<=T.vis.bot)(n:Int)(a:At):Ok (T.C2 (L3 T.vis tp n a)) :=
 h.C2 rfl rfl (h.fit.down hf n a) (Bhp h.fit hf n a) rfl (Nat.le_add_right _ _)
theorem Ok.F8(h:Ok T){n:Nat}(hn:n<T.vis.cols):Ok (F8 T n):=⟨h.fit,h.U6,h.rows,h.cols,h.row,hn,h.sv,h.svm,h.tn,h.alt⟩
end
