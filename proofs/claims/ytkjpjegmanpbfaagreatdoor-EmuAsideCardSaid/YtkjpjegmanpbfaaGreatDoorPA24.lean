/- Part 24 of the proof that the card of EmuAside holds. -/
import Derived.Test.YtkjpjegmanpbfaaGreatDoorPA23
set_option maxHeartbeats 16000000
set_option maxRecDepth 100000
namespace Go.Proofs.YtkjpjegmanpbfaaGreatDoor.Emu
open Go RowKit Com Rw Lns Scn
theorem Am1 (e:Ev):(Tryz.prog.info? 86).map (·.size)=some (evA e).size:=by kernel_rfl
theorem Cj1 (e:Ev):(evA e).all (·.oneCell')=true:=by simp [evA,Value.oneCell']
theorem elemEv:Au2 Tryz.prog 50 86 (.agg #[.int .u8 0,.int .u64 0,.int .i64 0,.int .i64 0,.bool false,.int .i32 0,.bool false,.bool false,.bool false,.bool false]) 10:=by
 have h:(Tryz.prog.info? 86).map (fun i=>(i.zero,i.size,decide (i.bytes<=100)))=some (some (.agg #[.int .u8 0,.int .u64 0,.int .i64 0,.int .i64 0,.bool false,.int .i32 0,.bool false,.bool false,.bool false,.bool false]),10,true):=by kernel_rfl
 refine ⟨Tryz.underlying50,?_,rfl,by omega⟩
 cases hq:Tryz.prog.info? 86 with
 |none=>simp [hq] at h
 |some i =>
  simp only [hq,Option.map_some,Option.some.injEq,Prod.mk.injEq,decide_eq_true_eq] at h
  exact ⟨i,rfl,h.1,h.2.1,h.2.2⟩
def EvB (w:World) (b:Nat) (e:Ev):Prop:=Block w b 86 (evA e)
section
variable {Z Z1:Zn} {w w':World} {t:Nat} {T:Ter} {P:Pt} {v:Value} {l:List Int}
theorem Bx6 {P:Program} {f:FuncId} {args:Array Value} {w:World} {n:Nat} {v:Value} (h:Calls P f args (w.drewN n) fun e w'=>e=.returned v/\w.drewN n=w'):Calls P f args (w.drewN n) fun e w''=>e=.returned v/\∃ m,w''=w.drewN m :=
 h.mono fun _ _ ⟨he,hm⟩=>⟨he,n,hm.symm⟩
theorem Ag8 (h:TMx Z w t T P) (ok:Ok T) (k:Int):Calls Tryz.prog 105 #[.pointer (some ⟨t,0,none⟩),.int .u8 k] w fun e w'=>e=.returned (.agg (evA (here T k)))/\Below w.heap.size w w':=by
 have hbn:=Aa1 w (.cells #[.int .u8 0,.int .u64 0,.int .i64 0,.int .i64 0,.bool false,.int .i32 0,.bool false,.bool false,.bool false,.bool false] 86)
 have hbx:=Block.made w 86 #[.int .u8 0,.int .u64 0,.int .i64 0,.int .i64 0,.bool false,.int .i32 0,.bool false,.bool false,.bool false,.bool false]
 have h0:=h.below hbn
 have c8:=h0.c8
 have c9:=h0.c9
 have hs:=h0.s0
 have hsh:=J0 (fun m=>Aa9 (h0.drew m))
 obtain ⟨Z1,hf⟩:=h0.focus
 have hid:=J0 (fun m=>Cn1 (hf.sc.below (Aa4 (Below.refl _ _) m)) ok.fit.len T.c.row)
 unfold here
 generalize idAt T.vis.L T.c.row=y at hid |-
 generalize P.h T.other=hh at hs hsh
 generalize P.x T.other=xx at hs hid
 generalize T.c.row=row at c8 hid
 generalize T.c.col=col at c9 |-
 clear h h0 hf ok
 go_enter Tryz.func105,Tryz.ntmps105
 go_wp2
 generalize w.alloc (.cells #[.int .u8 0,.int .u64 0,.int .i64 0,.int .i64 0,.bool false,.int .i32 0,.bool false,.bool false,.bool false,.bool false] 86)=w0 at *
 refine Eqt.region_quiet_tail 18 (by kernel_rfl) (by kernel_rfl) ?_
 simp only [List.take_succ_cons,List.take_zero,List.drop_succ_cons,List.drop_zero]
 repeat (go_big_quiet_step (first
  |(go_at_call 36;exact Bx6 (hsh.out _))
  |(go_at_call 46;exact Bx6 (hid.out _))))
 refine wpQuiet_nil ?_
 intro w9 hw9
 obtain ⟨nq,rfl⟩:=hw9
 have hb9:=hbx.only (Only.drewN [] _ nq) (by simp)
 have hl9:=Aa4 hbn nq
 generalize w0.drewN nq=w9 at hb9 hl9 |-
 clear c8 c9 hs hsh hid hbx hbn
 go_wp2_with (with_reducible show wpList _ _ _ (⟨none,.store _ (.tmp 4) _,_,_,_,_⟩::_) _ _;go_must (refine Aa5 rfl _ (.tmp 4) (.tmp 22) rfl hb9 (evA ⟨k,0,y,col,false,0,false,false,false,false⟩) rfl rfl (Am1 _) rfl (Cj1 _) ?_);intro w8 hb8 ho8)
 exact bodyPost_ret (results_cell_row rfl _ _ _ _ _ _ _ rfl hb8 Tryz.underlying86 rfl (Am1 _)) rfl ⟨rfl,hl9.trans (ho8.below hl9.size (by simp))⟩
theorem EvB.cells {b:Nat} {e:Ev} (h:EvB w b e):w.cell? ⟨b,0,none⟩=some (.int .u8 e.k)/\w.cell? ⟨b,1,none⟩=some (.int .u64 e.ix)/\w.cell? ⟨b,2,none⟩=some (.int .i64 e.line)/\w.cell? ⟨b,3,none⟩=some (.int .i64 e.col)/\w.cell? ⟨b,4,none⟩=some (.bool e.wide) /\
  w.cell? ⟨b,5,none⟩=some (.int .i32 e.r)/\w.cell? ⟨b,6,none⟩=some (.bool e.bl)/\w.cell? ⟨b,7,none⟩=some (.bool e.la)/\w.cell? ⟨b,8,none⟩=some (.bool e.fr)/\w.cell? ⟨b,9,none⟩=some (.bool e.wr) :=
 ⟨Block.cell h 0 rfl,Block.cell h 1 rfl,Block.cell h 2 rfl,Block.cell h 3 rfl,Block.cell h 4 rfl,Block.cell h 5 rfl,Block.cell h 6 rfl,Block.cell h 7 rfl,Block.cell h 8 rfl,Block.cell h 9 rfl⟩
theorem TMx.told (h:TMx Z w t T P) {wa w2:World} {jv:Value} (e:Ev) (hb:Below w.heap.size w wa) (hown:w2.ownsRow 0 86 10 jv (T.jr.length+1) (fl evL T.jr++evL e)) (ho:Only P.jv.ownBlock.toList wa w2)
  (hat:jv.ownBlock=P.jv.ownBlock\/jv.ownBlock=some wa.heap.size):TMx Z (w2.setCell ⟨t,32,none⟩ jv) t { T with jr:=T.jr++[e] } { P with jv:=jv }/\Scn.Fr Z TT w (w2.setCell ⟨t,32,none⟩ jv):=by
 have hj:=fun g hg=>Ab8 h.jr g hg
 have tt:=Block.typ h.blk
 have hO:Only (t::P.jv.ownBlock.toList) w (w2.setCell ⟨t,32,none⟩ jv):=(((Only.of_below hb _).trans ho).mono (by simp +contextual)).trans ((Only.setCell w2 ⟨t,32,none⟩ jv).mono (by simp))
 have hf:Scn.Fr Z [88,86] w (w2.setCell ⟨t,32,none⟩ jv):=Scn.Fr.of_only hO fun k hk _=>by
  rcases List.mem_cons.1 hk with rfl|hk
  ·exact ⟨h.zt,_,by simp,tt⟩
  ·have hk':P.jv.ownBlock=some k:=by simpa using hk
   exact ⟨h.zj k hk',_,by simp,hj k hk'⟩
 have keep:∀ {k:Nat} {ty:TypeId},Typ w k ty->ty∉[88,86]->(w2.setCell ⟨t,32,none⟩ jv).heap[k]?=w.heap[k]?:=fun hk hty=>hf.block _ (Am6 hk) (.inr fun t' ht' hT=>hty (by rw [Typ.inj hk hT];exact ht'))
 have same:∀ {k:Nat} {ty:TypeId} {cs:Array Value},Block w k ty cs->ty∉[88,86]->Block (w2.setCell ⟨t,32,none⟩ jv) k ty cs:=fun hb hty=>(keep (Block.typ hb) hty).trans hb
 have htj:t∉P.jv.ownBlock.toList:=fun hm=>absurd (Typ.inj tt (hj t (by simpa using hm))) (by decide)
 have hb2:Block w2 t 88 (terA T P):=(h.blk.only (Only.of_below hb []) (by simp)).only ho htj
 have hgt:∀ g,jv.ownBlock=some g->g≠t:=fun g hg e=>absurd (Typ.inj (Ab8 hown g hg) (e▸Block.typ hb2)) (by decide)
 refine ⟨⟨hb2.set 32 jv,same h.main (by decide),fun o ho=>⟨same (h.aside o ho).1 (by decide),(h.aside o ho).2⟩,h.scr.fr hf (by unfold NoPT;decide),same h.tabs (by decide),?_,Af1 h.rp (fun g hg=>keep (Af6 h.rp g hg) (by decide)),h.zt,h.zm,h.zb,fun g hg=>?_,h.zr,fun k hk=>h.up k (Nat.le_trans hf.size hk),h.low,h.tbl.fr hf h.low⟩,hf.mono (by simp [TT])⟩
 ·have e1:fl evL (T.jr++[e])=fl evL T.jr++evL e:=by rw [fl_app,fl_one]
  show World.ownsRow _ 0 _ 10 jv (T.jr++[e]).length (fl evL (T.jr++[e]))
  rw [e1,List.length_append,List.length_singleton]
  exact Ac8 hown (Only.setCell w2 ⟨t,32,none⟩ jv) (fun g hg=>by simpa using hgt g hg)
 ·rcases hat with hat|hat
  ·exact h.zj g (hat▸hg)
  ·rw [hat] at hg
   cases hg
   exact h.up _ hb.size
theorem EvB.heap {b:Nat} {e:Ev} (h:EvB w b e):w.heap[b]?=some (.cells (evA e) 86 (0,0)):=h
theorem Aw7 (h:TMx Z w t T P) (hj:T.jr.length<=90000) (e:Ev):Calls Tryz.prog 155 #[.pointer (some ⟨t,0,none⟩),.agg (evA e)] w fun r w'=>(∃ v,r=.returned v)/\(∃ jv,TMx Z w' t (tell T e) { P with jv:=jv })/\Scn.Fr Z TT w w':=by
 have hbn:=Aa1 w (.cells (evA e) 86)
 have hbx:EvB (w.alloc (.cells (evA e) 86)) w.heap.size e:=Block.made w 86 (evA e)
 have h0:=h.below hbn
 have htlt:=h.blk.lt
 obtain ⟨bx,hbxe⟩:∃ bx,bx=w.heap.size:=⟨_,rfl⟩
 have htb:bx∉[t]:=by simp;omega
 clear h
 go_enter Tryz.func155,Tryz.ntmps155
 go_wp2_with (first
  |(with_reducible show wpList _ _ _ (⟨some 5,.load _ (.tmp 3),_,_,_,_⟩::_) _ _;go_must (refine wpList_load_row rfl _ (.tmp 3) rfl w.heap.size rfl _ (evA e) (0,0) _ hbx.heap Tryz.underlying86 rfl (Am1 _) ?_))
  |(with_reducible show wpList _ _ _ (⟨none,.store _ (.tmp 7) _,_,_,_,_⟩::_) _ _;go_must (refine Aj0 rfl _ (.tmp 7) (.tmp 5) rfl h0.blk (evA e) rfl rfl (by simp [terA,evA]) (Am1 _) (Cj1 _) ?_);intro w1 hb1 ho1))
 rw [<- hbxe]
 obtain ⟨h1,hf1⟩:=h0.turn (m:=T.m) (c:=T.c) (p:=T.p) (n:=T.prints) (e:=e) ho1 hb1
 have hx1:EvB w1 bx e:=Block.only (show EvB _ bx e from hbxe▸hbx) ho1 htb
 have hfr:=(Scn.Fr.of_below (B:=Z) (ts:=TT) hbn).trans hf1
 clear h0 hb1 ho1 hf1 hbx hbn htb htlt
 replace hfr:=J0 hfr
 replace hbxe:=J0 hbxe
 have hd1:Below w1.heap.size w1 w1.drew:=Aa4 (Below.refl _ _) 1
 have hda:=hd1.alloc (J5 _) (.cells (evA e) 86)
 have h2:=h1.below hda
 have hown:=h2.jr
 have c32:=h1.c32
 obtain ⟨x0,x1,x2,x3,x4,x5,x6,x7,x8,x9⟩:=hx1.cells
 have hln:∀ j u,(evL e)[j]?=some u->(w1.drew.alloc (.cells (evA e) 86)).cell? ((⟨w1.heap.size,0,none⟩:Addr).add j)=some u:=fun j u hj=>by
  rw [Addr.add_lit,Nat.zero_add]
  exact (Block.made w1.drew 86 (evA e)).cell j (by simpa [evA,evL] using hj)
 have hfin:=fun w2 jv=>h1.told (wa:=w1.drew.alloc (.cells (evA e) 86)) (w2:=w2) (jv:=jv) e hda
 have hblk:=h2.blk
 have htJ:t∉P.jv.ownBlock.toList:=fun hm=>absurd (Typ.inj (Block.typ h2.blk) (Ab8 h2.jr t (by simpa using hm))) (by decide)
 obtain ⟨ao,c,hjv,hnc,hcm⟩:=Ac0 h1.jr
 have ka:=(h1.below (Aa1 w1 (.cells (evA e) 86))).c32
 simp only at hown hfin c32 ka hjv hnc htJ
 rw [hjv] at c32 ka hown hfin htJ
 generalize hlen:T.jr.length=n at c32 ka hown hfin hj hnc htJ
 replace hlen:=J0 hlen
 replace hjv:=J0 hjv
 replace hown:=J0 hown
 replace hblk:=J0 hblk
 replace hfin:=J0 hfin
 replace htJ:=J0 htJ
 replace hln:=J0 hln
 clear h1 h2 hx1 hd1 hda
 obtain ⟨ek,eix,el,ec,ew,er,ebl,ela,efr,ewr⟩:=e
 simp only [evA] at ka hown hblk hln hfin
 simp only at x0 x1 x2 x3 x4 x5 x6 x7 x8 x9
 go_region_law (first
  |(refine Be5 elemEv rfl (.tmp 12) (.tmp 14) rfl 0 (.slice ao n c) n (fl evL T.jr) ⟨w1.heap.size,0,none⟩ 1 1 (evL ⟨ek,eix,el,ec,ew,er,ebl,ela,efr,ewr⟩) rfl rfl hown.out rfl hln.out (evL_one _) (Nat.zero_le _) (by omega) ?_;intro sv2 w2 hown2 ho2 hat2;have hb2:=hblk.out.only ho2 htJ.out;have k2':=hb2.cell 32 rfl;have f2:=hb2.free 32;obtain ⟨a2,c2,rfl,_⟩:=Ac0 hown2))
 all_goals
  have hres:=J0 (hfin.out _ _ hown2 ho2 hat2)
  clear hown2 ho2 hat2 hb2
  go_wp2
  go_end0
  exact ⟨⟨_,rfl⟩,⟨_,hres.out.1⟩,hfr.out.trans hres.out.2⟩
end
def Aa7 (S:Scr) (i:Nat):List Cel:=((S.L[i]?).map (·.2)).getD []
section
variable {Z Z1:Zn} {w w':World} {x s i d:Nat} {S:Scr} {t:Nat} {T:Ter} {P:Pt}
theorem Al2 (h:Ad9 Z1 w x s S i d):SC Z1 w x s S:=by
 obtain ⟨sv,lv,L,R,h1,h2,h3,_⟩:=h
 exact ⟨sv,lv,L,R,h1,h2,h3⟩
theorem Ad7 (h:SC Z1 w x s S) (hi:i<S.L.length):∃ d,Ad9 Z1 w x s S i d:=by
 obtain ⟨sv,lv,L,R,h1,h2,h3⟩:=h
 have hl:i<L.length:=by rw [<- Ao5,h2];exact hi
 exact ⟨L[i].d,sv,lv,L,R,h1,h2,h3,L[i],List.getElem?_eq_getElem hl,rfl⟩
theorem rowAt_fr {B:Zn} {ts:List TypeId} (h:Ad9 Z1 w x s S i d) (hf:Scn.Fr B ts w w') (hn:NoPT ts):Ad9 Z1 w' x s S i d:=by
 obtain ⟨sv,lv,L,R,h1,h2⟩:=h
 exact ⟨sv,lv,L,R,h1.fr hf hn,h2⟩
theorem Aa6 (h:Ad9 Z1 w x s S i d) (hb:Below w.heap.size w w'):Ad9 Z1 w' x s S i d:=rowAt_fr (B:=fun _=>True) (ts:=[]) h (Scn.Fr.of_below hb) (by simp [NoPT])
theorem rowAt_uniq {d':Nat} (h:Ad9 Z1 w x s S i d) (h':Ad9 Z1 w x s S i d'):d=d':=by
 obtain ⟨sv,lv,L,R,h1,h2,h3,e,he,rfl⟩:=h
 obtain ⟨sv',lv',L',R',g1,g2,g3,e',he',rfl⟩:=h'
 have hl:=(List.getElem?_eq_some_iff.1 he).1
 have hl':=(List.getElem?_eq_some_iff.1 he').1
 obtain ⟨g,c,rfl,_,q,_⟩:=h1.elem rfl hl
 obtain ⟨g',c',rfl,_,q',_⟩:=g1.elem rfl hl'
 have a:=h1.ln.cells.2.2.2.1
 have b:=g1.ln.cells.2.2.2.1
 rw [a] at b
 simp only [Option.some.injEq,Value.slice.injEq,Addr.mk.injEq] at b
 obtain ⟨⟨rfl,_⟩,_⟩:=b
 rw [q] at q'
 simp only [Option.some.injEq,Value.pointer.injEq,Addr.mk.injEq] at q'
 have e1:=(List.getElem?_eq_some_iff.1 he).2
 have e2:=(List.getElem?_eq_some_iff.1 he').2
 rw [e1,e2] at q'
 exact q'.1
theorem Cn8 (h:Ad9 Z1 w x s S i d) (hl:1<=S.L.length) (hi:i<S.L.length):Calls Tryz.prog 44 #[.pointer (some ⟨x,0,none⟩),.int .i64 i] w fun e w'=>e=.returned (.pointer (some ⟨d,0,none⟩))/\w=w' :=
 (Cg9 (Al2 h) hl i hi).mono fun e w' ⟨⟨d',he,hr⟩,hw⟩=>by
  obtain rfl:=rowAt_uniq h hr
  exact ⟨he,hw⟩
theorem list_split {α:Type} {L:List α} {i:Nat} {e:α} (h:L[i]?=some e):L=L.take i++e::L.drop (i+1):=by
 have hl:=(List.getElem?_eq_some_iff.1 h).1
 have he:=(List.getElem?_eq_some_iff.1 h).2
 rw [<- he,<- List.drop_eq_getElem_cons hl,List.take_append_drop]
theorem modify_split {α:Type} {A C:List α} {e:α} (f:α->α):(A++e::C).modify A.length f=A++f e::C:=by
 induction A with
 |nil=>rfl
 |cons a A ih=>simp [List.modify_succ_cons,ih]
theorem Ag4 (h:Ad9 Z1 w x s S i d):∃ g n cap tail,RowX w d g n cap tail (Aa7 S i)/\Rw.Good (Aa7 S i) /\
  ∀ l' w',Rw.Good l'->RowX w' d g n cap tail l'->Only [g] w w'->Ad9 Z1 w' x s (Ae0 S i l') i d/\Scn.Fr Z1 PT w w':=by
 obtain ⟨sv,lv,L,R,h1,h2,h3,e,he,rfl⟩:=h
 have hs:=list_split he
 have hil:=(List.getElem?_eq_some_iff.1 he).1
 have hlt:(L.take i).length=i:=by rw [List.length_take];omega
 have hline:Aa7 S i=e.l:=by
  unfold Aa7
  rw [<- h2]
  simp [vw,he]
 obtain ⟨id,ed,eg,edr,el⟩:=e
 generalize L.take i=A at hs hlt
 generalize L.drop (i+1)=C at hs
 subst hs
 have hr:=h1.rows ⟨id,ed,eg,edr,el⟩ (by simp)
 have htg:=hr.typ.2
 have hzg:=(h1.zr ⟨id,ed,eg,edr,el⟩ (by simp)).2
 obtain ⟨g1,g2,g3,n,cap,tail,hx⟩:=hr
 rw [hline]
 refine ⟨eg,n,cap,tail,hx,g1,fun l' w' hg hx' ho=>?_⟩
 obtain ⟨m,hf⟩:=h1.row (e':=⟨id,ed,eg,edr,l'⟩) htg (by decide) (by decide) (by decide) hzg (by simp [PT]) ho h1.apartG ⟨hg,Nat.zero_le _,Nat.zero_le _,_,_,_,hx'⟩ rfl (.inl rfl)
 refine ⟨⟨sv,lv,A++⟨id,ed,eg,edr,l'⟩::C,R,?_,?_,h3,⟨id,ed,eg,edr,l'⟩,?_,rfl⟩,hf⟩
 ·have e1:fl Ab5 (A++⟨id,ed,eg,edr,l'⟩::C)=fl Ab5 (A++⟨id,ed,eg,edr,el⟩::C):=fl_same (e:=⟨id,ed,eg,edr,el⟩) (e':=⟨id,ed,eg,edr,l'⟩) rfl rfl
  have e2:(A++(⟨id,ed,eg,edr,l'⟩:En)::C).length=(A++(⟨id,ed,eg,edr,el⟩:En)::C).length:=by simp
  rw [e1,e2]
  exact m
 ·show vw _=(S.L).modify i _
  rw [<- h2,<- hlt]
  have:(vw (A++⟨id,ed,eg,edr,el⟩::C))=vw A++(id,el)::vw C:=by simp [vw]
  rw [this,<- Ao5 A,modify_split]
  simp [vw]
 ·rw [<- hlt,List.getElem?_append_right (J5 _),Nat.sub_self]
  rfl
theorem Bg5 (h:Ad9 Z1 w x s S i d):Rw.Good (Aa7 S i):=by
 obtain ⟨g,n,cap,tail,_,hg,_⟩:=Ag4 h
 exact hg
theorem Be1 (S:Scr) (i:Nat) (l:List Cel):(Ae0 S i l).L.length=S.L.length:=by simp [Ae0]
def Cb2 (Z1:Zn) (w:World) (x s:Nat) (S:Scr) (i d:Nat) (v:Value) (e:Ending) (w':World):Prop:=e=.returned v/\Ad9 Z1 w' x s S i d/\Scn.Fr Z1 PT w w'
theorem Bc0 (h:Ad9 Z1 w x s S i d) (lo hi:Int) (a:At) :
  Calls Tryz.prog 183 #[.pointer (some ⟨d,0,none⟩),.int .i64 lo,.int .i64 hi,.agg #[.int .u32 a.f,.int .u32 a.b,.int .u16 a.g]] w (Cb2 Z1 w x s (Ae0 S i (eraL (Aa7 S i) lo hi a)) i d (.int .i64 0)):=by
 obtain ⟨g,n,cap,tail,hx,hg,hb⟩:=Ag4 h
 refine (Bn1 hx hg.whole lo hi a).mono fun e w' ⟨he,hx',ho⟩=>?_
 have hl:Av1 (Aa7 S i) (Ab1 lo n) (Ab1 hi n) a=eraL (Aa7 S i) lo hi a:=by unfold eraL;rw [hx.len]
 rw [hl] at hx'
 obtain ⟨h1,h2⟩:=hb _ _ (hg.era lo hi a) hx' ho
 exact ⟨he,h1,h2⟩
theorem Ax9 (h:Ad9 Z1 w x s S i d) (col k:Int) (a:At) :
  Calls Tryz.prog 111 #[.pointer (some ⟨d,0,none⟩),.int .i64 col,.int .i64 k,.agg #[.int .u32 a.f,.int .u32 a.b,.int .u16 a.g]] w (Cb2 Z1 w x s (Ae0 S i (inL (Aa7 S i) col k a)) i d (.int .i64 0)):=by
 obtain ⟨g,n,cap,tail,hx,hg,hb⟩:=Ag4 h
 refine (insert_any hx hg.whole col k a).mono fun e w' ⟨he,hx',ho⟩=>?_
 have hl:insL (Aa7 S i) (Ab1 col n) (Ab1 k (n - Ab1 col n)) a=inL (Aa7 S i) col k a:=by unfold inL;rw [hx.len]
 rw [hl] at hx'
 obtain ⟨h1,h2⟩:=hb _ _ (hg.ins col k a) hx' ho
 exact ⟨he,h1,h2⟩
theorem delete_row (h:Ad9 Z1 w x s S i d) (col k:Int) (a:At) :
  Calls Tryz.prog 184 #[.pointer (some ⟨d,0,none⟩),.int .i64 col,.int .i64 k,.agg #[.int .u32 a.f,.int .u32 a.b,.int .u16 a.g]] w (Cb2 Z1 w x s (Ae0 S i (deL (Aa7 S i) col k a)) i d (.int .i64 0)):=by
 obtain ⟨g,n,cap,tail,hx,hg,hb⟩:=Ag4 h
 refine (delete_any hx hg.whole col k a).mono fun e w' ⟨he,hx',ho⟩=>?_
 have hl:delL (Aa7 S i) (Ab1 col n) (Ab1 k (n - Ab1 col n)) a=deL (Aa7 S i) col k a:=by unfold deL;rw [hx.len]
 rw [hl] at hx'
 obtain ⟨h1,h2⟩:=hb _ _ (hg.del col k a) hx' ho
 exact ⟨he,h1,h2⟩
theorem Ba6 (h:Ad9 Z1 w x s S i d) (col r:Int) (hc:-9223372036854775808<=col/\col<=9223372036854775807) (wide:Bool) (a:At) :
  Calls Tryz.prog 112 #[.pointer (some ⟨d,0,none⟩),.int .i64 col,.int .i32 r,.bool wide,.agg #[.int .u32 a.f,.int .u32 a.b,.int .u16 a.g]] w (Cb2 Z1 w x s (Ae0 S i (putL (Aa7 S i) col r wide a)) i d (.int .i64 (putV (Aa7 S i) col r wide a))):=by
 obtain ⟨g,n,cap,tail,hx,hg,hb⟩:=Ag4 h
 generalize Aa7 S i=l at hx hg hb |-
 have hgd:=hg.put col r wide a
 by_cases hok:Ca3 l col r wide a
 ·have hok':=hok
  obtain ⟨k1,k2,k3⟩:=hok'
  obtain ⟨c,rfl⟩:∃ c:Nat,col=c:=⟨col.toNat,by omega⟩
  refine (put_yes hx hg.whole c r wide a k1 (by have:=hx.len;omega)).mono ?_
  rintro y w' ⟨rfl,hx',ho⟩
  have hl:putL l c r wide a=setL l c (cellsPut r wide a):=by unfold putL;rw [if_pos hok];rfl
  have hv:putV l c r wide a=0:=by unfold putV;rw [if_pos hok]
  rw [hv]
  rw [hl] at hgd |-
  obtain ⟨h1,h2⟩:=hb _ _ hgd hx' ho
  exact ⟨rfl,h1,h2⟩
 ·have hl:putL l col r wide a=l:=by unfold putL;rw [if_neg hok]
  have hv:putV l col r wide a=2:=by unfold putV;rw [if_neg hok]
  rw [hl] at hgd
  rw [hl,hv]
  have hno:Am4 r=false\/col<0\/(n:Int)<=col\/(wide=true/\(n:Int)<=col+1):=by
   have hlen:=hx.len
   unfold Ca3 at hok
   rcases hrb:Am4 r with _|_
   ·exact .inl rfl
   ·right
    have:¬ (0<=col/\col+((cellsPut r wide a).length:Int)<=(l.length:Int)):=fun hh=>hok ⟨hrb,hh.1,hh.2⟩
    cases wide
    ·have h1:(cellsPut r false a).length=1:=rfl
     rw [h1] at this
     by_cases c0:col<0
     ·exact .inl c0
     ·exact .inr (.inl (by omega))
    ·have h1:(cellsPut r true a).length=2:=rfl
     rw [h1] at this
     by_cases c0:col<0
     ·exact .inl c0
     ·exact .inr (.inr ⟨rfl,by omega⟩)
  refine (Cg4 hx col r hc wide a hno).mono ?_
  rintro y w' ⟨rfl,hx',ho⟩
  obtain ⟨h1,h2⟩:=hb _ _ hgd hx' ho
  exact ⟨rfl,h1,h2⟩
theorem Av7 (h:Ad9 Z1 w x s S i d) (col r:Int) :
  Calls Tryz.prog 104 #[.pointer (some ⟨d,0,none⟩),.int .i64 col,.int .i32 r] w (Cb2 Z1 w x s (Ae0 S i (joiL (Aa7 S i) col r)) i d (.int .i64 (joiV (Aa7 S i) col r))):=by
 obtain ⟨g,n,cap,tail,hx,hg,hb⟩:=Ag4 h
 generalize Aa7 S i=l at hx hg hb |-
 have hgd:=hg.joi col r
 by_cases hok:Bz9 l col r
 ·have hok':=hok
  obtain ⟨k1,k2,k3⟩:=hok'
  obtain ⟨c,rfl⟩:∃ c:Nat,col=c:=⟨col.toNat,by omega⟩
  refine (join_yes hx hg.whole (fun c hc=>(hg.cell c hc).four) c r k1 (by have:=hx.len;omega)).mono ?_
  rintro y w' ⟨rfl,hx',ho⟩
  have hl:joiL l c r=Bj5 l c r:=by unfold joiL;rw [if_pos hok];rfl
  have hv:joiV l c r=Ca0 l c:=by unfold joiV;rw [if_pos hok];rfl
  rw [hv]
  rw [hl] at hgd |-
  obtain ⟨h1,h2⟩:=hb _ _ hgd hx' ho
  exact ⟨rfl,h1,h2⟩
 ·have hl:joiL l col r=l:=by unfold joiL;rw [if_neg hok]
  have hv:joiV l col r=2:=by unfold joiV;rw [if_neg hok]
  rw [hl] at hgd
  rw [hl,hv]
  have hno:Am4 r=false\/col<0\/(n:Int)<=col:=by
   have hlen:=hx.len
   unfold Bz9 at hok
   rcases hrb:Am4 r with _|_
   ·exact .inl rfl
   ·right
    by_cases c0:col<0
    ·exact .inl c0
    ·exact .inr (by
      have:¬ (0<=col/\col<(l.length:Int)):=fun hh=>hok ⟨hrb,hh.1,hh.2⟩
      omega)
  refine (join_no hx col r hno).mono ?_
  rintro y w' ⟨rfl,rfl⟩
  obtain ⟨h1,h2⟩:=hb _ _ hgd hx (Only.refl _ _)
  exact ⟨rfl,h1,h2⟩
theorem Ao9 (h:Ad9 Z1 w x s S i d) (k:Int):Calls Tryz.prog 110 #[.pointer (some ⟨d,0,none⟩),.int .i64 k] w fun e w'=>e=.returned (.bool (Al9 (Aa7 S i) k))/\Below w.heap.size w w':=by
 obtain ⟨g,n,cap,tail,hx,hg,hb⟩:=Ag4 h
 exact blank'_any hx k
theorem Ak5 (h:Ad9 Z1 w x s S i d) (k:Nat) (hk:k<(Aa7 S i).length):Calls Tryz.prog 103 #[.pointer (some ⟨d,0,none⟩),.int .i64 k] w (Ca7 w (Aa7 S i)[k]):=by
 obtain ⟨g,n,cap,tail,hx,hg,hb⟩:=Ag4 h
 exact cell_yes hx (fun c hc=>(hg.cell c hc).four) k (by have:=hx.len;omega) hk
theorem Bb3 (h:Ad9 Z1 w x s S i d) (k:Int) (hk:¬ (0<=k/\k<((Aa7 S i).length:Int))):Calls Tryz.prog 103 #[.pointer (some ⟨d,0,none⟩),.int .i64 k] w (Ci7 w 6):=by
 obtain ⟨g,n,cap,tail,hx,hg,hb⟩:=Ag4 h
 exact cell_no hx k (by have:=hx.len;omega)
def Lat (Z1:Zn) (w:World) (T:Ter) (P:Pt) (d:Nat):Prop:=Ad9 Z1 w (P.x T.other) P.s T.vis T.c.row d
theorem line_is (T:Ter):line T=Aa7 T.vis T.c.row:=rfl
theorem Ad3 (h:TMx Z w t T P) (ok:Ok T) (hd:Lat Z1 w T P d):Calls Tryz.prog 102 #[.pointer (some ⟨t,0,none⟩)] w (Asks (.pointer (some ⟨d,0,none⟩)) w):=by
 have c8:=h.c8
 have hs:=h.s0
 have hsh:=J0 (fun m=>Aa9 (h.drew m))
 have hrw:=J0 (fun m=>Cn8 (Aa6 hd (Aa4 (Below.refl _ _) m)) ok.fit.len ok.row)
 generalize P.h T.other=hh at hs hsh
 generalize P.x T.other=xx at hs hrw
 generalize T.c.row=row at c8 hrw
 clear h ok hd
 go_enter Tryz.func102,Tryz.ntmps102
 go_wp2
 go_quiet (first
  |(go_at_call 36;exact Bx6 (hsh.out _))
  |(go_at_call 44;exact Bx6 (hrw.out _)))
 go_wp2
 go_ret
 exact ⟨rfl,_,rfl⟩
end
end Go.Proofs.YtkjpjegmanpbfaaGreatDoor.Emu
namespace Go.Proofs.YtkjpjegmanpbfaaGreatDoor.Emu
open Go Rw Scn
section
variable {T:Ter}
theorem Ai3 (i:Int) {n:Nat} (h:1<=n):Aj3 i n<n:=by unfold Aj3;omega
theorem Ok.place (h:Ok T) (r c:Int):Ok (place T r c) :=
 ⟨h.fit,h.fitm,h.rows,h.cols,Ai3 _ h.fit.len,Ai3 _ h.fit.c1,h.sv,h.svm,h.tn,h.alt⟩
theorem Ok.tell (h:Ok T) (e:Ev):Ok (tell T e):=⟨h.fit,h.fitm,h.rows,h.cols,h.row,h.col,h.sv,h.svm,h.tn,h.alt⟩
theorem Ok.tellOther (h:Ok T):Ok (tellOther T):=h.tell _
theorem Ok.move (h:Ok T) (r c:Int):Ok (move T r c):=(h.place r c).tellOther
theorem Ok.tellFeed (h:Ok T) (b:Bool):Ok (tellFeed T b):=h.tell _
end
end Go.Proofs.YtkjpjegmanpbfaaGreatDoor.Emu
namespace Go.Proofs.YtkjpjegmanpbfaaGreatDoor.Emu
open Go RowKit Com Rw Lns Scn
section
variable {Z Z1:Zn} {w w':World} {t:Nat} {T:Ter} {P:Pt} {v:Value} {l:List Int}
theorem Ac7 (h:TM Z w t T) (ok:Ok T) (hj:T.jr.length<=90000):Calls Tryz.prog 90 #[.pointer (some ⟨t,0,none⟩)] w (Does Z w t (tellOther T)):=by
 obtain ⟨P,h⟩:=h
 have hh:=J0 (Ag8 h ok 4)
 have ht:=J0 (fun w1 (hb:Below w.heap.size w w1)=>Aw7 (h.below hb) hj (here T 4))
 unfold tellOther
 generalize here T 4=e at hh ht |-
 clear h ok
 go_enter Tryz.func90,Tryz.ntmps90
 go_wp2_with (first
  |(go_at_call 105;(with_reducible refine hh.out.mono ?_);rintro e w1 ⟨rfl,hb⟩)
  |(go_at_call 155;(with_reducible refine (ht.out _ hb).mono ?_);rintro e w2 ⟨⟨v2,rfl⟩,⟨jv,hres⟩,hf⟩))
 go_end0
 exact ⟨⟨_,rfl⟩,⟨_,hres⟩,(Scn.Fr.of_below hb).trans hf⟩
theorem Ao4 (h:TM Z w t T) (ok:Ok T) (hj:T.jr.length<=90000):Calls Tryz.prog 114 #[.pointer (some ⟨t,0,none⟩)] w (Does Z w t (tellStraight T)):=by
 obtain ⟨P,h⟩:=h
 have hh:=J0 (Ag8 h ok 3)
 have ht:=J0 (fun w1 (hb:Below w.heap.size w w1)=>Aw7 (h.below hb) hj (here T 3))
 unfold tellStraight
 generalize here T 3=e at hh ht |-
 clear h ok
 go_enter Tryz.func114,Tryz.ntmps114
 go_wp2_with (first
  |(go_at_call 105;(with_reducible refine hh.out.mono ?_);rintro e w1 ⟨rfl,hb⟩)
  |(go_at_call 155;(with_reducible refine (ht.out _ hb).mono ?_);rintro e w2 ⟨⟨v2,rfl⟩,⟨jv,hres⟩,hf⟩))
 go_end0
 exact ⟨⟨_,rfl⟩,⟨_,hres⟩,(Scn.Fr.of_below hb).trans hf⟩
theorem tellReset_any (h:TM Z w t T) (ok:Ok T) (hj:T.jr.length<=90000):Calls Tryz.prog 117 #[.pointer (some ⟨t,0,none⟩)] w (Does Z w t (tellReset T)):=by
 obtain ⟨P,h⟩:=h
 have hh:=J0 (Ag8 h ok 5)
 have ht:=J0 (fun w1 (hb:Below w.heap.size w w1)=>Aw7 (h.below hb) hj (here T 5))
 unfold tellReset
 generalize here T 5=e at hh ht |-
 clear h ok
 go_enter Tryz.func117,Tryz.ntmps117
 go_wp2_with (first
  |(go_at_call 105;(with_reducible refine hh.out.mono ?_);rintro e w1 ⟨rfl,hb⟩)
  |(go_at_call 155;(with_reducible refine (ht.out _ hb).mono ?_);rintro e w2 ⟨⟨v2,rfl⟩,⟨jv,hres⟩,hf⟩))
 go_end0
 exact ⟨⟨_,rfl⟩,⟨_,hres⟩,(Scn.Fr.of_below hb).trans hf⟩
theorem Bw6 (h:TM Z w t T) (fit:Fit T.vis) (hj:T.jr.length<=90000) (r c:Int) (ok:Ok (place T r c)):Calls Tryz.prog 40 #[.pointer (some ⟨t,0,none⟩),.int .i64 r,.int .i64 c] w (Does Z w t (move T r c)):=by
 obtain ⟨P,h⟩:=h
 have hp:=J0 (Bp4 h fit r c)
 have ht:=J0 (fun w1 (h1:TM Z w1 t (place T r c))=>Ac7 h1 ok hj)
 unfold move
 generalize place T r c=T1 at hp ht |-
 clear h ok fit
 go_enter Tryz.func40,Tryz.ntmps40
 go_wp2_with (first
  |(go_at_call 89;(with_reducible refine hp.out.mono ?_);rintro e w1 ⟨⟨v1,rfl⟩,h1,hf1⟩)
  |(go_at_call 90;(with_reducible refine (ht.out _ h1.tm).mono ?_);rintro e w2 ⟨⟨v2,rfl⟩,hres,hf⟩))
 go_end0
 exact ⟨⟨_,rfl⟩,hres,hf1.trans hf⟩
theorem Ac6 (h:TM Z w t T) (ok:Ok T) (hj:T.jr.length<=90000) (r c:Int):Calls Tryz.prog 40 #[.pointer (some ⟨t,0,none⟩),.int .i64 r,.int .i64 c] w (Does Z w t (move T r c)):=Bw6 h ok.fit hj r c (ok.place r c)
theorem Bi8 {k:Eqt.Ext w} {a:Addr} {v:Value} (h:w.cell? a=some v):k.w.cell? a=some v:=by
 have hlt:=World.block_lt_of_cell? _ _ h
 exact (World.cell?_of_block (w:=w) (k.below.block _ hlt)).trans h
theorem nextTab_any (h:TM Z w t T) (ok:Ok T) (hj:T.jr.length<=90000):Calls Tryz.prog 60 #[.pointer (some ⟨t,0,none⟩)] w (Does Z w t (nextTab T)):=by
 obtain ⟨P,h⟩:=h
 have c8:=fun k:Eqt.Ext w=>Bi8 (k:=k) h.c8
 have c9:=fun k:Eqt.Ext w=>Bi8 (k:=k) h.c9
 have c20:=fun k:Eqt.Ext w=>Bi8 (k:=k) h.c20
 have hn:=J0 (fun k:Eqt.Ext w=>Tbs.next_any (h.below k.below).tabs (by have:=ok.tn;have:=ok.fit.c1;omega) (by have:=ok.tn;have:=ok.fit.c5;omega) T.c.col 1 (h.tbl.below k.below).tbs)
 have hp:=J0 (fun w1 (hb:Below w.heap.size w w1)=>Af5 (h.below hb) ok T.c.row (Tbs.nextF T.tn T.tf T.c.col 1))
 have ht:=J0 (fun w1 (h1:TM Z w1 t (place T T.c.row (Tbs.nextF T.tn T.tf T.c.col 1)))=>Ao4 h1 (ok.place _ _) hj)
 unfold nextTab
 generalize Tbs.nextF T.tn T.tf T.c.col 1=y at hn hp ht |-
 generalize place T T.c.row y=T1 at hp ht |-
 generalize T.c.row=row at c8 hp
 generalize T.c.col=col at c9 hn
 clear h ok
 go_enter Tryz.func60,Tryz.ntmps60
 go_wp2
 refine Eqt.region_ext_tail 16 (by kernel_rfl) (by kernel_rfl) ?_
 simp only [List.take_succ_cons,List.take_zero,List.drop_succ_cons,List.drop_zero]
 repeat (go_big_quiet_step (first
  |(go_at_call 113;exact Eqt.q_ext (hn.out _))))
 refine wpQuiet_nil ?_
 intro w9 hw9
 obtain ⟨k9,rfl⟩:=hw9
 have hb9:=k9.below
 generalize k9.w=w9 at hb9 |-
 go_wp2_with (first
  |(go_at_call 89;(with_reducible refine (hp.out _ hb9).mono ?_);rintro e w1 ⟨⟨v1,rfl⟩,h1,hf1⟩)
  |(go_at_call 114;(with_reducible refine (ht.out _ h1.tm).mono ?_);rintro e w2 ⟨⟨v2,rfl⟩,hres,hf⟩))
 go_end0
 exact ⟨⟨_,rfl⟩,hres,((Scn.Fr.of_below hb9).trans hf1).trans hf⟩
end
end Go.Proofs.YtkjpjegmanpbfaaGreatDoor.Emu
namespace Go.Proofs.YtkjpjegmanpbfaaGreatDoor.Emu
open Go Rw Scn
section
variable {T:Ter} {S:Scr}
theorem Bt5 (hm:S.most=T.most) (hk:S.kp=T.other.isNone):(T.putVis S).vis=S:=by
 obtain ⟨m,c,p,nx,most,R,main,other,tn,tf,pr,la,jr,rp⟩:=T
 obtain ⟨snx,smost,skp,sc,st,sb,sL,sR⟩:=S
 simp only at hm hk
 subst hm hk
 cases other<;>rfl
theorem Ay4 (T:Ter) (S:Scr):(T.putVis S).c=T.c:=by unfold Ter.putVis;split<;>rfl
theorem Cm0 (T:Ter) (S:Scr):(T.putVis S).p=T.p:=by unfold Ter.putVis;split<;>rfl
theorem Ci5 (T:Ter) (S:Scr):(T.putVis S).m=T.m:=by unfold Ter.putVis;split<;>rfl
theorem Ae6 (T:Ter) (S:Scr):(T.putVis S).jr=T.jr:=by unfold Ter.putVis;split<;>rfl
theorem put_rp (T:Ter) (S:Scr):(T.putVis S).rp=T.rp:=by unfold Ter.putVis;split<;>rfl
theorem put_nx (T:Ter) (S:Scr):(T.putVis S).nx=S.nx:=by unfold Ter.putVis;split<;>rfl
theorem put_most (T:Ter) (S:Scr):(T.putVis S).most=T.most:=by unfold Ter.putVis;split<;>rfl
theorem Ae8 (T:Ter) (S:Scr):(T.putVis S).prints=T.prints:=by unfold Ter.putVis;split<;>rfl
theorem put_isNone (T:Ter) (S:Scr):(T.putVis S).other.isNone=T.other.isNone:=by
 unfold Ter.putVis
 split<;>simp [*]
theorem put_put (T:Ter) (S S':Scr):(T.putVis S).putVis S'=T.putVis S':=by
 obtain ⟨m,c,p,nx,most,R,main,other,tn,tf,pr,la,jr,rp⟩:=T
 cases other<;>rfl
theorem Cj2 {S:Scr} (h:Fit S) {n:Nat} (hn:S.nx<=n) (R:List Ln):Fit { S with nx:=n,R:=R } :=
 ⟨h.len,h.len5,h.bot,h.top,h.c1,h.c5,h.wid,fun p hp=>⟨(h.ids p hp).1,by have:=(h.ids p hp).2;show p.1<(n:Int);omega⟩,Nat.le_trans h.pos hn⟩
theorem Ok.putVis (h:Ok T) (hm:S.most=T.most) (hk:S.kp=T.other.isNone) (hF:Fit S) (hl:S.L.length=T.vis.L.length) (hc:S.cols=T.vis.cols) (hn:T.nx<=S.nx):Ok (T.putVis S):=by
 obtain ⟨h1,h2,h3,h4,h5,h6,h8,h9,h10,h11⟩:=h
 obtain ⟨m,c,p,nx,most,R,main,other,tn,tf,pr,la,jr,rp⟩:=T
 obtain ⟨snx,smost,skp,sc,st,sb,sL,sR⟩:=S
 simp only at hm hk hl hc hn
 subst hm hk
 cases other with
 |none =>
  simp only [Ter.vis,Ter.sh,Sh.scr,Ter.mscr] at h1 h2 h3 h4 h5 h6 h8 h9 h10 hl hc
  subst hc
  exact ⟨hF,hF,rfl,rfl,by simpa [Ter.putVis,Ter.vis,Ter.sh,Sh.scr,Sh.of,hl] using h5,by simpa [Ter.putVis,Ter.vis,Ter.sh,Sh.scr,Sh.of] using h6,
   by simpa [Ter.putVis,Ter.vis,Ter.sh,Sh.scr,Sh.of,hl] using h8,by simpa [Ter.putVis,Ter.vis,Ter.sh,Sh.scr,Sh.of,hl] using h9,by simpa [Ter.putVis,Ter.vis,Ter.sh,Sh.scr,Sh.of] using h10,h11⟩
 |some o =>
  simp only [Ter.vis,Ter.sh,Sh.scr,Ter.mscr] at h1 h2 h3 h4 h5 h6 h8 h9 h10 hl hc
  subst hc
  exact ⟨hF,Cj2 h2 hn sR,by simpa [Ter.putVis,Ter.vis,Ter.sh,Sh.scr,Sh.of,hl] using h3,by simpa [Ter.putVis,Ter.vis,Ter.sh,Sh.scr,Sh.of] using h4,by simpa [Ter.putVis,Ter.vis,Ter.sh,Sh.scr,Sh.of,hl] using h5,by simpa [Ter.putVis,Ter.vis,Ter.sh,Sh.scr,Sh.of] using h6,
   by simpa [Ter.putVis,Ter.vis,Ter.sh,Sh.scr,Sh.of,hl] using h8,h9,by simpa [Ter.putVis,Ter.vis,Ter.sh,Sh.scr,Sh.of] using h10,h11⟩
theorem Ch6 {S:Scr} (h:Fit S) {frm:Nat} (hf:frm<=S.bot) (n:Int) (a:At) (b:Bool):(upS S frm n a b).L.length=S.L.length:=by
 unfold upS
 have:=Ak2 n (S.bot+1 - frm)
 have:=h.bot
 rw [Ap0 (by omega)]
 omega
theorem Bn0 {S:Scr} (h:Fit S) {tp:Nat} (hf:tp<=S.bot) (n:Int) (a:At):(Ag6 S tp n a).L.length=S.L.length:=by
 unfold Ag6
 have:=Ak2 n (S.bot+1 - tp)
 have:=h.bot
 rw [Ap0 (by omega)]
 omega
theorem Ok.up (h:Ok T) {frm:Nat} (hf:frm<=T.vis.bot) (n:Int) (a:At) (b:Bool):Ok (T.putVis (upS T.vis frm n a b)) :=
 h.putVis rfl rfl (h.fit.up hf n a b) (Ch6 h.fit hf n a b) rfl (Nat.le_add_right _ _)
theorem Ok.upT (h:Ok T) (n:Int) (a:At):Ok (T.putVis (upT T.vis n a)):=h.up h.fit.top n a _
theorem Ok.down (h:Ok T) {tp:Nat} (hf:tp<=T.vis.bot) (n:Int) (a:At):Ok (T.putVis (Ag6 T.vis tp n a)) :=
 h.putVis rfl rfl (h.fit.down hf n a) (Bn0 h.fit hf n a) rfl (Nat.le_add_right _ _)
theorem Ok.setCol (h:Ok T) {n:Nat} (hn:n<T.vis.cols):Ok (setCol T n):=⟨h.fit,h.fitm,h.rows,h.cols,h.row,hn,h.sv,h.svm,h.tn,h.alt⟩
end
