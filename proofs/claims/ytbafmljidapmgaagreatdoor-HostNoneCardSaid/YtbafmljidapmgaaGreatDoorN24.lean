/- Part 24 of the proof that the card of HostNone holds. -/
import Derived.Test.YtbafmljidapmgaaGreatDoorN23
set_option maxHeartbeats 16000000
set_option maxRecDepth 100000
namespace Go.Proofs.YtbafmljidapmgaaGreatDoor.Emu
open Go RowKit Com Rw Lns Scn
structure Ok (T:Ter):Prop where
 fit:Fit T.vis
 fitm:Fit T.mscr
 rows:T.main.L.length=T.vis.L.length
 cols:T.main.cols=T.vis.cols
 row:T.c.row<T.vis.L.length
 col:T.c.col<T.vis.cols
 sv:T.sh.sv.c.row<T.vis.L.length/\T.sh.sv.c.col<T.vis.cols
 svm:T.main.sv.c.row<T.main.L.length/\T.main.sv.c.col<T.main.cols
 tn:T.tn=T.vis.cols
 alt:T.other.isSome=T.m.a6
section
variable {Z Z1:Zn} {w w':World} {t:Nat} {T:Ter} {P:Pt} {v:Value} {l:List Int}
theorem Ab0 (h:TMx Z w t T P):Calls Tryz.prog 163 #[.pointer (some ⟨t,0,none⟩)] w fun e w'=>e=.returned (.pointer (some ⟨P.h T.other,0,none⟩))/\w=w':=by
 have c18:=h.c18
 have c19:=h.c19
 unfold Pt.h
 rcases ho:T.other with _|o
 ·rw [ho] at c19
  unfold optP at c19
  clear h ho
  go_enter Tryz.func163,Tryz.ntmps163
  go_wp2
  go_ret
  exact ⟨rfl,rfl⟩
 ·rw [ho] at c19
  unfold optP at c19
  clear h ho
  go_enter Tryz.func163,Tryz.ntmps163
  go_wp2
  go_ret
  exact ⟨rfl,rfl⟩
theorem Am9 {x s:Nat} {S:Scr} (h:SC Z1 w x s S) (hl:1<=S.L.length):Calls Tryz.prog 178 #[.pointer (some ⟨x,0,none⟩)] w (Asks (.tuple #[.int .i64 S.top,.int .i64 S.bot]) w):=by
 have hm:=J0 (Ak7 h hl)
 obtain ⟨_,_,_,_,c4,c5⟩:=h.cells
 generalize S.top=t at c4 |-
 generalize S.bot=b at c5 |-
 clear h
 go_enter Tryz.func178,Tryz.ntmps178
 go_wp2_with ((go_at_call 227;(with_reducible refine (hm.out).mono ?_);rintro e w' ⟨rfl,rfl⟩))
 go_quiet (fail)
 go_wp2
 go_ret2
 exact ⟨rfl,_,rfl⟩
theorem Bo2 (h:TMx Z w t T P) (ok:Ok T) (n:Int) (hn:0<=n/\n<=65535):Calls Tryz.prog 375 #[.pointer (some ⟨t,0,none⟩),.int .i64 n] w (Asks (.int .i64 (above T n)) w):=by
 have c8:=h.c8
 have hs:=h.s0
 have hsh:=J0 (Ab0 h)
 obtain ⟨Z1,hf⟩:=h.focus
 have hm:=Am9 hf.sc ok.fit.len
 have h5:=ok.fit.len5
 have hr:=ok.row
 have hb:=ok.fit.bot
 have ht:=ok.fit.top
 unfold above
 generalize P.h T.other=hh at hs hsh
 generalize P.x T.other=xx at hs hm
 generalize T.vis.bot=bot at hm hb ht
 generalize T.vis.top=top at hm ht |-
 generalize T.vis.L.length=rows at h5 hr hb
 generalize T.c.row=row at c8 hr |-
 replace hm:=J0 hm
 have hw:IntKind.i64.wrap ((row:Int) - n)=(row:Int) - n:=IntWalk.i64_in _ (by omega)
 clear h hf ok
 by_cases hc:top<=row
 ·rw [if_pos hc]
  have hd:decide ((top:Int)<=(row:Int))=true:=decide_eq_true (by omega)
  have hd2:decide (top<=row)=true:=decide_eq_true hc
  obtain ⟨y,hy⟩:∃ y,max (top:Int) ((row:Int) - n)=y:=⟨_,rfl⟩
  rw [hy]
  replace hy:=J0 hy
  go_enter Tryz.func375,Tryz.ntmps375
  go_wp2_with (first
   |(go_at_call 163;(with_reducible refine hsh.out.mono ?_);rintro e w1 ⟨rfl,rfl⟩)
   |(go_at_call 178;(with_reducible refine hm.out.mono ?_);rintro e w1 ⟨rfl,q,rfl⟩)
   |(with_reducible show wpList _ _ _ (⟨some 31,.call _,_,_,_,_⟩::_) _ _;go_must (refine As1 rfl (.tmp 23) (.tmp 30) _ rfl top ((row:Int) - n) y rfl rfl hy.out ?_)))
  go_ret
  exact ⟨rfl,_,rfl⟩
 ·rw [if_neg hc]
  have hd:decide ((top:Int)<=(row:Int))=false:=decide_eq_false (by omega)
  have hd2:decide (top<=row)=false:=decide_eq_false hc
  go_enter Tryz.func375,Tryz.ntmps375
  go_wp2_with (first
   |(go_at_call 163;(with_reducible refine hsh.out.mono ?_);rintro e w1 ⟨rfl,rfl⟩)
   |(go_at_call 178;(with_reducible refine hm.out.mono ?_);rintro e w1 ⟨rfl,q,rfl⟩))
  go_ret
  exact ⟨rfl,_,rfl⟩
end
def Does (Z:Zn) (w:World) (t:Nat) (T:Ter) (e:Ending) (w':World):Prop:=(∃ v,e=.returned v)/\TM Z w' t T/\Scn.Fr Z TT w w'
section
variable {Z Z1:Zn} {w w':World} {t:Nat} {T:Ter} {P:Pt} {v:Value} {l:List Int}
theorem Au6 (h:TMx Z w t T P) (ok:Ok T) (n:Int) (hn:0<=n/\n<=65535):Calls Tryz.prog 377 #[.pointer (some ⟨t,0,none⟩),.int .i64 n] w (Asks (.int .i64 (below T n)) w):=by
 have c8:=h.c8
 have hs:=h.s0
 have hsh:=J0 (Ab0 h)
 obtain ⟨Z1,hf⟩:=h.focus
 have hm:=Am9 hf.sc ok.fit.len
 have h5:=ok.fit.len5
 have hr:=ok.row
 have hb:=ok.fit.bot
 have ht:=ok.fit.top
 unfold below
 generalize P.h T.other=hh at hs hsh
 generalize P.x T.other=xx at hs hm
 generalize T.vis.bot=bot at hm hb ht |-
 generalize T.vis.top=top at hm ht
 generalize T.vis.L.length=rows at h5 hr hb
 generalize T.c.row=row at c8 hr |-
 replace hm:=J0 hm
 have hw:IntKind.i64.wrap ((row:Int)+n)=(row:Int)+n:=IntWalk.i64_in _ (by omega)
 clear h hf ok
 by_cases hc:row<=bot
 ·rw [if_pos hc]
  have hd:decide ((row:Int)<=(bot:Int))=true:=decide_eq_true (by omega)
  have hd2:decide (row<=bot)=true:=decide_eq_true hc
  obtain ⟨y,hy⟩:∃ y,min (bot:Int) ((row:Int)+n)=y:=⟨_,rfl⟩
  rw [hy]
  replace hy:=J0 hy
  go_enter Tryz.func377,Tryz.ntmps377
  go_wp2_with (first
   |(go_at_call 163;(with_reducible refine hsh.out.mono ?_);rintro e w1 ⟨rfl,rfl⟩)
   |(go_at_call 178;(with_reducible refine hm.out.mono ?_);rintro e w1 ⟨rfl,q,rfl⟩)
   |(with_reducible show wpList _ _ _ (⟨some 31,.call _,_,_,_,_⟩::_) _ _;go_must (refine As2 rfl (.tmp 23) (.tmp 30) _ rfl bot ((row:Int)+n) y rfl rfl hy.out ?_)))
  go_ret
  exact ⟨rfl,_,rfl⟩
 ·rw [if_neg hc]
  have hd:decide ((row:Int)<=(bot:Int))=false:=decide_eq_false (by omega)
  have hd2:decide (row<=bot)=false:=decide_eq_false hc
  go_enter Tryz.func377,Tryz.ntmps377
  go_wp2_with (first
   |(go_at_call 163;(with_reducible refine hsh.out.mono ?_);rintro e w1 ⟨rfl,rfl⟩)
   |(go_at_call 178;(with_reducible refine hm.out.mono ?_);rintro e w1 ⟨rfl,q,rfl⟩))
  go_ret
  exact ⟨rfl,_,rfl⟩
theorem An5 (h:TMx Z w t T P) (ok:Ok T) (n:Int) (hn:0<=n/\n<=65535):Calls Tryz.prog 378 #[.pointer (some ⟨t,0,none⟩),.int .i64 n] w (Asks (.int .i64 (counted T n)) w):=by
 have c3:=h.c3
 have hs:=h.s0
 have hsh:=J0 (Ab0 h)
 obtain ⟨Z1,hf⟩:=h.focus
 have hm:=Am9 hf.sc ok.fit.len
 have h5:=ok.fit.len5
 have hb:=ok.fit.bot
 have ht:=ok.fit.top
 unfold counted
 generalize P.h T.other=hh at hs hsh
 generalize P.x T.other=xx at hs hm
 generalize T.vis.bot=bot at hm hb ht |-
 generalize T.vis.top=top at hm ht |-
 generalize T.vis.L.length=rows at h5 hb
 replace hm:=J0 hm
 have hw:IntKind.i64.wrap (n - 1)=n - 1:=IntWalk.i64_in _ (by omega)
 have hw2:IntKind.i64.wrap ((top:Int)+n)=(top:Int)+n:=IntWalk.i64_in _ (by omega)
 have hw3:IntKind.i64.wrap ((top:Int)+n - 1)=(top:Int)+n - 1:=IntWalk.i64_in _ (by omega)
 clear h hf ok
 generalize T.m.a3=ob at c3 |-
 cases ob
 ·simp only [Bool.false_eq_true,if_false]
  go_enter Tryz.func378,Tryz.ntmps378
  go_wp2
  go_ret
  exact ⟨rfl,0,rfl⟩
 ·simp only [if_true]
  obtain ⟨y,hy⟩:∃ y,min (bot:Int) ((top:Int)+n - 1)=y:=⟨_,rfl⟩
  rw [hy]
  replace hy:=J0 hy
  go_enter Tryz.func378,Tryz.ntmps378
  go_wp2_with (first
   |(go_at_call 163;(with_reducible refine hsh.out.mono ?_);rintro e w1 ⟨rfl,rfl⟩)
   |(go_at_call 178;(with_reducible refine hm.out.mono ?_);rintro e w1 ⟨rfl,q,rfl⟩)
   |(with_reducible show wpList _ _ _ (⟨some 29,.call _,_,_,_,_⟩::_) _ _;go_must (refine As2 rfl (.tmp 24) (.tmp 28) _ rfl bot ((top:Int)+n - 1) y rfl rfl hy.out ?_)))
  go_ret
  exact ⟨rfl,_,rfl⟩
theorem Br7 (h:TMx Z w t T P) (fit:Fit T.vis) (row col:Int):Calls Tryz.prog 236 #[.pointer (some ⟨t,0,none⟩),.int .i64 row,.int .i64 col] w fun e w'=>(∃ v,e=.returned v)/\TMx Z w' t (place T row col) P/\Scn.Fr Z TT w w':=by
 have c8:=h.c8
 have c9:=h.c9
 have c10:=h.c10
 have f8:=h.free 8
 have f9:=h.free 9
 have f10:=h.free 10
 have hs:=h.s0
 have hsh:=J0 (Ab0 h)
 obtain ⟨Z1,hf⟩:=h.focus
 have hro:=J0 (Ag2 hf.sc fit.len)
 have hco:=J0 (Ah0 hf.sc fit.len)
 have hh1:=J0 (Ah8 row T.vis.L.length fit.len fit.len5 w)
 have hh2:=J0 (Ah8 col T.vis.cols fit.c1 fit.c5 w)
 have hres:=fun (y x:Nat)=>h.turn (m:=T.m) (c:=⟨y,x,false⟩) (p:=T.p) (n:=T.prints) (e:=T.last) (w':=((w.setCell ⟨t,8,none⟩ (.int .i64 y)).setCell ⟨t,9,none⟩ (.int .i64 x)).setCell ⟨t,10,none⟩ (.bool false))
  (((Only.setCell w ⟨t,8,none⟩ _).trans (Only.setCell _ ⟨t,9,none⟩ _)).trans (Only.setCell _ ⟨t,10,none⟩ _)) (((h.blk.set 8 _).set 9 _).set 10 _)
 unfold place
 replace hres:=J0 (hres (Az1 row T.vis.L.length) (Az1 col T.vis.cols))
 generalize Az1 row T.vis.L.length=y at hh1 hres |-
 generalize Az1 col T.vis.cols=x at hh2 hres |-
 generalize P.h T.other=hh at hs hsh
 generalize P.x T.other=xx at hs hro hco
 generalize T.vis.L.length=rows at hro hh1
 generalize T.vis.cols=cols at hco hh2
 clear h hf fit
 go_enter Tryz.func236,Tryz.ntmps236
 go_wp2_with (first
  |(go_at_call 163;(with_reducible refine hsh.out.mono ?_);rintro e w1 ⟨rfl,rfl⟩)
  |(go_at_call 179;(with_reducible refine hro.out.mono ?_);rintro e w1 ⟨rfl,rfl⟩)
  |(go_at_call 232;(with_reducible refine hco.out.mono ?_);rintro e w1 ⟨rfl,rfl⟩)
  |(go_at_call 231;(with_reducible refine hh1.out.mono ?_);rintro e w1 ⟨rfl,rfl⟩)
  |(go_at_call 231;(with_reducible refine hh2.out.mono ?_);rintro e w1 ⟨rfl,rfl⟩))
 go_end0
 exact ⟨⟨_,rfl⟩,hres.out⟩
theorem Ag6 (h:TMx Z w t T P) (ok:Ok T) (row col:Int):Calls Tryz.prog 236 #[.pointer (some ⟨t,0,none⟩),.int .i64 row,.int .i64 col] w fun e w'=>(∃ v,e=.returned v)/\TMx Z w' t (place T row col) P/\Scn.Fr Z TT w w':=Br7 h ok.fit row col
end
theorem step_appB {P:Program} {t e:TypeId} {z:Value} {size:Nat} (E:Ay1 P t e z size) {w:World} {ops:Array Oper} {o:Oper} {a:Go.Act} {K:Go.Act->World->Prop} {Q:Exit->Go.Act->World->Prop} {F:Prop} (hw:Region.wanted o (yielded ops a.tmps)=true) (s x:Operand)
  (ho:o.op=.call { callee:=.builtin .append,args:=#[s,x],argTypes:=#[t,t] })
  (B:Nat) (v:Value) (n:Nat) (xs:List Value) (ad:Addr) (m c:Nat) (news:List Value) (hs:a.eval s=v) (hxe:a.eval x=.slice (some ad) m c)
  (h:w.ownsRow B e size v n xs) (hl:news.length=m*size) (hnews:∀ j u,news[j]?=some u->w.cell? (ad.add j)=some u) (h1:∀ u∈news,u.oneCell'=true) (hB:B<=w.heap.size) (hx:n+m<=100000000)
  (hK:∀ v' w',w'.ownsRow B e size v' (n+m) (xs++news)->Only v.ownBlock.toList w w'->(v'.ownBlock=v.ownBlock\/v'.ownBlock=some w.heap.size)->K (a.put o.dst v') w') :
  if Region.wanted o (yielded ops a.tmps)=true then Oper.wp P o a w K Q else F:=by
 rw [if_pos hw]
 obtain ⟨i,hi,hz,hsz,hb⟩:=E.info
 have hby:(n+m)*i.bytes<=100000000*100:=Nat.mul_le_mul hx hb
 obtain ⟨v',w',hr,h2,h3,_,h5⟩:=run_append_own_at (P:=P) w B t o.type e i z size i.bytes E.slice hi hz hsz rfl E.cells E.pos v n xs h ad m c news hl hnews h1 (by unfold maxLen;omega) (by omega) hB
 unfold Oper.wp execOp
 simp only [ho,resolve,invoke,builtin,Sem.run_bind,Sem.run_pure,Result.andThen_ok,List.map_toArray,List.map_cons,List.map_nil,hs,hxe,hr]
 exact hK v' w' h2 (Only.grown h3) h5
theorem Am7 (e:Ev):(Tryz.prog.info? 72).map (·.size)=some (evA e).size:=by kernel_rfl
theorem Cm7 (e:Ev):(evA e).all (·.oneCell')=true:=by simp [evA,Value.oneCell']
theorem elemEv:Ay1 Tryz.prog 38 72 (.agg #[.int .u8 0,.int .u64 0,.int .i64 0,.int .i64 0,.bool false,.int .i32 0,.bool false,.bool false,.bool false,.bool false]) 10:=by
 have h:(Tryz.prog.info? 72).map (fun i=>(i.zero,i.size,decide (i.bytes<=100)))=some (some (.agg #[.int .u8 0,.int .u64 0,.int .i64 0,.int .i64 0,.bool false,.int .i32 0,.bool false,.bool false,.bool false,.bool false]),10,true):=by kernel_rfl
 refine ⟨Tryz.underlying38,?_,rfl,by omega⟩
 cases hq:Tryz.prog.info? 72 with
 |none=>simp [hq] at h
 |some i =>
  simp only [hq,Option.map_some,Option.some.injEq,Prod.mk.injEq,decide_eq_true_eq] at h
  exact ⟨i,rfl,h.1,h.2.1,h.2.2⟩
def EvB (w:World) (b:Nat) (e:Ev):Prop:=Block w b 72 (evA e)
section
variable {Z Z1:Zn} {w w':World} {t:Nat} {T:Ter} {P:Pt} {v:Value} {l:List Int}
theorem Ca3 {P:Program} {f:FuncId} {args:Array Value} {w:World} {n:Nat} {v:Value} (h:Calls P f args (w.drewN n) fun e w'=>e=.returned v/\w.drewN n=w'):Calls P f args (w.drewN n) fun e w''=>e=.returned v/\∃ m,w''=w.drewN m :=
 h.mono fun _ _ ⟨he,hm⟩=>⟨he,n,hm.symm⟩
theorem Ag9 (h:TMx Z w t T P) (ok:Ok T) (k:Int):Calls Tryz.prog 290 #[.pointer (some ⟨t,0,none⟩),.int .u8 k] w fun e w'=>e=.returned (.agg (evA (here T k)))/\Below w.heap.size w w':=by
 have hbn:=Aa1 w (.cells #[.int .u8 0,.int .u64 0,.int .i64 0,.int .i64 0,.bool false,.int .i32 0,.bool false,.bool false,.bool false,.bool false] 72)
 have hbx:=Block.made w 72 #[.int .u8 0,.int .u64 0,.int .i64 0,.int .i64 0,.bool false,.int .i32 0,.bool false,.bool false,.bool false,.bool false]
 have h0:=h.below hbn
 have c8:=h0.c8
 have c9:=h0.c9
 have hs:=h0.s0
 have hsh:=J0 (fun m=>Ab0 (h0.drew m))
 obtain ⟨Z1,hf⟩:=h0.focus
 have hid:=J0 (fun m=>Cq7 (hf.sc.below (Aa5 (Below.refl _ _) m)) ok.fit.len T.c.row)
 unfold here
 generalize idAt T.vis.L T.c.row=y at hid |-
 generalize P.h T.other=hh at hs hsh
 generalize P.x T.other=xx at hs hid
 generalize T.c.row=row at c8 hid
 generalize T.c.col=col at c9 |-
 clear h h0 hf ok
 go_enter Tryz.func290,Tryz.ntmps290
 go_wp2
 generalize w.alloc (.cells #[.int .u8 0,.int .u64 0,.int .i64 0,.int .i64 0,.bool false,.int .i32 0,.bool false,.bool false,.bool false,.bool false] 72)=w0 at *
 refine Eqt.region_quiet_tail 18 (by kernel_rfl) (by kernel_rfl) ?_
 simp only [List.take_succ_cons,List.take_zero,List.drop_succ_cons,List.drop_zero]
 repeat (go_big_quiet_step (first
  |(go_at_call 163;exact Ca3 (hsh.out _))
  |(go_at_call 182;exact Ca3 (hid.out _))))
 refine wpQuiet_nil ?_
 intro w9 hw9
 obtain ⟨nq,rfl⟩:=hw9
 have hb9:=hbx.only (Only.drewN [] _ nq) (by simp)
 have hl9:=Aa5 hbn nq
 generalize w0.drewN nq=w9 at hb9 hl9 |-
 clear c8 c9 hs hsh hid hbx hbn
 go_wp2_with (with_reducible show wpList _ _ _ (⟨none,.store _ (.tmp 4) _,_,_,_,_⟩::_) _ _;go_must (refine Aa4 rfl _ (.tmp 4) (.tmp 22) rfl hb9 (evA ⟨k,0,y,col,false,0,false,false,false,false⟩) rfl rfl (Am7 _) rfl (Cm7 _) ?_);intro w8 hb8 ho8)
 exact bodyPost_ret (results_cell_row rfl _ _ _ _ _ _ _ rfl hb8 Tryz.underlying72 rfl (Am7 _)) rfl ⟨rfl,hl9.trans (ho8.below hl9.size (by simp))⟩
theorem EvB.cells {b:Nat} {e:Ev} (h:EvB w b e):w.cell? ⟨b,0,none⟩=some (.int .u8 e.k)/\w.cell? ⟨b,1,none⟩=some (.int .u64 e.ix)/\w.cell? ⟨b,2,none⟩=some (.int .i64 e.line)/\w.cell? ⟨b,3,none⟩=some (.int .i64 e.col)/\w.cell? ⟨b,4,none⟩=some (.bool e.wide) /\
  w.cell? ⟨b,5,none⟩=some (.int .i32 e.r)/\w.cell? ⟨b,6,none⟩=some (.bool e.bl)/\w.cell? ⟨b,7,none⟩=some (.bool e.la)/\w.cell? ⟨b,8,none⟩=some (.bool e.fr)/\w.cell? ⟨b,9,none⟩=some (.bool e.wr) :=
 ⟨Block.cell h 0 rfl,Block.cell h 1 rfl,Block.cell h 2 rfl,Block.cell h 3 rfl,Block.cell h 4 rfl,Block.cell h 5 rfl,Block.cell h 6 rfl,Block.cell h 7 rfl,Block.cell h 8 rfl,Block.cell h 9 rfl⟩
theorem TMx.told (h:TMx Z w t T P) {wa w2:World} {jv:Value} (e:Ev) (hb:Below w.heap.size w wa) (hown:w2.ownsRow 0 72 10 jv (T.jr.length+1) (fl evL T.jr++evL e)) (ho:Only P.jv.ownBlock.toList wa w2)
  (hat:jv.ownBlock=P.jv.ownBlock\/jv.ownBlock=some wa.heap.size):TMx Z (w2.setCell ⟨t,32,none⟩ jv) t { T with jr:=T.jr++[e] } { P with jv:=jv }/\Scn.Fr Z TT w (w2.setCell ⟨t,32,none⟩ jv):=by
 have hj:=fun g hg=>Ab6 h.jr g hg
 have tt:=Block.typ h.blk
 have hO:Only (t::P.jv.ownBlock.toList) w (w2.setCell ⟨t,32,none⟩ jv):=(((Only.of_below hb _).trans ho).mono (by simp +contextual)).trans ((Only.setCell w2 ⟨t,32,none⟩ jv).mono (by simp))
 have hf:Scn.Fr Z [148,72] w (w2.setCell ⟨t,32,none⟩ jv):=Scn.Fr.of_only hO fun k hk _=>by
  rcases List.mem_cons.1 hk with rfl|hk
  ·exact ⟨h.zt,_,by simp,tt⟩
  ·have hk':P.jv.ownBlock=some k:=by simpa using hk
   exact ⟨h.zj k hk',_,by simp,hj k hk'⟩
 have keep:∀ {k:Nat} {ty:TypeId},Typ w k ty->ty∉[148,72]->(w2.setCell ⟨t,32,none⟩ jv).heap[k]?=w.heap[k]?:=fun hk hty=>hf.block _ (Ak9 hk) (.inr fun t' ht' hT=>hty (by rw [Typ.inj hk hT];exact ht'))
 have same:∀ {k:Nat} {ty:TypeId} {cs:Array Value},Block w k ty cs->ty∉[148,72]->Block (w2.setCell ⟨t,32,none⟩ jv) k ty cs:=fun hb hty=>(keep (Block.typ hb) hty).trans hb
 have htj:t∉P.jv.ownBlock.toList:=fun hm=>absurd (Typ.inj tt (hj t (by simpa using hm))) (by decide)
 have hb2:Block w2 t 148 (terA T P):=(h.blk.only (Only.of_below hb []) (by simp)).only ho htj
 have hgt:∀ g,jv.ownBlock=some g->g≠t:=fun g hg e=>absurd (Typ.inj (Ab6 hown g hg) (e▸Block.typ hb2)) (by decide)
 refine ⟨⟨hb2.set 32 jv,same h.main (by decide),fun o ho=>⟨same (h.aside o ho).1 (by decide),(h.aside o ho).2⟩,h.scr.fr hf (by unfold NoPT;decide),same h.tabs (by decide),?_,Ad5 h.rp (fun g hg=>keep (Ad1 h.rp g hg) (by decide)),h.zt,h.zm,h.zb,fun g hg=>?_,h.zr,fun k hk=>h.up k (Nat.le_trans hf.size hk),h.low,h.tbl.fr hf h.low⟩,hf.mono (by simp [TT])⟩
 ·have e1:fl evL (T.jr++[e])=fl evL T.jr++evL e:=by rw [fl_app,fl_one]
  show World.ownsRow _ 0 _ 10 jv (T.jr++[e]).length (fl evL (T.jr++[e]))
  rw [e1,List.length_append,List.length_singleton]
  exact Ag5 hown (Only.setCell w2 ⟨t,32,none⟩ jv) (fun g hg=>by simpa using hgt g hg)
 ·rcases hat with hat|hat
  ·exact h.zj g (hat▸hg)
  ·rw [hat] at hg
   cases hg
   exact h.up _ hb.size
theorem EvB.heap {b:Nat} {e:Ev} (h:EvB w b e):w.heap[b]?=some (.cells (evA e) 72 (0,0)):=h
theorem Ax8 (h:TMx Z w t T P) (hj:T.jr.length<=90000000) (e:Ev):Calls Tryz.prog 289 #[.pointer (some ⟨t,0,none⟩),.agg (evA e)] w fun r w'=>(∃ v,r=.returned v)/\(∃ jv,TMx Z w' t (tell T e) { P with jv:=jv })/\Scn.Fr Z TT w w':=by
 have hbn:=Aa1 w (.cells (evA e) 72)
 have hbx:EvB (w.alloc (.cells (evA e) 72)) w.heap.size e:=Block.made w 72 (evA e)
 have h0:=h.below hbn
 have htlt:=h.blk.lt
 obtain ⟨bx,hbxe⟩:∃ bx,bx=w.heap.size:=⟨_,rfl⟩
 have htb:bx∉[t]:=by simp;omega
 clear h
 go_enter Tryz.func289,Tryz.ntmps289
 go_wp2_with (first
  |(with_reducible show wpList _ _ _ (⟨some 5,.load _ (.tmp 3),_,_,_,_⟩::_) _ _;go_must (refine wpList_load_row rfl _ (.tmp 3) rfl w.heap.size rfl _ (evA e) (0,0) _ hbx.heap Tryz.underlying72 rfl (Am7 _) ?_))
  |(with_reducible show wpList _ _ _ (⟨none,.store _ (.tmp 7) _,_,_,_,_⟩::_) _ _;go_must (refine Ad8 rfl _ (.tmp 7) (.tmp 5) rfl h0.blk (evA e) rfl rfl (by simp [terA,evA]) (Am7 _) (Cm7 _) ?_);intro w1 hb1 ho1))
 rw [<- hbxe]
 obtain ⟨h1,hf1⟩:=h0.turn (m:=T.m) (c:=T.c) (p:=T.p) (n:=T.prints) (e:=e) ho1 hb1
 have hx1:EvB w1 bx e:=Block.only (show EvB _ bx e from hbxe▸hbx) ho1 htb
 have hfr:=(Scn.Fr.of_below (B:=Z) (ts:=TT) hbn).trans hf1
 clear h0 hb1 ho1 hf1 hbx hbn htb htlt
 replace hfr:=J0 hfr
 replace hbxe:=J0 hbxe
 have hd1:Below w1.heap.size w1 w1.drew:=Aa5 (Below.refl _ _) 1
 have hda:=hd1.alloc (J5 _) (.cells (evA e) 72)
 have h2:=h1.below hda
 have hown:=h2.jr
 have c32:=h1.c32
 obtain ⟨x0,x1,x2,x3,x4,x5,x6,x7,x8,x9⟩:=hx1.cells
 have hln:∀ j u,(evL e)[j]?=some u->(w1.drew.alloc (.cells (evA e) 72)).cell? ((⟨w1.heap.size,0,none⟩:Addr).add j)=some u:=fun j u hj=>by
  rw [Addr.add_lit,Nat.zero_add]
  exact (Block.made w1.drew 72 (evA e)).cell j (by simpa [evA,evL] using hj)
 have hfin:=fun w2 jv=>h1.told (wa:=w1.drew.alloc (.cells (evA e) 72)) (w2:=w2) (jv:=jv) e hda
 have hblk:=h2.blk
 have htJ:t∉P.jv.ownBlock.toList:=fun hm=>absurd (Typ.inj (Block.typ h2.blk) (Ab6 h2.jr t (by simpa using hm))) (by decide)
 obtain ⟨ao,c,hjv,hnc,hcm⟩:=Ad0 h1.jr
 have ka:=(h1.below (Aa1 w1 (.cells (evA e) 72))).c32
 simp only at hown hfin c32 ka hjv hnc htJ
 rw [hjv] at c32 ka hown hfin htJ
 generalize hlen:T.jr.length=n at c32 ka hown hfin hj hnc htJ
 replace hlen:=J0 hlen
 replace hjv:=J0 hjv
 replace hown:=J0 hown
 replace hblk:=J0 hblk
 replace hfin:=J0 hfin
 replace htJ:=J0 htJ
 replace hln:=J0 hln
 clear h1 h2 hx1 hd1 hda
 obtain ⟨ek,eix,el,ec,ew,er,ebl,ela,efr,ewr⟩:=e
 simp only [evA] at ka hown hblk hln hfin
 simp only at x0 x1 x2 x3 x4 x5 x6 x7 x8 x9
 go_region_law (first
  |(refine step_appB elemEv rfl (.tmp 12) (.tmp 14) rfl 0 (.slice ao n c) n (fl evL T.jr) ⟨w1.heap.size,0,none⟩ 1 1 (evL ⟨ek,eix,el,ec,ew,er,ebl,ela,efr,ewr⟩) rfl rfl hown.out rfl hln.out (evL_one _) (Nat.zero_le _) (by omega) ?_;intro sv2 w2 hown2 ho2 hat2;have hb2:=hblk.out.only ho2 htJ.out;have k2':=hb2.cell 32 rfl;have f2:=hb2.free 32;obtain ⟨a2,c2,rfl,_⟩:=Ad0 hown2))
 all_goals
  have hres:=J0 (hfin.out _ _ hown2 ho2 hat2)
  clear hown2 ho2 hat2 hb2
  go_wp2
  go_end0
  exact ⟨⟨_,rfl⟩,⟨_,hres.out.1⟩,hfr.out.trans hres.out.2⟩
end
def Aa8 (S:Scr) (i:Nat):List Cel:=((S.L[i]?).map (·.2)).getD []
section
variable {Z Z1:Zn} {w w':World} {x s i d:Nat} {S:Scr} {t:Nat} {T:Ter} {P:Pt}
theorem Al8 (h:Ae2 Z1 w x s S i d):SC Z1 w x s S:=by
 obtain ⟨sv,lv,L,R,h1,h2,h3,_⟩:=h
 exact ⟨sv,lv,L,R,h1,h2,h3⟩
theorem Ad9 (h:SC Z1 w x s S) (hi:i<S.L.length):∃ d,Ae2 Z1 w x s S i d:=by
 obtain ⟨sv,lv,L,R,h1,h2,h3⟩:=h
 have hl:i<L.length:=by rw [<- Bg6,h2];exact hi
 exact ⟨L[i].d,sv,lv,L,R,h1,h2,h3,L[i],List.getElem?_eq_getElem hl,rfl⟩
theorem rowAt_fr {B:Zn} {ts:List TypeId} (h:Ae2 Z1 w x s S i d) (hf:Scn.Fr B ts w w') (hn:NoPT ts):Ae2 Z1 w' x s S i d:=by
 obtain ⟨sv,lv,L,R,h1,h2⟩:=h
 exact ⟨sv,lv,L,R,h1.fr hf hn,h2⟩
theorem Aa7 (h:Ae2 Z1 w x s S i d) (hb:Below w.heap.size w w'):Ae2 Z1 w' x s S i d:=rowAt_fr (B:=fun _=>True) (ts:=[]) h (Scn.Fr.of_below hb) (by simp [NoPT])
theorem rowAt_uniq {d':Nat} (h:Ae2 Z1 w x s S i d) (h':Ae2 Z1 w x s S i d'):d=d':=by
 obtain ⟨sv,lv,L,R,h1,h2,h3,e,he,rfl⟩:=h
 obtain ⟨sv',lv',L',R',g1,g2,g3,e',he',rfl⟩:=h'
 have hl:=(List.getElem?_eq_some_iff.1 he).1
 have hl':=(List.getElem?_eq_some_iff.1 he').1
 obtain ⟨g,c,rfl,_,q,_⟩:=h1.elem rfl hl
 obtain ⟨g',c',rfl,_,q',_⟩:=g1.elem rfl hl'
 have a:=h1.ln.cells.2.2.2.1
 have b:=g1.ln.cells.2.2.2.1
 rw [a] at b
 simp only [Option.some.injEq,Value.slice.injEq,Addr.mk.injEq] at b
 obtain ⟨⟨rfl,_⟩,_⟩:=b
 rw [q] at q'
 simp only [Option.some.injEq,Value.pointer.injEq,Addr.mk.injEq] at q'
 have e1:=(List.getElem?_eq_some_iff.1 he).2
 have e2:=(List.getElem?_eq_some_iff.1 he').2
 rw [e1,e2] at q'
 exact q'.1
theorem Cr6 (h:Ae2 Z1 w x s S i d) (hl:1<=S.L.length) (hi:i<S.L.length):Calls Tryz.prog 180 #[.pointer (some ⟨x,0,none⟩),.int .i64 i] w fun e w'=>e=.returned (.pointer (some ⟨d,0,none⟩))/\w=w' :=
 (Cj5 (Al8 h) hl i hi).mono fun e w' ⟨⟨d',he,hr⟩,hw⟩=>by
  obtain rfl:=rowAt_uniq h hr
  exact ⟨he,hw⟩
theorem list_split {α:Type} {L:List α} {i:Nat} {e:α} (h:L[i]?=some e):L=L.take i++e::L.drop (i+1):=by
 have hl:=(List.getElem?_eq_some_iff.1 h).1
 have he:=(List.getElem?_eq_some_iff.1 h).2
 rw [<- he,<- List.drop_eq_getElem_cons hl,List.take_append_drop]
theorem modify_split {α:Type} {A C:List α} {e:α} (f:α->α):(A++e::C).modify A.length f=A++f e::C:=by
 induction A with
 |nil=>rfl
 |cons a A ih=>simp [List.modify_succ_cons,ih]
theorem Ag0 (h:Ae2 Z1 w x s S i d):∃ g n cap tail,RowX w d g n cap tail (Aa8 S i)/\Rw.Good (Aa8 S i) /\
  ∀ l' w',Rw.Good l'->RowX w' d g n cap tail l'->Only [g] w w'->Ae2 Z1 w' x s (Ae3 S i l') i d/\Scn.Fr Z1 PT w w':=by
 obtain ⟨sv,lv,L,R,h1,h2,h3,e,he,rfl⟩:=h
 have hs:=list_split he
 have hil:=(List.getElem?_eq_some_iff.1 he).1
 have hlt:(L.take i).length=i:=by rw [List.length_take];omega
 have hline:Aa8 S i=e.l:=by
  unfold Aa8
  rw [<- h2]
  simp [vw,he]
 obtain ⟨id,ed,eg,edr,el⟩:=e
 generalize L.take i=A at hs hlt
 generalize L.drop (i+1)=C at hs
 subst hs
 have hr:=h1.rows ⟨id,ed,eg,edr,el⟩ (by simp)
 have htg:=hr.typ.2
 have hzg:=(h1.zr ⟨id,ed,eg,edr,el⟩ (by simp)).2
 obtain ⟨g1,g2,g3,n,cap,tail,hx⟩:=hr
 rw [hline]
 refine ⟨eg,n,cap,tail,hx,g1,fun l' w' hg hx' ho=>?_⟩
 obtain ⟨m,hf⟩:=h1.row (e':=⟨id,ed,eg,edr,l'⟩) htg (by decide) (by decide) (by decide) hzg (by simp [PT]) ho h1.apartG ⟨hg,Nat.zero_le _,Nat.zero_le _,_,_,_,hx'⟩ rfl (.inl rfl)
 refine ⟨⟨sv,lv,A++⟨id,ed,eg,edr,l'⟩::C,R,?_,?_,h3,⟨id,ed,eg,edr,l'⟩,?_,rfl⟩,hf⟩
 ·have e1:fl Ab9 (A++⟨id,ed,eg,edr,l'⟩::C)=fl Ab9 (A++⟨id,ed,eg,edr,el⟩::C):=fl_same (e:=⟨id,ed,eg,edr,el⟩) (e':=⟨id,ed,eg,edr,l'⟩) rfl rfl
  have e2:(A++(⟨id,ed,eg,edr,l'⟩:En)::C).length=(A++(⟨id,ed,eg,edr,el⟩:En)::C).length:=by simp
  rw [e1,e2]
  exact m
 ·show vw _=(S.L).modify i _
  rw [<- h2,<- hlt]
  have:(vw (A++⟨id,ed,eg,edr,el⟩::C))=vw A++(id,el)::vw C:=by simp [vw]
  rw [this,<- Bg6 A,modify_split]
  simp [vw]
 ·rw [<- hlt,List.getElem?_append_right (J5 _),Nat.sub_self]
  rfl
theorem Bi8 (h:Ae2 Z1 w x s S i d):Rw.Good (Aa8 S i):=by
 obtain ⟨g,n,cap,tail,_,hg,_⟩:=Ag0 h
 exact hg
theorem Bf9 (S:Scr) (i:Nat) (l:List Cel):(Ae3 S i l).L.length=S.L.length:=by simp [Ae3]
def Cd3 (Z1:Zn) (w:World) (x s:Nat) (S:Scr) (i d:Nat) (v:Value) (e:Ending) (w':World):Prop:=e=.returned v/\Ae2 Z1 w' x s S i d/\Scn.Fr Z1 PT w w'
theorem Bd6 (h:Ae2 Z1 w x s S i d) (lo hi:Int) (a:At) :
  Calls Tryz.prog 295 #[.pointer (some ⟨d,0,none⟩),.int .i64 lo,.int .i64 hi,.agg #[.int .u32 a.f,.int .u32 a.b,.int .u16 a.g]] w (Cd3 Z1 w x s (Ae3 S i (eraL (Aa8 S i) lo hi a)) i d (.int .i64 0)):=by
 obtain ⟨g,n,cap,tail,hx,hg,hb⟩:=Ag0 h
 refine (Bp1 hx hg.whole lo hi a).mono fun e w' ⟨he,hx',ho⟩=>?_
 have hl:Av1 (Aa8 S i) (Ab1 lo n) (Ab1 hi n) a=eraL (Aa8 S i) lo hi a:=by unfold eraL;rw [hx.len]
 rw [hl] at hx'
 obtain ⟨h1,h2⟩:=hb _ _ (hg.era lo hi a) hx' ho
 exact ⟨he,h1,h2⟩
theorem Az2 (h:Ae2 Z1 w x s S i d) (col k:Int) (a:At) :
  Calls Tryz.prog 314 #[.pointer (some ⟨d,0,none⟩),.int .i64 col,.int .i64 k,.agg #[.int .u32 a.f,.int .u32 a.b,.int .u16 a.g]] w (Cd3 Z1 w x s (Ae3 S i (inL (Aa8 S i) col k a)) i d (.int .i64 0)):=by
 obtain ⟨g,n,cap,tail,hx,hg,hb⟩:=Ag0 h
 refine (insert_any hx hg.whole col k a).mono fun e w' ⟨he,hx',ho⟩=>?_
 have hl:insL (Aa8 S i) (Ab1 col n) (Ab1 k (n - Ab1 col n)) a=inL (Aa8 S i) col k a:=by unfold inL;rw [hx.len]
 rw [hl] at hx'
 obtain ⟨h1,h2⟩:=hb _ _ (hg.ins col k a) hx' ho
 exact ⟨he,h1,h2⟩
theorem delete_row (h:Ae2 Z1 w x s S i d) (col k:Int) (a:At) :
  Calls Tryz.prog 383 #[.pointer (some ⟨d,0,none⟩),.int .i64 col,.int .i64 k,.agg #[.int .u32 a.f,.int .u32 a.b,.int .u16 a.g]] w (Cd3 Z1 w x s (Ae3 S i (deL (Aa8 S i) col k a)) i d (.int .i64 0)):=by
 obtain ⟨g,n,cap,tail,hx,hg,hb⟩:=Ag0 h
 refine (delete_any hx hg.whole col k a).mono fun e w' ⟨he,hx',ho⟩=>?_
 have hl:delL (Aa8 S i) (Ab1 col n) (Ab1 k (n - Ab1 col n)) a=deL (Aa8 S i) col k a:=by unfold deL;rw [hx.len]
 rw [hl] at hx'
 obtain ⟨h1,h2⟩:=hb _ _ (hg.del col k a) hx' ho
 exact ⟨he,h1,h2⟩
theorem Bc0 (h:Ae2 Z1 w x s S i d) (col r:Int) (hc:-9223372036854775808<=col/\col<=9223372036854775807) (wide:Bool) (a:At) :
  Calls Tryz.prog 315 #[.pointer (some ⟨d,0,none⟩),.int .i64 col,.int .i32 r,.bool wide,.agg #[.int .u32 a.f,.int .u32 a.b,.int .u16 a.g]] w (Cd3 Z1 w x s (Ae3 S i (putL (Aa8 S i) col r wide a)) i d (.int .i64 (putV (Aa8 S i) col r wide a))):=by
 obtain ⟨g,n,cap,tail,hx,hg,hb⟩:=Ag0 h
 generalize Aa8 S i=l at hx hg hb |-
 have hgd:=hg.put col r wide a
 by_cases hok:Cc4 l col r wide a
 ·have hok':=hok
  obtain ⟨k1,k2,k3⟩:=hok'
  obtain ⟨c,rfl⟩:∃ c:Nat,col=c:=⟨col.toNat,by omega⟩
  refine (put_yes hx hg.whole c r wide a k1 (by have:=hx.len;omega)).mono ?_
  rintro y w' ⟨rfl,hx',ho⟩
  have hl:putL l c r wide a=setL l c (cellsPut r wide a):=by unfold putL;rw [if_pos hok];rfl
  have hv:putV l c r wide a=0:=by unfold putV;rw [if_pos hok]
  rw [hv]
  rw [hl] at hgd |-
  obtain ⟨h1,h2⟩:=hb _ _ hgd hx' ho
  exact ⟨rfl,h1,h2⟩
 ·have hl:putL l col r wide a=l:=by unfold putL;rw [if_neg hok]
  have hv:putV l col r wide a=2:=by unfold putV;rw [if_neg hok]
  rw [hl] at hgd
  rw [hl,hv]
  have hno:An1 r=false\/col<0\/(n:Int)<=col\/(wide=true/\(n:Int)<=col+1):=by
   have hlen:=hx.len
   unfold Cc4 at hok
   rcases hrb:An1 r with _|_
   ·exact .inl rfl
   ·right
    have:¬ (0<=col/\col+((cellsPut r wide a).length:Int)<=(l.length:Int)):=fun hh=>hok ⟨hrb,hh.1,hh.2⟩
    cases wide
    ·have h1:(cellsPut r false a).length=1:=rfl
     rw [h1] at this
     by_cases c0:col<0
     ·exact .inl c0
     ·exact .inr (.inl (by omega))
    ·have h1:(cellsPut r true a).length=2:=rfl
     rw [h1] at this
     by_cases c0:col<0
     ·exact .inl c0
     ·exact .inr (.inr ⟨rfl,by omega⟩)
  refine (Cj1 hx col r hc wide a hno).mono ?_
  rintro y w' ⟨rfl,hx',ho⟩
  obtain ⟨h1,h2⟩:=hb _ _ hgd hx' ho
  exact ⟨rfl,h1,h2⟩
theorem Av8 (h:Ae2 Z1 w x s S i d) (col r:Int) :
  Calls Tryz.prog 308 #[.pointer (some ⟨d,0,none⟩),.int .i64 col,.int .i32 r] w (Cd3 Z1 w x s (Ae3 S i (joiL (Aa8 S i) col r)) i d (.int .i64 (joiV (Aa8 S i) col r))):=by
 obtain ⟨g,n,cap,tail,hx,hg,hb⟩:=Ag0 h
 generalize Aa8 S i=l at hx hg hb |-
 have hgd:=hg.joi col r
 by_cases hok:Cc2 l col r
 ·have hok':=hok
  obtain ⟨k1,k2,k3⟩:=hok'
  obtain ⟨c,rfl⟩:∃ c:Nat,col=c:=⟨col.toNat,by omega⟩
  refine (join_yes hx hg.whole (fun c hc=>(hg.cell c hc).four) c r k1 (by have:=hx.len;omega)).mono ?_
  rintro y w' ⟨rfl,hx',ho⟩
  have hl:joiL l c r=Bl9 l c r:=by unfold joiL;rw [if_pos hok];rfl
  have hv:joiV l c r=Cc3 l c:=by unfold joiV;rw [if_pos hok];rfl
  rw [hv]
  rw [hl] at hgd |-
  obtain ⟨h1,h2⟩:=hb _ _ hgd hx' ho
  exact ⟨rfl,h1,h2⟩
 ·have hl:joiL l col r=l:=by unfold joiL;rw [if_neg hok]
  have hv:joiV l col r=2:=by unfold joiV;rw [if_neg hok]
  rw [hl] at hgd
  rw [hl,hv]
  have hno:An1 r=false\/col<0\/(n:Int)<=col:=by
   have hlen:=hx.len
   unfold Cc2 at hok
   rcases hrb:An1 r with _|_
   ·exact .inl rfl
   ·right
    by_cases c0:col<0
    ·exact .inl c0
    ·exact .inr (by
      have:¬ (0<=col/\col<(l.length:Int)):=fun hh=>hok ⟨hrb,hh.1,hh.2⟩
      omega)
  refine (join_no hx col r hno).mono ?_
  rintro y w' ⟨rfl,rfl⟩
  obtain ⟨h1,h2⟩:=hb _ _ hgd hx (Only.refl _ _)
  exact ⟨rfl,h1,h2⟩
theorem Ap2 (h:Ae2 Z1 w x s S i d) (k:Int):Calls Tryz.prog 313 #[.pointer (some ⟨d,0,none⟩),.int .i64 k] w fun e w'=>e=.returned (.bool (Am6 (Aa8 S i) k))/\Below w.heap.size w w':=by
 obtain ⟨g,n,cap,tail,hx,hg,hb⟩:=Ag0 h
 exact blank'_any hx k
theorem Al3 (h:Ae2 Z1 w x s S i d) (k:Nat) (hk:k<(Aa8 S i).length):Calls Tryz.prog 307 #[.pointer (some ⟨d,0,none⟩),.int .i64 k] w (Cc8 w (Aa8 S i)[k]):=by
 obtain ⟨g,n,cap,tail,hx,hg,hb⟩:=Ag0 h
 exact cell_yes hx (fun c hc=>(hg.cell c hc).four) k (by have:=hx.len;omega) hk
theorem Bd1 (h:Ae2 Z1 w x s S i d) (k:Int) (hk:¬ (0<=k/\k<((Aa8 S i).length:Int))):Calls Tryz.prog 307 #[.pointer (some ⟨d,0,none⟩),.int .i64 k] w (Cm3 w 6):=by
 obtain ⟨g,n,cap,tail,hx,hg,hb⟩:=Ag0 h
 exact cell_no hx k (by have:=hx.len;omega)
def Lat (Z1:Zn) (w:World) (T:Ter) (P:Pt) (d:Nat):Prop:=Ae2 Z1 w (P.x T.other) P.s T.vis T.c.row d
theorem line_is (T:Ter):line T=Aa8 T.vis T.c.row:=rfl
theorem Ae6 (h:TMx Z w t T P) (ok:Ok T) (hd:Lat Z1 w T P d):Calls Tryz.prog 306 #[.pointer (some ⟨t,0,none⟩)] w (Asks (.pointer (some ⟨d,0,none⟩)) w):=by
 have c8:=h.c8
 have hs:=h.s0
 have hsh:=J0 (fun m=>Ab0 (h.drew m))
 have hrw:=J0 (fun m=>Cr6 (Aa7 hd (Aa5 (Below.refl _ _) m)) ok.fit.len ok.row)
 generalize P.h T.other=hh at hs hsh
 generalize P.x T.other=xx at hs hrw
 generalize T.c.row=row at c8 hrw
 clear h ok hd
 go_enter Tryz.func306,Tryz.ntmps306
 go_wp2
 go_quiet (first
  |(go_at_call 163;exact Ca3 (hsh.out _))
  |(go_at_call 180;exact Ca3 (hrw.out _)))
 go_wp2
 go_ret
 exact ⟨rfl,_,rfl⟩
end
end Go.Proofs.YtbafmljidapmgaaGreatDoor.Emu
namespace Go.Proofs.YtbafmljidapmgaaGreatDoor.Emu
open Go Rw Scn
section
variable {T:Ter}
theorem Be9 (i:Int) {n:Nat} (h:1<=n):Az1 i n<n:=by unfold Az1;omega
theorem Ok.place (h:Ok T) (r c:Int):Ok (place T r c) :=
 ⟨h.fit,h.fitm,h.rows,h.cols,Be9 _ h.fit.len,Be9 _ h.fit.c1,h.sv,h.svm,h.tn,h.alt⟩
theorem Ok.tell (h:Ok T) (e:Ev):Ok (tell T e):=⟨h.fit,h.fitm,h.rows,h.cols,h.row,h.col,h.sv,h.svm,h.tn,h.alt⟩
theorem Ok.tellOther (h:Ok T):Ok (tellOther T):=h.tell _
theorem Ok.move (h:Ok T) (r c:Int):Ok (move T r c):=(h.place r c).tellOther
theorem Ok.tellFeed (h:Ok T) (b:Bool):Ok (tellFeed T b):=h.tell _
end
