/- Part 27 of HostSplits. -/
import Derived.Test.YtecnpoigegiooaaGreatDoorP26
set_option maxHeartbeats 16000000
set_option maxRecDepth 100000
namespace Go.Proofs.YtecnpoigegiooaaGreatDoor.Emu
open Go RowKit Com Rw Lns Scn
section
variable {P:Program}
theorem As3 {ops:Array Oper} {rest:List Oper} {o:Oper} {a:Go.Act} {w:World} {Q:Exit->Go.Act->World->Prop} (hgd:o.guard=none) (x y:Operand) (ts:Array TypeId)
  (ho:o.op=.call { callee:=.builtin .max,args:=#[x,y],argTypes:=ts }) (m n z:Int) (hx:a.eval x=.int .i64 m) (hy:a.eval y=.int .i64 n) (hz:max m n=z) (h:wpList P ops Q rest (a.put o.dst (.int .i64 z)) w):wpList P ops Q (o::rest) a w :=
 wpList_plain hgd fun _ hK=>by
  have hrun:(Builtin.max_ ts o.type #[.int .i64 m,.int .i64 n]).run P w=.ok (.int .i64 z) w:=by
   have e:(if n > m then n else m)=z:=by rw[<- hz];split<;>omega
   simp[Builtin.max_,Builtin.max2,e]
  unfold Oper.wp execOp
  simp only[ho,resolve,invoke,builtin,Sem.run_bind,Sem.run_pure,Result.andThen_ok,List.map_toArray,List.map_cons,List.map_nil,hx,hy,hrun]
  exact hK _ _ h
theorem As4 {ops:Array Oper} {rest:List Oper} {o:Oper} {a:Go.Act} {w:World} {Q:Exit->Go.Act->World->Prop} (hgd:o.guard=none) (x y:Operand) (ts:Array TypeId)
  (ho:o.op=.call { callee:=.builtin .min,args:=#[x,y],argTypes:=ts }) (m n z:Int) (hx:a.eval x=.int .i64 m) (hy:a.eval y=.int .i64 n) (hz:min m n=z) (h:wpList P ops Q rest (a.put o.dst (.int .i64 z)) w):wpList P ops Q (o::rest) a w :=
 wpList_plain hgd fun _ hK=>by
  have hrun:(Builtin.min_ ts o.type #[.int .i64 m,.int .i64 n]).run P w=.ok (.int .i64 z) w:=by
   have e:(if n<m then n else m)=z:=by rw[<- hz];split<;>omega
   simp[Builtin.min_,Builtin.min2,e]
  unfold Oper.wp execOp
  simp only[ho,resolve,invoke,builtin,Sem.run_bind,Sem.run_pure,Result.andThen_ok,List.map_toArray,List.map_cons,List.map_nil,hx,hy,hrun]
  exact hK _ _ h
end
def Asks (v:Value) (w:World) (e:Ending) (w':World):Prop:=e=.returned v/\∃q,w'=w.drewN q
def Kept (Z:Zn) (w:World) (k:Nat):Prop:=k<w.heap.size/\(¬Z k\/∀t∈TT,¬Typ w k t)
def NA (Z:Zn) (w:World) (v:Value) (l:List Int):Prop:=∃ao cp,v=.slice ao l.length cp/\l.length<=cp/\cp<=maxLen/\Fits .i64 l/\NumsP w (Kept Z w) .i64 ao l
section
variable {Z:Zn}{w w':World}{t:Nat}{T:Ter}{P:Pt}{v:Value}{l:List Int}
theorem Kept.fr {k:Nat} (h:Kept Z w k) (hf:Scn.Fr Z TT w w'):Kept Z w' k/\w'.heap[k]?=w.heap[k]?:=by
 have e:=hf.block k h.1 h.2
 refine⟨⟨Nat.lt_of_lt_of_le h.1 hf.size,h.2.imp id fun hn t ht hT=>hn t ht ?_⟩,e⟩
 obtain⟨cs,fz,hT⟩:=hT
 exact⟨cs,fz,e▸hT⟩
theorem NA.fr (h:NA Z w v l) (hf:Scn.Fr Z TT w w'):NA Z w' v l:=by
 obtain⟨ao,cp,h1,h2,h3,h4,h5⟩:=h
 refine⟨ao,cp,h1,h2,h3,h4,fun i x hx=>?_⟩
 obtain⟨ad,e,hk,hc⟩:=h5 i x hx
 exact⟨ad,e,(hk.fr hf).1,(World.cell?_of_block (w:=w) (by rw[Ac5];exact(hk.fr hf).2)).trans hc⟩
theorem NA.below (h:NA Z w v l) (hb:Below w.heap.size w w'):NA Z w' v l:=h.fr (Scn.Fr.of_below hb)
theorem Br1 (h:NA Z w v l) (i:Nat):Calls Tryz.prog 241 #[v,.int .i64 i] w fun e w'=>e=.returned (.int .i64 (atN l i))/\w=w':=by
 obtain⟨ao,cp,rfl,h2,h3,h4,h5⟩:=h
 by_cases hlt:i<l.length
 ·obtain⟨ad,rfl,hk,hc⟩:=h5 i _ (List.getElem?_eq_getElem hlt)
  have he:atN l i=Aj4 l[i]:=by unfold atN;rw[List.getElem?_eq_getElem hlt]
  rw[he]
  clear h4 h5 hk he
  generalize l[i]=x at hc |-
  have hI:(i:Int)<(l.length:Int):=by omega
  have hN:¬(l.length:Int)<=(i:Int):=by omega
  have hD:decide ((l.length:Int)<=(i:Int))=false:=decide_eq_false hN
  generalize l.length=n at h2 hI hN hD hlt
  obtain⟨m1,hm1⟩:∃m1,min x 65535=m1:=⟨_,rfl⟩
  have hm2:max 0 m1=Aj4 x:=by rw[<- hm1];rfl
  replace hm1:=J0 hm1
  replace hm2:=J0 hm2
  generalize Aj4 x=y at hm2 |-
  go_enter Tryz.func241,Tryz.ntmps241
  go_wp2_with (first
   |(with_reducible refine J6 13 ?_;go_must (refine As4 rfl (.tmp 12) _ _ rfl x 65535 m1 rfl rfl hm1.out ?_))
   |(with_reducible refine J6 14 ?_;go_must (refine As3 rfl _ (.tmp 13) _ rfl 0 m1 y rfl rfl hm2.out ?_)))
  go_ret
  exact⟨rfl,rfl⟩
 ·have he:atN l i=0:=by unfold atN;rw[List.getElem?_eq_none (by omega)]
  rw[he]
  have hD:decide ((l.length:Int)<=(i:Int))=true:=decide_eq_true (by omega)
  have hI:(l.length:Int)<=(i:Int):=by omega
  generalize l.length=n at h2 hD hI
  clear h4 h5 he hlt
  go_enter Tryz.func241,Tryz.ntmps241
  go_wp2
  go_ret
  exact⟨rfl,rfl⟩
theorem Ad5 (h:NA Z w v l) (i:Nat):Calls Tryz.prog 237 #[v,.int .i64 i] w fun e w'=>e=.returned (.int .i64 (Aa2 l i))/\w=w':=by
 have ha:=J0 (Br1 h i)
 have hm:Hid (max 1 (atN l i)=Aa2 l i):=J0 rfl
 generalize atN l i=x at ha hm
 generalize Aa2 l i=y at hm |-
 clear h
 go_enter Tryz.func237,Tryz.ntmps237
 go_wp2_with (first
  |(go_at_call 241;(with_reducible refine ha.out.mono ?_);rintro e w1 ⟨rfl,rfl⟩)
  |(with_reducible refine J6 8 ?_;go_must (refine As3 rfl _ (.tmp 7) _ rfl 1 x y rfl rfl hm.out ?_)))
 go_ret
 exact⟨rfl,rfl⟩
theorem clamp_in (v:Int):0<=Aj4 v/\Aj4 v<=65535:=by unfold Aj4;omega
theorem Br2 (l:List Int) (i:Nat):0<=atN l i/\atN l i<=65535:=by
 unfold atN
 split
 ·exact clamp_in _
 ·omega
theorem Ac4 (l:List Int) (i:Nat):1<=Aa2 l i/\Aa2 l i<=65535:=by
 have:=Br2 l i
 unfold Aa2
 omega
theorem Ah3 (i:Int) (n:Nat) (h1:1<=n) (h5:n<=512) (w:World):Calls Tryz.prog 228 #[.int .i64 i,.int .i64 n] w fun e w'=>e=.returned (.int .i64 (Ba1 i n))/\w=w':=by
 have hw:IntKind.i64.wrap ((n:Int) - 1)=(n:Int) - 1:=IntWalk.i64_in _ (by omega)
 obtain⟨m1,hm1⟩:∃m1,min i ((n:Int) - 1)=m1:=⟨_,rfl⟩
 obtain⟨y,hy⟩:∃y,y=Ba1 i n:=⟨_,rfl⟩
 have hm2:max 0 m1=(y:Int):=by rw[hy,<- hm1];unfold Ba1;omega
 rw[<- hy]
 replace hm1:=J0 hm1
 replace hm2:=J0 hm2
 replace hy:=J0 hy
 go_enter Tryz.func228,Tryz.ntmps228
 go_wp2_with (first
  |(with_reducible refine J6 8 ?_;go_must (refine As4 rfl (.tmp 5) (.tmp 7) _ rfl i ((n:Int) - 1) m1 rfl rfl hm1.out ?_))
  |(with_reducible refine J6 9 ?_;go_must (refine As3 rfl _ (.tmp 8) _ rfl 0 m1 y rfl rfl hm2.out ?_)))
 go_ret
 exact⟨rfl,rfl⟩
end
structure Ok (T:Ter):Prop where
 fit:Fit T.vis
 fitm:Fit T.mscr
 rows:T.main.L.length=T.vis.L.length
 cols:T.main.cols=T.vis.cols
 row:T.c.row<T.vis.L.length
 col:T.c.col<T.vis.cols
 sv:T.sh.sv.c.row<T.vis.L.length/\T.sh.sv.c.col<T.vis.cols
 svm:T.main.sv.c.row<T.main.L.length/\T.main.sv.c.col<T.main.cols
 tn:T.tn=T.vis.cols
 alt:T.other.isSome=T.m.a6
section
variable {Z Z1:Zn}{w w':World}{t:Nat}{T:Ter}{P:Pt}{v:Value}{l:List Int}
theorem Aa8 (h:TMx Z w t T P):Calls Tryz.prog 68 #[.pointer (some ⟨t,0,none⟩)] w fun e w'=>e=.returned (.pointer (some ⟨P.h T.other,0,none⟩))/\w=w':=by
 have c18:=h.c18
 have c19:=h.c19
 unfold Pt.h
 rcases ho:T.other with _|o
 ·rw[ho] at c19
  unfold optP at c19
  clear h ho
  go_enter Tryz.func68,Tryz.ntmps68
  go_wp2
  go_ret
  exact⟨rfl,rfl⟩
 ·rw[ho] at c19
  unfold optP at c19
  clear h ho
  go_enter Tryz.func68,Tryz.ntmps68
  go_wp2
  go_ret
  exact⟨rfl,rfl⟩
theorem An1 {x s:Nat} {S:Scr} (h:SC Z1 w x s S) (hl:1<=S.L.length):Calls Tryz.prog 69 #[.pointer (some ⟨x,0,none⟩)] w (Asks (.tuple #[.int .i64 S.top,.int .i64 S.bot]) w):=by
 have hm:=J0 (Ak8 h hl)
 obtain⟨_,_,_,_,c4,c5⟩:=h.cells
 generalize S.top=t at c4 |-
 generalize S.bot=b at c5 |-
 clear h
 go_enter Tryz.func69,Tryz.ntmps69
 go_wp2_with ((go_at_call 97;(with_reducible refine(hm.out).mono ?_);rintro e w' ⟨rfl,rfl⟩))
 go_quiet (fail)
 go_wp2
 go_ret2
 exact⟨rfl,_,rfl⟩
theorem Br0 (h:TMx Z w t T P) (ok:Ok T) (n:Int) (hn:0<=n/\n<=65535):Calls Tryz.prog 236 #[.pointer (some ⟨t,0,none⟩),.int .i64 n] w (Asks (.int .i64 (above T n)) w):=by
 have c8:=h.c8
 have hs:=h.s0
 have hsh:=J0 (Aa8 h)
 obtain⟨Z1,hf⟩:=h.focus
 have hm:=An1 hf.sc ok.fit.len
 have h5:=ok.fit.len5
 have hr:=ok.row
 have hb:=ok.fit.bot
 have ht:=ok.fit.top
 unfold above
 generalize P.h T.other=hh at hs hsh
 generalize P.x T.other=xx at hs hm
 generalize T.vis.bot=bot at hm hb ht
 generalize T.vis.top=top at hm ht |-
 generalize T.vis.L.length=rows at h5 hr hb
 generalize T.c.row=row at c8 hr |-
 replace hm:=J0 hm
 have hw:IntKind.i64.wrap ((row:Int) - n)=(row:Int) - n:=IntWalk.i64_in _ (by omega)
 clear h hf ok
 by_cases hc:top<=row
 ·rw[if_pos hc]
  have hd:decide ((top:Int)<=(row:Int))=true:=decide_eq_true (by omega)
  have hd2:decide (top<=row)=true:=decide_eq_true hc
  obtain⟨y,hy⟩:∃y,max (top:Int) ((row:Int) - n)=y:=⟨_,rfl⟩
  rw[hy]
  replace hy:=J0 hy
  go_enter Tryz.func236,Tryz.ntmps236
  go_wp2_with (first
   |(go_at_call 68;(with_reducible refine hsh.out.mono ?_);rintro e w1 ⟨rfl,rfl⟩)
   |(go_at_call 69;(with_reducible refine hm.out.mono ?_);rintro e w1 ⟨rfl,q,rfl⟩)
   |(with_reducible refine J6 31 ?_;go_must (refine As3 rfl (.tmp 23) (.tmp 30) _ rfl top ((row:Int) - n) y rfl rfl hy.out ?_)))
  go_ret
  exact⟨rfl,_,rfl⟩
 ·rw[if_neg hc]
  have hd:decide ((top:Int)<=(row:Int))=false:=decide_eq_false (by omega)
  have hd2:decide (top<=row)=false:=decide_eq_false hc
  go_enter Tryz.func236,Tryz.ntmps236
  go_wp2_with (first
   |(go_at_call 68;(with_reducible refine hsh.out.mono ?_);rintro e w1 ⟨rfl,rfl⟩)
   |(go_at_call 69;(with_reducible refine hm.out.mono ?_);rintro e w1 ⟨rfl,q,rfl⟩))
  go_ret
  exact⟨rfl,_,rfl⟩
end
def Does (Z:Zn) (w:World) (t:Nat) (T:Ter) (e:Ending) (w':World):Prop:=(∃v,e=.returned v)/\TM Z w' t T/\Scn.Fr Z TT w w'
section
variable {Z Z1:Zn}{w w':World}{t:Nat}{T:Ter}{P:Pt}{v:Value}{l:List Int}
theorem Av2 (h:TMx Z w t T P) (ok:Ok T) (n:Int) (hn:0<=n/\n<=65535):Calls Tryz.prog 238 #[.pointer (some ⟨t,0,none⟩),.int .i64 n] w (Asks (.int .i64 (below T n)) w):=by
 have c8:=h.c8
 have hs:=h.s0
 have hsh:=J0 (Aa8 h)
 obtain⟨Z1,hf⟩:=h.focus
 have hm:=An1 hf.sc ok.fit.len
 have h5:=ok.fit.len5
 have hr:=ok.row
 have hb:=ok.fit.bot
 have ht:=ok.fit.top
 unfold below
 generalize P.h T.other=hh at hs hsh
 generalize P.x T.other=xx at hs hm
 generalize T.vis.bot=bot at hm hb ht |-
 generalize T.vis.top=top at hm ht
 generalize T.vis.L.length=rows at h5 hr hb
 generalize T.c.row=row at c8 hr |-
 replace hm:=J0 hm
 have hw:IntKind.i64.wrap ((row:Int)+n)=(row:Int)+n:=IntWalk.i64_in _ (by omega)
 clear h hf ok
 by_cases hc:row<=bot
 ·rw[if_pos hc]
  have hd:decide ((row:Int)<=(bot:Int))=true:=decide_eq_true (by omega)
  have hd2:decide (row<=bot)=true:=decide_eq_true hc
  obtain⟨y,hy⟩:∃y,min (bot:Int) ((row:Int)+n)=y:=⟨_,rfl⟩
  rw[hy]
  replace hy:=J0 hy
  go_enter Tryz.func238,Tryz.ntmps238
  go_wp2_with (first
   |(go_at_call 68;(with_reducible refine hsh.out.mono ?_);rintro e w1 ⟨rfl,rfl⟩)
   |(go_at_call 69;(with_reducible refine hm.out.mono ?_);rintro e w1 ⟨rfl,q,rfl⟩)
   |(with_reducible refine J6 31 ?_;go_must (refine As4 rfl (.tmp 23) (.tmp 30) _ rfl bot ((row:Int)+n) y rfl rfl hy.out ?_)))
  go_ret
  exact⟨rfl,_,rfl⟩
 ·rw[if_neg hc]
  have hd:decide ((row:Int)<=(bot:Int))=false:=decide_eq_false (by omega)
  have hd2:decide (row<=bot)=false:=decide_eq_false hc
  go_enter Tryz.func238,Tryz.ntmps238
  go_wp2_with (first
   |(go_at_call 68;(with_reducible refine hsh.out.mono ?_);rintro e w1 ⟨rfl,rfl⟩)
   |(go_at_call 69;(with_reducible refine hm.out.mono ?_);rintro e w1 ⟨rfl,q,rfl⟩))
  go_ret
  exact⟨rfl,_,rfl⟩
theorem An6 (h:TMx Z w t T P) (ok:Ok T) (n:Int) (hn:0<=n/\n<=65535):Calls Tryz.prog 239 #[.pointer (some ⟨t,0,none⟩),.int .i64 n] w (Asks (.int .i64 (counted T n)) w):=by
 have c3:=h.c3
 have hs:=h.s0
 have hsh:=J0 (Aa8 h)
 obtain⟨Z1,hf⟩:=h.focus
 have hm:=An1 hf.sc ok.fit.len
 have h5:=ok.fit.len5
 have hb:=ok.fit.bot
 have ht:=ok.fit.top
 unfold counted
 generalize P.h T.other=hh at hs hsh
 generalize P.x T.other=xx at hs hm
 generalize T.vis.bot=bot at hm hb ht |-
 generalize T.vis.top=top at hm ht |-
 generalize T.vis.L.length=rows at h5 hb
 replace hm:=J0 hm
 have hw:IntKind.i64.wrap (n - 1)=n - 1:=IntWalk.i64_in _ (by omega)
 have hw2:IntKind.i64.wrap ((top:Int)+n)=(top:Int)+n:=IntWalk.i64_in _ (by omega)
 have hw3:IntKind.i64.wrap ((top:Int)+n - 1)=(top:Int)+n - 1:=IntWalk.i64_in _ (by omega)
 clear h hf ok
 generalize T.m.a3=ob at c3 |-
 cases ob
 ·simp only[Bool.false_eq_true,if_false]
  go_enter Tryz.func239,Tryz.ntmps239
  go_wp2
  go_ret
  exact⟨rfl,0,rfl⟩
 ·simp only[if_true]
  obtain⟨y,hy⟩:∃y,min (bot:Int) ((top:Int)+n - 1)=y:=⟨_,rfl⟩
  rw[hy]
  replace hy:=J0 hy
  go_enter Tryz.func239,Tryz.ntmps239
  go_wp2_with (first
   |(go_at_call 68;(with_reducible refine hsh.out.mono ?_);rintro e w1 ⟨rfl,rfl⟩)
   |(go_at_call 69;(with_reducible refine hm.out.mono ?_);rintro e w1 ⟨rfl,q,rfl⟩)
   |(with_reducible refine J6 29 ?_;go_must (refine As4 rfl (.tmp 24) (.tmp 28) _ rfl bot ((top:Int)+n - 1) y rfl rfl hy.out ?_)))
  go_ret
  exact⟨rfl,_,rfl⟩
theorem Bu5 (h:TMx Z w t T P) (fit:Fit T.vis) (row col:Int):Calls Tryz.prog 171 #[.pointer (some ⟨t,0,none⟩),.int .i64 row,.int .i64 col] w fun e w'=>(∃v,e=.returned v)/\TMx Z w' t (place T row col) P/\Scn.Fr Z TT w w':=by
 have c8:=h.c8
 have c9:=h.c9
 have c10:=h.c10
 have f8:=h.free 8
 have f9:=h.free 9
 have f10:=h.free 10
 have hs:=h.s0
 have hsh:=J0 (Aa8 h)
 obtain⟨Z1,hf⟩:=h.focus
 have hro:=J0 (Af8 hf.sc fit.len)
 have hco:=J0 (Ai2 hf.sc fit.len)
 have hh1:=J0 (Ah3 row T.vis.L.length fit.len fit.len5 w)
 have hh2:=J0 (Ah3 col T.vis.cols fit.c1 fit.c5 w)
 have hres:=fun (y x:Nat)=>h.turn (m:=T.m) (c:=⟨y,x,false⟩) (p:=T.p) (n:=T.prints) (e:=T.last) (w':=((w.setCell ⟨t,8,none⟩ (.int .i64 y)).setCell ⟨t,9,none⟩ (.int .i64 x)).setCell ⟨t,10,none⟩ (.bool false))
  (((Only.setCell w ⟨t,8,none⟩ _).trans (Only.setCell _ ⟨t,9,none⟩ _)).trans (Only.setCell _ ⟨t,10,none⟩ _)) (((h.blk.set 8 _).set 9 _).set 10 _)
 unfold place
 replace hres:=J0 (hres (Ba1 row T.vis.L.length) (Ba1 col T.vis.cols))
 generalize Ba1 row T.vis.L.length=y at hh1 hres |-
 generalize Ba1 col T.vis.cols=x at hh2 hres |-
 generalize P.h T.other=hh at hs hsh
 generalize P.x T.other=xx at hs hro hco
 generalize T.vis.L.length=rows at hro hh1
 generalize T.vis.cols=cols at hco hh2
 clear h hf fit
 go_enter Tryz.func171,Tryz.ntmps171
 go_wp2_with (first
  |(go_at_call 68;(with_reducible refine hsh.out.mono ?_);rintro e w1 ⟨rfl,rfl⟩)
  |(go_at_call 70;(with_reducible refine hro.out.mono ?_);rintro e w1 ⟨rfl,rfl⟩)
  |(go_at_call 124;(with_reducible refine hco.out.mono ?_);rintro e w1 ⟨rfl,rfl⟩)
  |(go_at_call 228;(with_reducible refine hh1.out.mono ?_);rintro e w1 ⟨rfl,rfl⟩)
  |(go_at_call 228;(with_reducible refine hh2.out.mono ?_);rintro e w1 ⟨rfl,rfl⟩))
 go_end0
 exact⟨⟨_,rfl⟩,hres.out⟩
theorem Ah7 (h:TMx Z w t T P) (ok:Ok T) (row col:Int):Calls Tryz.prog 171 #[.pointer (some ⟨t,0,none⟩),.int .i64 row,.int .i64 col] w fun e w'=>(∃v,e=.returned v)/\TMx Z w' t (place T row col) P/\Scn.Fr Z TT w w':=Bu5 h ok.fit row col
end
theorem step_appB {P:Program} {t e:TypeId} {z:Value} {size:Nat} (E:As9 P t e z size) {w:World} {ops:Array Oper} {o:Oper} {a:Go.Act} {K:Go.Act->World->Prop} {Q:Exit->Go.Act->World->Prop} {F:Prop} (hw:Region.wanted o (yielded ops a.tmps)=true) (s x:Operand)
  (ho:o.op=.call { callee:=.builtin .append,args:=#[s,x],argTypes:=#[t,t] })
  (B:Nat) (v:Value) (n:Nat) (xs:List Value) (ad:Addr) (m c:Nat) (news:List Value) (hs:a.eval s=v) (hxe:a.eval x=.slice (some ad) m c)
  (h:w.ownsRow B e size v n xs) (hl:news.length=m*size) (hnews:∀j u,news[j]?=some u->w.cell? (ad.add j)=some u) (h1:∀u∈news,u.oneCell'=true) (hB:B<=w.heap.size) (hx:n+m<=100000000)
  (hK:∀v' w',w'.ownsRow B e size v' (n+m) (xs++news)->Only v.ownBlock.toList w w'->(v'.ownBlock=v.ownBlock\/v'.ownBlock=some w.heap.size)->K (a.put o.dst v') w') :
  if Region.wanted o (yielded ops a.tmps)=true then Oper.wp P o a w K Q else F:=by
 rw[if_pos hw]
 obtain⟨i,hi,hz,hsz,hb⟩:=E.info
 have hby:(n+m)*i.bytes<=100000000*100:=Nat.mul_le_mul hx hb
 obtain⟨v',w',hr,h2,h3,_,h5⟩:=run_append_own_at (P:=P) w B t o.type e i z size i.bytes E.slice hi hz hsz rfl E.cells E.pos v n xs h ad m c news hl hnews h1 (by unfold maxLen;omega) (by omega) hB
 unfold Oper.wp execOp
 simp only[ho,resolve,invoke,builtin,Sem.run_bind,Sem.run_pure,Result.andThen_ok,List.map_toArray,List.map_cons,List.map_nil,hs,hxe,hr]
 exact hK v' w' h2 (Only.grown h3) h5
theorem Aw0 (e:Ev):(Tryz.prog.info? 73).map (·.size)=some (evA e).size:=by kernel_rfl
theorem Cp7 (e:Ev):(evA e).all (·.oneCell')=true:=by simp[evA,Value.oneCell']
theorem Ch1:As9 Tryz.prog 35 73 (.agg #[.int .u8 0,.int .u64 0,.int .i64 0,.int .i64 0,.bool false,.int .i32 0,.bool false,.bool false,.bool false,.bool false]) 10:=by
 have h:(Tryz.prog.info? 73).map (fun i=>(i.zero,i.size,decide (i.bytes<=100)))=some (some (.agg #[.int .u8 0,.int .u64 0,.int .i64 0,.int .i64 0,.bool false,.int .i32 0,.bool false,.bool false,.bool false,.bool false]),10,true):=by kernel_rfl
 refine⟨Tryz.underlying35,?_,rfl,by omega⟩
 cases hq:Tryz.prog.info? 73 with
 |none=>simp[hq] at h
 |some i =>
  simp only[hq,Option.map_some,Option.some.injEq,Prod.mk.injEq,decide_eq_true_eq] at h
  exact⟨i,rfl,h.1,h.2.1,h.2.2⟩
def EvB (w:World) (b:Nat) (e:Ev):Prop:=Block w b 73 (evA e)
section
variable {Z Z1:Zn}{w w':World}{t:Nat}{T:Ter}{P:Pt}{v:Value}{l:List Int}
theorem Cc0 {P:Program} {f:FuncId} {args:Array Value} {w:World} {n:Nat} {v:Value} (h:Calls P f args (w.drewN n) fun e w'=>e=.returned v/\w.drewN n=w'):Calls P f args (w.drewN n) fun e w''=>e=.returned v/\∃m,w''=w.drewN m :=
 h.mono fun _ _ ⟨he,hm⟩=>⟨he,n,hm.symm⟩
theorem Al8 (h:TMx Z w t T P) (ok:Ok T) (k:Int):Calls Tryz.prog 163 #[.pointer (some ⟨t,0,none⟩),.int .u8 k] w fun e w'=>e=.returned (.agg (evA (here T k)))/\Below w.heap.size w w':=by
 have hbn:=Aa1 w (.cells #[.int .u8 0,.int .u64 0,.int .i64 0,.int .i64 0,.bool false,.int .i32 0,.bool false,.bool false,.bool false,.bool false] 73)
 have hbx:=Block.made w 73 #[.int .u8 0,.int .u64 0,.int .i64 0,.int .i64 0,.bool false,.int .i32 0,.bool false,.bool false,.bool false,.bool false]
 have h0:=h.below hbn
 have c8:=h0.c8
 have c9:=h0.c9
 have hs:=h0.s0
 have hsh:=J0 (fun m=>Aa8 (h0.drew m))
 obtain⟨Z1,hf⟩:=h0.focus
 have hid:=J0 (fun m=>Ct7 (hf.sc.below (Aa4 (Below.refl _ _) m)) ok.fit.len T.c.row)
 unfold here
 generalize idAt T.vis.L T.c.row=y at hid |-
 generalize P.h T.other=hh at hs hsh
 generalize P.x T.other=xx at hs hid
 generalize T.c.row=row at c8 hid
 generalize T.c.col=col at c9 |-
 clear h h0 hf ok
 go_enter Tryz.func163,Tryz.ntmps163
 go_wp2
 generalize w.alloc (.cells #[.int .u8 0,.int .u64 0,.int .i64 0,.int .i64 0,.bool false,.int .i32 0,.bool false,.bool false,.bool false,.bool false] 73)=w0 at *
 refine Eqt.region_quiet_tail 18 (by kernel_rfl) (by kernel_rfl) ?_
 simp only[List.take_succ_cons,List.take_zero,List.drop_succ_cons,List.drop_zero]
 repeat (go_big_quiet_step (first
  |(go_at_call 68;exact Cc0 (hsh.out _))
  |(go_at_call 73;exact Cc0 (hid.out _))))
 refine wpQuiet_nil ?_
 intro w9 hw9
 obtain⟨nq,rfl⟩:=hw9
 have hb9:=hbx.only (Only.drewN [] _ nq) (by simp)
 have hl9:=Aa4 hbn nq
 generalize w0.drewN nq=w9 at hb9 hl9 |-
 clear c8 c9 hs hsh hid hbx hbn
 go_wp2_with (with_reducible refine J8 4 ?_;go_must (refine Aa3 rfl _ (.tmp 4) (.tmp 22) rfl hb9 (evA ⟨k,0,y,col,false,0,false,false,false,false⟩) rfl rfl (Aw0 _) rfl (Cp7 _) ?_);intro w8 hb8 ho8)
 exact bodyPost_ret (results_cell_row rfl _ _ _ _ _ _ _ rfl hb8 Tryz.underlying73 rfl (Aw0 _)) rfl ⟨rfl,hl9.trans (ho8.below hl9.size (by simp))⟩
theorem EvB.cells {b:Nat} {e:Ev} (h:EvB w b e):w.cell? ⟨b,0,none⟩=some (.int .u8 e.k)/\w.cell? ⟨b,1,none⟩=some (.int .u64 e.ix)/\w.cell? ⟨b,2,none⟩=some (.int .i64 e.line)/\w.cell? ⟨b,3,none⟩=some (.int .i64 e.col)/\w.cell? ⟨b,4,none⟩=some (.bool e.wide) /\
  w.cell? ⟨b,5,none⟩=some (.int .i32 e.r)/\w.cell? ⟨b,6,none⟩=some (.bool e.bl)/\w.cell? ⟨b,7,none⟩=some (.bool e.la)/\w.cell? ⟨b,8,none⟩=some (.bool e.fr)/\w.cell? ⟨b,9,none⟩=some (.bool e.wr) :=
 ⟨Block.cell h 0 rfl,Block.cell h 1 rfl,Block.cell h 2 rfl,Block.cell h 3 rfl,Block.cell h 4 rfl,Block.cell h 5 rfl,Block.cell h 6 rfl,Block.cell h 7 rfl,Block.cell h 8 rfl,Block.cell h 9 rfl⟩
theorem TMx.told (h:TMx Z w t T P) {wa w2:World} {jv:Value} (e:Ev) (hb:Below w.heap.size w wa) (hown:w2.ownsRow 0 73 10 jv (T.jr.length+1) (fl evL T.jr++evL e)) (ho:Only P.jv.ownBlock.toList wa w2)
  (hat:jv.ownBlock=P.jv.ownBlock\/jv.ownBlock=some wa.heap.size):TMx Z (w2.setCell ⟨t,32,none⟩ jv) t { T with jr:=T.jr++[e] } { P with jv:=jv }/\Scn.Fr Z TT w (w2.setCell ⟨t,32,none⟩ jv):=by
 have hj:=fun g hg=>Ab9 h.jr g hg
 have tt:=Block.typ h.blk
 have hO:Only (t::P.jv.ownBlock.toList) w (w2.setCell ⟨t,32,none⟩ jv):=(((Only.of_below hb _).trans ho).mono (by simp +contextual)).trans ((Only.setCell w2 ⟨t,32,none⟩ jv).mono (by simp))
 have hf:Scn.Fr Z [102,73] w (w2.setCell ⟨t,32,none⟩ jv):=Scn.Fr.of_only hO fun k hk _=>by
  rcases List.mem_cons.1 hk with rfl|hk
  ·exact⟨h.zt,_,by simp,tt⟩
  ·have hk':P.jv.ownBlock=some k:=by simpa using hk
   exact⟨h.zj k hk',_,by simp,hj k hk'⟩
 have keep:∀ {k:Nat} {ty:TypeId},Typ w k ty->ty∉[102,73]->(w2.setCell ⟨t,32,none⟩ jv).heap[k]?=w.heap[k]?:=fun hk hty=>hf.block _ (Al0 hk) (.inr fun t' ht' hT=>hty (by rw[Typ.inj hk hT];exact ht'))
 have same:∀ {k:Nat} {ty:TypeId} {cs:Array Value},Block w k ty cs->ty∉[102,73]->Block (w2.setCell ⟨t,32,none⟩ jv) k ty cs:=fun hb hty=>(keep (Block.typ hb) hty).trans hb
 have htj:t∉P.jv.ownBlock.toList:=fun hm=>absurd (Typ.inj tt (hj t (by simpa using hm))) (by decide)
 have hb2:Block w2 t 102 (terA T P):=(h.blk.only (Only.of_below hb []) (by simp)).only ho htj
 have hgt:∀g,jv.ownBlock=some g->g≠t:=fun g hg e=>absurd (Typ.inj (Ab9 hown g hg) (e▸Block.typ hb2)) (by decide)
 refine⟨⟨hb2.set 32 jv,same h.main (by decide),fun o ho=>⟨same (h.aside o ho).1 (by decide),(h.aside o ho).2⟩,h.scr.fr hf (by unfold NoPT;decide),same h.tabs (by decide),?_,Ad3 h.rp (fun g hg=>keep (Ad2 h.rp g hg) (by decide)),h.zt,h.zm,h.zb,fun g hg=>?_,h.zr,fun k hk=>h.up k (Nat.le_trans hf.size hk),h.low,h.tbl.fr hf h.low⟩,hf.mono (by simp[TT])⟩
 ·have e1:fl evL (T.jr++[e])=fl evL T.jr++evL e:=by rw[fl_app,fl_one]
  show World.ownsRow _ 0 _ 10 jv (T.jr++[e]).length (fl evL (T.jr++[e]))
  rw[e1,List.length_append,List.length_singleton]
  exact Af0 hown (Only.setCell w2 ⟨t,32,none⟩ jv) (fun g hg=>by simpa using hgt g hg)
 ·rcases hat with hat|hat
  ·exact h.zj g (hat▸hg)
  ·rw[hat] at hg
   cases hg
   exact h.up _ hb.size
theorem EvB.heap {b:Nat} {e:Ev} (h:EvB w b e):w.heap[b]?=some (.cells (evA e) 73 (0,0)):=h
theorem Ay5 (h:TMx Z w t T P) (hj:T.jr.length<=90000000) (e:Ev):Calls Tryz.prog 222 #[.pointer (some ⟨t,0,none⟩),.agg (evA e)] w fun r w'=>(∃v,r=.returned v)/\(∃jv,TMx Z w' t (tell T e) { P with jv:=jv })/\Scn.Fr Z TT w w':=by
 have hbn:=Aa1 w (.cells (evA e) 73)
 have hbx:EvB (w.alloc (.cells (evA e) 73)) w.heap.size e:=Block.made w 73 (evA e)
 have h0:=h.below hbn
 have htlt:=h.blk.lt
 obtain⟨bx,hbxe⟩:∃bx,bx=w.heap.size:=⟨_,rfl⟩
 have htb:bx∉[t]:=by simp;omega
 clear h
 go_enter Tryz.func222,Tryz.ntmps222
 go_wp2_with (first
  |(with_reducible refine J9 5 3 ?_;go_must (refine wpList_load_row rfl _ (.tmp 3) rfl w.heap.size rfl _ (evA e) (0,0) _ hbx.heap Tryz.underlying73 rfl (Aw0 _) ?_))
  |(with_reducible refine J8 7 ?_;go_must (refine Ad7 rfl _ (.tmp 7) (.tmp 5) rfl h0.blk (evA e) rfl rfl (by simp[terA,evA]) (Aw0 _) (Cp7 _) ?_);intro w1 hb1 ho1))
 rw[<- hbxe]
 obtain⟨h1,hf1⟩:=h0.turn (m:=T.m) (c:=T.c) (p:=T.p) (n:=T.prints) (e:=e) ho1 hb1
 have hx1:EvB w1 bx e:=Block.only (show EvB _ bx e from hbxe▸hbx) ho1 htb
 have hfr:=(Scn.Fr.of_below (B:=Z) (ts:=TT) hbn).trans hf1
 clear h0 hb1 ho1 hf1 hbx hbn htb htlt
 replace hfr:=J0 hfr
 replace hbxe:=J0 hbxe
 have hd1:Below w1.heap.size w1 w1.drew:=Aa4 (Below.refl _ _) 1
 have hda:=hd1.alloc (J5 _) (.cells (evA e) 73)
 have h2:=h1.below hda
 have hown:=h2.jr
 have c32:=h1.c32
 obtain⟨x0,x1,x2,x3,x4,x5,x6,x7,x8,x9⟩:=hx1.cells
 have hln:∀j u,(evL e)[j]?=some u->(w1.drew.alloc (.cells (evA e) 73)).cell? ((⟨w1.heap.size,0,none⟩:Addr).add j)=some u:=fun j u hj=>by
  rw[Addr.add_lit,Nat.zero_add]
  exact(Block.made w1.drew 73 (evA e)).cell j (by simpa[evA,evL] using hj)
 have hfin:=fun w2 jv=>h1.told (wa:=w1.drew.alloc (.cells (evA e) 73)) (w2:=w2) (jv:=jv) e hda
 have hblk:=h2.blk
 have htJ:t∉P.jv.ownBlock.toList:=fun hm=>absurd (Typ.inj (Block.typ h2.blk) (Ab9 h2.jr t (by simpa using hm))) (by decide)
 obtain⟨ao,c,hjv,hnc,hcm⟩:=Ab3 h1.jr
 have ka:=(h1.below (Aa1 w1 (.cells (evA e) 73))).c32
 simp only at hown hfin c32 ka hjv hnc htJ
 rw[hjv] at c32 ka hown hfin htJ
 generalize hlen:T.jr.length=n at c32 ka hown hfin hj hnc htJ
 replace hlen:=J0 hlen
 replace hjv:=J0 hjv
 replace hown:=J0 hown
 replace hblk:=J0 hblk
 replace hfin:=J0 hfin
 replace htJ:=J0 htJ
 replace hln:=J0 hln
 clear h1 h2 hx1 hd1 hda
 obtain⟨ek,eix,el,ec,ew,er,ebl,ela,efr,ewr⟩:=e
 simp only[evA] at ka hown hblk hln hfin
 simp only at x0 x1 x2 x3 x4 x5 x6 x7 x8 x9
 go_region_law (first
  |(refine step_appB Ch1 rfl (.tmp 12) (.tmp 14) rfl 0 (.slice ao n c) n (fl evL T.jr) ⟨w1.heap.size,0,none⟩ 1 1 (evL ⟨ek,eix,el,ec,ew,er,ebl,ela,efr,ewr⟩) rfl rfl hown.out rfl hln.out (Ch4 _) (Nat.zero_le _) (by omega) ?_;intro sv2 w2 hown2 ho2 hat2;have hb2:=hblk.out.only ho2 htJ.out;have k2':=hb2.cell 32 rfl;have f2:=hb2.free 32;obtain⟨a2,c2,rfl,_⟩:=Ab3 hown2))
 all_goals
  have hres:=J0 (hfin.out _ _ hown2 ho2 hat2)
  clear hown2 ho2 hat2 hb2
  go_wp2
  go_end0
  exact⟨⟨_,rfl⟩,⟨_,hres.out.1⟩,hfr.out.trans hres.out.2⟩
end
