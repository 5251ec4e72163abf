/- Part 29 of HostKeys. -/
import Derived.Test.YtecnpoigegiooaaGreatDoorW28
set_option maxHeartbeats 16000000
set_option maxRecDepth 100000
namespace Go.Proofs.YtecnpoigegiooaaGreatDoor.Emu
open Go.Proofs.Tryz
open Go RowKit Com Rw Lns Scn
section
variable {Z Z1:Zn}{w w':World}{t x s:Nat}{S:Scr}{T:Ter}{P:Pt}{v:Value}{l:List Int}
theorem Cjt{S:Scr}(h:Fit S){i:Nat}{l:List Cel}(hl:l.length=(C8 S i).length):Fit (Aa2 S i l):=by
 have hm:∀p∈(Aa2 S i l).L,p∈S.L\/∃q∈S.L,p=(q.1,l)/\S.L[i]?=some q:=fun p hp=>by
  obtain⟨j,hj,e⟩:=List.mem_iff_getElem.1 hp
  have hj':j<S.L.length:=by simpa[Aa2]using hj
  simp only[Aa2,List.getElem_modify]at e
  split at e
  ·rename_i hij
   subst hij
   exact .inr ⟨S.L[i],List.getElem_mem hj',e.symm,List.getElem?_eq_getElem hj'⟩
  ·exact .inl (e▸List.getElem_mem hj')
 have hlen:=Bad S i l
 refine⟨by rw[hlen];exact h.len,by rw[hlen];exact h.G8,by rw[hlen];exact h.bot,h.top,h.c1,h.c5,fun p hp=>?_,fun p hp=>?_,h.pos⟩
 ·rcases hm p hp with hp|⟨q,hq,rfl,e⟩
  ·exact h.wid p hp
  ·show l.length=S.cols
   rw[hl,<- h.wid q hq]
   unfold C8
   rw[e]
   rfl
 ·rcases hm p hp with hp|⟨q,hq,rfl,e⟩
  ·exact h.ids p hp
  ·exact h.ids q hq
theorem Ok.C1(h:Ok T){l:List Cel}(hl:l.length=(line T).length):Ok (C1 T l) :=
 h.C2 rfl rfl (Cjt h.fit hl) (Bad _ _ _) rfl (J5 _)
theorem Baz(h:TMx Z w t T P)(ok:Ok T)(n:Int):Calls prog 243 #[.pointer (some ⟨t,0,none⟩),.int .i64 n] w (Aik (.tuple (if n=0 then #[.int .i64 T.c.col,.int .i64 T.vis.cols,.bool true]else if n=1 then #[.int .i64 0,.int .i64 ((T.c.col:Int)+1),.bool true]else if n=2 then #[.int .i64 0,.int .i64 T.vis.cols,.bool true]else #[.int .i64 0,.int .i64 0,.bool false])) w):=by
 have c9:=h.c9
 have hs:=h.s0
 have hsh:=J0 (I7 h)
 obtain⟨Z1,hf⟩:=h.focus
 have hco:=J0 (Aco hf.sc ok.fit.len)
 have hw:IntKind.i64.wrap ((T.c.col:Int)+1)=(T.c.col:Int)+1:=IntWalk.i64_in _ (by have:=ok.col;have:=ok.fit.c5;omega)
 generalize P.h T.other=hh at hs hsh
 generalize P.x T.other=xx at hs hco
 generalize T.vis.cols=cols at hco |-
 generalize T.c.col=col at c9 hw |-
 clear h hf ok
 by_cases h0:n=0
 ·subst h0
  rw[if_pos rfl]
  go_enter func243,ntmps243
  go_wp2_with (first
   |(go_at_call 68;(with_reducible refine(hsh.out).mono ?_);rintro e w1 ⟨rfl,rfl⟩)
   |(go_at_call 124;(with_reducible refine(hco.out).mono ?_);rintro e w1 ⟨rfl,rfl⟩))
  go_ret3
  exact⟨rfl,0,rfl⟩
 ·rw[if_neg h0]
  have hd0:(n==0)=false:=by simpa using h0
  have he0:decide (n=0)=false:=decide_eq_false h0
  by_cases h1:n=1
  ·subst h1
   rw[if_pos rfl]
   go_enter func243,ntmps243
   go_wp2_with (first
    |(go_at_call 68;(with_reducible refine(hsh.out).mono ?_);rintro e w1 ⟨rfl,rfl⟩)
    |(go_at_call 124;(with_reducible refine(hco.out).mono ?_);rintro e w1 ⟨rfl,rfl⟩))
   go_quiet (fail)
   go_wp2
   go_ret3
   exact⟨rfl,_,rfl⟩
  ·rw[if_neg h1]
   have hd1:(n==1)=false:=by simpa using h1
   have he1:decide (n=1)=false:=decide_eq_false h1
   by_cases h2:n=2
   ·subst h2
    rw[if_pos rfl]
    go_enter func243,ntmps243
    go_wp2_with (first
     |(go_at_call 68;(with_reducible refine(hsh.out).mono ?_);rintro e w1 ⟨rfl,rfl⟩)
     |(go_at_call 124;(with_reducible refine(hco.out).mono ?_);rintro e w1 ⟨rfl,rfl⟩))
    go_ret3
    exact⟨rfl,0,rfl⟩
   ·rw[if_neg h2]
    have hd2:(n==2)=false:=by simpa using h2
    have he2:decide (n=2)=false:=decide_eq_false h2
    go_enter func243,ntmps243
    go_wp2_with (first
     |(go_at_call 68;(with_reducible refine(hsh.out).mono ?_);rintro e w1 ⟨rfl,rfl⟩)
     |(go_at_call 124;(with_reducible refine(hco.out).mono ?_);rintro e w1 ⟨rfl,rfl⟩))
    go_ret3
    exact⟨rfl,0,rfl⟩
theorem Ayk(T:Ter):T.C2 T.vis=T:=by
 obtain⟨m,c,p,nx,most,R,main,other,tn,tf,pr,la,jr,rp⟩:=T
 cases other<;>rfl
theorem Bsd(h:TM Z w t T)(ok:Ok T)(hj:T.jr.length<=90000000)(hp:NA Z w v l):Calls prog 192 #[.pointer (some ⟨t,0,none⟩),v] w (A7 Z w t (Azb T l)):=by
 obtain⟨P,h⟩:=h
 have hn:=Ajd l 0
 have F5:T.c.col<512:=by have:=ok.col;have:=ok.fit.c5;omega
 obtain⟨Z1,hf⟩:=h.focus
 obtain⟨d,hd⟩:=Adr hf.sc ok.row
 have c9:=fun k:Eqt.Ext w=>(h.below k.below).c9
 have c11:=fun k:Eqt.Ext w=>(h.below k.below).c11
 have c12:=fun k:Eqt.Ext w=>(h.below k.below).c12
 have c13:=fun k:Eqt.Ext w=>(h.below k.below).c13
 have hl:=J0 (fun k:Eqt.Ext w=>Acm (h.below k.below) ok (O0 hd k.below))
 have hc:=J0 (fun k:Eqt.Ext w=>Aek (hp.below k.below))
 have hw:IntKind.i64.wrap ((T.c.col:Int)+A5 l 0)=(T.c.col:Int)+A5 l 0:=IntWalk.i64_in _ (by omega)
 have he:=J0 (fun w1 (hb:Below w.heap.size w w1)=>Azt (O0 hd hb) T.c.col ((T.c.col:Int)+A5 l 0) T.p.a)
 have hbk:=J0 (fun w1 w2 (hb:Below w.heap.size w w1) (h2:G3 Z1 w2 (P.x T.other) P.s (Aa2 T.vis T.c.row (M0 (C8 T.vis T.c.row) T.c.col ((T.c.col:Int)+A5 l 0) T.p.a)) T.c.row d) (hf2:Scn.Fr Z1 PT w1 w2)=>hf.back w2 _ (Ajk h2) rfl rfl ((Scn.Fr.A1 hb).trans hf2))
 have ht:=J0 (fun w2 (h2:TM Z w2 t (C1 T (M0 (line T) T.c.col ((T.c.col:Int)+A5 l 0) T.p.a)))=>Agw h2 (ok.C1 (Apo _ _ _ _)) (by rw[show(C1 T (M0 (line T) T.c.col ((T.c.col:Int)+A5 l 0) T.p.a)).jr=T.jr from V7 _ _];exact hj))
 show Calls _ _ _ _ (A7 Z w t (U7 (C1 T (M0 (line T) T.c.col ((T.c.col:Int)+A5 l 0) T.p.a))))
 change Hid (∀w1 w2 (hb:Below w.heap.size w w1) (h2:G3 Z1 w2 (P.x T.other) P.s (Aa2 T.vis T.c.row (M0 (C8 T.vis T.c.row) T.c.col ((T.c.col:Int)+A5 l 0) T.p.a)) T.c.row d) (hf2:Scn.Fr Z1 PT w1 w2),TMx Z w2 t (C1 T (M0 (line T) T.c.col ((T.c.col:Int)+A5 l 0) T.p.a)) P/\Scn.Fr Z TT w w2)at hbk
 generalize C1 T (M0 (line T) T.c.col ((T.c.col:Int)+A5 l 0) T.p.a)=T1 at hbk ht |-
 generalize Aa2 T.vis T.c.row (M0 (C8 T.vis T.c.row) T.c.col ((T.c.col:Int)+A5 l 0) T.p.a)=S1 at he hbk
 generalize A5 l 0=n at hc he hn hw
 generalize T.c.col=col at c9 he F5 hw
 generalize T.p.a=a at he c11 c12 c13
 obtain⟨af,ab,ag⟩:=a
 simp only at he c11 c12 c13
 clear h hf ok hd hj hp hn F5
 go_enter func192,ntmps192
 go_wp2
 refine Eqt.H4 20 (by kernel_rfl) (by kernel_rfl) ?_
 simp only[List.take_succ_cons,List.take_zero,List.drop_succ_cons,List.drop_zero]
 repeat (go_big_quiet_step (first
  |(go_at_call 160;exact Eqt.Akp (hl.out _))
  |(go_at_call 237;exact Eqt.H7 (hc.out _))))
 refine wpQuiet_nil ?_
 intro w9 hw9
 obtain⟨k9,rfl⟩:=hw9
 have hb9:=k9.below
 generalize k9.w=w9 at hb9 |-
 go_wp2_with (first
  |(go_at_call 148;(with_reducible refine(he.out _ hb9).mono ?_);rintro e w2 ⟨rfl,h2,hf2⟩))
 obtain⟨h3,hf3⟩:=hbk.out _ _ hb9 h2 hf2
 go_wp2_with (first
  |(go_at_call 175;(with_reducible refine(ht.out _ h3.tm).mono ?_);rintro e w4 ⟨⟨v4,rfl⟩,h4,hf4⟩))
 go_end0
 exact⟨⟨_,rfl⟩,h4,hf3.trans hf4⟩
theorem Brz(h:TM Z w t T)(ok:Ok T)(hj:T.jr.length<=90000000)(hp:NA Z w v l):Calls prog 193 #[.pointer (some ⟨t,0,none⟩),v] w (A7 Z w t (Atn T l)):=by
 obtain⟨P,h⟩:=h
 have hn:=Ajd l 0
 have F5:T.c.col<512:=by have:=ok.col;have:=ok.fit.c5;omega
 obtain⟨Z1,hf⟩:=h.focus
 obtain⟨d,hd⟩:=Adr hf.sc ok.row
 have c9:=fun k:Eqt.Ext w=>(h.below k.below).c9
 have c11:=fun k:Eqt.Ext w=>(h.below k.below).c11
 have c12:=fun k:Eqt.Ext w=>(h.below k.below).c12
 have c13:=fun k:Eqt.Ext w=>(h.below k.below).c13
 have hl:=J0 (fun k:Eqt.Ext w=>Acm (h.below k.below) ok (O0 hd k.below))
 have hc:=J0 (fun k:Eqt.Ext w=>Aek (hp.below k.below))
 have he:=J0 (fun w1 (hb:Below w.heap.size w w1)=>Bgj (O0 hd hb) T.c.col (A5 l 0) T.p.a)
 have hbk:=J0 (fun w1 w2 (hb:Below w.heap.size w w1) (h2:G3 Z1 w2 (P.x T.other) P.s (Aa2 T.vis T.c.row (inL (C8 T.vis T.c.row) T.c.col (A5 l 0) T.p.a)) T.c.row d) (hf2:Scn.Fr Z1 PT w1 w2)=>hf.back w2 _ (Ajk h2) rfl rfl ((Scn.Fr.A1 hb).trans hf2))
 have ht:=J0 (fun w2 (h2:TM Z w2 t (C1 T (inL (line T) T.c.col (A5 l 0) T.p.a)))=>Agw h2 (ok.C1 (Avr _ _ _ _)) (by rw[show(C1 T (inL (line T) T.c.col (A5 l 0) T.p.a)).jr=T.jr from V7 _ _];exact hj))
 show Calls _ _ _ _ (A7 Z w t (U7 (C1 T (inL (line T) T.c.col (A5 l 0) T.p.a))))
 change Hid (∀w1 w2 (hb:Below w.heap.size w w1) (h2:G3 Z1 w2 (P.x T.other) P.s (Aa2 T.vis T.c.row (inL (C8 T.vis T.c.row) T.c.col (A5 l 0) T.p.a)) T.c.row d) (hf2:Scn.Fr Z1 PT w1 w2),TMx Z w2 t (C1 T (inL (line T) T.c.col (A5 l 0) T.p.a)) P/\Scn.Fr Z TT w w2)at hbk
 generalize C1 T (inL (line T) T.c.col (A5 l 0) T.p.a)=T1 at hbk ht |-
 generalize Aa2 T.vis T.c.row (inL (C8 T.vis T.c.row) T.c.col (A5 l 0) T.p.a)=S1 at he hbk
 generalize A5 l 0=n at hc he hn
 generalize T.c.col=col at c9 he F5
 generalize T.p.a=a at he c11 c12 c13
 obtain⟨af,ab,ag⟩:=a
 simp only at he c11 c12 c13
 clear h hf ok hd hj hp hn F5
 go_enter func193,ntmps193
 go_wp2
 refine Eqt.H4 14 (by kernel_rfl) (by kernel_rfl) ?_
 simp only[List.take_succ_cons,List.take_zero,List.drop_succ_cons,List.drop_zero]
 repeat (go_big_quiet_step (first
  |(go_at_call 160;exact Eqt.Akp (hl.out _))
  |(go_at_call 237;exact Eqt.H7 (hc.out _))))
 refine wpQuiet_nil ?_
 intro w9 hw9
 obtain⟨k9,rfl⟩:=hw9
 have hb9:=k9.below
 generalize k9.w=w9 at hb9 |-
 go_wp2_with (first
  |(go_at_call 169;(with_reducible refine(he.out _ hb9).mono ?_);rintro e w2 ⟨rfl,h2,hf2⟩))
 obtain⟨h3,hf3⟩:=hbk.out _ _ hb9 h2 hf2
 go_wp2_with (first
  |(go_at_call 175;(with_reducible refine(ht.out _ h3.tm).mono ?_);rintro e w4 ⟨⟨v4,rfl⟩,h4,hf4⟩))
 go_end0
 exact⟨⟨_,rfl⟩,h4,hf3.trans hf4⟩
theorem Brx(h:TM Z w t T)(ok:Ok T)(hj:T.jr.length<=90000000)(hp:NA Z w v l):Calls prog 194 #[.pointer (some ⟨t,0,none⟩),v] w (A7 Z w t (Atl T l)):=by
 obtain⟨P,h⟩:=h
 have hn:=Ajd l 0
 have F5:T.c.col<512:=by have:=ok.col;have:=ok.fit.c5;omega
 obtain⟨Z1,hf⟩:=h.focus
 obtain⟨d,hd⟩:=Adr hf.sc ok.row
 have c9:=fun k:Eqt.Ext w=>(h.below k.below).c9
 have c11:=fun k:Eqt.Ext w=>(h.below k.below).c11
 have c12:=fun k:Eqt.Ext w=>(h.below k.below).c12
 have c13:=fun k:Eqt.Ext w=>(h.below k.below).c13
 have hl:=J0 (fun k:Eqt.Ext w=>Acm (h.below k.below) ok (O0 hd k.below))
 have hc:=J0 (fun k:Eqt.Ext w=>Aek (hp.below k.below))
 have he:=J0 (fun w1 (hb:Below w.heap.size w w1)=>Bws (O0 hd hb) T.c.col (A5 l 0) T.p.a)
 have hbk:=J0 (fun w1 w2 (hb:Below w.heap.size w w1) (h2:G3 Z1 w2 (P.x T.other) P.s (Aa2 T.vis T.c.row (deL (C8 T.vis T.c.row) T.c.col (A5 l 0) T.p.a)) T.c.row d) (hf2:Scn.Fr Z1 PT w1 w2)=>hf.back w2 _ (Ajk h2) rfl rfl ((Scn.Fr.A1 hb).trans hf2))
 have ht:=J0 (fun w2 (h2:TM Z w2 t (C1 T (deL (line T) T.c.col (A5 l 0) T.p.a)))=>Agw h2 (ok.C1 (Blf _ _ _ _)) (by rw[show(C1 T (deL (line T) T.c.col (A5 l 0) T.p.a)).jr=T.jr from V7 _ _];exact hj))
 show Calls _ _ _ _ (A7 Z w t (U7 (C1 T (deL (line T) T.c.col (A5 l 0) T.p.a))))
 change Hid (∀w1 w2 (hb:Below w.heap.size w w1) (h2:G3 Z1 w2 (P.x T.other) P.s (Aa2 T.vis T.c.row (deL (C8 T.vis T.c.row) T.c.col (A5 l 0) T.p.a)) T.c.row d) (hf2:Scn.Fr Z1 PT w1 w2),TMx Z w2 t (C1 T (deL (line T) T.c.col (A5 l 0) T.p.a)) P/\Scn.Fr Z TT w w2)at hbk
 generalize C1 T (deL (line T) T.c.col (A5 l 0) T.p.a)=T1 at hbk ht |-
 generalize Aa2 T.vis T.c.row (deL (C8 T.vis T.c.row) T.c.col (A5 l 0) T.p.a)=S1 at he hbk
 generalize A5 l 0=n at hc he hn
 generalize T.c.col=col at c9 he F5
 generalize T.p.a=a at he c11 c12 c13
 obtain⟨af,ab,ag⟩:=a
 simp only at he c11 c12 c13
 clear h hf ok hd hj hp hn F5
 go_enter func194,ntmps194
 go_wp2
 refine Eqt.H4 14 (by kernel_rfl) (by kernel_rfl) ?_
 simp only[List.take_succ_cons,List.take_zero,List.drop_succ_cons,List.drop_zero]
 repeat (go_big_quiet_step (first
  |(go_at_call 160;exact Eqt.Akp (hl.out _))
  |(go_at_call 237;exact Eqt.H7 (hc.out _))))
 refine wpQuiet_nil ?_
 intro w9 hw9
 obtain⟨k9,rfl⟩:=hw9
 have hb9:=k9.below
 generalize k9.w=w9 at hb9 |-
 go_wp2_with (first
  |(go_at_call 244;(with_reducible refine(he.out _ hb9).mono ?_);rintro e w2 ⟨rfl,h2,hf2⟩))
 obtain⟨h3,hf3⟩:=hbk.out _ _ hb9 h2 hf2
 go_wp2_with (first
  |(go_at_call 175;(with_reducible refine(ht.out _ h3.tm).mono ?_);rintro e w4 ⟨⟨v4,rfl⟩,h4,hf4⟩))
 go_end0
 exact⟨⟨_,rfl⟩,h4,hf3.trans hf4⟩
theorem Bts(h:TM Z w t T)(ok:Ok T)(hj:T.jr.length<=90000000)(hnx:T.nx<=9900000000)(hp:NA Z w v l):Calls prog 197 #[.pointer (some ⟨t,0,none⟩),v] w (A7 Z w t (Apx T l)):=by
 obtain⟨P,h⟩:=h
 obtain⟨Z1,hf⟩:=h.focus
 have s0:=fun k:Eqt.Ext w=>(h.below k.below).s0
 have c11:=fun k:Eqt.Ext w=>(h.below k.below).c11
 have c12:=fun k:Eqt.Ext w=>(h.below k.below).c12
 have c13:=fun k:Eqt.Ext w=>(h.below k.below).c13
 have hsh:=J0 (fun k:Eqt.Ext w=>I7 (h.below k.below))
 have hc:=J0 (fun k:Eqt.Ext w=>Aek (hp.below k.below))
 have he:=J0 (fun w1 (hb:Below w.heap.size w w1)=>Bor (hf.sc.below hb) ok.fit (A5 l 0) hnx T.p.a)
 have hbk:=J0 (fun w1 w2 (hb:Below w.heap.size w w1) (h2:SC Z1 w2 (P.x T.other) P.s (upT T.vis (A5 l 0) T.p.a)) (hf2:Scn.Fr Z1 PT w1 w2)=>hf.back w2 _ h2 rfl rfl ((Scn.Fr.A1 hb).trans hf2))
 have ht:=J0 (fun w2 (h2:TM Z w2 t (T.C2 (upT T.vis (A5 l 0) T.p.a)))=>Agw h2 (ok.upT _ _) (by rw[V7];exact hj))
 unfold Apx
 generalize T.C2 (upT T.vis (A5 l 0) T.p.a)=T1 at hbk ht |-
 generalize upT T.vis (A5 l 0) T.p.a=S1 at he hbk
 generalize A5 l 0=n at hc he
 generalize P.h T.other=hh at s0 hsh
 generalize P.x T.other=xx at s0 he hbk
 generalize T.p.a=a at he c11 c12 c13
 obtain⟨af,ab,ag⟩:=a
 simp only at he c11 c12 c13
 clear h hf ok hj hp
 go_enter func197,ntmps197
 go_wp2
 refine Eqt.H4 12 (by kernel_rfl) (by kernel_rfl) ?_
 simp only[List.take_succ_cons,List.take_zero,List.drop_succ_cons,List.drop_zero]
 repeat (go_big_quiet_step (first
  |(go_at_call 68;exact Eqt.H7 (hsh.out _))
  |(go_at_call 237;exact Eqt.H7 (hc.out _))))
 refine wpQuiet_nil ?_
 intro w9 hw9
 obtain⟨k9,rfl⟩:=hw9
 have hb9:=k9.below
 generalize k9.w=w9 at hb9 |-
 go_wp2_with (first
  |(go_at_call 223;(with_reducible refine(he.out _ hb9).mono ?_);rintro e w2 ⟨rfl,h2,hf2⟩))
 obtain⟨h3,hf3⟩:=hbk.out _ _ hb9 h2 hf2
 go_wp2_with (first
  |(go_at_call 175;(with_reducible refine(ht.out _ h3.tm).mono ?_);rintro e w4 ⟨⟨v4,rfl⟩,h4,hf4⟩))
 go_end0
 exact⟨⟨_,rfl⟩,h4,hf3.trans hf4⟩
theorem Bsi(h:TM Z w t T)(ok:Ok T)(hj:T.jr.length<=90000000)(hnx:T.nx<=9900000000)(hp:NA Z w v l):Calls prog 198 #[.pointer (some ⟨t,0,none⟩),v] w (A7 Z w t (Apg T l)):=by
 obtain⟨P,h⟩:=h
 obtain⟨Z1,hf⟩:=h.focus
 have s0:=fun k:Eqt.Ext w=>(h.below k.below).s0
 have c11:=fun k:Eqt.Ext w=>(h.below k.below).c11
 have c12:=fun k:Eqt.Ext w=>(h.below k.below).c12
 have c13:=fun k:Eqt.Ext w=>(h.below k.below).c13
 have hsh:=J0 (fun k:Eqt.Ext w=>I7 (h.below k.below))
 have hc:=J0 (fun k:Eqt.Ext w=>Aek (hp.below k.below))
 have he:=J0 (fun w1 (hb:Below w.heap.size w w1)=>Bkw (hf.sc.below hb) ok.fit (A5 l 0) (by show T.nx+512<=10000000000;omega) T.p.a)
 have hbk:=J0 (fun w1 w2 (hb:Below w.heap.size w w1) (h2:SC Z1 w2 (P.x T.other) P.s (L3 T.vis T.vis.top (A5 l 0) T.p.a)) (hf2:Scn.Fr Z1 PT w1 w2)=>hf.back w2 _ h2 rfl rfl ((Scn.Fr.A1 hb).trans hf2))
 have ht:=J0 (fun w2 (h2:TM Z w2 t (T.C2 (L3 T.vis T.vis.top (A5 l 0) T.p.a)))=>Agw h2 (ok.down ok.fit.top _ _) (by rw[V7];exact hj))
 unfold Apg
 generalize T.C2 (L3 T.vis T.vis.top (A5 l 0) T.p.a)=T1 at hbk ht |-
 generalize L3 T.vis T.vis.top (A5 l 0) T.p.a=S1 at he hbk
 generalize A5 l 0=n at hc he
 generalize P.h T.other=hh at s0 hsh
 generalize P.x T.other=xx at s0 he hbk
 generalize T.p.a=a at he c11 c12 c13
 obtain⟨af,ab,ag⟩:=a
 simp only at he c11 c12 c13
 clear h hf ok hj hp
 go_enter func198,ntmps198
 go_wp2
 refine Eqt.H4 12 (by kernel_rfl) (by kernel_rfl) ?_
 simp only[List.take_succ_cons,List.take_zero,List.drop_succ_cons,List.drop_zero]
 repeat (go_big_quiet_step (first
  |(go_at_call 68;exact Eqt.H7 (hsh.out _))
  |(go_at_call 237;exact Eqt.H7 (hc.out _))))
 refine wpQuiet_nil ?_
 intro w9 hw9
 obtain⟨k9,rfl⟩:=hw9
 have hb9:=k9.below
 generalize k9.w=w9 at hb9 |-
 go_wp2_with (first
  |(go_at_call 177;(with_reducible refine(he.out _ hb9).mono ?_);rintro e w2 ⟨rfl,h2,hf2⟩))
 obtain⟨h3,hf3⟩:=hbk.out _ _ hb9 h2 hf2
 go_wp2_with (first
  |(go_at_call 175;(with_reducible refine(ht.out _ h3.tm).mono ?_);rintro e w4 ⟨⟨v4,rfl⟩,h4,hf4⟩))
 go_end0
 exact⟨⟨_,rfl⟩,h4,hf3.trans hf4⟩
theorem Bsa(h:TM Z w t T)(ok:Ok T)(hj:T.jr.length<=90000000)(hnx:T.nx<=9900000000)(hp:NA Z w v l):Calls prog 195 #[.pointer (some ⟨t,0,none⟩),v] w (A7 Z w t (Amm T l)):=by
 obtain⟨P,h⟩:=h
 obtain⟨Z1,hf⟩:=h.focus
 have c8:=fun k:Eqt.Ext w=>(h.below k.below).c8
 have s0:=fun k:Eqt.Ext w=>(h.below k.below).s0
 have c11:=fun k:Eqt.Ext w=>(h.below k.below).c11
 have c12:=fun k:Eqt.Ext w=>(h.below k.below).c12
 have c13:=fun k:Eqt.Ext w=>(h.below k.below).c13
 have hsh:=J0 (fun k:Eqt.Ext w=>I7 (h.below k.below))
 have hc:=J0 (fun k:Eqt.Ext w=>Aek (hp.below k.below))
 unfold Amm
 by_cases hin:within T
 ·rw[if_pos hin]
  have he:=J0 (fun w1 (hb:Below w.heap.size w w1)=>Cku (hf.sc.below hb) ok.fit T.c.row (A5 l 0) hin.1 hin.2 (by show T.nx+512<=10000000000;omega) T.p.a)
  have hbk:=J0 (fun w1 w2 (hb:Below w.heap.size w w1) (h2:SC Z1 w2 (P.x T.other) P.s (L3 T.vis T.c.row (A5 l 0) T.p.a)) (hf2:Scn.Fr Z1 PT w1 w2)=>hf.back w2 _ h2 rfl rfl ((Scn.Fr.A1 hb).trans hf2))
  have ht:=J0 (fun w2 (h2:TMx Z w2 t (T.C2 (L3 T.vis T.c.row (A5 l 0) T.p.a)) P)=>And.intro (Aih T (L3 T.vis T.c.row (A5 l 0) T.p.a)▸h2.c8) (V5 h2.tm (ok.down hin.2 _ _) (by rw[V7];exact hj) T.c.row 0))
  generalize T.C2 (L3 T.vis T.c.row (A5 l 0) T.p.a)=T1 at hbk ht |-
  generalize L3 T.vis T.c.row (A5 l 0) T.p.a=S1 at he hbk
  generalize A5 l 0=n at hc he
  generalize P.h T.other=hh at s0 hsh
  generalize P.x T.other=xx at s0 he hbk
  generalize T.p.a=a at he c11 c12 c13
  obtain⟨af,ab,ag⟩:=a
  simp only at he c11 c12 c13
  clear hin
  generalize T.c.row=row at c8 he ht |-
  clear h hf ok hj hp
  go_enter func195,ntmps195
  go_wp2
  refine Eqt.H4 17 (by kernel_rfl) (by kernel_rfl) ?_
  simp only[List.take_succ_cons,List.take_zero,List.drop_succ_cons,List.drop_zero]
  repeat (go_big_quiet_step (first
   |(go_at_call 68;exact Eqt.H7 (hsh.out _))
   |(go_at_call 237;exact Eqt.H7 (hc.out _))))
  refine wpQuiet_nil ?_
  intro w9 hw9
  obtain⟨k9,rfl⟩:=hw9
  have hb9:=k9.below
  generalize k9.w=w9 at hb9 |-
  go_wp2_with (first
   |(go_at_call 245;(with_reducible refine(he.out _ hb9).mono ?_);rintro e w2 ⟨rfl,h2,hf2⟩;obtain⟨h3,hf3⟩:=hbk.out _ _ hb9 h2 hf2;obtain⟨c8',hmv⟩:=ht.out _ h3;replace hmv:=J0 hmv)
   |(go_at_call 172;(with_reducible refine(hmv.out).mono ?_);rintro e w4 ⟨⟨v4,rfl⟩,h4,hf4⟩))
  go_end0
  exact⟨⟨_,rfl⟩,h4,hf3.trans hf4⟩
 ·rw[if_neg hin]
  have he:=J0 (fun w1 (hb:Below w.heap.size w w1)=>Cov (hf.sc.below hb) ok.fit T.c.row (A5 l 0) (fun hh=>hin ⟨by have:=hh.1;omega,by have:=hh.2;omega⟩) T.p.a)
  have hbk:=J0 (fun w1 w2 (hb:Below w.heap.size w w1) (h2:SC Z1 w2 (P.x T.other) P.s T.vis) (hf2:Scn.Fr Z1 PT w1 w2)=>hf.back w2 _ h2 rfl rfl ((Scn.Fr.A1 hb).trans hf2))
  rw[Ayk]at hbk
  generalize A5 l 0=n at hc he
  generalize P.h T.other=hh at s0 hsh
  generalize P.x T.other=xx at s0 he hbk
  generalize T.vis=S1 at he hbk
  generalize T.p.a=a at he c11 c12 c13
  obtain⟨af,ab,ag⟩:=a
  simp only at he c11 c12 c13
  clear hin
  generalize T.c.row=row at c8 he
  clear h hf ok hj hp
  go_enter func195,ntmps195
  go_wp2
  refine Eqt.H4 17 (by kernel_rfl) (by kernel_rfl) ?_
  simp only[List.take_succ_cons,List.take_zero,List.drop_succ_cons,List.drop_zero]
  repeat (go_big_quiet_step (first
   |(go_at_call 68;exact Eqt.H7 (hsh.out _))
   |(go_at_call 237;exact Eqt.H7 (hc.out _))))
  refine wpQuiet_nil ?_
  intro w9 hw9
  obtain⟨k9,rfl⟩:=hw9
  have hb9:=k9.below
  generalize k9.w=w9 at hb9 |-
  go_wp2_with (first
   |(go_at_call 245;(with_reducible refine(he.out _ hb9).mono ?_);rintro e w2 ⟨rfl,h2,hf2⟩))
  obtain⟨h3,hf3⟩:=hbk.out _ _ hb9 h2 hf2
  go_end0
  exact⟨⟨_,rfl⟩,h3.tm,hf3⟩
theorem Bry(h:TM Z w t T)(ok:Ok T)(hj:T.jr.length<=90000000)(hnx:T.nx<=9900000000)(hp:NA Z w v l):Calls prog 196 #[.pointer (some ⟨t,0,none⟩),v] w (A7 Z w t (Aml T l)):=by
 obtain⟨P,h⟩:=h
 obtain⟨Z1,hf⟩:=h.focus
 have c8:=fun k:Eqt.Ext w=>(h.below k.below).c8
 have s0:=fun k:Eqt.Ext w=>(h.below k.below).s0
 have c11:=fun k:Eqt.Ext w=>(h.below k.below).c11
 have c12:=fun k:Eqt.Ext w=>(h.below k.below).c12
 have c13:=fun k:Eqt.Ext w=>(h.below k.below).c13
 have hsh:=J0 (fun k:Eqt.Ext w=>I7 (h.below k.below))
 have hc:=J0 (fun k:Eqt.Ext w=>Aek (hp.below k.below))
 unfold Aml
 by_cases hin:within T
 ·rw[if_pos hin]
  have he:=J0 (fun w1 (hb:Below w.heap.size w w1)=>Cjj (hf.sc.below hb) ok.fit T.c.row (A5 l 0) hin.1 hin.2 (by show T.nx+512<=10000000000;omega) T.p.a)
  have hbk:=J0 (fun w1 w2 (hb:Below w.heap.size w w1) (h2:SC Z1 w2 (P.x T.other) P.s (upS T.vis T.c.row (A5 l 0) T.p.a false)) (hf2:Scn.Fr Z1 PT w1 w2)=>hf.back w2 _ h2 rfl rfl ((Scn.Fr.A1 hb).trans hf2))
  have ht:=J0 (fun w2 (h2:TMx Z w2 t (T.C2 (upS T.vis T.c.row (A5 l 0) T.p.a false)) P)=>And.intro (Aih T (upS T.vis T.c.row (A5 l 0) T.p.a false)▸h2.c8) (V5 h2.tm (ok.up hin.2 _ _ _) (by rw[V7];exact hj) T.c.row 0))
  generalize T.C2 (upS T.vis T.c.row (A5 l 0) T.p.a false)=T1 at hbk ht |-
  generalize upS T.vis T.c.row (A5 l 0) T.p.a false=S1 at he hbk
  generalize A5 l 0=n at hc he
  generalize P.h T.other=hh at s0 hsh
  generalize P.x T.other=xx at s0 he hbk
  generalize T.p.a=a at he c11 c12 c13
  obtain⟨af,ab,ag⟩:=a
  simp only at he c11 c12 c13
  clear hin
  generalize T.c.row=row at c8 he ht |-
  clear h hf ok hj hp
  go_enter func196,ntmps196
  go_wp2
  refine Eqt.H4 17 (by kernel_rfl) (by kernel_rfl) ?_
  simp only[List.take_succ_cons,List.take_zero,List.drop_succ_cons,List.drop_zero]
  repeat (go_big_quiet_step (first
   |(go_at_call 68;exact Eqt.H7 (hsh.out _))
   |(go_at_call 237;exact Eqt.H7 (hc.out _))))
  refine wpQuiet_nil ?_
  intro w9 hw9
  obtain⟨k9,rfl⟩:=hw9
  have hb9:=k9.below
  generalize k9.w=w9 at hb9 |-
  go_wp2_with (first
   |(go_at_call 246;(with_reducible refine(he.out _ hb9).mono ?_);rintro e w2 ⟨rfl,h2,hf2⟩;obtain⟨h3,hf3⟩:=hbk.out _ _ hb9 h2 hf2;obtain⟨c8',hmv⟩:=ht.out _ h3;replace hmv:=J0 hmv)
   |(go_at_call 172;(with_reducible refine(hmv.out).mono ?_);rintro e w4 ⟨⟨v4,rfl⟩,h4,hf4⟩))
  go_end0
  exact⟨⟨_,rfl⟩,h4,hf3.trans hf4⟩
 ·rw[if_neg hin]
  have he:=J0 (fun w1 (hb:Below w.heap.size w w1)=>Cob (hf.sc.below hb) ok.fit T.c.row (A5 l 0) (fun hh=>hin ⟨by have:=hh.1;omega,by have:=hh.2;omega⟩) T.p.a)
  have hbk:=J0 (fun w1 w2 (hb:Below w.heap.size w w1) (h2:SC Z1 w2 (P.x T.other) P.s T.vis) (hf2:Scn.Fr Z1 PT w1 w2)=>hf.back w2 _ h2 rfl rfl ((Scn.Fr.A1 hb).trans hf2))
  rw[Ayk]at hbk
  generalize A5 l 0=n at hc he
  generalize P.h T.other=hh at s0 hsh
  generalize P.x T.other=xx at s0 he hbk
  generalize T.vis=S1 at he hbk
  generalize T.p.a=a at he c11 c12 c13
  obtain⟨af,ab,ag⟩:=a
  simp only at he c11 c12 c13
  clear hin
  generalize T.c.row=row at c8 he
  clear h hf ok hj hp
  go_enter func196,ntmps196
  go_wp2
  refine Eqt.H4 17 (by kernel_rfl) (by kernel_rfl) ?_
  simp only[List.take_succ_cons,List.take_zero,List.drop_succ_cons,List.drop_zero]
  repeat (go_big_quiet_step (first
   |(go_at_call 68;exact Eqt.H7 (hsh.out _))
   |(go_at_call 237;exact Eqt.H7 (hc.out _))))
  refine wpQuiet_nil ?_
  intro w9 hw9
  obtain⟨k9,rfl⟩:=hw9
  have hb9:=k9.below
  generalize k9.w=w9 at hb9 |-
  go_wp2_with (first
   |(go_at_call 246;(with_reducible refine(he.out _ hb9).mono ?_);rintro e w2 ⟨rfl,h2,hf2⟩))
  obtain⟨h3,hf3⟩:=hbk.out _ _ hb9 h2 hf2
  go_end0
  exact⟨⟨_,rfl⟩,h3.tm,hf3⟩
end
