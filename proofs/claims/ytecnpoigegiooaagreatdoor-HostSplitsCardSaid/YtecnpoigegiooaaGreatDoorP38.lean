/- Part 38 of HostSplits. -/
import Derived.Test.YtecnpoigegiooaaGreatDoorP37
set_option maxHeartbeats 16000000
set_option maxRecDepth 100000
namespace Go.Proofs.YtecnpoigegiooaaGreatDoor.Emu
open Go RowKit Com Rw Lns Scn
section
variable {Z Z1:Zn}{w w':World}{t x s d b:Nat}{S:Scr}{T:Ter}{P:Pt}{v:Value}{l:List Int}
theorem lineOf_putAt (S:Scr) {i:Nat} (l:List Cel) (hi:i<S.L.length):Ab1 (Ae0 S i l) i=l:=by
 unfold Ab1 Ae0
 simp[List.getElem?_eq_getElem hi]
theorem putAt_putAt (S:Scr) (i:Nat) (l l':List Cel):Ae0 (Ae0 S i l) i l'=Ae0 S i l':=by
 unfold Ae0
 simp only
 congr 1
 apply List.ext_getElem (by simp)
 intro j h1 h2
 simp only[List.getElem_modify]
 split<;>rfl
theorem Bp3 (l:List Cel) (col r:Int) (wide:Bool) (a:At):(putL l col r wide a).length=l.length:=by
 unfold putL
 split
 ·rename_i h
  obtain⟨_,h1,h2⟩:=h
  exact Ag6 (by omega)
 ·rfl
structure Row1 (Z:Zn) (w:World) (t:Nat) (T:Ter) (P:Pt) (Z1:Zn) (d:Nat) (l:List Cel):Prop where
 tm:TMx Z w t (putLine T l) P
 row:Ae1 Z1 w (P.x T.other) P.s (Ae0 T.vis T.c.row l) T.c.row d
theorem row1_next {l':List Cel} {l0:List Cel} (hf:Foc Z w t T P Z1) (hfr:Scn.Fr Z1 PT w w') (h:Ae1 Z1 w' (P.x T.other) P.s (Ae0 (Ae0 T.vis T.c.row l0) T.c.row l') T.c.row d):Row1 Z w' t T P Z1 d l'/\Scn.Fr Z TT w w':=by
 rw[putAt_putAt] at h
 obtain⟨h1,h2⟩:=hf.back w' _ (Am2 h) rfl rfl hfr
 exact⟨⟨h1,h⟩,h2⟩
theorem Ak5 {l':List Cel} (hf:Foc Z w t T P Z1) (hfr:Scn.Fr Z1 PT w w') (h:Ae1 Z1 w' (P.x T.other) P.s (Ae0 T.vis T.c.row l') T.c.row d):Row1 Z w' t T P Z1 d l'/\Scn.Fr Z TT w w':=by
 obtain⟨h1,h2⟩:=hf.back w' _ (Am2 h) rfl rfl hfr
 exact⟨⟨h1,h⟩,h2⟩
theorem put_i (h:TMx Z w t T P) (ok:Ok T) (hj:T.jr.length<=90000000) (hpr:T.prints<=10000000000) (r:Int) (n:Nat) (hn2:n<=2) (h0:T.m.a0=true) (wv:Bool) (h4:T.m.a4=wv):Calls Tryz.prog 126 #[.pointer (some ⟨t,0,none⟩),.int .i32 r,.int .i64 n] w (Does Z w t (putT T r n)):=by
 obtain⟨Z1,hf⟩:=h.focus
 obtain⟨d,hd⟩:=Ag4 hf.sc ok.row
 have hcol:=ok.col
 have hc5:=ok.fit.c5
 have hline:line T=Ab1 T.vis T.c.row:=line_is T
 have hl:=J0 (Af3 h ok hd)
 have hh:Hid (∀w1 (hb:Below w.heap.size w w1),Calls Tryz.prog 163 #[.pointer (some ⟨t,0,none⟩),.int .u8 1] w1 fun e w'=>e=.returned (.agg #[.int .u8 1,.int .u64 0,.int .i64 (idAt T.vis.L T.c.row),.int .i64 T.c.col,.bool false,.int .i32 0,.bool false,.bool false,.bool false,.bool false])/\Below w1.heap.size w1 w'):=J0 (fun w1 hb=>Al8 (h.below hb) ok 1)
 have hbl:=J0 (fun w1 (hb:Below w.heap.size w w1)=>Be1 (Aa7 hd hb) T.c.col)
 have hcs:=J0 (fun w1 (hb:Below w.heap.size w w1)=>And.intro ((h.below hb).c9) (And.intro (show w1.cell? ⟨t,0,none⟩=some (.bool true) by have:=(h.below hb).c0;rw[h0] at this;exact this) (And.intro (h.below hb).c11 (And.intro (h.below hb).c12 (h.below hb).c13))))
 have hbw:∀bw,decide (n=2)=bw->decide ((n:Int)=2)=bw/\((n:Int) == 2)=bw:=fun bw hb=>by
  have e:decide ((n:Int)=2)=bw:=by rw[<- hb,decide_eq_decide];omega
  exact⟨e,by rw[<- e];rfl⟩
 obtain⟨bw,hbwe⟩:∃bw,decide (n=2)=bw:=⟨_,rfl⟩
 obtain⟨hw1,hw2⟩:=hbw bw hbwe
 obtain⟨bl,hble⟩:∃bl,Ao9 (Ab1 T.vis T.c.row) T.c.col=bl:=⟨_,rfl⟩
 rw[hble] at hbl
 have hEv:Ag1 T n=⟨1,0,idAt T.vis.L T.c.row,T.c.col,bw,0,bl,false,false,false⟩:=by unfold Ag1;rw[hbwe,hline,hble];rfl
 have hin:=J0 (fun w1 (hb:Below w.heap.size w w1)=>Bj8 (Aa7 hd hb) T.c.col n T.p.a)
 have hr1:Hid (∀w1 w2,Below w.heap.size w w1->Ae1 Z1 w2 (P.x T.other) P.s (Ae0 T.vis T.c.row (inL (Ab1 T.vis T.c.row) T.c.col n T.p.a)) T.c.row d->Scn.Fr Z1 PT w1 w2->Row1 Z w2 t T P Z1 d (inL (Ab1 T.vis T.c.row) T.c.col n T.p.a)/\Scn.Fr Z1 PT w w2):=J0 fun w1 w2 hb hr hf2=>⟨(Ak5 hf ((Scn.Fr.of_below hb).trans hf2) hr).1,(Scn.Fr.of_below hb).trans hf2⟩
 have hcs2:Hid (∀w2,Row1 Z w2 t T P Z1 d (inL (Ab1 T.vis T.c.row) T.c.col n T.p.a)->∀w3,Below w2.heap.size w2 w3->w3.cell? ⟨t,9,none⟩=some (.int .i64 T.c.col)/\w3.cell? ⟨t,11,none⟩=some (.int .u32 T.p.a.f)/\w3.cell? ⟨t,12,none⟩=some (.int .u32 T.p.a.b)/\w3.cell? ⟨t,13,none⟩=some (.int .u16 T.p.a.g)):=J0 fun w2 h2 w3 hb=>by
  have h3:=h2.tm.below hb
  have e1:(putLine T (inL (Ab1 T.vis T.c.row) T.c.col n T.p.a)).c=T.c:=Bp4 _ _
  have e2:(putLine T (inL (Ab1 T.vis T.c.row) T.c.col n T.p.a)).p=T.p:=Cu6 _ _
  exact⟨e1▸h3.c9,e2▸h3.c11,e2▸h3.c12,e2▸h3.c13⟩
 have hpc:Aa6 T r n=putL (inL (Ab1 T.vis T.c.row) T.c.col n T.p.a) T.c.col r bw T.p.a:=by unfold Aa6;rw[h0,hbwe,hline];rfl
 have hput:Hid (∀w1 w2,Row1 Z w1 t T P Z1 d (inL (Ab1 T.vis T.c.row) T.c.col n T.p.a)->Scn.Fr Z1 PT w w1->Below w1.heap.size w1 w2->Calls Tryz.prog 170 #[.pointer (some ⟨d,0,none⟩),.int .i64 T.c.col,.int .i32 r,.bool bw,.agg #[.int .u32 T.p.a.f,.int .u32 T.p.a.b,.int .u16 T.p.a.g]] w2 fun e w3=>(∃v,e=.returned v)/\(TMx Z w3 t (putLine T (Aa6 T r n)) P/\Scn.Fr Z TT w w3)/\Scn.Fr Z1 PT w2 w3):=J0 fun w1 w2 h1 hf1 hb=>by
  refine(Cb8 (Aa7 h1.row hb) T.c.col r (by omega) bw T.p.a).mono fun e w3 ⟨he,hr,hf3⟩=>⟨⟨_,he⟩,?_,hf3⟩
  rw[lineOf_putAt _ _ ok.row] at hr
  obtain⟨q1,q2⟩:=row1_next hf ((hf1.trans (Scn.Fr.of_below hb)).trans hf3) hr
  rw[hpc]
  exact⟨q1.tm,q2⟩
 have hok1:Ok (putLine T (Aa6 T r n)):=ok.putLine (by rw[hpc,hline];exact(Bp3 _ _ _ _ _).trans (Bo3 _ _ _ _))
 have e1:(putLine T (Aa6 T r n)).c=T.c:=Bp4 _ _
 have e2:(putLine T (Aa6 T r n)).jr=T.jr:=Ag2 _ _
 have e3:(putLine T (Aa6 T r n)).prints=T.prints:=Ak4 _ _
 have e4:(putLine T (Aa6 T r n)).m=T.m:=Cu5 _ _
 have htl:=J0 (fun w3 (h3:TMx Z w3 t (putLine T (Aa6 T r n)) P)=>Am5 h3 (by rw[e2];exact hj) (by rw[e3];exact hpr) (Ag1 T n) r)
 have hok2:Ok (tellRune (putLine T (Aa6 T r n)) (Ag1 T n) r):=⟨hok1.fit,hok1.fitm,hok1.rows,hok1.cols,hok1.row,hok1.col,hok1.sv,hok1.svm,hok1.tn,hok1.alt⟩
 have hpl:Hid (∀w4,TM Z w4 t (tellRune (putLine T (Aa6 T r n)) (Ag1 T n) r)->w4.cell? ⟨t,8,none⟩=some (.int .i64 T.c.row)/\w4.cell? ⟨t,9,none⟩=some (.int .i64 T.c.col)/\Calls Tryz.prog 171 #[.pointer (some ⟨t,0,none⟩),.int .i64 T.c.row,.int .i64 (T.c.col+n:Nat)] w4 fun e w'=>(∃v,e=.returned v)/\TM Z w' t (place (tellRune (putLine T (Aa6 T r n)) (Ag1 T n) r) T.c.row (T.c.col+n:Nat))/\Scn.Fr Z TT w4 w'):=J0 fun w4 ⟨P4,hP4⟩=>by
  refine⟨?_,?_,(Ah7 hP4 hok2 T.c.row (T.c.col+n:Nat)).mono fun e w' ⟨he,h5,hf5⟩=>⟨he,h5.tm,hf5⟩⟩
  ·have:=hP4.c8
   rw[show (tellRune (putLine T (Aa6 T r n)) (Ag1 T n) r).c=T.c from e1] at this
   exact this
  ·have:=hP4.c9
   rw[show (tellRune (putLine T (Aa6 T r n)) (Ag1 T n) r).c=T.c from e1] at this
   exact this
 have hend:Hid (∀w5,TM Z w5 t (place (tellRune (putLine T (Aa6 T r n)) (Ag1 T n) r) T.c.row (T.c.col+n:Nat))->w5.cell? ⟨t,4,none⟩=some (.bool wv)/\w5.cell? ⟨t,9,none⟩=some (.int .i64 (place (tellRune (putLine T (Aa6 T r n)) (Ag1 T n) r) T.c.row (T.c.col+n:Nat)).c.col)/\(∃b,w5.cell? ⟨t,10,none⟩=some (.bool b))/\w5.frozen? ⟨t,10,none⟩=false/\∀b,b=(wv && decide ((place (tellRune (putLine T (Aa6 T r n)) (Ag1 T n) r) T.c.row (T.c.col+n:Nat)).c.col<T.c.col+n))->TM Z (w5.setCell ⟨t,10,none⟩ (.bool b)) t (putT T r n)/\Scn.Fr Z TT w5 (w5.setCell ⟨t,10,none⟩ (.bool b))):=J0 fun w5 ⟨P5,hP5⟩=>by
  refine⟨?_,hP5.c9,⟨_,hP5.c10⟩,hP5.free 10,fun b hb=>?_⟩
  ·have:=hP5.c4
   rw[show (place (tellRune (putLine T (Aa6 T r n)) (Ag1 T n) r) T.c.row (T.c.col+n:Nat)).m=T.m from e4,h4] at this
   exact this
  ·obtain⟨q1,q2⟩:=hP5.setPend b
   refine⟨?_,q2⟩
   rw[hb] at q1 |-
   unfold putT By5
   rw[h4]
   rw[show (tellRune (putLine T (Aa6 T r n)) (Ag1 T n) r).c=T.c from e1]
   exact q1.tm
 rw[hEv] at htl hpl hend
 have hwb:IntKind.i64.wrap ((T.c.col:Int)+(n:Int))=((T.c.col+n:Nat):Int):=IntWalk.i64_in _ (by omega)
 generalize putT T r n=T9 at hend |-
 generalize place (tellRune (putLine T (Aa6 T r n)) ⟨1,0,idAt T.vis.L T.c.row,T.c.col,bw,0,bl,false,false,false⟩ r) T.c.row (T.c.col+n:Nat)=T5 at hpl hend
 generalize tellRune (putLine T (Aa6 T r n)) ⟨1,0,idAt T.vis.L T.c.row,T.c.col,bw,0,bl,false,false,false⟩ r=T4 at htl hpl
 generalize putLine T (Aa6 T r n)=T3 at hput htl
 generalize hbh:T.c.col+n=bh at *
 replace hbh:=J0 hbh
 generalize hro:T.c.row=row at *
 generalize hco:T.c.col=col at *
 generalize idAt T.vis.L row=y at *
 generalize inL (Ab1 T.vis row) col n T.p.a=li at *
 generalize T.p.a=a at *
 obtain⟨af,ab,ag⟩:=a
 simp only at hcs hput hin hcs2
 clear h ok hj hpr hok1 hok2 hEv hpc hline hble hbwe hbw e1 e2 e3 e4 hf hd hcol hc5
 go_enter Tryz.func126,Tryz.ntmps126
 go_wp2_with (first
  |(go_at_call 160;(with_reducible refine(hl.out).mono ?_);rintro e w1 ⟨rfl,hq⟩)
  |(go_at_call 163;have hb1:=Ad4 (Below.refl w.heap.size w) hq;(with_reducible refine(hh.out _ hb1).mono ?_);rintro e w2 ⟨rfl,hb2'⟩;have hb2:=Aa0 hb1 hb2';have k9:=fun o=>(hcs.out _ (Aa0 hb2 (Aa1 w2 o))).1)
  |(go_at_call 168;have hbn:=Aa0 hb2 (Aa1 w2 (.cells #[.int .u8 1,.int .u64 0,.int .i64 y,.int .i64 col,.bool bw,.int .i32 0,.bool false,.bool false,.bool false,.bool false] 73));have hbx:=Block.made w2 73 #[.int .u8 1,.int .u64 0,.int .i64 y,.int .i64 col,.bool bw,.int .i32 0,.bool false,.bool false,.bool false,.bool false];(with_reducible refine(hbl.out _ hbn).mono ?_);rintro e w3 ⟨rfl,hb3⟩;have hx:=Block.only hbx (Only.of_below hb3 []) (by simp))
  |(with_reducible refine J8 23 ?_;go_must (refine Aa5 rfl _ (.tmp 23) (.tmp 22) rfl hx (.bool bl) rfl rfl (by simp) Ca3 rfl ?_);intro wE hE ho;have hbE:=(Aa0 hbn hb3).trans (ho.below (Aa0 hbn hb3).size (by simpa using hb2.size));have k0:=(hcs.out _ hbE).2.1))
 replace hE:Block wE w2.heap.size 73 (evA ⟨1,0,y,col,bw,0,bl,false,false,false⟩):=hE
 generalize w2.heap.size=b at hE |-
 clear hx hbn hbx hb3 ho hl hh hbl hq hb1 hb2 hb2' k9
 have k9:=fun k:Eqt.Ext wE=>(hcs.out _ (Aa0 hbE k.below)).1
 have k11:=fun k:Eqt.Ext wE=>(hcs.out _ (Aa0 hbE k.below)).2.2.1
 have k12:=fun k:Eqt.Ext wE=>(hcs.out _ (Aa0 hbE k.below)).2.2.2.1
 have k13:=fun k:Eqt.Ext wE=>(hcs.out _ (Aa0 hbE k.below)).2.2.2.2
 refine Eqt.region_ext_tail 12 (by kernel_rfl) (by kernel_rfl) ?_
 simp only[List.take_succ_cons,List.take_zero,List.drop_succ_cons,List.drop_zero]
 repeat (go_big_quiet_step (fail))
 refine wpQuiet_nil ?_
 intro w9 hw9
 obtain⟨k9,rfl⟩:=hw9
 have hb9:=k9.below
 generalize k9.w=w9 at hb9 |-
 have hE9:=Block.only hE (Only.of_below hb9 []) (by simp)
 have hi9:=J0 (hin.out _ (Aa0 hbE hb9))
 have hr9:=J0 (fun w2=>hr1.out w9 w2 (Aa0 hbE hb9))
 clear hE k9 k11 k12 k13 hb9 hbE hin hr1 hcs
 go_wp2_with (first
  |(go_at_call 169;(with_reducible refine(hi9.out).mono ?_);rintro e w5 ⟨rfl,hrow5,hf5⟩))
 obtain⟨h5,hF5⟩:=hr9.out _ hrow5 hf5
 have hE5:=Scn.Block.fr hE9 hf5 (.inl (by decide))
 clear hE9 hi9 hr9 hrow5 hf5 k0
 generalize w5=wE at h5 hF5 hE5 |-
 have k9:=fun k:Eqt.Ext wE=>(hcs2.out _ h5 _ k.below).1
 have k11:=fun k:Eqt.Ext wE=>(hcs2.out _ h5 _ k.below).2.1
 have k12:=fun k:Eqt.Ext wE=>(hcs2.out _ h5 _ k.below).2.2.1
 have k13:=fun k:Eqt.Ext wE=>(hcs2.out _ h5 _ k.below).2.2.2
 have hp9:=J0 (fun w2 (hb:Below wE.heap.size wE w2)=>hput.out _ _ h5 hF5 hb)
 have x4:=fun k:Eqt.Ext wE=>(Block.only hE5 (Only.of_below k.below []) (by simp)).cell 4 (v:=.bool bw) rfl
 clear hput
 go_wp2
 refine Eqt.region_ext_tail 14 (by kernel_rfl) (by kernel_rfl) ?_
 simp only[List.take_succ_cons,List.take_zero,List.drop_succ_cons,List.drop_zero]
 repeat (go_big_quiet_step (fail))
 refine wpQuiet_nil ?_
 intro w9 hw9
 obtain⟨k9,rfl⟩:=hw9
 have hb9:=k9.below
 generalize k9.w=w9 at hb9 |-
 have hE9:=Block.only hE5 (Only.of_below hb9 []) (by simp)
 have hp1:=J0 (hp9.out _ hb9)
 clear hE5 k9 k11 k12 k13 x4 hp9
 cases wv
 all_goals
  go_wp2_with (first
   |(go_at_call 170;(with_reducible refine(hp1.out).mono ?_);rintro e w6 ⟨⟨v6,rfl⟩,⟨h6,hF6⟩,hf6⟩;have hE6:=Bn2 (Scn.Block.fr hE9 hf6 (.inl (by decide))))
   |(with_reducible refine J9 58 7 ?_;go_must (refine wpList_load_row rfl _ (.tmp 7) rfl b rfl _ (evA ⟨1,0,y,col,bw,0,bl,false,false,false⟩) (0,0) _ hE6 Tryz.underlying73 rfl (Aw0 _) ?_))
   |(go_at_call 165;(with_reducible refine(htl.out _ h6).mono ?_);rintro e w7 ⟨⟨v7,rfl⟩,h7,hf7⟩;obtain⟨k8,k9,hplc⟩:=hpl.out _ h7;replace hplc:=J0 hplc)
   |(go_at_call 171;(with_reducible refine hplc.out.mono ?_);rintro e w8 ⟨⟨v8,rfl⟩,h8,hf8⟩;obtain⟨l4,l9,⟨b10,l10⟩,l11,hset⟩:=hend.out _ h8;replace hset:=J0 hset))
  first
  |(obtain⟨h9,hf9⟩:=hset.out (decide (T5.c.col<bh)) (by simp);go_end0;exact⟨⟨_,rfl⟩,h9,((hF6.trans hf7).trans hf8).trans hf9⟩)
  |(obtain⟨h9,hf9⟩:=hset.out false (by simp);go_end0;exact⟨⟨_,rfl⟩,h9,((hF6.trans hf7).trans hf8).trans hf9⟩)
theorem put_n (h:TMx Z w t T P) (ok:Ok T) (hj:T.jr.length<=90000000) (hpr:T.prints<=10000000000) (r:Int) (n:Nat) (hn2:n<=2) (h0:T.m.a0=false) (wv:Bool) (h4:T.m.a4=wv):Calls Tryz.prog 126 #[.pointer (some ⟨t,0,none⟩),.int .i32 r,.int .i64 n] w (Does Z w t (putT T r n)):=by
 obtain⟨Z1,hf⟩:=h.focus
 obtain⟨d,hd⟩:=Ag4 hf.sc ok.row
 have hcol:=ok.col
 have hc5:=ok.fit.c5
 have hline:line T=Ab1 T.vis T.c.row:=line_is T
 have hl:=J0 (Af3 h ok hd)
 have hh:Hid (∀w1 (hb:Below w.heap.size w w1),Calls Tryz.prog 163 #[.pointer (some ⟨t,0,none⟩),.int .u8 1] w1 fun e w'=>e=.returned (.agg #[.int .u8 1,.int .u64 0,.int .i64 (idAt T.vis.L T.c.row),.int .i64 T.c.col,.bool false,.int .i32 0,.bool false,.bool false,.bool false,.bool false])/\Below w1.heap.size w1 w'):=J0 (fun w1 hb=>Al8 (h.below hb) ok 1)
 have hbl:=J0 (fun w1 (hb:Below w.heap.size w w1)=>Be1 (Aa7 hd hb) T.c.col)
 have hcs:=J0 (fun w1 (hb:Below w.heap.size w w1)=>And.intro ((h.below hb).c9) (And.intro (show w1.cell? ⟨t,0,none⟩=some (.bool false) by have:=(h.below hb).c0;rw[h0] at this;exact this) (And.intro (h.below hb).c11 (And.intro (h.below hb).c12 (h.below hb).c13))))
 have hbw:∀bw,decide (n=2)=bw->decide ((n:Int)=2)=bw/\((n:Int) == 2)=bw:=fun bw hb=>by
  have e:decide ((n:Int)=2)=bw:=by rw[<- hb,decide_eq_decide];omega
  exact⟨e,by rw[<- e];rfl⟩
 obtain⟨bw,hbwe⟩:∃bw,decide (n=2)=bw:=⟨_,rfl⟩
 obtain⟨hw1,hw2⟩:=hbw bw hbwe
 obtain⟨bl,hble⟩:∃bl,Ao9 (Ab1 T.vis T.c.row) T.c.col=bl:=⟨_,rfl⟩
 rw[hble] at hbl
 have hEv:Ag1 T n=⟨1,0,idAt T.vis.L T.c.row,T.c.col,bw,0,bl,false,false,false⟩:=by unfold Ag1;rw[hbwe,hline,hble];rfl
 have hpc:Aa6 T r n=putL (Ab1 T.vis T.c.row) T.c.col r bw T.p.a:=by unfold Aa6;rw[h0,hbwe,hline];rfl
 have hput:Hid (∀w2,Below w.heap.size w w2->Calls Tryz.prog 170 #[.pointer (some ⟨d,0,none⟩),.int .i64 T.c.col,.int .i32 r,.bool bw,.agg #[.int .u32 T.p.a.f,.int .u32 T.p.a.b,.int .u16 T.p.a.g]] w2 fun e w3=>(∃v,e=.returned v)/\(TMx Z w3 t (putLine T (Aa6 T r n)) P/\Scn.Fr Z TT w w3)/\Scn.Fr Z1 PT w2 w3):=J0 fun w2 hb=>by
  refine(Cb8 (Aa7 hd hb) T.c.col r (by omega) bw T.p.a).mono fun e w3 ⟨he,hr,hf3⟩=>⟨⟨_,he⟩,?_,hf3⟩
  obtain⟨q1,q2⟩:=Ak5 hf ((Scn.Fr.of_below hb).trans hf3) hr
  rw[hpc]
  exact⟨q1.tm,q2⟩
 have hok1:Ok (putLine T (Aa6 T r n)):=ok.putLine (by rw[hpc,hline];exact Bp3 _ _ _ _ _)
 have e1:(putLine T (Aa6 T r n)).c=T.c:=Bp4 _ _
 have e2:(putLine T (Aa6 T r n)).jr=T.jr:=Ag2 _ _
 have e3:(putLine T (Aa6 T r n)).prints=T.prints:=Ak4 _ _
 have e4:(putLine T (Aa6 T r n)).m=T.m:=Cu5 _ _
 have htl:=J0 (fun w3 (h3:TMx Z w3 t (putLine T (Aa6 T r n)) P)=>Am5 h3 (by rw[e2];exact hj) (by rw[e3];exact hpr) (Ag1 T n) r)
 have hok2:Ok (tellRune (putLine T (Aa6 T r n)) (Ag1 T n) r):=⟨hok1.fit,hok1.fitm,hok1.rows,hok1.cols,hok1.row,hok1.col,hok1.sv,hok1.svm,hok1.tn,hok1.alt⟩
 have hpl:Hid (∀w4,TM Z w4 t (tellRune (putLine T (Aa6 T r n)) (Ag1 T n) r)->w4.cell? ⟨t,8,none⟩=some (.int .i64 T.c.row)/\w4.cell? ⟨t,9,none⟩=some (.int .i64 T.c.col)/\Calls Tryz.prog 171 #[.pointer (some ⟨t,0,none⟩),.int .i64 T.c.row,.int .i64 (T.c.col+n:Nat)] w4 fun e w'=>(∃v,e=.returned v)/\TM Z w' t (place (tellRune (putLine T (Aa6 T r n)) (Ag1 T n) r) T.c.row (T.c.col+n:Nat))/\Scn.Fr Z TT w4 w'):=J0 fun w4 ⟨P4,hP4⟩=>by
  refine⟨?_,?_,(Ah7 hP4 hok2 T.c.row (T.c.col+n:Nat)).mono fun e w' ⟨he,h5,hf5⟩=>⟨he,h5.tm,hf5⟩⟩
  ·have:=hP4.c8
   rw[show (tellRune (putLine T (Aa6 T r n)) (Ag1 T n) r).c=T.c from e1] at this
   exact this
  ·have:=hP4.c9
   rw[show (tellRune (putLine T (Aa6 T r n)) (Ag1 T n) r).c=T.c from e1] at this
   exact this
 have hend:Hid (∀w5,TM Z w5 t (place (tellRune (putLine T (Aa6 T r n)) (Ag1 T n) r) T.c.row (T.c.col+n:Nat))->w5.cell? ⟨t,4,none⟩=some (.bool wv)/\w5.cell? ⟨t,9,none⟩=some (.int .i64 (place (tellRune (putLine T (Aa6 T r n)) (Ag1 T n) r) T.c.row (T.c.col+n:Nat)).c.col)/\(∃b,w5.cell? ⟨t,10,none⟩=some (.bool b))/\w5.frozen? ⟨t,10,none⟩=false/\∀b,b=(wv && decide ((place (tellRune (putLine T (Aa6 T r n)) (Ag1 T n) r) T.c.row (T.c.col+n:Nat)).c.col<T.c.col+n))->TM Z (w5.setCell ⟨t,10,none⟩ (.bool b)) t (putT T r n)/\Scn.Fr Z TT w5 (w5.setCell ⟨t,10,none⟩ (.bool b))):=J0 fun w5 ⟨P5,hP5⟩=>by
  refine⟨?_,hP5.c9,⟨_,hP5.c10⟩,hP5.free 10,fun b hb=>?_⟩
  ·have:=hP5.c4
   rw[show (place (tellRune (putLine T (Aa6 T r n)) (Ag1 T n) r) T.c.row (T.c.col+n:Nat)).m=T.m from e4,h4] at this
   exact this
  ·obtain⟨q1,q2⟩:=hP5.setPend b
   refine⟨?_,q2⟩
   rw[hb] at q1 |-
   unfold putT By5
   rw[h4]
   rw[show (tellRune (putLine T (Aa6 T r n)) (Ag1 T n) r).c=T.c from e1]
   exact q1.tm
 rw[hEv] at htl hpl hend
 have hwb:IntKind.i64.wrap ((T.c.col:Int)+(n:Int))=((T.c.col+n:Nat):Int):=IntWalk.i64_in _ (by omega)
 generalize putT T r n=T9 at hend |-
 generalize place (tellRune (putLine T (Aa6 T r n)) ⟨1,0,idAt T.vis.L T.c.row,T.c.col,bw,0,bl,false,false,false⟩ r) T.c.row (T.c.col+n:Nat)=T5 at hpl hend
 generalize tellRune (putLine T (Aa6 T r n)) ⟨1,0,idAt T.vis.L T.c.row,T.c.col,bw,0,bl,false,false,false⟩ r=T4 at htl hpl
 generalize putLine T (Aa6 T r n)=T3 at hput htl
 generalize hbh:T.c.col+n=bh at *
 replace hbh:=J0 hbh
 generalize hro:T.c.row=row at *
 generalize hco:T.c.col=col at *
 generalize idAt T.vis.L row=y at *
 generalize T.p.a=a at *
 obtain⟨af,ab,ag⟩:=a
 simp only at hcs hput
 clear h ok hj hpr hok1 hok2 hEv hpc hline hble hbwe hbw e1 e2 e3 e4 hf hd hcol hc5
 go_enter Tryz.func126,Tryz.ntmps126
 go_wp2_with (first
  |(go_at_call 160;(with_reducible refine(hl.out).mono ?_);rintro e w1 ⟨rfl,hq⟩)
  |(go_at_call 163;have hb1:=Ad4 (Below.refl w.heap.size w) hq;(with_reducible refine(hh.out _ hb1).mono ?_);rintro e w2 ⟨rfl,hb2'⟩;have hb2:=Aa0 hb1 hb2';have k9:=fun o=>(hcs.out _ (Aa0 hb2 (Aa1 w2 o))).1)
  |(go_at_call 168;have hbn:=Aa0 hb2 (Aa1 w2 (.cells #[.int .u8 1,.int .u64 0,.int .i64 y,.int .i64 col,.bool bw,.int .i32 0,.bool false,.bool false,.bool false,.bool false] 73));have hbx:=Block.made w2 73 #[.int .u8 1,.int .u64 0,.int .i64 y,.int .i64 col,.bool bw,.int .i32 0,.bool false,.bool false,.bool false,.bool false];(with_reducible refine(hbl.out _ hbn).mono ?_);rintro e w3 ⟨rfl,hb3⟩;have hx:=Block.only hbx (Only.of_below hb3 []) (by simp))
  |(with_reducible refine J8 23 ?_;go_must (refine Aa5 rfl _ (.tmp 23) (.tmp 22) rfl hx (.bool bl) rfl rfl (by simp) Ca3 rfl ?_);intro wE hE ho;have hbE:=(Aa0 hbn hb3).trans (ho.below (Aa0 hbn hb3).size (by simpa using hb2.size));have k0:=(hcs.out _ hbE).2.1))
 replace hE:Block wE w2.heap.size 73 (evA ⟨1,0,y,col,bw,0,bl,false,false,false⟩):=hE
 generalize w2.heap.size=b at hE |-
 clear hx hbn hbx hb3 ho hl hh hbl hq hb1 hb2 hb2' k9
 have k9:=fun k:Eqt.Ext wE=>(hcs.out _ (Aa0 hbE k.below)).1
 have k11:=fun k:Eqt.Ext wE=>(hcs.out _ (Aa0 hbE k.below)).2.2.1
 have k12:=fun k:Eqt.Ext wE=>(hcs.out _ (Aa0 hbE k.below)).2.2.2.1
 have k13:=fun k:Eqt.Ext wE=>(hcs.out _ (Aa0 hbE k.below)).2.2.2.2
 have hp9:=J0 (fun w2 (hb:Below wE.heap.size wE w2)=>hput.out _ (Aa0 hbE hb))
 have hE5:=hE
 clear hE
 have x4:=fun k:Eqt.Ext wE=>(Block.only hE5 (Only.of_below k.below []) (by simp)).cell 4 (v:=.bool bw) rfl
 clear hput
 go_wp2
 refine Eqt.region_ext_tail 14 (by kernel_rfl) (by kernel_rfl) ?_
 simp only[List.take_succ_cons,List.take_zero,List.drop_succ_cons,List.drop_zero]
 repeat (go_big_quiet_step (fail))
 refine wpQuiet_nil ?_
 intro w9 hw9
 obtain⟨k9,rfl⟩:=hw9
 have hb9:=k9.below
 generalize k9.w=w9 at hb9 |-
 have hE9:=Block.only hE5 (Only.of_below hb9 []) (by simp)
 have hp1:=J0 (hp9.out _ hb9)
 clear hE5 k9 k11 k12 k13 x4 hp9
 cases wv
 all_goals
  go_wp2_with (first
   |(go_at_call 170;(with_reducible refine(hp1.out).mono ?_);rintro e w6 ⟨⟨v6,rfl⟩,⟨h6,hF6⟩,hf6⟩;have hE6:=Bn2 (Scn.Block.fr hE9 hf6 (.inl (by decide))))
   |(with_reducible refine J9 58 7 ?_;go_must (refine wpList_load_row rfl _ (.tmp 7) rfl b rfl _ (evA ⟨1,0,y,col,bw,0,bl,false,false,false⟩) (0,0) _ hE6 Tryz.underlying73 rfl (Aw0 _) ?_))
   |(go_at_call 165;(with_reducible refine(htl.out _ h6).mono ?_);rintro e w7 ⟨⟨v7,rfl⟩,h7,hf7⟩;obtain⟨k8,k9,hplc⟩:=hpl.out _ h7;replace hplc:=J0 hplc)
   |(go_at_call 171;(with_reducible refine hplc.out.mono ?_);rintro e w8 ⟨⟨v8,rfl⟩,h8,hf8⟩;obtain⟨l4,l9,⟨b10,l10⟩,l11,hset⟩:=hend.out _ h8;replace hset:=J0 hset))
  first
  |(obtain⟨h9,hf9⟩:=hset.out (decide (T5.c.col<bh)) (by simp);go_end0;exact⟨⟨_,rfl⟩,h9,((hF6.trans hf7).trans hf8).trans hf9⟩)
  |(obtain⟨h9,hf9⟩:=hset.out false (by simp);go_end0;exact⟨⟨_,rfl⟩,h9,((hF6.trans hf7).trans hf8).trans hf9⟩)
theorem put_any (h:TM Z w t T) (ok:Ok T) (hj:T.jr.length<=90000000) (hpr:T.prints<=10000000000) (r:Int) (n:Nat) (hn2:n<=2):Calls Tryz.prog 126 #[.pointer (some ⟨t,0,none⟩),.int .i32 r,.int .i64 n] w (Does Z w t (putT T r n)):=by
 obtain⟨P,h⟩:=h
 cases h0:T.m.a0 with
 |true=>exact put_i h ok hj hpr r n hn2 h0 _ rfl
 |false=>exact put_n h ok hj hpr r n hn2 h0 _ rfl
theorem putCells_len (T:Ter) (r:Int) (n:Nat):(Aa6 T r n).length=(line T).length:=by
 unfold Aa6
 rw[Bp3]
 split
 ·exact Bo3 _ _ _ _
 ·rfl
end
