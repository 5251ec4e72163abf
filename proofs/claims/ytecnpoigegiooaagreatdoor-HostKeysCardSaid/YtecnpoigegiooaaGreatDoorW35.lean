/- Part 35 of HostKeys. -/
import Derived.Test.YtecnpoigegiooaaGreatDoorW34
set_option maxHeartbeats 16000000
set_option maxRecDepth 100000
namespace Go.Proofs.YtecnpoigegiooaaGreatDoor.Emu
open Go.Proofs.Tryz
open Go RowKit Com Rw Lns Scn
section
variable {Z Z1:Zn}{w w':World}{t x s d b:Nat}{S:Scr}{T:Ter}{P:Pt}{v:Value}{l:List Int}
theorem Bth(S:Scr){i:Nat}(l:List Cel)(hi:i<S.L.length):C8 (Aa2 S i l) i=l:=by
 unfold C8 Aa2
 simp[List.getElem?_eq_getElem hi]
theorem Bvn(S:Scr)(i:Nat)(l l':List Cel):Aa2 (Aa2 S i l) i l'=Aa2 S i l':=by
 unfold Aa2
 simp only
 congr 1
 apply List.ext_getElem (by simp)
 intro j h1 h2
 simp only[List.getElem_modify]
 split<;>rfl
theorem Bba(l:List Cel)(col r:Int)(wide:Bool)(a:At):(Abi l col r wide a).length=l.length:=by
 unfold Abi
 split
 ·rename_i h
  obtain⟨_,h1,h2⟩:=h
  exact Akn (by omega)
 ·rfl
structure Aru(Z:Zn)(w:World)(t:Nat)(T:Ter)(P:Pt)(Z1:Zn)(d:Nat)(l:List Cel):Prop where
 tm:TMx Z w t (C1 T l) P
 row:G3 Z1 w (P.x T.other) P.s (Aa2 T.vis T.c.row l) T.c.row d
theorem Cby{l':List Cel}{l0:List Cel}(hf:Foc Z w t T P Z1)(hfr:Scn.Fr Z1 PT w w')(h:G3 Z1 w' (P.x T.other) P.s (Aa2 (Aa2 T.vis T.c.row l0) T.c.row l') T.c.row d):Aru Z w' t T P Z1 d l'/\Scn.Fr Z TT w w':=by
 rw[Bvn]at h
 obtain⟨h1,h2⟩:=hf.back w' _ (Ajk h) rfl rfl hfr
 exact⟨⟨h1,h⟩,h2⟩
theorem Amt{l':List Cel}(hf:Foc Z w t T P Z1)(hfr:Scn.Fr Z1 PT w w')(h:G3 Z1 w' (P.x T.other) P.s (Aa2 T.vis T.c.row l') T.c.row d):Aru Z w' t T P Z1 d l'/\Scn.Fr Z TT w w':=by
 obtain⟨h1,h2⟩:=hf.back w' _ (Ajk h) rfl rfl hfr
 exact⟨⟨h1,h⟩,h2⟩
theorem Csr(h:TMx Z w t T P)(ok:Ok T)(hj:T.jr.length<=90000000)(hpr:T.C5<=10000000000)(r:Int)(n:Nat)(hn2:n<=2)(h0:T.m.a0=true)(wv:Bool)(h4:T.m.a4=wv):Calls prog 126 #[.pointer (some ⟨t,0,none⟩),.int .i32 r,.int .i64 n] w (A7 Z w t (Z7 T r n)):=by
 obtain⟨Z1,hf⟩:=h.focus
 obtain⟨d,hd⟩:=Adr hf.sc ok.row
 have F5:=ok.col
 have hc5:=ok.fit.c5
 have Aez:line T=C8 T.vis T.c.row:=Alb T
 have hl:=J0 (Acm h ok hd)
 have hh:Hid (∀w1 (hb:Below w.heap.size w w1),Calls prog 163 #[.pointer (some ⟨t,0,none⟩),.int .u8 1] w1 fun e w'=>e=.returned (.agg #[.int .u8 1,.int .u64 0,.int .i64 (L6 T.vis.L T.c.row),.int .i64 T.c.col,.bool false,.int .i32 0,.bool false,.bool false,.bool false,.bool false])/\Below w1.heap.size w1 w'):=J0 (fun w1 hb=>Ajf (h.below hb) ok 1)
 have hbl:=J0 (fun w1 (hb:Below w.heap.size w w1)=>Azq (O0 hd hb) T.c.col)
 have hcs:=J0 (fun w1 (hb:Below w.heap.size w w1)=>And.intro ((h.below hb).c9) (And.intro (show w1.cell? ⟨t,0,none⟩=some (.bool true)by have:=(h.below hb).c0;rw[h0]at this;exact this) (And.intro (h.below hb).c11 (And.intro (h.below hb).c12 (h.below hb).c13))))
 have hbw:∀bw,decide (n=2)=bw->decide ((n:Int)=2)=bw/\((n:Int)==2)=bw:=fun bw hb=>by
  have e:decide ((n:Int)=2)=bw:=by rw[<- hb,decide_eq_decide];omega
  exact⟨e,by rw[<- e];rfl⟩
 obtain⟨bw,Air⟩:∃bw,decide (n=2)=bw:=⟨_,rfl⟩
 obtain⟨hw1,hw2⟩:=hbw bw Air
 obtain⟨bl,Alz⟩:∃bl,Aes (C8 T.vis T.c.row) T.c.col=bl:=⟨_,rfl⟩
 rw[Alz]at hbl
 have hEv:M7 T n=⟨1,0,L6 T.vis.L T.c.row,T.c.col,bw,0,bl,false,false,false⟩:=by unfold M7;rw[Air,Aez,Alz];rfl
 have hin:=J0 (fun w1 (hb:Below w.heap.size w w1)=>Bgj (O0 hd hb) T.c.col n T.p.a)
 have hr1:Hid (∀w1 w2,Below w.heap.size w w1->G3 Z1 w2 (P.x T.other) P.s (Aa2 T.vis T.c.row (inL (C8 T.vis T.c.row) T.c.col n T.p.a)) T.c.row d->Scn.Fr Z1 PT w1 w2->Aru Z w2 t T P Z1 d (inL (C8 T.vis T.c.row) T.c.col n T.p.a)/\Scn.Fr Z1 PT w w2):=J0 fun w1 w2 hb hr hf2=>⟨(Amt hf ((Scn.Fr.A1 hb).trans hf2) hr).1,(Scn.Fr.A1 hb).trans hf2⟩
 have Asm:Hid (∀w2,Aru Z w2 t T P Z1 d (inL (C8 T.vis T.c.row) T.c.col n T.p.a)->∀w3,Below w2.heap.size w2 w3->w3.cell? ⟨t,9,none⟩=some (.int .i64 T.c.col)/\w3.cell? ⟨t,11,none⟩=some (.int .u32 T.p.a.f)/\w3.cell? ⟨t,12,none⟩=some (.int .u32 T.p.a.b)/\w3.cell? ⟨t,13,none⟩=some (.int .u16 T.p.a.g)):=J0 fun w2 h2 w3 hb=>by
  have h3:=h2.tm.below hb
  have e1:(C1 T (inL (C8 T.vis T.c.row) T.c.col n T.p.a)).c=T.c:=Aih _ _
  have e2:(C1 T (inL (C8 T.vis T.c.row) T.c.col n T.p.a)).p=T.p:=Bpy _ _
  exact⟨e1▸h3.c9,e2▸h3.c11,e2▸h3.c12,e2▸h3.c13⟩
 have hpc:Aa0 T r n=Abi (inL (C8 T.vis T.c.row) T.c.col n T.p.a) T.c.col r bw T.p.a:=by unfold Aa0;rw[h0,Air,Aez];rfl
 have E1:Hid (∀w1 w2,Aru Z w1 t T P Z1 d (inL (C8 T.vis T.c.row) T.c.col n T.p.a)->Scn.Fr Z1 PT w w1->Below w1.heap.size w1 w2->Calls prog 170 #[.pointer (some ⟨d,0,none⟩),.int .i64 T.c.col,.int .i32 r,.bool bw,.agg #[.int .u32 T.p.a.f,.int .u32 T.p.a.b,.int .u16 T.p.a.g]] w2 fun e w3=>(∃v,e=.returned v)/\(TMx Z w3 t (C1 T (Aa0 T r n)) P/\Scn.Fr Z TT w w3)/\Scn.Fr Z1 PT w2 w3):=J0 fun w1 w2 h1 hf1 hb=>by
  refine(Bkb (O0 h1.row hb) T.c.col r (by omega) bw T.p.a).mono fun e w3 ⟨he,hr,hf3⟩=>⟨⟨_,he⟩,?_,hf3⟩
  rw[Bth _ _ ok.row]at hr
  obtain⟨q1,q2⟩:=Cby hf ((hf1.trans (Scn.Fr.A1 hb)).trans hf3) hr
  rw[hpc]
  exact⟨q1.tm,q2⟩
 have N2:Ok (C1 T (Aa0 T r n)):=ok.C1 (by rw[hpc,Aez];exact(Bba _ _ _ _ _).trans (Avr _ _ _ _))
 have e1:(C1 T (Aa0 T r n)).c=T.c:=Aih _ _
 have e2:(C1 T (Aa0 T r n)).jr=T.jr:=V7 _ _
 have e3:(C1 T (Aa0 T r n)).C5=T.C5:=Ams _ _
 have e4:(C1 T (Aa0 T r n)).m=T.m:=Bpx _ _
 have htl:=J0 (fun w3 (h3:TMx Z w3 t (C1 T (Aa0 T r n)) P)=>Atj h3 (by rw[e2];exact hj) (by rw[e3];exact hpr) (M7 T n) r)
 have Asq:Ok (I1 (C1 T (Aa0 T r n)) (M7 T n) r):=⟨N2.fit,N2.U6,N2.rows,N2.cols,N2.row,N2.col,N2.sv,N2.svm,N2.tn,N2.alt⟩
 have hpl:Hid (∀w4,TM Z w4 t (I1 (C1 T (Aa0 T r n)) (M7 T n) r)->w4.cell? ⟨t,8,none⟩=some (.int .i64 T.c.row)/\w4.cell? ⟨t,9,none⟩=some (.int .i64 T.c.col)/\Calls prog 171 #[.pointer (some ⟨t,0,none⟩),.int .i64 T.c.row,.int .i64 (T.c.col+n:Nat)] w4 fun e w'=>(∃v,e=.returned v)/\TM Z w' t (place (I1 (C1 T (Aa0 T r n)) (M7 T n) r) T.c.row (T.c.col+n:Nat))/\Scn.Fr Z TT w4 w'):=J0 fun w4 ⟨P4,hP4⟩=>by
  refine⟨?_,?_,(Ahg hP4 Asq T.c.row (T.c.col+n:Nat)).mono fun e w' ⟨he,h5,hf5⟩=>⟨he,h5.tm,hf5⟩⟩
  ·have:=hP4.c8
   rw[show(I1 (C1 T (Aa0 T r n)) (M7 T n) r).c=T.c from e1]at this
   exact this
  ·have:=hP4.c9
   rw[show(I1 (C1 T (Aa0 T r n)) (M7 T n) r).c=T.c from e1]at this
   exact this
 have E3:Hid (∀w5,TM Z w5 t (place (I1 (C1 T (Aa0 T r n)) (M7 T n) r) T.c.row (T.c.col+n:Nat))->w5.cell? ⟨t,4,none⟩=some (.bool wv)/\w5.cell? ⟨t,9,none⟩=some (.int .i64 (place (I1 (C1 T (Aa0 T r n)) (M7 T n) r) T.c.row (T.c.col+n:Nat)).c.col)/\(∃b,w5.cell? ⟨t,10,none⟩=some (.bool b))/\w5.frozen? ⟨t,10,none⟩=false/\∀b,b=(wv&&decide ((place (I1 (C1 T (Aa0 T r n)) (M7 T n) r) T.c.row (T.c.col+n:Nat)).c.col<T.c.col+n))->TM Z (w5.setCell ⟨t,10,none⟩ (.bool b)) t (Z7 T r n)/\Scn.Fr Z TT w5 (w5.setCell ⟨t,10,none⟩ (.bool b))):=J0 fun w5 ⟨P5,hP5⟩=>by
  refine⟨?_,hP5.c9,⟨_,hP5.c10⟩,hP5.free 10,fun b hb=>?_⟩
  ·have:=hP5.c4
   rw[show(place (I1 (C1 T (Aa0 T r n)) (M7 T n) r) T.c.row (T.c.col+n:Nat)).m=T.m from e4,h4]at this
   exact this
  ·obtain⟨q1,q2⟩:=hP5.Bbx b
   refine⟨?_,q2⟩
   rw[hb]at q1 |-
   unfold Z7 Ab0
   rw[h4]
   rw[show(I1 (C1 T (Aa0 T r n)) (M7 T n) r).c=T.c from e1]
   exact q1.tm
 rw[hEv]at htl hpl E3
 have hwb:IntKind.i64.wrap ((T.c.col:Int)+(n:Int))=((T.c.col+n:Nat):Int):=IntWalk.i64_in _ (by omega)
 generalize Z7 T r n=T9 at E3 |-
 generalize place (I1 (C1 T (Aa0 T r n)) ⟨1,0,L6 T.vis.L T.c.row,T.c.col,bw,0,bl,false,false,false⟩ r) T.c.row (T.c.col+n:Nat)=T5 at hpl E3
 generalize I1 (C1 T (Aa0 T r n)) ⟨1,0,L6 T.vis.L T.c.row,T.c.col,bw,0,bl,false,false,false⟩ r=T4 at htl hpl
 generalize C1 T (Aa0 T r n)=T3 at E1 htl
 generalize hbh:T.c.col+n=bh at *
 replace hbh:=J0 hbh
 generalize hro:T.c.row=row at *
 generalize hco:T.c.col=col at *
 generalize L6 T.vis.L row=y at *
 generalize inL (C8 T.vis row) col n T.p.a=li at *
 generalize T.p.a=a at *
 obtain⟨af,ab,ag⟩:=a
 simp only at hcs E1 hin Asm
 clear h ok hj hpr N2 Asq hEv hpc Aez Alz Air hbw e1 e2 e3 e4 hf hd F5 hc5
 go_enter func126,ntmps126
 go_wp2_with (first
  |(go_at_call 160;(with_reducible refine(hl.out).mono ?_);rintro e w1 ⟨rfl,hq⟩)
  |(go_at_call 163;have hb1:=Adm (Below.refl w.heap.size w) hq;(with_reducible refine(hh.out _ hb1).mono ?_);rintro e w2 ⟨rfl,hb2'⟩;have hb2:=A2 hb1 hb2';have k9:=fun o=>(hcs.out _ (A2 hb2 (A3 w2 o))).1)
  |(go_at_call 168;have hbn:=A2 hb2 (A3 w2 (.cells #[.int .u8 1,.int .u64 0,.int .i64 y,.int .i64 col,.bool bw,.int .i32 0,.bool false,.bool false,.bool false,.bool false] 73));have hbx:=Block.made w2 73 #[.int .u8 1,.int .u64 0,.int .i64 y,.int .i64 col,.bool bw,.int .i32 0,.bool false,.bool false,.bool false,.bool false];(with_reducible refine(hbl.out _ hbn).mono ?_);rintro e w3 ⟨rfl,hb3⟩;have hx:=Block.only hbx (A0.A1 hb3 []) (by simp))
  |(with_reducible refine J8 23 ?_;go_must(refine N9 rfl _ (.tmp 23) (.tmp 22) rfl hx (.bool bl) rfl rfl (by simp) Awf rfl ?_);intro wE hE ho;have hbE:=(A2 hbn hb3).trans (ho.below (A2 hbn hb3).size (by simpa using hb2.size));have k0:=(hcs.out _ hbE).2.1))
 replace hE:Block wE w2.heap.size 73 (evA ⟨1,0,y,col,bw,0,bl,false,false,false⟩):=hE
 generalize w2.heap.size=b at hE |-
 clear hx hbn hbx hb3 ho hl hh hbl hq hb1 hb2 hb2' k9
 have k9:=fun k:Eqt.Ext wE=>(hcs.out _ (A2 hbE k.below)).1
 have k11:=fun k:Eqt.Ext wE=>(hcs.out _ (A2 hbE k.below)).2.2.1
 have k12:=fun k:Eqt.Ext wE=>(hcs.out _ (A2 hbE k.below)).2.2.2.1
 have k13:=fun k:Eqt.Ext wE=>(hcs.out _ (A2 hbE k.below)).2.2.2.2
 refine Eqt.H4 12 (by kernel_rfl) (by kernel_rfl) ?_
 simp only[List.take_succ_cons,List.take_zero,List.drop_succ_cons,List.drop_zero]
 repeat(go_big_quiet_step(fail))
 refine wpQuiet_nil ?_
 intro w9 hw9
 obtain⟨k9,rfl⟩:=hw9
 have hb9:=k9.below
 generalize k9.w=w9 at hb9 |-
 have hE9:=Block.only hE (A0.A1 hb9 []) (by simp)
 have hi9:=J0 (hin.out _ (A2 hbE hb9))
 have hr9:=J0 (fun w2=>hr1.out w9 w2 (A2 hbE hb9))
 clear hE k9 k11 k12 k13 hb9 hbE hin hr1 hcs
 go_wp2_with (first
  |(go_at_call 169;(with_reducible refine(hi9.out).mono ?_);rintro e w5 ⟨rfl,Bph,hf5⟩))
 obtain⟨h5,hF5⟩:=hr9.out _ Bph hf5
 have hE5:=Scn.Block.fr hE9 hf5 (.inl (by decide))
 clear hE9 hi9 hr9 Bph hf5 k0
 generalize w5=wE at h5 hF5 hE5 |-
 have k9:=fun k:Eqt.Ext wE=>(Asm.out _ h5 _ k.below).1
 have k11:=fun k:Eqt.Ext wE=>(Asm.out _ h5 _ k.below).2.1
 have k12:=fun k:Eqt.Ext wE=>(Asm.out _ h5 _ k.below).2.2.1
 have k13:=fun k:Eqt.Ext wE=>(Asm.out _ h5 _ k.below).2.2.2
 have hp9:=J0 (fun w2 (hb:Below wE.heap.size wE w2)=>E1.out _ _ h5 hF5 hb)
 have x4:=fun k:Eqt.Ext wE=>(Block.only hE5 (A0.A1 k.below []) (by simp)).cell 4 (v:=.bool bw) rfl
 clear E1
 go_wp2
 refine Eqt.H4 14 (by kernel_rfl) (by kernel_rfl) ?_
 simp only[List.take_succ_cons,List.take_zero,List.drop_succ_cons,List.drop_zero]
 repeat(go_big_quiet_step(fail))
 refine wpQuiet_nil ?_
 intro w9 hw9
 obtain⟨k9,rfl⟩:=hw9
 have hb9:=k9.below
 generalize k9.w=w9 at hb9 |-
 have hE9:=Block.only hE5 (A0.A1 hb9 []) (by simp)
 have hp1:=J0 (hp9.out _ hb9)
 clear hE5 k9 k11 k12 k13 x4 hp9
 cases wv
 all_goals
  go_wp2_with (first
   |(go_at_call 170;(with_reducible refine(hp1.out).mono ?_);rintro e w6 ⟨⟨v6,rfl⟩,⟨h6,hF6⟩,hf6⟩;have hE6:=Baq (Scn.Block.fr hE9 hf6 (.inl (by decide))))
   |(with_reducible refine J9 58 7 ?_;go_must(refine wpList_load_row rfl _ (.tmp 7) rfl b rfl _ (evA ⟨1,0,y,col,bw,0,bl,false,false,false⟩) (0,0) _ hE6 underlying73 rfl (Aht _) ?_))
   |(go_at_call 165;(with_reducible refine(htl.out _ h6).mono ?_);rintro e w7 ⟨⟨v7,rfl⟩,h7,hf7⟩;obtain⟨k8,k9,Amc⟩:=hpl.out _ h7;replace Amc:=J0 Amc)
   |(go_at_call 171;(with_reducible refine Amc.out.mono ?_);rintro e w8 ⟨⟨v8,rfl⟩,h8,hf8⟩;obtain⟨l4,l9,⟨b10,l10⟩,l11,C4⟩:=E3.out _ h8;replace C4:=J0 C4))
  first
  |(obtain⟨h9,hf9⟩:=C4.out (decide (T5.c.col<bh)) (by simp);go_end0;exact⟨⟨_,rfl⟩,h9,((hF6.trans hf7).trans hf8).trans hf9⟩)
  |(obtain⟨h9,hf9⟩:=C4.out false (by simp);go_end0;exact⟨⟨_,rfl⟩,h9,((hF6.trans hf7).trans hf8).trans hf9⟩)
theorem Css(h:TMx Z w t T P)(ok:Ok T)(hj:T.jr.length<=90000000)(hpr:T.C5<=10000000000)(r:Int)(n:Nat)(hn2:n<=2)(h0:T.m.a0=false)(wv:Bool)(h4:T.m.a4=wv):Calls prog 126 #[.pointer (some ⟨t,0,none⟩),.int .i32 r,.int .i64 n] w (A7 Z w t (Z7 T r n)):=by
 obtain⟨Z1,hf⟩:=h.focus
 obtain⟨d,hd⟩:=Adr hf.sc ok.row
 have F5:=ok.col
 have hc5:=ok.fit.c5
 have Aez:line T=C8 T.vis T.c.row:=Alb T
 have hl:=J0 (Acm h ok hd)
 have hh:Hid (∀w1 (hb:Below w.heap.size w w1),Calls prog 163 #[.pointer (some ⟨t,0,none⟩),.int .u8 1] w1 fun e w'=>e=.returned (.agg #[.int .u8 1,.int .u64 0,.int .i64 (L6 T.vis.L T.c.row),.int .i64 T.c.col,.bool false,.int .i32 0,.bool false,.bool false,.bool false,.bool false])/\Below w1.heap.size w1 w'):=J0 (fun w1 hb=>Ajf (h.below hb) ok 1)
 have hbl:=J0 (fun w1 (hb:Below w.heap.size w w1)=>Azq (O0 hd hb) T.c.col)
 have hcs:=J0 (fun w1 (hb:Below w.heap.size w w1)=>And.intro ((h.below hb).c9) (And.intro (show w1.cell? ⟨t,0,none⟩=some (.bool false)by have:=(h.below hb).c0;rw[h0]at this;exact this) (And.intro (h.below hb).c11 (And.intro (h.below hb).c12 (h.below hb).c13))))
 have hbw:∀bw,decide (n=2)=bw->decide ((n:Int)=2)=bw/\((n:Int)==2)=bw:=fun bw hb=>by
  have e:decide ((n:Int)=2)=bw:=by rw[<- hb,decide_eq_decide];omega
  exact⟨e,by rw[<- e];rfl⟩
 obtain⟨bw,Air⟩:∃bw,decide (n=2)=bw:=⟨_,rfl⟩
 obtain⟨hw1,hw2⟩:=hbw bw Air
 obtain⟨bl,Alz⟩:∃bl,Aes (C8 T.vis T.c.row) T.c.col=bl:=⟨_,rfl⟩
 rw[Alz]at hbl
 have hEv:M7 T n=⟨1,0,L6 T.vis.L T.c.row,T.c.col,bw,0,bl,false,false,false⟩:=by unfold M7;rw[Air,Aez,Alz];rfl
 have hpc:Aa0 T r n=Abi (C8 T.vis T.c.row) T.c.col r bw T.p.a:=by unfold Aa0;rw[h0,Air,Aez];rfl
 have E1:Hid (∀w2,Below w.heap.size w w2->Calls prog 170 #[.pointer (some ⟨d,0,none⟩),.int .i64 T.c.col,.int .i32 r,.bool bw,.agg #[.int .u32 T.p.a.f,.int .u32 T.p.a.b,.int .u16 T.p.a.g]] w2 fun e w3=>(∃v,e=.returned v)/\(TMx Z w3 t (C1 T (Aa0 T r n)) P/\Scn.Fr Z TT w w3)/\Scn.Fr Z1 PT w2 w3):=J0 fun w2 hb=>by
  refine(Bkb (O0 hd hb) T.c.col r (by omega) bw T.p.a).mono fun e w3 ⟨he,hr,hf3⟩=>⟨⟨_,he⟩,?_,hf3⟩
  obtain⟨q1,q2⟩:=Amt hf ((Scn.Fr.A1 hb).trans hf3) hr
  rw[hpc]
  exact⟨q1.tm,q2⟩
 have N2:Ok (C1 T (Aa0 T r n)):=ok.C1 (by rw[hpc,Aez];exact Bba _ _ _ _ _)
 have e1:(C1 T (Aa0 T r n)).c=T.c:=Aih _ _
 have e2:(C1 T (Aa0 T r n)).jr=T.jr:=V7 _ _
 have e3:(C1 T (Aa0 T r n)).C5=T.C5:=Ams _ _
 have e4:(C1 T (Aa0 T r n)).m=T.m:=Bpx _ _
 have htl:=J0 (fun w3 (h3:TMx Z w3 t (C1 T (Aa0 T r n)) P)=>Atj h3 (by rw[e2];exact hj) (by rw[e3];exact hpr) (M7 T n) r)
 have Asq:Ok (I1 (C1 T (Aa0 T r n)) (M7 T n) r):=⟨N2.fit,N2.U6,N2.rows,N2.cols,N2.row,N2.col,N2.sv,N2.svm,N2.tn,N2.alt⟩
 have hpl:Hid (∀w4,TM Z w4 t (I1 (C1 T (Aa0 T r n)) (M7 T n) r)->w4.cell? ⟨t,8,none⟩=some (.int .i64 T.c.row)/\w4.cell? ⟨t,9,none⟩=some (.int .i64 T.c.col)/\Calls prog 171 #[.pointer (some ⟨t,0,none⟩),.int .i64 T.c.row,.int .i64 (T.c.col+n:Nat)] w4 fun e w'=>(∃v,e=.returned v)/\TM Z w' t (place (I1 (C1 T (Aa0 T r n)) (M7 T n) r) T.c.row (T.c.col+n:Nat))/\Scn.Fr Z TT w4 w'):=J0 fun w4 ⟨P4,hP4⟩=>by
  refine⟨?_,?_,(Ahg hP4 Asq T.c.row (T.c.col+n:Nat)).mono fun e w' ⟨he,h5,hf5⟩=>⟨he,h5.tm,hf5⟩⟩
  ·have:=hP4.c8
   rw[show(I1 (C1 T (Aa0 T r n)) (M7 T n) r).c=T.c from e1]at this
   exact this
  ·have:=hP4.c9
   rw[show(I1 (C1 T (Aa0 T r n)) (M7 T n) r).c=T.c from e1]at this
   exact this
 have E3:Hid (∀w5,TM Z w5 t (place (I1 (C1 T (Aa0 T r n)) (M7 T n) r) T.c.row (T.c.col+n:Nat))->w5.cell? ⟨t,4,none⟩=some (.bool wv)/\w5.cell? ⟨t,9,none⟩=some (.int .i64 (place (I1 (C1 T (Aa0 T r n)) (M7 T n) r) T.c.row (T.c.col+n:Nat)).c.col)/\(∃b,w5.cell? ⟨t,10,none⟩=some (.bool b))/\w5.frozen? ⟨t,10,none⟩=false/\∀b,b=(wv&&decide ((place (I1 (C1 T (Aa0 T r n)) (M7 T n) r) T.c.row (T.c.col+n:Nat)).c.col<T.c.col+n))->TM Z (w5.setCell ⟨t,10,none⟩ (.bool b)) t (Z7 T r n)/\Scn.Fr Z TT w5 (w5.setCell ⟨t,10,none⟩ (.bool b))):=J0 fun w5 ⟨P5,hP5⟩=>by
  refine⟨?_,hP5.c9,⟨_,hP5.c10⟩,hP5.free 10,fun b hb=>?_⟩
  ·have:=hP5.c4
   rw[show(place (I1 (C1 T (Aa0 T r n)) (M7 T n) r) T.c.row (T.c.col+n:Nat)).m=T.m from e4,h4]at this
   exact this
  ·obtain⟨q1,q2⟩:=hP5.Bbx b
   refine⟨?_,q2⟩
   rw[hb]at q1 |-
   unfold Z7 Ab0
   rw[h4]
   rw[show(I1 (C1 T (Aa0 T r n)) (M7 T n) r).c=T.c from e1]
   exact q1.tm
 rw[hEv]at htl hpl E3
 have hwb:IntKind.i64.wrap ((T.c.col:Int)+(n:Int))=((T.c.col+n:Nat):Int):=IntWalk.i64_in _ (by omega)
 generalize Z7 T r n=T9 at E3 |-
 generalize place (I1 (C1 T (Aa0 T r n)) ⟨1,0,L6 T.vis.L T.c.row,T.c.col,bw,0,bl,false,false,false⟩ r) T.c.row (T.c.col+n:Nat)=T5 at hpl E3
 generalize I1 (C1 T (Aa0 T r n)) ⟨1,0,L6 T.vis.L T.c.row,T.c.col,bw,0,bl,false,false,false⟩ r=T4 at htl hpl
 generalize C1 T (Aa0 T r n)=T3 at E1 htl
 generalize hbh:T.c.col+n=bh at *
 replace hbh:=J0 hbh
 generalize hro:T.c.row=row at *
 generalize hco:T.c.col=col at *
 generalize L6 T.vis.L row=y at *
 generalize T.p.a=a at *
 obtain⟨af,ab,ag⟩:=a
 simp only at hcs E1
 clear h ok hj hpr N2 Asq hEv hpc Aez Alz Air hbw e1 e2 e3 e4 hf hd F5 hc5
 go_enter func126,ntmps126
 go_wp2_with (first
  |(go_at_call 160;(with_reducible refine(hl.out).mono ?_);rintro e w1 ⟨rfl,hq⟩)
  |(go_at_call 163;have hb1:=Adm (Below.refl w.heap.size w) hq;(with_reducible refine(hh.out _ hb1).mono ?_);rintro e w2 ⟨rfl,hb2'⟩;have hb2:=A2 hb1 hb2';have k9:=fun o=>(hcs.out _ (A2 hb2 (A3 w2 o))).1)
  |(go_at_call 168;have hbn:=A2 hb2 (A3 w2 (.cells #[.int .u8 1,.int .u64 0,.int .i64 y,.int .i64 col,.bool bw,.int .i32 0,.bool false,.bool false,.bool false,.bool false] 73));have hbx:=Block.made w2 73 #[.int .u8 1,.int .u64 0,.int .i64 y,.int .i64 col,.bool bw,.int .i32 0,.bool false,.bool false,.bool false,.bool false];(with_reducible refine(hbl.out _ hbn).mono ?_);rintro e w3 ⟨rfl,hb3⟩;have hx:=Block.only hbx (A0.A1 hb3 []) (by simp))
  |(with_reducible refine J8 23 ?_;go_must(refine N9 rfl _ (.tmp 23) (.tmp 22) rfl hx (.bool bl) rfl rfl (by simp) Awf rfl ?_);intro wE hE ho;have hbE:=(A2 hbn hb3).trans (ho.below (A2 hbn hb3).size (by simpa using hb2.size));have k0:=(hcs.out _ hbE).2.1))
 replace hE:Block wE w2.heap.size 73 (evA ⟨1,0,y,col,bw,0,bl,false,false,false⟩):=hE
 generalize w2.heap.size=b at hE |-
 clear hx hbn hbx hb3 ho hl hh hbl hq hb1 hb2 hb2' k9
 have k9:=fun k:Eqt.Ext wE=>(hcs.out _ (A2 hbE k.below)).1
 have k11:=fun k:Eqt.Ext wE=>(hcs.out _ (A2 hbE k.below)).2.2.1
 have k12:=fun k:Eqt.Ext wE=>(hcs.out _ (A2 hbE k.below)).2.2.2.1
 have k13:=fun k:Eqt.Ext wE=>(hcs.out _ (A2 hbE k.below)).2.2.2.2
 have hp9:=J0 (fun w2 (hb:Below wE.heap.size wE w2)=>E1.out _ (A2 hbE hb))
 have hE5:=hE
 clear hE
 have x4:=fun k:Eqt.Ext wE=>(Block.only hE5 (A0.A1 k.below []) (by simp)).cell 4 (v:=.bool bw) rfl
 clear E1
 go_wp2
 refine Eqt.H4 14 (by kernel_rfl) (by kernel_rfl) ?_
 simp only[List.take_succ_cons,List.take_zero,List.drop_succ_cons,List.drop_zero]
 repeat(go_big_quiet_step(fail))
 refine wpQuiet_nil ?_
 intro w9 hw9
 obtain⟨k9,rfl⟩:=hw9
 have hb9:=k9.below
 generalize k9.w=w9 at hb9 |-
 have hE9:=Block.only hE5 (A0.A1 hb9 []) (by simp)
 have hp1:=J0 (hp9.out _ hb9)
 clear hE5 k9 k11 k12 k13 x4 hp9
 cases wv
 all_goals
  go_wp2_with (first
   |(go_at_call 170;(with_reducible refine(hp1.out).mono ?_);rintro e w6 ⟨⟨v6,rfl⟩,⟨h6,hF6⟩,hf6⟩;have hE6:=Baq (Scn.Block.fr hE9 hf6 (.inl (by decide))))
   |(with_reducible refine J9 58 7 ?_;go_must(refine wpList_load_row rfl _ (.tmp 7) rfl b rfl _ (evA ⟨1,0,y,col,bw,0,bl,false,false,false⟩) (0,0) _ hE6 underlying73 rfl (Aht _) ?_))
   |(go_at_call 165;(with_reducible refine(htl.out _ h6).mono ?_);rintro e w7 ⟨⟨v7,rfl⟩,h7,hf7⟩;obtain⟨k8,k9,Amc⟩:=hpl.out _ h7;replace Amc:=J0 Amc)
   |(go_at_call 171;(with_reducible refine Amc.out.mono ?_);rintro e w8 ⟨⟨v8,rfl⟩,h8,hf8⟩;obtain⟨l4,l9,⟨b10,l10⟩,l11,C4⟩:=E3.out _ h8;replace C4:=J0 C4))
  first
  |(obtain⟨h9,hf9⟩:=C4.out (decide (T5.c.col<bh)) (by simp);go_end0;exact⟨⟨_,rfl⟩,h9,((hF6.trans hf7).trans hf8).trans hf9⟩)
  |(obtain⟨h9,hf9⟩:=C4.out false (by simp);go_end0;exact⟨⟨_,rfl⟩,h9,((hF6.trans hf7).trans hf8).trans hf9⟩)
theorem Ald(h:TM Z w t T)(ok:Ok T)(hj:T.jr.length<=90000000)(hpr:T.C5<=10000000000)(r:Int)(n:Nat)(hn2:n<=2):Calls prog 126 #[.pointer (some ⟨t,0,none⟩),.int .i32 r,.int .i64 n] w (A7 Z w t (Z7 T r n)):=by
 obtain⟨P,h⟩:=h
 cases h0:T.m.a0 with
 |true=>exact Csr h ok hj hpr r n hn2 h0 _ rfl
 |false=>exact Css h ok hj hpr r n hn2 h0 _ rfl
theorem Bto(T:Ter)(r:Int)(n:Nat):(Aa0 T r n).length=(line T).length:=by
 unfold Aa0
 rw[Bba]
 split
 ·exact Avr _ _ _ _
 ·rfl
end
