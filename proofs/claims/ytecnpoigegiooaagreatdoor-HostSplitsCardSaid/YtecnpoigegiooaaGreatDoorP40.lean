/- Part 40 of HostSplits. -/
import Derived.Test.YtecnpoigegiooaaGreatDoorP39
set_option maxHeartbeats 16000000
set_option maxRecDepth 100000
namespace Go.Proofs.YtecnpoigegiooaaGreatDoor.Emu
open Go RowKit Com Rw Lns Scn
theorem Ay9 (r:Int):Cht.widthF r=0\/Cht.widthF r=1\/Cht.widthF r=2:=by
 cases hm:Cht.mayF r with
 |false=>exact .inl (Cht.width_no hm)
 |true =>
  cases h1:Cht.anyIn Cht.controls r with
  |true=>exact .inl (Cht.width_control h1)
  |false =>
   cases h2:Cht.anyIn Cht.marks r with
   |true=>exact .inl (Cht.width_mark h2)
   |false =>
    cases h3:Cht.anyIn Cht.wides r with
    |true=>exact .inr (.inr (Cht.width_wide hm h3))
    |false=>exact .inr (.inl (Cht.width_else hm h1 h2 h3))
section
variable {Z Z1:Zn}{w w':World}{t x s d b:Nat}{S:Scr}{T:Ter}{P:Pt}{v:Value}{l:List Int}{pa ia ta:Option Addr}{pn pc im ic tn tc:Nat}{k r pr f:Int}
theorem Bk2 (T:Ter) (n:Nat):(makeWay T n).jr.length<=T.jr.length+1:=by
 unfold makeWay
 split
 ·show ((feed (setCol T 0)).jr++[_]).length<=_
  rw[Az5,List.length_append]
  exact J5 _
 ·split
  ·exact Nat.le_succ _
  ·exact Nat.le_succ _
theorem feed_prints (T:Ter):(feed T).prints=T.prints:=by
 unfold feed
 split
 ·show (T.putVis _).prints=_
  exact Ak4 _ _
 ·rfl
theorem As8 (T:Ter) (n:Nat):(makeWay T n).prints=T.prints:=by
 unfold makeWay
 split
 ·show (feed (setCol T 0)).prints=_
  rw[feed_prints]
  rfl
 ·split<;>rfl
theorem Cl3 (h:TMx Z w t T P) (ok:Ok T) (hj:T.jr.length<=89000000) (hpr:T.prints<=9990000000) {g:Int} (hor:(T.p.wh=false/\g=T.p.g0)\/(T.p.wh=true/\g=T.p.g1)) (h0:Cht.widthF (Cht.charsetF g r)=0):Calls Tryz.prog 90 #[.pointer (some ⟨t,0,none⟩),.agg #[.int .u8 k,.int .i32 r,.int .i32 pr,.slice pa pn pc,.slice ia im ic,.int .i32 f,.slice ta tn tc]] w (Does Z w t (Bc5 T (Cht.charsetF g r))):=by
 rcases hor with ⟨hwh,hgq⟩|⟨hwh,hgq⟩
 all_goals
  have hbn:=Aa1 w (.cells #[.int .u8 k,.int .i32 r,.int .i32 pr,.slice pa pn pc,.slice ia im ic,.int .i32 f,.slice ta tn tc] 151)
  have hbx:=Block.made w 151 #[.int .u8 k,.int .i32 r,.int .i32 pr,.slice pa pn pc,.slice ia im ic,.int .i32 f,.slice ta tn tc]
  have c16:=fun k:Eqt.Ext (w.alloc (.cells #[.int .u8 k,.int .i32 r,.int .i32 pr,.slice pa pn pc,.slice ia im ic,.int .i32 f,.slice ta tn tc] 151))=>((h.below hbn).below k.below).c16
 case' _ =>
  have cg:=fun k:Eqt.Ext (w.alloc (.cells #[.int .u8 k,.int .i32 r,.int .i32 pr,.slice pa pn pc,.slice ia im ic,.int .i32 f,.slice ta tn tc] 151))=>((h.below hbn).below k.below).c14
 rotate_left
 case' _ =>
  have cg:=fun k:Eqt.Ext (w.alloc (.cells #[.int .u8 k,.int .i32 r,.int .i32 pr,.slice pa pn pc,.slice ia im ic,.int .i32 f,.slice ta tn tc] 151))=>((h.below hbn).below k.below).c15
 rotate_left
 all_goals
  simp only[<- hgq] at cg
  clear hgq
  have x1:=fun k:Eqt.Ext (w.alloc (.cells #[.int .u8 k,.int .i32 r,.int .i32 pr,.slice pa pn pc,.slice ia im ic,.int .i32 f,.slice ta tn tc] 151))=>(Block.only hbx (Only.of_below k.below []) (by simp)).cell 1 (v:=.int .i32 r) rfl
  have hch:=J0 (fun k:Eqt.Ext (w.alloc (.cells #[.int .u8 k,.int .i32 r,.int .i32 pr,.slice pa pn pc,.slice ia im ic,.int .i32 f,.slice ta tn tc] 151))=>Cht.charset_any g r k.w (((h.below hbn).below k.below).tbl.cht))
  have hwi:=J0 (fun w1 (hb:Below w.heap.size w w1)=>Cht.width_any (Cht.charsetF g r) w1 ((h.below hb).tbl.cht))
  rw[hwh] at c16
 case' _ =>
  simp only[whI,Bool.false_eq_true,if_false] at c16
 rotate_left
 case' _ =>
  simp only[whI,if_true] at c16
 rotate_left
 all_goals
  have hjo:=J0 (fun w1 (hb:Below w.heap.size w w1)=>join_any (h.below hb).tm ok (by omega) (by omega) (Cht.charsetF g r))
  rw[h0] at hwi
  generalize Bc5 T (Cht.charsetF g r)=T2 at hjo |-
  generalize Cht.charsetF g r=cr at *
  clear h ok hj hpr hbx hwh h0
  go_enter Tryz.func90,Tryz.ntmps90
  go_wp2
  generalize w.alloc (.cells #[.int .u8 k,.int .i32 r,.int .i32 pr,.slice pa pn pc,.slice ia im ic,.int .i32 f,.slice ta tn tc] 151)=w0 at c16 cg x1 hch hbn |-
  refine Eqt.region_ext (by kernel_rfl) (by kernel_rfl) ?_
  repeat (go_big_quiet_step (first
   |(go_at_call 121;exact Eqt.q_ext_same (hch.out _))))
  refine wpQuiet_nil ?_
  intro w9 hw9
  obtain⟨k9,rfl⟩:=hw9
  have hb9:=k9.below
  generalize k9.w=w9 at hb9 |-
  have hb:=Aa0 hbn hb9
  go_wp2_with (first
   |(go_at_call 122;(with_reducible refine(hwi.out _ hb).mono ?_);rintro e w1 ⟨rfl,rfl⟩)
   |(go_at_call 123;(with_reducible refine(hjo.out _ hb).mono ?_);rintro e w2 ⟨⟨v2,rfl⟩,h2,hf2⟩))
  go_end0
  exact⟨⟨_,rfl⟩,h2,(Aa9 hb).trans hf2⟩
theorem Cl4 (h:TMx Z w t T P) (ok:Ok T) (hj:T.jr.length<=89000000) (hpr:T.prints<=9990000000) (hnx:T.nx<=9900000000) {g:Int} (hor:(T.p.wh=false/\g=T.p.g0)\/(T.p.wh=true/\g=T.p.g1)) (h0:Cht.widthF (Cht.charsetF g r)≠0) (h1:¬(T.vis.cols:Int)<Cht.widthF (Cht.charsetF g r)):Calls Tryz.prog 90 #[.pointer (some ⟨t,0,none⟩),.agg #[.int .u8 k,.int .i32 r,.int .i32 pr,.slice pa pn pc,.slice ia im ic,.int .i32 f,.slice ta tn tc]] w (Does Z w t (putT (makeWay T (Cht.widthF (Cht.charsetF g r)).toNat) (Cht.charsetF g r) (Cht.widthF (Cht.charsetF g r)).toNat)):=by
 rcases hor with ⟨hwh,hgq⟩|⟨hwh,hgq⟩
 all_goals
  have hbn:=Aa1 w (.cells #[.int .u8 k,.int .i32 r,.int .i32 pr,.slice pa pn pc,.slice ia im ic,.int .i32 f,.slice ta tn tc] 151)
  have hbx:=Block.made w 151 #[.int .u8 k,.int .i32 r,.int .i32 pr,.slice pa pn pc,.slice ia im ic,.int .i32 f,.slice ta tn tc]
  have c16:=fun k:Eqt.Ext (w.alloc (.cells #[.int .u8 k,.int .i32 r,.int .i32 pr,.slice pa pn pc,.slice ia im ic,.int .i32 f,.slice ta tn tc] 151))=>((h.below hbn).below k.below).c16
 case' _ =>
  have cg:=fun k:Eqt.Ext (w.alloc (.cells #[.int .u8 k,.int .i32 r,.int .i32 pr,.slice pa pn pc,.slice ia im ic,.int .i32 f,.slice ta tn tc] 151))=>((h.below hbn).below k.below).c14
 rotate_left
 case' _ =>
  have cg:=fun k:Eqt.Ext (w.alloc (.cells #[.int .u8 k,.int .i32 r,.int .i32 pr,.slice pa pn pc,.slice ia im ic,.int .i32 f,.slice ta tn tc] 151))=>((h.below hbn).below k.below).c15
 rotate_left
 all_goals
  simp only[<- hgq] at cg
  clear hgq
  have x1:=fun k:Eqt.Ext (w.alloc (.cells #[.int .u8 k,.int .i32 r,.int .i32 pr,.slice pa pn pc,.slice ia im ic,.int .i32 f,.slice ta tn tc] 151))=>(Block.only hbx (Only.of_below k.below []) (by simp)).cell 1 (v:=.int .i32 r) rfl
  have hch:=J0 (fun k:Eqt.Ext (w.alloc (.cells #[.int .u8 k,.int .i32 r,.int .i32 pr,.slice pa pn pc,.slice ia im ic,.int .i32 f,.slice ta tn tc] 151))=>Cht.charset_any g r k.w (((h.below hbn).below k.below).tbl.cht))
  have hwi:=J0 (fun w1 (hb:Below w.heap.size w w1)=>Cht.width_any (Cht.charsetF g r) w1 ((h.below hb).tbl.cht))
  rw[hwh] at c16
 case' _ =>
  simp only[whI,Bool.false_eq_true,if_false] at c16
 rotate_left
 case' _ =>
  simp only[whI,if_true] at c16
 rotate_left
 all_goals
  obtain⟨Z1,hf⟩:=h.focus
  have hsh:=J0 (fun w1 (hb:Below w.heap.size w w1)=>And.intro (h.below hb).s0 (And.intro (Aa8 (h.below hb)) (Ai2 (hf.sc.below hb) ok.fit.len)))
  obtain⟨n,hn⟩:∃n:Nat,Cht.widthF (Cht.charsetF g r)=(n:Int):=⟨(Cht.widthF (Cht.charsetF g r)).toNat,by have:=Ay9 (Cht.charsetF g r);omega⟩
  have hn2:n<=2:=by have:=Ay9 (Cht.charsetF g r);omega
  rw[hn] at hwi h0 h1
  have hn0:((n:Int) == 0)=false:=by simpa using h0
  have he0:decide ((n:Int)=0)=false:=decide_eq_false h0
  have hne:¬n=0:=by omega
  have he2:decide (n=0)=false:=decide_eq_false hne
  have hj1:∀m,(makeWay T m).jr.length<=90000000:=fun m=>by have:=Bk2 T m;omega
  have hp1:∀m,(makeWay T m).prints<=10000000000:=fun m=>by rw[As8];omega
  rw[hn,Int.toNat_natCast]
  have hd1:decide ((T.vis.cols:Int)<(n:Int))=false:=decide_eq_false h1
  have hd2:decide (T.vis.cols<n)=false:=decide_eq_false (by omega)
  have hd3:¬T.vis.cols<n:=by omega
  have hmk:=J0 (fun w1 (hb:Below w.heap.size w w1)=>Bg4 (h.below hb).tm ok (by omega) hnx n hn2 (by omega))
  have hpu:=J0 (fun w2 (h2:TM Z w2 t (makeWay T n))=>put_any h2 (ok.makeWay n) (hj1 n) (hp1 n) (Cht.charsetF g r) n hn2)
  generalize putT (makeWay T n) (Cht.charsetF g r) n=T2 at hpu |-
  generalize makeWay T n=T1 at hmk hpu
  generalize T.vis.cols=cols at *
  generalize P.h T.other=hh at hsh
  generalize P.x T.other=xx at hsh
  generalize Cht.charsetF g r=cr at *
  clear h ok hj hpr hbx hwh hnx hf h0 h1 hn hj1 hp1
  go_enter Tryz.func90,Tryz.ntmps90
  go_wp2
  generalize w.alloc (.cells #[.int .u8 k,.int .i32 r,.int .i32 pr,.slice pa pn pc,.slice ia im ic,.int .i32 f,.slice ta tn tc] 151)=w0 at c16 cg x1 hch hbn |-
  refine Eqt.region_ext (by kernel_rfl) (by kernel_rfl) ?_
  repeat (go_big_quiet_step (first
   |(go_at_call 121;exact Eqt.q_ext_same (hch.out _))))
  refine wpQuiet_nil ?_
  intro w9 hw9
  obtain⟨k9,rfl⟩:=hw9
  have hb9:=k9.below
  generalize k9.w=w9 at hb9 |-
  have hb:=Aa0 hbn hb9
  obtain⟨s0,hs1,hs2⟩:=hsh.out _ hb
  replace hs1:=J0 hs1
  replace hs2:=J0 hs2
  go_wp2_with (first
   |(go_at_call 122;(with_reducible refine(hwi.out _ hb).mono ?_);rintro e w1 ⟨rfl,rfl⟩)
   |(go_at_call 68;(with_reducible refine(hs1.out).mono ?_);rintro e w1 ⟨rfl,rfl⟩)
   |(go_at_call 124;(with_reducible refine(hs2.out).mono ?_);rintro e w1 ⟨rfl,rfl⟩)
   |(go_at_call 125;(with_reducible refine(hmk.out _ hb).mono ?_);rintro e w2 ⟨⟨v2,rfl⟩,h2,hf2⟩)
   |(go_at_call 126;(with_reducible refine(hpu.out _ h2).mono ?_);rintro e w3 ⟨⟨v3,rfl⟩,h3,hf3⟩))
  go_end0
  exact⟨⟨_,rfl⟩,h3,((Aa9 hb).trans hf2).trans hf3⟩
theorem Cl2 (h:TMx Z w t T P) (ok:Ok T) (hj:T.jr.length<=89000000) (hpr:T.prints<=9990000000) (hnx:T.nx<=9900000000) {g:Int} (hor:(T.p.wh=false/\g=T.p.g0)\/(T.p.wh=true/\g=T.p.g1)) (h0:Cht.widthF (Cht.charsetF g r)≠0) (h1:(T.vis.cols:Int)<Cht.widthF (Cht.charsetF g r)):Calls Tryz.prog 90 #[.pointer (some ⟨t,0,none⟩),.agg #[.int .u8 k,.int .i32 r,.int .i32 pr,.slice pa pn pc,.slice ia im ic,.int .i32 f,.slice ta tn tc]] w (Does Z w t (putT (makeWay T 1) 65533 1)):=by
 rcases hor with ⟨hwh,hgq⟩|⟨hwh,hgq⟩
 all_goals
  have hbn:=Aa1 w (.cells #[.int .u8 k,.int .i32 r,.int .i32 pr,.slice pa pn pc,.slice ia im ic,.int .i32 f,.slice ta tn tc] 151)
  have hbx:=Block.made w 151 #[.int .u8 k,.int .i32 r,.int .i32 pr,.slice pa pn pc,.slice ia im ic,.int .i32 f,.slice ta tn tc]
  have c16:=fun k:Eqt.Ext (w.alloc (.cells #[.int .u8 k,.int .i32 r,.int .i32 pr,.slice pa pn pc,.slice ia im ic,.int .i32 f,.slice ta tn tc] 151))=>((h.below hbn).below k.below).c16
 case' _ =>
  have cg:=fun k:Eqt.Ext (w.alloc (.cells #[.int .u8 k,.int .i32 r,.int .i32 pr,.slice pa pn pc,.slice ia im ic,.int .i32 f,.slice ta tn tc] 151))=>((h.below hbn).below k.below).c14
 rotate_left
 case' _ =>
  have cg:=fun k:Eqt.Ext (w.alloc (.cells #[.int .u8 k,.int .i32 r,.int .i32 pr,.slice pa pn pc,.slice ia im ic,.int .i32 f,.slice ta tn tc] 151))=>((h.below hbn).below k.below).c15
 rotate_left
 all_goals
  simp only[<- hgq] at cg
  clear hgq
  have x1:=fun k:Eqt.Ext (w.alloc (.cells #[.int .u8 k,.int .i32 r,.int .i32 pr,.slice pa pn pc,.slice ia im ic,.int .i32 f,.slice ta tn tc] 151))=>(Block.only hbx (Only.of_below k.below []) (by simp)).cell 1 (v:=.int .i32 r) rfl
  have hch:=J0 (fun k:Eqt.Ext (w.alloc (.cells #[.int .u8 k,.int .i32 r,.int .i32 pr,.slice pa pn pc,.slice ia im ic,.int .i32 f,.slice ta tn tc] 151))=>Cht.charset_any g r k.w (((h.below hbn).below k.below).tbl.cht))
  have hwi:=J0 (fun w1 (hb:Below w.heap.size w w1)=>Cht.width_any (Cht.charsetF g r) w1 ((h.below hb).tbl.cht))
  rw[hwh] at c16
 case' _ =>
  simp only[whI,Bool.false_eq_true,if_false] at c16
 rotate_left
 case' _ =>
  simp only[whI,if_true] at c16
 rotate_left
 all_goals
  obtain⟨Z1,hf⟩:=h.focus
  have hsh:=J0 (fun w1 (hb:Below w.heap.size w w1)=>And.intro (h.below hb).s0 (And.intro (Aa8 (h.below hb)) (Ai2 (hf.sc.below hb) ok.fit.len)))
  obtain⟨n,hn⟩:∃n:Nat,Cht.widthF (Cht.charsetF g r)=(n:Int):=⟨(Cht.widthF (Cht.charsetF g r)).toNat,by have:=Ay9 (Cht.charsetF g r);omega⟩
  have hn2:n<=2:=by have:=Ay9 (Cht.charsetF g r);omega
  rw[hn] at hwi h0 h1
  have hn0:((n:Int) == 0)=false:=by simpa using h0
  have he0:decide ((n:Int)=0)=false:=decide_eq_false h0
  have hne:¬n=0:=by omega
  have he2:decide (n=0)=false:=decide_eq_false hne
  have hj1:∀m,(makeWay T m).jr.length<=90000000:=fun m=>by have:=Bk2 T m;omega
  have hp1:∀m,(makeWay T m).prints<=10000000000:=fun m=>by rw[As8];omega
  have hd1:decide ((T.vis.cols:Int)<(n:Int))=true:=decide_eq_true h1
  have hd2:decide (T.vis.cols<n)=true:=decide_eq_true (by omega)
  have hd3:T.vis.cols<n:=by omega
  have hmk:Hid (∀w1,Below w.heap.size w w1->Calls Tryz.prog 125 #[.pointer (some ⟨t,0,none⟩),.int .i64 1] w1 (Does Z w1 t (makeWay T 1))):=J0 (fun w1 hb=>Bg4 (h.below hb).tm ok (by omega) hnx 1 (by omega) ok.fit.c1)
  have hpu:Hid (∀w2,TM Z w2 t (makeWay T 1)->Calls Tryz.prog 126 #[.pointer (some ⟨t,0,none⟩),.int .i32 65533,.int .i64 1] w2 (Does Z w2 t (putT (makeWay T 1) 65533 1))):=J0 (fun w2 h2=>put_any h2 (ok.makeWay 1) (hj1 1) (hp1 1) 65533 1 (by omega))
  generalize putT (makeWay T 1) 65533 1=T2 at hpu |-
  generalize makeWay T 1=T1 at hmk hpu
  generalize T.vis.cols=cols at *
  generalize P.h T.other=hh at hsh
  generalize P.x T.other=xx at hsh
  generalize Cht.charsetF g r=cr at *
  clear h ok hj hpr hbx hwh hnx hf h0 h1 hn hj1 hp1
  go_enter Tryz.func90,Tryz.ntmps90
  go_wp2
  generalize w.alloc (.cells #[.int .u8 k,.int .i32 r,.int .i32 pr,.slice pa pn pc,.slice ia im ic,.int .i32 f,.slice ta tn tc] 151)=w0 at c16 cg x1 hch hbn |-
  refine Eqt.region_ext (by kernel_rfl) (by kernel_rfl) ?_
  repeat (go_big_quiet_step (first
   |(go_at_call 121;exact Eqt.q_ext_same (hch.out _))))
  refine wpQuiet_nil ?_
  intro w9 hw9
  obtain⟨k9,rfl⟩:=hw9
  have hb9:=k9.below
  generalize k9.w=w9 at hb9 |-
  have hb:=Aa0 hbn hb9
  obtain⟨s0,hs1,hs2⟩:=hsh.out _ hb
  replace hs1:=J0 hs1
  replace hs2:=J0 hs2
  go_wp2_with (first
   |(go_at_call 122;(with_reducible refine(hwi.out _ hb).mono ?_);rintro e w1 ⟨rfl,rfl⟩)
   |(go_at_call 68;(with_reducible refine(hs1.out).mono ?_);rintro e w1 ⟨rfl,rfl⟩)
   |(go_at_call 124;(with_reducible refine(hs2.out).mono ?_);rintro e w1 ⟨rfl,rfl⟩)
   |(go_at_call 125;(with_reducible refine(hmk.out _ hb).mono ?_);rintro e w2 ⟨⟨v2,rfl⟩,h2,hf2⟩)
   |(go_at_call 126;(with_reducible refine(hpu.out _ h2).mono ?_);rintro e w3 ⟨⟨v3,rfl⟩,h3,hf3⟩))
  go_end0
  exact⟨⟨_,rfl⟩,h3,((Aa9 hb).trans hf2).trans hf3⟩
theorem print_any (h:TM Z w t T) (ok:Ok T) (hj:T.jr.length<=89000000) (hpr:T.prints<=9990000000) (hnx:T.nx<=9900000000):Calls Tryz.prog 90 #[.pointer (some ⟨t,0,none⟩),.agg #[.int .u8 k,.int .i32 r,.int .i32 pr,.slice pa pn pc,.slice ia im ic,.int .i32 f,.slice ta tn tc]] w (Does Z w t (Bb9 T r)):=by
 obtain⟨P,h⟩:=h
 unfold Bb9
 cases hwh:T.p.wh with
 |false =>
  simp only[Bool.false_eq_true,if_false]
  split
  ·exact Cl3 h ok hj hpr (.inl ⟨hwh,rfl⟩) (by assumption)
  ·split
   ·exact Cl2 h ok hj hpr hnx (.inl ⟨hwh,rfl⟩) (by assumption) (by assumption)
   ·exact Cl4 h ok hj hpr hnx (.inl ⟨hwh,rfl⟩) (by assumption) (by assumption)
 |true =>
  simp only[if_true]
  split
  ·exact Cl3 h ok hj hpr (.inr ⟨hwh,rfl⟩) (by assumption)
  ·split
   ·exact Cl2 h ok hj hpr hnx (.inr ⟨hwh,rfl⟩) (by assumption) (by assumption)
   ·exact Cl4 h ok hj hpr hnx (.inr ⟨hwh,rfl⟩) (by assumption) (by assumption)
end
section
variable {Z Z1:Zn}{w w':World}{t x s d b:Nat}{S:Scr}{T:Ter}{P:Pt}{v:Value}{l:List Int}{pa ia ta:Option Addr}{pn pc im ic tn tc:Nat}{k r pr f:Int}
theorem Cj8 (f:FuncId) (w:World):(binOp .neq 207 (.func (.func f) #[] #[]) .nilFunc).run Tryz.prog w=.ok (.bool true) w:=by kernel_rfl
theorem Cb1 (w:World):(binOp .neq 207 .nilFunc .nilFunc).run Tryz.prog w=.ok (.bool false) w:=by kernel_rfl
def ctlL:List Ent:=[(8,.func (.func 127) #[] #[]),(9,.func (.func 128) #[] #[]),(10,.func (.func 129) #[] #[]),(11,.func (.func 129) #[] #[]),(12,.func (.func 129) #[] #[]),(13,.func (.func 130) #[] #[]),(14,.func (.func 131) #[] #[]),(15,.func (.func 132) #[] #[]),(132,.func (.func 133) #[] #[]),(133,.func (.func 134) #[] #[]),(136,.func (.func 135) #[] #[]),(141,.func (.func 136) #[] #[])]
theorem ctlL_none {n:Int} (h0:n≠8) (h1:n≠9) (h2:n≠10) (h3:n≠11) (h4:n≠12) (h5:n≠13) (h6:n≠14) (h7:n≠15) (h8:n≠132) (h9:n≠133) (h10:n≠136) (h11:n≠141):findM ctlL n=none:=by
 simp[ctlL,findM,h0,h1,h2,h3,h4,h5,h6,h7,h8,h9,h10,h11]
theorem control_go (h:TM Z w t T) (ok:Ok T) (hj:T.jr.length<=90000000) (hnx:T.nx<=9900000000) (hwf:(Lit.int .i32 r).wf=true):Calls Tryz.prog 91 #[.pointer (some ⟨t,0,none⟩),.agg #[.int .u8 k,.int .i32 r,.int .i32 pr,.slice pa pn pc,.slice ia im ic,.int .i32 f,.slice ta tn tc]] w (Does Z w t (control T r)):=by
 have hbn:=Aa1 w (.cells #[.int .u8 k,.int .i32 r,.int .i32 pr,.slice pa pn pc,.slice ia im ic,.int .i32 f,.slice ta tn tc] 151)
 have hbx:=Block.made w 151 #[.int .u8 k,.int .i32 r,.int .i32 pr,.slice pa pn pc,.slice ia im ic,.int .i32 f,.slice ta tn tc]
 have hmm:=@run_makeMap Tryz.prog
 have hneq:=Cj8
 have hneqn:=Cb1
 go_enter Tryz.func91,Tryz.ntmps91
 go_upto_region 1 with (fail)
 generalize w.alloc (.cells #[.int .u8 k,.int .i32 r,.int .i32 pr,.slice pa pn pc,.slice ia im ic,.int .i32 f,.slice ta tn tc] 151)=w0 at hbn hbx |-
 have hmp:=MpN.made w0 .i32
 have hbm:=Aa1 w0 (.map #[] 0)
 have hsz:(w0.alloc (.map #[] 0)).heap.size=w0.heap.size+1:=by simp
 go_upto_region 2 with (refine Am6 Co9 hmp ?_ ?_ ?_;rfl;decide;clear hmp;intro wn hmp hon;replace hbm:=hbm.trans (hon.below hbm.size (by simp));clear hon)
 change MpN _ _ _ ctlL at hmp
 clear hsz
 have xk:=(Block.only hbx (Only.of_below hbm []) (by simp)).cell 1 (v:=.int .i32 r) rfl
 have hlk0:=(Bt5 Co9 hmp r hwf).1
 have hb:=Aa0 hbn hbm
 have hT:=h.below hb
 have hf0:Scn.Fr Z TT w wn:=Scn.Fr.of_below hb
 clear hmp hbm hbn hbx hmm h hb
 have hd:(∃F,findM ctlL r=some (.func (.func F) #[] #[])/\(∀a w,(callFunc F a).run Tryz.prog w=.ok (.enter F a) w)/\Calls Tryz.prog F #[.pointer (some ⟨t,0,none⟩)] wn (Does Z wn t (control T r)))\/(findM ctlL r=none/\control T r=T):=by
  by_cases e0:r=8
  ·subst e0;exact .inl ⟨_,rfl,enters_of Tryz.func127 (by kernel_rfl) rfl,(show (stepBack T)=control T 8 by simp[control])▸stepBack_any hT ok hj⟩
  by_cases e1:r=9
  ·subst e1;exact .inl ⟨_,rfl,enters_of Tryz.func128 (by kernel_rfl) rfl,(show (nextTab T)=control T 9 by simp[control])▸nextTab_any hT ok hj⟩
  by_cases e2:r=10
  ·subst e2;exact .inl ⟨_,rfl,enters_of Tryz.func129 (by kernel_rfl) rfl,(show (newLine T)=control T 10 by simp[control])▸At6 hT ok hj hnx⟩
  by_cases e3:r=11
  ·subst e3;exact .inl ⟨_,rfl,enters_of Tryz.func129 (by kernel_rfl) rfl,(show (newLine T)=control T 11 by simp[control])▸At6 hT ok hj hnx⟩
  by_cases e4:r=12
  ·subst e4;exact .inl ⟨_,rfl,enters_of Tryz.func129 (by kernel_rfl) rfl,(show (newLine T)=control T 12 by simp[control])▸At6 hT ok hj hnx⟩
  by_cases e5:r=13
  ·subst e5;exact .inl ⟨_,rfl,enters_of Tryz.func130 (by kernel_rfl) rfl,(show (lineBegin T)=control T 13 by simp[control])▸lineBegin_any hT ok hj⟩
  by_cases e6:r=14
  ·subst e6;exact .inl ⟨_,rfl,enters_of Tryz.func131 (by kernel_rfl) rfl,(show (setWh T true)=control T 14 by simp[control])▸secondSet_any hT ⟩
  by_cases e7:r=15
  ·subst e7;exact .inl ⟨_,rfl,enters_of Tryz.func132 (by kernel_rfl) rfl,(show (setWh T false)=control T 15 by simp[control])▸firstSet_any hT ⟩
  by_cases e8:r=132
  ·subst e8;exact .inl ⟨_,rfl,enters_of Tryz.func133 (by kernel_rfl) rfl,(show (rowDown T)=control T 132 by simp[control])▸Au1 hT ok hj hnx⟩
  by_cases e9:r=133
  ·subst e9;exact .inl ⟨_,rfl,enters_of Tryz.func134 (by kernel_rfl) rfl,(show (nextLine T)=control T 133 by simp[control])▸Bb7 hT ok hj hnx⟩
  by_cases e10:r=136
  ·subst e10;exact .inl ⟨_,rfl,enters_of Tryz.func135 (by kernel_rfl) rfl,(show (setTab T)=control T 136 by simp[control])▸Bk9 hT ok⟩
  by_cases e11:r=141
  ·subst e11;exact .inl ⟨_,rfl,enters_of Tryz.func136 (by kernel_rfl) rfl,(show (rowUp T)=control T 141 by simp[control])▸Bv1 hT ok hj hnx⟩
  exact .inr ⟨ctlL_none e0 e1 e2 e3 e4 e5 e6 e7 e8 e9 e10 e11,by simp[control,e0,e1,e2,e3,e4,e5,e6,e7,e8,e9,e10,e11]⟩
 rcases hd with ⟨F,hF,hE,hc⟩|⟨hF,he⟩
 ·rw[hF] at hlk0
  have hlk:(Instr.lookup 208 (.map (some w0.heap.size)) (.int .i32 r) false).run Tryz.prog wn=.ok (.func (.func F) #[] #[]) wn:=hlk0
  replace hc:=J0 hc
  clear hT ok hj hnx hlk0 hF
  go_wp2_with ((with_reducible refine(hc.out).mono ?_);rintro e w3 ⟨⟨v3,rfl⟩,h3,hf3⟩)
  go_end0
  exact⟨⟨_,rfl⟩,h3,hf0.trans hf3⟩
 ·rw[hF] at hlk0
  have hlk:(Instr.lookup 208 (.map (some w0.heap.size)) (.int .i32 r) false).run Tryz.prog wn=.ok .nilFunc wn:=hlk0
  clear ok hj hnx hlk0 hF
  go_wp2
  go_end0
  exact⟨⟨_,rfl⟩,(by rw[he];exact hT),hf0⟩
end
section
variable {Z Z1:Zn}{w w':World}{t x s d b:Nat}{S:Scr}{T:Ter}{P:Pt}{v:Value}{l:List Int}{pa ia ta:Option Addr}{pn pc im ic tn tc:Nat}{k r pr f:Int}
def escL:List Ent:=[(55,.func (.func 138) #[] #[]),(56,.func (.func 139) #[] #[]),(68,.func (.func 133) #[] #[]),(69,.func (.func 134) #[] #[]),(72,.func (.func 135) #[] #[]),(77,.func (.func 136) #[] #[]),(99,.func (.func 140) #[] #[])]
theorem escL_none {n:Int} (h0:n≠55) (h1:n≠56) (h2:n≠68) (h3:n≠69) (h4:n≠72) (h5:n≠77) (h6:n≠99):findM escL n=none:=by
 simp[escL,findM,h0,h1,h2,h3,h4,h5,h6]
def escF (T:Ter) (f:Int):Ter:=if f=55 then save T else if f=56 then restore T else if f=68 then rowDown T else if f=69 then nextLine T else if f=72 then setTab T else if f=77 then rowUp T else if f=99 then reset T else T
theorem escape_go (h:TM Z w t T) (ok:Ok T) (hj:T.jr.length<=90000000) (hnx:T.nx<=9900000000) (hwf:(Lit.int .i32 f).wf=true):Calls Tryz.prog 92 #[.pointer (some ⟨t,0,none⟩),.agg #[.int .u8 k,.int .i32 r,.int .i32 pr,.slice pa pn pc,.slice ia 0 ic,.int .i32 f,.slice ta tn tc]] w (Does Z w t (escF T f)):=by
 have hbn:=Aa1 w (.cells #[.int .u8 k,.int .i32 r,.int .i32 pr,.slice pa pn pc,.slice ia 0 ic,.int .i32 f,.slice ta tn tc] 151)
 have hbx:=Block.made w 151 #[.int .u8 k,.int .i32 r,.int .i32 pr,.slice pa pn pc,.slice ia 0 ic,.int .i32 f,.slice ta tn tc]
 have hmm:=@run_makeMap Tryz.prog
 have hneq:=Cj8
 have hneqn:=Cb1
 go_enter Tryz.func92,Tryz.ntmps92
 go_upto_region 1 with (fail)
 generalize w.alloc (.cells #[.int .u8 k,.int .i32 r,.int .i32 pr,.slice pa pn pc,.slice ia 0 ic,.int .i32 f,.slice ta tn tc] 151)=w0 at hbn hbx |-
 have x4:=hbx.cell 4 (v:=.slice ia 0 ic) rfl
 have hmp:=MpN.made w0 .i32
 have hbm:=Aa1 w0 (.map #[] 0)
 have hsz:(w0.alloc (.map #[] 0)).heap.size=w0.heap.size+1:=by simp
 go_upto_region 4 with (refine Am6 Co9 hmp ?_ ?_ ?_;rfl;decide;clear hmp;intro wn hmp hon;replace hbm:=hbm.trans (hon.below hbm.size (by simp));clear hon)
 change MpN _ _ _ escL at hmp
 clear hsz
 have xk:=(Block.only hbx (Only.of_below hbm []) (by simp)).cell 5 (v:=.int .i32 f) rfl
 have hlk0:=(Bt5 Co9 hmp f hwf).1
 have hb:=Aa0 hbn hbm
 have hT:=h.below hb
 have hf0:Scn.Fr Z TT w wn:=Scn.Fr.of_below hb
 clear hmp hbm hbn hbx hmm h hb
 have hd:(∃F,findM escL f=some (.func (.func F) #[] #[])/\(∀a w,(callFunc F a).run Tryz.prog w=.ok (.enter F a) w)/\Calls Tryz.prog F #[.pointer (some ⟨t,0,none⟩)] wn (Does Z wn t (escF T f)))\/(findM escL f=none/\escF T f=T):=by
  by_cases e0:f=55
  ·subst e0;exact .inl ⟨_,rfl,enters_of Tryz.func138 (by kernel_rfl) rfl,(show (save T)=escF T 55 by simp[escF])▸Bp6 hT ⟩
  by_cases e1:f=56
  ·subst e1;exact .inl ⟨_,rfl,enters_of Tryz.func139 (by kernel_rfl) rfl,(show (restore T)=escF T 56 by simp[escF])▸Au0 hT ok hj⟩
  by_cases e2:f=68
  ·subst e2;exact .inl ⟨_,rfl,enters_of Tryz.func133 (by kernel_rfl) rfl,(show (rowDown T)=escF T 68 by simp[escF])▸Au1 hT ok hj hnx⟩
  by_cases e3:f=69
  ·subst e3;exact .inl ⟨_,rfl,enters_of Tryz.func134 (by kernel_rfl) rfl,(show (nextLine T)=escF T 69 by simp[escF])▸Bb7 hT ok hj hnx⟩
  by_cases e4:f=72
  ·subst e4;exact .inl ⟨_,rfl,enters_of Tryz.func135 (by kernel_rfl) rfl,(show (setTab T)=escF T 72 by simp[escF])▸Bk9 hT ok⟩
  by_cases e5:f=77
  ·subst e5;exact .inl ⟨_,rfl,enters_of Tryz.func136 (by kernel_rfl) rfl,(show (rowUp T)=escF T 77 by simp[escF])▸Bv1 hT ok hj hnx⟩
  by_cases e6:f=99
  ·subst e6;exact .inl ⟨_,rfl,enters_of Tryz.func140 (by kernel_rfl) rfl,(show (reset T)=escF T 99 by simp[escF])▸reset_any hT ok hj hnx⟩
  exact .inr ⟨escL_none e0 e1 e2 e3 e4 e5 e6,by simp[escF,e0,e1,e2,e3,e4,e5,e6]⟩
 rcases hd with ⟨F,hF,hE,hc⟩|⟨hF,he⟩
 ·rw[hF] at hlk0
  have hlk:(Instr.lookup 208 (.map (some w0.heap.size)) (.int .i32 f) false).run Tryz.prog wn=.ok (.func (.func F) #[] #[]) wn:=hlk0
  replace hc:=J0 hc
  clear hT ok hlk0 hF
  go_wp2_with ((with_reducible refine(hc.out).mono ?_);rintro e w3 ⟨⟨v3,rfl⟩,h3,hf3⟩)
  go_end0
  exact⟨⟨_,rfl⟩,h3,hf0.trans hf3⟩
 ·rw[hF] at hlk0
  have hlk:(Instr.lookup 208 (.map (some w0.heap.size)) (.int .i32 f) false).run Tryz.prog wn=.ok .nilFunc wn:=hlk0
  clear ok hlk0 hF
  go_wp2
  go_end0
  exact⟨⟨_,rfl⟩,(by rw[he];exact hT),hf0⟩
end
section
variable {Z Z1:Zn}{w w':World}{t x s d b:Nat}{S:Scr}{T:Ter}{P:Pt}{v:Value}{l:List Int}{pa ia ta:Option Addr}{pn pc im ic tn tc:Nat}{k r pr f:Int}
theorem Cj7 (f:FuncId) (w:World):(binOp .neq 211 (.func (.func f) #[] #[]) .nilFunc).run Tryz.prog w=.ok (.bool true) w:=by kernel_rfl
theorem Bp0 (w:World):(binOp .neq 211 .nilFunc .nilFunc).run Tryz.prog w=.ok (.bool false) w:=by kernel_rfl
def Bk7:List Ent:=[(65,.func (.func 179) #[] #[]),(66,.func (.func 180) #[] #[]),(67,.func (.func 181) #[] #[]),(68,.func (.func 182) #[] #[]),(69,.func (.func 183) #[] #[]),(70,.func (.func 184) #[] #[]),(71,.func (.func 185) #[] #[]),(96,.func (.func 185) #[] #[]),(72,.func (.func 186) #[] #[]),(102,.func (.func 186) #[] #[]),(100,.func (.func 187) #[] #[]),(73,.func (.func 188) #[] #[]),(90,.func (.func 189) #[] #[]),(74,.func (.func 190) #[] #[]),(75,.func (.func 191) #[] #[]),(88,.func (.func 192) #[] #[]),(64,.func (.func 193) #[] #[]),(80,.func (.func 194) #[] #[]),(76,.func (.func 195) #[] #[]),(77,.func (.func 196) #[] #[]),(83,.func (.func 197) #[] #[]),(84,.func (.func 198) #[] #[]),(114,.func (.func 199) #[] #[]),(103,.func (.func 200) #[] #[]),(109,.func (.func 201) #[] #[]),(104,.func (.func 202) #[] #[]),(108,.func (.func 203) #[] #[]),(110,.func (.func 204) #[] #[]),(99,.func (.func 205) #[] #[])]
theorem plainL_none {n:Int} (h0:n≠65) (h1:n≠66) (h2:n≠67) (h3:n≠68) (h4:n≠69) (h5:n≠70) (h6:n≠71) (h7:n≠96) (h8:n≠72) (h9:n≠102) (h10:n≠100) (h11:n≠73) (h12:n≠90) (h13:n≠74) (h14:n≠75) (h15:n≠88) (h16:n≠64) (h17:n≠80) (h18:n≠76) (h19:n≠77) (h20:n≠83) (h21:n≠84) (h22:n≠114) (h23:n≠103) (h24:n≠109) (h25:n≠104) (h26:n≠108) (h27:n≠110) (h28:n≠99):findM Bk7 n=none:=by
 simp[Bk7,findM,h0,h1,h2,h3,h4,h5,h6,h7,h8,h9,h10,h11,h12,h13,h14,h15,h16,h17,h18,h19,h20,h21,h22,h23,h24,h25,h26,h27,h28]
theorem plain_any (w:World):Calls Tryz.prog 141 #[] w fun e w'=>e=.returned (.map (some w.heap.size))/\MpN w' w.heap.size .i32 Bk7/\Below w.heap.size w w':=by
 have hmm:=@run_makeMap Tryz.prog
 have hmp:=MpN.made w .i32
 have hbm:=Aa1 w (.map #[] 0)
 have hsz:(w.alloc (.map #[] 0)).heap.size=w.heap.size+1:=by simp
 go_enter Tryz.func141,Tryz.ntmps141
 go_wp2_with (refine Am6 mtCsi hmp ?_ ?_ ?_;rfl;decide;clear hmp;intro wn hmp hon;replace hbm:=hbm.trans (hon.below hbm.size (by simp));clear hon)
 change MpN _ _ _ Bk7 at hmp
 go_ret
 exact⟨rfl,hmp,hbm⟩
def Ce4:List Ent:=[(104,.func (.func 206) #[] #[]),(108,.func (.func 207) #[] #[])]
theorem privL_none {n:Int} (h0:n≠104) (h1:n≠108):findM Ce4 n=none:=by
 simp[Ce4,findM,h0,h1]
theorem private_any (w:World):Calls Tryz.prog 142 #[] w fun e w'=>e=.returned (.map (some w.heap.size))/\MpN w' w.heap.size .i32 Ce4/\Below w.heap.size w w':=by
 have hmm:=@run_makeMap Tryz.prog
 have hmp:=MpN.made w .i32
 have hbm:=Aa1 w (.map #[] 0)
 have hsz:(w.alloc (.map #[] 0)).heap.size=w.heap.size+1:=by simp
 go_enter Tryz.func142,Tryz.ntmps142
 go_wp2_with (refine Am6 mtCsi hmp ?_ ?_ ?_;rfl;decide;clear hmp;intro wn hmp hon;replace hbm:=hbm.trans (hon.below hbm.size (by simp));clear hon)
 change MpN _ _ _ Ce4 at hmp
 go_ret
 exact⟨rfl,hmp,hbm⟩
end
