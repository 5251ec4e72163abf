/- Part 36 of the proof that the card of HostNone holds. -/
import Derived.Test.YtbafmljidapmgaaGreatDoorN35
set_option maxHeartbeats 16000000
set_option maxRecDepth 100000
namespace Go.Proofs.YtbafmljidapmgaaGreatDoor.Emu
open Go RowKit Com Rw Lns Scn
theorem Aj3 (r:Int):Cht.widthF r=0\/Cht.widthF r=1\/Cht.widthF r=2:=by
 cases hm:Cht.mayF r with
 |false=>exact .inl (Cht.width_no hm)
 |true =>
  cases h1:Cht.anyIn Cht.controls r with
  |true=>exact .inl (Cht.width_control h1)
  |false =>
   cases h2:Cht.anyIn Cht.marks r with
   |true=>exact .inl (Cht.width_mark h2)
   |false =>
    cases h3:Cht.anyIn Cht.wides r with
    |true=>exact .inr (.inr (Cht.width_wide hm h3))
    |false=>exact .inr (.inl (Cht.width_else hm h1 h2 h3))
section
variable {Z Z1:Zn} {w w':World} {t x s d b:Nat} {S:Scr} {T:Ter} {P:Pt} {v:Value} {l:List Int} {pa ia ta:Option Addr} {pn pc im ic tn tc:Nat} {k r pr f:Int}
theorem Ar3 (T:Ter) (n:Nat):(makeWay T n).jr.length<=T.jr.length+1:=by
 unfold makeWay
 split
 ·show ((feed (setCol T 0)).jr++[_]).length<=_
  rw [Ay6,List.length_append]
  exact J5 _
 ·split
  ·exact Nat.le_succ _
  ·exact Nat.le_succ _
theorem feed_prints (T:Ter):(feed T).prints=T.prints:=by
 unfold feed
 split
 ·show (T.putVis _).prints=_
  exact Af1 _ _
 ·rfl
theorem Ai9 (T:Ter) (n:Nat):(makeWay T n).prints=T.prints:=by
 unfold makeWay
 split
 ·show (feed (setCol T 0)).prints=_
  rw [feed_prints]
  rfl
 ·split<;>rfl
theorem print_aj (h:TMx Z w t T P) (ok:Ok T) (hj:T.jr.length<=89000000) (hpr:T.prints<=9990000000) (hwh:T.p.wh=false) (h0:Cht.widthF (Cht.charsetF T.p.g0 r)=0):Calls Tryz.prog 201 #[.pointer (some ⟨t,0,none⟩),.agg #[.int .u8 k,.int .i32 r,.int .i32 pr,.slice pa pn pc,.slice ia im ic,.int .i32 f,.slice ta tn tc]] w (Does Z w t (Bm0 T (Cht.charsetF T.p.g0 r))):=by
 have hbn:=Aa1 w (.cells #[.int .u8 k,.int .i32 r,.int .i32 pr,.slice pa pn pc,.slice ia im ic,.int .i32 f,.slice ta tn tc] 112)
 have hbx:=Block.made w 112 #[.int .u8 k,.int .i32 r,.int .i32 pr,.slice pa pn pc,.slice ia im ic,.int .i32 f,.slice ta tn tc]
 have c16:=fun k:Eqt.Ext (w.alloc (.cells #[.int .u8 k,.int .i32 r,.int .i32 pr,.slice pa pn pc,.slice ia im ic,.int .i32 f,.slice ta tn tc] 112))=>((h.below hbn).below k.below).c16
 have cg:=fun k:Eqt.Ext (w.alloc (.cells #[.int .u8 k,.int .i32 r,.int .i32 pr,.slice pa pn pc,.slice ia im ic,.int .i32 f,.slice ta tn tc] 112))=>((h.below hbn).below k.below).c14
 have x1:=fun k:Eqt.Ext (w.alloc (.cells #[.int .u8 k,.int .i32 r,.int .i32 pr,.slice pa pn pc,.slice ia im ic,.int .i32 f,.slice ta tn tc] 112))=>(Block.only hbx (Only.of_below k.below []) (by simp)).cell 1 (v:=.int .i32 r) rfl
 have hch:=J0 (fun k:Eqt.Ext (w.alloc (.cells #[.int .u8 k,.int .i32 r,.int .i32 pr,.slice pa pn pc,.slice ia im ic,.int .i32 f,.slice ta tn tc] 112))=>Cht.charset_any T.p.g0 r k.w (((h.below hbn).below k.below).tbl.cht))
 have hwi:=J0 (fun w1 (hb:Below w.heap.size w w1)=>Cht.width_any (Cht.charsetF T.p.g0 r) w1 ((h.below hb).tbl.cht))
 rw [hwh] at c16
 simp only [whI,Bool.false_eq_true,if_false] at c16
 have hjo:=J0 (fun w1 (hb:Below w.heap.size w w1)=>By7 (h.below hb).tm ok (by omega) (by omega) (Cht.charsetF T.p.g0 r))
 rw [h0] at hwi
 generalize Bm0 T (Cht.charsetF T.p.g0 r)=T2 at hjo |-
 generalize Cht.charsetF T.p.g0 r=cr at *
 generalize T.p.g0=g at *
 clear h ok hj hpr hbx hwh h0
 go_enter Tryz.func201,Tryz.ntmps201
 go_wp2
 generalize w.alloc (.cells #[.int .u8 k,.int .i32 r,.int .i32 pr,.slice pa pn pc,.slice ia im ic,.int .i32 f,.slice ta tn tc] 112)=w0 at c16 cg x1 hch hbn |-
 refine Eqt.region_ext (by kernel_rfl) (by kernel_rfl) ?_
 repeat (go_big_quiet_step (first
  |(go_at_call 264;exact Eqt.q_ext_same (hch.out _))))
 refine wpQuiet_nil ?_
 intro w9 hw9
 obtain ⟨k9,rfl⟩:=hw9
 have hb9:=k9.below
 generalize k9.w=w9 at hb9 |-
 have hb:=Aa0 hbn hb9
 go_wp2_with (first
  |(go_at_call 265;(with_reducible refine (hwi.out _ hb).mono ?_);rintro e w1 ⟨rfl,rfl⟩)
  |(go_at_call 266;(with_reducible refine (hjo.out _ hb).mono ?_);rintro e w2 ⟨⟨v2,rfl⟩,h2,hf2⟩))
 go_end0
 exact ⟨⟨_,rfl⟩,h2,(Aa9 hb).trans hf2⟩
theorem print_an (h:TMx Z w t T P) (ok:Ok T) (hj:T.jr.length<=89000000) (hpr:T.prints<=9990000000) (hnx:T.nx<=9900000000) (hwh:T.p.wh=false) (h0:Cht.widthF (Cht.charsetF T.p.g0 r)≠0) (h1:¬ (T.vis.cols:Int)<Cht.widthF (Cht.charsetF T.p.g0 r)):Calls Tryz.prog 201 #[.pointer (some ⟨t,0,none⟩),.agg #[.int .u8 k,.int .i32 r,.int .i32 pr,.slice pa pn pc,.slice ia im ic,.int .i32 f,.slice ta tn tc]] w (Does Z w t (putT (makeWay T (Cht.widthF (Cht.charsetF T.p.g0 r)).toNat) (Cht.charsetF T.p.g0 r) (Cht.widthF (Cht.charsetF T.p.g0 r)).toNat)):=by
 have hbn:=Aa1 w (.cells #[.int .u8 k,.int .i32 r,.int .i32 pr,.slice pa pn pc,.slice ia im ic,.int .i32 f,.slice ta tn tc] 112)
 have hbx:=Block.made w 112 #[.int .u8 k,.int .i32 r,.int .i32 pr,.slice pa pn pc,.slice ia im ic,.int .i32 f,.slice ta tn tc]
 have c16:=fun k:Eqt.Ext (w.alloc (.cells #[.int .u8 k,.int .i32 r,.int .i32 pr,.slice pa pn pc,.slice ia im ic,.int .i32 f,.slice ta tn tc] 112))=>((h.below hbn).below k.below).c16
 have cg:=fun k:Eqt.Ext (w.alloc (.cells #[.int .u8 k,.int .i32 r,.int .i32 pr,.slice pa pn pc,.slice ia im ic,.int .i32 f,.slice ta tn tc] 112))=>((h.below hbn).below k.below).c14
 have x1:=fun k:Eqt.Ext (w.alloc (.cells #[.int .u8 k,.int .i32 r,.int .i32 pr,.slice pa pn pc,.slice ia im ic,.int .i32 f,.slice ta tn tc] 112))=>(Block.only hbx (Only.of_below k.below []) (by simp)).cell 1 (v:=.int .i32 r) rfl
 have hch:=J0 (fun k:Eqt.Ext (w.alloc (.cells #[.int .u8 k,.int .i32 r,.int .i32 pr,.slice pa pn pc,.slice ia im ic,.int .i32 f,.slice ta tn tc] 112))=>Cht.charset_any T.p.g0 r k.w (((h.below hbn).below k.below).tbl.cht))
 have hwi:=J0 (fun w1 (hb:Below w.heap.size w w1)=>Cht.width_any (Cht.charsetF T.p.g0 r) w1 ((h.below hb).tbl.cht))
 rw [hwh] at c16
 simp only [whI,Bool.false_eq_true,if_false] at c16
 obtain ⟨Z1,hf⟩:=h.focus
 have hsh:=J0 (fun w1 (hb:Below w.heap.size w w1)=>And.intro (h.below hb).s0 (And.intro (Ab0 (h.below hb)) (Ah0 (hf.sc.below hb) ok.fit.len)))
 obtain ⟨n,hn⟩:∃ n:Nat,Cht.widthF (Cht.charsetF T.p.g0 r)=(n:Int):=⟨(Cht.widthF (Cht.charsetF T.p.g0 r)).toNat,by have:=Aj3 (Cht.charsetF T.p.g0 r);omega⟩
 have hn2:n<=2:=by have:=Aj3 (Cht.charsetF T.p.g0 r);omega
 rw [hn] at hwi h0 h1
 have hn0:((n:Int) == 0)=false:=by simpa using h0
 have he0:decide ((n:Int)=0)=false:=decide_eq_false h0
 have hne:¬ n=0:=by omega
 have he2:decide (n=0)=false:=decide_eq_false hne
 have hj1:∀ m,(makeWay T m).jr.length<=90000000:=fun m=>by have:=Ar3 T m;omega
 have hp1:∀ m,(makeWay T m).prints<=10000000000:=fun m=>by rw [Ai9];omega
 rw [hn,Int.toNat_natCast]
 have hd1:decide ((T.vis.cols:Int)<(n:Int))=false:=decide_eq_false h1
 have hd2:decide (T.vis.cols<n)=false:=decide_eq_false (by omega)
 have hd3:¬ T.vis.cols<n:=by omega
 have hmk:=J0 (fun w1 (hb:Below w.heap.size w w1)=>Ao4 (h.below hb).tm ok (by omega) hnx n hn2 (by omega))
 have hpu:=J0 (fun w2 (h2:TM Z w2 t (makeWay T n))=>put_any h2 (ok.makeWay n) (hj1 n) (hp1 n) (Cht.charsetF T.p.g0 r) n hn2)
 generalize putT (makeWay T n) (Cht.charsetF T.p.g0 r) n=T2 at hpu |-
 generalize makeWay T n=T1 at hmk hpu
 generalize T.vis.cols=cols at *
 generalize P.h T.other=hh at hsh
 generalize P.x T.other=xx at hsh
 generalize Cht.charsetF T.p.g0 r=cr at *
 generalize T.p.g0=g at *
 clear h ok hj hpr hbx hwh hnx hf h0 h1 hn hj1 hp1
 go_enter Tryz.func201,Tryz.ntmps201
 go_wp2
 generalize w.alloc (.cells #[.int .u8 k,.int .i32 r,.int .i32 pr,.slice pa pn pc,.slice ia im ic,.int .i32 f,.slice ta tn tc] 112)=w0 at c16 cg x1 hch hbn |-
 refine Eqt.region_ext (by kernel_rfl) (by kernel_rfl) ?_
 repeat (go_big_quiet_step (first
  |(go_at_call 264;exact Eqt.q_ext_same (hch.out _))))
 refine wpQuiet_nil ?_
 intro w9 hw9
 obtain ⟨k9,rfl⟩:=hw9
 have hb9:=k9.below
 generalize k9.w=w9 at hb9 |-
 have hb:=Aa0 hbn hb9
 obtain ⟨s0,hs1,hs2⟩:=hsh.out _ hb
 replace hs1:=J0 hs1
 replace hs2:=J0 hs2
 go_wp2_with (first
  |(go_at_call 265;(with_reducible refine (hwi.out _ hb).mono ?_);rintro e w1 ⟨rfl,rfl⟩)
  |(go_at_call 163;(with_reducible refine (hs1.out).mono ?_);rintro e w1 ⟨rfl,rfl⟩)
  |(go_at_call 232;(with_reducible refine (hs2.out).mono ?_);rintro e w1 ⟨rfl,rfl⟩)
  |(go_at_call 267;(with_reducible refine (hmk.out _ hb).mono ?_);rintro e w2 ⟨⟨v2,rfl⟩,h2,hf2⟩)
  |(go_at_call 268;(with_reducible refine (hpu.out _ h2).mono ?_);rintro e w3 ⟨⟨v3,rfl⟩,h3,hf3⟩))
 go_end0
 exact ⟨⟨_,rfl⟩,h3,((Aa9 hb).trans hf2).trans hf3⟩
theorem print_ag (h:TMx Z w t T P) (ok:Ok T) (hj:T.jr.length<=89000000) (hpr:T.prints<=9990000000) (hnx:T.nx<=9900000000) (hwh:T.p.wh=false) (h0:Cht.widthF (Cht.charsetF T.p.g0 r)≠0) (h1:(T.vis.cols:Int)<Cht.widthF (Cht.charsetF T.p.g0 r)):Calls Tryz.prog 201 #[.pointer (some ⟨t,0,none⟩),.agg #[.int .u8 k,.int .i32 r,.int .i32 pr,.slice pa pn pc,.slice ia im ic,.int .i32 f,.slice ta tn tc]] w (Does Z w t (putT (makeWay T 1) 65533 1)):=by
 have hbn:=Aa1 w (.cells #[.int .u8 k,.int .i32 r,.int .i32 pr,.slice pa pn pc,.slice ia im ic,.int .i32 f,.slice ta tn tc] 112)
 have hbx:=Block.made w 112 #[.int .u8 k,.int .i32 r,.int .i32 pr,.slice pa pn pc,.slice ia im ic,.int .i32 f,.slice ta tn tc]
 have c16:=fun k:Eqt.Ext (w.alloc (.cells #[.int .u8 k,.int .i32 r,.int .i32 pr,.slice pa pn pc,.slice ia im ic,.int .i32 f,.slice ta tn tc] 112))=>((h.below hbn).below k.below).c16
 have cg:=fun k:Eqt.Ext (w.alloc (.cells #[.int .u8 k,.int .i32 r,.int .i32 pr,.slice pa pn pc,.slice ia im ic,.int .i32 f,.slice ta tn tc] 112))=>((h.below hbn).below k.below).c14
 have x1:=fun k:Eqt.Ext (w.alloc (.cells #[.int .u8 k,.int .i32 r,.int .i32 pr,.slice pa pn pc,.slice ia im ic,.int .i32 f,.slice ta tn tc] 112))=>(Block.only hbx (Only.of_below k.below []) (by simp)).cell 1 (v:=.int .i32 r) rfl
 have hch:=J0 (fun k:Eqt.Ext (w.alloc (.cells #[.int .u8 k,.int .i32 r,.int .i32 pr,.slice pa pn pc,.slice ia im ic,.int .i32 f,.slice ta tn tc] 112))=>Cht.charset_any T.p.g0 r k.w (((h.below hbn).below k.below).tbl.cht))
 have hwi:=J0 (fun w1 (hb:Below w.heap.size w w1)=>Cht.width_any (Cht.charsetF T.p.g0 r) w1 ((h.below hb).tbl.cht))
 rw [hwh] at c16
 simp only [whI,Bool.false_eq_true,if_false] at c16
 obtain ⟨Z1,hf⟩:=h.focus
 have hsh:=J0 (fun w1 (hb:Below w.heap.size w w1)=>And.intro (h.below hb).s0 (And.intro (Ab0 (h.below hb)) (Ah0 (hf.sc.below hb) ok.fit.len)))
 obtain ⟨n,hn⟩:∃ n:Nat,Cht.widthF (Cht.charsetF T.p.g0 r)=(n:Int):=⟨(Cht.widthF (Cht.charsetF T.p.g0 r)).toNat,by have:=Aj3 (Cht.charsetF T.p.g0 r);omega⟩
 have hn2:n<=2:=by have:=Aj3 (Cht.charsetF T.p.g0 r);omega
 rw [hn] at hwi h0 h1
 have hn0:((n:Int) == 0)=false:=by simpa using h0
 have he0:decide ((n:Int)=0)=false:=decide_eq_false h0
 have hne:¬ n=0:=by omega
 have he2:decide (n=0)=false:=decide_eq_false hne
 have hj1:∀ m,(makeWay T m).jr.length<=90000000:=fun m=>by have:=Ar3 T m;omega
 have hp1:∀ m,(makeWay T m).prints<=10000000000:=fun m=>by rw [Ai9];omega
 have hd1:decide ((T.vis.cols:Int)<(n:Int))=true:=decide_eq_true h1
 have hd2:decide (T.vis.cols<n)=true:=decide_eq_true (by omega)
 have hd3:T.vis.cols<n:=by omega
 have hmk:Hid (∀ w1,Below w.heap.size w w1->Calls Tryz.prog 267 #[.pointer (some ⟨t,0,none⟩),.int .i64 1] w1 (Does Z w1 t (makeWay T 1))):=J0 (fun w1 hb=>Ao4 (h.below hb).tm ok (by omega) hnx 1 (by omega) ok.fit.c1)
 have hpu:Hid (∀ w2,TM Z w2 t (makeWay T 1)->Calls Tryz.prog 268 #[.pointer (some ⟨t,0,none⟩),.int .i32 65533,.int .i64 1] w2 (Does Z w2 t (putT (makeWay T 1) 65533 1))):=J0 (fun w2 h2=>put_any h2 (ok.makeWay 1) (hj1 1) (hp1 1) 65533 1 (by omega))
 generalize putT (makeWay T 1) 65533 1=T2 at hpu |-
 generalize makeWay T 1=T1 at hmk hpu
 generalize T.vis.cols=cols at *
 generalize P.h T.other=hh at hsh
 generalize P.x T.other=xx at hsh
 generalize Cht.charsetF T.p.g0 r=cr at *
 generalize T.p.g0=g at *
 clear h ok hj hpr hbx hwh hnx hf h0 h1 hn hj1 hp1
 go_enter Tryz.func201,Tryz.ntmps201
 go_wp2
 generalize w.alloc (.cells #[.int .u8 k,.int .i32 r,.int .i32 pr,.slice pa pn pc,.slice ia im ic,.int .i32 f,.slice ta tn tc] 112)=w0 at c16 cg x1 hch hbn |-
 refine Eqt.region_ext (by kernel_rfl) (by kernel_rfl) ?_
 repeat (go_big_quiet_step (first
  |(go_at_call 264;exact Eqt.q_ext_same (hch.out _))))
 refine wpQuiet_nil ?_
 intro w9 hw9
 obtain ⟨k9,rfl⟩:=hw9
 have hb9:=k9.below
 generalize k9.w=w9 at hb9 |-
 have hb:=Aa0 hbn hb9
 obtain ⟨s0,hs1,hs2⟩:=hsh.out _ hb
 replace hs1:=J0 hs1
 replace hs2:=J0 hs2
 go_wp2_with (first
  |(go_at_call 265;(with_reducible refine (hwi.out _ hb).mono ?_);rintro e w1 ⟨rfl,rfl⟩)
  |(go_at_call 163;(with_reducible refine (hs1.out).mono ?_);rintro e w1 ⟨rfl,rfl⟩)
  |(go_at_call 232;(with_reducible refine (hs2.out).mono ?_);rintro e w1 ⟨rfl,rfl⟩)
  |(go_at_call 267;(with_reducible refine (hmk.out _ hb).mono ?_);rintro e w2 ⟨⟨v2,rfl⟩,h2,hf2⟩)
  |(go_at_call 268;(with_reducible refine (hpu.out _ h2).mono ?_);rintro e w3 ⟨⟨v3,rfl⟩,h3,hf3⟩))
 go_end0
 exact ⟨⟨_,rfl⟩,h3,((Aa9 hb).trans hf2).trans hf3⟩
theorem print_bj (h:TMx Z w t T P) (ok:Ok T) (hj:T.jr.length<=89000000) (hpr:T.prints<=9990000000) (hwh:T.p.wh=true) (h0:Cht.widthF (Cht.charsetF T.p.g1 r)=0):Calls Tryz.prog 201 #[.pointer (some ⟨t,0,none⟩),.agg #[.int .u8 k,.int .i32 r,.int .i32 pr,.slice pa pn pc,.slice ia im ic,.int .i32 f,.slice ta tn tc]] w (Does Z w t (Bm0 T (Cht.charsetF T.p.g1 r))):=by
 have hbn:=Aa1 w (.cells #[.int .u8 k,.int .i32 r,.int .i32 pr,.slice pa pn pc,.slice ia im ic,.int .i32 f,.slice ta tn tc] 112)
 have hbx:=Block.made w 112 #[.int .u8 k,.int .i32 r,.int .i32 pr,.slice pa pn pc,.slice ia im ic,.int .i32 f,.slice ta tn tc]
 have c16:=fun k:Eqt.Ext (w.alloc (.cells #[.int .u8 k,.int .i32 r,.int .i32 pr,.slice pa pn pc,.slice ia im ic,.int .i32 f,.slice ta tn tc] 112))=>((h.below hbn).below k.below).c16
 have cg:=fun k:Eqt.Ext (w.alloc (.cells #[.int .u8 k,.int .i32 r,.int .i32 pr,.slice pa pn pc,.slice ia im ic,.int .i32 f,.slice ta tn tc] 112))=>((h.below hbn).below k.below).c15
 have x1:=fun k:Eqt.Ext (w.alloc (.cells #[.int .u8 k,.int .i32 r,.int .i32 pr,.slice pa pn pc,.slice ia im ic,.int .i32 f,.slice ta tn tc] 112))=>(Block.only hbx (Only.of_below k.below []) (by simp)).cell 1 (v:=.int .i32 r) rfl
 have hch:=J0 (fun k:Eqt.Ext (w.alloc (.cells #[.int .u8 k,.int .i32 r,.int .i32 pr,.slice pa pn pc,.slice ia im ic,.int .i32 f,.slice ta tn tc] 112))=>Cht.charset_any T.p.g1 r k.w (((h.below hbn).below k.below).tbl.cht))
 have hwi:=J0 (fun w1 (hb:Below w.heap.size w w1)=>Cht.width_any (Cht.charsetF T.p.g1 r) w1 ((h.below hb).tbl.cht))
 rw [hwh] at c16
 simp only [whI,if_true] at c16
 have hjo:=J0 (fun w1 (hb:Below w.heap.size w w1)=>By7 (h.below hb).tm ok (by omega) (by omega) (Cht.charsetF T.p.g1 r))
 rw [h0] at hwi
 generalize Bm0 T (Cht.charsetF T.p.g1 r)=T2 at hjo |-
 generalize Cht.charsetF T.p.g1 r=cr at *
 generalize T.p.g1=g at *
 clear h ok hj hpr hbx hwh h0
 go_enter Tryz.func201,Tryz.ntmps201
 go_wp2
 generalize w.alloc (.cells #[.int .u8 k,.int .i32 r,.int .i32 pr,.slice pa pn pc,.slice ia im ic,.int .i32 f,.slice ta tn tc] 112)=w0 at c16 cg x1 hch hbn |-
 refine Eqt.region_ext (by kernel_rfl) (by kernel_rfl) ?_
 repeat (go_big_quiet_step (first
  |(go_at_call 264;exact Eqt.q_ext_same (hch.out _))))
 refine wpQuiet_nil ?_
 intro w9 hw9
 obtain ⟨k9,rfl⟩:=hw9
 have hb9:=k9.below
 generalize k9.w=w9 at hb9 |-
 have hb:=Aa0 hbn hb9
 go_wp2_with (first
  |(go_at_call 265;(with_reducible refine (hwi.out _ hb).mono ?_);rintro e w1 ⟨rfl,rfl⟩)
  |(go_at_call 266;(with_reducible refine (hjo.out _ hb).mono ?_);rintro e w2 ⟨⟨v2,rfl⟩,h2,hf2⟩))
 go_end0
 exact ⟨⟨_,rfl⟩,h2,(Aa9 hb).trans hf2⟩
theorem print_bn (h:TMx Z w t T P) (ok:Ok T) (hj:T.jr.length<=89000000) (hpr:T.prints<=9990000000) (hnx:T.nx<=9900000000) (hwh:T.p.wh=true) (h0:Cht.widthF (Cht.charsetF T.p.g1 r)≠0) (h1:¬ (T.vis.cols:Int)<Cht.widthF (Cht.charsetF T.p.g1 r)):Calls Tryz.prog 201 #[.pointer (some ⟨t,0,none⟩),.agg #[.int .u8 k,.int .i32 r,.int .i32 pr,.slice pa pn pc,.slice ia im ic,.int .i32 f,.slice ta tn tc]] w (Does Z w t (putT (makeWay T (Cht.widthF (Cht.charsetF T.p.g1 r)).toNat) (Cht.charsetF T.p.g1 r) (Cht.widthF (Cht.charsetF T.p.g1 r)).toNat)):=by
 have hbn:=Aa1 w (.cells #[.int .u8 k,.int .i32 r,.int .i32 pr,.slice pa pn pc,.slice ia im ic,.int .i32 f,.slice ta tn tc] 112)
 have hbx:=Block.made w 112 #[.int .u8 k,.int .i32 r,.int .i32 pr,.slice pa pn pc,.slice ia im ic,.int .i32 f,.slice ta tn tc]
 have c16:=fun k:Eqt.Ext (w.alloc (.cells #[.int .u8 k,.int .i32 r,.int .i32 pr,.slice pa pn pc,.slice ia im ic,.int .i32 f,.slice ta tn tc] 112))=>((h.below hbn).below k.below).c16
 have cg:=fun k:Eqt.Ext (w.alloc (.cells #[.int .u8 k,.int .i32 r,.int .i32 pr,.slice pa pn pc,.slice ia im ic,.int .i32 f,.slice ta tn tc] 112))=>((h.below hbn).below k.below).c15
 have x1:=fun k:Eqt.Ext (w.alloc (.cells #[.int .u8 k,.int .i32 r,.int .i32 pr,.slice pa pn pc,.slice ia im ic,.int .i32 f,.slice ta tn tc] 112))=>(Block.only hbx (Only.of_below k.below []) (by simp)).cell 1 (v:=.int .i32 r) rfl
 have hch:=J0 (fun k:Eqt.Ext (w.alloc (.cells #[.int .u8 k,.int .i32 r,.int .i32 pr,.slice pa pn pc,.slice ia im ic,.int .i32 f,.slice ta tn tc] 112))=>Cht.charset_any T.p.g1 r k.w (((h.below hbn).below k.below).tbl.cht))
 have hwi:=J0 (fun w1 (hb:Below w.heap.size w w1)=>Cht.width_any (Cht.charsetF T.p.g1 r) w1 ((h.below hb).tbl.cht))
 rw [hwh] at c16
 simp only [whI,if_true] at c16
 obtain ⟨Z1,hf⟩:=h.focus
 have hsh:=J0 (fun w1 (hb:Below w.heap.size w w1)=>And.intro (h.below hb).s0 (And.intro (Ab0 (h.below hb)) (Ah0 (hf.sc.below hb) ok.fit.len)))
 obtain ⟨n,hn⟩:∃ n:Nat,Cht.widthF (Cht.charsetF T.p.g1 r)=(n:Int):=⟨(Cht.widthF (Cht.charsetF T.p.g1 r)).toNat,by have:=Aj3 (Cht.charsetF T.p.g1 r);omega⟩
 have hn2:n<=2:=by have:=Aj3 (Cht.charsetF T.p.g1 r);omega
 rw [hn] at hwi h0 h1
 have hn0:((n:Int) == 0)=false:=by simpa using h0
 have he0:decide ((n:Int)=0)=false:=decide_eq_false h0
 have hne:¬ n=0:=by omega
 have he2:decide (n=0)=false:=decide_eq_false hne
 have hj1:∀ m,(makeWay T m).jr.length<=90000000:=fun m=>by have:=Ar3 T m;omega
 have hp1:∀ m,(makeWay T m).prints<=10000000000:=fun m=>by rw [Ai9];omega
 rw [hn,Int.toNat_natCast]
 have hd1:decide ((T.vis.cols:Int)<(n:Int))=false:=decide_eq_false h1
 have hd2:decide (T.vis.cols<n)=false:=decide_eq_false (by omega)
 have hd3:¬ T.vis.cols<n:=by omega
 have hmk:=J0 (fun w1 (hb:Below w.heap.size w w1)=>Ao4 (h.below hb).tm ok (by omega) hnx n hn2 (by omega))
 have hpu:=J0 (fun w2 (h2:TM Z w2 t (makeWay T n))=>put_any h2 (ok.makeWay n) (hj1 n) (hp1 n) (Cht.charsetF T.p.g1 r) n hn2)
 generalize putT (makeWay T n) (Cht.charsetF T.p.g1 r) n=T2 at hpu |-
 generalize makeWay T n=T1 at hmk hpu
 generalize T.vis.cols=cols at *
 generalize P.h T.other=hh at hsh
 generalize P.x T.other=xx at hsh
 generalize Cht.charsetF T.p.g1 r=cr at *
 generalize T.p.g1=g at *
 clear h ok hj hpr hbx hwh hnx hf h0 h1 hn hj1 hp1
 go_enter Tryz.func201,Tryz.ntmps201
 go_wp2
 generalize w.alloc (.cells #[.int .u8 k,.int .i32 r,.int .i32 pr,.slice pa pn pc,.slice ia im ic,.int .i32 f,.slice ta tn tc] 112)=w0 at c16 cg x1 hch hbn |-
 refine Eqt.region_ext (by kernel_rfl) (by kernel_rfl) ?_
 repeat (go_big_quiet_step (first
  |(go_at_call 264;exact Eqt.q_ext_same (hch.out _))))
 refine wpQuiet_nil ?_
 intro w9 hw9
 obtain ⟨k9,rfl⟩:=hw9
 have hb9:=k9.below
 generalize k9.w=w9 at hb9 |-
 have hb:=Aa0 hbn hb9
 obtain ⟨s0,hs1,hs2⟩:=hsh.out _ hb
 replace hs1:=J0 hs1
 replace hs2:=J0 hs2
 go_wp2_with (first
  |(go_at_call 265;(with_reducible refine (hwi.out _ hb).mono ?_);rintro e w1 ⟨rfl,rfl⟩)
  |(go_at_call 163;(with_reducible refine (hs1.out).mono ?_);rintro e w1 ⟨rfl,rfl⟩)
  |(go_at_call 232;(with_reducible refine (hs2.out).mono ?_);rintro e w1 ⟨rfl,rfl⟩)
  |(go_at_call 267;(with_reducible refine (hmk.out _ hb).mono ?_);rintro e w2 ⟨⟨v2,rfl⟩,h2,hf2⟩)
  |(go_at_call 268;(with_reducible refine (hpu.out _ h2).mono ?_);rintro e w3 ⟨⟨v3,rfl⟩,h3,hf3⟩))
 go_end0
 exact ⟨⟨_,rfl⟩,h3,((Aa9 hb).trans hf2).trans hf3⟩
theorem print_bg (h:TMx Z w t T P) (ok:Ok T) (hj:T.jr.length<=89000000) (hpr:T.prints<=9990000000) (hnx:T.nx<=9900000000) (hwh:T.p.wh=true) (h0:Cht.widthF (Cht.charsetF T.p.g1 r)≠0) (h1:(T.vis.cols:Int)<Cht.widthF (Cht.charsetF T.p.g1 r)):Calls Tryz.prog 201 #[.pointer (some ⟨t,0,none⟩),.agg #[.int .u8 k,.int .i32 r,.int .i32 pr,.slice pa pn pc,.slice ia im ic,.int .i32 f,.slice ta tn tc]] w (Does Z w t (putT (makeWay T 1) 65533 1)):=by
 have hbn:=Aa1 w (.cells #[.int .u8 k,.int .i32 r,.int .i32 pr,.slice pa pn pc,.slice ia im ic,.int .i32 f,.slice ta tn tc] 112)
 have hbx:=Block.made w 112 #[.int .u8 k,.int .i32 r,.int .i32 pr,.slice pa pn pc,.slice ia im ic,.int .i32 f,.slice ta tn tc]
 have c16:=fun k:Eqt.Ext (w.alloc (.cells #[.int .u8 k,.int .i32 r,.int .i32 pr,.slice pa pn pc,.slice ia im ic,.int .i32 f,.slice ta tn tc] 112))=>((h.below hbn).below k.below).c16
 have cg:=fun k:Eqt.Ext (w.alloc (.cells #[.int .u8 k,.int .i32 r,.int .i32 pr,.slice pa pn pc,.slice ia im ic,.int .i32 f,.slice ta tn tc] 112))=>((h.below hbn).below k.below).c15
 have x1:=fun k:Eqt.Ext (w.alloc (.cells #[.int .u8 k,.int .i32 r,.int .i32 pr,.slice pa pn pc,.slice ia im ic,.int .i32 f,.slice ta tn tc] 112))=>(Block.only hbx (Only.of_below k.below []) (by simp)).cell 1 (v:=.int .i32 r) rfl
 have hch:=J0 (fun k:Eqt.Ext (w.alloc (.cells #[.int .u8 k,.int .i32 r,.int .i32 pr,.slice pa pn pc,.slice ia im ic,.int .i32 f,.slice ta tn tc] 112))=>Cht.charset_any T.p.g1 r k.w (((h.below hbn).below k.below).tbl.cht))
 have hwi:=J0 (fun w1 (hb:Below w.heap.size w w1)=>Cht.width_any (Cht.charsetF T.p.g1 r) w1 ((h.below hb).tbl.cht))
 rw [hwh] at c16
 simp only [whI,if_true] at c16
 obtain ⟨Z1,hf⟩:=h.focus
 have hsh:=J0 (fun w1 (hb:Below w.heap.size w w1)=>And.intro (h.below hb).s0 (And.intro (Ab0 (h.below hb)) (Ah0 (hf.sc.below hb) ok.fit.len)))
 obtain ⟨n,hn⟩:∃ n:Nat,Cht.widthF (Cht.charsetF T.p.g1 r)=(n:Int):=⟨(Cht.widthF (Cht.charsetF T.p.g1 r)).toNat,by have:=Aj3 (Cht.charsetF T.p.g1 r);omega⟩
 have hn2:n<=2:=by have:=Aj3 (Cht.charsetF T.p.g1 r);omega
 rw [hn] at hwi h0 h1
 have hn0:((n:Int) == 0)=false:=by simpa using h0
 have he0:decide ((n:Int)=0)=false:=decide_eq_false h0
 have hne:¬ n=0:=by omega
 have he2:decide (n=0)=false:=decide_eq_false hne
 have hj1:∀ m,(makeWay T m).jr.length<=90000000:=fun m=>by have:=Ar3 T m;omega
 have hp1:∀ m,(makeWay T m).prints<=10000000000:=fun m=>by rw [Ai9];omega
 have hd1:decide ((T.vis.cols:Int)<(n:Int))=true:=decide_eq_true h1
 have hd2:decide (T.vis.cols<n)=true:=decide_eq_true (by omega)
 have hd3:T.vis.cols<n:=by omega
 have hmk:Hid (∀ w1,Below w.heap.size w w1->Calls Tryz.prog 267 #[.pointer (some ⟨t,0,none⟩),.int .i64 1] w1 (Does Z w1 t (makeWay T 1))):=J0 (fun w1 hb=>Ao4 (h.below hb).tm ok (by omega) hnx 1 (by omega) ok.fit.c1)
 have hpu:Hid (∀ w2,TM Z w2 t (makeWay T 1)->Calls Tryz.prog 268 #[.pointer (some ⟨t,0,none⟩),.int .i32 65533,.int .i64 1] w2 (Does Z w2 t (putT (makeWay T 1) 65533 1))):=J0 (fun w2 h2=>put_any h2 (ok.makeWay 1) (hj1 1) (hp1 1) 65533 1 (by omega))
 generalize putT (makeWay T 1) 65533 1=T2 at hpu |-
 generalize makeWay T 1=T1 at hmk hpu
 generalize T.vis.cols=cols at *
 generalize P.h T.other=hh at hsh
 generalize P.x T.other=xx at hsh
 generalize Cht.charsetF T.p.g1 r=cr at *
 generalize T.p.g1=g at *
 clear h ok hj hpr hbx hwh hnx hf h0 h1 hn hj1 hp1
 go_enter Tryz.func201,Tryz.ntmps201
 go_wp2
 generalize w.alloc (.cells #[.int .u8 k,.int .i32 r,.int .i32 pr,.slice pa pn pc,.slice ia im ic,.int .i32 f,.slice ta tn tc] 112)=w0 at c16 cg x1 hch hbn |-
 refine Eqt.region_ext (by kernel_rfl) (by kernel_rfl) ?_
 repeat (go_big_quiet_step (first
  |(go_at_call 264;exact Eqt.q_ext_same (hch.out _))))
 refine wpQuiet_nil ?_
 intro w9 hw9
 obtain ⟨k9,rfl⟩:=hw9
 have hb9:=k9.below
 generalize k9.w=w9 at hb9 |-
 have hb:=Aa0 hbn hb9
 obtain ⟨s0,hs1,hs2⟩:=hsh.out _ hb
 replace hs1:=J0 hs1
 replace hs2:=J0 hs2
 go_wp2_with (first
  |(go_at_call 265;(with_reducible refine (hwi.out _ hb).mono ?_);rintro e w1 ⟨rfl,rfl⟩)
  |(go_at_call 163;(with_reducible refine (hs1.out).mono ?_);rintro e w1 ⟨rfl,rfl⟩)
  |(go_at_call 232;(with_reducible refine (hs2.out).mono ?_);rintro e w1 ⟨rfl,rfl⟩)
  |(go_at_call 267;(with_reducible refine (hmk.out _ hb).mono ?_);rintro e w2 ⟨⟨v2,rfl⟩,h2,hf2⟩)
  |(go_at_call 268;(with_reducible refine (hpu.out _ h2).mono ?_);rintro e w3 ⟨⟨v3,rfl⟩,h3,hf3⟩))
 go_end0
 exact ⟨⟨_,rfl⟩,h3,((Aa9 hb).trans hf2).trans hf3⟩
theorem print_any (h:TM Z w t T) (ok:Ok T) (hj:T.jr.length<=89000000) (hpr:T.prints<=9990000000) (hnx:T.nx<=9900000000):Calls Tryz.prog 201 #[.pointer (some ⟨t,0,none⟩),.agg #[.int .u8 k,.int .i32 r,.int .i32 pr,.slice pa pn pc,.slice ia im ic,.int .i32 f,.slice ta tn tc]] w (Does Z w t (Bi6 T r)):=by
 obtain ⟨P,h⟩:=h
 unfold Bi6
 cases hwh:T.p.wh with
 |false =>
  simp only [Bool.false_eq_true,if_false]
  split
  ·exact print_aj h ok hj hpr hwh (by assumption)
  ·split
   ·exact print_ag h ok hj hpr hnx hwh (by assumption) (by assumption)
   ·exact print_an h ok hj hpr hnx hwh (by assumption) (by assumption)
 |true =>
  simp only [if_true]
  split
  ·exact print_bj h ok hj hpr hwh (by assumption)
  ·split
   ·exact print_bg h ok hj hpr hnx hwh (by assumption) (by assumption)
   ·exact print_bn h ok hj hpr hnx hwh (by assumption) (by assumption)
end
