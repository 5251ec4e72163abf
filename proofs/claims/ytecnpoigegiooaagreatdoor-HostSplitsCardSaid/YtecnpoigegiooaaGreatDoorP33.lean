/- Part 33 of HostSplits. -/
import Derived.Test.YtecnpoigegiooaaGreatDoorP32
set_option maxHeartbeats 16000000
set_option maxRecDepth 100000
namespace Go.Proofs.YtecnpoigegiooaaGreatDoor.Emu
open Go RowKit Com Rw Lns Scn
section
variable {Z Z1:Zn}{w w':World}{t x s:Nat}{S:Scr}{T:Ter}{P:Pt}{v:Value}{l:List Int}
theorem fit_marg {S:Scr} (h:Fit S) {a b:Nat} (hb:b<S.L.length) (ha:a<=b):Fit { S with top:=a,bot:=b }:=⟨h.len,h.len5,hb,ha,h.c1,h.c5,h.wid,h.ids,h.pos⟩
theorem Ok.marg (h:Ok T) {a b:Nat} (hb:b<T.vis.L.length) (ha:a<=b):Ok (T.putVis { T.vis with top:=a,bot:=b }):=h.putVis rfl rfl (fit_marg h.fit hb ha) rfl rfl (J5 _)
theorem setm_ay (h:TMx Z w t T P) (ok:Ok T) (hj:T.jr.length<=90000000) (hp:NA Z w v l) (hc0:atN l 1 - 1<0) (hlt:Aa2 l 0 - 1<(T.vis.L.length:Int) - 1) (hb0:0<=(T.vis.L.length:Int) - 1) (_hbb:(T.vis.L.length:Int) - 1<=(T.vis.L.length:Int) - 1):Calls Tryz.prog 199 #[.pointer (some ⟨t,0,none⟩),v] w (Does Z w t (home (T.putVis { T.vis with top:=(Aa2 l 0 - 1).toNat,bot:=((T.vis.L.length:Int) - 1).toNat }))):=by
 obtain⟨Z1,hf⟩:=h.focus
 have hn:=Ac4 l 0
 have ha:=Br2 l 1
 have hlen:=ok.fit.len
 have hl5:=ok.fit.len5
 have s0:=h.s0
 have hsh:=J0 (Aa8 h)
 have hc:=J0 (Ab5 hp)
 have hc1:=J0 (Az1 hp)
 have hro:=J0 (Af8 hf.sc ok.fit.len)
 have hok:Ax1 T.vis ((Aa2 l 0 - 1).toNat:Int) (((T.vis.L.length:Int) - 1).toNat:Int):=.inr ⟨by omega,by omega,by omega⟩
 have he:=Bp9 hf.sc ok.fit (Aa2 l 0 - 1).toNat ((T.vis.L.length:Int) - 1).toNat hok
 rw[Int.toNat_of_nonneg (show 0<=Aa2 l 0 - 1 by omega),Int.toNat_of_nonneg (show 0<=(T.vis.L.length:Int) - 1 by omega)] at he
 replace he:=J0 he
 have hbk:=J0 (fun w2 (h2:SC Z1 w2 (P.x T.other) P.s { T.vis with top:=(Aa2 l 0 - 1).toNat,bot:=((T.vis.L.length:Int) - 1).toNat }) (hf2:Scn.Fr Z1 PT w w2)=>hf.back w2 _ h2 rfl rfl hf2)
 have hho:=J0 (fun w2 (h2:TM Z w2 t (T.putVis { T.vis with top:=(Aa2 l 0 - 1).toNat,bot:=((T.vis.L.length:Int) - 1).toNat }))=>Bd2 h2 (ok.marg (by omega) (by omega)) (by rw[Ag2];exact hj))
 generalize T.putVis { T.vis with top:=(Aa2 l 0 - 1).toNat,bot:=((T.vis.L.length:Int) - 1).toNat }=T1 at hbk hho |-
 generalize ({ T.vis with top:=(Aa2 l 0 - 1).toNat,bot:=((T.vis.L.length:Int) - 1).toNat }:Scr)=S1 at he hbk
 generalize T.vis.L.length=rows at *
 generalize P.h T.other=hh at s0 hsh
 generalize P.x T.other=xx at s0 he hbk hro
 generalize Aa2 l 0=n at *
 generalize atN l 1=b at *
 have hw:IntKind.i64.wrap (n - 1)=n - 1:=IntWalk.i64_in _ (by omega)
 have hw1:IntKind.i64.wrap (b - 1)=b - 1:=IntWalk.i64_in _ (by omega)
 have hw2:IntKind.i64.wrap ((rows:Int) - 1)=(rows:Int) - 1:=IntWalk.i64_in _ (by omega)
 have hd8:decide (b - 1<0)=true:=decide_eq_true hc0
 have hd9:decide (n - 1<(rows:Int) - 1)=true:=decide_eq_true hlt
 clear h ok hj hp hf hok _hbb hb0
 go_enter Tryz.func199,Tryz.ntmps199
 go_wp2_with (first
  |(go_at_call 68;(with_reducible refine(hsh.out).mono ?_);rintro e w1 ⟨rfl,rfl⟩)
  |(go_at_call 237;(with_reducible refine(hc.out).mono ?_);rintro e w1 ⟨rfl,rfl⟩)
  |(go_at_call 241;(with_reducible refine(hc1.out).mono ?_);rintro e w1 ⟨rfl,rfl⟩)
  |(go_at_call 70;(with_reducible refine(hro.out).mono ?_);rintro e w1 ⟨rfl,rfl⟩)
  |(go_at_call 247;(with_reducible refine(he.out).mono ?_);rintro e w2 ⟨rfl,h2,hf2⟩))
 obtain⟨h3,hf3⟩:=hbk.out _ h2 hf2
 go_wp2_with (first
  |(go_at_call 248;(with_reducible refine(hho.out _ h3.tm).mono ?_);rintro e w4 ⟨⟨v4,rfl⟩,h4,hf4⟩))
 go_end0
 exact⟨⟨_,rfl⟩,h4,hf3.trans hf4⟩
theorem setm_an (h:TMx Z w t T P) (ok:Ok T) (hp:NA Z w v l) (hc0:atN l 1 - 1<0) (hlt:¬Aa2 l 0 - 1<(T.vis.L.length:Int) - 1):Calls Tryz.prog 199 #[.pointer (some ⟨t,0,none⟩),v] w (Does Z w t T):=by
 obtain⟨Z1,hf⟩:=h.focus
 have hn:=Ac4 l 0
 have ha:=Br2 l 1
 have hlen:=ok.fit.len
 have hl5:=ok.fit.len5
 have s0:=h.s0
 have hsh:=J0 (Aa8 h)
 have hc:=J0 (Ab5 hp)
 have hc1:=J0 (Az1 hp)
 have hro:=J0 (Af8 hf.sc ok.fit.len)
 have hres:=h.tm
 generalize T.vis.L.length=rows at *
 generalize P.h T.other=hh at s0 hsh
 generalize P.x T.other=xx at s0 hro
 generalize Aa2 l 0=n at *
 generalize atN l 1=b at *
 have hw:IntKind.i64.wrap (n - 1)=n - 1:=IntWalk.i64_in _ (by omega)
 have hw1:IntKind.i64.wrap (b - 1)=b - 1:=IntWalk.i64_in _ (by omega)
 have hw2:IntKind.i64.wrap ((rows:Int) - 1)=(rows:Int) - 1:=IntWalk.i64_in _ (by omega)
 have hd8:decide (b - 1<0)=true:=decide_eq_true hc0
 have hd9:decide (n - 1<(rows:Int) - 1)=false:=decide_eq_false hlt
 clear h ok hp hf
 go_enter Tryz.func199,Tryz.ntmps199
 go_wp2_with (first
  |(go_at_call 68;(with_reducible refine(hsh.out).mono ?_);rintro e w1 ⟨rfl,rfl⟩)
  |(go_at_call 237;(with_reducible refine(hc.out).mono ?_);rintro e w1 ⟨rfl,rfl⟩)
  |(go_at_call 241;(with_reducible refine(hc1.out).mono ?_);rintro e w1 ⟨rfl,rfl⟩)
  |(go_at_call 70;(with_reducible refine(hro.out).mono ?_);rintro e w1 ⟨rfl,rfl⟩))
 go_end0
 exact⟨⟨_,rfl⟩,hres,Scn.Fr.refl _ _ _⟩
theorem setm_by (h:TMx Z w t T P) (ok:Ok T) (hj:T.jr.length<=90000000) (hp:NA Z w v l) (hc0:¬atN l 1 - 1<0) (hc9:(T.vis.L.length:Int)<=atN l 1 - 1) (hlt:Aa2 l 0 - 1<(T.vis.L.length:Int) - 1) (hb0:0<=(T.vis.L.length:Int) - 1) (_hbb:(T.vis.L.length:Int) - 1<=(T.vis.L.length:Int) - 1):Calls Tryz.prog 199 #[.pointer (some ⟨t,0,none⟩),v] w (Does Z w t (home (T.putVis { T.vis with top:=(Aa2 l 0 - 1).toNat,bot:=((T.vis.L.length:Int) - 1).toNat }))):=by
 obtain⟨Z1,hf⟩:=h.focus
 have hn:=Ac4 l 0
 have ha:=Br2 l 1
 have hlen:=ok.fit.len
 have hl5:=ok.fit.len5
 have s0:=h.s0
 have hsh:=J0 (Aa8 h)
 have hc:=J0 (Ab5 hp)
 have hc1:=J0 (Az1 hp)
 have hro:=J0 (Af8 hf.sc ok.fit.len)
 have hok:Ax1 T.vis ((Aa2 l 0 - 1).toNat:Int) (((T.vis.L.length:Int) - 1).toNat:Int):=.inr ⟨by omega,by omega,by omega⟩
 have he:=Bp9 hf.sc ok.fit (Aa2 l 0 - 1).toNat ((T.vis.L.length:Int) - 1).toNat hok
 rw[Int.toNat_of_nonneg (show 0<=Aa2 l 0 - 1 by omega),Int.toNat_of_nonneg (show 0<=(T.vis.L.length:Int) - 1 by omega)] at he
 replace he:=J0 he
 have hbk:=J0 (fun w2 (h2:SC Z1 w2 (P.x T.other) P.s { T.vis with top:=(Aa2 l 0 - 1).toNat,bot:=((T.vis.L.length:Int) - 1).toNat }) (hf2:Scn.Fr Z1 PT w w2)=>hf.back w2 _ h2 rfl rfl hf2)
 have hho:=J0 (fun w2 (h2:TM Z w2 t (T.putVis { T.vis with top:=(Aa2 l 0 - 1).toNat,bot:=((T.vis.L.length:Int) - 1).toNat }))=>Bd2 h2 (ok.marg (by omega) (by omega)) (by rw[Ag2];exact hj))
 generalize T.putVis { T.vis with top:=(Aa2 l 0 - 1).toNat,bot:=((T.vis.L.length:Int) - 1).toNat }=T1 at hbk hho |-
 generalize ({ T.vis with top:=(Aa2 l 0 - 1).toNat,bot:=((T.vis.L.length:Int) - 1).toNat }:Scr)=S1 at he hbk
 generalize T.vis.L.length=rows at *
 generalize P.h T.other=hh at s0 hsh
 generalize P.x T.other=xx at s0 he hbk hro
 generalize Aa2 l 0=n at *
 generalize atN l 1=b at *
 have hw:IntKind.i64.wrap (n - 1)=n - 1:=IntWalk.i64_in _ (by omega)
 have hw1:IntKind.i64.wrap (b - 1)=b - 1:=IntWalk.i64_in _ (by omega)
 have hw2:IntKind.i64.wrap ((rows:Int) - 1)=(rows:Int) - 1:=IntWalk.i64_in _ (by omega)
 have hd8:decide (b - 1<0)=false:=decide_eq_false hc0
 have hd7:decide ((rows:Int)<=b - 1)=true:=decide_eq_true hc9
 have hd9:decide (n - 1<(rows:Int) - 1)=true:=decide_eq_true hlt
 clear h ok hj hp hf hok _hbb hb0
 go_enter Tryz.func199,Tryz.ntmps199
 go_wp2_with (first
  |(go_at_call 68;(with_reducible refine(hsh.out).mono ?_);rintro e w1 ⟨rfl,rfl⟩)
  |(go_at_call 237;(with_reducible refine(hc.out).mono ?_);rintro e w1 ⟨rfl,rfl⟩)
  |(go_at_call 241;(with_reducible refine(hc1.out).mono ?_);rintro e w1 ⟨rfl,rfl⟩)
  |(go_at_call 70;(with_reducible refine(hro.out).mono ?_);rintro e w1 ⟨rfl,rfl⟩)
  |(go_at_call 247;(with_reducible refine(he.out).mono ?_);rintro e w2 ⟨rfl,h2,hf2⟩))
 obtain⟨h3,hf3⟩:=hbk.out _ h2 hf2
 go_wp2_with (first
  |(go_at_call 248;(with_reducible refine(hho.out _ h3.tm).mono ?_);rintro e w4 ⟨⟨v4,rfl⟩,h4,hf4⟩))
 go_end0
 exact⟨⟨_,rfl⟩,h4,hf3.trans hf4⟩
theorem setm_bn (h:TMx Z w t T P) (ok:Ok T) (hp:NA Z w v l) (hc0:¬atN l 1 - 1<0) (hc9:(T.vis.L.length:Int)<=atN l 1 - 1) (hlt:¬Aa2 l 0 - 1<(T.vis.L.length:Int) - 1):Calls Tryz.prog 199 #[.pointer (some ⟨t,0,none⟩),v] w (Does Z w t T):=by
 obtain⟨Z1,hf⟩:=h.focus
 have hn:=Ac4 l 0
 have ha:=Br2 l 1
 have hlen:=ok.fit.len
 have hl5:=ok.fit.len5
 have s0:=h.s0
 have hsh:=J0 (Aa8 h)
 have hc:=J0 (Ab5 hp)
 have hc1:=J0 (Az1 hp)
 have hro:=J0 (Af8 hf.sc ok.fit.len)
 have hres:=h.tm
 generalize T.vis.L.length=rows at *
 generalize P.h T.other=hh at s0 hsh
 generalize P.x T.other=xx at s0 hro
 generalize Aa2 l 0=n at *
 generalize atN l 1=b at *
 have hw:IntKind.i64.wrap (n - 1)=n - 1:=IntWalk.i64_in _ (by omega)
 have hw1:IntKind.i64.wrap (b - 1)=b - 1:=IntWalk.i64_in _ (by omega)
 have hw2:IntKind.i64.wrap ((rows:Int) - 1)=(rows:Int) - 1:=IntWalk.i64_in _ (by omega)
 have hd8:decide (b - 1<0)=false:=decide_eq_false hc0
 have hd7:decide ((rows:Int)<=b - 1)=true:=decide_eq_true hc9
 have hd9:decide (n - 1<(rows:Int) - 1)=false:=decide_eq_false hlt
 clear h ok hp hf
 go_enter Tryz.func199,Tryz.ntmps199
 go_wp2_with (first
  |(go_at_call 68;(with_reducible refine(hsh.out).mono ?_);rintro e w1 ⟨rfl,rfl⟩)
  |(go_at_call 237;(with_reducible refine(hc.out).mono ?_);rintro e w1 ⟨rfl,rfl⟩)
  |(go_at_call 241;(with_reducible refine(hc1.out).mono ?_);rintro e w1 ⟨rfl,rfl⟩)
  |(go_at_call 70;(with_reducible refine(hro.out).mono ?_);rintro e w1 ⟨rfl,rfl⟩))
 go_end0
 exact⟨⟨_,rfl⟩,hres,Scn.Fr.refl _ _ _⟩
theorem setm_cy (h:TMx Z w t T P) (ok:Ok T) (hj:T.jr.length<=90000000) (hp:NA Z w v l) (hc0:¬atN l 1 - 1<0) (hc9:¬(T.vis.L.length:Int)<=atN l 1 - 1) (hlt:Aa2 l 0 - 1<atN l 1 - 1) (hb0:0<=atN l 1 - 1) (_hbb:atN l 1 - 1<=(T.vis.L.length:Int) - 1):Calls Tryz.prog 199 #[.pointer (some ⟨t,0,none⟩),v] w (Does Z w t (home (T.putVis { T.vis with top:=(Aa2 l 0 - 1).toNat,bot:=(atN l 1 - 1).toNat }))):=by
 obtain⟨Z1,hf⟩:=h.focus
 have hn:=Ac4 l 0
 have ha:=Br2 l 1
 have hlen:=ok.fit.len
 have hl5:=ok.fit.len5
 have s0:=h.s0
 have hsh:=J0 (Aa8 h)
 have hc:=J0 (Ab5 hp)
 have hc1:=J0 (Az1 hp)
 have hro:=J0 (Af8 hf.sc ok.fit.len)
 have hok:Ax1 T.vis ((Aa2 l 0 - 1).toNat:Int) ((atN l 1 - 1).toNat:Int):=.inr ⟨by omega,by omega,by omega⟩
 have he:=Bp9 hf.sc ok.fit (Aa2 l 0 - 1).toNat (atN l 1 - 1).toNat hok
 rw[Int.toNat_of_nonneg (show 0<=Aa2 l 0 - 1 by omega),Int.toNat_of_nonneg (show 0<=atN l 1 - 1 by omega)] at he
 replace he:=J0 he
 have hbk:=J0 (fun w2 (h2:SC Z1 w2 (P.x T.other) P.s { T.vis with top:=(Aa2 l 0 - 1).toNat,bot:=(atN l 1 - 1).toNat }) (hf2:Scn.Fr Z1 PT w w2)=>hf.back w2 _ h2 rfl rfl hf2)
 have hho:=J0 (fun w2 (h2:TM Z w2 t (T.putVis { T.vis with top:=(Aa2 l 0 - 1).toNat,bot:=(atN l 1 - 1).toNat }))=>Bd2 h2 (ok.marg (by omega) (by omega)) (by rw[Ag2];exact hj))
 generalize T.putVis { T.vis with top:=(Aa2 l 0 - 1).toNat,bot:=(atN l 1 - 1).toNat }=T1 at hbk hho |-
 generalize ({ T.vis with top:=(Aa2 l 0 - 1).toNat,bot:=(atN l 1 - 1).toNat }:Scr)=S1 at he hbk
 generalize T.vis.L.length=rows at *
 generalize P.h T.other=hh at s0 hsh
 generalize P.x T.other=xx at s0 he hbk hro
 generalize Aa2 l 0=n at *
 generalize atN l 1=b at *
 have hw:IntKind.i64.wrap (n - 1)=n - 1:=IntWalk.i64_in _ (by omega)
 have hw1:IntKind.i64.wrap (b - 1)=b - 1:=IntWalk.i64_in _ (by omega)
 have hw2:IntKind.i64.wrap ((rows:Int) - 1)=(rows:Int) - 1:=IntWalk.i64_in _ (by omega)
 have hd8:decide (b - 1<0)=false:=decide_eq_false hc0
 have hd7:decide ((rows:Int)<=b - 1)=false:=decide_eq_false hc9
 have hd9:decide (n - 1<b - 1)=true:=decide_eq_true hlt
 clear h ok hj hp hf hok _hbb hb0
 go_enter Tryz.func199,Tryz.ntmps199
 go_wp2_with (first
  |(go_at_call 68;(with_reducible refine(hsh.out).mono ?_);rintro e w1 ⟨rfl,rfl⟩)
  |(go_at_call 237;(with_reducible refine(hc.out).mono ?_);rintro e w1 ⟨rfl,rfl⟩)
  |(go_at_call 241;(with_reducible refine(hc1.out).mono ?_);rintro e w1 ⟨rfl,rfl⟩)
  |(go_at_call 70;(with_reducible refine(hro.out).mono ?_);rintro e w1 ⟨rfl,rfl⟩)
  |(go_at_call 247;(with_reducible refine(he.out).mono ?_);rintro e w2 ⟨rfl,h2,hf2⟩))
 obtain⟨h3,hf3⟩:=hbk.out _ h2 hf2
 go_wp2_with (first
  |(go_at_call 248;(with_reducible refine(hho.out _ h3.tm).mono ?_);rintro e w4 ⟨⟨v4,rfl⟩,h4,hf4⟩))
 go_end0
 exact⟨⟨_,rfl⟩,h4,hf3.trans hf4⟩
theorem setm_cn (h:TMx Z w t T P) (ok:Ok T) (hp:NA Z w v l) (hc0:¬atN l 1 - 1<0) (hc9:¬(T.vis.L.length:Int)<=atN l 1 - 1) (hlt:¬Aa2 l 0 - 1<atN l 1 - 1):Calls Tryz.prog 199 #[.pointer (some ⟨t,0,none⟩),v] w (Does Z w t T):=by
 obtain⟨Z1,hf⟩:=h.focus
 have hn:=Ac4 l 0
 have ha:=Br2 l 1
 have hlen:=ok.fit.len
 have hl5:=ok.fit.len5
 have s0:=h.s0
 have hsh:=J0 (Aa8 h)
 have hc:=J0 (Ab5 hp)
 have hc1:=J0 (Az1 hp)
 have hro:=J0 (Af8 hf.sc ok.fit.len)
 have hres:=h.tm
 generalize T.vis.L.length=rows at *
 generalize P.h T.other=hh at s0 hsh
 generalize P.x T.other=xx at s0 hro
 generalize Aa2 l 0=n at *
 generalize atN l 1=b at *
 have hw:IntKind.i64.wrap (n - 1)=n - 1:=IntWalk.i64_in _ (by omega)
 have hw1:IntKind.i64.wrap (b - 1)=b - 1:=IntWalk.i64_in _ (by omega)
 have hw2:IntKind.i64.wrap ((rows:Int) - 1)=(rows:Int) - 1:=IntWalk.i64_in _ (by omega)
 have hd8:decide (b - 1<0)=false:=decide_eq_false hc0
 have hd7:decide ((rows:Int)<=b - 1)=false:=decide_eq_false hc9
 have hd9:decide (n - 1<b - 1)=false:=decide_eq_false hlt
 clear h ok hp hf
 go_enter Tryz.func199,Tryz.ntmps199
 go_wp2_with (first
  |(go_at_call 68;(with_reducible refine(hsh.out).mono ?_);rintro e w1 ⟨rfl,rfl⟩)
  |(go_at_call 237;(with_reducible refine(hc.out).mono ?_);rintro e w1 ⟨rfl,rfl⟩)
  |(go_at_call 241;(with_reducible refine(hc1.out).mono ?_);rintro e w1 ⟨rfl,rfl⟩)
  |(go_at_call 70;(with_reducible refine(hro.out).mono ?_);rintro e w1 ⟨rfl,rfl⟩))
 go_end0
 exact⟨⟨_,rfl⟩,hres,Scn.Fr.refl _ _ _⟩
theorem setMargins_any (h:TM Z w t T) (ok:Ok T) (hj:T.jr.length<=90000000) (hp:NA Z w v l):Calls Tryz.prog 199 #[.pointer (some ⟨t,0,none⟩),v] w (Does Z w t (setMargins T l)):=by
 obtain⟨P,h⟩:=h
 have hlen:=ok.fit.len
 unfold setMargins
 by_cases h0:atN l 1 - 1<0
 ·have hB:Bc6 T l=(T.vis.L.length:Int) - 1:=by unfold Bc6;rw[if_pos (.inl h0)]
  rw[hB]
  split
  ·exact setm_ay h ok hj hp h0 (by assumption) (by omega) (by omega)
  ·exact setm_an h ok hp h0 (by assumption)
 ·by_cases h1:(T.vis.L.length:Int)<=atN l 1 - 1
  ·have hB:Bc6 T l=(T.vis.L.length:Int) - 1:=by unfold Bc6;rw[if_pos (.inr h1)]
   rw[hB]
   split
   ·exact setm_by h ok hj hp h0 h1 (by assumption) (by omega) (by omega)
   ·exact setm_bn h ok hp h0 h1 (by assumption)
  ·have hB:Bc6 T l=atN l 1 - 1:=by unfold Bc6;rw[if_neg (by omega)]
   rw[hB]
   split
   ·exact setm_cy h ok hj hp h0 h1 (by assumption) (by omega) (by omega)
   ·exact setm_cn h ok hp h0 h1 (by assumption)
end
section
variable {Z Z1:Zn}{w w':World}{t x s:Nat}{S:Scr}{T:Ter}{P:Pt}{v:Value}{l:List Int}{f j:Nat}
theorem Ae2 (L:List Ln) (f u cols:Nat) (a:At):(eraRows L f u cols a).length=L.length:=by simp[eraRows]
theorem eraRows_nil (L:List Ln) (f cols:Nat) (a:At):eraRows L f f cols a=L:=by
 apply List.ext_getElem (Ae2 _ _ _ _ _)
 intro i h1 h2
 simp only[eraRows,List.getElem_mapIdx]
 rw[if_neg (by omega)]
theorem eraRows_at (L:List Ln) (f u cols:Nat) (a:At) {i:Nat} (h:i<L.length) (hn:¬(f<=i/\i<u)):(eraRows L f u cols a)[i]?=some L[i]:=by
 rw[List.getElem?_eq_getElem (by rw[Ae2];exact h)]
 simp only[eraRows,List.getElem_mapIdx]
 rw[if_neg hn]
def eraS (S:Scr) (f u:Nat) (a:At):Scr:={ S with L:=eraRows S.L f u S.cols a }
theorem eraS_nil (S:Scr) (f:Nat) (a:At):eraS S f f a=S:=by unfold eraS;rw[eraRows_nil]
theorem eraS_step (S:Scr) {f j:Nat} (a:At) (hf:f<=j) (hj:j<S.L.length):Ae0 (eraS S f j a) j (eraL (Ab1 (eraS S f j a) j) 0 S.cols a)=eraS S f (j+1) a:=by
 have hl:Ab1 (eraS S f j a) j=S.L[j].2:=by
  unfold Ab1 eraS
  rw[eraRows_at _ _ _ _ _ hj (by omega)]
  rfl
 rw[hl]
 unfold Ae0 eraS
 simp only
 congr 1
 apply List.ext_getElem (by simp[Ae2])
 intro i h1 h2
 rw[List.getElem_modify]
 simp only[eraRows,List.getElem_mapIdx]
 by_cases e:j=i
 ·subst e
  rw[if_pos rfl,if_pos (show f<=j/\j<j+1 by omega),if_neg (show ¬(f<=j/\j<j) by omega)]
 ·rw[if_neg e]
  by_cases hi:f<=i/\i<j
  ·rw[if_pos hi,if_pos (by omega)]
  ·rw[if_neg hi,if_neg (by omega)]
theorem fit_eraS (h:Fit S) (f u:Nat) (a:At):Fit (eraS S f u a):=by
 have hm:∀p∈(eraS S f u a).L,∃q∈S.L,p.1=q.1/\p.2.length=q.2.length:=fun p hp=>by
  obtain⟨i,hi,e⟩:=List.mem_iff_getElem.1 hp
  have hi':i<S.L.length:=by simpa[eraS,Ae2] using hi
  refine⟨S.L[i],List.getElem_mem hi',?_⟩
  simp only[eraS,eraRows,List.getElem_mapIdx] at e
  split at e
  ·rw[<- e];exact⟨rfl,Av6 _ _ _ _⟩
  ·rw[<- e];exact⟨rfl,rfl⟩
 have hl:(eraS S f u a).L.length=S.L.length:=Ae2 _ _ _ _ _
 refine⟨by rw[hl];exact h.len,by rw[hl];exact h.len5,by rw[hl];exact h.bot,h.top,h.c1,h.c5,fun p hp=>?_,fun p hp=>?_,h.pos⟩
 ·obtain⟨q,hq,_,e⟩:=hm p hp
  rw[e];exact h.wid q hq
 ·obtain⟨q,hq,e,_⟩:=hm p hp
  rw[e];exact h.ids q hq
theorem Ok.era (h:Ok T) (f u:Nat):Ok (eraseRows T f u):=h.putVis rfl rfl (fit_eraS h.fit f u T.p.a) (Ae2 _ _ _ _ _) rfl (J5 _)
theorem Cu8 (T:Ter) (S:Scr) (P:Pt):P.x (T.putVis S).other=P.x T.other:=by
 obtain⟨m,c,p,nx,most,R,main,other,tn,tf,pr,la,jr,rp⟩:=T
 cases other<;>rfl
theorem put_h (T:Ter) (S:Scr) (P:Pt):P.h (T.putVis S).other=P.h T.other:=by
 obtain⟨m,c,p,nx,most,R,main,other,tn,tf,pr,la,jr,rp⟩:=T
 cases other<;>rfl
theorem Bb3 (T:Ter) (f u:Nat):eraseRows T f u=T.putVis (eraS T.vis f u T.p.a):=rfl
theorem era_turn (h:TMx Z w t (eraseRows T f j) P) (hf:f<=j) (hj:j<T.vis.L.length):∃Z1 d,Ae1 Z1 w (P.x T.other) P.s (eraS T.vis f j T.p.a) j d/\SC Z1 w (P.x T.other) P.s (eraS T.vis f j T.p.a) /\
  ∀w1 w2,Below w.heap.size w w1->Ae1 Z1 w2 (P.x T.other) P.s (Ae0 (eraS T.vis f j T.p.a) j (eraL (Ab1 (eraS T.vis f j T.p.a) j) 0 T.vis.cols T.p.a)) j d->Scn.Fr Z1 PT w1 w2->TMx Z w2 t (eraseRows T f (j+1)) P/\Scn.Fr Z TT w w2:=by
 obtain⟨Z1,hfo⟩:=h.focus
 have hv:(eraseRows T f j).vis=eraS T.vis f j T.p.a:=Bx8 rfl rfl
 have hx:P.x (eraseRows T f j).other=P.x T.other:=Cu8 _ _ _
 have hsc:=hfo.sc
 rw[hv,hx] at hsc
 obtain⟨d,hd⟩:=Ag4 hsc (i:=j) (by show j<(eraRows _ _ _ _ _).length;rw[Ae2];exact hj)
 refine⟨Z1,d,hd,hsc,fun w1 w2 hb h2 hf2=>?_⟩
 rw[eraS_step _ _ hf hj] at h2
 have h3:=Am2 h2
 rw[<- hx] at h3
 have:=hfo.back w2 _ h3 (by show T.most=_;exact(put_most _ _).symm) (by show T.other.isNone=_;exact(put_isNone _ _).symm) ((Scn.Fr.of_below hb).trans hf2)
 rw[Bb3,put_put] at this
 exact this
theorem Av8 (h:TM Z w t T) (ok:Ok T) (f u:Nat) (hfu:f<=u) (hu:u<=T.vis.L.length):Calls Tryz.prog 242 #[.pointer (some ⟨t,0,none⟩),.int .i64 f,.int .i64 u] w (Does Z w t (eraseRows T f u)):=by
 obtain⟨P,h⟩:=h
 have hsh:=J0 (Aa8 h)
 have hl5:=ok.fit.len5
 have hl1:=ok.fit.len
 have hst:eraseRows T f f=T:=by rw[Bb3,eraS_nil,Aq1]
 obtain⟨hh,hhe⟩:∃hh,hh=P.h T.other:=⟨_,rfl⟩
 rw[<- hhe] at hsh
 obtain⟨xx,hxe⟩:∃xx,xx=P.x T.other:=⟨_,rfl⟩
 obtain⟨a,hae⟩:∃a,a=T.p.a:=⟨_,rfl⟩
 obtain⟨cols,hce⟩:∃c,c=T.vis.cols:=⟨_,rfl⟩
 have hsp:=fun j w1 (h1:TMx Z w1 t (eraseRows T f j) P) (hf:f<=j) (hj:j<T.vis.L.length)=>era_turn h1 hf hj
 have hpc:∀j,(eraseRows T f j).p=T.p:=fun j=>Cu6 _ _
 have hpo:∀j,P.h (eraseRows T f j).other=P.h T.other:=fun j=>put_h _ _ _
 have hpx:∀j,P.x (eraseRows T f j).other=P.x T.other:=fun j=>Cu8 _ _ _
 have hall:=fun j w1 (h1:TMx Z w1 t (eraseRows T f j) P)=>And.intro (hxe▸hhe▸hpo j▸hpx j▸h1.s0) (And.intro (hae▸hpc j▸h1.c11) (And.intro (hae▸hpc j▸h1.c12) (hae▸hpc j▸h1.c13)))
 rw[<- hxe,<- hae,<- hce] at hsp
 replace hsp:=J0 hsp
 replace hall:=J0 hall
 have hls:∀j,(eraS T.vis f j a).L.length=T.vis.L.length:=fun j=>Ae2 _ _ _ _ _
 have hlc:∀j,(eraS T.vis f j a).cols=cols:=fun j=>hce.symm
 generalize hrows:T.vis.L.length=rows at *
 replace hrows:=J0 hrows
 replace h:Hid (TMx Z w t (eraseRows T f f) P):=J0 (by rw[hst];exact h)
 replace hls:=J0 hls
 replace hlc:=J0 hlc
 generalize eraS T.vis f=E at *
 obtain⟨R,hR⟩:∃R,R=eraseRows T f:=⟨_,rfl⟩
 rw[<- hR] at h hsp hall |-
 clear ok hhe hxe hce hpc hpo hpx hst hrows hR
 obtain⟨af,ab,ag⟩:=a
 simp only at hall
 clear hae
 go_enter Tryz.func242,Tryz.ntmps242
 go_wp2_with (first
  |(go_at_call 68;(with_reducible refine(hsh.out).mono ?_);rintro e w1 ⟨rfl,rfl⟩))
 go_loopw [7] (fun iv wr=>∃j:Nat,f<=j/\j<=u/\iv=.int .i64 j/\Hid (TMx Z wr t (R j) P/\Scn.Fr Z TT w wr)) (fun iv _=>u - (intOf iv).toNat)
 case atStart=>exact⟨f,J5 _,hfu,rfl,J0 ⟨h.out,Scn.Fr.refl _ _ _⟩⟩
 case round =>
  obtain⟨j,hj0,hj,rfl,hRr⟩:=hrel
  obtain⟨hM,hfr⟩:=hRr.out
  clear hRr
  by_cases hlt:j<u
  ·have hjI:(j:Int)<(u:Int):=by omega
   obtain⟨Z1,d,hd,hsc,hbk⟩:=hsp.out j wr hM hj0 (by omega)
   have s0:=fun k:Eqt.Ext wr=>(hall.out j _ (hM.below k.below)).1
   have c11:=fun k:Eqt.Ext wr=>(hall.out j _ (hM.below k.below)).2.1
   have c12:=fun k:Eqt.Ext wr=>(hall.out j _ (hM.below k.below)).2.2.1
   have c13:=fun k:Eqt.Ext wr=>(hall.out j _ (hM.below k.below)).2.2.2
   have hrw:=J0 (fun k:Eqt.Ext wr=>Cu9 (Aa7 hd k.below) (by rw[hls.out];exact hl1) (by rw[hls.out];omega))
   have hco:=fun k:Eqt.Ext wr=>Ai2 (hsc.below k.below) (by rw[hls.out];exact hl1)
   simp only[hlc.out] at hco
   replace hco:=J0 hco
   have he:=J0 (fun w1 (hb:Below wr.heap.size wr w1)=>Be6 (Aa7 hd hb) 0 cols ⟨af,ab,ag⟩)
   replace hbk:=J0 (fun w1 w2 hb h2 hf2=>(⟨(hbk w1 w2 hb h2 hf2).1,hfr.trans (hbk w1 w2 hb h2 hf2).2⟩:TMx Z w2 t (R (j+1)) P/\Scn.Fr Z TT w w2))
   generalize Ae0 (E j ⟨af,ab,ag⟩) j (eraL (Ab1 (E j ⟨af,ab,ag⟩) j) 0 cols ⟨af,ab,ag⟩)=S1 at he hbk
   clear hM hfr hd hsc h hsh hsp hall hls hlc
   go_wp2
   refine Eqt.region_ext_tail 16 (by kernel_rfl) (by kernel_rfl) ?_
   simp only[List.take_succ_cons,List.take_zero,List.drop_succ_cons,List.drop_zero]
   repeat (go_big_quiet_step (first
    |(go_at_call 71;exact Eqt.q_ext_same (hrw.out _))
    |(go_at_call 124;exact Eqt.q_ext_same (hco.out _))))
   refine wpQuiet_nil ?_
   intro w9 hw9
   obtain⟨k9,rfl⟩:=hw9
   have hb9:=k9.below
   generalize k9.w=w9 at hb9 |-
   go_wp2_with (first
    |(go_at_call 148;(with_reducible refine(he.out _ hb9).mono ?_);rintro e w2 ⟨rfl,h2,hf2⟩))
   have hres:=J0 (hbk.out _ _ hb9 h2 hf2)
   clear h2 hf2
   go_roundw
   case rel=>exact⟨j+1,by omega,by omega,by go_num,hres⟩
   case measure=>simp[intOf];omega
  ·obtain rfl:j=u:=by omega
   have hno:decide ((j:Int)<(j:Int))=false:=by simp
   have hres:=J0 (And.intro hM hfr)
   clear hM hfr h hsh hsp hall hls hlc
   go_wp2
   go_end0
   exact⟨⟨_,rfl⟩,hres.out.1.tm,hres.out.2⟩
end
