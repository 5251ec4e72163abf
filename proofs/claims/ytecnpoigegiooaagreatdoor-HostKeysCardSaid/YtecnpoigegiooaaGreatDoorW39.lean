/- Part 39 of HostKeys. -/
import Derived.Test.YtecnpoigegiooaaGreatDoorW38
set_option maxHeartbeats 16000000
set_option maxRecDepth 100000
namespace Go.Proofs.YtecnpoigegiooaaGreatDoor.Hos
open Go.Proofs.Tryz
open Go Com Emu
structure Hst where
 dec:Utf.Dec
 ps:Prs.PS
 T:Ter
 B8:List Int
def toX(A:Prs.Act):AcT:=⟨A.kind,A.R,A.L7,A.params,A.inter,A.final,A.text⟩
def Aey(T:Ter)(As:List Prs.Act):Ter:=As.foldl (fun T A=>doT T (toX A)) T
structure Tri where
 dec:Utf.Dec
 ps:Prs.PS
 T:Ter
def Tri.rune(X:Tri)(r:Int):Tri:=⟨X.dec,(Prs.Q5 X.ps r).2,Aey X.T (Prs.Q5 X.ps r).1⟩
def Tri.U3(X:Tri)(l:List Int):Tri:=l.foldl Tri.rune X
def Tri.byte(X:Tri)(x:Int):Tri:=Tri.U3 ⟨(Utf.M8 X.dec x).1,X.ps,X.T⟩ (Utf.M8 X.dec x).2
def Tri.hand(X:Tri)(b:List Int):Tri:=b.foldl Tri.byte X
def Hst.tri(H:Hst):Tri:=⟨H.dec,H.ps,H.T⟩
def Hst.bytes(H:Hst)(b:List Int):Hst :=
 ⟨(H.tri.hand b).dec,(H.tri.hand b).ps,{ { (H.tri.hand b).T with rp:=[] }with jr:=[] },H.B8++(H.tri.hand b).T.rp⟩
def Hst.told(H:Hst)(b:List Int):List Ev:=(H.tri.hand b).T.jr
theorem Bze(T:Ter)(As:List Prs.Act)(A:Prs.Act):Aey T (As++[A])=doT (Aey T As) (toX A):=by simp[Aey]
theorem Bvw{T:Ter}{As:List Prs.Act}{k:Nat}(hk:k<As.length):Aey T (As.take (k+1))=doT (Aey T (As.take k)) (toX As[k]):=by
 rw[List.take_succ_eq_append_getElem hk,Bze]
theorem Byn{X:Tri}{l:List Int}{k:Nat}(hk:k<l.length):X.U3 (l.take (k+1))=(X.U3 (l.take k)).rune l[k]:=by
 rw[List.take_succ_eq_append_getElem hk]
 unfold Tri.U3
 rw[List.foldl_append]
 rfl
theorem Car{X:Tri}{l:List Int}{k:Nat}(hk:k<l.length):X.hand (l.take (k+1))=(X.hand (l.take k)).byte l[k]:=by
 rw[List.take_succ_eq_append_getElem hk]
 unfold Tri.hand
 rw[List.foldl_append]
 rfl
structure Rh(c N J R P:Nat)(T:Ter):Prop where
 ok:Ok T
 len:T.vis.L.length<=24
 cols:T.vis.cols<=c
 nx:T.nx<=N
 jr:T.jr.length<=J
 rp:T.rp.length<=R
 pr:T.C5<=P
section
variable {c N J R P N' J' R' P':Nat}{T:Ter}{A:Prs.Act}
theorem Rh.mono(h:Rh c N J R P T)(h1:N<=N')(h2:J<=J')(h3:R<=R')(h4:P<=P'):Rh c N' J' R' P' T:=by
 obtain⟨a,b,b2,c,d,e,f⟩:=h
 exact⟨a,b,b2,by omega,by omega,by omega,by omega⟩
theorem Rh.act(h:Rh c N J R P T)(hA:Aed A):Rh c (N+1000) (J+100) (R+20) (P+1) (doT T (toX A)):=by
 obtain⟨a,b,b2,c,d,e,f⟩:=h
 have g:=Boz a (toX A)
 have gn:=g.nx
 have gl:=g.len
 have hf:(toX A).params.length<=32:=hA.few
 have g5:((toX A).params.length+1)*T.vis.L.length<=33*24:=Nat.mul_le_mul (by omega) b
 have gj:=g.jr
 have gr:=g.rp
 have gp:=g.pr
 have gc:=g.cols
 exact⟨g.ok,by omega,by omega,by omega,by omega,by omega,by omega⟩
theorem Rh.roomy(h:Rh c N J R P T)(hA:Aed A)(hN:N<=9000000000)(hJ:J<=80000000)(hR:R<=9000000000)(hP:P<=9000000):Emu.Roomy T (toX A):=by
 obtain⟨a,b,b2,c,d,e,f⟩:=h
 have hf:(toX A).params.length<=32:=hA.few
 have hr:=a.rows
 exact⟨by omega,by omega,by omega,by omega,by rw[hr];omega⟩
theorem Rh.M9{As:List Prs.Act}:∀ {N J R P:Nat} {T:Ter},Rh c N J R P T->(∀A∈As,Aed A)->Rh c (N+1000*As.length) (J+100*As.length) (R+20*As.length) (P+As.length) (Aey T As):=by
 induction As with
 |nil=>exact fun h _=>h.mono (by omega) (by omega) (by omega) (by omega)
 |cons A As ih =>
  intro N J R P T h ht
  have h1:=ih (h.act (ht A (by simp))) (fun o' ho=>ht o' (by simp[ho]))
  exact h1.mono (by simp;omega) (by simp;omega) (by simp;omega) (by simp;omega)
end
structure Tr(c N J R P:Nat)(X:Tri):Prop where
 dec:X.dec.Ok
 ps:PSW X.ps
 rh:Rh c N J R P X.T
section
variable {c N J R P N' J' R' P':Nat}{X:Tri}
theorem Tr.mono(h:Tr c N J R P X)(h1:N<=N')(h2:J<=J')(h3:R<=R')(h4:P<=P'):Tr c N' J' R' P' X:=⟨h.dec,h.ps,h.rh.mono h1 h2 h3 h4⟩
theorem Tr.rune(h:Tr c N J R P X)(r:Int):Tr c (N+2000) (J+200) (R+40) (P+2) (X.rune r):=by
 obtain⟨g1,g2,g3⟩:=h.ps.feed r
 exact⟨h.dec,g1,(h.rh.M9 g2).mono (by omega) (by omega) (by omega) (by omega)⟩
theorem Tr.U3{l:List Int}:∀ {N J R P:Nat} {X:Tri},Tr c N J R P X->Tr c (N+2000*l.length) (J+200*l.length) (R+40*l.length) (P+2*l.length) (X.U3 l):=by
 induction l with
 |nil=>exact fun h=>h.mono (by omega) (by omega) (by omega) (by omega)
 |cons r l ih =>
  intro N J R P X h
  exact(ih (h.rune r)).mono (by simp;omega) (by simp;omega) (by simp;omega) (by simp;omega)
theorem Tr.byte(h:Tr c N J R P X){x:Int}(hx:Utf.Aer x):Tr c (N+4000) (J+400) (R+80) (P+4) (X.byte x):=by
 have h1:Tr c N J R P ⟨(Utf.M8 X.dec x).1,X.ps,X.T⟩:=⟨Utf.Bni h.dec hx,h.ps,h.rh⟩
 have h2:=Utf.take_len X.dec x
 exact(Tr.U3 (l:=(Utf.M8 X.dec x).2) h1).mono (by omega) (by omega) (by omega) (by omega)
theorem Tr.hand{b:List Int}:∀ {N J R P:Nat} {X:Tri},Tr c N J R P X->Utf.Bytes b->Tr c (N+4000*b.length) (J+400*b.length) (R+80*b.length) (P+4*b.length) (X.hand b):=by
 induction b with
 |nil=>exact fun h _=>h.mono (by omega) (by omega) (by omega) (by omega)
 |cons x b ih =>
  intro N J R P X h hb
  exact(ih (h.byte (hb x (by simp))) (fun y hy=>hb y (by simp[hy]))).mono (by simp;omega) (by simp;omega) (by simp;omega) (by simp;omega)
end
end Go.Proofs.YtecnpoigegiooaaGreatDoor.Hos
namespace Go.Proofs.YtecnpoigegiooaaGreatDoor.Emu
open Go.Proofs.Tryz
open Go RowKit Com Rw Lns Scn
section
variable {w w':World}
def Bcw(most:Nat):Ter:=⟨Mds.Axa,Acd,Aoy,1,most,[],⟨0,0,0,[],Ate⟩,none,0,fun _=>false,0,ev0,[],[]⟩
def Afc (s:Nat):Array Value:=#[.bool false,.bool false,.bool false,.bool false,.bool false,.bool false,.bool false,.bool false,.int .i64 0,.int .i64 0,.bool false,.int .u32 0,.int .u32 0,.int .u16 0,.int .u8 0,.int .u8 0,.int .i64 0,.pointer (some ⟨s,0,none⟩),.pointer none,.pointer none,.pointer none,.int .u64 0,
 .int .u8 0,.int .u64 0,.int .i64 0,.int .i64 0,.bool false,.int .i32 0,.bool false,.bool false,.bool false,.bool false,.slice none 0 0,.slice none 0 0]
theorem Bkn(s most:Nat):Afc s=Aoz (Bcw most) s (.pointer none) (.pointer none) (.pointer none) (.slice none 0 0) (.slice none 0 0):=by kernel_rfl
theorem Cmu{B s nx most:Nat}{sv:Value}{R:List En}(h:SX B w s nx most sv R):SX 0 w s nx most sv R:=by
 obtain⟨⟨o,P,h0,hR⟩,hg⟩:=h
 refine⟨⟨o,P,⟨h0.blk,⟨h0.own.1,?_⟩,h0.le,h0.old,h0.olt,h0.most,h0.pos,h0.small,Nat.zero_le _⟩,hR⟩,fun e he=>?_⟩
 ·rcases h0.own.2 with h2|⟨g,cap,cur,e,_,r⟩
  ·exact .inl h2
  ·exact .inr ⟨g,cap,cur,e,Nat.zero_le _,r⟩
 ·obtain⟨g1,_,_,g4⟩:=hg e he
  exact⟨g1,Nat.zero_le _,Nat.zero_le _,g4⟩
theorem Cdk{t s:Nat}(rows cols:Int)(c17:w.cell? ⟨t,17,none⟩=some (.pointer (some ⟨s,0,none⟩)))(hno:¬(1<=rows/\rows<=512)\/¬(1<=cols/\cols<=512)):Calls prog 35 #[.pointer (some ⟨t,0,none⟩),.int .i64 rows,.int .i64 cols] w fun e w'=>e=.returned (.int .i64 2)/\w=w':=by
 have hn:=J0 (Cmf rows cols (some ⟨s,0,none⟩) true w (hno.imp id .inl))
 clear hno
 go_enter func35,ntmps35
 go_wp2_with((go_at_call 54;(with_reducible refine(hn.out).mono ?_);rintro e w1 ⟨rfl,rfl⟩))
 go_ret
 exact⟨rfl,rfl⟩
theorem Ccv(rows cols most:Int)(h:most<0\/10000<most)(w:World):Calls prog 18 #[.int .i64 rows,.int .i64 cols,.int .i64 most] w fun e w'=>e=.returned (.tuple #[.pointer none,.int .i64 2])/\Below w.heap.size w w':=by
 have hn:=J0 (Lns.Cpg most h w)
 go_enter func18,ntmps18
 go_wp2_with((go_at_call 34;(with_reducible refine(hn.out).mono ?_);rintro e w1 ⟨rfl,rfl⟩))
 go_ret2
 exact⟨rfl,Below.refl _ _⟩
theorem Ccw(rows cols:Int)(most:Nat)(hm:most<=10000)(hno:¬(1<=rows/\rows<=512)\/¬(1<=cols/\cols<=512))(w:World):Calls prog 18 #[.int .i64 rows,.int .i64 cols,.int .i64 most] w fun e w'=>e=.returned (.tuple #[.pointer none,.int .i64 2])/\Below w.heap.size w w':=by
 have hln:=J0 (Avs most hm w)
 have hbg:Hid (∀w1:World,Calls prog 35 #[.pointer (some ⟨w1.heap.size,0,none⟩),.int .i64 rows,.int .i64 cols] (w1.alloc (.cells (Afc w.heap.size) 102)) fun e w'=>e=.returned (.int .i64 2)/\w1.alloc (.cells (Afc w.heap.size) 102)=w'):=J0 fun w1 =>
  Cdk rows cols ((Block.made w1 102 (Afc w.heap.size)).cell 17 rfl) hno
 simp only[Afc]at hbg
 clear hno
 go_enter func18,ntmps18
 go_wp2_with (first
  |(go_at_call 34;(with_reducible refine(hln.out).mono ?_);rintro e w1 ⟨rfl,_,hb1⟩)
  |(go_at_call 35;(with_reducible refine(hbg.out _).mono ?_);rintro e w3 ⟨rfl,rfl⟩))
 go_ret2
 exact⟨rfl,A2 hb1 (A3 w1 _)⟩
end
structure TV(Z:Zn)(w:World)(d t:Nat)(T:Ter):Prop where
 blk:Block w d 105 #[.pointer (some ⟨t,0,none⟩)]
 tm:TM Z w t T
section
variable {Z:Zn}{w w':World}{d t:Nat}{T:Ter}{x:AcT}{pa ia ta:Option Addr}{pn pc ic tn tc:Nat}
theorem TV.below(h:TV Z w d t T)(hb:Below w.heap.size w w'):TV Z w' d t T:=⟨Block.only h.blk (A0.A1 hb []) (by simp),h.tm.below hb⟩
theorem TV.G9{T':Ter}(h:TV Z w d t T)(h1:TM Z w' t T')(hf:Scn.Fr Z TT w w'):TV Z w' d t T':=⟨Scn.Block.fr h.blk hf (.inl (by decide)),h1⟩
theorem W6(h:TV Z w d t T):Calls prog 49 #[.pointer (some ⟨d,0,none⟩)] w fun e w'=>e=.returned (.bool true)/\w=w':=by
 have c0:=h.blk.cell 0 (v:=.pointer (some ⟨t,0,none⟩)) rfl
 clear h
 go_enter func49,ntmps49
 go_wp2
 go_ret
 exact⟨rfl,rfl⟩
theorem Cmx(h:TV Z w d t T)(ok:Ok T)(hw:Wf x)(hR:Roomy T x)(hp:NA Z w (.slice pa pn pc) x.params)(hra:RA Z w ia x.inter):Calls prog 37 #[.pointer (some ⟨d,0,none⟩),.agg #[.int .u8 x.kind,.int .i32 x.r,.int .i32 x.L7,.slice pa pn pc,.slice ia x.inter.length ic,.int .i32 x.fin,.slice ta tn tc]] w fun e w'=>e=.returned (.int .i64 0)/\TV Z w' d t (doT T x)/\Scn.Fr Z TT w w':=by
 have hbn:=A3 w (.cells #[.int .u8 x.kind,.int .i32 x.r,.int .i32 x.L7,.slice pa pn pc,.slice ia x.inter.length ic,.int .i32 x.fin,.slice ta tn tc] 151)
 have hbx:=Block.made w 151 #[.int .u8 x.kind,.int .i32 x.r,.int .i32 x.L7,.slice pa pn pc,.slice ia x.inter.length ic,.int .i32 x.fin,.slice ta tn tc]
 have hm:=J0 (W6 (h.below hbn))
 have hdo:=J0 (fun w1 (hb:Below w.heap.size w w1)=>Cof (pa:=pa) (pn:=pn) (pc:=pc) (ia:=ia) (ic:=ic) (ta:=ta) (tn:=tn) (tc:=tc) (h.below hb).tm ok hw hR (hp.below hb) (hra.below hb))
 have hcd:=J0 (fun w1 (hb:Below w.heap.size w w1)=>(h.below hb).blk.cell 0 (v:=.pointer (some ⟨t,0,none⟩)) rfl)
 have E3:=J0 (fun w1 w2 (hb:Below w.heap.size w w1) (h2:TM Z w2 t (doT T x)) (hf:Scn.Fr Z TT w1 w2)=>(⟨(h.below hb).G9 h2 hf,(Scn.Fr.A1 hb).trans hf⟩:TV Z w2 d t (doT T x)/\Scn.Fr Z TT w w2))
 generalize doT T x=T2 at hdo E3 |-
 generalize x.inter.length=im at *
 generalize x.fin=f at *
 generalize x.r=r at *
 generalize x.L7=pr at *
 generalize x.kind=k at *
 clear h ok hw hR hp hra
 go_enter func37,ntmps37
 go_upto_region 1 with(fail)
 generalize w.alloc (.cells #[.int .u8 k,.int .i32 r,.int .i32 pr,.slice pa pn pc,.slice ia im ic,.int .i32 f,.slice ta tn tc] 151)=w0 at hbn hbx hm |-
 have hxk:=fun k':Eqt.Ext w0=>Block.only hbx (A0.A1 k'.below []) (by simp)
 have x0:=fun k':Eqt.Ext w0=>(hxk k').cell 0 (v:=.int .u8 k) rfl
 have x1:=fun k':Eqt.Ext w0=>(hxk k').cell 1 (v:=.int .i32 r) rfl
 have x2:=fun k':Eqt.Ext w0=>(hxk k').cell 2 (v:=.int .i32 pr) rfl
 have x3:=fun k':Eqt.Ext w0=>(hxk k').cell 3 (v:=.slice pa pn pc) rfl
 have x4:=fun k':Eqt.Ext w0=>(hxk k').cell 4 (v:=.slice ia im ic) rfl
 have x5:=fun k':Eqt.Ext w0=>(hxk k').cell 5 (v:=.int .i32 f) rfl
 have x6:=fun k':Eqt.Ext w0=>(hxk k').cell 6 (v:=.slice ta tn tc) rfl
 have cd:=fun k':Eqt.Ext w0=>hcd.out _ (A2 hbn k'.below)
 clear hbx hxk
 go_wp2_with((go_at_call 49;(with_reducible refine(hm.out).mono ?_);rintro e w1 ⟨rfl,rfl⟩))
 refine Eqt.H4 5 (by kernel_rfl) (by kernel_rfl) ?_
 simp only[List.take_succ_cons,List.take_zero,List.drop_succ_cons,List.drop_zero]
 repeat(go_big_quiet_step(fail))
 refine wpQuiet_nil ?_
 intro w9 hw9
 obtain⟨k9,rfl⟩:=hw9
 have hb9:=k9.below
 generalize k9.w=w9 at hb9 |-
 have hb:=A2 hbn hb9
 go_wp2_with((go_at_call 60;(with_reducible refine(hdo.out _ hb).mono ?_);rintro e w3 ⟨⟨v3,rfl⟩,h3,hf3⟩))
 go_ret
 exact⟨rfl,E3.out _ _ hb h3 hf3⟩
theorem Bvs(h:TV Z w d t T):Calls prog 33 #[.pointer (some ⟨d,0,none⟩)] w fun e w'=>e=.returned (.int .u64 T.C5)/\w=w':=by
 have hm:=J0 (W6 h)
 have c0:=h.blk.cell 0 (v:=.pointer (some ⟨t,0,none⟩)) rfl
 obtain⟨P,hT⟩:=h.tm
 have c21:=hT.c21
 clear h hT
 go_enter func33,ntmps33
 go_wp2_with((go_at_call 49;(with_reducible refine(hm.out).mono ?_);rintro e w1 ⟨rfl,rfl⟩))
 go_ret
 exact⟨rfl,rfl⟩
end
section
variable {Z:Zn}{w w':World}{d t:Nat}{T:Ter}{P:Pt}
theorem TMx.Amh(h:TMx Z w t T P):(TMx Z (w.setCell ⟨t,32,none⟩ (.slice none 0 0)) t { T with jr:=[] } { P with jv:=.slice none 0 0 }/\Scn.Fr Z TT w (w.setCell ⟨t,32,none⟩ (.slice none 0 0))) /\
  (TMx Z (w.setCell ⟨t,33,none⟩ (.slice none 0 0)) t { T with rp:=[] } { P with rv:=.slice none 0 0 }/\Scn.Fr Z TT w (w.setCell ⟨t,33,none⟩ (.slice none 0 0))):=by
 have hf:∀w',A0 [t] w w'->Scn.Fr Z [102] w w':=fun w' ho=>Scn.Fr.I9 ho fun k hk _=>by
  obtain rfl:k=t:=by simpa using hk
  exact⟨h.zt,_,by simp,Block.typ h.blk⟩
 have E8:∀ {w':World},A0 [t] w w'->∀ {k:Nat} {ty:TypeId},Typ w k ty->ty≠102->w'.heap[k]?=w.heap[k]?:=fun {w'} ho {k ty} hk hty=>ho.block _ (Aax hk) (V0 hk (Block.typ h.blk) hty)
 have same:∀ {w':World},A0 [t] w w'->∀ {k:Nat} {ty:TypeId} {cs:Array Value},Block w k ty cs->ty≠102->Block w' k ty cs:=fun {w'} ho {k ty cs} hb hty=>(E8 ho (Block.typ hb) hty).trans hb
 have o1:=A0.setCell w ⟨t,32,none⟩ (.slice none 0 0)
 have o2:=A0.setCell w ⟨t,33,none⟩ (.slice none 0 0)
 exact⟨⟨⟨h.blk.set 32 _,same o1 h.main (by decide),fun o ho=>⟨same o1 (h.aside o ho).1 (by decide),(h.aside o ho).2⟩,h.scr.fr (hf _ o1) (by unfold P0;decide),same o1 h.V3 (by decide),
  World.ownsRow_nil _ _ _ _,W8 h.rp (fun g hg=>E8 o1 (R0 h.rp g hg) (by decide)),h.zt,h.zm,h.zb,fun g hg=>(by cases hg),h.zr,fun k hk=>h.up k (Nat.le_trans (hf _ o1).size hk),h.low,h.tbl.fr (hf _ o1) h.low⟩,(hf _ o1).mono (by simp[TT])⟩,
  ⟨⟨h.blk.set 33 _,same o2 h.main (by decide),fun o ho=>⟨same o2 (h.aside o ho).1 (by decide),(h.aside o ho).2⟩,h.scr.fr (hf _ o2) (by unfold P0;decide),same o2 h.V3 (by decide),
  V4 h.jr (fun g hg=>E8 o2 (M4 h.jr g hg) (by decide)),Kys.Row.nil _ _ _,h.zt,h.zm,h.zb,h.zj,fun g hg=>(by cases hg),fun k hk=>h.up k (Nat.le_trans (hf _ o2).size hk),h.low,h.tbl.fr (hf _ o2) h.low⟩,(hf _ o2).mono (by simp[TT])⟩⟩
theorem TMx.Cow(h:TMx Z w t T P):∃ao c,P.jv=.slice ao T.jr.length c:=by
 obtain⟨ao,c,e,_,_⟩:=U0 h.jr
 exact⟨ao,c,e⟩
theorem TMx.Cps(h:TMx Z w t T P):∃ao c,P.rv=.slice ao T.rp.length c:=by
 rcases h.rp with⟨e,e2⟩|⟨g,cap,cur,fz,e,_⟩
 ·exact⟨none,0,by rw[e,e2];rfl⟩
 ·exact⟨_,_,e⟩
theorem Bty(h:TV Z w d t T):Calls prog 38 #[.pointer (some ⟨d,0,none⟩)] w fun e w'=>(∃v,e=.returned v/\Kys.Row w' 0 5 v T.rp)/\TV Z w' d t { T with rp:=[] }/\Scn.Fr Z TT w w':=by
 have hm:=J0 (W6 h)
 have c0:=h.blk.cell 0 (v:=.pointer (some ⟨t,0,none⟩)) rfl
 obtain⟨P,hT⟩:=h.tm
 have c33:=hT.c33
 have f33:=hT.free 33
 obtain⟨ao,c,e⟩:=hT.Cps
 have A6:Kys.Row (w.setCell ⟨t,33,none⟩ (.slice none 0 0)) 0 5 P.rv T.rp:=W8 hT.rp (fun g hg=>(A0.setCell w ⟨t,33,none⟩ (.slice none 0 0)).block _ (Aax (R0 hT.rp g hg)) (V0 (R0 hT.rp g hg) (Block.typ hT.blk) (by decide)))
 rw[e]at c33 A6
 have hk:=J0 (hT.Amh.2)
 have E3:=J0 (h.G9 hT.Amh.2.1.tm hT.Amh.2.2)
 replace A6:=J0 A6
 generalize T.rp.length=n at c33 A6
 clear h hT e
 go_enter func38,ntmps38
 go_wp2_with((go_at_call 49;(with_reducible refine(hm.out).mono ?_);rintro e w1 ⟨rfl,rfl⟩))
 go_ret
 exact⟨⟨_,rfl,A6.out⟩,E3.out,hk.out.2⟩
end
section
variable {Z:Zn}{w w':World}{d t:Nat}{T:Ter}{P:Pt}
theorem Azj(h:TV Z w d t T):Calls prog 29 #[.pointer (some ⟨d,0,none⟩)] w fun e w'=>e=.returned (.agg (Mds.mA T.m))/\Below w.heap.size w w':=by
 have hbn:=A3 w (.cells #[.bool false,.bool false,.bool false,.bool false,.bool false,.bool false,.bool false,.bool false] 80)
 have hbx:=Block.made w 80 #[.bool false,.bool false,.bool false,.bool false,.bool false,.bool false,.bool false,.bool false]
 have hm:=J0 (W6 (h.below hbn))
 have h1:=h.below hbn
 have cd:=h1.blk.cell 0 (v:=.pointer (some ⟨t,0,none⟩)) rfl
 obtain⟨P,hT⟩:=h1.tm
 obtain⟨c0,c1,c2,c3,c4,c5,c6,c7⟩:=hT.md8
 have B9:=Mds.Aat T.m
 have E0:=Mds.Ady T.m
 generalize T.m=m at *
 obtain⟨a0,a1,a2,a3,a4,a5,a6,a7⟩:=m
 simp only[Mds.mA]at c0 c1 c2 c3 c4 c5 c6 c7 B9 E0 |-
 clear h h1 hT
 go_enter func29,ntmps29
 go_wp2_with (first
  |(go_at_call 49;(with_reducible refine(hm.out).mono ?_);rintro e w1 ⟨rfl,rfl⟩)
  |(with_reducible refine J8 2 ?_;go_must(refine L8 rfl _ (.tmp 2) _ rfl hbx #[.bool a0,.bool a1,.bool a2,.bool a3,.bool a4,.bool a5,.bool a6,.bool a7] rfl rfl B9 rfl E0 ?_);intro w8 hb8 ho8))
 exact bodyPost_ret (results_cell_row rfl _ _ _ _ _ _ _ rfl hb8 underlying80 rfl B9) rfl ⟨rfl,hbn.trans (ho8.below hbn.size (by simp))⟩
end
end Go.Proofs.YtecnpoigegiooaaGreatDoor.Emu
namespace Go.Proofs.YtecnpoigegiooaaGreatDoor.Eqt
open Go.Proofs.Tryz
open Go RowKit
section
variable {P:Program}{ops:Array Oper}{Q:Exit->Act->World->Prop}{md:Region.Mode}{S:World->Prop}
def Bcs(md:Region.Mode)(ops:Array Oper)(j i:Nat):Bool:=match ops[j]? with
 |none=>false
 |some oj=>oj.after.any fun e=>Region.binds md e&&e.on==i
def Aba(md:Region.Mode)(ops:Array Oper)(j:Nat)(Is:List Nat):List Nat:=Is.filter fun i=>!Bcs md ops j i
def Aad(P:Program)(md:Region.Mode)(ops:Array Oper)(Q:Exit->Act->World->Prop)(S:World->Prop):List Nat->Nat->Array Bool->Act->World->Prop
 |_,0,listed,a,w=>Region.ready md ops listed=[]/\Q .normal a w
 |Is,fuel+1,listed,a,w =>
  (Region.ready md ops listed=[]->Q .normal a w) /\
  ∀j∈Region.ready md ops listed,wpOp P ops Q j (fun a' w'=>(Aba md ops j Is≠[]->S w')/\Aad P md ops Q S (Aba md ops j Is) fuel (listed.setIfInBounds j true) a' w') a w
theorem Bhf:∀(fuel:Nat) (Is:List Nat) (listed:Array Bool) (a:Act) (w:World),Aad P md ops Q S Is fuel listed a w->wpAny P md ops Q fuel listed a w
 |0,_,_,_,_,h=>h
 |fuel+1,_,_,_,_,h=>⟨h.1,fun i hi=>wpOp_mono (fun _ _ h'=>Bhf fuel _ _ _ _ h'.2) (h.2 i hi)⟩
theorem Bib{j:Nat}{Is Js:List Nat}(h:Is ⊆ Js):Aba md ops j Is ⊆ Aba md ops j Js:=fun i hi=>by
 simp only[Aba,List.mem_filter]at hi |-
 exact⟨h hi.1,hi.2⟩
theorem Azi{Is Js:List Nat}(h:Is ⊆ Js)(hn:Is≠[]):Js≠[]:=fun e=>hn (List.eq_nil_iff_forall_not_mem.2 fun i hi=>by rw[e]at h;exact absurd (h hi) (by simp))
theorem Ayv:∀(fuel:Nat) (Is Js:List Nat) (_:Is ⊆ Js) (listed:Array Bool) (a:Act) (w:World),Aad P md ops Q S Js fuel listed a w->Aad P md ops Q S Is fuel listed a w
 |0,_,_,_,_,_,_,h=>h
 |fuel+1,_,_,hs,_,_,_,h=>⟨h.1,fun j hj=>wpOp_mono (fun _ _ h'=>⟨fun hn=>h'.1 (Azi (Bib hs) hn),Ayv fuel _ _ (Bib hs) _ _ _ h'.2⟩) (h.2 j hj)⟩
theorem Atw(j:Nat)(Is:List Nat):Aba md ops j Is ⊆ Is:=fun i hi=>by
 simp only[Aba,List.mem_filter]at hi
 exact hi.1
theorem Byv{j i:Nat}{oj:Oper}(hj:ops[j]?=some oj)(h:∀e∈oj.after,Region.binds md e=true->e.on≠i):Bcs md ops j i=false:=by
 unfold Bcs
 simp only[hj]
 rw[Bool.eq_false_iff]
 intro ht
 obtain⟨e,he,hb⟩:=Array.any_eq_true'.1 ht
 simp only[Bool.and_eq_true,beq_iff_eq]at hb
 exact h e he hb.1 hb.2
theorem Bya{j i:Nat}{Is:List Nat}(h:Bcs md ops j i=false):Aba md ops j (i::Is)=i::Aba md ops j Is:=by
 unfold Aba
 rw[List.filter_cons_of_pos (by simp[h])]
theorem Btz{i:Nat}{oi:Oper}{v:Value}(hi:ops[i]?=some oi)(W3:∀(j:Nat) (o:Oper) cs b,ops[j]?=some o->o.op≠.select cs b)
  (hQ:∀c a w,Q (.panic c) (a.put oi.dst v) w->Q (.panic c) a w) :
  ∀(fuel:Nat) (Is:List Nat) (listed:Array Bool) (a:Act) (w:World),
   (∀j oj,ops[j]?=some oj->j≠i->listed.getD j true=false->(∀e∈oj.after,Region.binds md e=true->e.on≠i)->oi.apart ops oj=true) ->
   i∈Region.ready md ops listed->YieldsIf P ops S oi v a->S w ->
   Aad P md ops Q S (i::Is) fuel (listed.setIfInBounds i true) (a.put oi.dst v) w->Aad P md ops Q S Is (fuel+1) listed a w:=by
 intro fuel
 induction fuel with
 |zero =>
  intro Is listed a w _ hr hy hS H
  refine⟨fun h=>(by rw[h]at hr;cases hr),fun j hj=>?_⟩
  by_cases hji:j=i
  ·subst hji;exact hy.wpOp hi hS ⟨fun _=>hS,H⟩
  ·have:=ready_mono hj hji
   rw[H.1]at this
   cases this
 |succ fuel ih =>
  intro Is listed a w Acv hr hy hS H
  refine⟨fun h=>(by rw[h]at hr;cases hr),fun j hj=>?_⟩
  by_cases hji:j=i
  ·subst hji;exact hy.wpOp hi hS ⟨fun _=>hS,Ayv _ _ _ (fun k hk=>List.mem_cons_of_mem _ (Atw _ _ hk)) _ _ _ H⟩
  ·have h1:=H.2 j (ready_mono hj hji)
   obtain⟨Afk,oj,hoj,F2⟩:=mem_ready.1 hj
   have S3:∀e∈oj.after,Region.binds md e=true->e.on≠i:=fun e he hb heq=>by
    have h1:=F2 e he hb
    have h0:=(mem_ready.1 hr).1
    rw[heq]at h1
    rcases Nat.lt_or_ge i listed.size with h'|h'
    ·simp[h']at h0 h1;rw[h0]at h1;cases h1
    ·simp[Array.getElem?_eq_none h']at h1
   have h2:=wpOp_putIf hoj (Acv j oj hoj hji Afk S3) (fun cs b=>W3 i oi cs b hi) (fun cs b=>W3 j oj cs b hoj) hQ hy h1
   have hfree':∀k ok,ops[k]?=some ok->k≠i->(listed.setIfInBounds j true).getD k true=false ->
     (∀e∈ok.after,Region.binds md e=true->e.on≠i)->oi.apart ops ok=true:=fun k ok hk hki hun hno=>by
    refine Acv k ok hk hki ?_ hno
    by_cases hjk:j=k
    ·subst hjk;exact Afk
    ·rw[getD_set_ne true hjk]at hun;exact hun
   have hl:Aba md ops j (i::Is)=i::Aba md ops j Is:=Bya (Byv hoj S3)
   refine wpOp_mono (fun a' w' h3=>?_) h2
   obtain⟨hy',hS',hU⟩:=h3
   have hS2:S w':=hS' (by rw[hl];exact List.cons_ne_nil _ _)
   rw[hl]at hU
   refine⟨fun _=>hS2,ih (Aba md ops j Is) (listed.setIfInBounds j true) a' w' hfree' (ready_mono hr (Ne.symm hji)) hy' hS2 ?_⟩
   rw[Array.setIfInBounds_comm _ _ hji]
   exact hU
theorem W5{i:Nat}{oi:Oper}{v:Value}{fuel:Nat}{Is:List Nat}{listed:Array Bool}{a:Act}{w:World}(hi:ops[i]?=some oi)
  (hs:Region.noSelect ops=true) (hf:Region.free md ops listed i=true) (hr:(Region.ready md ops listed).contains i=true)
  (hQ:∀c a w,Q (.panic c) (a.put oi.dst v) w->Q (.panic c) a w) (hy:YieldsIf P ops S oi v a) (hS:S w)
  (h:Aad P md ops Q S (i::Is) fuel (listed.setIfInBounds i true) (a.put oi.dst v) w):Aad P md ops Q S Is (fuel+1) listed a w :=
 Btz hi (Region.noSelect_spec hs) hQ fuel Is listed a w (Region.free_spec hi hf) (by simpa using hr) hy hS h
theorem Bst{i:Nat}{oi:Oper}{v:Value}(hi:ops[i]?=some oi)(W3:∀(j:Nat) (o:Oper) cs b,ops[j]?=some o->o.op≠.select cs b)
  (hQ:∀c a w,Q (.panic c) (a.put oi.dst v) w->Q (.panic c) a w) :
  ∀(fuel:Nat) (Is:List Nat) (listed:Array Bool) (a:Act) (w:World),
   (∀j oj,ops[j]?=some oj->j≠i->listed.getD j true=false->(∀e∈oj.after,Region.binds md e=true->e.on≠i)->oi.apart ops oj=true) ->
   i∈Region.ready md ops listed->Yields P ops oi v a->(Is≠[]->S w) ->
   Aad P md ops Q S Is fuel (listed.setIfInBounds i true) (a.put oi.dst v) w->Aad P md ops Q S Is (fuel+1) listed a w:=by
 intro fuel
 induction fuel with
 |zero =>
  intro Is listed a w _ hr hy hS H
  refine⟨fun h=>(by rw[h]at hr;cases hr),fun j hj=>?_⟩
  by_cases hji:j=i
  ·subst hji;exact hy.wpOp hi ⟨fun hn=>hS (Azi (Atw _ _) hn),H⟩
  ·have:=ready_mono hj hji
   rw[H.1]at this
   cases this
 |succ fuel ih =>
  intro Is listed a w Acv hr hy hS H
  refine⟨fun h=>(by rw[h]at hr;cases hr),fun j hj=>?_⟩
  by_cases hji:j=i
  ·subst hji;exact hy.wpOp hi ⟨fun hn=>hS (Azi (Atw _ _) hn),Ayv _ _ _ (Atw _ _) _ _ _ H⟩
  ·have h1:=H.2 j (ready_mono hj hji)
   obtain⟨Afk,oj,hoj,F2⟩:=mem_ready.1 hj
   have S3:∀e∈oj.after,Region.binds md e=true->e.on≠i:=fun e he hb heq=>by
    have h1:=F2 e he hb
    have h0:=(mem_ready.1 hr).1
    rw[heq]at h1
    rcases Nat.lt_or_ge i listed.size with h'|h'
    ·simp[h']at h0 h1;rw[h0]at h1;cases h1
    ·simp[Array.getElem?_eq_none h']at h1
   have h2:=wpOp_put hoj (Acv j oj hoj hji Afk S3) (fun cs b=>W3 i oi cs b hi) (fun cs b=>W3 j oj cs b hoj) hQ hy h1
   have hfree':∀k ok,ops[k]?=some ok->k≠i->(listed.setIfInBounds j true).getD k true=false ->
     (∀e∈ok.after,Region.binds md e=true->e.on≠i)->oi.apart ops ok=true:=fun k ok hk hki hun hno=>by
    refine Acv k ok hk hki ?_ hno
    by_cases hjk:j=k
    ·subst hjk;exact Afk
    ·rw[getD_set_ne true hjk]at hun;exact hun
   refine wpOp_mono (fun a' w' h3=>?_) h2
   obtain⟨hy',hS',hU⟩:=h3
   refine⟨hS',ih (Aba md ops j Is) (listed.setIfInBounds j true) a' w' hfree' (ready_mono hr (Ne.symm hji)) hy' hS' ?_⟩
   rw[Array.setIfInBounds_comm _ _ hji]
   exact hU
theorem E6{i:Nat}{oi:Oper}{v:Value}{fuel:Nat}{Is:List Nat}{listed:Array Bool}{a:Act}{w:World}(hi:ops[i]?=some oi)
  (hs:Region.noSelect ops=true) (hf:Region.free md ops listed i=true) (hr:(Region.ready md ops listed).contains i=true)
  (hQ:∀c a w,Q (.panic c) (a.put oi.dst v) w->Q (.panic c) a w) (hy:Yields P ops oi v a) (hS:Is≠[]->S w)
  (h:Aad P md ops Q S Is fuel (listed.setIfInBounds i true) (a.put oi.dst v) w):Aad P md ops Q S Is (fuel+1) listed a w :=
 Bst hi (Region.noSelect_spec hs) hQ fuel Is listed a w (Region.free_spec hi hf) (by simpa using hr) hy hS h
theorem Adn{fuel:Nat}{Is:List Nat}{listed:Array Bool}{a:Act}{w:World}(i:Nat){o:Oper}(Js:List Nat)(hr:Region.ready md ops listed=[i])(ho:ops[i]?=some o)(hJ:Aba md ops i Is=Js)
  (h:∀K':Act->World->Prop,Shut (∀a w,(Js≠[]->S w)->Aad P md ops Q S Js fuel (listed.setIfInBounds i true) a w->K' a w)->if Region.wanted o (yielded ops a.tmps)=true then Oper.wp P o a w K' Q else K' (a.put o.dst undef) w) :
  Aad P md ops Q S Is (fuel+1) listed a w:=by
 subst hJ
 refine⟨fun h0=>(by rw[hr]at h0;cases h0),fun j hj=>?_⟩
 rw[hr]at hj
 obtain rfl:j=i:=by simpa using hj
 exact wpOp_step ho (fun K' hK=>h K' (fun a w hS hW=>hK a w ⟨hS,hW⟩))
theorem Atp{Is:List Nat}{listed:Array Bool}{a:Act}{w:World}(hr:Region.ready md ops listed=[])(h:Q .normal a w) :
  ∀fuel,Aad P md ops Q S Is fuel listed a w
 |0=>⟨hr,h⟩
 |_+1=>⟨fun _=>h,by rw[hr];simp⟩
theorem Atg{id:Nat}{a:Act}{w:World}(S:World->Prop)(hm:P.follows .mixedOrders=true)
  (h:Aad P .any ops Q S [] ops.size (Array.replicate ops.size false) a w.drew):(Code.region id ops true).wp P Q a w :=
 wp_region_any hm (Bhf _ _ _ _ _ h)
end
