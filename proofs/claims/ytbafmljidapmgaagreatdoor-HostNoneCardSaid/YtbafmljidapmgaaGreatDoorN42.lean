/- Part 42 of the proof that the card of HostNone holds. -/
import Derived.Test.YtbafmljidapmgaaGreatDoorN41
set_option maxHeartbeats 16000000
set_option maxRecDepth 100000
namespace Go.Proofs.YtbafmljidapmgaaGreatDoor.Emu
open Go RowKit Com Rw Lns Scn
section
variable {Z:Zn} {w w':World} {d t:Nat} {T:Ter} {P:Pt} {B:Nat} {cv iv:Value} {rs:List TRow}
theorem GridT.lower {B':Nat} (h:GridT B w T cv iv rs) (hB:B'<=B):GridT B' w T cv iv rs:=⟨h.rws.lower hB,h.len,h.got⟩
theorem GridT.fr {B':Nat} {ts:List TypeId} (h:GridT B w T cv iv rs) (hf:Rw.Fr B' ts w w') (h1:92∉ts) (h2:3∉ts) (h3:94∉ts) (h4:21∉ts):GridT B w' T cv iv rs:=⟨h.rws.fr hf h1 h2 h3 h4,h.len,h.got⟩
theorem GridT.one (h:GridT B w T cv iv rs):(Am3 cv iv (gridG T)).all (·.oneCell')=true:=by
 obtain ⟨a,c,rfl,_⟩:=Ad0 h.rws.rows
 obtain ⟨a2,c2,rfl,_⟩:=h.rws.ids.shape
 simp [Am3,gridG,Value.oneCell']
theorem gridA_info (cv iv:Value) (T:Ter):(Tryz.prog.info? 58).map (·.size)=some (Am3 cv iv (gridG T)).size:=by kernel_rfl
theorem tgrid_any (h:TV Z w d t T) (ok:Ok T):Calls Tryz.prog 58 #[.pointer (some ⟨d,0,none⟩)] w (Bj9 w T):=by
 have hbn:=Aa1 w (.cells #[.slice none 0 0,.slice none 0 0,.int .i64 0,.int .i64 0,.bool false,.bool false,.bool false,.int .i64 0,.int .i64 0,.int .u32 0,.int .u32 0,.int .u16 0] 58)
 have hbx:=Block.made w 58 #[.slice none 0 0,.slice none 0 0,.int .i64 0,.int .i64 0,.bool false,.bool false,.bool false,.int .i64 0,.int .i64 0,.int .u32 0,.int .u32 0,.int .u16 0]
 have hlt:=hbx.lt
 replace h:=h.below hbn
 generalize hw0:w.alloc (.cells #[.slice none 0 0,.slice none 0 0,.int .i64 0,.int .i64 0,.bool false,.bool false,.bool false,.int .i64 0,.int .i64 0,.int .u32 0,.int .u32 0,.int .u16 0] 58)=w0 at h hbn hbx hlt
 have hm:=J0 (isMade_yes h)
 have cd:=h.blk.cell 0 (v:=.pointer (some ⟨t,0,none⟩)) rfl
 obtain ⟨P,hT⟩:=h.tm
 have hg:=J0 (grid_any hT ok)
 have hbx1:=J0 (fun w1 (hb:Below w0.heap.size w0 w1)=>(Block.only hbx (Only.of_below hb []) (by simp):Block w1 w.heap.size 58 _))
 clear h hT ok
 go_enter Tryz.func58,Tryz.ntmps58
 go_wp2_with (first
  |(go_at_call 86;(with_reducible refine (hm.out).mono ?_);rintro e w1 ⟨rfl,rfl⟩)
  |(go_at_call 110;(with_reducible refine (hg.out).mono ?_);rintro e w1 ⟨cv,iv,rs,rfl,hG,hb1⟩);have hbx2:=hbx1.out _ hb1;have hone:=hG.one;have hinf:=gridA_info cv iv T
  |(with_reducible show wpList _ _ _ (⟨none,.store _ (.tmp 2) _,_,_,_,_⟩::_) _ _;go_must (refine Aa4 rfl _ (.tmp 2) (.tmp 11) rfl hbx2 (Am3 cv iv (gridG T)) rfl rfl hinf (Bh9 hinf) hone ?_);intro w8 hb8 ho8))
 have hfr:Rw.Fr 0 [58] w1 w8:=Rw.Fr.of_only ho8 fun k hk _=>by
  obtain rfl:k=w.heap.size:=by simpa using hk
  exact ⟨Nat.zero_le _,_,by simp,Block.typ hbx2⟩
 have hb2:Below w.heap.size w w1:=Aa0 hbn hb1
 exact bodyPost_ret (results_cell_row rfl _ _ _ _ _ _ _ rfl hb8 Tryz.underlying58 rfl hinf) rfl ⟨cv,iv,rs,rfl,(hG.lower (by omega)).fr hfr (by decide) (by decide) (by decide) (by decide),hb2.trans (ho8.below hb2.size fun k hk=>by obtain rfl:k=w.heap.size:=(by simpa using hk);exact J5 _)⟩
end
end Go.Proofs.YtbafmljidapmgaaGreatDoor.Emu
namespace Go.Proofs.YtbafmljidapmgaaGreatDoor.Rw
open Go RowKit Com
theorem api6 {B:Nat} {w:World} {g n cap:Nat} {ps:List (Cel×Value)} (h:Api B w (.slice (some ⟨g,0,none⟩) n cap) ps) {i:Nat} (hi:i<ps.length):w.cell? ⟨g,i*6,none⟩=some (.int .i32 ps[i].1.r)/\w.cell? ⟨g,i*6+1,none⟩=some ps[i].2/\w.cell? ⟨g,i*6+2,none⟩=some (.int .u8 ps[i].1.wide)/\w.cell? ⟨g,i*6+3,none⟩=some (.int .u32 ps[i].1.a.f)/\w.cell? ⟨g,i*6+4,none⟩=some (.int .u32 ps[i].1.a.b)/\w.cell? ⟨g,i*6+5,none⟩=some (.int .u16 ps[i].1.a.g):=by
 have hl:=h.load hi
 have e:=fun j v hj=>by have:=hl j v hj;rw [Addr.add_lit] at this;exact this
 exact ⟨e 0 _ rfl,e 1 _ rfl,e 2 _ rfl,e 3 _ rfl,e 4 _ rfl,e 5 _ rfl⟩
end Go.Proofs.YtbafmljidapmgaaGreatDoor.Rw
namespace Go.Proofs.YtbafmljidapmgaaGreatDoor.Emu
open Go RowKit Com Rw Lns Scn
section
variable {B B':Nat} {w w':World} {cols:Nat} {cv iv cv' iv':Value} {rs rs':List TRow} {ids:List Int}
theorem fl_hdr (cols:Nat) (rs:List TRow):fl (hdr cols) rs=rs.map fun p=>.slice (some ⟨p.1,0,none⟩) cols cols:=by
 induction rs with
 |nil=>rfl
 |cons a l ih=>rw [show a::l=[a]++l from rfl,fl_app,fl_one,ih];rfl
theorem Rws.cv_at (h:Rws B w cols cv iv rs ids) {i:Nat} (hi:i<rs.length):∃ g c,cv=.slice (some ⟨g,0,none⟩) rs.length c/\rs.length<=c/\c<=maxLen/\w.cell? ⟨g,i,none⟩=some (.slice (some ⟨rs[i].1,0,none⟩) cols cols):=by
 obtain ⟨g,c,tail,rfl,_,hb,h1,h2⟩:=Ai1 h.rows (by omega)
 refine ⟨g,c,rfl,h1,h2,hb.cell i ?_⟩
 rw [List.getElem?_toArray,List.getElem?_append_left (by rw [fl_hdr];simpa using hi),fl_hdr,List.getElem?_map,List.getElem?_eq_getElem hi]
 rfl
theorem Rws.iv_at (h:Rws B w cols cv iv rs ids) {i:Nat} (hi:i<ids.length):∃ g c,iv=.slice (some ⟨g,0,none⟩) ids.length c/\ids.length<=c/\c<=maxLen/\w.cell? ⟨g,i,none⟩=some (.int .i64 ids[i]):=by
 obtain ⟨g,c,tail,rfl,_,hb,h1,h2⟩:=Ai1 (show w.ownsRow B 3 1 iv ids.length (ids.map (Value.int .i64)) from h.ids) (by omega)
 refine ⟨g,c,rfl,h1,h2,hb.cell i ?_⟩
 rw [List.getElem?_toArray,List.getElem?_append_left (by simpa using hi),List.getElem?_map,List.getElem?_eq_getElem hi]
 rfl
end
theorem fr_base {Z:Zn} {ts:List TypeId} {a b:World} {B:Nat} (h:Scn.Fr Z ts a b) (hz:∀ k,k<B->¬ Z k) (hB:B<=a.heap.size):Below B a b:=⟨h.os,h.tape,h.output,h.size,fun k hk=>h.block k (by omega) (.inl (hz k hk))⟩
section
variable {w wr w':World} {d t:Nat} {T T':Ter} {x:AcT} {pa ia ta:Option Addr} {pn pc ic tn tc:Nat}
theorem Cn8 (rows cols most:Nat) (hr1:1<=rows) (hr5:rows<=512) (hc1:1<=cols) (hc5:cols<=512):Ok (newT rows cols most):=Ok.begin (J5 1) hr1 hr5 hc1 hc5
end
structure TZ (Z:Zn) (W wr:World) (d t:Nat) (T:Ter):Prop where
 tv:TV Z wr d t T
 ok:Ok T
 below:Below W.heap.size W wr
 out:∀ k,k<W.heap.size->¬ Z k
section
variable {Z:Zn} {W w wr w':World} {d t:Nat} {T T':Ter} {x:AcT} {q:Pl3} {o:OpA}
theorem TZ.on (h:TZ Z W wr d t T) (hb:Below wr.heap.size wr w'):TZ Z W w' d t T:=⟨h.tv.below hb,h.ok,Aa0 h.below hb,h.out⟩
theorem Bd9 {ts:List TypeId} (hB:Below W.heap.size W wr) (hz:∀ k,k<W.heap.size->¬ Z k) (hf:Scn.Fr Z ts wr w'):Below W.heap.size W w':=hB.trans (fr_base hf hz hB.size)
end
structure Keep (Z Z':Zn) (w w':World):Prop where
 size:w.heap.size<=w'.heap.size
 same:∀ k,k<w.heap.size->Z k->w'.heap[k]?=w.heap[k]?
 zone:∀ k,k<w.heap.size->Z k->Z' k
 up:∀ k,w'.heap.size<=k->Z' k
section
variable {Z Z':Zn} {w w':World} {x s nx most cols top bot n x1 x2 t d:Nat} {kp:Bool} {sv lv:Value} {xs:List Value} {L R:List En} {S S1 S2:Scr} {T:Ter} {P:Pt}
theorem MidX.keep (h:MidX Z w x s nx most kp cols sv lv top bot n xs L R) (hk:Keep Z Z' w w'):MidX Z' w' x s nx most kp cols sv lv top bot n xs L R:=by
 obtain ⟨_,hk,hZ,up⟩:=hk
 have lo:=h.ln.lo
 have hr:∀ e∈R,e.d<w.heap.size/\e.g<w.heap.size:=fun e he=>Aj8 (h.ln.st.2 e he)
 have hl:∀ e∈L,e.d<w.heap.size/\e.g<w.heap.size:=fun e he=>Aj8 (h.rows e he)
 have hst:SX 0 w' s nx most sv R:=by
  have hp:=h.ln.st.ptyp
  obtain ⟨⟨o,Q,h0,hR⟩,hg⟩:=h.ln.st
  exact ⟨⟨o,Q,⟨(hk _ h0.blk.lt lo.s).trans h0.blk,Ac2 h0.own (fun g hg=>hk _ (hp g hg).2.1 (lo.p g hg)),h0.le,h0.old,h0.olt,h0.most,h0.pos,h0.small,h0.lo⟩,hR⟩,
   fun e he=>Ax3 (hg e he) (hk _ (hr e he).1 (lo.r e he).1) (hk _ (hr e he).2 (lo.r e he).2)⟩
 exact ⟨⟨(hk _ h.ln.blk.lt lo.x).trans h.ln.blk,Ac2 h.ln.own (fun g hg=>hk _ (h.ln.ltyp g hg).2.1 (lo.l g hg)),hst,h.ln.apart,⟨hZ _ h.ln.blk.lt lo.x,hZ _ (Ak9 h.ln.st.typ) lo.s,fun g hg=>hZ _ (h.ln.ltyp g hg).2.1 (lo.l g hg),fun g hg=>hZ _ (h.ln.st.ptyp g hg).2.1 (lo.p g hg),
  fun e he=>⟨hZ _ (hr e he).1 (lo.r e he).1,hZ _ (hr e he).2 (lo.r e he).2⟩,up⟩,h.ln.small⟩,fun e he=>Ax3 (h.rows e he) (hk _ (hl e he).1 (h.zr e he).1) (hk _ (hl e he).2 (h.zr e he).2),fun e he=>⟨hZ _ (hl e he).1 (h.zr e he).1,hZ _ (hl e he).2 (h.zr e he).2⟩,h.dd,h.gg⟩
theorem SC.keep (h:SC Z w x s S) (hk:Keep Z Z' w w'):SC Z' w' x s S:=by
 obtain ⟨sv,lv,L,R,h1,h2,h3⟩:=h
 exact ⟨sv,lv,L,R,MidX.keep h1 hk,h2,h3⟩
theorem Two.keep (h:Two Z w s x1 x2 S1 S2) (hk:Keep Z Z' w w'):Two Z' w' s x1 x2 S1 S2:=by
 obtain ⟨sv,R,l1,L1,l2,L2,h1,e1,eR,h2,e2,hx,hl,hd,hg⟩:=h
 exact ⟨sv,R,l1,L1,l2,L2,MidX.keep h1 hk,e1,eR,MidX.keep h2 hk,e2,hx,hl,hd,hg⟩
theorem TMx.keep (h:TMx Z w t T P) (hk:Keep Z Z' w w') (low:∀ k,k<6->¬ Z' k) (htb:Tbl w'):TMx Z' w' t T P:=by
 have hs:Scrs Z' w' T P:=by
  have h1:=h.scr
  unfold Scrs at h1 |-
  split at h1
  ·exact SC.keep h1 hk
  ·exact Two.keep h1 hk
 obtain ⟨_,hk,hZ,up⟩:=hk
 have same:∀ {k:Nat} {ty:TypeId} {cs:Array Value},Block w k ty cs->Z k->Block w' k ty cs:=fun hb hz=>(hk _ hb.lt hz).trans hb
 have tj:∀ g,P.jv.ownBlock=some g->g<w.heap.size:=fun g hg=>Ak9 (Ab6 h.jr g hg)
 have tr:∀ g,P.rv.ownBlock=some g->g<w.heap.size:=fun g hg=>Ak9 (Ad1 h.rp g hg)
 have tb:P.tb<w.heap.size:=Block.lt h.tabs
 exact ⟨same h.blk h.zt,same h.main h.zm,fun o ho=>⟨same (h.aside o ho).1 (h.aside o ho).2.2,(h.aside o ho).2.1,hZ _ (h.aside o ho).1.lt (h.aside o ho).2.2⟩,hs,same h.tabs h.zb,
  Ac2 h.jr (fun g hg=>hk _ (tj g hg) (h.zj g hg)),Ad5 h.rp (fun g hg=>hk _ (tr g hg) (h.zr g hg)),hZ _ h.blk.lt h.zt,hZ _ h.main.lt h.zm,hZ _ tb h.zb,fun g hg=>hZ _ (tj g hg) (h.zj g hg),fun g hg=>hZ _ (tr g hg) (h.zr g hg),up,low,htb⟩
end
section
variable {Z:Zn} {W w w':World} {d t d2 t2:Nat} {T T' U:Ter}
theorem TZ.low (h:TZ Z W w d t T):(∀ k,k<6->¬ Z k)/\(∀ k,w.heap.size<=k->Z k)/\6<=w.heap.size:=by
 obtain ⟨P,hP⟩:=h.tv.tm
 exact ⟨hP.low,hP.up,hP.tbl.1⟩
end
structure Tld (w:World) (n cols:Nat) (L:List Ln) (g1 c1 g2 c2:Nat) (rs:List TRow):Prop where
 rws:Rws 0 w cols (.slice (some ⟨g1,0,none⟩) n c1) (.slice (some ⟨g2,0,none⟩) n c2) rs (L.map (·.1))
 len:rs.length=n
 llen:L.length=n
 got:rs.map (fun p=>p.2.map (·.1))=L.map (·.2)
 wid:∀ p∈L,p.2.length=cols
section
variable {Z:Zn} {W w w':World} {d t n cols g1 c1 g2 c2:Nat} {L:List Ln} {rs:List TRow} {T:Ter} {v:Value}
theorem Tld.below (h:Tld w n cols L g1 c1 g2 c2 rs) (hb:Below w.heap.size w w'):Tld w' n cols L g1 c1 g2 c2 rs:=⟨h.rws.below hb,h.len,h.llen,h.got,h.wid⟩
theorem Tld.row (h:Tld w n cols L g1 c1 g2 c2 rs) {i:Nat} (hi:i<n):∃ x,w.cell? ⟨g1,i,none⟩=some (.slice (some ⟨x,0,none⟩) cols cols)/\w.cell? ⟨g2,i,none⟩=some (.int .i64 (L[i]'(by rw [h.llen];exact hi)).1) /\
  ∀ j (hj:j<cols),w.cell? ⟨x,j*6,none⟩=some (.int .i32 (((L[i]'(by rw [h.llen];exact hi)).2)[j]'(by rw [h.wid _ (List.getElem_mem _)];exact hj)).r)/\w.cell? ⟨x,j*6+2,none⟩=some (.int .u8 (((L[i]'(by rw [h.llen];exact hi)).2)[j]'(by rw [h.wid _ (List.getElem_mem _)];exact hj)).wide) /\
   w.cell? ⟨x,j*6+3,none⟩=some (.int .u32 (((L[i]'(by rw [h.llen];exact hi)).2)[j]'(by rw [h.wid _ (List.getElem_mem _)];exact hj)).a.f)/\w.cell? ⟨x,j*6+4,none⟩=some (.int .u32 (((L[i]'(by rw [h.llen];exact hi)).2)[j]'(by rw [h.wid _ (List.getElem_mem _)];exact hj)).a.b)/\w.cell? ⟨x,j*6+5,none⟩=some (.int .u16 (((L[i]'(by rw [h.llen];exact hi)).2)[j]'(by rw [h.wid _ (List.getElem_mem _)];exact hj)).a.g) /\
   ∃ y cc,w.cell? ⟨x,j*6+1,none⟩=some (.slice y (((L[i]'(by rw [h.llen];exact hi)).2)[j]'(by rw [h.wid _ (List.getElem_mem _)];exact hj)).m.length cc):=by
 have hi':i<rs.length:=by rw [h.len];exact hi
 have hL:i<L.length:=by rw [h.llen];exact hi
 obtain ⟨g,c,e,_,_,hc⟩:=h.rws.cv_at hi'
 obtain ⟨g',c',e',_,_,hc'⟩:=h.rws.iv_at (i:=i) (by rw [List.length_map];exact hL)
 simp only [Value.slice.injEq,Option.some.injEq,Addr.mk.injEq,and_true] at e e'
 obtain ⟨rfl,_,rfl⟩:=e
 obtain ⟨rfl,_,rfl⟩:=e'
 rw [List.getElem_map] at hc'
 refine ⟨_,hc,hc',fun j hj=>?_⟩
 have hg:=congrArg (·[i]?) h.got
 simp only [List.getElem?_map,List.getElem?_eq_getElem hi',List.getElem?_eq_getElem hL,Option.map_some,Option.some.injEq] at hg
 have hw:=h.wid _ (List.getElem_mem hL)
 have hj':j<(rs[i]'hi').2.length:=by
  have:=congrArg List.length hg
  rw [List.length_map] at this
  omega
 have hA:=h.rws.apis _ (List.getElem_mem hi')
 have hx:=api6 hA hj'
 have he:((rs[i]'hi').2[j]'hj').1=(L[i].2)[j]'(by omega):=by
  have:=congrArg (·[j]?) hg
  simp only [List.getElem?_map,List.getElem?_eq_getElem hj',List.getElem?_eq_getElem (show j<(L[i].2).length by omega),Option.map_some,Option.some.injEq] at this
  exact this
 obtain ⟨y,cc,ey,_⟩:=(hA.comb _ (List.getElem_mem hj')).shape
 rw [ey,he] at hx
 exact ⟨hx.1,hx.2.2.1,hx.2.2.2.1,hx.2.2.2.2.1,hx.2.2.2.2.2,y,cc,hx.2.1⟩
theorem Bc3 (h:TZ Z W w d t T):Calls Tryz.prog 58 #[.pointer (some ⟨d,0,none⟩)] w fun e w'=>∃ g1 c1 g2 c2 rs,e=.returned (.agg #[.slice (some ⟨g1,0,none⟩) T.vis.L.length c1,.slice (some ⟨g2,0,none⟩) T.vis.L.length c2,.int .i64 T.c.row,.int .i64 T.c.col,.bool T.c.pend,.bool (!T.m.a5),.bool T.other.isNone,.int .i64 T.vis.top,.int .i64 T.vis.bot,.int .u32 T.p.a.f,.int .u32 T.p.a.b,.int .u16 T.p.a.g]) /\
  Tld w' T.vis.L.length T.vis.cols T.vis.L g1 c1 g2 c2 rs/\Below w.heap.size w w':=by
 refine (tgrid_any h.tv h.ok).mono fun e w' ⟨cv,iv,rs,he,hg,hb⟩=>?_
 have hn:=h.ok.fit.len
 obtain ⟨g1,c1,e1,_,_,_⟩:=hg.rws.cv_at (i:=0) (by rw [hg.len];omega)
 obtain ⟨g2,c2,e2,_,_,_⟩:=hg.rws.iv_at (i:=0) (by rw [List.length_map];omega)
 rw [hg.len] at e1
 rw [List.length_map] at e2
 subst e1 e2
 exact ⟨g1,c1,g2,c2,rs,he,⟨hg.rws.lower (Nat.zero_le _),hg.len,rfl,hg.got,h.ok.fit.wid⟩,hb⟩
end
end Go.Proofs.YtbafmljidapmgaaGreatDoor.Emu
namespace Go.Proofs.YtbafmljidapmgaaGreatDoor.Emu
open Go Rw Lns Scn
section
variable {d:Nat} {T U:Ter}
end
def noRp (T:Ter):Ter:={ T with rp:=[] }
end Go.Proofs.YtbafmljidapmgaaGreatDoor.Emu
namespace Go.Proofs.YtbafmljidapmgaaGreatDoor.Emu
open Go RowKit Com Rw Lns Scn
section
variable {Z:Zn} {W w wr w':World} {d t d2 t2 n nm cm dd:Nat} {T T' U U':Ter} {am:Option Addr} {m:List OpA} {F:FuncId} {args:Array Value} {A:Ending->World->Prop}
theorem ok_noRp (h:Ok T):Ok (noRp T):=⟨h.fit,h.fitm,h.rows,h.cols,h.row,h.col,h.sv,h.svm,h.tn,h.alt⟩
theorem tz_repl (h:TZ Z W w d t T):Calls Tryz.prog 70 #[.pointer (some ⟨d,0,none⟩)] w fun e w'=>(∃ v,e=.returned v/\Kys.Row w' 0 5 v T.rp)/\TZ Z W w' d t (noRp T)/\Scn.Fr Z TT w w' :=
 (treplies_any h.tv).mono fun _ _ ⟨he,h1,hf⟩=>⟨he,⟨h1,ok_noRp h.ok,Bd9 h.below h.out hf,h.out⟩,hf⟩
end
end Go.Proofs.YtbafmljidapmgaaGreatDoor.Emu
namespace Go.Proofs.YtbafmljidapmgaaGreatDoor.Prs
open Go RowKit Com Par
def Ae7 (L:Lst):List Value:=(L.n++List.replicate (32 - L.n.length) 0).map (Value.int .i64)++[.int .i64 L.n.length,.bool L.over]
def Cc6 (q:Sq) (v:Value):List Value:=[.int .i32 q.a,.int .i32 q.b,.int .i64 q.cnt,.bool q.many,v]
def parL (S:PS) (v:Value):List Value:=.int .u8 S.st::.int .i32 S.sq.pr::(Ae7 S.sq.num++Cc6 S.sq v)
def PBlk (w:World) (d:Nat) (S:PS) (v:Value):Prop:=Block w d 160 (parL S v).toArray
theorem Ak6 {L:Lst} (h:L.n.length<=32):((L.n++List.replicate (32 - L.n.length) 0).map (Value.int .i64)).length=32:=by simp;omega
theorem cells_at {L:Lst} {i:Nat} (h:i<L.n.length):(Ae7 L)[i]?=some (.int .i64 L.n[i]):=by
 unfold Ae7
 rw [List.getElem?_append_left (by simp;omega),List.getElem?_map,List.getElem?_append_left h,List.getElem?_eq_getElem h]
 rfl
theorem cells_count {L:Lst} (h:L.n.length<=32):(Ae7 L)[32]?=some (.int .i64 L.n.length):=by
 unfold Ae7
 rw [List.getElem?_append_right (by rw [Ak6 h];omega),Ak6 h]
 rfl
theorem cells_over {L:Lst} (h:L.n.length<=32):(Ae7 L)[33]?=some (.bool L.over):=by
 unfold Ae7
 rw [List.getElem?_append_right (by rw [Ak6 h];omega),Ak6 h]
 rfl
theorem Ai4 {L:Lst} (h:L.n.length<=32):(Ae7 L).length=34:=by
 unfold Ae7
 rw [List.length_append,Ak6 h]
 rfl
theorem cells_put {L:Lst} {i:Nat} (hi:i<L.n.length) (x:Int):(Ae7 L).set i (.int .i64 x)=Ae7 ⟨L.n.set i x,L.over⟩:=by
 unfold Ae7
 rw [List.set_append_left _ _ (by simp;omega),<- List.map_set,List.set_append_left _ _ hi]
 simp
theorem cells_begin {L:Lst} (h:L.n.length=0):(Ae7 L).set 32 (.int .i64 1)=Ae7 ⟨begF L.n,L.over⟩:=by
 obtain ⟨n,o⟩:=L
 have:n=[]:=List.eq_nil_of_length_eq_zero h
 subst this
 rfl
theorem cells_next {L:Lst} (h:L.n.length<32):(Ae7 L).set 32 (.int .i64 ((L.n.length:Int)+1))=Ae7 ⟨L.n++[0],L.over⟩:=by
 have hp:=Ak6 (L:=L) (by omega)
 have e:L.n++[0]++List.replicate (32 - (L.n++[0]).length) 0=L.n++List.replicate (32 - L.n.length) 0:=by
  rw [List.append_assoc,List.length_append,List.length_singleton]
  congr 1
  rw [show 32 - L.n.length=(32 - (L.n.length+1))+1 by omega,List.replicate_succ]
  rfl
 unfold Ae7
 rw [List.set_append_right _ _ (by rw [hp];omega),hp]
 simp only [e]
 congr 1
 simp
theorem cells_over2 {L:Lst} (h:L.n.length<=32):(Ae7 L).set 33 (.bool true)=Ae7 ⟨L.n,true⟩:=by
 have hp:=Ak6 h
 unfold Ae7
 rw [List.set_append_right _ _ (by rw [hp];omega),hp]
 rfl
theorem Bu8 {S:PS} {v:Value} {i:Nat} {u:Value} (h:(Ae7 S.sq.num)[i]?=some u):(parL S v)[2+i]?=some u:=by
 unfold parL
 rw [show 2+i=i+1+1 by omega,List.getElem?_cons_succ,List.getElem?_cons_succ,List.getElem?_append_left (List.getElem?_eq_some_iff.1 h).1]
 exact h
theorem Aw8 {S:PS} {v:Value} (hL:S.sq.num.n.length<=32) {i:Nat} {u:Value} (h:(Cc6 S.sq v)[i]?=some u):(parL S v)[36+i]?=some u:=by
 unfold parL
 rw [show 36+i=(34+i)+1+1 by omega,List.getElem?_cons_succ,List.getElem?_cons_succ,List.getElem?_append_right (by rw [Ai4 hL];omega),Ai4 hL,Nat.add_sub_cancel_left]
 exact h
theorem Ca1 {S:PS} {v:Value} (hL:S.sq.num.n.length<=32):(parL S v).length=41:=by
 unfold parL
 simp [Ai4 hL,Cc6]
section
variable {w:World} {d:Nat} {S:PS} {v:Value}
theorem PBlk.blk (h:PBlk w d S v):Block w d 160 (parL S v).toArray:=h
theorem PBlk.free (h:PBlk w d S v) (i:Nat):w.frozen? ⟨d,i,none⟩=false:=Block.free h i
theorem PBlk.lt (h:PBlk w d S v):d<w.heap.size:=Block.lt h
theorem PBlk.c0 (h:PBlk w d S v):w.cell? ⟨d,0,none⟩=some (.int .u8 S.st):=Block.cell h 0 rfl
theorem PBlk.c1 (h:PBlk w d S v):w.cell? ⟨d,1,none⟩=some (.int .i32 S.sq.pr):=Block.cell h 1 rfl
theorem PBlk.at (h:PBlk w d S v) {i:Nat} (hi:i<S.sq.num.n.length):w.cell? ⟨d,2+i,none⟩=some (.int .i64 S.sq.num.n[i]):=Block.cell h (2+i) (by simpa using Bu8 (v:=v) (cells_at hi))
theorem PBlk.count (h:PBlk w d S v) (hk:S.sq.num.n.length<=32):w.cell? ⟨d,34,none⟩=some (.int .i64 S.sq.num.n.length):=Block.cell h 34 (by simpa using Bu8 (v:=v) (cells_count hk))
theorem PBlk.over (h:PBlk w d S v) (hk:S.sq.num.n.length<=32):w.cell? ⟨d,35,none⟩=some (.bool S.sq.num.over):=Block.cell h 35 (by simpa using Bu8 (v:=v) (cells_over hk))
theorem PBlk.pa (h:PBlk w d S v) (hk:S.sq.num.n.length<=32):w.cell? ⟨d,36,none⟩=some (.int .i32 S.sq.a):=Block.cell h 36 (by simpa using Aw8 (v:=v) hk (i:=0) rfl)
theorem PBlk.pb (h:PBlk w d S v) (hk:S.sq.num.n.length<=32):w.cell? ⟨d,37,none⟩=some (.int .i32 S.sq.b):=Block.cell h 37 (by simpa using Aw8 (v:=v) hk (i:=1) rfl)
theorem PBlk.cnt (h:PBlk w d S v) (hk:S.sq.num.n.length<=32):w.cell? ⟨d,38,none⟩=some (.int .i64 S.sq.cnt):=Block.cell h 38 (by simpa using Aw8 (v:=v) hk (i:=2) rfl)
theorem PBlk.many (h:PBlk w d S v) (hk:S.sq.num.n.length<=32):w.cell? ⟨d,39,none⟩=some (.bool S.sq.many):=Block.cell h 39 (by simpa using Aw8 (v:=v) hk (i:=3) rfl)
theorem PBlk.txt (h:PBlk w d S v) (hk:S.sq.num.n.length<=32):w.cell? ⟨d,40,none⟩=some v:=Block.cell h 40 (by simpa using Aw8 (v:=v) hk (i:=4) rfl)
theorem PBlk.only {L:List Nat} {w':World} (h:PBlk w d S v) (ho:Only L w w') (hn:d∉L):PBlk w' d S v:=Block.only h ho hn
theorem PBlk.set {S':PS} {v':Value} (h:PBlk w d S v) {i:Nat} {u:Value} (hs:(parL S v).set i u=parL S' v'):PBlk (w.setCell ⟨d,i,none⟩ u) d S' v':=by
 have:=Block.set h i u
 rw [J1,hs] at this
 exact this
end
theorem Bn1 {S:PS} {v:Value} {i:Nat} {u:Value} {L:Lst} (hL:S.sq.num.n.length<=32) (hi:i<34) (h:(Ae7 S.sq.num).set i u=Ae7 L):(parL S v).set (2+i) u=parL (S.num L) v:=by
 unfold parL
 replace hi:i<(Ae7 S.sq.num).length:=by rw [Ai4 hL];exact hi
 rw [show 2+i=i+1+1 by omega,J3,J3,List.set_append_left _ _ hi,h]
 rfl
theorem Ax6 {S:PS} {v:Value} (hL:S.sq.num.n.length<=32) {i:Nat} {u:Value} {q:Sq} {v':Value} (hq:q.pr=S.sq.pr/\q.num=S.sq.num) (h:(Cc6 S.sq v).set i u=Cc6 q v') :
  (parL S v).set (36+i) u=parL ⟨S.st,q,S.text⟩ v':=by
 unfold parL
 rw [show 36+i=(34+i)+1+1 by omega,J3,J3,List.set_append_right _ _ (by rw [Ai4 hL];omega),Ai4 hL,Nat.add_sub_cancel_left,h]
 simp only [hq.1,hq.2]
theorem set_a {S:PS} (hL:S.sq.num.n.length<=32) (v:Value) (r:Int):(parL S v).set 36 (.int .i32 r)=parL ⟨S.st,⟨S.sq.pr,S.sq.num,r,S.sq.b,S.sq.cnt,S.sq.many⟩,S.text⟩ v:=Ax6 (v:=v) hL (i:=0) ⟨rfl,rfl⟩ rfl
theorem set_b {S:PS} (hL:S.sq.num.n.length<=32) (v:Value) (r:Int):(parL S v).set 37 (.int .i32 r)=parL ⟨S.st,⟨S.sq.pr,S.sq.num,S.sq.a,r,S.sq.cnt,S.sq.many⟩,S.text⟩ v:=Ax6 (v:=v) hL (i:=1) ⟨rfl,rfl⟩ rfl
theorem Cj7 {S:PS} (hL:S.sq.num.n.length<=32) (v:Value) (n:Nat):(parL S v).set 38 (.int .i64 n)=parL ⟨S.st,⟨S.sq.pr,S.sq.num,S.sq.a,S.sq.b,n,S.sq.many⟩,S.text⟩ v:=Ax6 (v:=v) hL (i:=2) (q:=⟨S.sq.pr,S.sq.num,S.sq.a,S.sq.b,n,S.sq.many⟩) ⟨rfl,rfl⟩ rfl
theorem set_many {S:PS} (hL:S.sq.num.n.length<=32) (v:Value):(parL S v).set 39 (.bool true)=parL ⟨S.st,⟨S.sq.pr,S.sq.num,S.sq.a,S.sq.b,S.sq.cnt,true⟩,S.text⟩ v:=Ax6 (v:=v) hL (i:=3) ⟨rfl,rfl⟩ rfl
theorem Cj9 {S:PS} (hL:S.sq.num.n.length<=32) (v v':Value):(parL S v).set 40 v'=parL S v':=Ax6 (v:=v) hL (i:=4) ⟨rfl,rfl⟩ rfl
theorem Ca9 (S:PS) (v:Value) (s:Int):(parL S v).set 0 (.int .u8 s)=parL ⟨s,S.sq,S.text⟩ v:=rfl
theorem set_pr (S:PS) (v:Value) (r:Int):(parL S v).set 1 (.int .i32 r)=parL (S.priv r) v:=rfl
def NumsP (w:World) (ok:Nat->Prop) (k:IntKind) (ao:Option Addr) (l:List Int):Prop :=
 ∀ i x,l[i]?=some x->∃ ad,ao=some ad/\ok ad.block/\w.cell? (ad.add i)=some (.int k x)
section
variable {w w':World} {ok ok':Nat->Prop} {k:IntKind} {ao:Option Addr} {l:List Int}
theorem NumsP.nil (w:World) (ok:Nat->Prop) (k:IntKind) (ao:Option Addr):NumsP w ok k ao []:=fun i x h=>by simp at h
theorem NumsP.mono (h:NumsP w ok k ao l) (hm:∀ g,g<w.heap.size->ok g->ok' g):NumsP w ok' k ao l:=fun i x hx=>by
 obtain ⟨ad,e,hk,hc⟩:=h i x hx
 have hlt:=World.block_lt_of_cell? _ _ hc
 rw [Ad3] at hlt
 exact ⟨ad,e,hm _ hlt hk,hc⟩
theorem NumsP.only {L:List Nat} (h:NumsP w ok k ao l) (ho:Only L w w') (hn:∀ g∈L,¬ ok g):NumsP w' ok k ao l:=fun i x hx=>by
 obtain ⟨ad,e,hk,hc⟩:=h i x hx
 have hlt:=World.block_lt_of_cell? _ _ hc
 rw [Ad3] at hlt
 refine ⟨ad,e,hk,(World.cell?_of_block (w:=w) (ho.block _ (by rw [Ad3];exact hlt) (fun hm=>?_))).trans hc⟩
 rw [Ad3] at hm
 exact hn _ hm hk
end
theorem Aw4 {w:World} {B:Nat} {e:TypeId} {k:IntKind} {v:Value} {l:List Int} (h:Own w B e k v l):∃ ao cap,v=.slice ao l.length cap/\l.length<=cap/\cap<=maxLen/\NumsP w (fun g=>v.ownBlock=some g) k ao l:=by
 obtain ⟨ao,cap,rfl,h1,h2,hn⟩:=h.shape
 refine ⟨ao,cap,rfl,h1,h2,fun i x hx=>?_⟩
 obtain ⟨ad,rfl,_,hc⟩:=hn i x hx
 exact ⟨ad,rfl,rfl,hc⟩
inductive All2 {α β:Type} (R:α->β->Prop):List α->List β->Prop
 |nil:All2 R [] []
 |cons {a b l m} (h:R a b) (t:All2 R l m):All2 R (a::l) (b::m)
theorem All2.app {α β:Type} {R:α->β->Prop} {l l':List α} {m m':List β} (h:All2 R l m) (g:All2 R l' m'):All2 R (l++l') (m++m'):=by
 induction h with
 |nil=>exact g
 |cons h _ ih=>exact .cons h ih
theorem All2.mono {α β:Type} {R R':α->β->Prop} {l:List α} {m:List β} (h:All2 R l m) (hm:∀ a b,R a b->R' a b):All2 R' l m:=by
 induction h with
 |nil=>exact .nil
 |cons h _ ih=>exact .cons (hm _ _ h) ih
theorem All2.at {α β:Type} {R:α->β->Prop} {l:List α} {m:List β} (h:All2 R l m) {i:Nat} {a:α} (ha:l[i]?=some a):∃ b,m[i]?=some b/\R a b:=by
 induction h generalizing i with
 |nil=>simp at ha
 |cons h _ ih =>
  rcases i with _|i
  ·simp at ha;subst ha;exact ⟨_,rfl,h⟩
  ·exact ih (by simpa using ha)
def actL (A:Act) (p i t:Value):List Value:=[.int .u8 A.kind,.int .i32 A.R,.int .i32 A.priv,p,i,.int .i32 A.final,t]
structure ActIs (w:World) (ok:Nat->Prop) (A:Act) (cs:List Value):Prop where
 ex:∃ ap cp ai ci at_ ct,cs=actL A (.slice ap A.params.length cp) (.slice ai A.inter.length ci) (.slice at_ A.text.length ct)/\NumsP w ok .i64 ap A.params/\NumsP w ok .i32 ai A.inter/\NumsP w ok .i32 at_ A.text
 cap:∃ a c,cs[3]?=some (.slice a A.params.length c)/\A.params.length<=c/\c<=maxLen
section
variable {w w':World} {ok ok':Nat->Prop} {A:Act} {cs:List Value}
theorem ActIs.len (h:ActIs w ok A cs):cs.length=7:=by
 obtain ⟨_,_,_,_,_,_,rfl,_⟩:=h.ex
 rfl
theorem ActIs.one (h:ActIs w ok A cs):∀ u∈cs,u.oneCell'=true:=by
 obtain ⟨_,_,_,_,_,_,rfl,_⟩:=h.ex
 simp [actL,Value.oneCell']
theorem ActIs.mono (h:ActIs w ok A cs) (hm:∀ g,g<w.heap.size->ok g->ok' g):ActIs w ok' A cs:=by
 obtain ⟨a,b,c,d,e,f,rfl,h1,h2,h3⟩:=h.ex
 exact ⟨⟨a,b,c,d,e,f,rfl,h1.mono hm,h2.mono hm,h3.mono hm⟩,h.cap⟩
theorem ActIs.only {L:List Nat} (h:ActIs w ok A cs) (ho:Only L w w') (hn:∀ g∈L,¬ ok g):ActIs w' ok A cs:=by
 obtain ⟨a,b,c,d,e,f,rfl,h1,h2,h3⟩:=h.ex
 exact ⟨⟨a,b,c,d,e,f,rfl,h1.only ho hn,h2.only ho hn,h3.only ho hn⟩,h.cap⟩
end
theorem flat_len {l:List Act} {css:List (List Value)} {R:Act->List Value->Prop} (h:All2 R l css) (h7:∀ a c,R a c->c.length=7):css.flatten.length=l.length*7:=by
 induction h with
 |nil=>rfl
 |cons h _ ih=>simp only [List.flatten_cons,List.length_append,List.length_cons,ih,h7 _ _ h];omega
theorem flat_at {l:List Act} {css:List (List Value)} {R:Act->List Value->Prop} (h:All2 R l css) (h7:∀ a c,R a c->c.length=7) {i j:Nat} {c:List Value} {u:Value} (hc:css[i]?=some c) (hu:c[j]?=some u):css.flatten[i*7+j]?=some u:=by
 induction h generalizing i with
 |nil=>simp at hc
 |cons h t ih =>
  rcases i with _|i
  ·simp at hc
   subst hc
   have:=(List.getElem?_eq_some_iff.1 hu).1
   rw [List.flatten_cons,List.getElem?_append_left (by omega)]
   simpa using hu
  ·rw [List.flatten_cons,List.getElem?_append_right (by rw [h7 _ _ h];omega),h7 _ _ h,show (i+1)*7+j - 7=i*7+j by omega]
   exact ih (by simpa using hc)
structure ActsIn (w:World) (B:Nat) (ok:Nat->Prop) (x:Value) (As:List Act):Prop where
 ex:∃ css:List (List Value),All2 (ActIs w (fun g=>ok g/\x.ownBlock≠some g)) As css/\w.ownsRow B 112 7 x As.length css.flatten
section
variable {w w':World} {B B':Nat} {ok ok':Nat->Prop} {x:Value} {As:List Act}
theorem ActsIn.nil (w:World) (B:Nat) (ok:Nat->Prop):ActsIn w B ok (.slice none 0 0) []:=⟨[],.nil,World.ownsRow_nil w B _ 7⟩
theorem ActsIn.mono (h:ActsIn w B ok x As) (hm:∀ g,g<w.heap.size->ok g->ok' g):ActsIn w B ok' x As:=by
 obtain ⟨css,h1,h2⟩:=h.ex
 exact ⟨css,h1.mono (fun _ _ h=>h.mono (fun g hg hk=>⟨hm g hg hk.1,hk.2⟩)),h2⟩
theorem ActsIn.lower (h:ActsIn w B ok x As) (hB:B'<=B):ActsIn w B' ok x As:=by
 obtain ⟨css,h1,h2,h3⟩:=h.ex
 refine ⟨css,h1,h2,?_⟩
 rcases h3 with h3|⟨g,cap,cur,rfl,hg,r⟩
 ·exact .inl h3
 ·exact .inr ⟨g,cap,cur,rfl,by omega,r⟩
theorem ActsIn.row (h:ActsIn w B ok x As):∀ g,x.ownBlock=some g->B<=g/\g<w.heap.size:=by
 obtain ⟨css,_,h2⟩:=h.ex
 exact World.ownsRow.lt h2
theorem ActsIn.only {L:List Nat} (h:ActsIn w B ok x As) (ho:Only L w w') (hn:∀ g∈L,¬ ok g) (hx:∀ g,x.ownBlock=some g->g∉L):ActsIn w' B ok x As:=by
 obtain ⟨css,h1,h2,h3⟩:=h.ex
 refine ⟨css,h1.mono (fun _ _ h=>h.only ho (fun g hg hk=>hn g hg hk.1)),h2,?_⟩
 rcases h3 with h3|⟨g,cap,cur,rfl,hg,hh,r⟩
 ·exact .inl h3
 ·exact .inr ⟨g,cap,cur,rfl,hg,(ho.block g (lt_of_block hh) (hx g rfl)).trans hh,r⟩
theorem ActsIn.apart_row (h:ActsIn w B ok x As) {B2:Nat} {e:TypeId} {k:IntKind} {v:Value} {l:List Int} (h2:Own w B2 e k v l) (he:e≠112):∀ g,x.ownBlock=some g->v.ownBlock≠some g:=by
 intro g hg hv
 obtain ⟨css,_,_,h3⟩:=h.ex
 rcases h3 with ⟨rfl,_⟩|⟨g',cap,cur,rfl,_,hh,_⟩
 ·simp [Value.ownBlock] at hg
 ·have e':g'=g:=by simpa [Value.ownBlock] using hg
  subst e'
  exact h2.apart (g:=g') hh he hv
theorem ActsIn.apart_blk (h:ActsIn w B ok x As) {d:Nat} {t:TypeId} {cs:Array Value} (h2:Block w d t cs) (he:t≠112):x.ownBlock≠some d:=by
 intro hg
 obtain ⟨css,_,_,h3⟩:=h.ex
 rcases h3 with ⟨rfl,_⟩|⟨g',cap,cur,rfl,_,hh,_⟩
 ·simp [Value.ownBlock] at hg
 ·have e':g'=d:=by simpa [Value.ownBlock] using hg
  subst e'
  exact Block.apart (t:=t) h2 hh he rfl
theorem ActsIn.shape (h:ActsIn w B ok x As):∃ ao cap,x=.slice ao As.length cap/\As.length<=cap/\cap<=maxLen:=by
 obtain ⟨css,_,_,h3⟩:=h.ex
 rcases h3 with ⟨rfl,hn⟩|⟨g,cap,cur,rfl,_,_,hn,hm,_⟩
 ·exact ⟨none,0,by rw [hn],by omega,by simp [maxLen]⟩
 ·exact ⟨_,cap,rfl,hn,hm⟩
end
structure ParIn (w:World) (B d:Nat) (v:Value) (S:PS):Prop where
 blk:PBlk w d S v
 own:Own w B 21 .i32 v S.text
 low:B<=d
theorem ParIn.apart {w:World} {B d:Nat} {v:Value} {S:PS} (h:ParIn w B d v S):v.ownBlock≠some d:=h.own.apart h.blk.blk (by decide)
theorem ParIn.only {w w':World} {B d:Nat} {v:Value} {S:PS} (h:ParIn w B d v S) {L:List Nat} (ho:Only L w w') (h1:d∉L) (h2:∀ g,v.ownBlock=some g->g∉L):ParIn w' B d v S:=⟨h.blk.only ho h1,h.own.only ho h2,h.low⟩
theorem ParIn.new {w w':World} {B d:Nat} {v:Value} {S:PS} (h:ParIn w B d v S) (hb:Below w.heap.size w w'):ParIn w' B d v S:=h.only (Only.of_below hb []) (by simp) (by simp)
structure Mine (n d:Nat) (v u:Value) (g:Nat):Prop where
 from_:n<=g\/v.ownBlock=some g
 text:u.ownBlock≠some g
 block:g≠d
structure FedU (w:World) (B d:Nat) (v:Value) (S':PS) (As:List Act) (x u:Value) (w':World):Prop where
 par:ParIn w' B d u S'
 lies:u.ownBlock=v.ownBlock\/u.ownBlock=none\/∃ g,u.ownBlock=some g/\w.heap.size<=g
 acts:ActsIn w' w.heap.size (Mine w.heap.size d v u) x As
 only:Only (d::v.ownBlock.toList) w w'
def Fed (w:World) (B d:Nat) (v:Value) (X:Stp) (e:Ending) (w':World):Prop:=∃ x u,e=.returned x/\FedU w B d v X.2 X.1 x u w'
