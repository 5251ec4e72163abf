/- Part 48 of HostSplits. -/
import Derived.Test.YtecnpoigegiooaaGreatDoorP47
set_option maxHeartbeats 16000000
set_option maxRecDepth 100000
namespace Go.Proofs.YtecnpoigegiooaaGreatDoor.Hos
open Go RowKit Com Rw Lns Emu Scn
def noJr (T:Ter):Ter:={ T with jr:=[] }
structure Did (B:Zn) (W w:World) (h:Nat) (H:Hst) (w':World):Prop where
 hb:HB B W w' h H
 fr:Hf B w w'
section
variable {Z Z' B:Zn}{W w w1 w2 w':World}{h d t:Nat}{p p':HP}{H H':Hst}{X:Tri}{T:Ter}{v sv:Value}{s b l:List Int}{ao:Option Addr}{n cp c:Nat}
theorem HB.on (hB:HB B W w h H) (hb:Below w.heap.size w w'):HB B W w' h H:=by
 obtain⟨Z,p,hx,hs⟩:=hB
 exact⟨Z,p,hx.on' hb,hs⟩
theorem HB.below (hB:HB B W w h H):Below W.heap.size W w:=by
 obtain⟨Z,p,hx,hs⟩:=hB
 exact hx.below
theorem HB.did (hB:HB B W w h H) (hb:Below w.heap.size w w'):Did B W w h H w':=⟨hB.on hb,Hf.of_below B hb⟩
theorem isMade_yes (hx:HX Z W w h p H):Calls Tryz.prog 21 #[.pointer (some ⟨h,0,none⟩)] w fun e w'=>e=.returned (.bool true)/\w=w':=by
 have c0:=hx.hb.cell 0 (v:=.pointer (some ⟨p.e,0,none⟩)) rfl
 clear hx
 go_enter Tryz.func21,Tryz.ntmps21
 go_wp2
 go_ret
 exact⟨rfl,rfl⟩
theorem tz_jour (h:TZ Z W w d t T):Calls Tryz.prog 39 #[.pointer (some ⟨d,0,none⟩)] w fun e w'=>(∃v,e=.returned v/\w'.ownsRow 0 73 10 v T.jr.length (fl evL T.jr)/\∀g,v.ownBlock=some g->Z g)/\TZ Z W w' d t (noJr T)/\Scn.Fr Z TT w w':=by
 have hm:=J0 (Emu.isMade_yes h.tv)
 have c0:=h.tv.blk.cell 0 (v:=.pointer (some ⟨t,0,none⟩)) rfl
 obtain⟨P,hT⟩:=h.tv.tm
 have c32:=hT.c32
 have f32:=hT.free 32
 obtain⟨ao,c,e⟩:=hT.jshape
 have hrow:(w.setCell ⟨t,32,none⟩ (.slice none 0 0)).ownsRow 0 73 10 P.jv T.jr.length (fl evL T.jr):=Ac1 hT.jr (fun g hg=>(Only.setCell w ⟨t,32,none⟩ (.slice none 0 0)).block _ (Al0 (Ab9 hT.jr g hg)) (Ad9 (Ab9 hT.jr g hg) (Block.typ hT.blk) (by decide)))
 have hzj:=hT.zj
 rw[e] at c32 hrow hzj
 have hk:=J0 (hT.took.1.2)
 have hend:Hid (TZ Z W (w.setCell ⟨t,32,none⟩ (.slice none 0 0)) d t (noJr T)):=J0 ⟨h.tv.turn hT.took.1.1.tm hT.took.1.2,⟨h.ok.fit,h.ok.fitm,h.ok.rows,h.ok.cols,h.ok.row,h.ok.col,h.ok.sv,h.ok.svm,h.ok.tn,h.ok.alt⟩,Be9 h.below h.out hT.took.1.2,h.out⟩
 replace hrow:=J0 hrow
 replace hzj:=J0 hzj
 generalize T.jr.length=n at c32 hrow hzj |-
 clear h hT e
 go_enter Tryz.func39,Tryz.ntmps39
 go_wp2_with ((go_at_call 49;(with_reducible refine(hm.out).mono ?_);rintro e w1 ⟨rfl,rfl⟩))
 go_ret
 exact⟨⟨_,rfl,hrow.out,hzj.out⟩,hend.out,hk.out⟩
def Ct1 (B:Zn) (w:World) (v:Value) (l:List Ev):Prop:=w.ownsRow 0 73 10 v l.length (fl evL l)/\∀g,v.ownBlock=some g->B g
theorem Bg0 (hB:HB B W w h H):Calls Tryz.prog 11 #[.pointer (some ⟨h,0,none⟩)] w fun e w'=>∃v,e=.returned v/\Kys.Row w' W.heap.size 5 v H.sent/\HB (fun k=>B k/\v.ownBlock≠some k) W w' h { H with sent:=[] }/\Hf B w w'/\∀g,v.ownBlock=some g->B g/\g<w.heap.size:=by
 have hup:=hB.up
 obtain⟨Z,p,hx,hs⟩:=hB
 have hm:=J0 (isMade_yes hx)
 have c0:=hx.hb.cell 0 (v:=.pointer (some ⟨p.e,0,none⟩)) rfl
 have c3:w.cell? ⟨p.e,3,none⟩=some p.sv:=hx.eb.cell 3 rfl
 have f3:w.frozen? ⟨p.e,3,none⟩=false:=hx.eb.free 3
 obtain⟨ar,cr,hrv,_⟩:=hx.sent.shape
 obtain⟨h1,h2,h3⟩:=hx.sent' (w2:=w) (sv:=.slice none 0 0) (l:=[]) (Kys.Row.nil _ _ _) (Only.refl _ _) (.inr (.inl rfl))
 have hne:∀g,p.sv.ownBlock=some g->g≠p.e:=fun g hg e=>absurd (Typ.inj (Ad2 hx.sent g hg) (e▸Block.typ hx.eb)) (by decide)
 have hend:Hid (Kys.Row (w.setCell ⟨p.e,3,none⟩ (.slice none 0 0)) W.heap.size 5 p.sv H.sent/\HB (fun k=>B k/\p.sv.ownBlock≠some k) W (w.setCell ⟨p.e,3,none⟩ (.slice none 0 0)) h { H with sent:=[] }/\Hf B w (w.setCell ⟨p.e,3,none⟩ (.slice none 0 0))/\∀g,p.sv.ownBlock=some g->B g/\g<w.heap.size):=J0 (by
  refine⟨Ad3 hx.sent (fun g hg=>Below.heap_setCell _ _ _ _ (hne g hg)),⟨_,_,h1,fun k hk=>⟨(h3 k hk).elim (hs k) (hup k),fun hg=>?_⟩⟩,h2.mono fun k _ hk=>hs k hk,fun g hg=>⟨hs g (.inr (.inr (.inr (.inr (.inr (.inr (.inr hg))))))),(hx.sent.lt g hg).2⟩⟩
  have tg:=Ad2 hx.sent k hg
  have no:∀ {ty:TypeId},Typ w k ty->ty≠5->False:=fun h1 h2=>h2 (Typ.inj h1 tg)
  rcases hk with hk|hk
  ·rcases hk with hk|hk
   ·exact hx.nz k (.inr (.inr (.inr (.inr (.inr (.inr hg)))))) hk.1
   ·have:=(hx.sent.lt k hg).2
    have e:(w.setCell ⟨p.e,3,none⟩ (.slice none 0 0)).heap.size=w.heap.size:=by simp
    omega
  ·rcases hk with hk|hk|hk|hk|hk|hk|hk
   ·subst hk;exact no (Block.typ hx.hb) (by decide)
   ·have hk:k=p.e:=hk
    subst hk;exact no (Block.typ hx.eb) (by decide)
   ·have hk:k=p.dd:=hk
    subst hk;exact no (Block.typ hx.dec) (by decide)
   ·have hk:k=p.dp:=hk
    subst hk;exact no (Block.typ hx.par.blk.blk) (by decide)
   ·have hk:k=p.d:=hk
    subst hk;exact no (Block.typ hx.tz.tv.blk) (by decide)
   ·exact no (Ab9 hx.par.own k hk) (by decide)
   ·cases hk)
 generalize H.sent=l at hend |- hrv
 rw[hrv] at c3 hend
 clear hx hs hup hne h1 h2 h3
 go_enter Tryz.func11,Tryz.ntmps11
 go_wp2_with ((go_at_call 21;(with_reducible refine(hm.out).mono ?_);rintro e w1 ⟨rfl,rfl⟩))
 go_ret
 exact⟨_,rfl,hend.out⟩
theorem At2 (hB:HB B W w h H):Calls Tryz.prog 17 #[.pointer (some ⟨h,0,none⟩)] w fun e w'=>e=.returned (.int .u64 H.T.prints)/\w=w':=by
 obtain⟨Z,p,hx,hs⟩:=hB
 have hm:=J0 (isMade_yes hx)
 have c0:=hx.hb.cell 0 (v:=.pointer (some ⟨p.e,0,none⟩)) rfl
 have c2:w.cell? ⟨p.e,2,none⟩=some (.pointer (some ⟨p.d,0,none⟩)):=hx.eb.cell 2 rfl
 have ht:=J0 (tprints_any hx.tz.tv)
 generalize H.T.prints=y at ht |-
 clear hx hs
 go_enter Tryz.func17,Tryz.ntmps17
 go_wp2_with (first|(go_at_call 21;(with_reducible refine(hm.out).mono ?_);rintro e w1 ⟨rfl,rfl⟩)|(go_at_call 33;(with_reducible refine(ht.out).mono ?_);rintro e w1 ⟨rfl,rfl⟩))
 go_ret
 exact⟨rfl,rfl⟩
theorem Bj7 (hB:HB B W w h H):Calls Tryz.prog 25 #[.pointer (some ⟨h,0,none⟩)] w fun e w'=>e=.returned (.agg (Mds.mA H.T.m))/\Below w.heap.size w w':=by
 have hbn:=Aa1 w (.cells #[.bool false,.bool false,.bool false,.bool false,.bool false,.bool false,.bool false,.bool false] 80)
 have hbx:=Block.made w 80 #[.bool false,.bool false,.bool false,.bool false,.bool false,.bool false,.bool false,.bool false]
 obtain⟨Z,p,hx,hs⟩:=hB.on hbn
 have hm:=J0 (isMade_yes hx)
 have c0:=hx.hb.cell 0 (v:=.pointer (some ⟨p.e,0,none⟩)) rfl
 have c2:=hx.eb.cell 2 (v:=.pointer (some ⟨p.d,0,none⟩)) rfl
 have ht:=J0 (tmodes_any hx.tz.tv)
 have hinf:=Mds.mA_info H.T.m
 have hone:=Mds.mA_one H.T.m
 have hkeep:=J0 (fun w1 (hb:Below (w.alloc (.cells #[.bool false,.bool false,.bool false,.bool false,.bool false,.bool false,.bool false,.bool false] 80)).heap.size (w.alloc (.cells #[.bool false,.bool false,.bool false,.bool false,.bool false,.bool false,.bool false,.bool false] 80)) w1)=>Block.only hbx (Only.of_below hb []) (by simp))
 generalize H.T.m=m at ht hinf hone |-
 obtain⟨a0,a1,a2,a3,a4,a5,a6,a7⟩:=m
 simp only[Mds.mA] at ht hinf hone |-
 clear hx hs hbx hB
 go_enter Tryz.func25,Tryz.ntmps25
 go_wp2_with (first
  |(go_at_call 21;(with_reducible refine(hm.out).mono ?_);rintro e w1 ⟨rfl,rfl⟩)
  |(go_at_call 29;(with_reducible refine(ht.out).mono ?_);rintro e w1 ⟨rfl,hb1⟩;have hb7:=hkeep.out _ hb1)
  |(with_reducible refine J8 2 ?_;go_must (refine Aa3 rfl _ (.tmp 2) _ rfl hb7 #[.bool a0,.bool a1,.bool a2,.bool a3,.bool a4,.bool a5,.bool a6,.bool a7] rfl rfl hinf rfl hone ?_);intro w8 hb8 ho8))
 have hbb:=Aa0 hbn hb1
 exact bodyPost_ret (results_cell_row rfl _ _ _ _ _ _ _ rfl hb8 Tryz.underlying80 rfl hinf) rfl ⟨rfl,hbb.trans (ho8.below hbb.size (by simp))⟩
theorem Bs8 (hB:HB B W w h H):Calls Tryz.prog 23 #[.pointer (some ⟨h,0,none⟩)] w fun e w'=>∃ba bc hs,e=.returned (.slice ba H.T.R.length bc)/\Bld w' (.slice ba H.T.R.length bc) H.T.R.length H.T.R hs/\H.T.R.length<=maxLen/\Below w.heap.size w w':=by
 obtain⟨Z,p,hx,hs⟩:=hB
 have hm:=J0 (isMade_yes hx)
 have c0:=hx.hb.cell 0 (v:=.pointer (some ⟨p.e,0,none⟩)) rfl
 have c2:w.cell? ⟨p.e,2,none⟩=some (.pointer (some ⟨p.d,0,none⟩)):=hx.eb.cell 2 rfl
 have ht:=J0 (back_told hx.tz)
 generalize H.T.R=R at ht |-
 generalize R.length=y at ht |-
 clear hx hs
 go_enter Tryz.func23,Tryz.ntmps23
 go_wp2_with (first|(go_at_call 21;(with_reducible refine(hm.out).mono ?_);rintro e w1 ⟨rfl,rfl⟩)|(go_at_call 40;(with_reducible refine(ht.out).mono ?_);rintro e w1 ⟨ba,bc,hs,rfl,hB1,hl1,hb1⟩))
 replace hB1:=J0 hB1
 go_ret
 exact⟨ba,bc,hs,rfl,hB1.out,hl1,hb1⟩
theorem Bf9 (hB:HB B W w h H):Calls Tryz.prog 16 #[.pointer (some ⟨h,0,none⟩)] w fun e w'=>∃g1 c1 g2 c2 rs,e=.returned (.agg #[.slice (some ⟨g1,0,none⟩) H.T.vis.L.length c1,.slice (some ⟨g2,0,none⟩) H.T.vis.L.length c2,.int .i64 H.T.c.row,.int .i64 H.T.c.col,.bool H.T.c.pend,.bool (!H.T.m.a5),.bool H.T.other.isNone,.int .i64 H.T.vis.top,.int .i64 H.T.vis.bot,.int .u32 H.T.p.a.f,.int .u32 H.T.p.a.b,.int .u16 H.T.p.a.g]) /\
  Tld w' H.T.vis.L.length H.T.vis.cols H.T.vis.L g1 c1 g2 c2 rs/\Below w.heap.size w w':=by
 have hbn:=Aa1 w (.cells #[.slice none 0 0,.slice none 0 0,.int .i64 0,.int .i64 0,.bool false,.bool false,.bool false,.int .i64 0,.int .i64 0,.int .u32 0,.int .u32 0,.int .u16 0] 53)
 have hbx:=Block.made w 53 #[.slice none 0 0,.slice none 0 0,.int .i64 0,.int .i64 0,.bool false,.bool false,.bool false,.int .i64 0,.int .i64 0,.int .u32 0,.int .u32 0,.int .u16 0]
 obtain⟨Z,p,hx,hs⟩:=hB.on hbn
 have hm:=J0 (isMade_yes hx)
 have c0:=hx.hb.cell 0 (v:=.pointer (some ⟨p.e,0,none⟩)) rfl
 have c2:=hx.eb.cell 2 (v:=.pointer (some ⟨p.d,0,none⟩)) rfl
 have ht:=Ay6 hx.tz
 have hkeep:=J0 (fun w1 (hb:Below (w.alloc (.cells #[.slice none 0 0,.slice none 0 0,.int .i64 0,.int .i64 0,.bool false,.bool false,.bool false,.int .i64 0,.int .i64 0,.int .u32 0,.int .u32 0,.int .u16 0] 53)).heap.size (w.alloc (.cells #[.slice none 0 0,.slice none 0 0,.int .i64 0,.int .i64 0,.bool false,.bool false,.bool false,.int .i64 0,.int .i64 0,.int .u32 0,.int .u32 0,.int .u16 0] 53)) w1)=>Block.only hbx (Only.of_below hb []) (by simp))
 have hinf:(Tryz.prog.info? 53).map (·.size)=some 12:=by kernel_rfl
 generalize H.T.vis.L.length=n0 at ht |-
 generalize H.T.vis.cols=n1 at ht |-
 generalize H.T.vis.L=L at ht |-
 generalize H.T.vis.top=n2 at ht |-
 generalize H.T.vis.bot=n3 at ht |-
 generalize H.T.c=cu at ht |-
 generalize H.T.m.a5=m5 at ht |-
 generalize H.T.other.isNone=oi at ht |-
 generalize H.T.p.a=pa at ht |-
 obtain⟨q0,q1,q2⟩:=cu
 obtain⟨r0,r1,r2⟩:=pa
 simp only at ht |-
 replace ht:=J0 ht
 clear hx hs hbx hB
 go_enter Tryz.func16,Tryz.ntmps16
 go_wp2_with (first
  |(go_at_call 21;(with_reducible refine(hm.out).mono ?_);rintro e w1 ⟨rfl,rfl⟩)
  |(go_at_call 32;(with_reducible refine(ht.out).mono ?_);rintro e w1 ⟨g1,c1,g2,c2',rs,rfl,htl,hb1⟩;have hb7:=hkeep.out _ hb1;have hinf2:(Tryz.prog.info? 53).map (·.size)=some (#[.slice (some ⟨g1,0,none⟩) n0 c1,.slice (some ⟨g2,0,none⟩) n0 c2',.int .i64 q0,.int .i64 q1,.bool q2,.bool (!m5),.bool oi,.int .i64 n2,.int .i64 n3,.int .u32 r0,.int .u32 r1,.int .u16 r2]:Array Value).size:=hinf)
  |(with_reducible refine J8 2 ?_;go_must (refine Aa3 rfl _ (.tmp 2) _ rfl hb7 #[.slice (some ⟨g1,0,none⟩) n0 c1,.slice (some ⟨g2,0,none⟩) n0 c2',.int .i64 q0,.int .i64 q1,.bool q2,.bool (!m5),.bool oi,.int .i64 n2,.int .i64 n3,.int .u32 r0,.int .u32 r1,.int .u16 r2] rfl rfl hinf2 rfl (by simp[Value.oneCell']) ?_);intro w8 hb8 ho8))
 have hbb:=Aa0 hbn hb1
 have hbe:=hbb.trans (ho8.below hbb.size (by simp))
 have hfr:Rw.Fr 0 [53] w1 w8:=Rw.Fr.of_only ho8 fun k hk _=>by
  obtain rfl:k=w.heap.size:=by simpa using hk
  exact⟨Nat.zero_le _,_,by simp,Block.typ hb7⟩
 exact bodyPost_ret (results_cell_row rfl _ _ _ _ _ _ _ rfl hb8 Tryz.underlying53 rfl hinf2) rfl ⟨g1,c1,g2,c2',rs,rfl,⟨htl.rws.fr hfr (by decide) (by decide) (by decide) (by decide),htl.len,htl.llen,htl.got,htl.wid⟩,hbe⟩
end
section
variable {Z Z' B:Zn}{W w w1 w2 w':World}{h d t:Nat}{p p':HP}{H H':Hst}{X:Tri}{T:Ter}{v sv:Value}{s b l:List Int}{ao:Option Addr}{n cp c:Nat}
def Told (B:Zn) (W w:World) (h:Nat) (H:Hst) (l:List Ev) (e:Ending) (w':World):Prop:=∃v,e=.returned v/\Ct1 B w' v l/\Did B W w h H w'
theorem wp_of_sub {B:Zn} (hs:∀k,HZn Z h p k->B k) (hn:∀wr,Hf B w wr->Bq8 wr .u8 ao b):∀wr,Hf (HZn Z h p) w wr->Bq8 wr .u8 ao b:=fun wr hf=>hn wr (hf.mono fun k _ hk=>hs k hk)
theorem ends_bytes (hx:HX Z W w h p H) (hs:∀k,HZn Z h p k->B k) (hBd:∀k,k<=b.length->Bd c (H.tri.hand (b.take k))) (hsl:H.sent.length<=1000000000000) (hb:Utf.Bytes b) (hsh:∀wr,Hf B w wr->Bq8 wr .u8 ao b) (hn:b.length=n) (hn5:n<=100000) :
    Calls Tryz.prog 22 #[.pointer (some ⟨p.e,0,none⟩),.slice ao n cp] w (Told B W w h (H.bytes b) (H.told b)):=by
  have hup:∀k,w.heap.size<=k->B k:=fun k hk=>hs k (.inl (hx.up k hk))
  have c2:w.cell? ⟨p.e,2,none⟩=some (.pointer (some ⟨p.d,0,none⟩)):=hx.eb.cell 2 rfl
  have hhd:=J0 (hand_any (X:=H.tri) (p:=p) (v:=p.pv) (s:=H.sent) (cp:=cp) hx hBd hb (wp_of_sub hs hsh) hn hn5)
  have hT9:=hBd b.length (J5 _)
  rw[List.take_length] at hT9
  have hsent:Hid (H.sent.length+(H.tri.hand b).T.rp.length<=140737488355328):=J0 (by have:=hT9.rh.rp;omega)
  have hY:Hid (∀T',T'=noJr (noRp (H.tri.hand b).T)->(⟨(H.tri.hand b).dec,(H.tri.hand b).ps,T',H.sent++(H.tri.hand b).T.rp⟩:Hst)=H.bytes b):=J0 fun T' e=>by rw[e];rfl
  have hE:Hid ((H.tri.hand b).T.jr=H.told b):=J0 rfl
  generalize H.tri.hand b=Y at hhd hsent hY hE
  generalize H.bytes b=H9 at hY |-
  generalize H.told b=l9 at hE |-
  generalize H.sent=s at hhd hsent hY
  have hsub:Hid (∀k,HZn Z h (p.at p.pv) k->B k):=J0 hs
  replace hup:=J0 hup
  clear hx hBd hb hsh hn hn5 hsl hT9 hs
  unfold Cp3 at hhd
  generalize p.pv=pv at hhd hsub
  go_enter Tryz.func22,Tryz.ntmps22
  go_upto_region 2 with ((go_at_call 36;(with_reducible refine(hhd.out).mono ?_);rintro e w1 ⟨⟨x1,rfl⟩,hD⟩))
  obtain⟨⟨Z1,v1,hx1,hs1⟩,hf1⟩:=hD
  have c2':w1.cell? ⟨p.e,2,none⟩=some (.pointer (some ⟨p.d,0,none⟩)):=hx1.eb.cell 2 rfl
  have htz1:TZ Z1 W w1 p.d p.t Y.T:=hx1.tz
  have hrp:=J0 (tz_repl htz1)
  have hterm:=J0 (fun w2 (ht:TZ Z1 W w2 p.d p.t (noRp Y.T)) (hf:Scn.Fr Z1 TT w1 w2)=>hx1.term' ht hf)
  have hd1:Hid (∀w2,Scn.Fr Z1 TT w1 w2->Hf B w w2):=J0 fun w2 hf=>(hf1.mono fun k _ hk=>hsub.out k hk).trans (Hf.of_fr hf) fun k hk hz=>by
    rcases hs1 k (.inl hz) with h1|h1
    · exact hsub.out k h1
    · omega
  have hz1:Hid (∀k,HZn Z1 h (p.at v1) k->B k):=J0 fun k hk=>by
    rcases hs1 k hk with h1|h1
    · exact hsub.out k h1
    · exact hup.out k h1
  have hsz1:=hf1.size
  clear hx1 hf1 hs1 htz1
  generalize hYT:Y.T.rp=rpl at hrp hsent hY
  replace hYT:=J0 hYT
  go_upto_region 3 with (first
    | (go_at_call 38
       with_reducible refine(hrp.out).mono ?_
       rintro e w2 ⟨⟨v2,rfl,hrow⟩,ht2,hfr2⟩
       have hx2:=hterm.out _ ht2 hfr2
       have hf2:=J0 (hd1.out _ hfr2)
       have hsz2:=hfr2.size
       obtain⟨a2,cc2,rfl,_,_,hn2⟩:=hrow.shape
       have hsd:Calls Tryz.prog 30 #[.pointer (some ⟨p.e,0,none⟩),.slice a2 rpl.length cc2] w2 (Co4 Z1 W w2 h (p.at v1) (⟨Y.dec,Y.ps,noRp Y.T,s⟩:Hst) rpl):=send_any (H:=(⟨Y.dec,Y.ps,noRp Y.T,s⟩:Hst)) (p:=p.at v1) (cp:=cc2) hx2 hn2 hsent.out rfl
       unfold Co4 at hsd
       replace hsd:=J0 hsd
       have hup2:Hid (∀k,w2.heap.size<=k->B k):=J0 fun k hk=>hup.out k (by omega)
       clear hx2 ht2 hfr2 hrow hn2)
    |(go_at_call 30;(with_reducible refine(hsd.out).mono ?_);rintro e w3 ⟨⟨x3,rfl⟩,Z3,sv3,hx3,hf3,hs3⟩))
  have hsz3:=hf3.size
  have c2'':w3.cell? ⟨p.e,2,none⟩=some (.pointer (some ⟨p.d,0,none⟩)):=hx3.eb.cell 2 rfl
  have hz3:Hid (∀k,HZn Z3 h ((p.at v1).snd sv3) k->B k):=J0 fun k hk=>by
    rcases hs3 k hk with h1|h1
    · exact hz1.out k h1
    · exact hup2.out k h1
  have hF3:Hid (Hf B w w3):=J0 (hf2.out.trans hf3 fun k _ hk=>hz1.out k hk)
  have htz3:TZ Z3 W w3 p.d p.t (noRp Y.T):=hx3.tz
  have hj:=tz_jour htz3
  rw[show (noRp Y.T).jr=Y.T.jr from rfl,hE.out] at hj
  replace hj:=J0 hj
  have hend:Hid (∀v w4,w4.ownsRow 0 73 10 v l9.length (fl evL l9)->(∀g,v.ownBlock=some g->Z3 g)->TZ Z3 W w4 p.d p.t (noJr (noRp Y.T))->Scn.Fr Z3 TT w3 w4->Ct1 B w4 v l9/\Did B W w h H9 w4):=J0 fun v w4 h1 h2 h3 h4=>by
    have hx4:=HX.term' (p:=p.snd sv3) (v:=v1) (X:=(⟨Y.dec,Y.ps,noRp Y.T⟩:Tri)) (s:=s++rpl) hx3 h3 h4
    have e:=hY.out _ rfl
    refine⟨⟨h1,fun g hg=>hz3.out g (.inl (h2 g hg))⟩,⟨Z3,(p.snd sv3).at v1,?_,hz3.out⟩,hF3.out.trans (Hf.of_fr h4) fun k _ hk=>hz3.out k (.inl hk)⟩
    rw[<- e]
    exact hx4
  clear hx3 hf3 hs3 htz3 hsd
  go_wp2_with ((go_at_call 39;(with_reducible refine(hj.out).mono ?_);rintro e w4 ⟨⟨v4,rfl,hr4,hz4⟩,ht4,hfr4⟩))
  obtain⟨h5,h6⟩:=hend.out _ _ hr4 hz4 ht4 hfr4
  obtain⟨a4,c4,rfl,_,_⟩:=Ab3 hr4
  replace h5:=J0 h5
  clear hr4
  go_ret
  exact⟨_,rfl,h5.out,h6⟩
theorem Ba0 (hB:HB B W w h H) (hBd:∀k,k<=b.length->Bd c (H.tri.hand (b.take k))) (hsl:H.sent.length<=1000000000000) (hb:Utf.Bytes b) (hsh:∀wr,Hf B w wr->Bq8 wr .u8 ao b) (hn:b.length=n) (hn5:n<=100000) :
  Calls Tryz.prog 8 #[.pointer (some ⟨h,0,none⟩),.slice ao n cp] w (Told B W w h (H.bytes b) (H.told b)):=by
 obtain⟨Z,p,hx,hs⟩:=hB
 have hm:=J0 (isMade_yes hx)
 have c0:=hx.hb.cell 0 (v:=.pointer (some ⟨p.e,0,none⟩)) rfl
 have hby:=J0 (ends_bytes (cp:=cp) hx hs hBd hsl hb hsh hn hn5)
 clear hx hs hBd hsh hb hn hn5 hsl
 unfold Told at hby
 generalize hE:H.told b=l9 at hby |-
 go_enter Tryz.func8,Tryz.ntmps8
 go_wp2_with (first|(go_at_call 21;(with_reducible refine(hm.out).mono ?_);rintro e w1 ⟨rfl,rfl⟩)|(go_at_call 22;(with_reducible refine(hby.out).mono ?_);rintro e w2 ⟨v2,rfl,h1,h2⟩))
 obtain⟨a4,c4,rfl,_,_⟩:=Ab3 h1.1
 replace h1:=J0 h1
 go_ret
 exact⟨_,rfl,h1.out,h2⟩
end
section
variable {Z Z' B:Zn}{W w w1 w2 w':World}{h d t:Nat}{p p':HP}{H H':Hst}{X:Tri}{T:Ter}{v sv:Value}{s b l:List Int}{ao:Option Addr}{n cp c:Nat}
theorem tnew_z (hT:Tbl w) (rows cols most:Nat) (hr1:1<=rows) (hr5:rows<=512) (hc1:1<=cols) (hc5:cols<=512) (hm:most<=10000):Calls Tryz.prog 18 #[.int .i64 rows,.int .i64 cols,.int .i64 most] w fun e w'=>∃d t Z,e=.returned (.tuple #[.pointer (some ⟨d,0,none⟩),.int .i64 0])/\w.heap.size<=d/\Block w' d 105 #[.pointer (some ⟨t,0,none⟩)]/\TM Z w' t (newT rows cols most)/\¬Z d/\(∀k,Z k->w.heap.size<=k)/\Below w.heap.size w w':=by
 have hln:=J0 (new_yes most hm w)
 have hbg:Hid (∀w1,SX w.heap.size w1 w.heap.size 1 most (.slice none 0 0) []->Below w.heap.size w w1->Calls Tryz.prog 35 #[.pointer (some ⟨w1.heap.size,0,none⟩),.int .i64 rows,.int .i64 cols] (w1.alloc (.cells (Bi1 w.heap.size) 102)) fun e w'=>e=.returned (.int .i64 0)/\TM (fun k=>w.heap.size<=k) w' w1.heap.size (newT rows cols most)/\Below w.heap.size w w'):=J0 fun w1 hs hb=>by
  have hba:=Aa1 w1 (.cells (Bi1 w.heap.size) 102)
  have hb2:=Aa0 hb hba
  have hbl:=Block.made w1 102 (Bi1 w.heap.size)
  rw[Cd3 w.heap.size most] at hbl
  have hsz:=hb.size
  have h6:=hT.1
  have hbare:Bare (fun k=>w.heap.size<=k) (w1.alloc (.cells (Bi1 w.heap.size) 102)) w1.heap.size (Cs2 most) w.heap.size (.slice none 0 0) (.slice none 0 0) (.pointer none) (.pointer none) (.pointer none) :=
   ⟨by rw[Cd3 w.heap.size most];exact hbl,World.ownsRow_nil _ _ _ _,Kys.Row.nil _ _ _,hsz,fun g hg=>(by cases hg),fun g hg=>(by cases hg),fun k hk=>Nat.le_trans hb2.size hk,fun k hk hz=>(by omega),hT.below hb2⟩
  have hsto:Sto (fun k=>w.heap.size<=k) (w1.alloc (.cells (Bi1 w.heap.size) 102)) w.heap.size 1 most (.slice none 0 0) [] :=
   ⟨(sx_zero hs).below hba,⟨J5 _,fun g hg=>(by cases hg),fun e he=>(by cases he),fun k hk=>Nat.le_trans hb2.size hk⟩,by simp,by simp⟩
  refine(Ah0 (T:=Cs2 most) hbare hsto rows cols hr1 hr5 hc1 hc5 (by show 1+512<=10000000000;omega)).mono fun e w' ⟨he,h1,hf⟩=>⟨he,h1,?_⟩
  exact⟨hf.os.trans hb2.os,hf.tape.trans hb2.tape,hf.output.trans hb2.output,Nat.le_trans hb2.size hf.size,fun k hk=>(hf.block k (Nat.lt_of_lt_of_le hk hb2.size) (.inl (by omega))).trans (hb2.block k hk)⟩
 simp only[Bi1] at hbg
 generalize newT rows cols most=T at hbg |-
 clear hT
 go_enter Tryz.func18,Tryz.ntmps18
 go_wp2_with (first
  |(go_at_call 34;(with_reducible refine(hln.out).mono ?_);rintro e w1 ⟨rfl,hs,hb1⟩)
  |(go_at_call 35;(with_reducible refine(hbg.out _ hs hb1).mono ?_);rintro e w3 ⟨rfl,h3,hb3⟩))
 have hb4:=Aa1 w3 (.cells #[.pointer (some ⟨w1.heap.size,0,none⟩)] 105)
 go_ret2
 obtain⟨P,hP⟩:=h3
 have hs3:=hb3.size
 have hs4:(w3.alloc (.cells #[.pointer (some ⟨w1.heap.size,0,none⟩)] 105)).heap.size=w3.heap.size+1:=by simp
 have hk:Keep (fun k=>w.heap.size<=k) (re (fun k=>w.heap.size<=k) w3 (w3.alloc (.cells #[.pointer (some ⟨w1.heap.size,0,none⟩)] 105))) w3 (w3.alloc (.cells #[.pointer (some ⟨w1.heap.size,0,none⟩)] 105)):=⟨hb4.size,fun k hk _=>hb4.block k hk,fun k hk hz=>.inl ⟨hz,hk⟩,fun k hk=>.inr hk⟩
 refine⟨_,_,re (fun k=>w.heap.size<=k) w3 (w3.alloc (.cells #[.pointer (some ⟨w1.heap.size,0,none⟩)] 105)),rfl,hb3.size,Block.made w3 105 #[.pointer (some ⟨w1.heap.size,0,none⟩)],⟨P,hP.keep hk (fun k hk hz=>?_) (hP.tbl.below hb4)⟩,fun hz=>?_,fun k hz=>?_,Aa0 hb3 hb4⟩
 ·rcases hz with hz|hz
  ·exact hP.low k hk hz.1
  ·have:=hP.tbl.1
   omega
 ·rcases hz with hz|hz
  ·have:=hz.2
   omega
  ·omega
 ·rcases hz with hz|hz
  ·exact hz.1
  ·omega
def newH (r c b:Nat):Hst:=⟨Utf.zero,Prs.start,newT r c b,[]⟩
theorem hnew_fin {T:Ter} {dp:Nat} (hT:Tbl W) (hbW:Below W.heap.size W w) (ok:Ok T) (hd:w.heap.size<=d) (hbk:Block w1 d 105 #[.pointer (some ⟨t,0,none⟩)]) (hz:∀k,Z k->w.heap.size<=k) (hnd:¬Z d) (hTM:TM Z w1 t T) (hb1:Below w.heap.size w w1) (hdec:Utf.DecIn w2 w1.heap.size Utf.zero) (ho:Only [] w1 w2) (hdp:w2.heap.size=dp) :
  HB (fun k=>w.heap.size<=k) W (((w2.alloc (.cells (Prs.parL Prs.start (.slice none 0 0)).toArray 115)).alloc (.cells #[.pointer (some ⟨w1.heap.size,0,none⟩),.pointer (some ⟨dp,0,none⟩),.pointer (some ⟨d,0,none⟩),.slice none 0 0] 69)).alloc (.cells #[.pointer (some ⟨dp+1,0,none⟩)] 71)) (dp+2) ⟨Utf.zero,Prs.start,T,[]⟩ /\
   Below w.heap.size w (((w2.alloc (.cells (Prs.parL Prs.start (.slice none 0 0)).toArray 115)).alloc (.cells #[.pointer (some ⟨w1.heap.size,0,none⟩),.pointer (some ⟨dp,0,none⟩),.pointer (some ⟨d,0,none⟩),.slice none 0 0] 69)).alloc (.cells #[.pointer (some ⟨dp+1,0,none⟩)] 71)):=by
 subst hdp
 have hb2:Below w1.heap.size w1 w2:=ho.nil
 have hlt2:=hdec.lt
 have hd1:=Block.lt hbk
 have hs1:=hb1.size
 have hsW:=hbW.size
 have m3:=Block.made w2 115 (Prs.parL Prs.start (.slice none 0 0)).toArray
 have b3:=Aa1 w2 (.cells (Prs.parL Prs.start (.slice none 0 0)).toArray 115)
 have s3:(w2.alloc (.cells (Prs.parL Prs.start (.slice none 0 0)).toArray 115)).heap.size=w2.heap.size+1:=by simp
 generalize w2.alloc (.cells (Prs.parL Prs.start (.slice none 0 0)).toArray 115)=w3 at *
 have m4:=Block.made w3 69 #[.pointer (some ⟨w1.heap.size,0,none⟩),.pointer (some ⟨w2.heap.size,0,none⟩),.pointer (some ⟨d,0,none⟩),.slice none 0 0]
 have b4:=Aa1 w3 (.cells #[.pointer (some ⟨w1.heap.size,0,none⟩),.pointer (some ⟨w2.heap.size,0,none⟩),.pointer (some ⟨d,0,none⟩),.slice none 0 0] 69)
 have s4:(w3.alloc (.cells #[.pointer (some ⟨w1.heap.size,0,none⟩),.pointer (some ⟨w2.heap.size,0,none⟩),.pointer (some ⟨d,0,none⟩),.slice none 0 0] 69)).heap.size=w2.heap.size+2:=by simp[s3]
 generalize w3.alloc (.cells #[.pointer (some ⟨w1.heap.size,0,none⟩),.pointer (some ⟨w2.heap.size,0,none⟩),.pointer (some ⟨d,0,none⟩),.slice none 0 0] 69)=w4 at *
 have m5:=Block.made w4 71 #[.pointer (some ⟨w2.heap.size+1,0,none⟩)]
 have b5:=Aa1 w4 (.cells #[.pointer (some ⟨w2.heap.size+1,0,none⟩)] 71)
 have s5:(w4.alloc (.cells #[.pointer (some ⟨w2.heap.size+1,0,none⟩)] 71)).heap.size=w2.heap.size+3:=by simp[s4]
 generalize w4.alloc (.cells #[.pointer (some ⟨w2.heap.size+1,0,none⟩)] 71)=w5 at *
 rw[s3] at m4
 rw[s4] at m5
 have h25:=Aa0 (Aa0 b3 b4) b5
 have h15:=Aa0 hb2 h25
 have hTZ:TZ Z W w1 d t T:=⟨⟨hbk,hTM⟩,ok,Aa0 hbW hb1,fun k hk hz'=>by have:=hz k hz';omega⟩
 have hTZ5:TZ (re Z w1 w5) W w5 d t T:=TZ.re hTZ (Hf.of_below (fun _=>False) h15) (fun _ _ _ h=>h) (fun h=>h) (fun _ _ h=>h) hT.1
 have keep:∀ {a b:World} {k:Nat} {ty:TypeId} {cs:Array Value},Block a k ty cs->Below a.heap.size a b->Block b k ty cs:=fun hb hbl=>Block.only hb (Only.of_below hbl []) (by simp)
 refine⟨⟨re Z w1 w5,⟨w2.heap.size+1,w1.heap.size,w2.heap.size,d,t,.slice none 0 0,.slice none 0 0⟩,⟨m5,keep m4 b5,keep hdec h25,⟨keep m3 (Aa0 b4 b5),Own.nil _ _ _ _,by show W.heap.size<=w2.heap.size;omega⟩,Kys.Row.nil _ _ _,hTZ5,fun k hk hz'=>?_,⟨by omega,by show W.heap.size<=w2.heap.size+1;omega,by show W.heap.size<=w1.heap.size;omega,by show W.heap.size<=d;omega⟩,hT.1⟩,fun k hk=>?_⟩,Aa0 hb1 h15⟩
 ·have h1:k<w5.heap.size/\(k=d\/w1.heap.size<=k):=by
   rcases hk with hk|hk|hk|hk|hk|hk|hk
   ·omega
   ·have hk:k=w2.heap.size+1:=hk
    omega
   ·have hk:k=w1.heap.size:=hk
    omega
   ·have hk:k=w2.heap.size:=hk
    omega
   ·have hk:k=d:=hk
    omega
   ·cases hk
   ·cases hk
  rcases hz' with hz'|hz'
  ·rcases h1.2 with e|e
   ·subst e;exact hnd hz'.1
   ·omega
  ·omega
 ·rcases hk with hk|hk
  ·rcases hk with hk|hk
   ·exact hz k hk.1
   ·show w.heap.size<=k
    have:=h15.size
    omega
  ·show w.heap.size<=k
   rcases hk with hk|hk|hk|hk|hk|hk|hk
   ·omega
   ·have hk:k=w2.heap.size+1:=hk
    omega
   ·have hk:k=w1.heap.size:=hk
    omega
   ·have hk:k=w2.heap.size:=hk
    omega
   ·have hk:k=d:=hk
    omega
   ·cases hk
   ·cases hk
theorem Bo2 (hT:Tbl W) (hbW:Below W.heap.size W w) (r c b:Nat) (hr1:1<=r) (hr5:r<=512) (hc1:1<=c) (hc5:c<=512) (hb5:b<=10000):Calls Tryz.prog 7 #[.int .i64 r,.int .i64 c,.int .i64 b] w fun e w'=>∃h,e=.returned (.tuple #[.pointer (some ⟨h,0,none⟩),.int .i64 0])/\HB (fun k=>w.heap.size<=k) W w' h (newH r c b)/\Below w.heap.size w w':=by
 have hn:=J0 (tnew_z (hT.below hbW) r c b hr1 hr5 hc1 hc5 hb5)
 have hun:=fun w1=>J0 (Utf.new_any w1)
 have hpn:=fun w1=>J0 (Prs.new_any w1)
 have hok:=Cq9 r c b hr1 hr5 hc1 hc5
 unfold newH
 generalize newT r c b=T at hn hok |-
 have hfin:=J0 (fun w1 w2 Z d t (h1:w.heap.size<=d) h2 h3 h4 h5 h6 h7 h8=>hnew_fin (w1:=w1) (w2:=w2) (Z:=Z) (d:=d) (t:=t) (dp:=w2.heap.size) hT hbW hok h1 h2 h3 h4 h5 h6 h7 h8 rfl)
 clear hT hbW hok
 go_enter Tryz.func7,Tryz.ntmps7
 go_wp2_with (first
  |(go_at_call 18;(with_reducible refine(hn.out).mono ?_);rintro e w1 ⟨d,t,Z,rfl,h1,h2,h3,h4,h5,h6⟩)
  |(go_at_call 19;(with_reducible refine((hun _).out).mono ?_);rintro e w2 ⟨rfl,h7,h8⟩)
  |(go_at_call 20;(with_reducible refine((hpn _).out).mono ?_);rintro e w3 ⟨rfl,rfl⟩))
 go_ret2
 have hF:=hfin.out w1 w2 Z d t h1 h2 h5 h4 h3 h6 h7 h8
 exact⟨_,rfl,hF.1,hF.2⟩
end
section
variable {Z Z' B:Zn}{W w w1 w2 w':World}{h d t:Nat}{p p':HP}{H H':Hst}{X:Tri}{T:Ter}{v sv:Value}{s b l:List Int}{ao:Option Addr}{n cp c:Nat}
theorem HB.ok (hB:HB B W w h H):Ok H.T:=by
 obtain⟨Z,p,hx,_⟩:=hB
 exact hx.tz.ok
theorem Bt0 (hB:HB B W w h H):Calls Tryz.prog 27 #[.pointer (some ⟨h,0,none⟩)] w fun e w'=>∃g1 c1 g2 c2 rs,e=.returned (.agg #[.slice (some ⟨g2,0,none⟩) H.T.vis.L.length c2,.int .i64 H.T.vis.cols,.int .i64 H.T.c.row,.int .i64 H.T.c.col]) /\
  Tld w' H.T.vis.L.length H.T.vis.cols H.T.vis.L g1 c1 g2 c2 rs/\Below w.heap.size w w':=by
 have hbn:=Aa1 w (.cells #[.slice none 0 0,.int .i64 0,.int .i64 0,.int .i64 0] 84)
 have hbx:=Block.made w 84 #[.slice none 0 0,.int .i64 0,.int .i64 0,.int .i64 0]
 have hok:=hB.ok
 have hn1:=hok.fit.len
 obtain⟨Z,p,hx,hs⟩:=hB.on hbn
 have hm:=J0 (isMade_yes hx)
 have c0:=hx.hb.cell 0 (v:=.pointer (some ⟨p.e,0,none⟩)) rfl
 have c2:=hx.eb.cell 2 (v:=.pointer (some ⟨p.d,0,none⟩)) rfl
 have ht:=Ay6 hx.tz
 have hkeep:=J0 (fun w1 (hb:Below (w.alloc (.cells #[.slice none 0 0,.int .i64 0,.int .i64 0,.int .i64 0] 84)).heap.size (w.alloc (.cells #[.slice none 0 0,.int .i64 0,.int .i64 0,.int .i64 0] 84)) w1)=>Block.only hbx (Only.of_below hb []) (by simp))
 have hinf:(Tryz.prog.info? 84).map (·.size)=some 4:=by kernel_rfl
 generalize H.T.vis.L.length=n0 at ht hn1 |-
 generalize H.T.vis.cols=n1 at ht |-
 generalize H.T.vis.L=L at ht |-
 generalize H.T.vis.top=n2 at ht
 generalize H.T.vis.bot=n3 at ht
 generalize H.T.c=cu at ht |-
 generalize H.T.m.a5=m5 at ht
 generalize H.T.other.isNone=oi at ht
 generalize H.T.p.a=pa at ht
 obtain⟨q0,q1,q2⟩:=cu
 obtain⟨r0,r1,r2⟩:=pa
 simp only at ht |-
 replace ht:=J0 ht
 clear hx hs hbx hB hok
 go_enter Tryz.func27,Tryz.ntmps27
 go_upto_region 4 with (first
  |(go_at_call 21;(with_reducible refine(hm.out).mono ?_);rintro e w1 ⟨rfl,rfl⟩)
  |(go_at_call 32;(with_reducible refine(ht.out).mono ?_);rintro e w1 ⟨g1,c1,g2,c2',rs,rfl,htl,hb1⟩))
 have hb7:=hkeep.out _ hb1
 have hbb:=Aa0 hbn hb1
 have hgn:=Aa1 w1 (.cells #[.slice (some ⟨g1,0,none⟩) n0 c1,.slice (some ⟨g2,0,none⟩) n0 c2',.int .i64 q0,.int .i64 q1,.bool q2,.bool (!m5),.bool oi,.int .i64 n2,.int .i64 n3,.int .u32 r0,.int .u32 r1,.int .u16 r2] 53)
 have hgx:=Block.made w1 53 #[.slice (some ⟨g1,0,none⟩) n0 c1,.slice (some ⟨g2,0,none⟩) n0 c2',.int .i64 q0,.int .i64 q1,.bool q2,.bool (!m5),.bool oi,.int .i64 n2,.int .i64 n3,.int .u32 r0,.int .u32 r1,.int .u16 r2]
 replace htl:=htl.below hgn
 replace hb7:=Block.only hb7 (Only.of_below hgn []) (by simp)
 replace hbb:=Aa0 hbb hgn
 generalize w1.heap.size=bg at hgx |-
 generalize w1.alloc (.cells #[.slice (some ⟨g1,0,none⟩) n0 c1,.slice (some ⟨g2,0,none⟩) n0 c2',.int .i64 q0,.int .i64 q1,.bool q2,.bool (!m5),.bool oi,.int .i64 n2,.int .i64 n3,.int .u32 r0,.int .u32 r1,.int .u16 r2] 53)=w2 at hgx htl hb7 hbb |-
 obtain⟨x,z1,-,-⟩:=htl.row (i:=0) (by omega)
 have y0:=hgx.cell 0 (v:=.slice (some ⟨g1,0,none⟩) n0 c1) rfl
 have y1:=hgx.cell 1 (v:=.slice (some ⟨g2,0,none⟩) n0 c2') rfl
 have y2:=hgx.cell 2 (v:=.int .i64 q0) rfl
 have y3:=hgx.cell 3 (v:=.int .i64 q1) rfl
 have f0:=hb7.free 0
 have f1:=hb7.free 1
 have f2:=hb7.free 2
 have f3:=hb7.free 3
 have u0:=hb7.cell 0 (v:=.slice none 0 0) rfl
 have u1:=hb7.cell 1 (v:=.int .i64 0) rfl
 have u2:=hb7.cell 2 (v:=.int .i64 0) rfl
 have u3:=hb7.cell 3 (v:=.int .i64 0) rfl
 have hn0:(0:Int)<n0:=by omega
 clear ht hm hkeep hb1 hgn hgx
 go_wp2
 go_region
 have hb8:Block (((((w2.setCell ⟨w.heap.size,0,none⟩ (.slice (some ⟨g2,0,none⟩) n0 c2')).setCell ⟨w.heap.size,1,none⟩ (.int .i64 n1)).setCell ⟨w.heap.size,2,none⟩ (.int .i64 q0)).setCell ⟨w.heap.size,3,none⟩ (.int .i64 q1)).drew) w.heap.size 84 #[.slice (some ⟨g2,0,none⟩) n0 c2',.int .i64 n1,.int .i64 q0,.int .i64 q1]:=Block.only ((((hb7.set 0 (.slice (some ⟨g2,0,none⟩) n0 c2')).set 1 (.int .i64 n1)).set 2 (.int .i64 q0)).set 3 (.int .i64 q1)) (Only.drewN [] _ 1) (by simp)
 have ho8:Only [w.heap.size] w2 (((((w2.setCell ⟨w.heap.size,0,none⟩ (.slice (some ⟨g2,0,none⟩) n0 c2')).setCell ⟨w.heap.size,1,none⟩ (.int .i64 n1)).setCell ⟨w.heap.size,2,none⟩ (.int .i64 q0)).setCell ⟨w.heap.size,3,none⟩ (.int .i64 q1)).drew):=((((Only.setCell w2 ⟨w.heap.size,0,none⟩ _).trans (Only.setCell _ ⟨w.heap.size,1,none⟩ _)).trans (Only.setCell _ ⟨w.heap.size,2,none⟩ _)).trans (Only.setCell _ ⟨w.heap.size,3,none⟩ _)).trans (Only.drewN _ _ 1)
 generalize ((((w2.setCell ⟨w.heap.size,0,none⟩ (.slice (some ⟨g2,0,none⟩) n0 c2')).setCell ⟨w.heap.size,1,none⟩ (.int .i64 n1)).setCell ⟨w.heap.size,2,none⟩ (.int .i64 q0)).setCell ⟨w.heap.size,3,none⟩ (.int .i64 q1)).drew=w9 at hb8 ho8 |-
 have hbe:=hbb.trans (ho8.below hbb.size (by simp))
 have hfr:Rw.Fr 0 [84] w2 w9:=Rw.Fr.of_only ho8 fun k hk _=>by
  obtain rfl:k=w.heap.size:=by simpa using hk
  exact⟨Nat.zero_le _,_,by simp,Block.typ hb7⟩
 have hinf2:(Tryz.prog.info? 84).map (·.size)=some (#[.slice (some ⟨g2,0,none⟩) n0 c2',.int .i64 n1,.int .i64 q0,.int .i64 q1]:Array Value).size:=hinf
 clear y0 y1 y2 y3 f0 f1 f2 f3 u0 u1 u2 u3 z1
 go_wp2
 exact bodyPost_ret (results_cell_row rfl _ _ _ _ _ _ _ rfl hb8 Tryz.underlying84 rfl hinf2) rfl ⟨g1,c1,g2,c2',rs,rfl,⟨htl.rws.fr hfr (by decide) (by decide) (by decide) (by decide),htl.len,htl.llen,htl.got,htl.wid⟩,hbe⟩
end
