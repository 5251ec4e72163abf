/- Part 44 of HostKeys. -/
import Derived.Test.YtecnpoigegiooaaGreatDoorW43
set_option maxHeartbeats 16000000
set_option maxRecDepth 100000
namespace Go.Proofs.YtecnpoigegiooaaGreatDoor.Hos
open Go.Proofs.Tryz
open Go RowKit Com Rw Lns Emu Scn
def Ayb(T:Ter):Ter:={ T with jr:=[] }
structure Did(B:Zn)(W w:World)(h:Nat)(H:Hst)(w':World):Prop where
 hb:HB B W w' h H
 fr:Hf B w w'
section
variable {Z Z' B:Zn}{W w w1 w2 w':World}{h d t:Nat}{p p':HP}{H H':Hst}{X:Tri}{T:Ter}{v sv:Value}{s b l:List Int}{ao:Option Addr}{n cp c:Nat}
theorem Bnt(hs:∀k,HZn Z h p k->B k)(hup:∀k,w.heap.size<=k->B k)(hx:HX Z' W w' h p' H')(hf:Hf (HZn Z h p) w w')(M3:∀k,HZn Z' h p' k->HZn Z h p k\/w.heap.size<=k):Did B W w h H' w' :=
 ⟨⟨Z',p',hx,fun k hk=>(M3 k hk).elim (hs k) (hup k)⟩,hf.mono fun k _ hk=>hs k hk⟩
theorem HB.on(hB:HB B W w h H)(hb:Below w.heap.size w w'):HB B W w' h H:=by
 obtain⟨Z,p,hx,hs⟩:=hB
 exact⟨Z,p,hx.on' hb,hs⟩
theorem HB.below(hB:HB B W w h H):Below W.heap.size W w:=by
 obtain⟨Z,p,hx,hs⟩:=hB
 exact hx.below
theorem Did.trans(h1:Did B W w h H w1)(h2:Did B W w1 h H' w2):Did B W w h H' w2:=⟨h2.hb,h1.fr.trans h2.fr fun _ _ h=>h⟩
theorem Did.on(h1:Did B W w h H w1)(hb:Below w1.heap.size w1 w2):Did B W w h H w2:=⟨h1.hb.on hb,h1.fr.trans (Hf.A1 (fun _=>False) hb) fun _ _ h=>h.elim⟩
theorem HB.did(hB:HB B W w h H)(hb:Below w.heap.size w w'):Did B W w h H w':=⟨hB.on hb,Hf.A1 B hb⟩
theorem W6(hx:HX Z W w h p H):Calls prog 21 #[.pointer (some ⟨h,0,none⟩)] w fun e w'=>e=.returned (.bool true)/\w=w':=by
 have c0:=hx.hb.cell 0 (v:=.pointer (some ⟨p.e,0,none⟩)) rfl
 clear hx
 go_enter func21,ntmps21
 go_wp2
 go_ret
 exact⟨rfl,rfl⟩
theorem Cnb(h:TZ Z W w d t T):Calls prog 39 #[.pointer (some ⟨d,0,none⟩)] w fun e w'=>(∃v,e=.returned v/\w'.ownsRow 0 73 10 v T.jr.length (fl evL T.jr)/\∀g,v.ownBlock=some g->Z g)/\TZ Z W w' d t (Ayb T)/\Scn.Fr Z TT w w':=by
 have hm:=J0 (Emu.W6 h.tv)
 have c0:=h.tv.blk.cell 0 (v:=.pointer (some ⟨t,0,none⟩)) rfl
 obtain⟨P,hT⟩:=h.tv.tm
 have c32:=hT.c32
 have f32:=hT.free 32
 obtain⟨ao,c,e⟩:=hT.Cow
 have A6:(w.setCell ⟨t,32,none⟩ (.slice none 0 0)).ownsRow 0 73 10 P.jv T.jr.length (fl evL T.jr):=V4 hT.jr (fun g hg=>(A0.setCell w ⟨t,32,none⟩ (.slice none 0 0)).block _ (Aax (M4 hT.jr g hg)) (V0 (M4 hT.jr g hg) (Block.typ hT.blk) (by decide)))
 have hzj:=hT.zj
 rw[e]at c32 A6 hzj
 have hk:=J0 (hT.Amh.1.2)
 have E3:Hid (TZ Z W (w.setCell ⟨t,32,none⟩ (.slice none 0 0)) d t (Ayb T)):=J0 ⟨h.tv.G9 hT.Amh.1.1.tm hT.Amh.1.2,⟨h.ok.fit,h.ok.U6,h.ok.rows,h.ok.cols,h.ok.row,h.ok.col,h.ok.sv,h.ok.svm,h.ok.tn,h.ok.alt⟩,Azu h.below h.out hT.Amh.1.2,h.out⟩
 replace A6:=J0 A6
 replace hzj:=J0 hzj
 generalize T.jr.length=n at c32 A6 hzj |-
 clear h hT e
 go_enter func39,ntmps39
 go_wp2_with((go_at_call 49;(with_reducible refine(hm.out).mono ?_);rintro e w1 ⟨rfl,rfl⟩))
 go_ret
 exact⟨⟨_,rfl,A6.out,hzj.out⟩,E3.out,hk.out⟩
def Bov(B:Zn)(w:World)(v:Value)(l:List Ev):Prop:=w.ownsRow 0 73 10 v l.length (fl evL l)/\∀g,v.ownBlock=some g->B g
theorem Cau(hB:HB B W w h H)(hn:A8 w w.heap.size .u8 ao b)(hl:H.B8.length+b.length<=140737488355328)(hbn:b.length=n):Calls prog 14 #[.pointer (some ⟨h,0,none⟩),.slice ao n cp] w fun e w'=>e=.returned (.int .i64 0)/\Did B W w h { H with B8:=H.B8++b } w':=by
 have hup:=hB.up
 obtain⟨Z,p,hx,hs⟩:=hB
 have hm:=J0 (W6 hx)
 have c0:=hx.hb.cell 0 (v:=.pointer (some ⟨p.e,0,none⟩)) rfl
 have hsd:=J0 (Avb (cp:=cp) hx hn hl hbn)
 have E3:Hid (∀w2,(∃Z' sv,HX Z' W w2 h (p.snd sv) { H with B8:=H.B8++b }/\Hf (HZn Z h p) w w2/\∀k,HZn Z' h (p.snd sv) k->HZn Z h p k\/w.heap.size<=k)->Did B W w h { H with B8:=H.B8++b } w2):=J0 fun w2 ⟨Z',sv,h1,h2,h3⟩=>Bnt hs hup h1 h2 h3
 unfold Arc at hsd
 clear hx hs hup hn hl
 go_enter func14,ntmps14
 go_wp2_with(first|(go_at_call 21;(with_reducible refine(hm.out).mono ?_);rintro e w1 ⟨rfl,rfl⟩)|(go_at_call 30;(with_reducible refine(hsd.out).mono ?_);rintro e w2 ⟨⟨x2,rfl⟩,hr2⟩))
 go_ret
 exact⟨rfl,E3.out _ hr2⟩
theorem Azy(hB:HB B W w h H):Calls prog 11 #[.pointer (some ⟨h,0,none⟩)] w fun e w'=>∃v,e=.returned v/\Kys.Row w' W.heap.size 5 v H.B8/\HB (fun k=>B k/\v.ownBlock≠some k) W w' h { H with B8:=[] }/\Hf B w w'/\∀g,v.ownBlock=some g->B g/\g<w.heap.size:=by
 have hup:=hB.up
 obtain⟨Z,p,hx,hs⟩:=hB
 have hm:=J0 (W6 hx)
 have c0:=hx.hb.cell 0 (v:=.pointer (some ⟨p.e,0,none⟩)) rfl
 have c3:w.cell? ⟨p.e,3,none⟩=some p.sv:=hx.eb.cell 3 rfl
 have f3:w.frozen? ⟨p.e,3,none⟩=false:=hx.eb.free 3
 obtain⟨ar,cr,hrv,_⟩:=hx.B8.shape
 obtain⟨h1,h2,h3⟩:=hx.Bqc (w2:=w) (sv:=.slice none 0 0) (l:=[]) (Kys.Row.nil _ _ _) (A0.refl _ _) (.inr (.inl rfl))
 have hne:∀g,p.sv.ownBlock=some g->g≠p.e:=fun g hg e=>absurd (Typ.inj (R0 hx.B8 g hg) (e▸Block.typ hx.eb)) (by decide)
 have E3:Hid (Kys.Row (w.setCell ⟨p.e,3,none⟩ (.slice none 0 0)) W.heap.size 5 p.sv H.B8/\HB (fun k=>B k/\p.sv.ownBlock≠some k) W (w.setCell ⟨p.e,3,none⟩ (.slice none 0 0)) h { H with B8:=[] }/\Hf B w (w.setCell ⟨p.e,3,none⟩ (.slice none 0 0))/\∀g,p.sv.ownBlock=some g->B g/\g<w.heap.size):=J0 (by
  refine⟨W8 hx.B8 (fun g hg=>Below.heap_setCell _ _ _ _ (hne g hg)),⟨_,_,h1,fun k hk=>⟨(h3 k hk).elim (hs k) (hup k),fun hg=>?_⟩⟩,h2.mono fun k _ hk=>hs k hk,fun g hg=>⟨hs g (.inr (.inr (.inr (.inr (.inr (.inr (.inr hg))))))),(hx.B8.lt g hg).2⟩⟩
  have tg:=R0 hx.B8 k hg
  have no:∀ {ty:TypeId},Typ w k ty->ty≠5->False:=fun h1 h2=>h2 (Typ.inj h1 tg)
  rcases hk with hk|hk
  ·rcases hk with hk|hk
   ·exact hx.nz k (.inr (.inr (.inr (.inr (.inr (.inr hg)))))) hk.1
   ·have:=(hx.B8.lt k hg).2
    have e:(w.setCell ⟨p.e,3,none⟩ (.slice none 0 0)).heap.size=w.heap.size:=by simp
    omega
  ·rcases hk with hk|hk|hk|hk|hk|hk|hk
   ·subst hk;exact no (Block.typ hx.hb) (by decide)
   ·have hk:k=p.e:=hk
    subst hk;exact no (Block.typ hx.eb) (by decide)
   ·have hk:k=p.dd:=hk
    subst hk;exact no (Block.typ hx.dec) (by decide)
   ·have hk:k=p.dp:=hk
    subst hk;exact no (Block.typ hx.par.blk.blk) (by decide)
   ·have hk:k=p.d:=hk
    subst hk;exact no (Block.typ hx.tz.tv.blk) (by decide)
   ·exact no (M4 hx.par.own k hk) (by decide)
   ·cases hk)
 generalize H.B8=l at E3 |- hrv
 rw[hrv]at c3 E3
 clear hx hs hup hne h1 h2 h3
 go_enter func11,ntmps11
 go_wp2_with((go_at_call 21;(with_reducible refine(hm.out).mono ?_);rintro e w1 ⟨rfl,rfl⟩))
 go_ret
 exact⟨_,rfl,E3.out⟩
theorem Ayn(hB:HB B W w h H):Calls prog 17 #[.pointer (some ⟨h,0,none⟩)] w fun e w'=>e=.returned (.int .u64 H.T.C5)/\w=w':=by
 obtain⟨Z,p,hx,hs⟩:=hB
 have hm:=J0 (W6 hx)
 have c0:=hx.hb.cell 0 (v:=.pointer (some ⟨p.e,0,none⟩)) rfl
 have c2:w.cell? ⟨p.e,2,none⟩=some (.pointer (some ⟨p.d,0,none⟩)):=hx.eb.cell 2 rfl
 have ht:=J0 (Bvs hx.tz.tv)
 generalize H.T.C5=y at ht |-
 clear hx hs
 go_enter func17,ntmps17
 go_wp2_with(first|(go_at_call 21;(with_reducible refine(hm.out).mono ?_);rintro e w1 ⟨rfl,rfl⟩)|(go_at_call 33;(with_reducible refine(ht.out).mono ?_);rintro e w1 ⟨rfl,rfl⟩))
 go_ret
 exact⟨rfl,rfl⟩
theorem Bgi(hB:HB B W w h H):Calls prog 25 #[.pointer (some ⟨h,0,none⟩)] w fun e w'=>e=.returned (.agg (Mds.mA H.T.m))/\Below w.heap.size w w':=by
 have hbn:=A3 w (.cells #[.bool false,.bool false,.bool false,.bool false,.bool false,.bool false,.bool false,.bool false] 80)
 have hbx:=Block.made w 80 #[.bool false,.bool false,.bool false,.bool false,.bool false,.bool false,.bool false,.bool false]
 obtain⟨Z,p,hx,hs⟩:=hB.on hbn
 have hm:=J0 (W6 hx)
 have c0:=hx.hb.cell 0 (v:=.pointer (some ⟨p.e,0,none⟩)) rfl
 have c2:=hx.eb.cell 2 (v:=.pointer (some ⟨p.d,0,none⟩)) rfl
 have ht:=J0 (Azj hx.tz.tv)
 have B9:=Mds.Aat H.T.m
 have E0:=Mds.Ady H.T.m
 have Y9:=J0 (fun w1 (hb:Below (w.alloc (.cells #[.bool false,.bool false,.bool false,.bool false,.bool false,.bool false,.bool false,.bool false] 80)).heap.size (w.alloc (.cells #[.bool false,.bool false,.bool false,.bool false,.bool false,.bool false,.bool false,.bool false] 80)) w1)=>Block.only hbx (A0.A1 hb []) (by simp))
 generalize H.T.m=m at ht B9 E0 |-
 obtain⟨a0,a1,a2,a3,a4,a5,a6,a7⟩:=m
 simp only[Mds.mA]at ht B9 E0 |-
 clear hx hs hbx hB
 go_enter func25,ntmps25
 go_wp2_with (first
  |(go_at_call 21;(with_reducible refine(hm.out).mono ?_);rintro e w1 ⟨rfl,rfl⟩)
  |(go_at_call 29;(with_reducible refine(ht.out).mono ?_);rintro e w1 ⟨rfl,hb1⟩;have hb7:=Y9.out _ hb1)
  |(with_reducible refine J8 2 ?_;go_must(refine L8 rfl _ (.tmp 2) _ rfl hb7 #[.bool a0,.bool a1,.bool a2,.bool a3,.bool a4,.bool a5,.bool a6,.bool a7] rfl rfl B9 rfl E0 ?_);intro w8 hb8 ho8))
 have hbb:=A2 hbn hb1
 exact bodyPost_ret (results_cell_row rfl _ _ _ _ _ _ _ rfl hb8 underlying80 rfl B9) rfl ⟨rfl,hbb.trans (ho8.below hbb.size (by simp))⟩
theorem Bhx(hB:HB B W w h H):Calls prog 23 #[.pointer (some ⟨h,0,none⟩)] w fun e w'=>∃ba bc hs,e=.returned (.slice ba H.T.R.length bc)/\Bld w' (.slice ba H.T.R.length bc) H.T.R.length H.T.R hs/\H.T.R.length<=maxLen/\Below w.heap.size w w':=by
 obtain⟨Z,p,hx,hs⟩:=hB
 have hm:=J0 (W6 hx)
 have c0:=hx.hb.cell 0 (v:=.pointer (some ⟨p.e,0,none⟩)) rfl
 have c2:w.cell? ⟨p.e,2,none⟩=some (.pointer (some ⟨p.d,0,none⟩)):=hx.eb.cell 2 rfl
 have ht:=J0 (Bzi hx.tz)
 generalize H.T.R=R at ht |-
 generalize R.length=y at ht |-
 clear hx hs
 go_enter func23,ntmps23
 go_wp2_with(first|(go_at_call 21;(with_reducible refine(hm.out).mono ?_);rintro e w1 ⟨rfl,rfl⟩)|(go_at_call 40;(with_reducible refine(ht.out).mono ?_);rintro e w1 ⟨ba,bc,hs,rfl,hB1,hl1,hb1⟩))
 replace hB1:=J0 hB1
 go_ret
 exact⟨ba,bc,hs,rfl,hB1.out,hl1,hb1⟩
theorem Azx(hB:HB B W w h H):Calls prog 16 #[.pointer (some ⟨h,0,none⟩)] w fun e w'=>∃g1 c1 g2 c2 rs,e=.returned (.agg #[.slice (some ⟨g1,0,none⟩) H.T.vis.L.length c1,.slice (some ⟨g2,0,none⟩) H.T.vis.L.length c2,.int .i64 H.T.c.row,.int .i64 H.T.c.col,.bool H.T.c.F6,.bool (!H.T.m.a5),.bool H.T.other.isNone,.int .i64 H.T.vis.top,.int .i64 H.T.vis.bot,.int .u32 H.T.p.a.f,.int .u32 H.T.p.a.b,.int .u16 H.T.p.a.g]) /\
  Tld w' H.T.vis.L.length H.T.vis.cols H.T.vis.L g1 c1 g2 c2 rs/\Below w.heap.size w w':=by
 have hbn:=A3 w (.cells #[.slice none 0 0,.slice none 0 0,.int .i64 0,.int .i64 0,.bool false,.bool false,.bool false,.int .i64 0,.int .i64 0,.int .u32 0,.int .u32 0,.int .u16 0] 53)
 have hbx:=Block.made w 53 #[.slice none 0 0,.slice none 0 0,.int .i64 0,.int .i64 0,.bool false,.bool false,.bool false,.int .i64 0,.int .i64 0,.int .u32 0,.int .u32 0,.int .u16 0]
 obtain⟨Z,p,hx,hs⟩:=hB.on hbn
 have hm:=J0 (W6 hx)
 have c0:=hx.hb.cell 0 (v:=.pointer (some ⟨p.e,0,none⟩)) rfl
 have c2:=hx.eb.cell 2 (v:=.pointer (some ⟨p.d,0,none⟩)) rfl
 have ht:=Aqc hx.tz
 have Y9:=J0 (fun w1 (hb:Below (w.alloc (.cells #[.slice none 0 0,.slice none 0 0,.int .i64 0,.int .i64 0,.bool false,.bool false,.bool false,.int .i64 0,.int .i64 0,.int .u32 0,.int .u32 0,.int .u16 0] 53)).heap.size (w.alloc (.cells #[.slice none 0 0,.slice none 0 0,.int .i64 0,.int .i64 0,.bool false,.bool false,.bool false,.int .i64 0,.int .i64 0,.int .u32 0,.int .u32 0,.int .u16 0] 53)) w1)=>Block.only hbx (A0.A1 hb []) (by simp))
 have B9:(prog.info? 53).map (·.size)=some 12:=by kernel_rfl
 generalize H.T.vis.L.length=n0 at ht |-
 generalize H.T.vis.cols=n1 at ht |-
 generalize H.T.vis.L=L at ht |-
 generalize H.T.vis.top=n2 at ht |-
 generalize H.T.vis.bot=n3 at ht |-
 generalize H.T.c=cu at ht |-
 generalize H.T.m.a5=m5 at ht |-
 generalize H.T.other.isNone=oi at ht |-
 generalize H.T.p.a=pa at ht |-
 obtain⟨q0,q1,q2⟩:=cu
 obtain⟨r0,r1,r2⟩:=pa
 simp only at ht |-
 replace ht:=J0 ht
 clear hx hs hbx hB
 go_enter func16,ntmps16
 go_wp2_with (first
  |(go_at_call 21;(with_reducible refine(hm.out).mono ?_);rintro e w1 ⟨rfl,rfl⟩)
  |(go_at_call 32;(with_reducible refine(ht.out).mono ?_);rintro e w1 ⟨g1,c1,g2,c2',rs,rfl,htl,hb1⟩;have hb7:=Y9.out _ hb1;have Aaz:(prog.info? 53).map (·.size)=some (#[.slice (some ⟨g1,0,none⟩) n0 c1,.slice (some ⟨g2,0,none⟩) n0 c2',.int .i64 q0,.int .i64 q1,.bool q2,.bool (!m5),.bool oi,.int .i64 n2,.int .i64 n3,.int .u32 r0,.int .u32 r1,.int .u16 r2]:Array Value).size:=B9)
  |(with_reducible refine J8 2 ?_;go_must(refine L8 rfl _ (.tmp 2) _ rfl hb7 #[.slice (some ⟨g1,0,none⟩) n0 c1,.slice (some ⟨g2,0,none⟩) n0 c2',.int .i64 q0,.int .i64 q1,.bool q2,.bool (!m5),.bool oi,.int .i64 n2,.int .i64 n3,.int .u32 r0,.int .u32 r1,.int .u16 r2] rfl rfl Aaz rfl (by simp[Value.oneCell']) ?_);intro w8 hb8 ho8))
 have hbb:=A2 hbn hb1
 have hbe:=hbb.trans (ho8.below hbb.size (by simp))
 have hfr:Rw.Fr 0 [53] w1 w8:=Rw.Fr.I9 ho8 fun k hk _=>by
  obtain rfl:k=w.heap.size:=by simpa using hk
  exact⟨Nat.zero_le _,_,by simp,Block.typ hb7⟩
 exact bodyPost_ret (results_cell_row rfl _ _ _ _ _ _ _ rfl hb8 underlying53 rfl Aaz) rfl ⟨g1,c1,g2,c2',rs,rfl,⟨htl.rws.fr hfr (by decide) (by decide) (by decide) (by decide),htl.len,htl.Aei,htl.got,htl.wid⟩,hbe⟩
end
section
variable {Z Z' B:Zn}{W w w1 w2 w':World}{h d t:Nat}{p p':HP}{H H':Hst}{X:Tri}{T:Ter}{v sv:Value}{s b l:List Int}{ao:Option Addr}{n cp c:Nat}
def Told(B:Zn)(W w:World)(h:Nat)(H:Hst)(l:List Ev)(e:Ending)(w':World):Prop:=∃v,e=.returned v/\Bov B w' v l/\Did B W w h H w'
theorem Cdd{B:Zn}(hs:∀k,HZn Z h p k->B k)(hn:∀wr,Hf B w wr->Aju wr .u8 ao b):∀wr,Hf (HZn Z h p) w wr->Aju wr .u8 ao b:=fun wr hf=>hn wr (hf.mono fun k _ hk=>hs k hk)
theorem Bwy(hx:HX Z W w h p H)(hs:∀k,HZn Z h p k->B k)(hBd:∀k,k<=b.length->Bd c (H.tri.hand (b.take k)))(hsl:H.B8.length<=1000000000000)(hb:Utf.Bytes b)(hsh:∀wr,Hf B w wr->Aju wr .u8 ao b)(hn:b.length=n)(hn5:n<=100000) :
    Calls prog 22 #[.pointer (some ⟨p.e,0,none⟩),.slice ao n cp] w (Told B W w h (H.bytes b) (H.told b)):=by
  have hup:∀k,w.heap.size<=k->B k:=fun k hk=>hs k (.inl (hx.up k hk))
  have c2:w.cell? ⟨p.e,2,none⟩=some (.pointer (some ⟨p.d,0,none⟩)):=hx.eb.cell 2 rfl
  have hhd:=J0 (Cff (X:=H.tri) (p:=p) (v:=p.pv) (s:=H.B8) (cp:=cp) hx hBd hb (Cdd hs hsh) hn hn5)
  have hT9:=hBd b.length (J5 _)
  rw[List.take_length]at hT9
  have Awv:Hid (H.B8.length+(H.tri.hand b).T.rp.length<=140737488355328):=J0 (by have:=hT9.rh.rp;omega)
  have hY:Hid (∀T',T'=Ayb (Agu (H.tri.hand b).T)->(⟨(H.tri.hand b).dec,(H.tri.hand b).ps,T',H.B8++(H.tri.hand b).T.rp⟩:Hst)=H.bytes b):=J0 fun T' e=>by rw[e];rfl
  have hE:Hid ((H.tri.hand b).T.jr=H.told b):=J0 rfl
  generalize H.tri.hand b=Y at hhd Awv hY hE
  generalize H.bytes b=H9 at hY |-
  generalize H.told b=l9 at hE |-
  generalize H.B8=s at hhd Awv hY
  have M3:Hid (∀k,HZn Z h (p.at p.pv) k->B k):=J0 hs
  replace hup:=J0 hup
  clear hx hBd hb hsh hn hn5 hsl hT9 hs
  unfold Ab4 at hhd
  generalize p.pv=pv at hhd M3
  go_enter func22,ntmps22
  go_upto_region 2 with((go_at_call 36;(with_reducible refine(hhd.out).mono ?_);rintro e w1 ⟨⟨x1,rfl⟩,hD⟩))
  obtain⟨⟨Z1,v1,hx1,hs1⟩,hf1⟩:=hD
  have c2':w1.cell? ⟨p.e,2,none⟩=some (.pointer (some ⟨p.d,0,none⟩)):=hx1.eb.cell 2 rfl
  have Brm:TZ Z1 W w1 p.d p.t Y.T:=hx1.tz
  have hrp:=J0 (Cnc Brm)
  have Crt:=J0 (fun w2 (ht:TZ Z1 W w2 p.d p.t (Agu Y.T)) (hf:Scn.Fr Z1 TT w1 w2)=>hx1.Bdk ht hf)
  have hd1:Hid (∀w2,Scn.Fr Z1 TT w1 w2->Hf B w w2):=J0 fun w2 hf=>(hf1.mono fun k _ hk=>M3.out k hk).trans (Hf.Bdi hf) fun k hk hz=>by
    rcases hs1 k (.inl hz)with h1|h1
    · exact M3.out k h1
    · omega
  have hz1:Hid (∀k,HZn Z1 h (p.at v1) k->B k):=J0 fun k hk=>by
    rcases hs1 k hk with h1|h1
    · exact M3.out k h1
    · exact hup.out k h1
  have hsz1:=hf1.size
  clear hx1 hf1 hs1 Brm
  generalize hYT:Y.T.rp=rpl at hrp Awv hY
  replace hYT:=J0 hYT
  go_upto_region 3 with (first
    | (go_at_call 38
       with_reducible refine(hrp.out).mono ?_
       rintro e w2 ⟨⟨v2,rfl,A6⟩,ht2,Acf⟩
       have hx2:=Crt.out _ ht2 Acf
       have hf2:=J0 (hd1.out _ Acf)
       have hsz2:=Acf.size
       obtain⟨a2,cc2,rfl,_,_,hn2⟩:=A6.shape
       have hsd:Calls prog 30 #[.pointer (some ⟨p.e,0,none⟩),.slice a2 rpl.length cc2] w2 (Arc Z1 W w2 h (p.at v1) (⟨Y.dec,Y.ps,Agu Y.T,s⟩:Hst) rpl):=Avb (H:=(⟨Y.dec,Y.ps,Agu Y.T,s⟩:Hst)) (p:=p.at v1) (cp:=cc2) hx2 hn2 Awv.out rfl
       unfold Arc at hsd
       replace hsd:=J0 hsd
       have Cue:Hid (∀k,w2.heap.size<=k->B k):=J0 fun k hk=>hup.out k (by omega)
       clear hx2 ht2 Acf A6 hn2)
    |(go_at_call 30;(with_reducible refine(hsd.out).mono ?_);rintro e w3 ⟨⟨x3,rfl⟩,Z3,sv3,hx3,hf3,hs3⟩))
  have hsz3:=hf3.size
  have c2'':w3.cell? ⟨p.e,2,none⟩=some (.pointer (some ⟨p.d,0,none⟩)):=hx3.eb.cell 2 rfl
  have hz3:Hid (∀k,HZn Z3 h ((p.at v1).snd sv3) k->B k):=J0 fun k hk=>by
    rcases hs3 k hk with h1|h1
    · exact hz1.out k h1
    · exact Cue.out k h1
  have hF3:Hid (Hf B w w3):=J0 (hf2.out.trans hf3 fun k _ hk=>hz1.out k hk)
  have Brn:TZ Z3 W w3 p.d p.t (Agu Y.T):=hx3.tz
  have hj:=Cnb Brn
  rw[show(Agu Y.T).jr=Y.T.jr from rfl,hE.out]at hj
  replace hj:=J0 hj
  have E3:Hid (∀v w4,w4.ownsRow 0 73 10 v l9.length (fl evL l9)->(∀g,v.ownBlock=some g->Z3 g)->TZ Z3 W w4 p.d p.t (Ayb (Agu Y.T))->Scn.Fr Z3 TT w3 w4->Bov B w4 v l9/\Did B W w h H9 w4):=J0 fun v w4 h1 h2 h3 h4=>by
    have hx4:=HX.Bdk (p:=p.snd sv3) (v:=v1) (X:=(⟨Y.dec,Y.ps,Agu Y.T⟩:Tri)) (s:=s++rpl) hx3 h3 h4
    have e:=hY.out _ rfl
    refine⟨⟨h1,fun g hg=>hz3.out g (.inl (h2 g hg))⟩,⟨Z3,(p.snd sv3).at v1,?_,hz3.out⟩,hF3.out.trans (Hf.Bdi h4) fun k _ hk=>hz3.out k (.inl hk)⟩
    rw[<- e]
    exact hx4
  clear hx3 hf3 hs3 Brn hsd
  go_wp2_with((go_at_call 39;(with_reducible refine(hj.out).mono ?_);rintro e w4 ⟨⟨v4,rfl,hr4,hz4⟩,ht4,Cts⟩))
  obtain⟨h5,h6⟩:=E3.out _ _ hr4 hz4 ht4 Cts
  obtain⟨a4,c4,rfl,_,_⟩:=U0 hr4
  replace h5:=J0 h5
  clear hr4
  go_ret
  exact⟨_,rfl,h5.out,h6⟩
theorem Azf(hB:HB B W w h H)(hBd:∀k,k<=b.length->Bd c (H.tri.hand (b.take k)))(hsl:H.B8.length<=1000000000000)(hb:Utf.Bytes b)(hsh:∀wr,Hf B w wr->Aju wr .u8 ao b)(hn:b.length=n)(hn5:n<=100000) :
  Calls prog 8 #[.pointer (some ⟨h,0,none⟩),.slice ao n cp] w (Told B W w h (H.bytes b) (H.told b)):=by
 obtain⟨Z,p,hx,hs⟩:=hB
 have hm:=J0 (W6 hx)
 have c0:=hx.hb.cell 0 (v:=.pointer (some ⟨p.e,0,none⟩)) rfl
 have hby:=J0 (Bwy (cp:=cp) hx hs hBd hsl hb hsh hn hn5)
 clear hx hs hBd hsh hb hn hn5 hsl
 unfold Told at hby
 generalize hE:H.told b=l9 at hby |-
 go_enter func8,ntmps8
 go_wp2_with(first|(go_at_call 21;(with_reducible refine(hm.out).mono ?_);rintro e w1 ⟨rfl,rfl⟩)|(go_at_call 22;(with_reducible refine(hby.out).mono ?_);rintro e w2 ⟨v2,rfl,h1,h2⟩))
 obtain⟨a4,c4,rfl,_,_⟩:=U0 h1.1
 replace h1:=J0 h1
 go_ret
 exact⟨_,rfl,h1.out,h2⟩
end
