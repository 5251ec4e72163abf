/- Part 48 of the proof that the card of HostNone holds. -/
import Derived.Test.YtbafmljidapmgaaGreatDoorN47
import Derived.Laws.StructEq
set_option maxHeartbeats 16000000
set_option maxRecDepth 100000
namespace Go.Proofs.YtbafmljidapmgaaGreatDoor.Hos
open Go RowKit Com Rw Lns Emu Scn
def noJr (T:Ter):Ter:={ T with jr:=[] }
structure Did (B:Zn) (W w:World) (h:Nat) (H:Hst) (w':World):Prop where
 hb:HB B W w' h H
 fr:Hf B w w'
section
variable {Z Z' B:Zn} {W w w1 w2 w':World} {h d t:Nat} {p p':HP} {H H':Hst} {X:Tri} {T:Ter} {v sv:Value} {s b l:List Int} {ao:Option Addr} {n cp c:Nat}
theorem HB.on (hB:HB B W w h H) (hb:Below w.heap.size w w'):HB B W w' h H:=by
 obtain ⟨Z,p,hx,hs⟩:=hB
 exact ⟨Z,p,hx.on' hb,hs⟩
theorem HB.below (hB:HB B W w h H):Below W.heap.size W w:=by
 obtain ⟨Z,p,hx,hs⟩:=hB
 exact hx.below
theorem isMade_yes (hx:HX Z W w h p H):Calls Tryz.prog 43 #[.pointer (some ⟨h,0,none⟩)] w fun e w'=>e=.returned (.bool true)/\w=w':=by
 have c0:=hx.hb.cell 0 (v:=.pointer (some ⟨p.e,0,none⟩)) rfl
 clear hx
 go_enter Tryz.func43,Tryz.ntmps43
 go_wp2
 go_ret
 exact ⟨rfl,rfl⟩
theorem tz_jour (h:TZ Z W w d t T):Calls Tryz.prog 50 #[.pointer (some ⟨d,0,none⟩)] w fun e w'=>(∃ v,e=.returned v/\w'.ownsRow 0 72 10 v T.jr.length (fl evL T.jr)/\∀ g,v.ownBlock=some g->Z g)/\TZ Z W w' d t (noJr T)/\Scn.Fr Z TT w w':=by
 have hm:=J0 (Emu.isMade_yes h.tv)
 have c0:=h.tv.blk.cell 0 (v:=.pointer (some ⟨t,0,none⟩)) rfl
 obtain ⟨P,hT⟩:=h.tv.tm
 have c32:=hT.c32
 have f32:=hT.free 32
 obtain ⟨ao,c,e⟩:=hT.jshape
 have hrow:(w.setCell ⟨t,32,none⟩ (.slice none 0 0)).ownsRow 0 72 10 P.jv T.jr.length (fl evL T.jr):=Ac2 hT.jr (fun g hg=>(Only.setCell w ⟨t,32,none⟩ (.slice none 0 0)).block _ (Ak9 (Ab6 hT.jr g hg)) (Ae1 (Ab6 hT.jr g hg) (Block.typ hT.blk) (by decide)))
 have hzj:=hT.zj
 rw [e] at c32 hrow hzj
 have hk:=J0 (hT.took.1.2)
 have hend:Hid (TZ Z W (w.setCell ⟨t,32,none⟩ (.slice none 0 0)) d t (noJr T)):=J0 ⟨h.tv.turn hT.took.1.1.tm hT.took.1.2,⟨h.ok.fit,h.ok.fitm,h.ok.rows,h.ok.cols,h.ok.row,h.ok.col,h.ok.sv,h.ok.svm,h.ok.tn,h.ok.alt⟩,Bd9 h.below h.out hT.took.1.2,h.out⟩
 replace hrow:=J0 hrow
 replace hzj:=J0 hzj
 generalize T.jr.length=n at c32 hrow hzj |-
 clear h hT e
 go_enter Tryz.func50,Tryz.ntmps50
 go_wp2_with ((go_at_call 86;(with_reducible refine (hm.out).mono ?_);rintro e w1 ⟨rfl,rfl⟩))
 go_ret
 exact ⟨⟨_,rfl,hrow.out,hzj.out⟩,hend.out,hk.out⟩
def Cq0 (B:Zn) (w:World) (v:Value) (l:List Ev):Prop:=w.ownsRow 0 72 10 v l.length (fl evL l)/\∀ g,v.ownBlock=some g->B g
theorem Bq2 (hB:HB B W w h H):Calls Tryz.prog 21 #[.pointer (some ⟨h,0,none⟩)] w fun e w'=>∃ v,e=.returned v/\Kys.Row w' W.heap.size 5 v H.sent/\HB (fun k=>B k/\v.ownBlock≠some k) W w' h { H with sent:=[] }/\Hf B w w'/\∀ g,v.ownBlock=some g->B g/\g<w.heap.size:=by
 have hup:=hB.up
 obtain ⟨Z,p,hx,hs⟩:=hB
 have hm:=J0 (isMade_yes hx)
 have c0:=hx.hb.cell 0 (v:=.pointer (some ⟨p.e,0,none⟩)) rfl
 have c3:w.cell? ⟨p.e,3,none⟩=some p.sv:=hx.eb.cell 3 rfl
 have f3:w.frozen? ⟨p.e,3,none⟩=false:=hx.eb.free 3
 obtain ⟨ar,cr,hrv,_⟩:=hx.sent.shape
 obtain ⟨h1,h2,h3⟩:=hx.sent' (w2:=w) (sv:=.slice none 0 0) (l:=[]) (Kys.Row.nil _ _ _) (Only.refl _ _) (.inr (.inl rfl))
 have hne:∀ g,p.sv.ownBlock=some g->g≠p.e:=fun g hg e=>absurd (Typ.inj (Ad1 hx.sent g hg) (e▸Block.typ hx.eb)) (by decide)
 have hend:Hid (Kys.Row (w.setCell ⟨p.e,3,none⟩ (.slice none 0 0)) W.heap.size 5 p.sv H.sent/\HB (fun k=>B k/\p.sv.ownBlock≠some k) W (w.setCell ⟨p.e,3,none⟩ (.slice none 0 0)) h { H with sent:=[] }/\Hf B w (w.setCell ⟨p.e,3,none⟩ (.slice none 0 0))/\∀ g,p.sv.ownBlock=some g->B g/\g<w.heap.size):=J0 (by
  refine ⟨Ad5 hx.sent (fun g hg=>Below.heap_setCell _ _ _ _ (hne g hg)),⟨_,_,h1,fun k hk=>⟨(h3 k hk).elim (hs k) (hup k),fun hg=>?_⟩⟩,h2.mono fun k _ hk=>hs k hk,fun g hg=>⟨hs g (.inr (.inr (.inr (.inr (.inr (.inr (.inr hg))))))),(hx.sent.lt g hg).2⟩⟩
  have tg:=Ad1 hx.sent k hg
  have no:∀ {ty:TypeId},Typ w k ty->ty≠5->False:=fun h1 h2=>h2 (Typ.inj h1 tg)
  rcases hk with hk|hk
  ·rcases hk with hk|hk
   ·exact hx.nz k (.inr (.inr (.inr (.inr (.inr (.inr hg)))))) hk.1
   ·have:=(hx.sent.lt k hg).2
    have e:(w.setCell ⟨p.e,3,none⟩ (.slice none 0 0)).heap.size=w.heap.size:=by simp
    omega
  ·rcases hk with hk|hk|hk|hk|hk|hk|hk
   ·subst hk;exact no (Block.typ hx.hb) (by decide)
   ·have hk:k=p.e:=hk
    subst hk;exact no (Block.typ hx.eb) (by decide)
   ·have hk:k=p.dd:=hk
    subst hk;exact no (Block.typ hx.dec) (by decide)
   ·have hk:k=p.dp:=hk
    subst hk;exact no (Block.typ hx.par.blk.blk) (by decide)
   ·have hk:k=p.d:=hk
    subst hk;exact no (Block.typ hx.tz.tv.blk) (by decide)
   ·exact no (Ab6 hx.par.own k hk) (by decide)
   ·cases hk)
 generalize H.sent=l at hend |- hrv
 rw [hrv] at c3 hend
 clear hx hs hup hne h1 h2 h3
 go_enter Tryz.func21,Tryz.ntmps21
 go_wp2_with ((go_at_call 43;(with_reducible refine (hm.out).mono ?_);rintro e w1 ⟨rfl,rfl⟩))
 go_ret
 exact ⟨_,rfl,hend.out⟩
theorem hprints_any (hB:HB B W w h H):Calls Tryz.prog 28 #[.pointer (some ⟨h,0,none⟩)] w fun e w'=>e=.returned (.int .u64 H.T.prints)/\w=w':=by
 obtain ⟨Z,p,hx,hs⟩:=hB
 have hm:=J0 (isMade_yes hx)
 have c0:=hx.hb.cell 0 (v:=.pointer (some ⟨p.e,0,none⟩)) rfl
 have c2:w.cell? ⟨p.e,2,none⟩=some (.pointer (some ⟨p.d,0,none⟩)):=hx.eb.cell 2 rfl
 have ht:=J0 (tprints_any hx.tz.tv)
 generalize H.T.prints=y at ht |-
 clear hx hs
 go_enter Tryz.func28,Tryz.ntmps28
 go_wp2_with (first|(go_at_call 43;(with_reducible refine (hm.out).mono ?_);rintro e w1 ⟨rfl,rfl⟩)|(go_at_call 62;(with_reducible refine (ht.out).mono ?_);rintro e w1 ⟨rfl,rfl⟩))
 go_ret
 exact ⟨rfl,rfl⟩
theorem hgrid_any (hB:HB B W w h H):Calls Tryz.prog 23 #[.pointer (some ⟨h,0,none⟩)] w fun e w'=>∃ g1 c1 g2 c2 rs,e=.returned (.agg #[.slice (some ⟨g1,0,none⟩) H.T.vis.L.length c1,.slice (some ⟨g2,0,none⟩) H.T.vis.L.length c2,.int .i64 H.T.c.row,.int .i64 H.T.c.col,.bool H.T.c.pend,.bool (!H.T.m.a5),.bool H.T.other.isNone,.int .i64 H.T.vis.top,.int .i64 H.T.vis.bot,.int .u32 H.T.p.a.f,.int .u32 H.T.p.a.b,.int .u16 H.T.p.a.g]) /\
  Tld w' H.T.vis.L.length H.T.vis.cols H.T.vis.L g1 c1 g2 c2 rs/\Below w.heap.size w w':=by
 have hbn:=Aa1 w (.cells #[.slice none 0 0,.slice none 0 0,.int .i64 0,.int .i64 0,.bool false,.bool false,.bool false,.int .i64 0,.int .i64 0,.int .u32 0,.int .u32 0,.int .u16 0] 58)
 have hbx:=Block.made w 58 #[.slice none 0 0,.slice none 0 0,.int .i64 0,.int .i64 0,.bool false,.bool false,.bool false,.int .i64 0,.int .i64 0,.int .u32 0,.int .u32 0,.int .u16 0]
 obtain ⟨Z,p,hx,hs⟩:=hB.on hbn
 have hm:=J0 (isMade_yes hx)
 have c0:=hx.hb.cell 0 (v:=.pointer (some ⟨p.e,0,none⟩)) rfl
 have c2:=hx.eb.cell 2 (v:=.pointer (some ⟨p.d,0,none⟩)) rfl
 have ht:=Bc3 hx.tz
 have hkeep:=J0 (fun w1 (hb:Below (w.alloc (.cells #[.slice none 0 0,.slice none 0 0,.int .i64 0,.int .i64 0,.bool false,.bool false,.bool false,.int .i64 0,.int .i64 0,.int .u32 0,.int .u32 0,.int .u16 0] 58)).heap.size (w.alloc (.cells #[.slice none 0 0,.slice none 0 0,.int .i64 0,.int .i64 0,.bool false,.bool false,.bool false,.int .i64 0,.int .i64 0,.int .u32 0,.int .u32 0,.int .u16 0] 58)) w1)=>Block.only hbx (Only.of_below hb []) (by simp))
 have hinf:(Tryz.prog.info? 58).map (·.size)=some 12:=by kernel_rfl
 generalize H.T.vis.L.length=n0 at ht |-
 generalize H.T.vis.cols=n1 at ht |-
 generalize H.T.vis.L=L at ht |-
 generalize H.T.vis.top=n2 at ht |-
 generalize H.T.vis.bot=n3 at ht |-
 generalize H.T.c=cu at ht |-
 generalize H.T.m.a5=m5 at ht |-
 generalize H.T.other.isNone=oi at ht |-
 generalize H.T.p.a=pa at ht |-
 obtain ⟨q0,q1,q2⟩:=cu
 obtain ⟨r0,r1,r2⟩:=pa
 simp only at ht |-
 replace ht:=J0 ht
 clear hx hs hbx hB
 go_enter Tryz.func23,Tryz.ntmps23
 go_wp2_with (first
  |(go_at_call 43;(with_reducible refine (hm.out).mono ?_);rintro e w1 ⟨rfl,rfl⟩)
  |(go_at_call 58;(with_reducible refine (ht.out).mono ?_);rintro e w1 ⟨g1,c1,g2,c2',rs,rfl,htl,hb1⟩;have hb7:=hkeep.out _ hb1;have hinf2:(Tryz.prog.info? 58).map (·.size)=some (#[.slice (some ⟨g1,0,none⟩) n0 c1,.slice (some ⟨g2,0,none⟩) n0 c2',.int .i64 q0,.int .i64 q1,.bool q2,.bool (!m5),.bool oi,.int .i64 n2,.int .i64 n3,.int .u32 r0,.int .u32 r1,.int .u16 r2]:Array Value).size:=hinf)
  |(with_reducible show wpList _ _ _ (⟨none,.store _ (.tmp 2) _,_,_,_,_⟩::_) _ _;go_must (refine Aa4 rfl _ (.tmp 2) _ rfl hb7 #[.slice (some ⟨g1,0,none⟩) n0 c1,.slice (some ⟨g2,0,none⟩) n0 c2',.int .i64 q0,.int .i64 q1,.bool q2,.bool (!m5),.bool oi,.int .i64 n2,.int .i64 n3,.int .u32 r0,.int .u32 r1,.int .u16 r2] rfl rfl hinf2 rfl (by simp [Value.oneCell']) ?_);intro w8 hb8 ho8))
 have hbb:=Aa0 hbn hb1
 have hbe:=hbb.trans (ho8.below hbb.size (by simp))
 have hfr:Rw.Fr 0 [58] w1 w8:=Rw.Fr.of_only ho8 fun k hk _=>by
  obtain rfl:k=w.heap.size:=by simpa using hk
  exact ⟨Nat.zero_le _,_,by simp,Block.typ hb7⟩
 exact bodyPost_ret (results_cell_row rfl _ _ _ _ _ _ _ rfl hb8 Tryz.underlying58 rfl hinf2) rfl ⟨g1,c1,g2,c2',rs,rfl,⟨htl.rws.fr hfr (by decide) (by decide) (by decide) (by decide),htl.len,htl.llen,htl.got,htl.wid⟩,hbe⟩
end
end Go.Proofs.YtbafmljidapmgaaGreatDoor.Hos
