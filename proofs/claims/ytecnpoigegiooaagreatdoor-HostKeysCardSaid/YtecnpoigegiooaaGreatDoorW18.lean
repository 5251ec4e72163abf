/- Part 18 of HostKeys. -/
import Derived.Test.YtecnpoigegiooaaGreatDoorW17
import Derived.Test.YtecnpoigegiooaaGreatDoorW09
import Derived.Maps.RangeWalk
import Derived.BigRegion
set_option maxHeartbeats 16000000
set_option maxRecDepth 100000
namespace Go.Proofs.YtecnpoigegiooaaGreatDoor.Mds
open Tryz
open Go RowKit Com
def mA(m:Md):Array Value:=#[.bool m.a0,.bool m.a1,.bool m.a2,.bool m.a3,.bool m.a4,.bool m.a5,.bool m.a6,.bool m.a7]
theorem Ahn(m:Md):(mA m).size=8:=rfl
theorem Ady(m:Md):(mA m).all (·.oneCell')=true:=by simp[mA,Value.oneCell']
theorem Aat(m:Md):(prog.info? 80).map (·.size)=some (mA m).size:=by
 rw[Ahn]
 kernel_rfl
theorem Csc(m:Md){k:Nat}(hk:k<8):(mA m)[k]?=some (.bool (m.get k)):=by
 rcases small (Nat.le_of_lt hk)with rfl|rfl|rfl|rfl|rfl|rfl|rfl|rfl|rfl
 all_goals first|rfl|omega
theorem Ajs(m:Md){k:Nat}(hk:k<8)(b:Bool):((mA m).toList.take k++[Value.bool b]++(mA m).toList.drop (k+1)).toArray=mA (m.set k b):=by
 rcases small (Nat.le_of_lt hk)with rfl|rfl|rfl|rfl|rfl|rfl|rfl|rfl|rfl
 all_goals first|rfl|omega
theorem Ajg:(prog.info? 4).map (·.size)=some 1:=by kernel_rfl
theorem blk{w:World}{g:Nat}{t:TypeId}{cs:Array Value}(h:Block w g t cs):w.heap[g]?=some (.cells cs t (0,0)):=h
def MB(w:World)(g:Nat)(m:Md):Prop:=Block w g 80 (mA m)
theorem MB.of{w:World}{g:Nat}{m:Md}(h:Block w g 80 (mA m)):MB w g m:=h
theorem MB.blk{w:World}{g:Nat}{m:Md}(h:MB w g m):Block w g 80 (mA m):=h
theorem MB.made(w:World)(m:Md):MB (w.alloc (.cells (mA m) 80)) w.heap.size m:=Block.made w _ _
theorem MB.zero(w:World):MB (w.alloc (.cells #[.bool false,.bool false,.bool false,.bool false,.bool false,.bool false,.bool false,.bool false] 80)) w.heap.size Axa:=Block.made w _ _
theorem MB.only{L:List Nat}{w w':World}{g:Nat}{m:Md}(h:MB w g m)(ho:A0 L w w')(hg:g∉L):MB w' g m:=Block.only h ho hg
theorem MB.below{w w':World}{g:Nat}{m:Md}(h:MB w g m)(hb:Below w.heap.size w w'):MB w' g m:=h.only (A0.A1 hb []) (by simp)
theorem MB.alloc{w:World}{g:Nat}{m:Md}(h:MB w g m)(o:Obj):MB (w.alloc o) g m:=Block.alloc h o
theorem MB.cell{w:World}{g:Nat}{m:Md}(h:MB w g m){k:Nat}(hk:k<8):w.cell? ⟨g,k,none⟩=some (.bool (m.get k)):=Block.cell h k (Csc m hk)
theorem Apt{P:Program}{w:World}{g:Nat}{t ty:TypeId}{cs:Array Value}{d:TypeDesc}(h:Block w g t cs)(hu:P.underlying ty=some d)(hd:(match d with|.struct _|.array _ _=>true|_=>false)=true)(hi:(P.info? ty).map (·.size)=some cs.size):(loadVar ty ⟨g,0,none⟩).run P w=.ok (.agg cs) w :=
 Com.Apa w ty ⟨g,0,none⟩ cs.toList _ (fun j u hj=>by rw[Addr.add_lit,Nat.zero_add];exact h.cell j (by simpa using hj)) hu hd (by simpa using hi)
theorem Atf{P:Program}{fn:Func}{p q:Tmp}{ty t:TypeId}{d:TypeDesc}(h:fn.results=#[.cell p ty,.tmp q])(tmps:Array Value)(w:World)(g:Nat)(cs:Array Value)
  (hp:tmps.getD p undef=.pointer (some ⟨g,0,none⟩)) (hg:Block w g t cs) (hu:P.underlying ty=some d) (hd:(match d with|.struct _|.array _ _=>true|_=>false)=true) (hi:(P.info? ty).map (·.size)=some cs.size) :
  (results fn tmps).run P w=.ok (.tuple #[.agg cs,tmps.getD q undef]) w:=by
 have hp':tmps[p]?.getD undef=.pointer (some ⟨g,0,none⟩):=by simpa using hp
 simp[results,h,hp',asAddr,Apt hg hu hd hi]
theorem Crb{fn:Func}{p:Tmp}(h:fn.results=#[.cell p 80]){a:Act}{w1:World}{g:Nat}{m:Md}{post:Ending->World->Prop}(hp:a.tmps.getD p undef=.pointer (some ⟨g,0,none⟩))(hd:a.defers=[])
  (hb:MB w1 g m) (Bdg:post (.returned (.agg (mA m))) w1):bodyPost prog fn post .ret a w1 :=
 bodyPost_ret (results_cell_row h _ _ _ _ _ _ _ hp (blk hb.blk) underlying80 rfl (Aat m)) hd Bdg
theorem Ahr{fn:Func}{p q:Tmp}(h:fn.results=#[.cell p 80,.tmp q]){a:Act}{w1:World}{g:Nat}{m:Md}{v:Value}{post:Ending->World->Prop}(hp:a.tmps.getD p undef=.pointer (some ⟨g,0,none⟩))(hq:a.tmps.getD q undef=v)(hd:a.defers=[])
  (hb:MB w1 g m) (Bdg:post (.returned (.tuple #[.agg (mA m),v])) w1):bodyPost prog fn post .ret a w1:=by
 subst hq
 exact bodyPost_ret (Atf h _ _ _ _ hp hb.blk underlying80 rfl (Aat m)) hd Bdg
def Agc(m:Md)(p:Bool)(n:Int)(on:Bool)(w:World)(e:Ending)(w':World):Prop:=e=.returned (.tuple #[.agg (mA (m.put p n on)),.bool (known p n)])/\Below w.heap.size w w'
theorem Cla{w:World}{b:Nat}(h:Aqr w b){p:Bool}{n:Int}(hw:(Lit.int .i64 n).wf=true)(hs:spot p n=8) :
  (Instr.lookup 303 (.map (some b)) (.agg #[.bool p,.int .i64 n]) true).run prog w=.ok (.tuple #[.nilFunc,.bool false]) w:=by
 rcases Bgm h p hw with⟨_,h2⟩|⟨h1,_⟩
 ·exact h2
 ·omega
theorem Ajh{w:World}{b:Nat}(h:Aqr w b){p:Bool}{n:Int}(hw:(Lit.int .i64 n).wf=true){k:Nat}(hs:spot p n=k)(hk:k<8){f:Nat}(hf:Bcy k=f) :
  (Instr.lookup 303 (.map (some b)) (.agg #[.bool p,.int .i64 n]) true).run prog w=.ok (.tuple #[.func (.func f) #[] #[],.bool true]) w:=by
 rcases Bgm h p hw with⟨h1,_⟩|⟨_,h2⟩
 ·omega
 ·rw[hs,hf]at h2
  exact h2
theorem Ahc(w:World)(m:Md):Below w.heap.size w ((w.alloc (.cells (mA m) 80)).alloc (.cells #[.bool false,.bool false,.bool false,.bool false,.bool false,.bool false,.bool false,.bool false] 80)):=A2 (A3 w _) (A3 _ _)
theorem Aai(w:World)(m:Md):MB ((w.alloc (.cells (mA m) 80)).alloc (.cells #[.bool false,.bool false,.bool false,.bool false,.bool false,.bool false,.bool false,.bool false] 80)) w.heap.size m:=(MB.made w m).alloc _
theorem Aij(w:World)(m:Md):MB ((w.alloc (.cells (mA m) 80)).alloc (.cells #[.bool false,.bool false,.bool false,.bool false,.bool false,.bool false,.bool false,.bool false] 80)) (w.heap.size+1) Axa:=by
 have:=MB.zero (w.alloc (.cells (mA m) 80))
 simpa using this
theorem Bcn(m:Md)(p:Bool)(n:Int)(hw:(Lit.int .i64 n).wf=true)(on:Bool)(hs:spot p n=8)(w:World) :
  Calls prog 276 #[.agg (mA m),.bool p,.int .i64 n,.bool on] w (Agc m p n on w):=by
 have hE:Hid (m.put p n on=m/\known p n=false):=⟨by unfold Md.put;rw[hs];rfl,by unfold known;rw[hs];rfl⟩
 have hb0:=J0 (Ahc w m)
 have hm0:=J0 (Aai w m)
 have hr0:=J0 (Aij w m)
 replace hs:=J0 hs
 have B9:=J0 (Aat m)
 go_enter func276,ntmps276
 go_wp2_with (first
  |(go_at_call 291;(with_reducible refine(Agz _).mono ?_);rintro e w1 ⟨b,rfl,hP,hb1⟩;have hlk:=Cla hP hw hs.out;have hb2:=J0 (A2 hb0.out hb1);have hm1:=J0 (hm0.out.below hb1);have hr1:=J0 (hr0.out.below hb1);clear hb1 hb0 hm0 hr0)
  |(with_reducible refine J9 25 4 ?_;go_must(refine wpList_load_row rfl _ (.tmp 4) rfl w.heap.size rfl _ (mA m) (0,0) _ (blk hm1.out.blk) underlying80 rfl B9.out ?_))
  |(with_reducible refine J8 8 ?_;go_must(refine L8 rfl _ (.tmp 8) (.tmp 25) rfl hr1.out.blk (mA m) rfl rfl B9.out rfl (Ady m) ?_);intro w2 hd2 ho2))
 exact Ahr rfl rfl rfl rfl hd2 ⟨by rw[hE.out.1,hE.out.2];rfl,hb2.out.trans (ho2.below hb2.out.size (by simp))⟩
theorem Cnq(b:Nat)(w:World):Calls prog 295 #[.pointer (some ⟨b,0,none⟩)] w fun e w'=>e=.returned (.pointer (some ⟨b,0,none⟩))/\w=w':=by
 go_enter func295,ntmps295
 go_wp2
 go_ret
 exact⟨rfl,rfl⟩
theorem Csi(m:Md)(p:Bool)(n:Int)(hw:(Lit.int .i64 n).wf=true)(on:Bool)(hs:spot p n=0)(w:World) :
  Calls prog 276 #[.agg (mA m),.bool p,.int .i64 n,.bool on] w (Agc m p n on w):=by
 have hE:Hid (m.put p n on=m.set 0 on/\known p n=true):=⟨by unfold Md.put;rw[hs],by unfold known;rw[hs];rfl⟩
 have hb0:=J0 (Ahc w m)
 have hm0:=J0 (Aai w m)
 have hr0:=J0 (Aij w m)
 replace hs:=J0 hs
 have B9:=J0 (Aat (m.set 0 on))
 have C4:=J0 (Ajs m (k:=0) (by omega) on)
 go_enter func276,ntmps276
 go_wp2_with (first
  |(go_at_call 291;(with_reducible refine(Agz _).mono ?_);rintro e w1 ⟨b,rfl,hP,hb1⟩;have hlk:=Ajh hP hw hs.out (by omega) (f:=295) rfl;have hb2:=J0 (A2 hb0.out hb1);have hm1:=J0 (hm0.out.below hb1);have hr1:=J0 (hr0.out.below hb1);clear hb1 hb0 hm0 hr0)
  |(with_reducible refine J8 24 ?_;go_must(refine N9 rfl _ (.tmp 24) (.tmp 23) rfl hm1.out.blk (.bool on) rfl rfl (by rw[Ahn];omega) Ajg rfl ?_);intro w3 hd3 ho3;go_must(rw[C4.out]at hd3);go_must(replace hd3:=J0 (MB.of hd3);have hr3:=J0 (hr1.out.only ho3 (by simp));have hb3:=J0 (hb2.out.trans (ho3.below hb2.out.size (by simp)));clear hb2 hr1 hm1 ho3))
  |(with_reducible refine J9 25 4 ?_;go_must(refine wpList_load_row rfl _ (.tmp 4) rfl w.heap.size rfl _ (mA (m.set 0 on)) (0,0) _ (blk hd3.out.blk) underlying80 rfl B9.out ?_))
  |(with_reducible refine J8 8 ?_;go_must(refine L8 rfl _ (.tmp 8) (.tmp 25) rfl hr3.out.blk (mA (m.set 0 on)) rfl rfl B9.out rfl (Ady _) ?_);intro w2 hd2 ho2)
  |(go_at_call 295;refine(Cnq _ _).mono ?_;rintro e w' ⟨rfl,rfl⟩))
 exact Ahr rfl rfl rfl rfl hd2 ⟨by rw[hE.out.1,hE.out.2];rfl,hb3.out.trans (ho2.below hb3.out.size (by simp))⟩
theorem Cnr(b:Nat)(w:World):Calls prog 296 #[.pointer (some ⟨b,0,none⟩)] w fun e w'=>e=.returned (.pointer (some ⟨b,1,none⟩))/\w=w':=by
 go_enter func296,ntmps296
 go_wp2
 go_ret
 exact⟨rfl,rfl⟩
theorem Csj(m:Md)(p:Bool)(n:Int)(hw:(Lit.int .i64 n).wf=true)(on:Bool)(hs:spot p n=1)(w:World) :
  Calls prog 276 #[.agg (mA m),.bool p,.int .i64 n,.bool on] w (Agc m p n on w):=by
 have hE:Hid (m.put p n on=m.set 1 on/\known p n=true):=⟨by unfold Md.put;rw[hs],by unfold known;rw[hs];rfl⟩
 have hb0:=J0 (Ahc w m)
 have hm0:=J0 (Aai w m)
 have hr0:=J0 (Aij w m)
 replace hs:=J0 hs
 have B9:=J0 (Aat (m.set 1 on))
 have C4:=J0 (Ajs m (k:=1) (by omega) on)
 go_enter func276,ntmps276
 go_wp2_with (first
  |(go_at_call 291;(with_reducible refine(Agz _).mono ?_);rintro e w1 ⟨b,rfl,hP,hb1⟩;have hlk:=Ajh hP hw hs.out (by omega) (f:=296) rfl;have hb2:=J0 (A2 hb0.out hb1);have hm1:=J0 (hm0.out.below hb1);have hr1:=J0 (hr0.out.below hb1);clear hb1 hb0 hm0 hr0)
  |(with_reducible refine J8 24 ?_;go_must(refine N9 rfl _ (.tmp 24) (.tmp 23) rfl hm1.out.blk (.bool on) rfl rfl (by rw[Ahn];omega) Ajg rfl ?_);intro w3 hd3 ho3;go_must(rw[C4.out]at hd3);go_must(replace hd3:=J0 (MB.of hd3);have hr3:=J0 (hr1.out.only ho3 (by simp));have hb3:=J0 (hb2.out.trans (ho3.below hb2.out.size (by simp)));clear hb2 hr1 hm1 ho3))
  |(with_reducible refine J9 25 4 ?_;go_must(refine wpList_load_row rfl _ (.tmp 4) rfl w.heap.size rfl _ (mA (m.set 1 on)) (0,0) _ (blk hd3.out.blk) underlying80 rfl B9.out ?_))
  |(with_reducible refine J8 8 ?_;go_must(refine L8 rfl _ (.tmp 8) (.tmp 25) rfl hr3.out.blk (mA (m.set 1 on)) rfl rfl B9.out rfl (Ady _) ?_);intro w2 hd2 ho2)
  |(go_at_call 296;refine(Cnr _ _).mono ?_;rintro e w' ⟨rfl,rfl⟩))
 exact Ahr rfl rfl rfl rfl hd2 ⟨by rw[hE.out.1,hE.out.2];rfl,hb3.out.trans (ho2.below hb3.out.size (by simp))⟩
theorem Cns(b:Nat)(w:World):Calls prog 297 #[.pointer (some ⟨b,0,none⟩)] w fun e w'=>e=.returned (.pointer (some ⟨b,2,none⟩))/\w=w':=by
 go_enter func297,ntmps297
 go_wp2
 go_ret
 exact⟨rfl,rfl⟩
theorem Csk(m:Md)(p:Bool)(n:Int)(hw:(Lit.int .i64 n).wf=true)(on:Bool)(hs:spot p n=2)(w:World) :
  Calls prog 276 #[.agg (mA m),.bool p,.int .i64 n,.bool on] w (Agc m p n on w):=by
 have hE:Hid (m.put p n on=m.set 2 on/\known p n=true):=⟨by unfold Md.put;rw[hs],by unfold known;rw[hs];rfl⟩
 have hb0:=J0 (Ahc w m)
 have hm0:=J0 (Aai w m)
 have hr0:=J0 (Aij w m)
 replace hs:=J0 hs
 have B9:=J0 (Aat (m.set 2 on))
 have C4:=J0 (Ajs m (k:=2) (by omega) on)
 go_enter func276,ntmps276
 go_wp2_with (first
  |(go_at_call 291;(with_reducible refine(Agz _).mono ?_);rintro e w1 ⟨b,rfl,hP,hb1⟩;have hlk:=Ajh hP hw hs.out (by omega) (f:=297) rfl;have hb2:=J0 (A2 hb0.out hb1);have hm1:=J0 (hm0.out.below hb1);have hr1:=J0 (hr0.out.below hb1);clear hb1 hb0 hm0 hr0)
  |(with_reducible refine J8 24 ?_;go_must(refine N9 rfl _ (.tmp 24) (.tmp 23) rfl hm1.out.blk (.bool on) rfl rfl (by rw[Ahn];omega) Ajg rfl ?_);intro w3 hd3 ho3;go_must(rw[C4.out]at hd3);go_must(replace hd3:=J0 (MB.of hd3);have hr3:=J0 (hr1.out.only ho3 (by simp));have hb3:=J0 (hb2.out.trans (ho3.below hb2.out.size (by simp)));clear hb2 hr1 hm1 ho3))
  |(with_reducible refine J9 25 4 ?_;go_must(refine wpList_load_row rfl _ (.tmp 4) rfl w.heap.size rfl _ (mA (m.set 2 on)) (0,0) _ (blk hd3.out.blk) underlying80 rfl B9.out ?_))
  |(with_reducible refine J8 8 ?_;go_must(refine L8 rfl _ (.tmp 8) (.tmp 25) rfl hr3.out.blk (mA (m.set 2 on)) rfl rfl B9.out rfl (Ady _) ?_);intro w2 hd2 ho2)
  |(go_at_call 297;refine(Cns _ _).mono ?_;rintro e w' ⟨rfl,rfl⟩))
 exact Ahr rfl rfl rfl rfl hd2 ⟨by rw[hE.out.1,hE.out.2];rfl,hb3.out.trans (ho2.below hb3.out.size (by simp))⟩
theorem Cnt(b:Nat)(w:World):Calls prog 298 #[.pointer (some ⟨b,0,none⟩)] w fun e w'=>e=.returned (.pointer (some ⟨b,3,none⟩))/\w=w':=by
 go_enter func298,ntmps298
 go_wp2
 go_ret
 exact⟨rfl,rfl⟩
theorem Csl(m:Md)(p:Bool)(n:Int)(hw:(Lit.int .i64 n).wf=true)(on:Bool)(hs:spot p n=3)(w:World) :
  Calls prog 276 #[.agg (mA m),.bool p,.int .i64 n,.bool on] w (Agc m p n on w):=by
 have hE:Hid (m.put p n on=m.set 3 on/\known p n=true):=⟨by unfold Md.put;rw[hs],by unfold known;rw[hs];rfl⟩
 have hb0:=J0 (Ahc w m)
 have hm0:=J0 (Aai w m)
 have hr0:=J0 (Aij w m)
 replace hs:=J0 hs
 have B9:=J0 (Aat (m.set 3 on))
 have C4:=J0 (Ajs m (k:=3) (by omega) on)
 go_enter func276,ntmps276
 go_wp2_with (first
  |(go_at_call 291;(with_reducible refine(Agz _).mono ?_);rintro e w1 ⟨b,rfl,hP,hb1⟩;have hlk:=Ajh hP hw hs.out (by omega) (f:=298) rfl;have hb2:=J0 (A2 hb0.out hb1);have hm1:=J0 (hm0.out.below hb1);have hr1:=J0 (hr0.out.below hb1);clear hb1 hb0 hm0 hr0)
  |(with_reducible refine J8 24 ?_;go_must(refine N9 rfl _ (.tmp 24) (.tmp 23) rfl hm1.out.blk (.bool on) rfl rfl (by rw[Ahn];omega) Ajg rfl ?_);intro w3 hd3 ho3;go_must(rw[C4.out]at hd3);go_must(replace hd3:=J0 (MB.of hd3);have hr3:=J0 (hr1.out.only ho3 (by simp));have hb3:=J0 (hb2.out.trans (ho3.below hb2.out.size (by simp)));clear hb2 hr1 hm1 ho3))
  |(with_reducible refine J9 25 4 ?_;go_must(refine wpList_load_row rfl _ (.tmp 4) rfl w.heap.size rfl _ (mA (m.set 3 on)) (0,0) _ (blk hd3.out.blk) underlying80 rfl B9.out ?_))
  |(with_reducible refine J8 8 ?_;go_must(refine L8 rfl _ (.tmp 8) (.tmp 25) rfl hr3.out.blk (mA (m.set 3 on)) rfl rfl B9.out rfl (Ady _) ?_);intro w2 hd2 ho2)
  |(go_at_call 298;refine(Cnt _ _).mono ?_;rintro e w' ⟨rfl,rfl⟩))
 exact Ahr rfl rfl rfl rfl hd2 ⟨by rw[hE.out.1,hE.out.2];rfl,hb3.out.trans (ho2.below hb3.out.size (by simp))⟩
theorem Cnu(b:Nat)(w:World):Calls prog 299 #[.pointer (some ⟨b,0,none⟩)] w fun e w'=>e=.returned (.pointer (some ⟨b,4,none⟩))/\w=w':=by
 go_enter func299,ntmps299
 go_wp2
 go_ret
 exact⟨rfl,rfl⟩
theorem Csm(m:Md)(p:Bool)(n:Int)(hw:(Lit.int .i64 n).wf=true)(on:Bool)(hs:spot p n=4)(w:World) :
  Calls prog 276 #[.agg (mA m),.bool p,.int .i64 n,.bool on] w (Agc m p n on w):=by
 have hE:Hid (m.put p n on=m.set 4 on/\known p n=true):=⟨by unfold Md.put;rw[hs],by unfold known;rw[hs];rfl⟩
 have hb0:=J0 (Ahc w m)
 have hm0:=J0 (Aai w m)
 have hr0:=J0 (Aij w m)
 replace hs:=J0 hs
 have B9:=J0 (Aat (m.set 4 on))
 have C4:=J0 (Ajs m (k:=4) (by omega) on)
 go_enter func276,ntmps276
 go_wp2_with (first
  |(go_at_call 291;(with_reducible refine(Agz _).mono ?_);rintro e w1 ⟨b,rfl,hP,hb1⟩;have hlk:=Ajh hP hw hs.out (by omega) (f:=299) rfl;have hb2:=J0 (A2 hb0.out hb1);have hm1:=J0 (hm0.out.below hb1);have hr1:=J0 (hr0.out.below hb1);clear hb1 hb0 hm0 hr0)
  |(with_reducible refine J8 24 ?_;go_must(refine N9 rfl _ (.tmp 24) (.tmp 23) rfl hm1.out.blk (.bool on) rfl rfl (by rw[Ahn];omega) Ajg rfl ?_);intro w3 hd3 ho3;go_must(rw[C4.out]at hd3);go_must(replace hd3:=J0 (MB.of hd3);have hr3:=J0 (hr1.out.only ho3 (by simp));have hb3:=J0 (hb2.out.trans (ho3.below hb2.out.size (by simp)));clear hb2 hr1 hm1 ho3))
  |(with_reducible refine J9 25 4 ?_;go_must(refine wpList_load_row rfl _ (.tmp 4) rfl w.heap.size rfl _ (mA (m.set 4 on)) (0,0) _ (blk hd3.out.blk) underlying80 rfl B9.out ?_))
  |(with_reducible refine J8 8 ?_;go_must(refine L8 rfl _ (.tmp 8) (.tmp 25) rfl hr3.out.blk (mA (m.set 4 on)) rfl rfl B9.out rfl (Ady _) ?_);intro w2 hd2 ho2)
  |(go_at_call 299;refine(Cnu _ _).mono ?_;rintro e w' ⟨rfl,rfl⟩))
 exact Ahr rfl rfl rfl rfl hd2 ⟨by rw[hE.out.1,hE.out.2];rfl,hb3.out.trans (ho2.below hb3.out.size (by simp))⟩
theorem Cnv(b:Nat)(w:World):Calls prog 300 #[.pointer (some ⟨b,0,none⟩)] w fun e w'=>e=.returned (.pointer (some ⟨b,5,none⟩))/\w=w':=by
 go_enter func300,ntmps300
 go_wp2
 go_ret
 exact⟨rfl,rfl⟩
theorem Csn(m:Md)(p:Bool)(n:Int)(hw:(Lit.int .i64 n).wf=true)(on:Bool)(hs:spot p n=5)(w:World) :
  Calls prog 276 #[.agg (mA m),.bool p,.int .i64 n,.bool on] w (Agc m p n on w):=by
 have hE:Hid (m.put p n on=m.set 5 on/\known p n=true):=⟨by unfold Md.put;rw[hs],by unfold known;rw[hs];rfl⟩
 have hb0:=J0 (Ahc w m)
 have hm0:=J0 (Aai w m)
 have hr0:=J0 (Aij w m)
 replace hs:=J0 hs
 have B9:=J0 (Aat (m.set 5 on))
 have C4:=J0 (Ajs m (k:=5) (by omega) on)
 go_enter func276,ntmps276
 go_wp2_with (first
  |(go_at_call 291;(with_reducible refine(Agz _).mono ?_);rintro e w1 ⟨b,rfl,hP,hb1⟩;have hlk:=Ajh hP hw hs.out (by omega) (f:=300) rfl;have hb2:=J0 (A2 hb0.out hb1);have hm1:=J0 (hm0.out.below hb1);have hr1:=J0 (hr0.out.below hb1);clear hb1 hb0 hm0 hr0)
  |(with_reducible refine J8 24 ?_;go_must(refine N9 rfl _ (.tmp 24) (.tmp 23) rfl hm1.out.blk (.bool on) rfl rfl (by rw[Ahn];omega) Ajg rfl ?_);intro w3 hd3 ho3;go_must(rw[C4.out]at hd3);go_must(replace hd3:=J0 (MB.of hd3);have hr3:=J0 (hr1.out.only ho3 (by simp));have hb3:=J0 (hb2.out.trans (ho3.below hb2.out.size (by simp)));clear hb2 hr1 hm1 ho3))
  |(with_reducible refine J9 25 4 ?_;go_must(refine wpList_load_row rfl _ (.tmp 4) rfl w.heap.size rfl _ (mA (m.set 5 on)) (0,0) _ (blk hd3.out.blk) underlying80 rfl B9.out ?_))
  |(with_reducible refine J8 8 ?_;go_must(refine L8 rfl _ (.tmp 8) (.tmp 25) rfl hr3.out.blk (mA (m.set 5 on)) rfl rfl B9.out rfl (Ady _) ?_);intro w2 hd2 ho2)
  |(go_at_call 300;refine(Cnv _ _).mono ?_;rintro e w' ⟨rfl,rfl⟩))
 exact Ahr rfl rfl rfl rfl hd2 ⟨by rw[hE.out.1,hE.out.2];rfl,hb3.out.trans (ho2.below hb3.out.size (by simp))⟩
theorem Cnw(b:Nat)(w:World):Calls prog 294 #[.pointer (some ⟨b,0,none⟩)] w fun e w'=>e=.returned (.pointer (some ⟨b,6,none⟩))/\w=w':=by
 go_enter func294,ntmps294
 go_wp2
 go_ret
 exact⟨rfl,rfl⟩
theorem Cso(m:Md)(p:Bool)(n:Int)(hw:(Lit.int .i64 n).wf=true)(on:Bool)(hs:spot p n=6)(w:World) :
  Calls prog 276 #[.agg (mA m),.bool p,.int .i64 n,.bool on] w (Agc m p n on w):=by
 have hE:Hid (m.put p n on=m.set 6 on/\known p n=true):=⟨by unfold Md.put;rw[hs],by unfold known;rw[hs];rfl⟩
 have hb0:=J0 (Ahc w m)
 have hm0:=J0 (Aai w m)
 have hr0:=J0 (Aij w m)
 replace hs:=J0 hs
 have B9:=J0 (Aat (m.set 6 on))
 have C4:=J0 (Ajs m (k:=6) (by omega) on)
 go_enter func276,ntmps276
 go_wp2_with (first
  |(go_at_call 291;(with_reducible refine(Agz _).mono ?_);rintro e w1 ⟨b,rfl,hP,hb1⟩;have hlk:=Ajh hP hw hs.out (by omega) (f:=294) rfl;have hb2:=J0 (A2 hb0.out hb1);have hm1:=J0 (hm0.out.below hb1);have hr1:=J0 (hr0.out.below hb1);clear hb1 hb0 hm0 hr0)
  |(with_reducible refine J8 24 ?_;go_must(refine N9 rfl _ (.tmp 24) (.tmp 23) rfl hm1.out.blk (.bool on) rfl rfl (by rw[Ahn];omega) Ajg rfl ?_);intro w3 hd3 ho3;go_must(rw[C4.out]at hd3);go_must(replace hd3:=J0 (MB.of hd3);have hr3:=J0 (hr1.out.only ho3 (by simp));have hb3:=J0 (hb2.out.trans (ho3.below hb2.out.size (by simp)));clear hb2 hr1 hm1 ho3))
  |(with_reducible refine J9 25 4 ?_;go_must(refine wpList_load_row rfl _ (.tmp 4) rfl w.heap.size rfl _ (mA (m.set 6 on)) (0,0) _ (blk hd3.out.blk) underlying80 rfl B9.out ?_))
  |(with_reducible refine J8 8 ?_;go_must(refine L8 rfl _ (.tmp 8) (.tmp 25) rfl hr3.out.blk (mA (m.set 6 on)) rfl rfl B9.out rfl (Ady _) ?_);intro w2 hd2 ho2)
  |(go_at_call 294;refine(Cnw _ _).mono ?_;rintro e w' ⟨rfl,rfl⟩))
 exact Ahr rfl rfl rfl rfl hd2 ⟨by rw[hE.out.1,hE.out.2];rfl,hb3.out.trans (ho2.below hb3.out.size (by simp))⟩
theorem Cnx(b:Nat)(w:World):Calls prog 301 #[.pointer (some ⟨b,0,none⟩)] w fun e w'=>e=.returned (.pointer (some ⟨b,7,none⟩))/\w=w':=by
 go_enter func301,ntmps301
 go_wp2
 go_ret
 exact⟨rfl,rfl⟩
theorem Csp(m:Md)(p:Bool)(n:Int)(hw:(Lit.int .i64 n).wf=true)(on:Bool)(hs:spot p n=7)(w:World) :
  Calls prog 276 #[.agg (mA m),.bool p,.int .i64 n,.bool on] w (Agc m p n on w):=by
 have hE:Hid (m.put p n on=m.set 7 on/\known p n=true):=⟨by unfold Md.put;rw[hs],by unfold known;rw[hs];rfl⟩
 have hb0:=J0 (Ahc w m)
 have hm0:=J0 (Aai w m)
 have hr0:=J0 (Aij w m)
 replace hs:=J0 hs
 have B9:=J0 (Aat (m.set 7 on))
 have C4:=J0 (Ajs m (k:=7) (by omega) on)
 go_enter func276,ntmps276
 go_wp2_with (first
  |(go_at_call 291;(with_reducible refine(Agz _).mono ?_);rintro e w1 ⟨b,rfl,hP,hb1⟩;have hlk:=Ajh hP hw hs.out (by omega) (f:=301) rfl;have hb2:=J0 (A2 hb0.out hb1);have hm1:=J0 (hm0.out.below hb1);have hr1:=J0 (hr0.out.below hb1);clear hb1 hb0 hm0 hr0)
  |(with_reducible refine J8 24 ?_;go_must(refine N9 rfl _ (.tmp 24) (.tmp 23) rfl hm1.out.blk (.bool on) rfl rfl (by rw[Ahn];omega) Ajg rfl ?_);intro w3 hd3 ho3;go_must(rw[C4.out]at hd3);go_must(replace hd3:=J0 (MB.of hd3);have hr3:=J0 (hr1.out.only ho3 (by simp));have hb3:=J0 (hb2.out.trans (ho3.below hb2.out.size (by simp)));clear hb2 hr1 hm1 ho3))
  |(with_reducible refine J9 25 4 ?_;go_must(refine wpList_load_row rfl _ (.tmp 4) rfl w.heap.size rfl _ (mA (m.set 7 on)) (0,0) _ (blk hd3.out.blk) underlying80 rfl B9.out ?_))
  |(with_reducible refine J8 8 ?_;go_must(refine L8 rfl _ (.tmp 8) (.tmp 25) rfl hr3.out.blk (mA (m.set 7 on)) rfl rfl B9.out rfl (Ady _) ?_);intro w2 hd2 ho2)
  |(go_at_call 301;refine(Cnx _ _).mono ?_;rintro e w' ⟨rfl,rfl⟩))
 exact Ahr rfl rfl rfl rfl hd2 ⟨by rw[hE.out.1,hE.out.2];rfl,hb3.out.trans (ho2.below hb3.out.size (by simp))⟩
theorem Ald(m:Md)(p:Bool)(n:Int)(hw:(Lit.int .i64 n).wf=true)(on:Bool)(w:World) :
  Calls prog 276 #[.agg (mA m),.bool p,.int .i64 n,.bool on] w (Agc m p n on w):=by
 rcases small (Bnd p n)with h|h|h|h|h|h|h|h|h
 ·exact Csi m p n hw on h w
 ·exact Csj m p n hw on h w
 ·exact Csk m p n hw on h w
 ·exact Csl m p n hw on h w
 ·exact Csm m p n hw on h w
 ·exact Csn m p n hw on h w
 ·exact Cso m p n hw on h w
 ·exact Csp m p n hw on h w
 ·exact Bcn m p n hw on h w
def MIs(m:Md)(w:World)(e:Ending)(w':World):Prop:=e=.returned (.agg (mA m))/\Below w.heap.size w w'
theorem Buk(w:World):Calls prog 57 #[] w (MIs start w):=by
 have hb0:=J0 (A3 w (.cells #[.bool false,.bool false,.bool false,.bool false,.bool false,.bool false,.bool false,.bool false] 80))
 have hr0:=J0 (MB.zero w)
 have B9:=J0 (Aat start)
 go_enter func57,ntmps57
 go_wp2_with (first
  |(with_reducible refine J8 0 ?_;go_must(refine L8 rfl _ (.tmp 0) (.tmp 1) rfl hr0.out.blk (mA start) rfl rfl B9.out rfl (Ady _) ?_);intro w2 hd2 ho2))
 exact Crb rfl rfl rfl (MB.of hd2) ⟨rfl,hb0.out.trans (ho2.below hb0.out.size (by simp))⟩
def part(m:Md):Nat->Int
 |0=>0
 |k+1=>part m k+one (m.get k) (pow k)
end Go.Proofs.YtecnpoigegiooaaGreatDoor.Mds
namespace Go.Proofs.YtecnpoigegiooaaGreatDoor.Sgr
open Tryz
open Go
structure At where
 f:Int
 b:Int
 g:Int
deriving DecidableEq
def zero:At:=⟨0,0,0⟩
def orF(x y:Int):Int:=bits .or .u16 x y
def Ayc(x y:Int):Int:=bits .andNot .u16 x y
structure At.Ok(a:At):Prop where
 f0:0<=a.f
 f1:a.f<=4294967295
 b0:0<=a.b
 b1:a.b<=4294967295
 g0:0<=a.g
 g1:a.g<=65535
def Aeb(n:Int):Int:=if n=1 then 1 else if n=2 then 2 else if n=3 then 4 else if n=4 then 8 else if n=5 then 16 else if n=7 then 32 else if n=8 then 64 else if n=9 then 128 else 0
def Q0(n:Int):Int:=if n=22 then 3 else if 22<n then Aeb (n-20)else 0
def X3(u b no c n:Int):Int:=if u<=n/\n<u+8 then n-u+1 else if b+8<=n/\n<b+16 then n-b+1 else if n=no then 0 else c
def Agv(a:At)(n:Int):At:=if n=0 then zero else⟨X3 30 82 39 a.f n,X3 40 92 49 a.b n,orF (Ayc a.g (Q0 n)) (Aeb n)⟩
def isB(n:Int):Bool:=decide (0<=n/\n<=255)
def Atd(x y z:Int):Int:=16777216+x*65536+y*256+z
def T8(c:Int)(l:List Int):Int×List Int :=
 if 2<=l.length/\l.getD 0 0=5 then(if isB (l.getD 1 0)then l.getD 1 0+1 else c,l.drop 2)
 else if 4<=l.length/\l.getD 0 0=2 then(if isB (l.getD 1 0)&&isB (l.getD 2 0)&&isB (l.getD 3 0)then Atd (l.getD 1 0) (l.getD 2 0) (l.getD 3 0)else c,l.drop 4)
 else(c,[])
theorem Avo(c:Int)(l:List Int):(T8 c l).2.length<=l.length:=by
 unfold T8
 split
 ·simp
 ·split<;>simp
def S5(a:At):List Int->At
 |[]=>a
 |n::t=>if n=38 then S5 ⟨(T8 a.f t).1,a.b,a.g⟩ (T8 a.f t).2 else if n=48 then S5 ⟨a.f,(T8 a.b t).1,a.g⟩ (T8 a.b t).2 else S5 (Agv a n) t
termination_by l=>l.length
decreasing_by
 ·have:=Avo a.f t;simp;omega
 ·have:=Avo a.b t;simp;omega
 ·simp
def Acp(a:At)(l:List Int):At:=if l=[]then zero else S5 a l
theorem Clx(a:At):S5 a []=a:=by rw[S5]
theorem Cpu(a:At)(t:List Int):S5 a (38::t)=S5 ⟨(T8 a.f t).1,a.b,a.g⟩ (T8 a.f t).2:=by rw[S5,if_pos rfl]
theorem Cpt(a:At)(t:List Int):S5 a (48::t)=S5 ⟨a.f,(T8 a.b t).1,a.g⟩ (T8 a.b t).2:=by rw[S5,if_neg (by decide),if_pos rfl]
theorem Cly(a:At){n:Int}(t:List Int)(h1:n≠38)(h2:n≠48):S5 a (n::t)=S5 (Agv a n) t:=by rw[S5,if_neg h1,if_neg h2]
theorem Cai{n:Int}(h:¬(n=1\/n=2\/n=3\/n=4\/n=5\/n=7\/n=8\/n=9)):Aeb n=0:=by
 unfold Aeb
 (repeat' split)<;>omega
def Bqk(c:Int):Bool:=decide (c<=256\/(16777216<=c/\c<33554432))
def Ags(a:At):Bool:=decide (a.g<256)&&Bqk a.f&&Bqk a.b
end Go.Proofs.YtecnpoigegiooaaGreatDoor.Sgr
namespace Go.Proofs.YtecnpoigegiooaaGreatDoor.Sgr
open Tryz
open Go RowKit Com
def tab:List Int:=[1,2,3,4,5,7,8,9]
structure Tab(w:World):Prop where
 size:5<w.heap.size
 cells:∀k,k<8->w.cell? ⟨5,k,none⟩=some (.int .i64 (tab.getD k 0))
theorem Tab.below{w w':World}(h:Tab w)(hb:Below w.heap.size w w'):Tab w' :=
 ⟨Nat.lt_of_lt_of_le h.size hb.size,fun k hk=>(hb.cell (p:=⟨5,k,none⟩) h.size).trans (h.cells k hk)⟩
theorem Cen{n:Int}(h:∀k,k<8->tab.getD k 0≠n):Aeb n=0:=by
 have h0:=h 0 (by omega);have h1:=h 1 (by omega);have h2:=h 2 (by omega);have h3:=h 3 (by omega)
 have h4:=h 4 (by omega);have h5:=h 5 (by omega);have h6:=h 6 (by omega);have h7:=h 7 (by omega)
 simp[tab]at h0 h1 h2 h3 h4 h5 h6 h7
 apply Cai
 omega
theorem Cgj{n:Int}{k:Nat}(h:∀j,j<k->tab.getD j 0≠n)(hx:tab.getD k 0≠n):∀j,j<k+1->tab.getD j 0≠n:=fun j hj=>by
 by_cases e:j=k
 ·rw[e];exact hx
 ·exact h j (by omega)
theorem Cug(w:World):(Instr.index 154 (.agg #[.int .i64 1,.int .i64 2,.int .i64 3,.int .i64 4,.int .i64 5,.int .i64 7,.int .i64 8,.int .i64 9]) (.int .i64 0)).run prog w=.ok (.int .i64 1) w:=by kernel_rfl
theorem Cuh(w:World):(Instr.index 154 (.agg #[.int .i64 1,.int .i64 2,.int .i64 3,.int .i64 4,.int .i64 5,.int .i64 7,.int .i64 8,.int .i64 9]) (.int .i64 1)).run prog w=.ok (.int .i64 2) w:=by kernel_rfl
theorem Cui(w:World):(Instr.index 154 (.agg #[.int .i64 1,.int .i64 2,.int .i64 3,.int .i64 4,.int .i64 5,.int .i64 7,.int .i64 8,.int .i64 9]) (.int .i64 2)).run prog w=.ok (.int .i64 3) w:=by kernel_rfl
theorem Cuj(w:World):(Instr.index 154 (.agg #[.int .i64 1,.int .i64 2,.int .i64 3,.int .i64 4,.int .i64 5,.int .i64 7,.int .i64 8,.int .i64 9]) (.int .i64 3)).run prog w=.ok (.int .i64 4) w:=by kernel_rfl
theorem Cuk(w:World):(Instr.index 154 (.agg #[.int .i64 1,.int .i64 2,.int .i64 3,.int .i64 4,.int .i64 5,.int .i64 7,.int .i64 8,.int .i64 9]) (.int .i64 4)).run prog w=.ok (.int .i64 5) w:=by kernel_rfl
theorem Cul(w:World):(Instr.index 154 (.agg #[.int .i64 1,.int .i64 2,.int .i64 3,.int .i64 4,.int .i64 5,.int .i64 7,.int .i64 8,.int .i64 9]) (.int .i64 5)).run prog w=.ok (.int .i64 7) w:=by kernel_rfl
theorem Cum(w:World):(Instr.index 154 (.agg #[.int .i64 1,.int .i64 2,.int .i64 3,.int .i64 4,.int .i64 5,.int .i64 7,.int .i64 8,.int .i64 9]) (.int .i64 6)).run prog w=.ok (.int .i64 8) w:=by kernel_rfl
theorem Cun(w:World):(Instr.index 154 (.agg #[.int .i64 1,.int .i64 2,.int .i64 3,.int .i64 4,.int .i64 5,.int .i64 7,.int .i64 8,.int .i64 9]) (.int .i64 7)).run prog w=.ok (.int .i64 9) w:=by kernel_rfl
theorem idx(k:Nat)(hk:k<8):∀w,(Instr.index 154 (.agg #[.int .i64 1,.int .i64 2,.int .i64 3,.int .i64 4,.int .i64 5,.int .i64 7,.int .i64 8,.int .i64 9]) (.int .i64 (k:Nat))).run prog w=.ok (.int .i64 (tab.getD k 0)) w:=by
 have hk':k=0\/k=1\/k=2\/k=3\/k=4\/k=5\/k=6\/k=7:=by omega
 rcases hk' with rfl|rfl|rfl|rfl|rfl|rfl|rfl|rfl
 ·exact Cug
 ·exact Cuh
 ·exact Cui
 ·exact Cuj
 ·exact Cuk
 ·exact Cul
 ·exact Cum
 ·exact Cun
theorem Ael{P:Program}{ops:Array Oper}{rest:List Oper}{o:Oper}{a:Act}{w:World}{Q:Exit->Act->World->Prop}(hgd:o.guard=none){t:TypeId}{u j v:Value}(h:∀w,(Instr.index t u j).run P w=.ok v w)(x i:Operand)(ho:o.op=.index t x i)(hx:a.eval x=u)(hj:a.eval i=j)
  (hK:wpList P ops Q rest (a.put o.dst v) w):wpList P ops Q (o::rest) a w :=
 wpList_plain hgd fun _ hK'=>by
  unfold Oper.wp execOp
  simp only[ho,hx,hj,Sem.run_bind,h,Sem.run_pure,Result.andThen_ok]
  exact hK' _ _ hK
theorem Cpz:∀k:Nat,k<8->Aeb (tab.getD k 0)=IntKind.u16.wrap (2^k):=by
 have F2:∀k:Fin 8,Aeb (tab.getD k.val 0)=IntKind.u16.wrap (2^k.val):=by decide
 exact fun k hk=>F2 ⟨k,hk⟩
theorem Bje(n:Int)(w:World)(T:Tab w) :
  Calls prog 287 #[.int .i64 n] w fun e w'=>e=.returned (.int .u16 (Aeb n))/\w=w':=by
 have c0:=T.cells 0 (by omega);have c1:=T.cells 1 (by omega);have c2:=T.cells 2 (by omega);have c3:=T.cells 3 (by omega)
 have c4:=T.cells 4 (by omega);have c5:=T.cells 5 (by omega);have c6:=T.cells 6 (by omega);have c7:=T.cells 7 (by omega)
 simp only[tab,List.getD_cons_zero,List.getD_cons_succ]at c0 c1 c2 c3 c4 c5 c6 c7
 clear T
 go_enter func287,ntmps287
 go_wp2
 clear c0 c1 c2 c3 c4 c5 c6 c7
 go_loop [6] (fun i=>∃k:Nat,k<=8/\i=.int .i64 k/\Hid (∀j,j<k->tab.getD j 0≠n)) (fun i=>8-(intOf i).toNat)
 case atStart=>exact⟨0,by omega,rfl,J0 (fun j hj=>by omega)⟩
 case round =>
  obtain⟨k,hk,rfl,hs⟩:=hrel
  by_cases hlt:k<8
  ·have hix:=J0 (idx k hlt)
   have hE:=J0 (Cpz k hlt)
   have hN:=J0 (fun h=>Cgj hs.out h)
   clear hs
   generalize tab.getD k 0=x at hix hE hN
   by_cases hx:x=n
   ·subst hx
    go_wp2_with(with_reducible show wpList _ _ _ (⟨some 9,.index _ _ _,_,_,_,_⟩::_) _ _;go_must(refine Ael rfl hix.out (.tmp 5) (.tmp 6) rfl rfl rfl ?_))
    go_ret
    exact⟨G6 hE.out.symm,rfl⟩
   ·have hx':(x==n)=false:=by simpa using hx
    go_wp2_with(with_reducible show wpList _ _ _ (⟨some 9,.index _ _ _,_,_,_,_⟩::_) _ _;go_must(refine Ael rfl hix.out (.tmp 5) (.tmp 6) rfl rfl rfl ?_))
    go_round
    case rel=>exact⟨k+1,by omega,by go_num,J0 (hN.out hx)⟩
    case measure=>simp[intOf];omega
  ·have hE:=J0 (Cen (fun j hj=>hs.out j (by omega)))
   go_wp2
   go_ret
   exact⟨G6 hE.out.symm,rfl⟩
theorem Bzy(n:Int)(hn:n<=9223372036854775807)(w:World)(T:Tab w) :
  Calls prog 286 #[.int .i64 n] w fun e w'=>e=.returned (.int .u16 (Q0 n))/\w=w':=by
 have h:=J0 (fun m=>Bje m w T)
 clear T
 by_cases h0:n=22
 ·subst h0
  go_enter func286,ntmps286
  go_wp2
  go_ret
  exact⟨rfl,rfl⟩
 have h0':(n==22)=false:=by simpa using h0
 by_cases h1:22<n
 ·have hE:Hid (Q0 n=Aeb (n-20)):=by show _=_;unfold Q0;rw[if_neg h0,if_pos h1]
  go_enter func286,ntmps286
  go_wp2_with((go_at_call 287;refine(h.out _).mono ?_;rintro e w' ⟨rfl,rfl⟩))
  go_ret
  exact⟨G6 hE.out.symm,rfl⟩
 ·have hE:Hid (Q0 n=0):=by show _=_;unfold Q0;rw[if_neg h0,if_neg h1]
  go_enter func286,ntmps286
  go_wp2
  go_ret
  exact⟨G6 hE.out.symm,rfl⟩
theorem Apc(n:Int)(h0:0<=n)(h1:n<=255)(w:World) :
  Calls prog 285 #[.int .i64 n] w fun e w'=>e=.returned (.int .u32 (n+1))/\w=w':=by
 go_enter func285,ntmps285
 go_wp2
 go_ret
 exact⟨rfl,rfl⟩
theorem Bih(u b fo no c n:Int)(hu:0<=u/\u<=1000)(hb:0<=b/\b<=1000)(w:World) :
  Calls prog 289 #[.agg #[.int .i64 u,.int .i64 b,.int .i64 fo,.int .i64 no],.int .u32 c,.int .i64 n] w fun e w'=>e=.returned (.int .u32 (X3 u b no c n))/\Below w.heap.size w w':=by
 have F0:=J0 (A3 w (.cells #[.int .i64 u,.int .i64 b,.int .i64 fo,.int .i64 no] 297))
 by_cases h1:u<=n/\n<u+8
 ·have hE:Hid (X3 u b no c n=n-u+1):=by show _=_;unfold X3;rw[if_pos h1]
  obtain⟨h1,h1'⟩:=h1
  go_enter func289,ntmps289
  go_wp2_with((go_at_call 285;refine(Apc _ (by omega) (by omega) _).mono ?_;rintro e w' ⟨rfl,rfl⟩))
  go_ret
  exact⟨G6 hE.out.symm,F0.out⟩
 by_cases h2:b+8<=n/\n<b+16
 ·have hE:Hid (X3 u b no c n=n-b+1):=by show _=_;unfold X3;rw[if_neg h1,if_pos h2]
  obtain⟨h2,h2'⟩:=h2
  by_cases h3:u<=n
  all_goals
   go_enter func289,ntmps289
   go_wp2_with((go_at_call 285;refine(Apc _ (by omega) (by omega) _).mono ?_;rintro e w' ⟨rfl,rfl⟩))
   go_ret
   exact⟨G6 hE.out.symm,F0.out⟩
 by_cases h5:n=no
 ·have hE:Hid (X3 u b no c n=0):=by show _=_;unfold X3;rw[if_neg h1,if_neg h2,if_pos h5]
  subst h5
  by_cases h3:u<=n
  all_goals
   by_cases h4:b+8<=n
   all_goals
    go_enter func289,ntmps289
    go_wp2
    go_ret
    exact⟨G6 hE.out.symm,F0.out⟩
 ·have hE:Hid (X3 u b no c n=c):=by show _=_;unfold X3;rw[if_neg h1,if_neg h2,if_neg h5]
  have h5':(n==no)=false:=by simpa using h5
  by_cases h3:u<=n
  all_goals
   by_cases h4:b+8<=n
   all_goals
    go_enter func289,ntmps289
    go_wp2
    go_ret
    exact⟨G6 hE.out.symm,F0.out⟩
theorem Bsf(w:World) :
  Calls prog 288 #[] w fun e w'=>e=.returned (.agg #[.int .i64 30,.int .i64 82,.int .i64 38,.int .i64 39])/\Below w.heap.size w w':=by
 go_enter func288,ntmps288
 go_wp2
 exact bodyPost_ret (v:=.agg #[.int .i64 30,.int .i64 82,.int .i64 38,.int .i64 39]) (by simp[results,results288,go_sem]) rfl ⟨rfl,A3 _ _⟩
theorem Bsc(w:World) :
  Calls prog 290 #[] w fun e w'=>e=.returned (.agg #[.int .i64 40,.int .i64 92,.int .i64 48,.int .i64 49])/\Below w.heap.size w w':=by
 go_enter func290,ntmps290
 go_wp2
 exact bodyPost_ret (v:=.agg #[.int .i64 40,.int .i64 92,.int .i64 48,.int .i64 49]) (by simp[results,results290,go_sem]) rfl ⟨rfl,A3 _ _⟩
