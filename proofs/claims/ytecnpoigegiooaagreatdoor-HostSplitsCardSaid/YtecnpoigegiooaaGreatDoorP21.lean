/- Part 21 of HostSplits. -/
import Derived.Maps.RangeWalk
import Derived.Test.YtecnpoigegiooaaGreatDoorP20
import Derived.BigRegion
set_option maxHeartbeats 16000000
set_option maxRecDepth 100000
namespace Go.Proofs.YtecnpoigegiooaaGreatDoor.Mds
open Go RowKit Com
def Bi6 (m:Md) (p:Bool) (n:Int) (on:Bool) (w:World) (e:Ending) (w':World):Prop:=e=.returned (.tuple #[.agg (mA (m.put p n on)),.bool (known p n)])/\Below w.heap.size w w'
theorem look_no {w:World} {b:Nat} (h:Bq7 w b) {p:Bool} {n:Int} (hw:(Lit.int .i64 n).wf=true) (hs:spot p n=8) :
  (Instr.lookup 303 (.map (some b)) (.agg #[.bool p,.int .i64 n]) true).run Tryz.prog w=.ok (.tuple #[.nilFunc,.bool false]) w:=by
 rcases Bk1 h p hw with ⟨_,h2⟩|⟨h1,_⟩
 ·exact h2
 ·omega
theorem Am0 {w:World} {b:Nat} (h:Bq7 w b) {p:Bool} {n:Int} (hw:(Lit.int .i64 n).wf=true) {k:Nat} (hs:spot p n=k) (hk:k<8) {f:Nat} (hf:Cs4 k=f) :
  (Instr.lookup 303 (.map (some b)) (.agg #[.bool p,.int .i64 n]) true).run Tryz.prog w=.ok (.tuple #[.func (.func f) #[] #[],.bool true]) w:=by
 rcases Bk1 h p hw with ⟨h1,_⟩|⟨_,h2⟩
 ·omega
 ·rw[hs,hf] at h2
  exact h2
theorem Ah1 (w:World) (m:Md):Below w.heap.size w ((w.alloc (.cells (mA m) 80)).alloc (.cells #[.bool false,.bool false,.bool false,.bool false,.bool false,.bool false,.bool false,.bool false] 80)):=Aa0 (Aa1 w _) (Aa1 _ _)
theorem Bq3 (w:World) (m:Md):MB ((w.alloc (.cells (mA m) 80)).alloc (.cells #[.bool false,.bool false,.bool false,.bool false,.bool false,.bool false,.bool false,.bool false] 80)) w.heap.size m:=(MB.made w m).alloc _
theorem Bq4 (w:World) (m:Md):MB ((w.alloc (.cells (mA m) 80)).alloc (.cells #[.bool false,.bool false,.bool false,.bool false,.bool false,.bool false,.bool false,.bool false] 80)) (w.heap.size+1) none0:=by
 have:=MB.zero (w.alloc (.cells (mA m) 80))
 simpa using this
theorem Cl8 (m:Md) (p:Bool) (n:Int) (hw:(Lit.int .i64 n).wf=true) (on:Bool) (hs:spot p n=8) (w:World) :
  Calls Tryz.prog 276 #[.agg (mA m),.bool p,.int .i64 n,.bool on] w (Bi6 m p n on w):=by
 have hE:Hid (m.put p n on=m/\known p n=false):=⟨by unfold Md.put;rw[hs];rfl,by unfold known;rw[hs];rfl⟩
 have hb0:=J0 (Ah1 w m)
 have hm0:=J0 (Bq3 w m)
 have hr0:=J0 (Bq4 w m)
 replace hs:=J0 hs
 have hinf:=J0 (mA_info m)
 go_enter Tryz.func276,Tryz.ntmps276
 go_wp2_with (first
  |(go_at_call 291;(with_reducible refine(Af4 _).mono ?_);rintro e w1 ⟨b,rfl,hP,hb1⟩;have hlk:=look_no hP hw hs.out;have hb2:=J0 (Aa0 hb0.out hb1);have hm1:=J0 (hm0.out.below hb1);have hr1:=J0 (hr0.out.below hb1);clear hb1 hb0 hm0 hr0)
  |(with_reducible refine J9 25 4 ?_;go_must (refine wpList_load_row rfl _ (.tmp 4) rfl w.heap.size rfl _ (mA m) (0,0) _ (blk hm1.out.blk) Tryz.underlying80 rfl hinf.out ?_))
  |(with_reducible refine J8 8 ?_;go_must (refine Aa3 rfl _ (.tmp 8) (.tmp 25) rfl hr1.out.blk (mA m) rfl rfl hinf.out rfl (mA_one m) ?_);intro w2 hd2 ho2))
 exact Av5 rfl rfl rfl rfl hd2 ⟨by rw[hE.out.1,hE.out.2];rfl,hb2.out.trans (ho2.below hb2.out.size (by simp))⟩
theorem clos_0 (b:Nat) (w:World):Calls Tryz.prog 295 #[.pointer (some ⟨b,0,none⟩)] w fun e w'=>e=.returned (.pointer (some ⟨b,0,none⟩))/\w=w':=by
 go_enter Tryz.func295,Tryz.ntmps295
 go_wp2
 go_ret
 exact⟨rfl,rfl⟩
theorem put_0 (m:Md) (p:Bool) (n:Int) (hw:(Lit.int .i64 n).wf=true) (on:Bool) (hs:spot p n=0) (w:World) :
  Calls Tryz.prog 276 #[.agg (mA m),.bool p,.int .i64 n,.bool on] w (Bi6 m p n on w):=by
 have hE:Hid (m.put p n on=m.set 0 on/\known p n=true):=⟨by unfold Md.put;rw[hs],by unfold known;rw[hs];rfl⟩
 have hb0:=J0 (Ah1 w m)
 have hm0:=J0 (Bq3 w m)
 have hr0:=J0 (Bq4 w m)
 replace hs:=J0 hs
 have hinf:=J0 (mA_info (m.set 0 on))
 have hset:=J0 (Bb6 m (k:=0) (by omega) on)
 go_enter Tryz.func276,Tryz.ntmps276
 go_wp2_with (first
  |(go_at_call 291;(with_reducible refine(Af4 _).mono ?_);rintro e w1 ⟨b,rfl,hP,hb1⟩;have hlk:=Am0 hP hw hs.out (by omega) (f:=295) rfl;have hb2:=J0 (Aa0 hb0.out hb1);have hm1:=J0 (hm0.out.below hb1);have hr1:=J0 (hr0.out.below hb1);clear hb1 hb0 hm0 hr0)
  |(with_reducible refine J8 24 ?_;go_must (refine Aa5 rfl _ (.tmp 24) (.tmp 23) rfl hm1.out.blk (.bool on) rfl rfl (by rw[Ao4];omega) Al9 rfl ?_);intro w3 hd3 ho3;go_must (rw[hset.out] at hd3);go_must (replace hd3:=J0 (MB.of hd3);have hr3:=J0 (hr1.out.only ho3 (by simp));have hb3:=J0 (hb2.out.trans (ho3.below hb2.out.size (by simp)));clear hb2 hr1 hm1 ho3))
  |(with_reducible refine J9 25 4 ?_;go_must (refine wpList_load_row rfl _ (.tmp 4) rfl w.heap.size rfl _ (mA (m.set 0 on)) (0,0) _ (blk hd3.out.blk) Tryz.underlying80 rfl hinf.out ?_))
  |(with_reducible refine J8 8 ?_;go_must (refine Aa3 rfl _ (.tmp 8) (.tmp 25) rfl hr3.out.blk (mA (m.set 0 on)) rfl rfl hinf.out rfl (mA_one _) ?_);intro w2 hd2 ho2)
  |(go_at_call 295;refine(clos_0 _ _).mono ?_;rintro e w' ⟨rfl,rfl⟩))
 exact Av5 rfl rfl rfl rfl hd2 ⟨by rw[hE.out.1,hE.out.2];rfl,hb3.out.trans (ho2.below hb3.out.size (by simp))⟩
theorem clos_1 (b:Nat) (w:World):Calls Tryz.prog 296 #[.pointer (some ⟨b,0,none⟩)] w fun e w'=>e=.returned (.pointer (some ⟨b,1,none⟩))/\w=w':=by
 go_enter Tryz.func296,Tryz.ntmps296
 go_wp2
 go_ret
 exact⟨rfl,rfl⟩
theorem put_1 (m:Md) (p:Bool) (n:Int) (hw:(Lit.int .i64 n).wf=true) (on:Bool) (hs:spot p n=1) (w:World) :
  Calls Tryz.prog 276 #[.agg (mA m),.bool p,.int .i64 n,.bool on] w (Bi6 m p n on w):=by
 have hE:Hid (m.put p n on=m.set 1 on/\known p n=true):=⟨by unfold Md.put;rw[hs],by unfold known;rw[hs];rfl⟩
 have hb0:=J0 (Ah1 w m)
 have hm0:=J0 (Bq3 w m)
 have hr0:=J0 (Bq4 w m)
 replace hs:=J0 hs
 have hinf:=J0 (mA_info (m.set 1 on))
 have hset:=J0 (Bb6 m (k:=1) (by omega) on)
 go_enter Tryz.func276,Tryz.ntmps276
 go_wp2_with (first
  |(go_at_call 291;(with_reducible refine(Af4 _).mono ?_);rintro e w1 ⟨b,rfl,hP,hb1⟩;have hlk:=Am0 hP hw hs.out (by omega) (f:=296) rfl;have hb2:=J0 (Aa0 hb0.out hb1);have hm1:=J0 (hm0.out.below hb1);have hr1:=J0 (hr0.out.below hb1);clear hb1 hb0 hm0 hr0)
  |(with_reducible refine J8 24 ?_;go_must (refine Aa5 rfl _ (.tmp 24) (.tmp 23) rfl hm1.out.blk (.bool on) rfl rfl (by rw[Ao4];omega) Al9 rfl ?_);intro w3 hd3 ho3;go_must (rw[hset.out] at hd3);go_must (replace hd3:=J0 (MB.of hd3);have hr3:=J0 (hr1.out.only ho3 (by simp));have hb3:=J0 (hb2.out.trans (ho3.below hb2.out.size (by simp)));clear hb2 hr1 hm1 ho3))
  |(with_reducible refine J9 25 4 ?_;go_must (refine wpList_load_row rfl _ (.tmp 4) rfl w.heap.size rfl _ (mA (m.set 1 on)) (0,0) _ (blk hd3.out.blk) Tryz.underlying80 rfl hinf.out ?_))
  |(with_reducible refine J8 8 ?_;go_must (refine Aa3 rfl _ (.tmp 8) (.tmp 25) rfl hr3.out.blk (mA (m.set 1 on)) rfl rfl hinf.out rfl (mA_one _) ?_);intro w2 hd2 ho2)
  |(go_at_call 296;refine(clos_1 _ _).mono ?_;rintro e w' ⟨rfl,rfl⟩))
 exact Av5 rfl rfl rfl rfl hd2 ⟨by rw[hE.out.1,hE.out.2];rfl,hb3.out.trans (ho2.below hb3.out.size (by simp))⟩
theorem clos_2 (b:Nat) (w:World):Calls Tryz.prog 297 #[.pointer (some ⟨b,0,none⟩)] w fun e w'=>e=.returned (.pointer (some ⟨b,2,none⟩))/\w=w':=by
 go_enter Tryz.func297,Tryz.ntmps297
 go_wp2
 go_ret
 exact⟨rfl,rfl⟩
theorem put_2 (m:Md) (p:Bool) (n:Int) (hw:(Lit.int .i64 n).wf=true) (on:Bool) (hs:spot p n=2) (w:World) :
  Calls Tryz.prog 276 #[.agg (mA m),.bool p,.int .i64 n,.bool on] w (Bi6 m p n on w):=by
 have hE:Hid (m.put p n on=m.set 2 on/\known p n=true):=⟨by unfold Md.put;rw[hs],by unfold known;rw[hs];rfl⟩
 have hb0:=J0 (Ah1 w m)
 have hm0:=J0 (Bq3 w m)
 have hr0:=J0 (Bq4 w m)
 replace hs:=J0 hs
 have hinf:=J0 (mA_info (m.set 2 on))
 have hset:=J0 (Bb6 m (k:=2) (by omega) on)
 go_enter Tryz.func276,Tryz.ntmps276
 go_wp2_with (first
  |(go_at_call 291;(with_reducible refine(Af4 _).mono ?_);rintro e w1 ⟨b,rfl,hP,hb1⟩;have hlk:=Am0 hP hw hs.out (by omega) (f:=297) rfl;have hb2:=J0 (Aa0 hb0.out hb1);have hm1:=J0 (hm0.out.below hb1);have hr1:=J0 (hr0.out.below hb1);clear hb1 hb0 hm0 hr0)
  |(with_reducible refine J8 24 ?_;go_must (refine Aa5 rfl _ (.tmp 24) (.tmp 23) rfl hm1.out.blk (.bool on) rfl rfl (by rw[Ao4];omega) Al9 rfl ?_);intro w3 hd3 ho3;go_must (rw[hset.out] at hd3);go_must (replace hd3:=J0 (MB.of hd3);have hr3:=J0 (hr1.out.only ho3 (by simp));have hb3:=J0 (hb2.out.trans (ho3.below hb2.out.size (by simp)));clear hb2 hr1 hm1 ho3))
  |(with_reducible refine J9 25 4 ?_;go_must (refine wpList_load_row rfl _ (.tmp 4) rfl w.heap.size rfl _ (mA (m.set 2 on)) (0,0) _ (blk hd3.out.blk) Tryz.underlying80 rfl hinf.out ?_))
  |(with_reducible refine J8 8 ?_;go_must (refine Aa3 rfl _ (.tmp 8) (.tmp 25) rfl hr3.out.blk (mA (m.set 2 on)) rfl rfl hinf.out rfl (mA_one _) ?_);intro w2 hd2 ho2)
  |(go_at_call 297;refine(clos_2 _ _).mono ?_;rintro e w' ⟨rfl,rfl⟩))
 exact Av5 rfl rfl rfl rfl hd2 ⟨by rw[hE.out.1,hE.out.2];rfl,hb3.out.trans (ho2.below hb3.out.size (by simp))⟩
theorem clos_3 (b:Nat) (w:World):Calls Tryz.prog 298 #[.pointer (some ⟨b,0,none⟩)] w fun e w'=>e=.returned (.pointer (some ⟨b,3,none⟩))/\w=w':=by
 go_enter Tryz.func298,Tryz.ntmps298
 go_wp2
 go_ret
 exact⟨rfl,rfl⟩
theorem put_3 (m:Md) (p:Bool) (n:Int) (hw:(Lit.int .i64 n).wf=true) (on:Bool) (hs:spot p n=3) (w:World) :
  Calls Tryz.prog 276 #[.agg (mA m),.bool p,.int .i64 n,.bool on] w (Bi6 m p n on w):=by
 have hE:Hid (m.put p n on=m.set 3 on/\known p n=true):=⟨by unfold Md.put;rw[hs],by unfold known;rw[hs];rfl⟩
 have hb0:=J0 (Ah1 w m)
 have hm0:=J0 (Bq3 w m)
 have hr0:=J0 (Bq4 w m)
 replace hs:=J0 hs
 have hinf:=J0 (mA_info (m.set 3 on))
 have hset:=J0 (Bb6 m (k:=3) (by omega) on)
 go_enter Tryz.func276,Tryz.ntmps276
 go_wp2_with (first
  |(go_at_call 291;(with_reducible refine(Af4 _).mono ?_);rintro e w1 ⟨b,rfl,hP,hb1⟩;have hlk:=Am0 hP hw hs.out (by omega) (f:=298) rfl;have hb2:=J0 (Aa0 hb0.out hb1);have hm1:=J0 (hm0.out.below hb1);have hr1:=J0 (hr0.out.below hb1);clear hb1 hb0 hm0 hr0)
  |(with_reducible refine J8 24 ?_;go_must (refine Aa5 rfl _ (.tmp 24) (.tmp 23) rfl hm1.out.blk (.bool on) rfl rfl (by rw[Ao4];omega) Al9 rfl ?_);intro w3 hd3 ho3;go_must (rw[hset.out] at hd3);go_must (replace hd3:=J0 (MB.of hd3);have hr3:=J0 (hr1.out.only ho3 (by simp));have hb3:=J0 (hb2.out.trans (ho3.below hb2.out.size (by simp)));clear hb2 hr1 hm1 ho3))
  |(with_reducible refine J9 25 4 ?_;go_must (refine wpList_load_row rfl _ (.tmp 4) rfl w.heap.size rfl _ (mA (m.set 3 on)) (0,0) _ (blk hd3.out.blk) Tryz.underlying80 rfl hinf.out ?_))
  |(with_reducible refine J8 8 ?_;go_must (refine Aa3 rfl _ (.tmp 8) (.tmp 25) rfl hr3.out.blk (mA (m.set 3 on)) rfl rfl hinf.out rfl (mA_one _) ?_);intro w2 hd2 ho2)
  |(go_at_call 298;refine(clos_3 _ _).mono ?_;rintro e w' ⟨rfl,rfl⟩))
 exact Av5 rfl rfl rfl rfl hd2 ⟨by rw[hE.out.1,hE.out.2];rfl,hb3.out.trans (ho2.below hb3.out.size (by simp))⟩
theorem clos_4 (b:Nat) (w:World):Calls Tryz.prog 299 #[.pointer (some ⟨b,0,none⟩)] w fun e w'=>e=.returned (.pointer (some ⟨b,4,none⟩))/\w=w':=by
 go_enter Tryz.func299,Tryz.ntmps299
 go_wp2
 go_ret
 exact⟨rfl,rfl⟩
theorem put_4 (m:Md) (p:Bool) (n:Int) (hw:(Lit.int .i64 n).wf=true) (on:Bool) (hs:spot p n=4) (w:World) :
  Calls Tryz.prog 276 #[.agg (mA m),.bool p,.int .i64 n,.bool on] w (Bi6 m p n on w):=by
 have hE:Hid (m.put p n on=m.set 4 on/\known p n=true):=⟨by unfold Md.put;rw[hs],by unfold known;rw[hs];rfl⟩
 have hb0:=J0 (Ah1 w m)
 have hm0:=J0 (Bq3 w m)
 have hr0:=J0 (Bq4 w m)
 replace hs:=J0 hs
 have hinf:=J0 (mA_info (m.set 4 on))
 have hset:=J0 (Bb6 m (k:=4) (by omega) on)
 go_enter Tryz.func276,Tryz.ntmps276
 go_wp2_with (first
  |(go_at_call 291;(with_reducible refine(Af4 _).mono ?_);rintro e w1 ⟨b,rfl,hP,hb1⟩;have hlk:=Am0 hP hw hs.out (by omega) (f:=299) rfl;have hb2:=J0 (Aa0 hb0.out hb1);have hm1:=J0 (hm0.out.below hb1);have hr1:=J0 (hr0.out.below hb1);clear hb1 hb0 hm0 hr0)
  |(with_reducible refine J8 24 ?_;go_must (refine Aa5 rfl _ (.tmp 24) (.tmp 23) rfl hm1.out.blk (.bool on) rfl rfl (by rw[Ao4];omega) Al9 rfl ?_);intro w3 hd3 ho3;go_must (rw[hset.out] at hd3);go_must (replace hd3:=J0 (MB.of hd3);have hr3:=J0 (hr1.out.only ho3 (by simp));have hb3:=J0 (hb2.out.trans (ho3.below hb2.out.size (by simp)));clear hb2 hr1 hm1 ho3))
  |(with_reducible refine J9 25 4 ?_;go_must (refine wpList_load_row rfl _ (.tmp 4) rfl w.heap.size rfl _ (mA (m.set 4 on)) (0,0) _ (blk hd3.out.blk) Tryz.underlying80 rfl hinf.out ?_))
  |(with_reducible refine J8 8 ?_;go_must (refine Aa3 rfl _ (.tmp 8) (.tmp 25) rfl hr3.out.blk (mA (m.set 4 on)) rfl rfl hinf.out rfl (mA_one _) ?_);intro w2 hd2 ho2)
  |(go_at_call 299;refine(clos_4 _ _).mono ?_;rintro e w' ⟨rfl,rfl⟩))
 exact Av5 rfl rfl rfl rfl hd2 ⟨by rw[hE.out.1,hE.out.2];rfl,hb3.out.trans (ho2.below hb3.out.size (by simp))⟩
theorem clos_5 (b:Nat) (w:World):Calls Tryz.prog 300 #[.pointer (some ⟨b,0,none⟩)] w fun e w'=>e=.returned (.pointer (some ⟨b,5,none⟩))/\w=w':=by
 go_enter Tryz.func300,Tryz.ntmps300
 go_wp2
 go_ret
 exact⟨rfl,rfl⟩
theorem put_5 (m:Md) (p:Bool) (n:Int) (hw:(Lit.int .i64 n).wf=true) (on:Bool) (hs:spot p n=5) (w:World) :
  Calls Tryz.prog 276 #[.agg (mA m),.bool p,.int .i64 n,.bool on] w (Bi6 m p n on w):=by
 have hE:Hid (m.put p n on=m.set 5 on/\known p n=true):=⟨by unfold Md.put;rw[hs],by unfold known;rw[hs];rfl⟩
 have hb0:=J0 (Ah1 w m)
 have hm0:=J0 (Bq3 w m)
 have hr0:=J0 (Bq4 w m)
 replace hs:=J0 hs
 have hinf:=J0 (mA_info (m.set 5 on))
 have hset:=J0 (Bb6 m (k:=5) (by omega) on)
 go_enter Tryz.func276,Tryz.ntmps276
 go_wp2_with (first
  |(go_at_call 291;(with_reducible refine(Af4 _).mono ?_);rintro e w1 ⟨b,rfl,hP,hb1⟩;have hlk:=Am0 hP hw hs.out (by omega) (f:=300) rfl;have hb2:=J0 (Aa0 hb0.out hb1);have hm1:=J0 (hm0.out.below hb1);have hr1:=J0 (hr0.out.below hb1);clear hb1 hb0 hm0 hr0)
  |(with_reducible refine J8 24 ?_;go_must (refine Aa5 rfl _ (.tmp 24) (.tmp 23) rfl hm1.out.blk (.bool on) rfl rfl (by rw[Ao4];omega) Al9 rfl ?_);intro w3 hd3 ho3;go_must (rw[hset.out] at hd3);go_must (replace hd3:=J0 (MB.of hd3);have hr3:=J0 (hr1.out.only ho3 (by simp));have hb3:=J0 (hb2.out.trans (ho3.below hb2.out.size (by simp)));clear hb2 hr1 hm1 ho3))
  |(with_reducible refine J9 25 4 ?_;go_must (refine wpList_load_row rfl _ (.tmp 4) rfl w.heap.size rfl _ (mA (m.set 5 on)) (0,0) _ (blk hd3.out.blk) Tryz.underlying80 rfl hinf.out ?_))
  |(with_reducible refine J8 8 ?_;go_must (refine Aa3 rfl _ (.tmp 8) (.tmp 25) rfl hr3.out.blk (mA (m.set 5 on)) rfl rfl hinf.out rfl (mA_one _) ?_);intro w2 hd2 ho2)
  |(go_at_call 300;refine(clos_5 _ _).mono ?_;rintro e w' ⟨rfl,rfl⟩))
 exact Av5 rfl rfl rfl rfl hd2 ⟨by rw[hE.out.1,hE.out.2];rfl,hb3.out.trans (ho2.below hb3.out.size (by simp))⟩
theorem clos_6 (b:Nat) (w:World):Calls Tryz.prog 294 #[.pointer (some ⟨b,0,none⟩)] w fun e w'=>e=.returned (.pointer (some ⟨b,6,none⟩))/\w=w':=by
 go_enter Tryz.func294,Tryz.ntmps294
 go_wp2
 go_ret
 exact⟨rfl,rfl⟩
theorem put_6 (m:Md) (p:Bool) (n:Int) (hw:(Lit.int .i64 n).wf=true) (on:Bool) (hs:spot p n=6) (w:World) :
  Calls Tryz.prog 276 #[.agg (mA m),.bool p,.int .i64 n,.bool on] w (Bi6 m p n on w):=by
 have hE:Hid (m.put p n on=m.set 6 on/\known p n=true):=⟨by unfold Md.put;rw[hs],by unfold known;rw[hs];rfl⟩
 have hb0:=J0 (Ah1 w m)
 have hm0:=J0 (Bq3 w m)
 have hr0:=J0 (Bq4 w m)
 replace hs:=J0 hs
 have hinf:=J0 (mA_info (m.set 6 on))
 have hset:=J0 (Bb6 m (k:=6) (by omega) on)
 go_enter Tryz.func276,Tryz.ntmps276
 go_wp2_with (first
  |(go_at_call 291;(with_reducible refine(Af4 _).mono ?_);rintro e w1 ⟨b,rfl,hP,hb1⟩;have hlk:=Am0 hP hw hs.out (by omega) (f:=294) rfl;have hb2:=J0 (Aa0 hb0.out hb1);have hm1:=J0 (hm0.out.below hb1);have hr1:=J0 (hr0.out.below hb1);clear hb1 hb0 hm0 hr0)
  |(with_reducible refine J8 24 ?_;go_must (refine Aa5 rfl _ (.tmp 24) (.tmp 23) rfl hm1.out.blk (.bool on) rfl rfl (by rw[Ao4];omega) Al9 rfl ?_);intro w3 hd3 ho3;go_must (rw[hset.out] at hd3);go_must (replace hd3:=J0 (MB.of hd3);have hr3:=J0 (hr1.out.only ho3 (by simp));have hb3:=J0 (hb2.out.trans (ho3.below hb2.out.size (by simp)));clear hb2 hr1 hm1 ho3))
  |(with_reducible refine J9 25 4 ?_;go_must (refine wpList_load_row rfl _ (.tmp 4) rfl w.heap.size rfl _ (mA (m.set 6 on)) (0,0) _ (blk hd3.out.blk) Tryz.underlying80 rfl hinf.out ?_))
  |(with_reducible refine J8 8 ?_;go_must (refine Aa3 rfl _ (.tmp 8) (.tmp 25) rfl hr3.out.blk (mA (m.set 6 on)) rfl rfl hinf.out rfl (mA_one _) ?_);intro w2 hd2 ho2)
  |(go_at_call 294;refine(clos_6 _ _).mono ?_;rintro e w' ⟨rfl,rfl⟩))
 exact Av5 rfl rfl rfl rfl hd2 ⟨by rw[hE.out.1,hE.out.2];rfl,hb3.out.trans (ho2.below hb3.out.size (by simp))⟩
theorem clos_7 (b:Nat) (w:World):Calls Tryz.prog 301 #[.pointer (some ⟨b,0,none⟩)] w fun e w'=>e=.returned (.pointer (some ⟨b,7,none⟩))/\w=w':=by
 go_enter Tryz.func301,Tryz.ntmps301
 go_wp2
 go_ret
 exact⟨rfl,rfl⟩
theorem put_7 (m:Md) (p:Bool) (n:Int) (hw:(Lit.int .i64 n).wf=true) (on:Bool) (hs:spot p n=7) (w:World) :
  Calls Tryz.prog 276 #[.agg (mA m),.bool p,.int .i64 n,.bool on] w (Bi6 m p n on w):=by
 have hE:Hid (m.put p n on=m.set 7 on/\known p n=true):=⟨by unfold Md.put;rw[hs],by unfold known;rw[hs];rfl⟩
 have hb0:=J0 (Ah1 w m)
 have hm0:=J0 (Bq3 w m)
 have hr0:=J0 (Bq4 w m)
 replace hs:=J0 hs
 have hinf:=J0 (mA_info (m.set 7 on))
 have hset:=J0 (Bb6 m (k:=7) (by omega) on)
 go_enter Tryz.func276,Tryz.ntmps276
 go_wp2_with (first
  |(go_at_call 291;(with_reducible refine(Af4 _).mono ?_);rintro e w1 ⟨b,rfl,hP,hb1⟩;have hlk:=Am0 hP hw hs.out (by omega) (f:=301) rfl;have hb2:=J0 (Aa0 hb0.out hb1);have hm1:=J0 (hm0.out.below hb1);have hr1:=J0 (hr0.out.below hb1);clear hb1 hb0 hm0 hr0)
  |(with_reducible refine J8 24 ?_;go_must (refine Aa5 rfl _ (.tmp 24) (.tmp 23) rfl hm1.out.blk (.bool on) rfl rfl (by rw[Ao4];omega) Al9 rfl ?_);intro w3 hd3 ho3;go_must (rw[hset.out] at hd3);go_must (replace hd3:=J0 (MB.of hd3);have hr3:=J0 (hr1.out.only ho3 (by simp));have hb3:=J0 (hb2.out.trans (ho3.below hb2.out.size (by simp)));clear hb2 hr1 hm1 ho3))
  |(with_reducible refine J9 25 4 ?_;go_must (refine wpList_load_row rfl _ (.tmp 4) rfl w.heap.size rfl _ (mA (m.set 7 on)) (0,0) _ (blk hd3.out.blk) Tryz.underlying80 rfl hinf.out ?_))
  |(with_reducible refine J8 8 ?_;go_must (refine Aa3 rfl _ (.tmp 8) (.tmp 25) rfl hr3.out.blk (mA (m.set 7 on)) rfl rfl hinf.out rfl (mA_one _) ?_);intro w2 hd2 ho2)
  |(go_at_call 301;refine(clos_7 _ _).mono ?_;rintro e w' ⟨rfl,rfl⟩))
 exact Av5 rfl rfl rfl rfl hd2 ⟨by rw[hE.out.1,hE.out.2];rfl,hb3.out.trans (ho2.below hb3.out.size (by simp))⟩
theorem put_any (m:Md) (p:Bool) (n:Int) (hw:(Lit.int .i64 n).wf=true) (on:Bool) (w:World) :
  Calls Tryz.prog 276 #[.agg (mA m),.bool p,.int .i64 n,.bool on] w (Bi6 m p n on w):=by
 rcases small (spot_le p n) with h|h|h|h|h|h|h|h|h
 ·exact put_0 m p n hw on h w
 ·exact put_1 m p n hw on h w
 ·exact put_2 m p n hw on h w
 ·exact put_3 m p n hw on h w
 ·exact put_4 m p n hw on h w
 ·exact put_5 m p n hw on h w
 ·exact put_6 m p n hw on h w
 ·exact put_7 m p n hw on h w
 ·exact Cl8 m p n hw on h w
def MIs (m:Md) (w:World) (e:Ending) (w':World):Prop:=e=.returned (.agg (mA m))/\Below w.heap.size w w'
theorem default_any (w:World):Calls Tryz.prog 57 #[] w (MIs start w):=by
 have hb0:=J0 (Aa1 w (.cells #[.bool false,.bool false,.bool false,.bool false,.bool false,.bool false,.bool false,.bool false] 80))
 have hr0:=J0 (MB.zero w)
 have hinf:=J0 (mA_info start)
 go_enter Tryz.func57,Tryz.ntmps57
 go_wp2_with (first
  |(with_reducible refine J8 0 ?_;go_must (refine Aa3 rfl _ (.tmp 0) (.tmp 1) rfl hr0.out.blk (mA start) rfl rfl hinf.out rfl (mA_one _) ?_);intro w2 hd2 ho2))
 exact end_m rfl rfl rfl (MB.of hd2) ⟨rfl,hb0.out.trans (ho2.below hb0.out.size (by simp))⟩
def part (m:Md):Nat->Int
 |0=>0
 |k+1=>part m k+one (m.get k) (pow k)
end Go.Proofs.YtecnpoigegiooaaGreatDoor.Mds
namespace Go.Proofs.YtecnpoigegiooaaGreatDoor.Sgr
open Go
structure At where
 f:Int
 b:Int
 g:Int
deriving DecidableEq
def zero:At:=⟨0,0,0⟩
def orF (x y:Int):Int:=bits .or .u16 x y
def notF (x y:Int):Int:=bits .andNot .u16 x y
structure At.Ok (a:At):Prop where
 f0:0<=a.f
 f1:a.f<=4294967295
 b0:0<=a.b
 b1:a.b<=4294967295
 g0:0<=a.g
 g1:a.g<=65535
def Bc4 (n:Int):Int:=if n=1 then 1 else if n=2 then 2 else if n=3 then 4 else if n=4 then 8 else if n=5 then 16 else if n=7 then 32 else if n=8 then 64 else if n=9 then 128 else 0
def endF (n:Int):Int:=if n=22 then 3 else if 22<n then Bc4 (n - 20) else 0
def Ai0 (u b no c n:Int):Int:=if u<=n/\n<u+8 then n - u+1 else if b+8<=n/\n<b+16 then n - b+1 else if n=no then 0 else c
def oneF (a:At) (n:Int):At:=if n=0 then zero else ⟨Ai0 30 82 39 a.f n,Ai0 40 92 49 a.b n,orF (notF a.g (endF n)) (Bc4 n)⟩
def isB (n:Int):Bool:=decide (0<=n/\n<=255)
def rgbF (x y z:Int):Int:=16777216+x*65536+y*256+z
def folF (c:Int) (l:List Int):Int×List Int :=
 if 2<=l.length/\l.getD 0 0=5 then (if isB (l.getD 1 0) then l.getD 1 0+1 else c,l.drop 2)
 else if 4<=l.length/\l.getD 0 0=2 then (if isB (l.getD 1 0) && isB (l.getD 2 0) && isB (l.getD 3 0) then rgbF (l.getD 1 0) (l.getD 2 0) (l.getD 3 0) else c,l.drop 4)
 else (c,[])
theorem Bn7 (c:Int) (l:List Int):(folF c l).2.length<=l.length:=by
 unfold folF
 split
 ·simp
 ·split<;>simp
def runF (a:At):List Int->At
 |[]=>a
 |n::t=>if n=38 then runF ⟨(folF a.f t).1,a.b,a.g⟩ (folF a.f t).2 else if n=48 then runF ⟨a.f,(folF a.b t).1,a.g⟩ (folF a.b t).2 else runF (oneF a n) t
termination_by l=>l.length
decreasing_by
 ·have:=Bn7 a.f t;simp;omega
 ·have:=Bn7 a.b t;simp;omega
 ·simp
def applyF (a:At) (l:List Int):At:=if l=[] then zero else runF a l
theorem run_nil (a:At):runF a []=a:=by rw[runF]
theorem run_fg (a:At) (t:List Int):runF a (38::t)=runF ⟨(folF a.f t).1,a.b,a.g⟩ (folF a.f t).2:=by rw[runF,if_pos rfl]
theorem run_bg (a:At) (t:List Int):runF a (48::t)=runF ⟨a.f,(folF a.b t).1,a.g⟩ (folF a.b t).2:=by rw[runF,if_neg (by decide),if_pos rfl]
theorem run_one (a:At) {n:Int} (t:List Int) (h1:n≠38) (h2:n≠48):runF a (n::t)=runF (oneF a n) t:=by rw[runF,if_neg h1,if_neg h2]
theorem flag_none {n:Int} (h:¬(n=1\/n=2\/n=3\/n=4\/n=5\/n=7\/n=8\/n=9)):Bc4 n=0:=by
 unfold Bc4
 (repeat' split)<;>omega
def colF (c:Int):Bool:=decide (c<=256\/(16777216<=c/\c<33554432))
def mayF (a:At):Bool:=decide (a.g<256) && colF a.f && colF a.b
end Go.Proofs.YtecnpoigegiooaaGreatDoor.Sgr
namespace Go.Proofs.YtecnpoigegiooaaGreatDoor.Sgr
open Go RowKit Com
def tab:List Int:=[1,2,3,4,5,7,8,9]
structure Tab (w:World):Prop where
 size:5<w.heap.size
 cells:∀k,k<8->w.cell? ⟨5,k,none⟩=some (.int .i64 (tab.getD k 0))
theorem Tab.below {w w':World} (h:Tab w) (hb:Below w.heap.size w w'):Tab w' :=
 ⟨Nat.lt_of_lt_of_le h.size hb.size,fun k hk=>(hb.cell (p:=⟨5,k,none⟩) h.size).trans (h.cells k hk)⟩
theorem flag_not {n:Int} (h:∀k,k<8->tab.getD k 0≠n):Bc4 n=0:=by
 have h0:=h 0 (by omega);have h1:=h 1 (by omega);have h2:=h 2 (by omega);have h3:=h 3 (by omega)
 have h4:=h 4 (by omega);have h5:=h 5 (by omega);have h6:=h 6 (by omega);have h7:=h 7 (by omega)
 simp[tab] at h0 h1 h2 h3 h4 h5 h6 h7
 apply flag_none
 omega
theorem not_next {n:Int} {k:Nat} (h:∀j,j<k->tab.getD j 0≠n) (hx:tab.getD k 0≠n):∀j,j<k+1->tab.getD j 0≠n:=fun j hj=>by
 by_cases e:j=k
 ·rw[e];exact hx
 ·exact h j (by omega)
theorem idx0 (w:World):(Instr.index 154 (.agg #[.int .i64 1,.int .i64 2,.int .i64 3,.int .i64 4,.int .i64 5,.int .i64 7,.int .i64 8,.int .i64 9]) (.int .i64 0)).run Tryz.prog w=.ok (.int .i64 1) w:=by kernel_rfl
theorem idx1 (w:World):(Instr.index 154 (.agg #[.int .i64 1,.int .i64 2,.int .i64 3,.int .i64 4,.int .i64 5,.int .i64 7,.int .i64 8,.int .i64 9]) (.int .i64 1)).run Tryz.prog w=.ok (.int .i64 2) w:=by kernel_rfl
theorem idx2 (w:World):(Instr.index 154 (.agg #[.int .i64 1,.int .i64 2,.int .i64 3,.int .i64 4,.int .i64 5,.int .i64 7,.int .i64 8,.int .i64 9]) (.int .i64 2)).run Tryz.prog w=.ok (.int .i64 3) w:=by kernel_rfl
theorem idx3 (w:World):(Instr.index 154 (.agg #[.int .i64 1,.int .i64 2,.int .i64 3,.int .i64 4,.int .i64 5,.int .i64 7,.int .i64 8,.int .i64 9]) (.int .i64 3)).run Tryz.prog w=.ok (.int .i64 4) w:=by kernel_rfl
theorem idx4 (w:World):(Instr.index 154 (.agg #[.int .i64 1,.int .i64 2,.int .i64 3,.int .i64 4,.int .i64 5,.int .i64 7,.int .i64 8,.int .i64 9]) (.int .i64 4)).run Tryz.prog w=.ok (.int .i64 5) w:=by kernel_rfl
theorem idx5 (w:World):(Instr.index 154 (.agg #[.int .i64 1,.int .i64 2,.int .i64 3,.int .i64 4,.int .i64 5,.int .i64 7,.int .i64 8,.int .i64 9]) (.int .i64 5)).run Tryz.prog w=.ok (.int .i64 7) w:=by kernel_rfl
theorem idx6 (w:World):(Instr.index 154 (.agg #[.int .i64 1,.int .i64 2,.int .i64 3,.int .i64 4,.int .i64 5,.int .i64 7,.int .i64 8,.int .i64 9]) (.int .i64 6)).run Tryz.prog w=.ok (.int .i64 8) w:=by kernel_rfl
theorem idx7 (w:World):(Instr.index 154 (.agg #[.int .i64 1,.int .i64 2,.int .i64 3,.int .i64 4,.int .i64 5,.int .i64 7,.int .i64 8,.int .i64 9]) (.int .i64 7)).run Tryz.prog w=.ok (.int .i64 9) w:=by kernel_rfl
theorem idx (k:Nat) (hk:k<8):∀w,(Instr.index 154 (.agg #[.int .i64 1,.int .i64 2,.int .i64 3,.int .i64 4,.int .i64 5,.int .i64 7,.int .i64 8,.int .i64 9]) (.int .i64 (k:Nat))).run Tryz.prog w=.ok (.int .i64 (tab.getD k 0)) w:=by
 have hk':k=0\/k=1\/k=2\/k=3\/k=4\/k=5\/k=6\/k=7:=by omega
 rcases hk' with rfl|rfl|rfl|rfl|rfl|rfl|rfl|rfl
 ·exact idx0
 ·exact idx1
 ·exact idx2
 ·exact idx3
 ·exact idx4
 ·exact idx5
 ·exact idx6
 ·exact idx7
theorem Bl7 {P:Program} {ops:Array Oper} {rest:List Oper} {o:Oper} {a:Act} {w:World} {Q:Exit->Act->World->Prop} (hgd:o.guard=none) {t:TypeId} {u j v:Value} (h:∀w,(Instr.index t u j).run P w=.ok v w) (x i:Operand) (ho:o.op=.index t x i) (hx:a.eval x=u) (hj:a.eval i=j)
  (hK:wpList P ops Q rest (a.put o.dst v) w):wpList P ops Q (o::rest) a w :=
 wpList_plain hgd fun _ hK'=>by
  unfold Oper.wp execOp
  simp only[ho,hx,hj,Sem.run_bind,h,Sem.run_pure,Result.andThen_ok]
  exact hK' _ _ hK
theorem shl_at:∀k:Nat,k<8->Bc4 (tab.getD k 0)=IntKind.u16.wrap (2 ^ k):=by
 have hall:∀k:Fin 8,Bc4 (tab.getD k.val 0)=IntKind.u16.wrap (2 ^ k.val):=by decide
 exact fun k hk=>hall ⟨k,hk⟩
theorem Bz2 (n:Int) (w:World) (T:Tab w) :
  Calls Tryz.prog 287 #[.int .i64 n] w fun e w'=>e=.returned (.int .u16 (Bc4 n))/\w=w':=by
 have c0:=T.cells 0 (by omega);have c1:=T.cells 1 (by omega);have c2:=T.cells 2 (by omega);have c3:=T.cells 3 (by omega)
 have c4:=T.cells 4 (by omega);have c5:=T.cells 5 (by omega);have c6:=T.cells 6 (by omega);have c7:=T.cells 7 (by omega)
 simp only[tab,List.getD_cons_zero,List.getD_cons_succ] at c0 c1 c2 c3 c4 c5 c6 c7
 clear T
 go_enter Tryz.func287,Tryz.ntmps287
 go_wp2
 clear c0 c1 c2 c3 c4 c5 c6 c7
 go_loop [6] (fun i=>∃k:Nat,k<=8/\i=.int .i64 k/\Hid (∀j,j<k->tab.getD j 0≠n)) (fun i=>8 - (intOf i).toNat)
 case atStart=>exact⟨0,by omega,rfl,J0 (fun j hj=>by omega)⟩
 case round =>
  obtain⟨k,hk,rfl,hs⟩:=hrel
  by_cases hlt:k<8
  ·have hix:=J0 (idx k hlt)
   have hE:=J0 (shl_at k hlt)
   have hN:=J0 (fun h=>not_next hs.out h)
   clear hs
   generalize tab.getD k 0=x at hix hE hN
   by_cases hx:x=n
   ·subst hx
    go_wp2_with (with_reducible show wpList _ _ _ (⟨some 9,.index _ _ _,_,_,_,_⟩::_) _ _;go_must (refine Bl7 rfl hix.out (.tmp 5) (.tmp 6) rfl rfl rfl ?_))
    go_ret
    exact⟨Ab7 hE.out.symm,rfl⟩
   ·have hx':(x == n)=false:=by simpa using hx
    go_wp2_with (with_reducible show wpList _ _ _ (⟨some 9,.index _ _ _,_,_,_,_⟩::_) _ _;go_must (refine Bl7 rfl hix.out (.tmp 5) (.tmp 6) rfl rfl rfl ?_))
    go_round
    case rel=>exact⟨k+1,by omega,by go_num,J0 (hN.out hx)⟩
    case measure=>simp[intOf];omega
  ·have hE:=J0 (flag_not (fun j hj=>hs.out j (by omega)))
   go_wp2
   go_ret
   exact⟨Ab7 hE.out.symm,rfl⟩
theorem ended_any (n:Int) (hn:n<=9223372036854775807) (w:World) (T:Tab w) :
  Calls Tryz.prog 286 #[.int .i64 n] w fun e w'=>e=.returned (.int .u16 (endF n))/\w=w':=by
 have h:=J0 (fun m=>Bz2 m w T)
 clear T
 by_cases h0:n=22
 ·subst h0
  go_enter Tryz.func286,Tryz.ntmps286
  go_wp2
  go_ret
  exact⟨rfl,rfl⟩
 have h0':(n == 22)=false:=by simpa using h0
 by_cases h1:22<n
 ·have hE:Hid (endF n=Bc4 (n - 20)):=by show _=_;unfold endF;rw[if_neg h0,if_pos h1]
  go_enter Tryz.func286,Tryz.ntmps286
  go_wp2_with ((go_at_call 287;refine(h.out _).mono ?_;rintro e w' ⟨rfl,rfl⟩))
  go_ret
  exact⟨Ab7 hE.out.symm,rfl⟩
 ·have hE:Hid (endF n=0):=by show _=_;unfold endF;rw[if_neg h0,if_neg h1]
  go_enter Tryz.func286,Tryz.ntmps286
  go_wp2
  go_ret
  exact⟨Ab7 hE.out.symm,rfl⟩
theorem Ap9 (n:Int) (h0:0<=n) (h1:n<=255) (w:World) :
  Calls Tryz.prog 285 #[.int .i64 n] w fun e w'=>e=.returned (.int .u32 (n+1))/\w=w':=by
 go_enter Tryz.func285,Tryz.ntmps285
 go_wp2
 go_ret
 exact⟨rfl,rfl⟩
theorem Bu0 (u b fo no c n:Int) (hu:0<=u/\u<=1000) (hb:0<=b/\b<=1000) (w:World) :
  Calls Tryz.prog 289 #[.agg #[.int .i64 u,.int .i64 b,.int .i64 fo,.int .i64 no],.int .u32 c,.int .i64 n] w fun e w'=>e=.returned (.int .u32 (Ai0 u b no c n))/\Below w.heap.size w w':=by
 have hbel:=J0 (Aa1 w (.cells #[.int .i64 u,.int .i64 b,.int .i64 fo,.int .i64 no] 297))
 by_cases h1:u<=n/\n<u+8
 ·have hE:Hid (Ai0 u b no c n=n - u+1):=by show _=_;unfold Ai0;rw[if_pos h1]
  obtain⟨h1,h1'⟩:=h1
  go_enter Tryz.func289,Tryz.ntmps289
  go_wp2_with ((go_at_call 285;refine(Ap9 _ (by omega) (by omega) _).mono ?_;rintro e w' ⟨rfl,rfl⟩))
  go_ret
  exact⟨Ab7 hE.out.symm,hbel.out⟩
 by_cases h2:b+8<=n/\n<b+16
 ·have hE:Hid (Ai0 u b no c n=n - b+1):=by show _=_;unfold Ai0;rw[if_neg h1,if_pos h2]
  obtain⟨h2,h2'⟩:=h2
  by_cases h3:u<=n
  all_goals
   go_enter Tryz.func289,Tryz.ntmps289
   go_wp2_with ((go_at_call 285;refine(Ap9 _ (by omega) (by omega) _).mono ?_;rintro e w' ⟨rfl,rfl⟩))
   go_ret
   exact⟨Ab7 hE.out.symm,hbel.out⟩
 by_cases h5:n=no
 ·have hE:Hid (Ai0 u b no c n=0):=by show _=_;unfold Ai0;rw[if_neg h1,if_neg h2,if_pos h5]
  subst h5
  by_cases h3:u<=n
  all_goals
   by_cases h4:b+8<=n
   all_goals
    go_enter Tryz.func289,Tryz.ntmps289
    go_wp2
    go_ret
    exact⟨Ab7 hE.out.symm,hbel.out⟩
 ·have hE:Hid (Ai0 u b no c n=c):=by show _=_;unfold Ai0;rw[if_neg h1,if_neg h2,if_neg h5]
  have h5':(n == no)=false:=by simpa using h5
  by_cases h3:u<=n
  all_goals
   by_cases h4:b+8<=n
   all_goals
    go_enter Tryz.func289,Tryz.ntmps289
    go_wp2
    go_ret
    exact⟨Ab7 hE.out.symm,hbel.out⟩
theorem foreground_any (w:World) :
  Calls Tryz.prog 288 #[] w fun e w'=>e=.returned (.agg #[.int .i64 30,.int .i64 82,.int .i64 38,.int .i64 39])/\Below w.heap.size w w':=by
 go_enter Tryz.func288,Tryz.ntmps288
 go_wp2
 exact bodyPost_ret (v:=.agg #[.int .i64 30,.int .i64 82,.int .i64 38,.int .i64 39]) (by simp[results,Tryz.results288,go_sem]) rfl ⟨rfl,Aa1 _ _⟩
theorem background_any (w:World) :
  Calls Tryz.prog 290 #[] w fun e w'=>e=.returned (.agg #[.int .i64 40,.int .i64 92,.int .i64 48,.int .i64 49])/\Below w.heap.size w w':=by
 go_enter Tryz.func290,Tryz.ntmps290
 go_wp2
 exact bodyPost_ret (v:=.agg #[.int .i64 40,.int .i64 92,.int .i64 48,.int .i64 49]) (by simp[results,Tryz.results290,go_sem]) rfl ⟨rfl,Aa1 _ _⟩
