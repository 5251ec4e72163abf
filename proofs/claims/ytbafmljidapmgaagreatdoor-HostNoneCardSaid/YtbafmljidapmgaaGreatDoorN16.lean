/- Part 16 of the proof that the card of HostNone holds. -/
import Derived.RegionTactic
import Derived.Test.YtbafmljidapmgaaGreatDoorN15
import Derived.Test.YtbafmljidapmgaaGreatDoorN05
import Derived.Maps.RangeWalk
import Derived.BigRegion
set_option maxHeartbeats 16000000
set_option maxRecDepth 100000
namespace Go.Proofs.YtbafmljidapmgaaGreatDoor.Mds
open Go RowKit Com
def Cp3:Nat->Nat
 |0=>435
 |1=>436
 |2=>437
 |3=>438
 |4=>439
 |5=>440
 |6=>434
 |7=>441
 |_=>0
def tab:List En:=[⟨false,4,435⟩,⟨false,20,436⟩,⟨true,1,437⟩,⟨true,6,438⟩,⟨true,7,439⟩,⟨true,25,440⟩,⟨true,47,434⟩,⟨true,1047,434⟩,⟨true,1049,434⟩,⟨true,2004,441⟩]
def ent:Nat->En
 |2=>⟨false,4,435⟩
 |4=>⟨false,20,436⟩
 |6=>⟨true,1,437⟩
 |8=>⟨true,6,438⟩
 |10=>⟨true,7,439⟩
 |12=>⟨true,25,440⟩
 |15=>⟨true,47,434⟩
 |18=>⟨true,1047,434⟩
 |21=>⟨true,1049,434⟩
 |23=>⟨true,2004,441⟩
 |_=>⟨false,0,0⟩
def all:List Nat:=[2,4,6,8,10,12,15,18,21,23]
def tail (j:Nat):Bool:=j == 24 || j == 25
theorem tab_ent (e:En):(∃ i∈all,e=ent i)↔e∈tab:=by
 have h:tab=all.map ent:=rfl
 rw [h,List.mem_map]
 exact ⟨fun ⟨i,hi,he⟩=>⟨i,hi,he.symm⟩,fun ⟨i,hi,he⟩=>⟨i,hi,he.symm⟩⟩
theorem fineL (l:List En) (h:(l.all fun e=>(Lit.int .i64 e.n).wf)=true):Fine l:=fun e he=>List.all_eq_true.1 h e he
theorem fine_tab:Fine tab:=fineL _ (by decide)
theorem tab_at {p:Bool} {n:Int} {e:En} (he:e∈tab) (hp:e.p=p) (hn:e.n=n):spot p n<8/\e.f=Cp3 (spot p n):=by
 subst hp
 subst hn
 simp only [tab,List.mem_cons,List.not_mem_nil,or_false] at he
 rcases he with rfl|rfl|rfl|rfl|rfl|rfl|rfl|rfl|rfl|rfl
 all_goals exact ⟨by decide,rfl⟩
theorem spot_tab {p:Bool} {n:Int} (h:∀ e∈tab,¬ (e.p=p/\e.n=n)):spot p n=8:=by
 simp only [tab,List.mem_cons,List.not_mem_nil,or_false,forall_eq_or_imp,forall_eq] at h
 obtain ⟨h0,h1,h2,h3,h4,h5,h6,h7,h8,h9⟩:=h
 cases p
 all_goals
  unfold spot
  simp at *
 ·rw [if_neg (by omega),if_neg (by omega)]
 ·rw [if_neg (by omega),if_neg (by omega),if_neg (by omega),if_neg (by omega),if_neg (by omega),if_neg (by omega),if_neg (by omega),if_neg (by omega)]
def Bo0 (w:World) (b:Nat):Prop:=∃ l,Mp w b l/\∀ e,e∈l↔e∈tab
theorem Bi1 {w:World} {b:Nat} (h:Bo0 w b) (p:Bool) {n:Int} (hw:(Lit.int .i64 n).wf=true) :
  (spot p n=8/\(Instr.lookup 398 (.map (some b)) (kv p n) true).run Tryz.prog w=.ok (.tuple #[.nilFunc,.bool false]) w) \/
  (spot p n<8/\(Instr.lookup 398 (.map (some b)) (kv p n) true).run Tryz.prog w=.ok (.tuple #[.func (.func (Cp3 (spot p n))) #[] #[],.bool true]) w):=by
 obtain ⟨l,hm,hl⟩:=h
 rcases Bm5 hm (fun e he=>fine_tab e ((hl e).1 he)) p hw with ⟨h1,h2⟩|⟨e,he,hp,hn,hr⟩
 ·exact .inl ⟨spot_tab fun e he=>h2 e ((hl e).2 he),h1⟩
 ·obtain ⟨q1,q2⟩:=tab_at ((hl e).1 he) hp hn
  rw [q2] at hr
  exact .inr ⟨q1,hr⟩
theorem Af9 (w:World) :
  Calls Tryz.prog 432 #[] w fun e w'=>∃ b,e=.returned (.map (some b))/\Bo0 w' b/\Below w.heap.size w w':=by
 go_enter Tryz.func432,Tryz.ntmps432
 go_wp2
 refine wp_region_any rfl ?_
 refine wpAny_take (i:=1) (oi:=⟨some 3,_,_,_,_,_⟩) (v:=.agg #[.bool false,.int .i64 4]) rfl (by kernel_rfl) (by kernel_rfl) (by kernel_rfl) (fun _ _ _ h=>h) (.inl ⟨by rfl,by intro w;go_simp⟩) ?_
 refine wpAny_take (i:=3) (oi:=⟨some 4,_,_,_,_,_⟩) (v:=.agg #[.bool false,.int .i64 20]) rfl (by kernel_rfl) (by kernel_rfl) (by kernel_rfl) (fun _ _ _ h=>h) (.inl ⟨by rfl,by intro w;go_simp⟩) ?_
 refine wpAny_take (i:=5) (oi:=⟨some 5,_,_,_,_,_⟩) (v:=.agg #[.bool true,.int .i64 1]) rfl (by kernel_rfl) (by kernel_rfl) (by kernel_rfl) (fun _ _ _ h=>h) (.inl ⟨by rfl,by intro w;go_simp⟩) ?_
 refine wpAny_take (i:=7) (oi:=⟨some 6,_,_,_,_,_⟩) (v:=.agg #[.bool true,.int .i64 6]) rfl (by kernel_rfl) (by kernel_rfl) (by kernel_rfl) (fun _ _ _ h=>h) (.inl ⟨by rfl,by intro w;go_simp⟩) ?_
 refine wpAny_take (i:=9) (oi:=⟨some 7,_,_,_,_,_⟩) (v:=.agg #[.bool true,.int .i64 7]) rfl (by kernel_rfl) (by kernel_rfl) (by kernel_rfl) (fun _ _ _ h=>h) (.inl ⟨by rfl,by intro w;go_simp⟩) ?_
 refine wpAny_take (i:=11) (oi:=⟨some 8,_,_,_,_,_⟩) (v:=.agg #[.bool true,.int .i64 25]) rfl (by kernel_rfl) (by kernel_rfl) (by kernel_rfl) (fun _ _ _ h=>h) (.inl ⟨by rfl,by intro w;go_simp⟩) ?_
 refine wpAny_take (i:=13) (oi:=⟨some 9,_,_,_,_,_⟩) (v:=.agg #[.bool true,.int .i64 47]) rfl (by kernel_rfl) (by kernel_rfl) (by kernel_rfl) (fun _ _ _ h=>h) (.inl ⟨by rfl,by intro w;go_simp⟩) ?_
 refine wpAny_take (i:=14) (oi:=⟨some 10,_,_,_,_,_⟩) (v:=.func (.func 434) #[] #[]) rfl (by kernel_rfl) (by kernel_rfl) (by kernel_rfl) (fun _ _ _ h=>h) (.inl ⟨by rfl,by intro w;go_simp⟩) ?_
 refine wpAny_take (i:=16) (oi:=⟨some 11,_,_,_,_,_⟩) (v:=.agg #[.bool true,.int .i64 1047]) rfl (by kernel_rfl) (by kernel_rfl) (by kernel_rfl) (fun _ _ _ h=>h) (.inl ⟨by rfl,by intro w;go_simp⟩) ?_
 refine wpAny_take (i:=17) (oi:=⟨some 12,_,_,_,_,_⟩) (v:=.func (.func 434) #[] #[]) rfl (by kernel_rfl) (by kernel_rfl) (by kernel_rfl) (fun _ _ _ h=>h) (.inl ⟨by rfl,by intro w;go_simp⟩) ?_
 refine wpAny_take (i:=19) (oi:=⟨some 13,_,_,_,_,_⟩) (v:=.agg #[.bool true,.int .i64 1049]) rfl (by kernel_rfl) (by kernel_rfl) (by kernel_rfl) (fun _ _ _ h=>h) (.inl ⟨by rfl,by intro w;go_simp⟩) ?_
 refine wpAny_take (i:=20) (oi:=⟨some 14,_,_,_,_,_⟩) (v:=.func (.func 434) #[] #[]) rfl (by kernel_rfl) (by kernel_rfl) (by kernel_rfl) (fun _ _ _ h=>h) (.inl ⟨by rfl,by intro w;go_simp⟩) ?_
 refine wpAny_take (i:=22) (oi:=⟨some 15,_,_,_,_,_⟩) (v:=.agg #[.bool true,.int .i64 2004]) rfl (by kernel_rfl) (by kernel_rfl) (by kernel_rfl) (fun _ _ _ h=>h) (.inl ⟨by rfl,by intro w;go_simp⟩) ?_
 refine wpAny_all (rs:=[0]) (by kernel_rfl) (by simp) ?_
 intro i hi
 obtain rfl:=List.mem_singleton.1 hi
 refine wpOp_makeMap (o:=⟨some 2,_,_,_,_,_⟩) rfl rfl rfl ?_
 refine inserts ent all tail ?_ ?_ (of_decide_eq_true (by kernel_rfl)) (of_decide_eq_true (by kernel_rfl)) (w.drew.alloc (.map #[] 0)) 2 ?_ 10 all [] _ _ rfl (of_decide_eq_true (by kernel_rfl)) (fun _ h=>h) (by kernel_rfl) (of_decide_eq_true (by kernel_rfl)) (Mp.made w.drew) ?_ (Only.refl _ _)
 ·intro i hi
  simp only [all,List.mem_cons,List.not_mem_nil,or_false] at hi
  rcases hi with rfl|rfl|rfl|rfl|rfl|rfl|rfl|rfl|rfl|rfl
  all_goals exact ⟨_,rfl,rfl,rfl,by kernel_rfl,_,_,_,rfl,rfl,rfl,rfl⟩
 ·intro j hj
  simp only [tail,Bool.or_eq_true,beq_iff_eq] at hj
  rcases hj with rfl|rfl
  all_goals exact ⟨_,rfl,of_decide_eq_true (by kernel_rfl)⟩
 ·intro listed l w1 hs hl hm hmem ho
  have hL:=listed_eq hs hl
  subst hL
  have hb:Below w.heap.size w w1:=((Aa5 (Below.refl w.heap.size w) 1).trans (Aa1 w.drew _)).trans (ho.below (by simp) (by simp))
  have hP:Bo0 w1 w.drew.heap.size:=⟨l,hm,fun e=>(hmem e).trans (tab_ent e)⟩
  refine wpAny_take (i:=24) (oi:=⟨some 16,_,_,_,_,_⟩) (v:=.map (some w.drew.heap.size)) rfl (by kernel_rfl) (by kernel_rfl) (by kernel_rfl) (fun _ _ _ h=>h) (.inl ⟨by rfl,by intro w;go_simp⟩) ?_
  refine wpAny_take (i:=25) (oi:=⟨some 0,_,_,_,_,_⟩) (v:=.map (some w.drew.heap.size)) rfl (by kernel_rfl) (by kernel_rfl) (by kernel_rfl) (fun _ _ _ h=>h) (.inl ⟨by rfl,by intro w;go_simp⟩) ?_
  refine wpAny_done (by kernel_rfl) ?_ _
  dsimp only [Act.put]
  go_wp2
  go_ret
  exact ⟨_,rfl,hP,hb⟩
 ·intro e
  constructor
  ·intro h
   simp at h
  ·rintro ⟨i,hi,h,_⟩
   exact absurd hi h
def mA (m:Md):Array Value:=#[.bool m.a0,.bool m.a1,.bool m.a2,.bool m.a3,.bool m.a4,.bool m.a5,.bool m.a6,.bool m.a7]
theorem Ao3 (m:Md):(mA m).size=8:=rfl
theorem As5 (m:Md):(mA m).all (·.oneCell')=true:=by simp [mA,Value.oneCell']
theorem Aj6 (m:Md):(Tryz.prog.info? 63).map (·.size)=some (mA m).size:=by
 rw [Ao3]
 kernel_rfl
theorem Ba5 (m:Md) {k:Nat} (hk:k<8) (b:Bool):((mA m).toList.take k++[Value.bool b]++(mA m).toList.drop (k+1)).toArray=mA (m.set k b):=by
 rcases small (Nat.le_of_lt hk) with rfl|rfl|rfl|rfl|rfl|rfl|rfl|rfl|rfl
 all_goals first|rfl|omega
theorem Al6:(Tryz.prog.info? 4).map (·.size)=some 1:=by kernel_rfl
theorem blk {w:World} {g:Nat} {t:TypeId} {cs:Array Value} (h:Block w g t cs):w.heap[g]?=some (.cells cs t (0,0)):=h
def MB (w:World) (g:Nat) (m:Md):Prop:=Block w g 63 (mA m)
theorem MB.of {w:World} {g:Nat} {m:Md} (h:Block w g 63 (mA m)):MB w g m:=h
theorem MB.blk {w:World} {g:Nat} {m:Md} (h:MB w g m):Block w g 63 (mA m):=h
theorem MB.made (w:World) (m:Md):MB (w.alloc (.cells (mA m) 63)) w.heap.size m:=Block.made w _ _
theorem MB.zero (w:World):MB (w.alloc (.cells #[.bool false,.bool false,.bool false,.bool false,.bool false,.bool false,.bool false,.bool false] 63)) w.heap.size none0:=Block.made w _ _
theorem MB.only {L:List Nat} {w w':World} {g:Nat} {m:Md} (h:MB w g m) (ho:Only L w w') (hg:g∉L):MB w' g m:=Block.only h ho hg
theorem MB.below {w w':World} {g:Nat} {m:Md} (h:MB w g m) (hb:Below w.heap.size w w'):MB w' g m:=h.only (Only.of_below hb []) (by simp)
theorem MB.alloc {w:World} {g:Nat} {m:Md} (h:MB w g m) (o:Obj):MB (w.alloc o) g m:=Block.alloc h o
theorem Bm4 {P:Program} {w:World} {g:Nat} {t ty:TypeId} {cs:Array Value} {d:TypeDesc} (h:Block w g t cs) (hu:P.underlying ty=some d) (hd:(match d with|.struct _|.array _ _=>true|_=>false)=true) (hi:(P.info? ty).map (·.size)=some cs.size):(loadVar ty ⟨g,0,none⟩).run P w=.ok (.agg cs) w :=
 Com.run_loadVar_at w ty ⟨g,0,none⟩ cs.toList _ (fun j u hj=>by rw [Addr.add_lit,Nat.zero_add];exact h.cell j (by simpa using hj)) hu hd (by simpa using hi)
theorem Ai7 {P:Program} {fn:Func} {p q:Tmp} {ty t:TypeId} {d:TypeDesc} (h:fn.results=#[.cell p ty,.tmp q]) (tmps:Array Value) (w:World) (g:Nat) (cs:Array Value)
  (hp:tmps.getD p undef=.pointer (some ⟨g,0,none⟩)) (hg:Block w g t cs) (hu:P.underlying ty=some d) (hd:(match d with|.struct _|.array _ _=>true|_=>false)=true) (hi:(P.info? ty).map (·.size)=some cs.size) :
  (results fn tmps).run P w=.ok (.tuple #[.agg cs,tmps.getD q undef]) w:=by
 have hp':tmps[p]?.getD undef=.pointer (some ⟨g,0,none⟩):=by simpa using hp
 simp [results,h,hp',asAddr,Bm4 hg hu hd hi]
theorem end_m {fn:Func} {p:Tmp} (h:fn.results=#[.cell p 63]) {a:Act} {w1:World} {g:Nat} {m:Md} {post:Ending->World->Prop} (hp:a.tmps.getD p undef=.pointer (some ⟨g,0,none⟩)) (hd:a.defers=[])
  (hb:MB w1 g m) (hpost:post (.returned (.agg (mA m))) w1):bodyPost Tryz.prog fn post .ret a w1 :=
 bodyPost_ret (results_cell_row h _ _ _ _ _ _ _ hp (blk hb.blk) Tryz.underlying63 rfl (Aj6 m)) hd hpost
theorem Au9 {fn:Func} {p q:Tmp} (h:fn.results=#[.cell p 63,.tmp q]) {a:Act} {w1:World} {g:Nat} {m:Md} {v:Value} {post:Ending->World->Prop} (hp:a.tmps.getD p undef=.pointer (some ⟨g,0,none⟩)) (hq:a.tmps.getD q undef=v) (hd:a.defers=[])
  (hb:MB w1 g m) (hpost:post (.returned (.tuple #[.agg (mA m),v])) w1):bodyPost Tryz.prog fn post .ret a w1:=by
 subst hq
 exact bodyPost_ret (Ai7 h _ _ _ _ hp hb.blk Tryz.underlying63 rfl (Aj6 m)) hd hpost
def Bh0 (m:Md) (p:Bool) (n:Int) (on:Bool) (w:World) (e:Ending) (w':World):Prop:=e=.returned (.tuple #[.agg (mA (m.put p n on)),.bool (known p n)])/\Below w.heap.size w w'
theorem look_no {w:World} {b:Nat} (h:Bo0 w b) {p:Bool} {n:Int} (hw:(Lit.int .i64 n).wf=true) (hs:spot p n=8) :
  (Instr.lookup 398 (.map (some b)) (.agg #[.bool p,.int .i64 n]) true).run Tryz.prog w=.ok (.tuple #[.nilFunc,.bool false]) w:=by
 rcases Bi1 h p hw with ⟨_,h2⟩|⟨h1,_⟩
 ·exact h2
 ·omega
theorem Al7 {w:World} {b:Nat} (h:Bo0 w b) {p:Bool} {n:Int} (hw:(Lit.int .i64 n).wf=true) {k:Nat} (hs:spot p n=k) (hk:k<8) {f:Nat} (hf:Cp3 k=f) :
  (Instr.lookup 398 (.map (some b)) (.agg #[.bool p,.int .i64 n]) true).run Tryz.prog w=.ok (.tuple #[.func (.func f) #[] #[],.bool true]) w:=by
 rcases Bi1 h p hw with ⟨h1,_⟩|⟨_,h2⟩
 ·omega
 ·rw [hs,hf] at h2
  exact h2
theorem Ah6 (w:World) (m:Md):Below w.heap.size w ((w.alloc (.cells (mA m) 63)).alloc (.cells #[.bool false,.bool false,.bool false,.bool false,.bool false,.bool false,.bool false,.bool false] 63)):=Aa0 (Aa1 w _) (Aa1 _ _)
theorem Bn6 (w:World) (m:Md):MB ((w.alloc (.cells (mA m) 63)).alloc (.cells #[.bool false,.bool false,.bool false,.bool false,.bool false,.bool false,.bool false,.bool false] 63)) w.heap.size m:=(MB.made w m).alloc _
theorem Bn7 (w:World) (m:Md):MB ((w.alloc (.cells (mA m) 63)).alloc (.cells #[.bool false,.bool false,.bool false,.bool false,.bool false,.bool false,.bool false,.bool false] 63)) (w.heap.size+1) none0:=by
 have:=MB.zero (w.alloc (.cells (mA m) 63))
 simpa using this
theorem Cj1 (m:Md) (p:Bool) (n:Int) (hw:(Lit.int .i64 n).wf=true) (on:Bool) (hs:spot p n=8) (w:World) :
  Calls Tryz.prog 417 #[.agg (mA m),.bool p,.int .i64 n,.bool on] w (Bh0 m p n on w):=by
 have hE:Hid (m.put p n on=m/\known p n=false):=⟨by unfold Md.put;rw [hs];rfl,by unfold known;rw [hs];rfl⟩
 have hb0:=J0 (Ah6 w m)
 have hm0:=J0 (Bn6 w m)
 have hr0:=J0 (Bn7 w m)
 replace hs:=J0 hs
 have hinf:=J0 (Aj6 m)
 go_enter Tryz.func417,Tryz.ntmps417
 go_wp2_with (first
  |(go_at_call 432;(with_reducible refine (Af9 _).mono ?_);rintro e w1 ⟨b,rfl,hP,hb1⟩;have hlk:=look_no hP hw hs.out;have hb2:=J0 (Aa0 hb0.out hb1);have hm1:=J0 (hm0.out.below hb1);have hr1:=J0 (hr0.out.below hb1);clear hb1 hb0 hm0 hr0)
  |(with_reducible show wpList _ _ _ (⟨some 25,.load _ (.tmp 4),_,_,_,_⟩::_) _ _;go_must (refine wpList_load_row rfl _ (.tmp 4) rfl w.heap.size rfl _ (mA m) (0,0) _ (blk hm1.out.blk) Tryz.underlying63 rfl hinf.out ?_))
  |(with_reducible show wpList _ _ _ (⟨none,.store _ (.tmp 8) _,_,_,_,_⟩::_) _ _;go_must (refine Aa4 rfl _ (.tmp 8) (.tmp 25) rfl hr1.out.blk (mA m) rfl rfl hinf.out rfl (As5 m) ?_);intro w2 hd2 ho2))
 exact Au9 rfl rfl rfl rfl hd2 ⟨by rw [hE.out.1,hE.out.2];rfl,hb2.out.trans (ho2.below hb2.out.size (by simp))⟩
theorem clos_0 (b:Nat) (w:World):Calls Tryz.prog 435 #[.pointer (some ⟨b,0,none⟩)] w fun e w'=>e=.returned (.pointer (some ⟨b,0,none⟩))/\w=w':=by
 go_enter Tryz.func435,Tryz.ntmps435
 go_wp2
 go_ret
 exact ⟨rfl,rfl⟩
theorem put_0 (m:Md) (p:Bool) (n:Int) (hw:(Lit.int .i64 n).wf=true) (on:Bool) (hs:spot p n=0) (w:World) :
  Calls Tryz.prog 417 #[.agg (mA m),.bool p,.int .i64 n,.bool on] w (Bh0 m p n on w):=by
 have hE:Hid (m.put p n on=m.set 0 on/\known p n=true):=⟨by unfold Md.put;rw [hs],by unfold known;rw [hs];rfl⟩
 have hb0:=J0 (Ah6 w m)
 have hm0:=J0 (Bn6 w m)
 have hr0:=J0 (Bn7 w m)
 replace hs:=J0 hs
 have hinf:=J0 (Aj6 (m.set 0 on))
 have hset:=J0 (Ba5 m (k:=0) (by omega) on)
 go_enter Tryz.func417,Tryz.ntmps417
 go_wp2_with (first
  |(go_at_call 432;(with_reducible refine (Af9 _).mono ?_);rintro e w1 ⟨b,rfl,hP,hb1⟩;have hlk:=Al7 hP hw hs.out (by omega) (f:=435) rfl;have hb2:=J0 (Aa0 hb0.out hb1);have hm1:=J0 (hm0.out.below hb1);have hr1:=J0 (hr0.out.below hb1);clear hb1 hb0 hm0 hr0)
  |(with_reducible show wpList _ _ _ (⟨none,.store _ (.tmp 24) _,_,_,_,_⟩::_) _ _;go_must (refine Aa6 rfl _ (.tmp 24) (.tmp 23) rfl hm1.out.blk (.bool on) rfl rfl (by rw [Ao3];omega) Al6 rfl ?_);intro w3 hd3 ho3;go_must (rw [hset.out] at hd3);go_must (replace hd3:=J0 (MB.of hd3);have hr3:=J0 (hr1.out.only ho3 (by simp));have hb3:=J0 (hb2.out.trans (ho3.below hb2.out.size (by simp)));clear hb2 hr1 hm1 ho3))
  |(with_reducible show wpList _ _ _ (⟨some 25,.load _ (.tmp 4),_,_,_,_⟩::_) _ _;go_must (refine wpList_load_row rfl _ (.tmp 4) rfl w.heap.size rfl _ (mA (m.set 0 on)) (0,0) _ (blk hd3.out.blk) Tryz.underlying63 rfl hinf.out ?_))
  |(with_reducible show wpList _ _ _ (⟨none,.store _ (.tmp 8) _,_,_,_,_⟩::_) _ _;go_must (refine Aa4 rfl _ (.tmp 8) (.tmp 25) rfl hr3.out.blk (mA (m.set 0 on)) rfl rfl hinf.out rfl (As5 _) ?_);intro w2 hd2 ho2)
  |(go_at_call 435;refine (clos_0 _ _).mono ?_;rintro e w' ⟨rfl,rfl⟩))
 exact Au9 rfl rfl rfl rfl hd2 ⟨by rw [hE.out.1,hE.out.2];rfl,hb3.out.trans (ho2.below hb3.out.size (by simp))⟩
theorem clos_1 (b:Nat) (w:World):Calls Tryz.prog 436 #[.pointer (some ⟨b,0,none⟩)] w fun e w'=>e=.returned (.pointer (some ⟨b,1,none⟩))/\w=w':=by
 go_enter Tryz.func436,Tryz.ntmps436
 go_wp2
 go_ret
 exact ⟨rfl,rfl⟩
theorem put_1 (m:Md) (p:Bool) (n:Int) (hw:(Lit.int .i64 n).wf=true) (on:Bool) (hs:spot p n=1) (w:World) :
  Calls Tryz.prog 417 #[.agg (mA m),.bool p,.int .i64 n,.bool on] w (Bh0 m p n on w):=by
 have hE:Hid (m.put p n on=m.set 1 on/\known p n=true):=⟨by unfold Md.put;rw [hs],by unfold known;rw [hs];rfl⟩
 have hb0:=J0 (Ah6 w m)
 have hm0:=J0 (Bn6 w m)
 have hr0:=J0 (Bn7 w m)
 replace hs:=J0 hs
 have hinf:=J0 (Aj6 (m.set 1 on))
 have hset:=J0 (Ba5 m (k:=1) (by omega) on)
 go_enter Tryz.func417,Tryz.ntmps417
 go_wp2_with (first
  |(go_at_call 432;(with_reducible refine (Af9 _).mono ?_);rintro e w1 ⟨b,rfl,hP,hb1⟩;have hlk:=Al7 hP hw hs.out (by omega) (f:=436) rfl;have hb2:=J0 (Aa0 hb0.out hb1);have hm1:=J0 (hm0.out.below hb1);have hr1:=J0 (hr0.out.below hb1);clear hb1 hb0 hm0 hr0)
  |(with_reducible show wpList _ _ _ (⟨none,.store _ (.tmp 24) _,_,_,_,_⟩::_) _ _;go_must (refine Aa6 rfl _ (.tmp 24) (.tmp 23) rfl hm1.out.blk (.bool on) rfl rfl (by rw [Ao3];omega) Al6 rfl ?_);intro w3 hd3 ho3;go_must (rw [hset.out] at hd3);go_must (replace hd3:=J0 (MB.of hd3);have hr3:=J0 (hr1.out.only ho3 (by simp));have hb3:=J0 (hb2.out.trans (ho3.below hb2.out.size (by simp)));clear hb2 hr1 hm1 ho3))
  |(with_reducible show wpList _ _ _ (⟨some 25,.load _ (.tmp 4),_,_,_,_⟩::_) _ _;go_must (refine wpList_load_row rfl _ (.tmp 4) rfl w.heap.size rfl _ (mA (m.set 1 on)) (0,0) _ (blk hd3.out.blk) Tryz.underlying63 rfl hinf.out ?_))
  |(with_reducible show wpList _ _ _ (⟨none,.store _ (.tmp 8) _,_,_,_,_⟩::_) _ _;go_must (refine Aa4 rfl _ (.tmp 8) (.tmp 25) rfl hr3.out.blk (mA (m.set 1 on)) rfl rfl hinf.out rfl (As5 _) ?_);intro w2 hd2 ho2)
  |(go_at_call 436;refine (clos_1 _ _).mono ?_;rintro e w' ⟨rfl,rfl⟩))
 exact Au9 rfl rfl rfl rfl hd2 ⟨by rw [hE.out.1,hE.out.2];rfl,hb3.out.trans (ho2.below hb3.out.size (by simp))⟩
theorem clos_2 (b:Nat) (w:World):Calls Tryz.prog 437 #[.pointer (some ⟨b,0,none⟩)] w fun e w'=>e=.returned (.pointer (some ⟨b,2,none⟩))/\w=w':=by
 go_enter Tryz.func437,Tryz.ntmps437
 go_wp2
 go_ret
 exact ⟨rfl,rfl⟩
theorem put_2 (m:Md) (p:Bool) (n:Int) (hw:(Lit.int .i64 n).wf=true) (on:Bool) (hs:spot p n=2) (w:World) :
  Calls Tryz.prog 417 #[.agg (mA m),.bool p,.int .i64 n,.bool on] w (Bh0 m p n on w):=by
 have hE:Hid (m.put p n on=m.set 2 on/\known p n=true):=⟨by unfold Md.put;rw [hs],by unfold known;rw [hs];rfl⟩
 have hb0:=J0 (Ah6 w m)
 have hm0:=J0 (Bn6 w m)
 have hr0:=J0 (Bn7 w m)
 replace hs:=J0 hs
 have hinf:=J0 (Aj6 (m.set 2 on))
 have hset:=J0 (Ba5 m (k:=2) (by omega) on)
 go_enter Tryz.func417,Tryz.ntmps417
 go_wp2_with (first
  |(go_at_call 432;(with_reducible refine (Af9 _).mono ?_);rintro e w1 ⟨b,rfl,hP,hb1⟩;have hlk:=Al7 hP hw hs.out (by omega) (f:=437) rfl;have hb2:=J0 (Aa0 hb0.out hb1);have hm1:=J0 (hm0.out.below hb1);have hr1:=J0 (hr0.out.below hb1);clear hb1 hb0 hm0 hr0)
  |(with_reducible show wpList _ _ _ (⟨none,.store _ (.tmp 24) _,_,_,_,_⟩::_) _ _;go_must (refine Aa6 rfl _ (.tmp 24) (.tmp 23) rfl hm1.out.blk (.bool on) rfl rfl (by rw [Ao3];omega) Al6 rfl ?_);intro w3 hd3 ho3;go_must (rw [hset.out] at hd3);go_must (replace hd3:=J0 (MB.of hd3);have hr3:=J0 (hr1.out.only ho3 (by simp));have hb3:=J0 (hb2.out.trans (ho3.below hb2.out.size (by simp)));clear hb2 hr1 hm1 ho3))
  |(with_reducible show wpList _ _ _ (⟨some 25,.load _ (.tmp 4),_,_,_,_⟩::_) _ _;go_must (refine wpList_load_row rfl _ (.tmp 4) rfl w.heap.size rfl _ (mA (m.set 2 on)) (0,0) _ (blk hd3.out.blk) Tryz.underlying63 rfl hinf.out ?_))
  |(with_reducible show wpList _ _ _ (⟨none,.store _ (.tmp 8) _,_,_,_,_⟩::_) _ _;go_must (refine Aa4 rfl _ (.tmp 8) (.tmp 25) rfl hr3.out.blk (mA (m.set 2 on)) rfl rfl hinf.out rfl (As5 _) ?_);intro w2 hd2 ho2)
  |(go_at_call 437;refine (clos_2 _ _).mono ?_;rintro e w' ⟨rfl,rfl⟩))
 exact Au9 rfl rfl rfl rfl hd2 ⟨by rw [hE.out.1,hE.out.2];rfl,hb3.out.trans (ho2.below hb3.out.size (by simp))⟩
theorem clos_3 (b:Nat) (w:World):Calls Tryz.prog 438 #[.pointer (some ⟨b,0,none⟩)] w fun e w'=>e=.returned (.pointer (some ⟨b,3,none⟩))/\w=w':=by
 go_enter Tryz.func438,Tryz.ntmps438
 go_wp2
 go_ret
 exact ⟨rfl,rfl⟩
theorem put_3 (m:Md) (p:Bool) (n:Int) (hw:(Lit.int .i64 n).wf=true) (on:Bool) (hs:spot p n=3) (w:World) :
  Calls Tryz.prog 417 #[.agg (mA m),.bool p,.int .i64 n,.bool on] w (Bh0 m p n on w):=by
 have hE:Hid (m.put p n on=m.set 3 on/\known p n=true):=⟨by unfold Md.put;rw [hs],by unfold known;rw [hs];rfl⟩
 have hb0:=J0 (Ah6 w m)
 have hm0:=J0 (Bn6 w m)
 have hr0:=J0 (Bn7 w m)
 replace hs:=J0 hs
 have hinf:=J0 (Aj6 (m.set 3 on))
 have hset:=J0 (Ba5 m (k:=3) (by omega) on)
 go_enter Tryz.func417,Tryz.ntmps417
 go_wp2_with (first
  |(go_at_call 432;(with_reducible refine (Af9 _).mono ?_);rintro e w1 ⟨b,rfl,hP,hb1⟩;have hlk:=Al7 hP hw hs.out (by omega) (f:=438) rfl;have hb2:=J0 (Aa0 hb0.out hb1);have hm1:=J0 (hm0.out.below hb1);have hr1:=J0 (hr0.out.below hb1);clear hb1 hb0 hm0 hr0)
  |(with_reducible show wpList _ _ _ (⟨none,.store _ (.tmp 24) _,_,_,_,_⟩::_) _ _;go_must (refine Aa6 rfl _ (.tmp 24) (.tmp 23) rfl hm1.out.blk (.bool on) rfl rfl (by rw [Ao3];omega) Al6 rfl ?_);intro w3 hd3 ho3;go_must (rw [hset.out] at hd3);go_must (replace hd3:=J0 (MB.of hd3);have hr3:=J0 (hr1.out.only ho3 (by simp));have hb3:=J0 (hb2.out.trans (ho3.below hb2.out.size (by simp)));clear hb2 hr1 hm1 ho3))
  |(with_reducible show wpList _ _ _ (⟨some 25,.load _ (.tmp 4),_,_,_,_⟩::_) _ _;go_must (refine wpList_load_row rfl _ (.tmp 4) rfl w.heap.size rfl _ (mA (m.set 3 on)) (0,0) _ (blk hd3.out.blk) Tryz.underlying63 rfl hinf.out ?_))
  |(with_reducible show wpList _ _ _ (⟨none,.store _ (.tmp 8) _,_,_,_,_⟩::_) _ _;go_must (refine Aa4 rfl _ (.tmp 8) (.tmp 25) rfl hr3.out.blk (mA (m.set 3 on)) rfl rfl hinf.out rfl (As5 _) ?_);intro w2 hd2 ho2)
  |(go_at_call 438;refine (clos_3 _ _).mono ?_;rintro e w' ⟨rfl,rfl⟩))
 exact Au9 rfl rfl rfl rfl hd2 ⟨by rw [hE.out.1,hE.out.2];rfl,hb3.out.trans (ho2.below hb3.out.size (by simp))⟩
theorem clos_4 (b:Nat) (w:World):Calls Tryz.prog 439 #[.pointer (some ⟨b,0,none⟩)] w fun e w'=>e=.returned (.pointer (some ⟨b,4,none⟩))/\w=w':=by
 go_enter Tryz.func439,Tryz.ntmps439
 go_wp2
 go_ret
 exact ⟨rfl,rfl⟩
theorem put_4 (m:Md) (p:Bool) (n:Int) (hw:(Lit.int .i64 n).wf=true) (on:Bool) (hs:spot p n=4) (w:World) :
  Calls Tryz.prog 417 #[.agg (mA m),.bool p,.int .i64 n,.bool on] w (Bh0 m p n on w):=by
 have hE:Hid (m.put p n on=m.set 4 on/\known p n=true):=⟨by unfold Md.put;rw [hs],by unfold known;rw [hs];rfl⟩
 have hb0:=J0 (Ah6 w m)
 have hm0:=J0 (Bn6 w m)
 have hr0:=J0 (Bn7 w m)
 replace hs:=J0 hs
 have hinf:=J0 (Aj6 (m.set 4 on))
 have hset:=J0 (Ba5 m (k:=4) (by omega) on)
 go_enter Tryz.func417,Tryz.ntmps417
 go_wp2_with (first
  |(go_at_call 432;(with_reducible refine (Af9 _).mono ?_);rintro e w1 ⟨b,rfl,hP,hb1⟩;have hlk:=Al7 hP hw hs.out (by omega) (f:=439) rfl;have hb2:=J0 (Aa0 hb0.out hb1);have hm1:=J0 (hm0.out.below hb1);have hr1:=J0 (hr0.out.below hb1);clear hb1 hb0 hm0 hr0)
  |(with_reducible show wpList _ _ _ (⟨none,.store _ (.tmp 24) _,_,_,_,_⟩::_) _ _;go_must (refine Aa6 rfl _ (.tmp 24) (.tmp 23) rfl hm1.out.blk (.bool on) rfl rfl (by rw [Ao3];omega) Al6 rfl ?_);intro w3 hd3 ho3;go_must (rw [hset.out] at hd3);go_must (replace hd3:=J0 (MB.of hd3);have hr3:=J0 (hr1.out.only ho3 (by simp));have hb3:=J0 (hb2.out.trans (ho3.below hb2.out.size (by simp)));clear hb2 hr1 hm1 ho3))
  |(with_reducible show wpList _ _ _ (⟨some 25,.load _ (.tmp 4),_,_,_,_⟩::_) _ _;go_must (refine wpList_load_row rfl _ (.tmp 4) rfl w.heap.size rfl _ (mA (m.set 4 on)) (0,0) _ (blk hd3.out.blk) Tryz.underlying63 rfl hinf.out ?_))
  |(with_reducible show wpList _ _ _ (⟨none,.store _ (.tmp 8) _,_,_,_,_⟩::_) _ _;go_must (refine Aa4 rfl _ (.tmp 8) (.tmp 25) rfl hr3.out.blk (mA (m.set 4 on)) rfl rfl hinf.out rfl (As5 _) ?_);intro w2 hd2 ho2)
  |(go_at_call 439;refine (clos_4 _ _).mono ?_;rintro e w' ⟨rfl,rfl⟩))
 exact Au9 rfl rfl rfl rfl hd2 ⟨by rw [hE.out.1,hE.out.2];rfl,hb3.out.trans (ho2.below hb3.out.size (by simp))⟩
theorem clos_5 (b:Nat) (w:World):Calls Tryz.prog 440 #[.pointer (some ⟨b,0,none⟩)] w fun e w'=>e=.returned (.pointer (some ⟨b,5,none⟩))/\w=w':=by
 go_enter Tryz.func440,Tryz.ntmps440
 go_wp2
 go_ret
 exact ⟨rfl,rfl⟩
theorem put_5 (m:Md) (p:Bool) (n:Int) (hw:(Lit.int .i64 n).wf=true) (on:Bool) (hs:spot p n=5) (w:World) :
  Calls Tryz.prog 417 #[.agg (mA m),.bool p,.int .i64 n,.bool on] w (Bh0 m p n on w):=by
 have hE:Hid (m.put p n on=m.set 5 on/\known p n=true):=⟨by unfold Md.put;rw [hs],by unfold known;rw [hs];rfl⟩
 have hb0:=J0 (Ah6 w m)
 have hm0:=J0 (Bn6 w m)
 have hr0:=J0 (Bn7 w m)
 replace hs:=J0 hs
 have hinf:=J0 (Aj6 (m.set 5 on))
 have hset:=J0 (Ba5 m (k:=5) (by omega) on)
 go_enter Tryz.func417,Tryz.ntmps417
 go_wp2_with (first
  |(go_at_call 432;(with_reducible refine (Af9 _).mono ?_);rintro e w1 ⟨b,rfl,hP,hb1⟩;have hlk:=Al7 hP hw hs.out (by omega) (f:=440) rfl;have hb2:=J0 (Aa0 hb0.out hb1);have hm1:=J0 (hm0.out.below hb1);have hr1:=J0 (hr0.out.below hb1);clear hb1 hb0 hm0 hr0)
  |(with_reducible show wpList _ _ _ (⟨none,.store _ (.tmp 24) _,_,_,_,_⟩::_) _ _;go_must (refine Aa6 rfl _ (.tmp 24) (.tmp 23) rfl hm1.out.blk (.bool on) rfl rfl (by rw [Ao3];omega) Al6 rfl ?_);intro w3 hd3 ho3;go_must (rw [hset.out] at hd3);go_must (replace hd3:=J0 (MB.of hd3);have hr3:=J0 (hr1.out.only ho3 (by simp));have hb3:=J0 (hb2.out.trans (ho3.below hb2.out.size (by simp)));clear hb2 hr1 hm1 ho3))
  |(with_reducible show wpList _ _ _ (⟨some 25,.load _ (.tmp 4),_,_,_,_⟩::_) _ _;go_must (refine wpList_load_row rfl _ (.tmp 4) rfl w.heap.size rfl _ (mA (m.set 5 on)) (0,0) _ (blk hd3.out.blk) Tryz.underlying63 rfl hinf.out ?_))
  |(with_reducible show wpList _ _ _ (⟨none,.store _ (.tmp 8) _,_,_,_,_⟩::_) _ _;go_must (refine Aa4 rfl _ (.tmp 8) (.tmp 25) rfl hr3.out.blk (mA (m.set 5 on)) rfl rfl hinf.out rfl (As5 _) ?_);intro w2 hd2 ho2)
  |(go_at_call 440;refine (clos_5 _ _).mono ?_;rintro e w' ⟨rfl,rfl⟩))
 exact Au9 rfl rfl rfl rfl hd2 ⟨by rw [hE.out.1,hE.out.2];rfl,hb3.out.trans (ho2.below hb3.out.size (by simp))⟩
theorem clos_6 (b:Nat) (w:World):Calls Tryz.prog 434 #[.pointer (some ⟨b,0,none⟩)] w fun e w'=>e=.returned (.pointer (some ⟨b,6,none⟩))/\w=w':=by
 go_enter Tryz.func434,Tryz.ntmps434
 go_wp2
 go_ret
 exact ⟨rfl,rfl⟩
theorem put_6 (m:Md) (p:Bool) (n:Int) (hw:(Lit.int .i64 n).wf=true) (on:Bool) (hs:spot p n=6) (w:World) :
  Calls Tryz.prog 417 #[.agg (mA m),.bool p,.int .i64 n,.bool on] w (Bh0 m p n on w):=by
 have hE:Hid (m.put p n on=m.set 6 on/\known p n=true):=⟨by unfold Md.put;rw [hs],by unfold known;rw [hs];rfl⟩
 have hb0:=J0 (Ah6 w m)
 have hm0:=J0 (Bn6 w m)
 have hr0:=J0 (Bn7 w m)
 replace hs:=J0 hs
 have hinf:=J0 (Aj6 (m.set 6 on))
 have hset:=J0 (Ba5 m (k:=6) (by omega) on)
 go_enter Tryz.func417,Tryz.ntmps417
 go_wp2_with (first
  |(go_at_call 432;(with_reducible refine (Af9 _).mono ?_);rintro e w1 ⟨b,rfl,hP,hb1⟩;have hlk:=Al7 hP hw hs.out (by omega) (f:=434) rfl;have hb2:=J0 (Aa0 hb0.out hb1);have hm1:=J0 (hm0.out.below hb1);have hr1:=J0 (hr0.out.below hb1);clear hb1 hb0 hm0 hr0)
  |(with_reducible show wpList _ _ _ (⟨none,.store _ (.tmp 24) _,_,_,_,_⟩::_) _ _;go_must (refine Aa6 rfl _ (.tmp 24) (.tmp 23) rfl hm1.out.blk (.bool on) rfl rfl (by rw [Ao3];omega) Al6 rfl ?_);intro w3 hd3 ho3;go_must (rw [hset.out] at hd3);go_must (replace hd3:=J0 (MB.of hd3);have hr3:=J0 (hr1.out.only ho3 (by simp));have hb3:=J0 (hb2.out.trans (ho3.below hb2.out.size (by simp)));clear hb2 hr1 hm1 ho3))
  |(with_reducible show wpList _ _ _ (⟨some 25,.load _ (.tmp 4),_,_,_,_⟩::_) _ _;go_must (refine wpList_load_row rfl _ (.tmp 4) rfl w.heap.size rfl _ (mA (m.set 6 on)) (0,0) _ (blk hd3.out.blk) Tryz.underlying63 rfl hinf.out ?_))
  |(with_reducible show wpList _ _ _ (⟨none,.store _ (.tmp 8) _,_,_,_,_⟩::_) _ _;go_must (refine Aa4 rfl _ (.tmp 8) (.tmp 25) rfl hr3.out.blk (mA (m.set 6 on)) rfl rfl hinf.out rfl (As5 _) ?_);intro w2 hd2 ho2)
  |(go_at_call 434;refine (clos_6 _ _).mono ?_;rintro e w' ⟨rfl,rfl⟩))
 exact Au9 rfl rfl rfl rfl hd2 ⟨by rw [hE.out.1,hE.out.2];rfl,hb3.out.trans (ho2.below hb3.out.size (by simp))⟩
theorem clos_7 (b:Nat) (w:World):Calls Tryz.prog 441 #[.pointer (some ⟨b,0,none⟩)] w fun e w'=>e=.returned (.pointer (some ⟨b,7,none⟩))/\w=w':=by
 go_enter Tryz.func441,Tryz.ntmps441
 go_wp2
 go_ret
 exact ⟨rfl,rfl⟩
theorem put_7 (m:Md) (p:Bool) (n:Int) (hw:(Lit.int .i64 n).wf=true) (on:Bool) (hs:spot p n=7) (w:World) :
  Calls Tryz.prog 417 #[.agg (mA m),.bool p,.int .i64 n,.bool on] w (Bh0 m p n on w):=by
 have hE:Hid (m.put p n on=m.set 7 on/\known p n=true):=⟨by unfold Md.put;rw [hs],by unfold known;rw [hs];rfl⟩
 have hb0:=J0 (Ah6 w m)
 have hm0:=J0 (Bn6 w m)
 have hr0:=J0 (Bn7 w m)
 replace hs:=J0 hs
 have hinf:=J0 (Aj6 (m.set 7 on))
 have hset:=J0 (Ba5 m (k:=7) (by omega) on)
 go_enter Tryz.func417,Tryz.ntmps417
 go_wp2_with (first
  |(go_at_call 432;(with_reducible refine (Af9 _).mono ?_);rintro e w1 ⟨b,rfl,hP,hb1⟩;have hlk:=Al7 hP hw hs.out (by omega) (f:=441) rfl;have hb2:=J0 (Aa0 hb0.out hb1);have hm1:=J0 (hm0.out.below hb1);have hr1:=J0 (hr0.out.below hb1);clear hb1 hb0 hm0 hr0)
  |(with_reducible show wpList _ _ _ (⟨none,.store _ (.tmp 24) _,_,_,_,_⟩::_) _ _;go_must (refine Aa6 rfl _ (.tmp 24) (.tmp 23) rfl hm1.out.blk (.bool on) rfl rfl (by rw [Ao3];omega) Al6 rfl ?_);intro w3 hd3 ho3;go_must (rw [hset.out] at hd3);go_must (replace hd3:=J0 (MB.of hd3);have hr3:=J0 (hr1.out.only ho3 (by simp));have hb3:=J0 (hb2.out.trans (ho3.below hb2.out.size (by simp)));clear hb2 hr1 hm1 ho3))
  |(with_reducible show wpList _ _ _ (⟨some 25,.load _ (.tmp 4),_,_,_,_⟩::_) _ _;go_must (refine wpList_load_row rfl _ (.tmp 4) rfl w.heap.size rfl _ (mA (m.set 7 on)) (0,0) _ (blk hd3.out.blk) Tryz.underlying63 rfl hinf.out ?_))
  |(with_reducible show wpList _ _ _ (⟨none,.store _ (.tmp 8) _,_,_,_,_⟩::_) _ _;go_must (refine Aa4 rfl _ (.tmp 8) (.tmp 25) rfl hr3.out.blk (mA (m.set 7 on)) rfl rfl hinf.out rfl (As5 _) ?_);intro w2 hd2 ho2)
  |(go_at_call 441;refine (clos_7 _ _).mono ?_;rintro e w' ⟨rfl,rfl⟩))
 exact Au9 rfl rfl rfl rfl hd2 ⟨by rw [hE.out.1,hE.out.2];rfl,hb3.out.trans (ho2.below hb3.out.size (by simp))⟩
theorem put_any (m:Md) (p:Bool) (n:Int) (hw:(Lit.int .i64 n).wf=true) (on:Bool) (w:World) :
  Calls Tryz.prog 417 #[.agg (mA m),.bool p,.int .i64 n,.bool on] w (Bh0 m p n on w):=by
 rcases small (spot_le p n) with h|h|h|h|h|h|h|h|h
 ·exact put_0 m p n hw on h w
 ·exact put_1 m p n hw on h w
 ·exact put_2 m p n hw on h w
 ·exact put_3 m p n hw on h w
 ·exact put_4 m p n hw on h w
 ·exact put_5 m p n hw on h w
 ·exact put_6 m p n hw on h w
 ·exact put_7 m p n hw on h w
 ·exact Cj1 m p n hw on h w
def MIs (m:Md) (w:World) (e:Ending) (w':World):Prop:=e=.returned (.agg (mA m))/\Below w.heap.size w w'
theorem default_any (w:World):Calls Tryz.prog 117 #[] w (MIs start w):=by
 have hb0:=J0 (Aa1 w (.cells #[.bool false,.bool false,.bool false,.bool false,.bool false,.bool false,.bool false,.bool false] 63))
 have hr0:=J0 (MB.zero w)
 have hinf:=J0 (Aj6 start)
 go_enter Tryz.func117,Tryz.ntmps117
 go_wp2_with (first
  |(with_reducible show wpList _ _ _ (⟨none,.store _ (.tmp 0) _,_,_,_,_⟩::_) _ _;go_must (refine Aa4 rfl _ (.tmp 0) (.tmp 1) rfl hr0.out.blk (mA start) rfl rfl hinf.out rfl (As5 _) ?_);intro w2 hd2 ho2))
 exact end_m rfl rfl rfl (MB.of hd2) ⟨rfl,hb0.out.trans (ho2.below hb0.out.size (by simp))⟩
def part (m:Md):Nat->Int
 |0=>0
 |k+1=>part m k+one (m.get k) (pow k)
