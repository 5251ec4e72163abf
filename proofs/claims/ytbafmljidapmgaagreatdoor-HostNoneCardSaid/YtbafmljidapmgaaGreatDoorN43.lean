/- Part 43 of the proof that the card of HostNone holds. -/
import Derived.Test.YtbafmljidapmgaaGreatDoorN42
set_option maxHeartbeats 16000000
set_option maxRecDepth 100000
namespace Go.Proofs.YtbafmljidapmgaaGreatDoor.Prs
open Go RowKit Com Par
def Bk2 (w:World) (d:Nat) (S:PS) (v:Value) (e:Ending) (w':World):Prop:=(∃ x,e=.returned x)/\PBlk w' d S v/\Only [d] w w'
theorem Bz5 (S:PS):S.num S.sq.num=S:=rfl
theorem same_lst {L:Lst} (h:0<L.n.length):(⟨begF L.n,L.over⟩:Lst)=L:=by rw [beg_of_pos h]
theorem Ah5 (S:PS) (v:Value) (hL:S.sq.num.n.length<=32) (d:Nat) (w:World) (hd:PBlk w d S v) :
  Calls Tryz.prog 361 #[.pointer (some ⟨d,2,none⟩)] w (Bk2 w d (S.num ⟨begF S.sq.num.n,S.sq.num.over⟩) v):=by
 have hc:=hd.count hL
 have hfr:=hd.free 34
 by_cases h0:S.sq.num.n.length=0
 ·have hset:=J0 (hd.set (Bn1 (v:=v) hL (i:=32) (by omega) (cells_begin h0)))
  rw [h0] at hc
  clear hd h0
  go_enter Tryz.func361,Tryz.ntmps361
  go_wp2
  go_end0
  exact ⟨⟨_,rfl⟩,hset.out,Only.setCell w ⟨d,34,.none⟩ _⟩
 ·have h0':0<S.sq.num.n.length:=by omega
  rw [same_lst h0',Bz5]
  have hd':=J0 hd
  generalize S.sq.num.n.length=k at hc h0 h0'
  clear hd
  go_enter Tryz.func361,Tryz.ntmps361
  go_wp2
  go_end0
  exact ⟨⟨_,rfl⟩,hd'.out,Only.refl _ _⟩
theorem digit_skip {L:Lst} {x:Int} (h:x<0\/9<x\/L.over=true):Az9 L x=L:=if_pos h
theorem digit_put {L:Lst} {x:Int} (h0:0<=x) (h1:x<=9) (h2:L.over=false):Az9 L x=⟨putF (begF L.n) x,false⟩:=if_neg (by rw [h2];simp;omega)
theorem digit_any (S:PS) (v:Value) (hL:S.sq.num.Ok) (x:Int) (h0:0<=x) (h1:x<=9) (d:Nat) (w:World) (hd:PBlk w d S v) :
  Calls Tryz.prog 301 #[.pointer (some ⟨d,2,none⟩),.int .i64 x] w (Bk2 w d (S.num (Az9 S.sq.num x)) v):=by
 have ho:=hd.over hL.len
 by_cases hov:S.sq.num.over=true
 ·rw [digit_skip (Or.inr (Or.inr hov)),Bz5]
  rw [hov] at ho
  have hd':=J0 hd
  clear hd
  go_enter Tryz.func301,Tryz.ntmps301
  go_wp2
  go_end0
  exact ⟨⟨_,rfl⟩,hd'.out,Only.refl _ _⟩
 replace hov:S.sq.num.over=false:=by simpa using hov
 rw [hov] at ho
 have hb:=J0 (Ah5 S v hL.len d w hd)
 rw [digit_put h0 h1 hov]
 have hok:=hL.beg S.sq.num.over
 have hp:=Ce1 S.sq.num.n
 obtain ⟨j,hj⟩:∃ j,(begF S.sq.num.n).length=j+1:=⟨(begF S.sq.num.n).length - 1,by omega⟩
 have hj32:j<32:=by have:=hok.len;simp only at this;omega
 have hl0:=hok.lo _ (Bm2 hp)
 have hl1:=hok.hi _ (Bm2 hp)
 simp only at hl0 hl1
 have hlast:Bm1 (begF S.sq.num.n)=(begF S.sq.num.n)[j]'(by omega):=by
  unfold Bm1
  rw [<- Par.getD_at (l:=begF S.sq.num.n) (k:=j) (by omega),hj,Nat.add_sub_cancel]
 have hput:Hid (putF (begF S.sq.num.n) x=(begF S.sq.num.n).set j (capF (Bm1 (begF S.sq.num.n)*10+x))):=by
  show _=_
  unfold putF
  rw [hj,Nat.add_sub_cancel]
 clear hd
 go_enter Tryz.func301,Tryz.ntmps301
 go_wp2_with fail
 refine hb.out.mono ?_
 rintro e w1 ⟨⟨v1,rfl⟩,hd1,ho1⟩
 have hc1:=hd1.count hok.len
 have hx1:=hd1.at (i:=j) (by simp only [PS.num];omega)
 have hf1:=hd1.free (2+j)
 have hset:=fun y=>hd1.set (Bn1 (v:=v) hok.len (i:=j) (by omega) (cells_put (L:=⟨begF S.sq.num.n,S.sq.num.over⟩) (i:=j) (by simp only;omega) y))
 simp only [PS.num] at hc1 hx1 hset
 rw [<- hlast] at hx1
 rw [hj] at hc1
 rw [hov] at hset
 have hc1':w1.cell? ⟨d,34,none⟩=some (.int .i64 ((j:Int)+1)):=by rw [hc1];rfl
 replace hset:=J0 hset
 generalize Bm1 (begF S.sq.num.n)=y at hx1 hl0 hl1 hput
 clear hc1 hb hd1 hok hp hj hlast ho
 go_wp2
 go_quiet (fail)
 go_wp2
 all_goals go_end0
 have hcap:capF (y*10+x)=min (y*10+x) 65535:=by
  unfold capF
  split
  ·omega
  ·omega
 refine ⟨⟨_,rfl⟩,?_,ho1.trans ((Only.drewN [d] w1 nq).trans (Only.setCell (w1.drewN nq) ⟨d,2+j,none⟩ _))⟩
 rw [hput.out,hcap]
 exact hset.out _
theorem next_full {L:Lst} (h:(begF L.n).length=32):nextF L=⟨begF L.n,true⟩:=if_pos h
theorem next_more {L:Lst} (h:¬ (begF L.n).length=32):nextF L=⟨begF L.n++[0],L.over⟩:=if_neg h
theorem next_any (S:PS) (v:Value) (hL:S.sq.num.n.length<=32) (d:Nat) (w:World) (hd:PBlk w d S v) :
  Calls Tryz.prog 302 #[.pointer (some ⟨d,2,none⟩)] w (Bk2 w d (S.num (nextF S.sq.num)) v):=by
 have hb:=J0 (Ah5 S v hL d w hd)
 have hlen:=Cd9 hL
 clear hd
 by_cases h32:(begF S.sq.num.n).length=32
 ·rw [next_full h32]
  go_enter Tryz.func302,Tryz.ntmps302
  go_wp2_with fail
  refine hb.out.mono ?_
  rintro e w1 ⟨⟨v1,rfl⟩,hd1,ho1⟩
  have hc1:=hd1.count hlen
  have hf1:=hd1.free 35
  have ho:=hd1.over hlen
  have hset:=J0 (hd1.set (Bn1 (v:=v) hlen (i:=33) (by omega) (cells_over2 (L:=⟨begF S.sq.num.n,S.sq.num.over⟩) hlen)))
  simp only [PS.num] at hc1 ho
  rw [h32] at hc1
  clear hb hd1 hlen h32
  go_wp2
  go_end0
  exact ⟨⟨_,rfl⟩,hset.out,ho1.trans (Only.setCell w1 ⟨d,35,none⟩ _)⟩
 ·rw [next_more h32]
  go_enter Tryz.func302,Tryz.ntmps302
  go_wp2_with fail
  refine hb.out.mono ?_
  rintro e w1 ⟨⟨v1,rfl⟩,hd1,ho1⟩
  have hc1:=hd1.count hlen
  have hf1:=hd1.free 34
  have hset:=hd1.set (Bn1 (v:=v) hlen (i:=32) (by omega) (cells_next (L:=⟨begF S.sq.num.n,S.sq.num.over⟩) (by simp only;omega)))
  simp only [PS.num] at hc1 hset
  replace hset:=J0 hset
  generalize (begF S.sq.num.n).length=k at hc1 hset hlen h32
  have h32':((k:Int) == 32)=false:=by simp;omega
  clear hb hd1 h32
  go_wp2
  go_end0
  exact ⟨⟨_,rfl⟩,hset.out,ho1.trans (Only.setCell w1 ⟨d,34,none⟩ _)⟩
theorem elemI:Elem Tryz.prog 52 3 .i64 8:=by
 have h:(Tryz.prog.info? 3).map (fun i=>(i.zero,i.size,i.bytes))=some (some (.int .i64 0),1,8):=by kernel_rfl
 obtain ⟨i,h0,h1,h2,h3⟩:=info_parts h
 exact ⟨Tryz.underlying52,i,h0,h1,h2,h3⟩
theorem Bt5:Elem Tryz.prog 35 21 .i32 4:=by
 have h:(Tryz.prog.info? 21).map (fun i=>(i.zero,i.size,i.bytes))=some (some (.int .i32 0),1,4):=by kernel_rfl
 obtain ⟨i,h0,h1,h2,h3⟩:=info_parts h
 exact ⟨Tryz.underlying35,i,h0,h1,h2,h3⟩
theorem Bm8 (k:Nat) (hk:k<=32) (d:Nat) (w:World) :
  (Instr.sliceAt 153 (.pointer (some ⟨d,2,none⟩)) none (some (.int .i64 k)) (some (.int .i64 k))).run Tryz.prog w=.ok (.slice (some ⟨d,2,none⟩) k k) w:=by
 have ht:Tryz.prog.underlying 153=some (.array (Tryz.prog.arrayLen 153) (Tryz.prog.elem 153)):=by kernel_rfl
 have hl:Tryz.prog.arrayLen 153=32:=by kernel_rfl
 have hi:(Tryz.prog.info? (Tryz.prog.elem 153)).map (·.size)=some 1:=by kernel_rfl
 rw [run_sliceAt_array_hm w _ ⟨d,2,none⟩ ht .i64 .i64 k k (by omega) (by omega) (by rw [hl];omega)]
 cases hq:Tryz.prog.info? (Tryz.prog.elem 153) with
 |none=>simp [hq] at hi
 |some j =>
  have hs:j.size=1:=by simpa [hq] using hi
  simp [sizeOf,typeInfo,hq,hs,slicedAt,Addr.add]
theorem numbers_any (S:PS) (v:Value) (hL:S.sq.num.n.length<=32) (d:Nat) (w:World) (hd:PBlk w d S v) :
  Calls Tryz.prog 424 #[.pointer (some ⟨d,2,none⟩)] w fun e w'=>∃ n,e=.returned (.slice (some ⟨d,2,none⟩) S.sq.num.n.length S.sq.num.n.length)/\w'=w.drewN n:=by
 have hc:=hd.count hL
 generalize hk:S.sq.num.n.length=k at hc hL
 clear hk hd
 have hp:=Bm8 k hL d
 go_enter Tryz.func424,Tryz.ntmps424
 go_wp2
 go_quiet (fail)
 go_wp2
 go_ret
 exact ⟨_,rfl,rfl⟩
theorem num_nums {w:World} {d:Nat} {S:PS} {v:Value} (h:PBlk w d S v):Nums w w.heap.size .i64 (some ⟨d,2,none⟩) S.sq.num.n:=fun i x hx=>by
 obtain ⟨hi,rfl⟩:=List.getElem?_eq_some_iff.1 hx
 refine ⟨_,rfl,h.lt,?_⟩
 rw [Addr.add_lit]
 exact h.at hi
def Cq2 (w:World) (l:List Int) (e:Ending) (w':World):Prop:=∃ x,e=.returned x/\Own w' w.heap.size 3 .i64 x l/\Below w.heap.size w w'
theorem values_any (S:PS) (v:Value) (hL:S.sq.num.n.length<=32) (d:Nat) (w:World) (hd:PBlk w d S v) :
  Calls Tryz.prog 407 #[.pointer (some ⟨d,2,none⟩)] w (Cq2 w S.sq.num.n):=by
 have h:=J0 (numbers_any S v hL d w hd)
 have hn:=num_nums hd
 go_enter Tryz.func407,Tryz.ntmps407
 go_wp2_with (first
  |(go_at_call 424;refine (h.out).mono ?_;rintro e w1 ⟨n,rfl,rfl⟩)
  |(with_reducible show wpList _ _ _ (⟨some 5,.call _,_,_,_,_⟩::_) _ _;go_must (refine Ai8 elemI rfl (.const (.slice none 0 0)) (.tmp 4) rfl w.heap.size (.slice none 0 0) [] S.sq.num.n (some ⟨d,2,none⟩) w.heap.size S.sq.num.n.length rfl rfl (Own.nil (w.drewN n) _ _ _) (hn.kept fun _ _=>rfl) (J5 _) (by simp;omega) (by simp [maxLen];omega) ?_);intro v2 w2 hown ho hat))
 go_ret
 exact ⟨v2,rfl,hown,(Only.then (Only.drewN [] w n) ho (by simp [Value.ownBlock])).nil⟩
theorem Ab2 (L:List Nat) (w:World):Only L w w.drew:=⟨rfl,rfl,rfl,J5 _,fun _ _ _=>rfl⟩
theorem Bd4 (S:PS) (v:Value) (hL:S.sq.num.n.length<=32) (hc:S.sq.cnt<=2) (r:Int) (d:Nat) (w:World) (hd:PBlk w d S v) :
  Calls Tryz.prog 298 #[.pointer (some ⟨d,1,none⟩),.int .i32 r] w (Bk2 w d (S.take r) v):=by
 have h38:=hd.cnt hL
 have h36:=hd.pa hL
 have h37:=hd.pb hL
 have h39:=hd.many hL
 have f36:=hd.free 36
 have f37:=hd.free 37
 have f38:=hd.free 38
 have f39:=hd.free 39
 rcases (by omega:S.sq.cnt=0\/S.sq.cnt=1\/S.sq.cnt=2) with h0|h0|h0
 ·have e:S.take r=⟨S.st,⟨S.sq.pr,S.sq.num,r,S.sq.b,1,S.sq.many⟩,S.text⟩:=by unfold PS.take Sq.put;rw [if_neg (by omega),if_neg (by omega)]
  rw [h0] at h38
  have hset:∀ w1,PBlk w1 d S v->PBlk ((w1.setCell ⟨d,36,none⟩ (.int .i32 r)).setCell ⟨d,38,none⟩ (.int .i64 1)) d ⟨S.st,⟨S.sq.pr,S.sq.num,r,S.sq.b,1,S.sq.many⟩,S.text⟩ v :=
   fun w1 h=>(h.set (set_a hL v r)).set (Cj7 (S:=⟨S.st,⟨S.sq.pr,S.sq.num,r,S.sq.b,S.sq.cnt,S.sq.many⟩,S.text⟩) hL v 1)
  replace hset:=J0 hset
  have hd':=J0 hd
  rw [e]
  clear hd e hc hL
  go_enter Tryz.func298,Tryz.ntmps298
  go_wp2
  go_region
  all_goals go_wp2
  all_goals go_end0
  all_goals exact ⟨⟨_,rfl⟩,hset.out _ hd'.out,((Only.setCell w ⟨d,36,none⟩ _).trans (Only.setCell _ ⟨d,38,none⟩ _)).trans (Ab2 _ _)⟩
 ·have e:S.take r=⟨S.st,⟨S.sq.pr,S.sq.num,S.sq.a,r,2,S.sq.many⟩,S.text⟩:=by unfold PS.take Sq.put;rw [if_neg (by omega),if_pos h0]
  rw [h0] at h38
  have hset:∀ w1,PBlk w1 d S v->PBlk ((w1.setCell ⟨d,37,none⟩ (.int .i32 r)).setCell ⟨d,38,none⟩ (.int .i64 2)) d ⟨S.st,⟨S.sq.pr,S.sq.num,S.sq.a,r,2,S.sq.many⟩,S.text⟩ v :=
   fun w1 h=>(h.set (set_b hL v r)).set (Cj7 (S:=⟨S.st,⟨S.sq.pr,S.sq.num,S.sq.a,r,S.sq.cnt,S.sq.many⟩,S.text⟩) hL v 2)
  replace hset:=J0 hset
  have hd':=J0 hd
  rw [e]
  clear hd e hc hL
  go_enter Tryz.func298,Tryz.ntmps298
  go_wp2
  go_region
  all_goals go_wp2
  all_goals go_end0
  all_goals exact ⟨⟨_,rfl⟩,hset.out _ hd'.out,((Only.setCell w ⟨d,37,none⟩ _).trans (Only.setCell _ ⟨d,38,none⟩ _)).trans (Ab2 _ _)⟩
 ·have e:S.take r=⟨S.st,⟨S.sq.pr,S.sq.num,S.sq.a,S.sq.b,S.sq.cnt,true⟩,S.text⟩:=by unfold PS.take Sq.put;rw [if_pos h0]
  rw [h0] at h38
  have hset:=J0 (hd.set (set_many hL v))
  rw [e]
  clear hd e hc hL
  go_enter Tryz.func298,Tryz.ntmps298
  go_wp2
  go_end0
  exact ⟨⟨_,rfl⟩,hset.out,Only.setCell w ⟨d,39,none⟩ _⟩
theorem Am8 (w:World) (B:Nat) (hB:B<=w.heap.size) (ok:Nat->Prop) (A:Act) (cs:List Value) (h:ActIs w ok A cs) :
  ActsIn (w.alloc (.cells cs.toArray 112)) B ok (.slice (some ⟨w.heap.size,0,none⟩) 1 1) [A]:=by
 have h2:ActIs w (fun g=>ok g/\w.heap.size≠g) A cs:=h.mono (fun g hg hk=>⟨hk,by omega⟩)
 refine ⟨[cs],.cons ((h2.only (Only.alloc [] w _) (by simp)).mono (fun g _ hk=>⟨hk.1,fun e=>hk.2 (by simpa [Value.ownBlock] using e)⟩)) .nil,?_⟩
 have:=World.ownsRow_lit w (e:=112) (base:=B) (size:=7) cs.toArray 1 hB (by simp [maxLen]) (by simp [h.len])
 simpa using this
theorem Br6 {w:World} {B:Nat} {e:TypeId} {k:IntKind} {ao:Option Addr} {n c:Nat} {l:List Int} (h:Own w B e k (.slice ao n c) l):NumsP w (B<=·) k ao l:=by
 have hlt:=h.lt
 obtain ⟨ao',c',e',_,_,hn⟩:=Aw4 h
 cases e'
 exact hn.mono (fun g _ hg=>(hlt g hg).1)
theorem Bk6 (w:World) (ok:Nat->Prop) (k R p f:Int):ActIs w ok ⟨k,R,p,[],[],f,[]⟩ [.int .u8 k,.int .i32 R,.int .i32 p,.slice none 0 0,.slice none 0 0,.int .i32 f,.slice none 0 0] :=
 ⟨⟨none,0,none,0,none,0,rfl,NumsP.nil _ _ _ _,NumsP.nil _ _ _ _,NumsP.nil _ _ _ _⟩,none,0,rfl,J5 _,by simp [maxLen]⟩
def Bk1 (w:World) (As:List Act) (e:Ending) (w':World):Prop:=∃ x,e=.returned x/\ActsIn w' w.heap.size (w.heap.size<=·) x As/\Below w.heap.size w w'
theorem ground_any (r:Int) (p:Value) (w:World) :
  Calls Tryz.prog 255 #[p,.int .i32 r] w (Bk1 w [printA r]):=by
 go_enter Tryz.func255,Tryz.ntmps255
 go_wp2
 go_ret
 exact ⟨_,rfl,Am8 w w.heap.size (J5 _) _ _ _ (Bk6 w _ 1 r 0 0),Aa1 _ _⟩
theorem Bw5 (r:Int) (w:World) :
  Calls Tryz.prog 254 #[.int .i32 r] w fun e w'=>e=.returned (.agg #[.int .u8 2,.int .i32 r,.int .i32 0,.slice none 0 0,.slice none 0 0,.int .i32 0,.slice none 0 0])/\Below w.heap.size w w':=by
 go_enter Tryz.func254,Tryz.ntmps254
 go_wp2
 exact bodyPost_ret (v:=.agg #[.int .u8 2,.int .i32 r,.int .i32 0,.slice none 0 0,.slice none 0 0,.int .i32 0,.slice none 0 0]) (by simp [results,Tryz.results254,go_sem]) rfl ⟨rfl,Aa1 _ _⟩
theorem slice_any (k:Nat) (hk:k<=2) (d:Nat) (w:World) :
  (Instr.sliceAt 156 (.pointer (some ⟨d,36,none⟩)) none (some (.int .i64 k)) none).run Tryz.prog w=.ok (.slice (some ⟨d,36,none⟩) k 2) w:=by
 have ht:Tryz.prog.underlying 156=some (.array (Tryz.prog.arrayLen 156) (Tryz.prog.elem 156)):=by kernel_rfl
 have hl:Tryz.prog.arrayLen 156=2:=by kernel_rfl
 have hi:(Tryz.prog.info? (Tryz.prog.elem 156)).map (·.size)=some 1:=by kernel_rfl
 rw [run_sliceAt_array_h w _ ⟨d,36,none⟩ ht .i64 k (by omega) (by rw [hl];omega)]
 cases hq:Tryz.prog.info? (Tryz.prog.elem 156) with
 |none=>simp [hq] at hi
 |some j =>
  have hs:j.size=1:=by simpa [hq] using hi
  simp [sizeOf,typeInfo,hq,hs,slicedAt,Addr.add,hl]
theorem inter_nums {w:World} {d:Nat} {S:PS} {v:Value} (hL:S.sq.num.n.length<=32) (h:PBlk w d S v):Nums w w.heap.size .i32 (some ⟨d,36,none⟩) S.sq.inter:=fun i x hx=>by
 refine ⟨_,rfl,h.lt,?_⟩
 rw [Addr.add_lit]
 unfold Sq.inter at hx
 rw [List.getElem?_take] at hx
 split at hx
 ·rcases i with _|_|i
  ·simp at hx;subst hx;exact h.pa hL
  ·simp at hx;subst hx;exact h.pb hL
  ·simp at hx
 ·cases hx
theorem inter_length {q:Sq} (h:q.cnt<=2):q.inter.length=q.cnt:=by
 unfold Sq.inter
 simp
 omega
theorem keep_seq {S:PS} {v:Value} {d:Nat} {w w1:World} (hL:S.sq.num.n.length<=32) {p:Int} {k:Nat} (hp:S.sq.pr=p) (hk:S.sq.cnt=k) (h:PBlk w d S v) (hb:Only [] w w1) :
  PBlk w1 d S v/\w1.cell? ⟨d,1,none⟩=some (.int .i32 p)/\w1.cell? ⟨d,38,none⟩=some (.int .i64 k):=by
 have h':=h.only hb (by simp)
 subst hp
 subst hk
 exact ⟨h',h'.c1,h'.cnt hL⟩
theorem seqActs_none (S:PS) (v:Value) (hL:S.sq.num.n.length<=32) (kind final:Int) (d:Nat) (w:World) (hd:PBlk w d S v) (hm:S.sq.many=true) :
  Calls Tryz.prog 360 #[.pointer (some ⟨d,1,none⟩),.int .u8 kind,.int .i32 final] w (Bk1 w (S.sq.acts kind final)):=by
 have h39:=hd.many hL
 rw [hm] at h39
 have hE:Hid (S.sq.acts kind final=[]):=by show _=_;unfold Sq.acts;rw [if_pos hm]
 go_enter Tryz.func360,Tryz.ntmps360
 go_wp2
 go_ret
 refine ⟨_,rfl,?_,Below.refl _ _⟩
 rw [hE.out]
 exact ActsIn.nil _ _ _
theorem seqActs_one (S:PS) (v:Value) (hL:S.sq.num.n.length<=32) (hc:S.sq.cnt<=2) (kind final:Int) (d:Nat) (w:World) (hd:PBlk w d S v) (hm:S.sq.many=false) :
  Calls Tryz.prog 360 #[.pointer (some ⟨d,1,none⟩),.int .u8 kind,.int .i32 final] w (Bk1 w (S.sq.acts kind final)):=by
 have h39:=hd.many hL
 have h38:=hd.cnt hL
 have h1:=hd.c1
 rw [hm] at h39
 have hvals:=J0 (fun w' (h:PBlk w' d S v)=>values_any S v hL d w' h)
 have hint:=J0 (fun w' (h:PBlk w' d S v)=>inter_nums hL h)
 have hlen:=inter_length hc
 obtain ⟨p,hp⟩:∃ p,S.sq.pr=p:=⟨_,rfl⟩
 obtain ⟨k,hk⟩:∃ k,S.sq.cnt=k:=⟨_,rfl⟩
 have hkeep:=J0 (fun w w1 (h:PBlk w d S v) (hb:Only [] w w1)=>keep_seq hL hp hk h hb)
 rw [hp] at h1
 rw [hk] at h38 hlen hc
 have hE:Hid (S.sq.acts kind final=[⟨kind,0,p,S.sq.num.n,S.sq.inter,final,[]⟩]):=by show _=_;unfold Sq.acts;rw [hm,if_neg (by simp),hp]
 have hlen':=J0 hlen
 have hsl:=slice_any k hc d
 generalize S.sq.num.n=ns at hvals hE
 generalize S.sq.inter=is at hint hE hlen hlen'
 clear hp hk hm hL hlen
 go_enter Tryz.func360,Tryz.ntmps360
 go_wp2
 go_region_held3 (fun w'=>PBlk w' d S v/\w'.cell? ⟨d,1,none⟩=some (.int .i32 p)/\w'.cell? ⟨d,38,none⟩=some (.int .i64 k))
  (first
   |exact ⟨hd,h1,h38⟩
   |(go_split_ands;exact hkeep.out _ w1 (by assumption) (Only.of_below hb1 []))
   |(go_split_ands;exact hkeep.out _ w2 (by assumption) (by simpa [Value.ownBlock] using ho2))
   |(go_split_ands;exact hkeep.out _ _ (by assumption) (Only.alloc [] _ _))
   |go_keep)
  (first
   |(go_at_call 407;refine (hvals.out _ (by assumption)).mono ?_;rintro e w1 ⟨x1,rfl,hown1,hb1⟩;obtain ⟨a1,c1,rfl,_,_,_⟩:=hown1.shape)
   |(refine Cb2 Bt5 rfl (.const (.slice none 0 0)) (.tmp 27) rfl w.heap.size (.slice none 0 0) [] is (some ⟨d,36,none⟩) _ 2 rfl (by rw [hlen'.out];rfl) (Own.nil _ _ _ _) (hint.out _ (‹PBlk w1 d S v/\_›).1) (by first|exact J5 _|exact hb1.size) (by rw [hlen'.out];simp;omega) (by rw [hlen'.out];simp [maxLen];omega) ?_;intro v2 w2 hown2 ho2 hat2;simp only [List.nil_append] at hown2;obtain ⟨a2,c2,rfl,_,_,_⟩:=hown2.shape))
 all_goals go_wp2
 go_ret
 have o1:Only [] w w1:=(Ab2 [] w).trans (Only.of_below hb1 [])
 have o2:Only [] w1 w2:=by simpa [Value.ownBlock] using ho2
 refine ⟨_,rfl,?_,((o1.trans o2).trans (Only.alloc [] w2 _)).nil⟩
 rw [hE.out]
 obtain ⟨_,_,e1,q1,q2,_⟩:=hown1.shape
 cases e1
 exact Am8 w2 w.heap.size (o1.trans o2).size _ _ _ ⟨⟨a1,c1,a2,c2,none,0,rfl,Br6 (hown1.only o2 (by simp)),Br6 hown2,NumsP.nil _ _ _ _⟩,a1,c1,rfl,q1,q2⟩
theorem seqActs_any (S:PS) (v:Value) (hL:S.sq.num.n.length<=32) (hc:S.sq.cnt<=2) (kind final:Int) (d:Nat) (w:World) (hd:PBlk w d S v) :
  Calls Tryz.prog 360 #[.pointer (some ⟨d,1,none⟩),.int .u8 kind,.int .i32 final] w (Bk1 w (S.sq.acts kind final)):=by
 by_cases hm:S.sq.many=true
 ·exact seqActs_none S v hL kind final d w hd hm
 ·exact seqActs_one S v hL hc kind final d w hd (by simpa using hm)
theorem infoA:∃ i,Tryz.prog.info? 112=some i/\i.zero=some (.agg #[.int .u8 0,.int .i32 0,.int .i32 0,.slice none 0 0,.slice none 0 0,.int .i32 0,.slice none 0 0])/\i.size=7/\i.bytes=96:=by
 have h:(Tryz.prog.info? 112).map (fun i=>(i.zero,i.size,i.bytes))=some (some (.agg #[.int .u8 0,.int .i32 0,.int .i32 0,.slice none 0 0,.slice none 0 0,.int .i32 0,.slice none 0 0]),7,96):=by kernel_rfl
 exact info_parts h
theorem flat_one {w:World} {ok:Nat->Prop} {l:List Act} {css:List (List Value)} (h:All2 (ActIs w ok) l css):∀ u∈css.flatten,u.oneCell'=true:=by
 induction h with
 |nil=>intro u hu;cases hu
 |cons h _ ih =>
  intro u hu
  rw [List.flatten_cons] at hu
  rcases List.mem_append.1 hu with hu|hu
  ·exact h.one u hu
  ·exact ih u hu
theorem run_acts (w:World) (ty:TypeId) {B B2:Nat} {ok ok2:Nat->Prop} {x y:Value} {As Bs:List Act} (h:ActsIn w B ok x As) (g:ActsIn w B2 ok2 y Bs) (hx:∀ b,x.ownBlock=some b->¬ ok2 b)
  (hB:B<=w.heap.size) (hn:As.length+Bs.length<=1048576) :
  ∃ z w',(Builtin.append_ #[108,108] ty #[x,y]).run Tryz.prog w=.ok z w'/\ActsIn w' B (fun b=>ok b\/ok2 b) z (As++Bs)/\Only x.ownBlock.toList w w'/\(z.ownBlock=x.ownBlock\/z.ownBlock=some w.heap.size):=by
 obtain ⟨i,hi,hz,hs,hb⟩:=infoA
 obtain ⟨css,h1,h2⟩:=h.ex
 obtain ⟨dss,g1,g2⟩:=g.ex
 rcases hg3:g2.2 with ⟨rfl,hl⟩|⟨gb,cap,cur,rfl,_,hh,_⟩
 ·have hb0:Bs=[]:=List.eq_nil_of_length_eq_zero hl
  subst hb0
  refine ⟨x,w,?_,by rw [List.append_nil];exact h.mono (fun _ _ h=>.inl h),Only.refl _ _,.inl rfl⟩
  rcases h2.2 with ⟨rfl,_⟩|⟨gx,cap,cur,rfl,_,_,hnc,_⟩
  ·simp [Builtin.append_,run_underlying Tryz.underlying108,sizeOf,typeInfo,hi,Builtin.lenOf,Builtin.firstCells]
  ·simp [Builtin.append_,run_underlying Tryz.underlying108,sizeOf,typeInfo,hi,Builtin.lenOf,Builtin.firstCells,hnc,storeCells]
 ·have hone:=flat_one g1
  obtain ⟨z,w',hr,k2,k3,_,k5⟩:=run_append_own_at (P:=Tryz.prog) (w:=w) B 108 ty 112 i _ 7 96 Tryz.underlying108 hi hz hs hb rfl (by omega) x As.length css.flatten h2
   ⟨gb,0,none⟩ Bs.length cap dss.flatten (by rw [flat_len g1 (fun _ _ h=>h.len)]) (World.ownsRow.cells g2 rfl) hone (by simp [maxLen];omega) (by omega) hB
  have ho:=Only.grown k3
  have hzz:∀ b,b<w.heap.size->z.ownBlock=some b->x.ownBlock=some b:=fun b hb hz=>by
   rcases k5 with e|e
   ·rw [<- e];exact hz
   ·rw [e] at hz;simp at hz;omega
  refine ⟨z,w',hr,⟨css++dss,All2.app (h1.mono fun _ _ h=>?_) (g1.mono fun _ _ h=>?_),?_⟩,ho,k5⟩
  ·have h':ActIs w (fun b=>(ok b/\x.ownBlock≠some b)/\b<w.heap.size) _ _:=h.mono (fun b hb hk=>⟨hk,hb⟩)
   exact (h'.only ho (fun b hb hk=>hk.1.2 (by simpa using hb))).mono (fun b _ hk=>⟨.inl hk.1.1,fun e=>hk.1.2 (hzz b hk.2 e)⟩)
  ·have h':ActIs w (fun b=>(ok2 b/\x.ownBlock≠some b)/\b<w.heap.size) _ _:=h.mono (fun b hb hk=>⟨⟨hk.1,fun e=>hx b e hk.1⟩,hb⟩)
   exact (h'.only ho (fun b hb hk=>hk.1.2 (by simpa using hb))).mono (fun b _ hk=>⟨.inr hk.1.1,fun e=>hk.1.2 (hzz b hk.2 e)⟩)
  ·rw [List.flatten_append,List.length_append]
   exact k2
theorem Cl0 {w:World} {o:Oper} {a:Go.Act} {K:Go.Act->World->Prop} {Q:Exit->Go.Act->World->Prop} (s t:Operand)
  (ho:o.op=.call { callee:=.builtin .append,args:=#[s,t],argTypes:=#[108,108] })
  {B B2:Nat} {ok ok2:Nat->Prop} {x y:Value} {As Bs:List Act} (hs:a.eval s=x) (ht:a.eval t=y) (h:ActsIn w B ok x As) (g:ActsIn w B2 ok2 y Bs) (hx:∀ b,x.ownBlock=some b->¬ ok2 b)
  (hB:B<=w.heap.size) (hn:As.length+Bs.length<=1048576)
  (hK:∀ z w',ActsIn w' B (fun b=>ok b\/ok2 b) z (As++Bs)->Only x.ownBlock.toList w w'->(z.ownBlock=x.ownBlock\/z.ownBlock=some w.heap.size)->K (a.put o.dst z) w'):o.wp Tryz.prog a w K Q:=by
 obtain ⟨z,w',hr,h2,h3,h4⟩:=run_acts w o.type h g hx hB hn
 unfold Oper.wp execOp
 simp only [ho,resolve,invoke,builtin,Sem.run_bind,Sem.run_pure,Result.andThen_ok,List.map_toArray,List.map_cons,List.map_nil,hs,ht,hr]
 exact hK z w' h2 h3 h4
theorem Au1 {w:World} {ops:Array Oper} {rest:List Oper} {o:Oper} {a:Go.Act} {Q:Exit->Go.Act->World->Prop} (hgd:Region.wanted o (yielded ops a.tmps)=true) (s t:Operand)
  (ho:o.op=.call { callee:=.builtin .append,args:=#[s,t],argTypes:=#[108,108] })
  {B B2:Nat} {ok ok2:Nat->Prop} {x y:Value} {As Bs:List Act} (hs:a.eval s=x) (ht:a.eval t=y) (h:ActsIn w B ok x As) (g:ActsIn w B2 ok2 y Bs) (hx:∀ b,x.ownBlock=some b->¬ ok2 b)
  (hB:B<=w.heap.size) (hn:As.length+Bs.length<=1048576)
  (hK:∀ z w',ActsIn w' B (fun b=>ok b\/ok2 b) z (As++Bs)->Only x.ownBlock.toList w w'->(z.ownBlock=x.ownBlock\/z.ownBlock=some w.heap.size)->wpList Tryz.prog ops Q rest (a.put o.dst z) w'):wpList Tryz.prog ops Q (o::rest) a w :=
 Ad6 hgd fun _ hK'=>Cl0 s t ho hs ht h g hx hB hn fun z w' h1 h2 h3=>hK' _ _ (hK z w' h1 h2 h3)
theorem step_acts {w:World} {ops:Array Oper} {o:Oper} {a:Go.Act} {K:Go.Act->World->Prop} {Q:Exit->Go.Act->World->Prop} {F:Prop} (hgd:Region.wanted o (yielded ops a.tmps)=true) (s t:Operand)
  (ho:o.op=.call { callee:=.builtin .append,args:=#[s,t],argTypes:=#[108,108] })
  {B B2:Nat} {ok ok2:Nat->Prop} {x y:Value} {As Bs:List Act} (hs:a.eval s=x) (ht:a.eval t=y) (h:ActsIn w B ok x As) (g:ActsIn w B2 ok2 y Bs) (hx:∀ b,x.ownBlock=some b->¬ ok2 b)
  (hB:B<=w.heap.size) (hn:As.length+Bs.length<=1048576)
  (hK:∀ z w',ActsIn w' B (fun b=>ok b\/ok2 b) z (As++Bs)->Only x.ownBlock.toList w w'->(z.ownBlock=x.ownBlock\/z.ownBlock=some w.heap.size)->K (a.put o.dst z) w') :
  if Region.wanted o (yielded ops a.tmps)=true then Oper.wp Tryz.prog o a w K Q else F:=by
 rw [if_pos hgd]
 exact Cl0 s t ho hs ht h g hx hB hn hK
theorem Ad8 {P:Program} {ops:Array Oper} {rest:List Oper} {o:Oper} {a:Go.Act} {w:World} {Q:Exit->Go.Act->World->Prop} (hgd:o.guard=none) (ty:TypeId) (x y:Operand) (ho:o.op=.store ty x y)
  {g i:Nat} {t:TypeId} {cs:Array Value} (hb:Block w g t cs) (vs:Array Value) (hx:a.eval x=.pointer (some ⟨g,i,none⟩)) (hy:a.eval y=.agg vs) (hi:i+vs.size<=cs.size) (hinfo:(P.info? ty).map (·.size)=some vs.size) (h1:vs.all (·.oneCell')=true)
  (h:∀ w',Block w' g t (cs.toList.take i++(vs.toList++cs.toList.drop (i+vs.size))).toArray->Only [g] w w'->wpList P ops Q rest (a.put o.dst undef) w'):wpList P ops Q (o::rest) a w :=
 wpList_plain hgd fun _ hK=>by
  have:=run_storeCells_at (P:=P) g i t vs.toList 0 cs w hb (by simpa using hi) (fun x hx=>(Array.all_eq_true_iff_forall_mem.1 h1) x (by simpa using hx))
  cases hq:P.info? ty with
  |none=>simp [hq] at hinfo
  |some j =>
   have hs:j.size=vs.size:=by simpa [hq] using hinfo
   have hc:(Value.agg vs).cells=vs:=rfl
   simp only [Nat.add_zero,Array.length_toList] at this
   unfold Oper.wp execOp
   simp [ho,hx,hy,Instr.storeAt,Instr.sureAddr,Sem.run_bind,Sem.run_pure,storeVar,sizeOf,typeInfo,hq,hc,hs,this]
   exact hK _ _ (h _ (setRow_heap w g cs _ t _ hb) (Ac6 w g _))
def seqL (q:Sq):List Value:=.int .i32 q.pr::(Ae7 q.num++[.int .i32 q.a,.int .i32 q.b,.int .i64 q.cnt,.bool q.many])
theorem Ci5 (S:PS) (v:Value):parL S v=[.int .u8 S.st]++seqL S.sq++[v]:=by
 unfold parL seqL Cc6
 simp
theorem seq_size {q:Sq} (h:q.num.n.length<=32):(seqL q).length=39:=by
 unfold seqL
 simp [Ai4 h]
theorem put_seq {S:PS} {v:Value} (hL:S.sq.num.n.length<=32):(parL S v).take 1++(seqL emptySq++(parL S v).drop 40)=parL ⟨S.st,emptySq,S.text⟩ v:=by
 have h:=seq_size hL
 have e:(parL S v).drop 40=[v]:=by
  rw [Ci5,List.append_assoc]
  exact List.drop_left' h
 rw [e,Ci5]
 rfl
theorem Bi7 {S:PS} {v:Value} {w:World} {d:Nat} (hL:S.sq.num.n.length<=32) (h:Block w d 160 ((parL S v).toArray.toList.take 1++((seqL emptySq).toArray.toList++(parL S v).toArray.toList.drop (1+(seqL emptySq).toArray.size))).toArray):PBlk w d ⟨S.st,emptySq,S.text⟩ v:=by
 unfold PBlk
 rw [<- put_seq hL]
 exact h
theorem Ca7 {l:List Value} (h:l.length=41):1+(seqL emptySq).toArray.size<=l.toArray.size:=by
 have e:(seqL emptySq).length=39:=rfl
 rw [List.size_toArray,List.size_toArray,h,e]
 omega
theorem Cj6:(seqL emptySq).toArray.all (·.oneCell')=true:=by kernel_rfl
theorem Cr7:(Tryz.prog.info? 158).map (·.size)=some (seqL emptySq).toArray.size:=by kernel_rfl
theorem Aw0 {S:PS} (h:S.st≠12) (s:Int):leadA S=[]/\leadS S s=⟨s,if s=1\/s=3\/s=7 then emptySq else S.sq,S.text⟩:=by
 unfold leadA leadS
 rw [if_neg h,if_neg h]
 exact ⟨rfl,rfl⟩
theorem lead_plain (S:PS) (v:Value) (hs:S.st≠12) (s:Int) (hq:¬ (s=1\/s=3\/s=7)) (B d:Nat) (w:World) (hd:ParIn w B d v S) :
  Calls Tryz.prog 196 #[.pointer (some ⟨d,0,none⟩),.int .u8 s] w (Fed w B d v (leadF S s)):=by
 have h0:=hd.blk.c0
 have f0:=hd.blk.free 0
 have hs':(S.st == 12)=false:=by simpa using hs
 have q1:(s == 1)=false:=by simp;omega
 have q3:(s == 3)=false:=by simp;omega
 have q7:(s == 7)=false:=by simp;omega
 have hset:=J0 (hd.blk.set (Ca9 S v s))
 have hd':=J0 hd
 have hE:Hid (leadF S s=([],⟨s,S.sq,S.text⟩)):=by show _=_;unfold leadF;rw [(Aw0 hs s).1,(Aw0 hs s).2,if_neg hq]
 clear hd hq hs
 go_enter Tryz.func196,Tryz.ntmps196
 go_wp2
 go_ret
 rw [hE.out]
 have o:=Only.setCell w ⟨d,0,none⟩ (.int .u8 s)
 exact ⟨_,v,rfl,⟨hset.out,hd'.out.own.only o (fun g hg hm=>hd'.out.apart (by simp at hm;rw [hg,hm])),hd'.out.low⟩,.inl rfl,ActsIn.nil _ _ _,o.mono (by simp)⟩
theorem lead_anew (S:PS) (v:Value) (hL:S.sq.num.n.length<=32) (hs:S.st≠12) (s:Int) (hq:s=1\/s=3\/s=7) (B d:Nat) (w:World) (hd:ParIn w B d v S) :
  Calls Tryz.prog 196 #[.pointer (some ⟨d,0,none⟩),.int .u8 s] w (Fed w B d v (leadF S s)):=by
 have h0:=hd.blk.c0
 have hs':(S.st == 12)=false:=by simpa using hs
 have hd':=J0 hd
 have hb:=hd.blk.blk
 have hE:Hid (leadF S s=([],⟨s,emptySq,S.text⟩)):=by show _=_;unfold leadF;rw [(Aw0 hs s).1,(Aw0 hs s).2,if_pos hq]
 have hput:=J0 (fun w h=>Bi7 (w:=w) (d:=d) (v:=v) hL h)
 have hsz:=Ca1 (v:=v) hL
 clear hd hs
 rcases hq with rfl|rfl|rfl
 all_goals
  go_enter Tryz.func196,Tryz.ntmps196
  go_wp2_with (with_reducible show wpList _ _ _ (⟨none,.store _ (.tmp 30) _,_,_,_,_⟩::_) _ _;go_must (refine Ad8 rfl _ (.tmp 30) (.tmp 28) rfl hb (seqL emptySq).toArray rfl rfl (Ca7 hsz) Cr7 Cj6 ?_);intro w1 hb1 ho1;replace hb1:=hput.out w1 hb1;have h10:=hb1.c0;have f10:=hb1.free 0)
  go_ret
  rw [hE.out]
  have o:=fun u=>ho1.trans (Only.setCell w1 ⟨d,0,none⟩ u)
  exact ⟨_,v,rfl,⟨hb1.set (Ca9 _ v _),hd'.out.own.only (o _) (fun g hg hm=>hd'.out.apart (by simp at hm;rw [hg,hm])),hd'.out.low⟩,.inl rfl,ActsIn.nil _ _ _,(o _).mono (by simp)⟩
theorem osc_is {w:World} {B:Nat} {e:TypeId} {v:Value} {l:List Int} (h:Own w B e .i32 v l):ActIs w (fun g=>v.ownBlock=some g) (oscA l) [.int .u8 5,.int .i32 0,.int .i32 0,.slice none 0 0,.slice none 0 0,.int .i32 0,v]:=by
 obtain ⟨ao,c,rfl,_,_,hn⟩:=Aw4 h
 exact ⟨⟨none,0,none,0,ao,c,rfl,NumsP.nil _ _ _ _,NumsP.nil _ _ _ _,hn⟩,none,0,rfl,J5 _,by simp [maxLen]⟩
theorem Aw6 {w w':World} (h:Only (Value.slice none 0 0).ownBlock.toList w w'):Only [] w w':=by simpa [Value.ownBlock] using h
theorem Bz4 {p:Nat->Prop}:∀ b,(Value.slice none 0 0).ownBlock=some b->p b:=fun _ h=>by cases h
theorem Co1 {w:World} {B:Nat} {ok:Nat->Prop} {x:Value} {A:Act} (h:ActsIn w B ok x [A]):∃ ao cap,x=.slice ao 1 cap:=by
 obtain ⟨ao,cap,e,_⟩:=h.shape
 exact ⟨ao,cap,e⟩
theorem Ci3 {w w1 w2:World} {B d:Nat} {v x:Value} {S S':PS} (hd:ParIn w B d v S) (o1:Only [] w w1) (hz:ActsIn w1 w.heap.size (fun b=>False\/v.ownBlock=some b) x [oscA S.text]) (o2:Only [d] w1 w2)
  (hb:PBlk w2 d S' (.slice none 0 0)) (ht:S'.text=[]):Fed w B d v ([oscA S.text],S') (.returned x) w2:=by
 have hb1:=hd.blk.only o1 (by simp)
 have hap:=hd.apart
 have hax:=hz.apart_blk hb1.blk (by decide)
 refine ⟨x,.slice none 0 0,rfl,⟨hb,by rw [ht];exact Own.nil _ _ _ _,hd.low⟩,.inr (.inl rfl),?_,(o1.mono (by simp)).trans (o2.mono (by simp))⟩
 refine (hz.only o2 (fun g hg hk=>?_) (fun g hg hm=>?_)).mono (fun g _ hk=>?_)
 ·simp at hg
  subst hg
  exact hk.elim id hap
 ·simp at hm
  subst hm
  exact hax hg
 ·exact ⟨.inr (hk.elim False.elim id),by simp [Value.ownBlock],fun e=>by subst e;exact hk.elim id hap⟩
theorem lead_osc (S:PS) (v:Value) (hL:S.sq.num.n.length<=32) (hs:S.st=12) (s:Int) (B d:Nat) (w:World) (hd:ParIn w B d v S) :
  Calls Tryz.prog 196 #[.pointer (some ⟨d,0,none⟩),.int .u8 s] w (Fed w B d v (leadF S s)):=by
 have h0:=hd.blk.c0
 have h40:=hd.blk.txt hL
 rw [hs] at h0
 have hosc:=osc_is hd.own
 have hd':=J0 hd
 have hput:=J0 (fun w h=>Bi7 (w:=w) (d:=d) (v:=.slice none 0 0) hL h)
 have hset:=J0 (Cj9 hL v (.slice none 0 0))
 have hsz:=Ca1 (v:=.slice none 0 0) hL
 obtain ⟨ao,c,rfl,_,_,_⟩:=hd.own.shape
 have hosc':=J0 hosc
 clear hd hosc
 by_cases hq:s=1\/s=3\/s=7
 ·have hE:Hid (leadF S s=([oscA S.text],⟨s,emptySq,[]⟩)):=by show _=_;unfold leadF leadA leadS;rw [if_pos hs,if_pos hs,if_pos hq]
  rcases hq with rfl|rfl|rfl
  all_goals
   go_enter Tryz.func196,Tryz.ntmps196
   go_wp2_with (first
    |(with_reducible show wpList _ _ _ (⟨some 18,.call _,_,_,_,_⟩::_) _ _;go_must (refine Au1 (x:=.slice none 0 0) (ok2:=fun g=>(Value.slice ao S.text.length c).ownBlock=some g) rfl (.tmp 11) (.tmp 17) rfl rfl rfl (ActsIn.nil _ w.heap.size (fun _=>False)) (Am8 w w.heap.size (J5 _) _ _ _ hosc'.out) Bz4 (by simp) (by simp) ?_);go_must (intro z w1 hz ho1 hat;obtain ⟨az,cz,rfl⟩:=Co1 hz;have o1:Only [] w w1:=(Only.alloc [] w _).trans (Aw6 ho1);have hb1:=hd'.out.blk.only o1 (by simp);have k40:=hb1.txt hL;have f40:=hb1.free 40;have k0:=hb1.c0;rw [hs] at k0;have f0:=hb1.free 0;have hs2:=hb1.set hset.out;have hb2:=hs2.blk))
    |(with_reducible show wpList _ _ _ (⟨none,.store _ (.tmp 30) _,_,_,_,_⟩::_) _ _;go_must (refine Ad8 rfl _ (.tmp 30) (.tmp 28) rfl hb2 (seqL emptySq).toArray rfl rfl (Ca7 hsz) Cr7 Cj6 ?_);intro w3 hb3 ho3;replace hb3:=hput.out w3 hb3;have m0:=hb3.c0;have g0:=hb3.free 0))
   go_ret
   rw [hE.out]
   exact Ci3 hd'.out o1 hz ((Only.setCell w1 ⟨d,40,none⟩ _).trans (ho3.trans (Only.setCell w3 ⟨d,0,none⟩ _))) (hb3.set (Ca9 _ _ _)) rfl
 ·have hE:Hid (leadF S s=([oscA S.text],⟨s,S.sq,[]⟩)):=by show _=_;unfold leadF leadA leadS;rw [if_pos hs,if_pos hs,if_neg hq]
  have q1:(s == 1)=false:=by simp;omega
  have q3:(s == 3)=false:=by simp;omega
  have q7:(s == 7)=false:=by simp;omega
  clear hq hput hsz
  go_enter Tryz.func196,Tryz.ntmps196
  go_wp2_with (first
   |(with_reducible show wpList _ _ _ (⟨some 18,.call _,_,_,_,_⟩::_) _ _;go_must (refine Au1 (x:=.slice none 0 0) (ok2:=fun g=>(Value.slice ao S.text.length c).ownBlock=some g) rfl (.tmp 11) (.tmp 17) rfl rfl rfl (ActsIn.nil _ w.heap.size (fun _=>False)) (Am8 w w.heap.size (J5 _) _ _ _ hosc'.out) Bz4 (by simp) (by simp) ?_);go_must (intro z w1 hz ho1 hat;obtain ⟨az,cz,rfl⟩:=Co1 hz;have o1:Only [] w w1:=(Only.alloc [] w _).trans (Aw6 ho1);have hb1:=hd'.out.blk.only o1 (by simp);have k40:=hb1.txt hL;have f40:=hb1.free 40;have k0:=hb1.c0;rw [hs] at k0;have f0:=hb1.free 0;have hs2:=J0 (hb1.set hset.out);clear hb1)))
  go_ret
  rw [hE.out]
  exact Ci3 hd'.out o1 hz ((Only.setCell w1 ⟨d,40,none⟩ _).trans (Only.setCell _ ⟨d,0,none⟩ _)) (PBlk.set (S':=⟨s,S.sq,[]⟩) (S:=⟨S.st,S.sq,[]⟩) hs2.out (Ca9 ⟨S.st,S.sq,[]⟩ _ _)) rfl
theorem Ac5 (S:PS) (v:Value) (hL:S.sq.num.n.length<=32) (s:Int) (B d:Nat) (w:World) (hd:ParIn w B d v S) :
  Calls Tryz.prog 196 #[.pointer (some ⟨d,0,none⟩),.int .u8 s] w (Fed w B d v (leadF S s)):=by
 by_cases hs:S.st=12
 ·exact lead_osc S v hL hs s B d w hd
 ·by_cases hq:s=1\/s=3\/s=7
  ·exact lead_anew S v hL hs s hq B d w hd
  ·exact lead_plain S v hs s hq B d w hd
