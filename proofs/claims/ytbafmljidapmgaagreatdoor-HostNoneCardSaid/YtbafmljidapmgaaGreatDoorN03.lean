/- Part 3 of the proof that the card of HostNone holds. -/
import Derived.Test.YtbafmljidapmgaaGreatDoorN02
set_option maxHeartbeats 16000000
set_option maxRecDepth 100000
namespace Go.Proofs.YtbafmljidapmgaaGreatDoor.Rw
open Go RowKit Com
def Au4 (w:World) (d g n cap:Nat) (tail:List Value) (l:List Cel) (v:Value) (e:Ending) (w':World):Prop:=e=.returned v/\RowX w' d g n cap tail l/\Only [g] w w'
structure Like (w:World) (d g n cap:Nat) (tail:List Value) (l:List Cel) (w1:World):Prop where
 row:RowX w1 d g n cap tail l
 below:Below w.heap.size w w1
theorem RowX.like {w:World} {d g n cap:Nat} {tail:List Value} {l:List Cel} (h:RowX w d g n cap tail l):Like w d g n cap tail l w:=⟨h,Below.refl _ _⟩
theorem Like.next {w w1 w2:World} {d g n cap:Nat} {tail:List Value} {l:List Cel} (h:Like w d g n cap tail l w1) (hb:Below w1.heap.size w1 w2):Like w d g n cap tail l w2:=⟨h.row.below hb,Aa0 h.below hb⟩
theorem Like.stays {w w1:World} {d g n cap:Nat} {tail:List Value} {l:List Cel} (h:Like w d g n cap tail l w1):RowX w1 d g n cap tail l/\Only [g] w w1:=⟨h.row,Only.of_below h.below _⟩
theorem Like.turned {w w1 w2:World} {d g n cap:Nat} {tail:List Value} {l l':List Cel} (h:Like w d g n cap tail l w1) (hr:RowX w2 d g n cap tail l') (ho:Only [g] w1 w2):RowX w2 d g n cap tail l'/\Only [g] w w2:=⟨hr,(Only.of_below h.below _).trans ho⟩
section
variable {w:World} {d g n cap:Nat} {tail:List Value} {l:List Cel}
theorem Aw1 (h:RowX w d g n cap tail l) (a b c:Int):Like w d g n cap tail l (w.alloc (.cells #[.int .u32 a,.int .u32 b,.int .u16 c] 56)):=h.like.next (Aa1 _ _)
theorem Cj1 (h:RowX w d g n cap tail l) (col x:Int) (hc:-9223372036854775808<=col/\col<=9223372036854775807) (wide:Bool) (a:At) (hno:An1 x=false\/col<0\/(n:Int)<=col\/(wide=true/\(n:Int)<=col+1)) :
  Calls Tryz.prog 315 #[.pointer (some ⟨d,0,none⟩),.int .i64 col,.int .i32 x,.bool wide,.agg #[.int .u32 a.f,.int .u32 a.b,.int .u16 a.g]] w (Au4 w d g n cap tail l (.int .i64 2)):=by
 obtain ⟨af,ab,ag⟩:=a
 have hn:=h.pos
 have hn5:=h.small
 have hn0:((n:Int) == 0)=false:=beq_eq_false_iff_ne.2 (by omega)
 have hL:=Aw1 h af ab ag
 have hlen:=J0 (Ah1 hL.row)
 have hyes:=J0 (fun j h0 h1=>Be8 hL.row j h0 h1)
 have hnot:=J0 (fun j h0=>Bx8 hL.row j h0)
 have hres:=J0 hL.stays
 have hmp:=Ar4 x
 simp only
 by_cases h1:An1 x=false
 ·rw [h1] at hmp
  replace hmp:=J0 hmp
  clear hL h hno h1
  go_enter Tryz.func315,Tryz.ntmps315
  go_wp2_with (first|(go_at_call 240;(with_reducible refine (hlen.out).mono ?_);rintro e w' ⟨rfl,rfl⟩)|(go_at_call 363;(with_reducible refine (hmp.out _).mono ?_);rintro e w' ⟨rfl,rfl⟩))
  go_ret
  exact ⟨rfl,hres.out⟩
 have h1:An1 x=true:=by simpa using h1
 rw [h1] at hmp
 replace hmp:=J0 hmp
 by_cases h2:col<0\/(n:Int)<=col
 ·replace h2:=J0 h2
  clear hL h hno h1
  go_enter Tryz.func315,Tryz.ntmps315
  go_wp2_with (first|(go_at_call 240;(with_reducible refine (hlen.out).mono ?_);rintro e w' ⟨rfl,rfl⟩)|(go_at_call 363;(with_reducible refine (hmp.out _).mono ?_);rintro e w' ⟨rfl,rfl⟩)|(go_at_call 362;(with_reducible refine (hnot.out _ h2.out).mono ?_);rintro e w' ⟨rfl,rfl⟩))
  go_ret
  exact ⟨rfl,hres.out⟩
 ·obtain ⟨hw,h3⟩:wide=true/\(n:Int)<=col+1:=by
   rcases hno with hh|hh|hh|hh
   ·simp [h1] at hh
   ·omega
   ·omega
   ·exact hh
  subst hw
  have h4:0<=col:=by omega
  have h5:col<n:=by omega
  clear hL h hno h1 h2
  go_enter Tryz.func315,Tryz.ntmps315
  go_wp2_with (first|(go_at_call 240;(with_reducible refine (hlen.out).mono ?_);rintro e w' ⟨rfl,rfl⟩)|(go_at_call 363;(with_reducible refine (hmp.out _).mono ?_);rintro e w' ⟨rfl,rfl⟩))
  with_reducible refine (hyes.out _ h4 h5).mono ?_
  rintro e w1 ⟨rfl,rfl⟩
  go_wp2_with fail
  with_reducible refine (hnot.out _ (Or.inr h3)).mono ?_
  rintro e w1 ⟨rfl,rfl⟩
  go_wp2_with fail
  go_ret
  exact ⟨rfl,hres.out⟩
theorem put_yes (h:RowX w d g n cap tail l) (hwh:Aj4 l) (col:Nat) (x:Int) (wide:Bool) (a:At) (h1:An1 x=true) (h2:col+(cellsPut x wide a).length<=n) :
  Calls Tryz.prog 315 #[.pointer (some ⟨d,0,none⟩),.int .i64 col,.int .i32 x,.bool wide,.agg #[.int .u32 a.f,.int .u32 a.b,.int .u16 a.g]] w (Au4 w d g n cap tail (setL l col (cellsPut x wide a)) (.int .i64 0)):=by
 obtain ⟨af,ab,ag⟩:=a
 have hn:=h.pos
 have hn5:=h.small
 have hn0:((n:Int) == 0)=false:=beq_eq_false_iff_ne.2 (by omega)
 have hL:=Aw1 h af ab ag
 have hlen:=J0 (Ah1 hL.row)
 have hyes:=J0 (fun j h0 h1=>Be8 hL.row j h0 h1)
 have hmp:=Ar4 x
 rw [h1] at hmp
 replace hmp:=J0 hmp
 simp only
 cases wide
 ·have h3:col+1<=n:=by simpa [cellsPut] using h2
  have hset:=fun w1 (hb:Below (w.alloc (.cells #[.int .u32 af,.int .u32 ab,.int .u16 ag] 56)).heap.size (w.alloc (.cells #[.int .u32 af,.int .u32 ab,.int .u16 ag] 56)) w1) hs=>Bg2 (hL.row.below hb) hwh col (cellsPut x false ⟨af,ab,ag⟩) h2 (some ⟨w.heap.size+1,0,none⟩) 1 hs
  have hblk:=Block.made (w.alloc (.cells #[.int .u32 af,.int .u32 ab,.int .u16 ag] 56)) 304 (fl cellC (cellsPut x false ⟨af,ab,ag⟩)).toArray
  have e1:(fl cellC (cellsPut x false ⟨af,ab,ag⟩)).toArray=#[.int .i32 x,.int .i32 0,.int .i32 0,.int .i32 0,.int .i32 0,.int .u8 0,.int .u8 0,.int .u32 af,.int .u32 ab,.int .u16 ag]:=by simp [fl,cellsPut,cellC,pad4,attV]
  have hfin:=fun w1 w2 (hb:Below (w.alloc (.cells #[.int .u32 af,.int .u32 ab,.int .u16 ag] 56)).heap.size (w.alloc (.cells #[.int .u32 af,.int .u32 ab,.int .u16 ag] 56)) w1) (hr:RowX w2 d g n cap tail (setL l col (cellsPut x false ⟨af,ab,ag⟩))) (ho:Only [g] w1 w2)=>(hL.next hb).turned hr ho
  have hlen1:(cellsPut x false ⟨af,ab,ag⟩).length=1:=rfl
  have hs0:=hset _ (Aa1 _ _) (fun _=>⟨_,rfl,fun j v hj=>by
   rw [Addr.add_lit,Nat.zero_add]
   exact Block.cell (by simpa using hblk) j (by simpa using hj)⟩)
  rw [e1,hlen1] at hs0
  clear hset hblk e1
  replace hs0:=J0 hs0
  replace hfin:=J0 hfin
  clear hL h h1 h2
  go_enter Tryz.func315,Tryz.ntmps315
  go_wp2_with (first
   |(go_at_call 240;(with_reducible refine (hlen.out).mono ?_);rintro e w' ⟨rfl,rfl⟩)
   |(go_at_call 363;(with_reducible refine (hmp.out _).mono ?_);rintro e w' ⟨rfl,rfl⟩)
   |(go_at_call 362;(with_reducible refine (hyes.out _ (by omega) (by omega)).mono ?_);rintro e w' ⟨rfl,rfl⟩)
   |(go_at_call 359;(with_reducible refine (hs0.out).mono ?_);rintro e w2 ⟨⟨v2,rfl⟩,hR2,ho2⟩))
  go_ret
  exact ⟨rfl,hfin.out _ _ (Aa1 _ _) hR2 ho2⟩
 ·have h3:col+1<n:=by simp [cellsPut] at h2;omega
  have hset:=fun w1 (hb:Below (w.alloc (.cells #[.int .u32 af,.int .u32 ab,.int .u16 ag] 56)).heap.size (w.alloc (.cells #[.int .u32 af,.int .u32 ab,.int .u16 ag] 56)) w1) hs=>Bg2 (hL.row.below hb) hwh col (cellsPut x true ⟨af,ab,ag⟩) h2 (some ⟨w.heap.size+1,0,none⟩) 2 hs
  have hblk:=Block.made (w.alloc (.cells #[.int .u32 af,.int .u32 ab,.int .u16 ag] 56)) 304 (fl cellC (cellsPut x true ⟨af,ab,ag⟩)).toArray
  have e1:(fl cellC (cellsPut x true ⟨af,ab,ag⟩)).toArray=#[.int .i32 x,.int .i32 0,.int .i32 0,.int .i32 0,.int .i32 0,.int .u8 0,.int .u8 1,.int .u32 af,.int .u32 ab,.int .u16 ag,.int .i32 0,.int .i32 0,.int .i32 0,.int .i32 0,.int .i32 0,.int .u8 0,.int .u8 2,.int .u32 af,.int .u32 ab,.int .u16 ag]:=by simp [fl,cellsPut,cellC,pad4,attV]
  have hfin:=fun w1 w2 (hb:Below (w.alloc (.cells #[.int .u32 af,.int .u32 ab,.int .u16 ag] 56)).heap.size (w.alloc (.cells #[.int .u32 af,.int .u32 ab,.int .u16 ag] 56)) w1) (hr:RowX w2 d g n cap tail (setL l col (cellsPut x true ⟨af,ab,ag⟩))) (ho:Only [g] w1 w2)=>(hL.next hb).turned hr ho
  have hlen1:(cellsPut x true ⟨af,ab,ag⟩).length=2:=rfl
  have hs0:=hset _ (Aa1 _ _) (fun _=>⟨_,rfl,fun j v hj=>by
   rw [Addr.add_lit,Nat.zero_add]
   exact Block.cell (by simpa using hblk) j (by simpa using hj)⟩)
  rw [e1,hlen1] at hs0
  clear hset hblk e1
  replace hs0:=J0 hs0
  replace hfin:=J0 hfin
  clear hL h h1 h2
  go_enter Tryz.func315,Tryz.ntmps315
  go_wp2_with (first
   |(go_at_call 240;(with_reducible refine (hlen.out).mono ?_);rintro e w' ⟨rfl,rfl⟩)
   |(go_at_call 363;(with_reducible refine (hmp.out _).mono ?_);rintro e w' ⟨rfl,rfl⟩)
   |(go_at_call 362;(with_reducible refine (hyes.out _ (by omega) (by omega)).mono ?_);rintro e w' ⟨rfl,rfl⟩)
   |(go_at_call 359;(with_reducible refine (hs0.out).mono ?_);rintro e w2 ⟨⟨v2,rfl⟩,hR2,ho2⟩))
  go_ret
  exact ⟨rfl,hfin.out _ _ (Aa1 _ _) hR2 ho2⟩
end
theorem Like.drewN {w w1:World} {d g n cap:Nat} {tail:List Value} {l:List Cel} (h:Like w d g n cap tail l w1) (q:Nat):Like w d g n cap tail l (w1.drewN q):=h.next (Aa5 (Below.refl _ _) q)
section
variable {w:World} {d g n cap:Nat} {tail:List Value} {l:List Cel}
theorem Bp1 (h:RowX w d g n cap tail l) (hwh:Aj4 l) (lo hi:Int) (a:At) :
  Calls Tryz.prog 295 #[.pointer (some ⟨d,0,none⟩),.int .i64 lo,.int .i64 hi,.agg #[.int .u32 a.f,.int .u32 a.b,.int .u16 a.g]] w (Au4 w d g n cap tail (Av1 l (Ab1 lo n) (Ab1 hi n) a) (.int .i64 0)):=by
 have hh1:=Ah8 lo n
 have hh2:=Ah8 hi n
 have hp:Ab1 lo n<=n:=Nat.min_le_right _ _
 have hq:Ab1 hi n<=n:=Nat.min_le_right _ _
 generalize Ab1 lo n=p at hh1 hp |-
 generalize Ab1 hi n=q at hh2 hq |-
 obtain ⟨af,ab,ag⟩:=a
 have hn:=h.pos
 have hn5:=h.small
 have hn0:((n:Int) == 0)=false:=beq_eq_false_iff_ne.2 (by omega)
 have hL:=Aw1 h af ab ag
 have hlen:=J0 (Ah1 hL.row)
 have hc:=hL.row.slice
 replace hh1:=J0 hh1
 replace hh2:=J0 hh2
 simp only
 by_cases hlt:p<q
 ·have hcl:=Bk9 (q - p) (by omega) ⟨af,ab,ag⟩
  rw [show ((q - p:Nat):Int)=(q:Int) - (p:Int) by omega] at hcl
  simp only at hcl
  have hE:Av1 l p q ⟨af,ab,ag⟩=setL l p (List.replicate (q - p) (clr ⟨af,ab,ag⟩)):=if_pos hlt
  rw [hE]
  have hpq:p+(q - p)<=n:=by omega
  generalize hk:q - p=k at hcl hpq |-
  replace hcl:=J0 hcl
  have hst:=fun w1 (h1:Like w d g n cap tail l w1) g2 hb=>Bj0 h1.row hwh p k ⟨af,ab,ag⟩ hpq g2 hb
  replace hst:=J0 hst
  replace hL:=J0 hL
  clear h hE hk
  go_enter Tryz.func295,Tryz.ntmps295
  go_wp2_with (first|(go_at_call 240;(with_reducible refine (hlen.out).mono ?_);rintro e w' ⟨rfl,rfl⟩))
  go_quiet ((first|(go_at_call 358;with_reducible exact Af2 (hh1.out _))|(go_at_call 358;with_reducible exact Af2 (hh2.out _))))
  go_wp2_with ((go_at_call 352;(with_reducible refine (hcl.out _).mono ?_);rintro e w2 ⟨g2,rfl,hb2,hbel2,hg2⟩))
  have hL2:=(hL.out.drewN nq).next hbel2
  with_reducible refine (hst.out _ hL2 g2 hb2).mono ?_
  rintro e w3 ⟨⟨v3,rfl⟩,hR3,ho3⟩
  have hres:=J0 (hL2.turned hR3 ho3)
  clear hL2 hR3 ho3 hb2 hbel2 hg2
  go_wp2
  go_ret
  exact ⟨rfl,hres.out⟩
 ·have hE:Av1 l p q ⟨af,ab,ag⟩=l:=if_neg hlt
  rw [hE]
  replace hL:=J0 hL
  clear h hE
  go_enter Tryz.func295,Tryz.ntmps295
  go_wp2_with (first|(go_at_call 240;(with_reducible refine (hlen.out).mono ?_);rintro e w' ⟨rfl,rfl⟩))
  go_quiet ((first|(go_at_call 358;with_reducible exact Af2 (hh1.out _))|(go_at_call 358;with_reducible exact Af2 (hh2.out _))))
  go_wp2
  go_ret
  exact ⟨rfl,(hL.out.drewN _).stays⟩
theorem Cb1 (h:RowX w d g n cap tail l) (col k:Int) :
  Calls Tryz.prog 368 #[.pointer (some ⟨d,0,none⟩),.int .i64 col,.int .i64 k] w fun e w'=>e=.returned (.tuple #[.int .i64 (Ab1 col n),.int .i64 (Ab1 k (n - Ab1 col n))])/\w=w':=by
 have hh1:=Ah8 col n
 have hp:Ab1 col n<=n:=Nat.min_le_right _ _
 have hn5:=h.small
 generalize Ab1 col n=p at hh1 hp |-
 have hh2:=Ah8 k (n - p)
 rw [show ((n - p:Nat):Int)=(n:Int) - (p:Int) by omega] at hh2
 generalize Ab1 k (n - p)=q at hh2 |-
 have hc:=h.slice
 replace hh1:=J0 hh1
 replace hh2:=J0 hh2
 clear h
 go_enter Tryz.func368,Tryz.ntmps368
 go_wp2_with fail
 with_reducible refine (hh1.out _).mono ?_
 rintro e w1 ⟨rfl,rfl⟩
 go_wp2_with fail
 with_reducible refine (hh2.out _).mono ?_
 rintro e w1 ⟨rfl,rfl⟩
 go_wp2_with fail
 go_ret2
 exact ⟨rfl,rfl⟩
end
theorem ins_splice {l:List Cel} {col k:Nat} (a:At) (h:col+k<=l.length):splice (splice l (col+k) ((l.drop col).take (l.length - col - k))) col (List.replicate k (clr a))=insX l col k a:=by
 have hM:((l.drop col).take (l.length - col - k)).length=l.length - col - k:=by simp
 unfold insX
 generalize (l.drop col).take (l.length - col - k)=M at hM
 have e1:splice l (col+k) M=l.take (col+k)++M:=by
  unfold splice
  rw [hM,List.drop_eq_nil_of_le (by omega),List.append_nil]
 rw [e1]
 unfold splice
 rw [List.take_append_of_le_length (by simp;omega),List.take_take,Nat.min_eq_left (by omega),List.length_replicate]
 congr 2
 rw [List.drop_append,List.drop_eq_nil_of_le (by simp;omega)]
 simp only [List.nil_append,List.length_take,Nat.min_eq_left h,Nat.sub_self,List.drop_zero]
theorem del_splice {l:List Cel} {col k:Nat} (a:At) (h:col+k<=l.length):splice (splice l col (l.drop (col+k))) (l.length - k) (List.replicate k (clr a))=l.take col++(l.drop (col+k)++List.replicate k (clr a)):=by
 have hM:(l.drop (col+k)).length=l.length - k - col:=by simp;omega
 generalize l.drop (col+k)=M at hM
 unfold splice
 have e0:(l.take col++(M++l.drop (col+M.length))).length=l.length:=by simp;omega
 have e1:(l.take col++(M++l.drop (col+M.length))).take (l.length - k)=l.take col++M:=by
  rw [<- List.append_assoc,List.take_append_of_le_length (by simp;omega),List.take_of_length_le (by simp;omega)]
 rw [e1,List.length_replicate,List.drop_eq_nil_of_le (by rw [e0];omega),List.append_nil,List.append_assoc]
theorem RowX.part {w:World} {d g n cap:Nat} {tail:List Value} {l:List Cel} (h:RowX w d g n cap tail l) (c m:Nat) (hc:c+m<=n):∀ j v,(fl cellC ((l.drop c).take m))[j]?=some v->w.cell? ((⟨g,c*10,none⟩:Addr).add j)=some v:=by
 intro j v hj
 rw [Addr.add_lit]
 refine h.row.cell _ ?_
 have hl:=h.len
 rw [<- Bl3 cellC_length _ _ (by simp;omega),<- Bl2 cellC_length _ _ (by omega),List.getElem?_take] at hj
 split at hj
 ·rw [List.getElem?_drop] at hj
  have hlt:=(List.getElem?_eq_some_iff.1 hj).1
  simp only [List.getElem?_toArray]
  rw [List.getElem?_append_left hlt]
  exact hj
 ·cases hj
theorem Bf8 (l:List Cel) (c m:Nat) (h:c+m<=l.length):(fl cellC ((l.drop c).take m)).length=m*10:=by rw [Ab5 cellC_length];simp;omega
theorem RowX.curLen {w:World} {d g n cap:Nat} {tail:List Value} {l:List Cel} (h:RowX w d g n cap tail l):(fl cellC l++tail).length=n*10+tail.length:=by rw [List.length_append,Ab5 cellC_length,h.len]
theorem RowX.copied {w w':World} {d g n cap:Nat} {tail:List Value} {l:List Cel} (h:RowX w d g n cap tail l) (at':Nat) (M:List Cel) (hM:at'+M.length<=n) (hb:Block w' g 304 (splice (Rw.fl cellC l++tail) (at'*10) (Rw.fl cellC M)).toArray) (ho:Only [g] w w') :
  RowX w' d g n cap tail (splice l at' M):=by
 have hl:=h.len
 refine h.turned ho ?_ (length_splice _ _ _ (by omega))
 rw [<- Aj1 cellC_length l M tail at' (by omega)]
 exact hb
theorem Block.box {w:World} {bx:Nat} {f b g:Int} (h:Block w bx 56 #[.int .u32 f,.int .u32 b,.int .u16 g]):w.cell? ⟨bx,0,none⟩=some (.int .u32 f)/\w.cell? ⟨bx,1,none⟩=some (.int .u32 b)/\w.cell? ⟨bx,2,none⟩=some (.int .u16 g):=⟨h.cell 0 rfl,h.cell 1 rfl,h.cell 2 rfl⟩
section
variable {w:World} {d g n cap:Nat} {tail:List Value} {l:List Cel}
theorem insert_any (h:RowX w d g n cap tail l) (hwh:Aj4 l) (col k:Int) (a:At) :
  Calls Tryz.prog 314 #[.pointer (some ⟨d,0,none⟩),.int .i64 col,.int .i64 k,.agg #[.int .u32 a.f,.int .u32 a.b,.int .u16 a.g]] w (Au4 w d g n cap tail (insL l (Ab1 col n) (Ab1 k (n - Ab1 col n)) a) (.int .i64 0)):=by
 obtain ⟨af,ab,ag⟩:=a
 have hn:=h.pos
 have hn5:=h.small
 have hle:=h.le
 have hcm:=h.cap
 unfold maxLen at hcm
 have hn0:((n:Int) == 0)=false:=beq_eq_false_iff_ne.2 (by omega)
 have hL:=Aw1 h af ab ag
 have hbx0:=Block.made w 56 #[.int .u32 af,.int .u32 ab,.int .u16 ag]
 have hgw:=h.row.lt
 have hlen:=J0 (Ah1 hL.row)
 have hspan:=Cb1 hL.row col k
 have hp:Ab1 col n<=n:=Nat.min_le_right _ _
 have hq:Ab1 k (n - Ab1 col n)<=n - Ab1 col n:=Nat.min_le_right _ _
 generalize Ab1 k (n - Ab1 col n)=q at hspan hq |-
 generalize Ab1 col n=p at hspan hp hq |-
 have hpq:p+q<=n:=by omega
 simp only
 replace hspan:=J0 hspan
 replace hL:=J0 hL
 replace hbx0:=J0 hbx0
 replace hwh:=J0 hwh
 have hll:=J0 h.len
 clear h hq
 go_enter Tryz.func314,Tryz.ntmps314
 go_wp2_with (first|(go_at_call 240;(with_reducible refine (hlen.out).mono ?_);rintro e w' ⟨rfl,rfl⟩)|(go_at_call 368;(with_reducible refine (hspan.out).mono ?_);rintro e w' ⟨rfl,rfl⟩))
 obtain ⟨bx,hbx⟩:∃ bx,bx=w.heap.size:=⟨_,rfl⟩
 have hne:bx≠g:=by omega
 rw [<- hbx] at hbx0 |-
 clear hbx hgw hlen hspan hp
 generalize w.alloc (.cells #[.int .u32 af,.int .u32 ab,.int .u16 ag] 56)=w1 at hL hbx0 |-
 have hR1:=hL.out.row
 have hM:=Bf8 l p (n - p - q) (by rw [hll.out];omega)
 have hcur:=hR1.curLen
 have hpart:=hR1.drawn.part p (n - p - q) (by omega)
 have hone:=Bd8 Ak5 ((l.drop p).take (n - p - q))
 have hrow:=hR1.drawn.row
 have hcop:=fun w2 hb ho=>hR1.drawn.copied (w':=w2) (p+q) ((l.drop p).take (n - p - q)) (by simp [hll.out];omega) hb ho
 have hpt:=fun w2 (ho:Only [g] w1.drew w2)=>(hcop w2 · ho |>.slice)
 have hins:=ins_splice (l:=l) (col:=p) (k:=q) ⟨af,ab,ag⟩ (by rw [hll.out];exact hpq)
 rw [hll.out] at hins
 have hfin:=mend_mend (alone_insX (l:=l) (col:=p) (n:=q) ⟨af,ab,ag⟩ (by rw [hll.out];exact hpq) hwh.out)
 rw [hll.out] at hfin
 have hfin':Ac7 (Ac7 (insX l p q ⟨af,ab,ag⟩) (p - 1) (min (p+q+1) n)) (n - 1) n=insL l p q ⟨af,ab,ag⟩:=hfin
 rw [<- hins] at hfin'
 clear hfin hins
 obtain ⟨M,hMM⟩:∃ M,M=(l.drop p).take (n - p - q):=⟨_,rfl⟩
 rw [<- hMM] at hM hpart hone hcop hpt hfin'
 replace hfin':=J0 hfin'
 obtain ⟨X,hXX⟩:∃ X,X=fl cellC M:=⟨_,rfl⟩
 obtain ⟨cur,hcc⟩:∃ cur,cur=fl cellC l++tail:=⟨_,rfl⟩
 rw [<- hXX] at hM hpart hone hcop hpt
 rw [<- hcc] at hcur hrow hcop hpt
 replace hM:=J0 hM
 replace hcur:=J0 hcur
 replace hpart:=J0 hpart
 replace hone:=J0 hone
 replace hrow:=J0 hrow
 replace hcop:=J0 hcop
 replace hpt:=J0 hpt
 replace hMM:=J0 hMM
 replace hXX:=J0 hXX
 replace hcc:=J0 hcc
 have hs1:=J0 hR1.slice
 have hs1d:=J0 hR1.drawn.slice
 have hwr:IntKind.i64.wrap ((p:Int)+(q:Int))=(p:Int)+(q:Int):=IntWalk.i64_in _ (by omega)
 have hw0:(0:Int)<=(p:Int)+(q:Int):=by omega
 have hw1:(p:Int)+(q:Int)<=(n:Int):=by omega
 have hw2:((p:Int)+(q:Int)).toNat=p+q:=by omega
 have hw3:(p:Int)<=(n:Int):=by omega
 have hw4:p+q<=cap:=by omega
 have hw5:p<=cap:=by omega
 obtain ⟨ad1,had1⟩:∃ ad1,(if cap=p+q then (some ⟨g,0,none⟩:Option Addr) else some ⟨g,(p+q)*10,none⟩)=ad1:=⟨_,rfl⟩
 obtain ⟨ad2,had2⟩:∃ ad2,(if cap=p then (some ⟨g,0,none⟩:Option Addr) else some ⟨g,p*10,none⟩)=ad2:=⟨_,rfl⟩
 have hd1:Hid (0<n - (p+q)->ad1=some ⟨g,(p+q)*10,none⟩):=J0 fun h0=>by rw [<- had1];exact if_neg (by omega)
 have hd2:Hid (0<n - p->ad2=some ⟨g,p*10,none⟩):=J0 fun h0=>by rw [<- had2];exact if_neg (by omega)
 clear hR1
 go_region_held3 (fun w'=>w'.cell? ⟨d,0,none⟩=some (.slice (some ⟨g,0,none⟩) n cap))
  (first|exact hs1.out|exact hs1d.out|exact hpt.out _ ho2 hr2.out|go_keep)
  (first
   |(refine Ar7 rfl (.tmp 26) (.tmp 32) 299 299 rfl 304 10 Tryz.underlying299 Cl4 _ _ _ _ _ _ rfl rfl g ((p+q)*10) cur 304 hrow.out X (by rw [hM.out];congr 1;omega) (fun h1 h2=>⟨hd1.out h2,_,hd2.out h1,hpart.out⟩) (by rw [hM.out,hcur.out];omega) hone.out ?_;intro w2 hr2 ho2))
 clear hwr hw0 hw1 hw2 hw3 hw4 hw5 had1 had2 hd1 hd2
 have hL1:=hL.out.drewN 1
 have hR2:=hcop.out _ hr2.out ho2
 have ho2':Only [g] w w2:=(Only.of_below hL1.below _).trans ho2
 obtain ⟨hb0,hb1,hb2⟩:=Block.box ((hbx0.out.only (Only.drewN [] w1 1) (by simp)).only ho2 (by simpa using hne))
 have hcl:=Bk9 q (by omega) ⟨af,ab,ag⟩
 simp only at hcl
 replace hcl:=J0 hcl
 replace hR2:=J0 hR2
 replace ho2':=J0 ho2'
 clear hcop hpt hrow hone hpart hM hcur hMM hXX hcc hs1 hs1d hL1 hr2 ho2 hL hbx0
 go_wp2_with ((go_at_call 352;(with_reducible refine (hcl.out _).mono ?_);rintro e w3 ⟨g3,rfl,hb3,hbel3,hg3⟩))
 have hR3:=hR2.out.below hbel3
 with_reducible refine (Bj1 hR3 p q ⟨af,ab,ag⟩ hpq g3 hb3).mono ?_
 rintro e w4 ⟨⟨v4,rfl⟩,hR4,ho4⟩
 have hm5:=J0 (Bz0 hR4.drawn n n (J5 _) (J5 _) (by omega))
 rw [show min (n+1) n=n by omega] at hm5
 have ho4':Only [g] w w4:=(ho2'.out.trans (Only.of_below hbel3 _)).trans ho4
 have hs4:=hR4.slice
 have hs4d:=hR4.drawn.slice
 replace ho4':=J0 ho4'
 clear hR2 hR3 hR4 ho4 ho2' hb3 hbel3 hg3 hb0 hb1 hb2 hcl
 go_wp2_with fail
 go_region_held3 (fun w'=>w'.cell? ⟨d,0,none⟩=some (.slice (some ⟨g,0,none⟩) n cap))
  (first|exact hs4|exact hs4d|exact hR5.slice|go_keep)
  (first
   |(go_at_call 353;(with_reducible refine (hm5.out).mono ?_);rintro e w5 ⟨⟨v5,rfl⟩,hR5,ho5⟩))
 have hres:=J0 (And.intro hR5 ((ho4'.out.trans (Only.drewN _ _ 1)).trans ho5))
 clear hR5 ho5 hm5 ho4' hs4 hs4d
 go_wp2
 go_ret
 exact ⟨rfl,by rw [<- hfin'.out];exact hres.out⟩
theorem delete_any (h:RowX w d g n cap tail l) (hwh:Aj4 l) (col k:Int) (a:At) :
  Calls Tryz.prog 383 #[.pointer (some ⟨d,0,none⟩),.int .i64 col,.int .i64 k,.agg #[.int .u32 a.f,.int .u32 a.b,.int .u16 a.g]] w (Au4 w d g n cap tail (delL l (Ab1 col n) (Ab1 k (n - Ab1 col n)) a) (.int .i64 0)):=by
 obtain ⟨af,ab,ag⟩:=a
 have hn:=h.pos
 have hn5:=h.small
 have hle:=h.le
 have hcm:=h.cap
 unfold maxLen at hcm
 have hn0:((n:Int) == 0)=false:=beq_eq_false_iff_ne.2 (by omega)
 have hL:=Aw1 h af ab ag
 have hbx0:=Block.made w 56 #[.int .u32 af,.int .u32 ab,.int .u16 ag]
 have hgw:=h.row.lt
 have hlen:=J0 (Ah1 hL.row)
 have hspan:=Cb1 hL.row col k
 have hp:Ab1 col n<=n:=Nat.min_le_right _ _
 have hq:Ab1 k (n - Ab1 col n)<=n - Ab1 col n:=Nat.min_le_right _ _
 generalize Ab1 k (n - Ab1 col n)=q at hspan hq |-
 generalize Ab1 col n=p at hspan hp hq |-
 have hpq:p+q<=n:=by omega
 simp only
 have hs0:=hL.row.slice
 replace hspan:=J0 hspan
 replace hL:=J0 hL
 replace hbx0:=J0 hbx0
 have hll:=J0 h.len
 have hcl:=Bk9 q (by omega) ⟨af,ab,ag⟩
 simp only at hcl
 replace hcl:=J0 hcl
 have hlen1:(setL l p (List.replicate q (clr ⟨af,ab,ag⟩))).length=n:=by rw [Ah2 (by simp [h.len];omega),h.len]
 have hwX:=Bj5 (l:=l) (col:=p) (n:=q) ⟨af,ab,ag⟩ (by rw [h.len];exact hpq) hwh
 have hsp:=del_splice (l:=setL l p (List.replicate q (clr ⟨af,ab,ag⟩))) (col:=p) (k:=q) ⟨af,ab,ag⟩ (by rw [hlen1];exact hpq)
 rw [hlen1] at hsp
 have hfin:Ac7 (splice (splice (setL l p (List.replicate q (clr ⟨af,ab,ag⟩))) p ((setL l p (List.replicate q (clr ⟨af,ab,ag⟩))).drop (p+q))) (n - q) (List.replicate q (clr ⟨af,ab,ag⟩))) ((n - q) - 1) (min ((n - q)+q+1) n)=delL l p q ⟨af,ab,ag⟩:=by
  rw [hsp]
  exact mendTo_whole hwX _ _
 rw [<- hfin]
 have hst:=fun w1 (h1:Like w d g n cap tail l w1) g2 hb=>Bj0 h1.row hwh p q ⟨af,ab,ag⟩ hpq g2 hb
 clear hfin hsp hwX
 obtain ⟨l1,hl1⟩:∃ l1,l1=setL l p (List.replicate q (clr ⟨af,ab,ag⟩)):=⟨_,rfl⟩
 rw [<- hl1] at hlen1 hst |-
 replace hl1:=J0 hl1
 replace hst:=J0 hst
 replace hlen1:=J0 hlen1
 clear h hq hwh
 go_enter Tryz.func383,Tryz.ntmps383
 go_wp2_with (first|(go_at_call 240;(with_reducible refine (hlen.out).mono ?_);rintro e w' ⟨rfl,rfl⟩)|(go_at_call 368;(with_reducible refine (hspan.out).mono ?_);rintro e w' ⟨rfl,rfl⟩))
 obtain ⟨bx,hbx⟩:∃ bx,bx=w.heap.size:=⟨_,rfl⟩
 have hne:bx≠g:=by omega
 rw [<- hbx] at hbx0 |-
 clear hbx hgw hlen hspan hp
 obtain ⟨hb0,hb1,hb2⟩:=Block.box hbx0.out
 generalize w.alloc (.cells #[.int .u32 af,.int .u32 ab,.int .u16 ag] 56)=w1 at hL hbx0 hs0 hb0 hb1 hb2 |-
 with_reducible refine (hcl.out w1).mono ?_
 rintro e w2 ⟨g2,rfl,hb2',hbel2,hg2⟩
 have hL2:=hL.out.next hbel2
 go_wp2_with fail
 with_reducible refine (hst.out _ hL2 g2 hb2').mono ?_
 rintro e w3 ⟨⟨v3,rfl⟩,hR3,ho3⟩
 have ho3':=(hL2.turned hR3 ho3).2
 have hbx3:=(hbx0.out.only (Only.of_below hbel2 []) (by simp)).only ho3 (by simpa using hne)
 clear hb0 hb1 hb2 hb2' hbel2 hg2 hL2 ho3 hL hbx0 hs0
 have hM:=Bf8 l1 (p+q) (n - p - q) (by rw [hlen1.out];omega)
 have hcur:=hR3.curLen
 have hpart:=hR3.drawn.part (p+q) (n - p - q) (by omega)
 have hone:=Bd8 Ak5 ((l1.drop (p+q)).take (n - p - q))
 have hrow:=hR3.drawn.row
 have hcop:=fun w2 hb ho=>hR3.drawn.copied (w':=w2) p ((l1.drop (p+q)).take (n - p - q)) (by simp [hlen1.out];omega) hb ho
 have hpt:=fun w2 (ho:Only [g] w3.drew w2)=>(hcop w2 · ho |>.slice)
 have htk:(l1.drop (p+q)).take (n - p - q)=l1.drop (p+q):=List.take_of_length_le (by simp [hlen1.out];omega)
 rw [htk] at hM hpart hone hcop hpt
 clear htk
 obtain ⟨M,hMM⟩:∃ M,M=l1.drop (p+q):=⟨_,rfl⟩
 rw [<- hMM] at hM hpart hone hcop hpt
 obtain ⟨X,hXX⟩:∃ X,X=fl cellC M:=⟨_,rfl⟩
 obtain ⟨cur,hcc⟩:∃ cur,cur=fl cellC l1++tail:=⟨_,rfl⟩
 rw [<- hXX] at hM hpart hone hcop hpt
 rw [<- hcc] at hcur hrow hcop hpt
 replace hM:=J0 hM
 replace hcur:=J0 hcur
 replace hpart:=J0 hpart
 replace hone:=J0 hone
 replace hrow:=J0 hrow
 replace hcop:=J0 hcop
 replace hpt:=J0 hpt
 replace hMM:=J0 hMM
 replace hXX:=J0 hXX
 replace hcc:=J0 hcc
 have hs1:=hR3.slice
 have hs1d:=J0 hR3.drawn.slice
 replace hbx3:=J0 hbx3
 replace ho3':=J0 ho3'
 clear hR3
 go_wp2_with fail
 have hwr:IntKind.i64.wrap ((p:Int)+(q:Int))=(p:Int)+(q:Int):=IntWalk.i64_in _ (by omega)
 have hw0:(0:Int)<=(p:Int)+(q:Int):=by omega
 have hw1:(p:Int)+(q:Int)<=(n:Int):=by omega
 have hw2:((p:Int)+(q:Int)).toNat=p+q:=by omega
 have hw3:(p:Int)<=(n:Int):=by omega
 have hw4:p+q<=cap:=by omega
 have hw5:p<=cap:=by omega
 obtain ⟨ad1,had1⟩:∃ ad1,(if cap=p+q then (some ⟨g,0,none⟩:Option Addr) else some ⟨g,(p+q)*10,none⟩)=ad1:=⟨_,rfl⟩
 obtain ⟨ad2,had2⟩:∃ ad2,(if cap=p then (some ⟨g,0,none⟩:Option Addr) else some ⟨g,p*10,none⟩)=ad2:=⟨_,rfl⟩
 have hd1:Hid (0<n - (p+q)->ad1=some ⟨g,(p+q)*10,none⟩):=J0 fun h0=>by rw [<- had1];exact if_neg (by omega)
 have hd2:Hid (0<n - p->ad2=some ⟨g,p*10,none⟩):=J0 fun h0=>by rw [<- had2];exact if_neg (by omega)
 go_region_held3 (fun w'=>w'.cell? ⟨d,0,none⟩=some (.slice (some ⟨g,0,none⟩) n cap))
  (first|exact hs1|exact hs1d.out|exact hpt.out _ ho4 hr4.out|go_keep)
  (first
   |(refine Ar7 rfl (.tmp 38) (.tmp 46) 299 299 rfl 304 10 Tryz.underlying299 Cl4 _ _ _ _ _ _ rfl rfl g (p*10) cur 304 hrow.out X (by rw [hM.out];congr 1;omega) (fun h1 h2=>⟨hd2.out h2,_,hd1.out h1,hpart.out⟩) (by rw [hM.out,hcur.out];omega) hone.out ?_;intro w4 hr4 ho4))
 clear hwr hw0 hw1 hw2 hw3 hw4 hw5 had1 had2 hd1 hd2
 have hR4:=hcop.out _ hr4.out ho4
 have ho4':Only [g] w w4:=(ho3'.out.trans (Only.drewN _ _ 1)).trans ho4
 obtain ⟨hb0,hb1,hb2⟩:=Block.box ((hbx3.out.only (Only.drewN [] w3 1) (by simp)).only ho4 (by simpa using hne))
 replace hR4:=J0 hR4
 replace ho4':=J0 ho4'
 clear hcop hpt hrow hone hpart hM hcur hXX hcc hs1 hs1d hr4 ho4 ho3' hbx3
 have hnq:((n - q:Nat):Int)=(n:Int) - (q:Int):=by omega
 go_wp2_with ((go_at_call 352;(with_reducible refine (hcl.out _).mono ?_);rintro e w5 ⟨g5,rfl,hb5,hbel5,hg5⟩))
 have hR5:=hR4.out.below hbel5
 have hss:=Bj1 hR5 (n - q) q ⟨af,ab,ag⟩ (by omega) g5 hb5
 rw [hnq] at hss
 with_reducible refine hss.mono ?_
 rintro e w6 ⟨⟨v6,rfl⟩,hR6,ho6⟩
 have hres:=J0 (And.intro hR6 ((ho4'.out.trans (Only.of_below hbel5 _)).trans ho6))
 clear hR6 ho6 hss hR5 hb5 hbel5 hg5 hR4 ho4' hb0 hb1 hb2 hnq
 go_wp2
 go_ret
 exact ⟨rfl,by rw [<- hMM.out];exact hres.out⟩
end
def NewDone (w:World) (n:Nat) (e:Ending) (w':World):Prop:=∃ d g,e=.returned (.tuple #[.pointer (some ⟨d,0,none⟩),.int .i64 0])/\RowX w' d g n n [] (List.replicate n (clr zeroAt))/\Below w.heap.size w w'/\w.heap.size<=d/\w.heap.size<=g
theorem new_yes (n:Nat) (h1:1<=n) (h2:n<=512) (w:World):Calls Tryz.prog 294 #[.int .i64 n] w (NewDone w n):=by
 have hmc:=J0 (mayCount_yes n (by omega) (by omega))
 have hcl:=Bk9 n h2 zeroAt
 simp only [zeroAt] at hcl
 replace hcl:=J0 hcl
 go_enter Tryz.func294,Tryz.ntmps294
 go_wp2_with (first
  |(go_at_call 351;(with_reducible refine (hmc.out _).mono ?_);rintro e w' ⟨rfl,rfl⟩)
  |(go_at_call 352;(with_reducible refine (hcl.out _).mono ?_);rintro e w1 ⟨g1,rfl,hb1,hbel1,hg1⟩))
 go_ret2
 have hlt:=hb1.lt
 refine ⟨w1.heap.size,g1,rfl,⟨Block.made w1 _ _,by rw [List.append_nil];exact hb1.alloc _,by simp,J5 _,by unfold maxLen;omega,h1,h2⟩,hbel1.alloc hbel1.size _,hbel1.size,hg1⟩
