/- Part 8 of HostSplits. -/
import Derived.Test.YtecnpoigegiooaaGreatDoorP07
set_option maxHeartbeats 16000000
set_option maxRecDepth 100000
namespace Go.Proofs.YtecnpoigegiooaaGreatDoor.Rw
open Go RowKit Com
theorem ins_splice {l:List Cel} {col k:Nat} (a:At) (h:col+k<=l.length):splice (splice l (col+k) ((l.drop col).take (l.length - col - k))) col (List.replicate k (clr a))=insX l col k a:=by
 have hM:((l.drop col).take (l.length - col - k)).length=l.length - col - k:=by simp
 unfold insX
 generalize (l.drop col).take (l.length - col - k)=M at hM
 have e1:splice l (col+k) M=l.take (col+k)++M:=by
  unfold splice
  rw[hM,List.drop_eq_nil_of_le (by omega),List.append_nil]
 rw[e1]
 unfold splice
 rw[List.take_append_of_le_length (by simp;omega),List.take_take,Nat.min_eq_left (by omega),List.length_replicate]
 congr 2
 rw[List.drop_append,List.drop_eq_nil_of_le (by simp;omega)]
 simp only[List.nil_append,List.length_take,Nat.min_eq_left h,Nat.sub_self,List.drop_zero]
theorem del_splice {l:List Cel} {col k:Nat} (a:At) (h:col+k<=l.length):splice (splice l col (l.drop (col+k))) (l.length - k) (List.replicate k (clr a))=l.take col++(l.drop (col+k)++List.replicate k (clr a)):=by
 have hM:(l.drop (col+k)).length=l.length - k - col:=by simp;omega
 generalize l.drop (col+k)=M at hM
 unfold splice
 have e0:(l.take col++(M++l.drop (col+M.length))).length=l.length:=by simp;omega
 have e1:(l.take col++(M++l.drop (col+M.length))).take (l.length - k)=l.take col++M:=by
  rw[<- List.append_assoc,List.take_append_of_le_length (by simp;omega),List.take_of_length_le (by simp;omega)]
 rw[e1,List.length_replicate,List.drop_eq_nil_of_le (by rw[e0];omega),List.append_nil,List.append_assoc]
theorem RowX.part {w:World} {d g n cap:Nat} {tail:List Value} {l:List Cel} (h:RowX w d g n cap tail l) (c m:Nat) (hc:c+m<=n):∀j v,(fl cellC ((l.drop c).take m))[j]?=some v->w.cell? ((⟨g,c*10,none⟩:Addr).add j)=some v:=by
 intro j v hj
 rw[Addr.add_lit]
 refine h.row.cell _ ?_
 have hl:=h.len
 rw[<- Bn6 cellC_length _ _ (by simp;omega),<- Bn5 cellC_length _ _ (by omega),List.getElem?_take] at hj
 split at hj
 ·rw[List.getElem?_drop] at hj
  have hlt:=(List.getElem?_eq_some_iff.1 hj).1
  simp only[List.getElem?_toArray]
  rw[List.getElem?_append_left hlt]
  exact hj
 ·cases hj
theorem Bg7 (l:List Cel) (c m:Nat) (h:c+m<=l.length):(fl cellC ((l.drop c).take m)).length=m*10:=by rw[Ab8 cellC_length];simp;omega
theorem RowX.curLen {w:World} {d g n cap:Nat} {tail:List Value} {l:List Cel} (h:RowX w d g n cap tail l):(fl cellC l++tail).length=n*10+tail.length:=by rw[List.length_append,Ab8 cellC_length,h.len]
theorem RowX.copied {w w':World} {d g n cap:Nat} {tail:List Value} {l:List Cel} (h:RowX w d g n cap tail l) (at':Nat) (M:List Cel) (hM:at'+M.length<=n) (hb:Block w' g 194 (splice (Rw.fl cellC l++tail) (at'*10) (Rw.fl cellC M)).toArray) (ho:Only [g] w w') :
  RowX w' d g n cap tail (splice l at' M):=by
 have hl:=h.len
 refine h.turned ho ?_ (length_splice _ _ _ (by omega))
 rw[<- Ai8 cellC_length l M tail at' (by omega)]
 exact hb
theorem Block.box {w:World} {bx:Nat} {f b g:Int} (h:Block w bx 51 #[.int .u32 f,.int .u32 b,.int .u16 g]):w.cell? ⟨bx,0,none⟩=some (.int .u32 f)/\w.cell? ⟨bx,1,none⟩=some (.int .u32 b)/\w.cell? ⟨bx,2,none⟩=some (.int .u16 g):=⟨h.cell 0 rfl,h.cell 1 rfl,h.cell 2 rfl⟩
section
variable {w:World}{d g n cap:Nat}{tail:List Value}{l:List Cel}
theorem insert_any (h:RowX w d g n cap tail l) (hwh:Aj0 l) (col k:Int) (a:At) :
  Calls Tryz.prog 169 #[.pointer (some ⟨d,0,none⟩),.int .i64 col,.int .i64 k,.agg #[.int .u32 a.f,.int .u32 a.b,.int .u16 a.g]] w (Au9 w d g n cap tail (insL l (Ab0 col n) (Ab0 k (n - Ab0 col n)) a) (.int .i64 0)):=by
 obtain⟨af,ab,ag⟩:=a
 have hn:=h.pos
 have hn5:=h.small
 have hle:=h.le
 have hcm:=h.cap
 unfold maxLen at hcm
 have hn0:((n:Int) == 0)=false:=beq_eq_false_iff_ne.2 (by omega)
 have hL:=Aw6 h af ab ag
 have hbx0:=Block.made w 51 #[.int .u32 af,.int .u32 ab,.int .u16 ag]
 have hgw:=h.row.lt
 have hlen:=J0 (Ag5 hL.row)
 have hspan:=Cc9 hL.row col k
 have hp:Ab0 col n<=n:=Nat.min_le_right _ _
 have hq:Ab0 k (n - Ab0 col n)<=n - Ab0 col n:=Nat.min_le_right _ _
 generalize Ab0 k (n - Ab0 col n)=q at hspan hq |-
 generalize Ab0 col n=p at hspan hp hq |-
 have hpq:p+q<=n:=by omega
 simp only
 replace hspan:=J0 hspan
 replace hL:=J0 hL
 replace hbx0:=J0 hbx0
 replace hwh:=J0 hwh
 have hll:=J0 h.len
 clear h hq
 go_enter Tryz.func169,Tryz.ntmps169
 go_wp2_with (first|(go_at_call 99;(with_reducible refine(hlen.out).mono ?_);rintro e w' ⟨rfl,rfl⟩)|(go_at_call 226;(with_reducible refine(hspan.out).mono ?_);rintro e w' ⟨rfl,rfl⟩))
 obtain⟨bx,hbx⟩:∃bx,bx=w.heap.size:=⟨_,rfl⟩
 have hne:bx≠g:=by omega
 rw[<- hbx] at hbx0 |-
 clear hbx hgw hlen hspan hp
 generalize w.alloc (.cells #[.int .u32 af,.int .u32 ab,.int .u16 ag] 51)=w1 at hL hbx0 |-
 have hR1:=hL.out.row
 have hM:=Bg7 l p (n - p - q) (by rw[hll.out];omega)
 have hcur:=hR1.curLen
 have hpart:=hR1.drawn.part p (n - p - q) (by omega)
 have hone:=Be8 Ak6 ((l.drop p).take (n - p - q))
 have hrow:=hR1.drawn.row
 have hcop:=fun w2 hb ho=>hR1.drawn.copied (w':=w2) (p+q) ((l.drop p).take (n - p - q)) (by simp[hll.out];omega) hb ho
 have hpt:=fun w2 (ho:Only [g] w1.drew w2)=>(hcop w2 · ho |>.slice)
 have hins:=ins_splice (l:=l) (col:=p) (k:=q) ⟨af,ab,ag⟩ (by rw[hll.out];exact hpq)
 rw[hll.out] at hins
 have hfin:=mend_mend (alone_insX (l:=l) (col:=p) (n:=q) ⟨af,ab,ag⟩ (by rw[hll.out];exact hpq) hwh.out)
 rw[hll.out] at hfin
 have hfin':Ac8 (Ac8 (insX l p q ⟨af,ab,ag⟩) (p - 1) (min (p+q+1) n)) (n - 1) n=insL l p q ⟨af,ab,ag⟩:=hfin
 rw[<- hins] at hfin'
 clear hfin hins
 obtain⟨M,hMM⟩:∃M,M=(l.drop p).take (n - p - q):=⟨_,rfl⟩
 rw[<- hMM] at hM hpart hone hcop hpt hfin'
 replace hfin':=J0 hfin'
 obtain⟨X,hXX⟩:∃X,X=fl cellC M:=⟨_,rfl⟩
 obtain⟨cur,hcc⟩:∃cur,cur=fl cellC l++tail:=⟨_,rfl⟩
 rw[<- hXX] at hM hpart hone hcop hpt
 rw[<- hcc] at hcur hrow hcop hpt
 replace hM:=J0 hM
 replace hcur:=J0 hcur
 replace hpart:=J0 hpart
 replace hone:=J0 hone
 replace hrow:=J0 hrow
 replace hcop:=J0 hcop
 replace hpt:=J0 hpt
 replace hMM:=J0 hMM
 replace hXX:=J0 hXX
 replace hcc:=J0 hcc
 have hs1:=J0 hR1.slice
 have hs1d:=J0 hR1.drawn.slice
 have hwr:IntKind.i64.wrap ((p:Int)+(q:Int))=(p:Int)+(q:Int):=IntWalk.i64_in _ (by omega)
 have hw0:(0:Int)<=(p:Int)+(q:Int):=by omega
 have hw1:(p:Int)+(q:Int)<=(n:Int):=by omega
 have hw2:((p:Int)+(q:Int)).toNat=p+q:=by omega
 have hw3:(p:Int)<=(n:Int):=by omega
 have hw4:p+q<=cap:=by omega
 have hw5:p<=cap:=by omega
 obtain⟨ad1,had1⟩:∃ad1,(if cap=p+q then (some ⟨g,0,none⟩:Option Addr) else some ⟨g,(p+q)*10,none⟩)=ad1:=⟨_,rfl⟩
 obtain⟨ad2,had2⟩:∃ad2,(if cap=p then (some ⟨g,0,none⟩:Option Addr) else some ⟨g,p*10,none⟩)=ad2:=⟨_,rfl⟩
 have hd1:Hid (0<n - (p+q)->ad1=some ⟨g,(p+q)*10,none⟩):=J0 fun h0=>by rw[<- had1];exact if_neg (by omega)
 have hd2:Hid (0<n - p->ad2=some ⟨g,p*10,none⟩):=J0 fun h0=>by rw[<- had2];exact if_neg (by omega)
 clear hR1
 go_region_held3 (fun w'=>w'.cell? ⟨d,0,none⟩=some (.slice (some ⟨g,0,none⟩) n cap))
  (first|exact hs1.out|exact hs1d.out|exact hpt.out _ ho2 hr2.out|go_keep)
  (first
   |(refine Ar9 rfl (.tmp 26) (.tmp 32) 189 189 rfl 194 10 Tryz.underlying189 Co6 _ _ _ _ _ _ rfl rfl g ((p+q)*10) cur 194 hrow.out X (by rw[hM.out];congr 1;omega) (fun h1 h2=>⟨hd1.out h2,_,hd2.out h1,hpart.out⟩) (by rw[hM.out,hcur.out];omega) hone.out ?_;intro w2 hr2 ho2))
 clear hwr hw0 hw1 hw2 hw3 hw4 hw5 had1 had2 hd1 hd2
 have hL1:=hL.out.drewN 1
 have hR2:=hcop.out _ hr2.out ho2
 have ho2':Only [g] w w2:=(Only.of_below hL1.below _).trans ho2
 obtain⟨hb0,hb1,hb2⟩:=Block.box ((hbx0.out.only (Only.drewN [] w1 1) (by simp)).only ho2 (by simpa using hne))
 have hcl:=Bn0 q (by omega) ⟨af,ab,ag⟩
 simp only at hcl
 replace hcl:=J0 hcl
 replace hR2:=J0 hR2
 replace ho2':=J0 ho2'
 clear hcop hpt hrow hone hpart hM hcur hMM hXX hcc hs1 hs1d hL1 hr2 ho2 hL hbx0
 go_wp2_with ((go_at_call 214;(with_reducible refine(hcl.out _).mono ?_);rintro e w3 ⟨g3,rfl,hb3,hbel3,hg3⟩))
 have hR3:=hR2.out.below hbel3
 with_reducible refine(Bl1 hR3 p q ⟨af,ab,ag⟩ hpq g3 hb3).mono ?_
 rintro e w4 ⟨⟨v4,rfl⟩,hR4,ho4⟩
 have hm5:=J0 (Ca8 hR4.drawn n n (J5 _) (J5 _) (by omega))
 rw[show min (n+1) n=n by omega] at hm5
 have ho4':Only [g] w w4:=(ho2'.out.trans (Only.of_below hbel3 _)).trans ho4
 have hs4:=hR4.slice
 have hs4d:=hR4.drawn.slice
 replace ho4':=J0 ho4'
 clear hR2 hR3 hR4 ho4 ho2' hb3 hbel3 hg3 hb0 hb1 hb2 hcl
 go_wp2_with fail
 go_region_held3 (fun w'=>w'.cell? ⟨d,0,none⟩=some (.slice (some ⟨g,0,none⟩) n cap))
  (first|exact hs4|exact hs4d|exact hR5.slice|go_keep)
  (first
   |(go_at_call 227;(with_reducible refine(hm5.out).mono ?_);rintro e w5 ⟨⟨v5,rfl⟩,hR5,ho5⟩))
 have hres:=J0 (And.intro hR5 ((ho4'.out.trans (Only.drewN _ _ 1)).trans ho5))
 clear hR5 ho5 hm5 ho4' hs4 hs4d
 go_wp2
 go_ret
 exact⟨rfl,by rw[<- hfin'.out];exact hres.out⟩
theorem delete_any (h:RowX w d g n cap tail l) (hwh:Aj0 l) (col k:Int) (a:At) :
  Calls Tryz.prog 244 #[.pointer (some ⟨d,0,none⟩),.int .i64 col,.int .i64 k,.agg #[.int .u32 a.f,.int .u32 a.b,.int .u16 a.g]] w (Au9 w d g n cap tail (delL l (Ab0 col n) (Ab0 k (n - Ab0 col n)) a) (.int .i64 0)):=by
 obtain⟨af,ab,ag⟩:=a
 have hn:=h.pos
 have hn5:=h.small
 have hle:=h.le
 have hcm:=h.cap
 unfold maxLen at hcm
 have hn0:((n:Int) == 0)=false:=beq_eq_false_iff_ne.2 (by omega)
 have hL:=Aw6 h af ab ag
 have hbx0:=Block.made w 51 #[.int .u32 af,.int .u32 ab,.int .u16 ag]
 have hgw:=h.row.lt
 have hlen:=J0 (Ag5 hL.row)
 have hspan:=Cc9 hL.row col k
 have hp:Ab0 col n<=n:=Nat.min_le_right _ _
 have hq:Ab0 k (n - Ab0 col n)<=n - Ab0 col n:=Nat.min_le_right _ _
 generalize Ab0 k (n - Ab0 col n)=q at hspan hq |-
 generalize Ab0 col n=p at hspan hp hq |-
 have hpq:p+q<=n:=by omega
 simp only
 have hs0:=hL.row.slice
 replace hspan:=J0 hspan
 replace hL:=J0 hL
 replace hbx0:=J0 hbx0
 have hll:=J0 h.len
 have hcl:=Bn0 q (by omega) ⟨af,ab,ag⟩
 simp only at hcl
 replace hcl:=J0 hcl
 have hlen1:(setL l p (List.replicate q (clr ⟨af,ab,ag⟩))).length=n:=by rw[Ag6 (by simp[h.len];omega),h.len]
 have hwX:=Bl5 (l:=l) (col:=p) (n:=q) ⟨af,ab,ag⟩ (by rw[h.len];exact hpq) hwh
 have hsp:=del_splice (l:=setL l p (List.replicate q (clr ⟨af,ab,ag⟩))) (col:=p) (k:=q) ⟨af,ab,ag⟩ (by rw[hlen1];exact hpq)
 rw[hlen1] at hsp
 have hfin:Ac8 (splice (splice (setL l p (List.replicate q (clr ⟨af,ab,ag⟩))) p ((setL l p (List.replicate q (clr ⟨af,ab,ag⟩))).drop (p+q))) (n - q) (List.replicate q (clr ⟨af,ab,ag⟩))) ((n - q) - 1) (min ((n - q)+q+1) n)=delL l p q ⟨af,ab,ag⟩:=by
  rw[hsp]
  exact mendTo_whole hwX _ _
 rw[<- hfin]
 have hst:=fun w1 (h1:Like w d g n cap tail l w1) g2 hb=>Bl0 h1.row hwh p q ⟨af,ab,ag⟩ hpq g2 hb
 clear hfin hsp hwX
 obtain⟨l1,hl1⟩:∃l1,l1=setL l p (List.replicate q (clr ⟨af,ab,ag⟩)):=⟨_,rfl⟩
 rw[<- hl1] at hlen1 hst |-
 replace hl1:=J0 hl1
 replace hst:=J0 hst
 replace hlen1:=J0 hlen1
 clear h hq hwh
 go_enter Tryz.func244,Tryz.ntmps244
 go_wp2_with (first|(go_at_call 99;(with_reducible refine(hlen.out).mono ?_);rintro e w' ⟨rfl,rfl⟩)|(go_at_call 226;(with_reducible refine(hspan.out).mono ?_);rintro e w' ⟨rfl,rfl⟩))
 obtain⟨bx,hbx⟩:∃bx,bx=w.heap.size:=⟨_,rfl⟩
 have hne:bx≠g:=by omega
 rw[<- hbx] at hbx0 |-
 clear hbx hgw hlen hspan hp
 obtain⟨hb0,hb1,hb2⟩:=Block.box hbx0.out
 generalize w.alloc (.cells #[.int .u32 af,.int .u32 ab,.int .u16 ag] 51)=w1 at hL hbx0 hs0 hb0 hb1 hb2 |-
 with_reducible refine(hcl.out w1).mono ?_
 rintro e w2 ⟨g2,rfl,hb2',hbel2,hg2⟩
 have hL2:=hL.out.next hbel2
 go_wp2_with fail
 with_reducible refine(hst.out _ hL2 g2 hb2').mono ?_
 rintro e w3 ⟨⟨v3,rfl⟩,hR3,ho3⟩
 have ho3':=(hL2.turned hR3 ho3).2
 have hbx3:=(hbx0.out.only (Only.of_below hbel2 []) (by simp)).only ho3 (by simpa using hne)
 clear hb0 hb1 hb2 hb2' hbel2 hg2 hL2 ho3 hL hbx0 hs0
 have hM:=Bg7 l1 (p+q) (n - p - q) (by rw[hlen1.out];omega)
 have hcur:=hR3.curLen
 have hpart:=hR3.drawn.part (p+q) (n - p - q) (by omega)
 have hone:=Be8 Ak6 ((l1.drop (p+q)).take (n - p - q))
 have hrow:=hR3.drawn.row
 have hcop:=fun w2 hb ho=>hR3.drawn.copied (w':=w2) p ((l1.drop (p+q)).take (n - p - q)) (by simp[hlen1.out];omega) hb ho
 have hpt:=fun w2 (ho:Only [g] w3.drew w2)=>(hcop w2 · ho |>.slice)
 have htk:(l1.drop (p+q)).take (n - p - q)=l1.drop (p+q):=List.take_of_length_le (by simp[hlen1.out];omega)
 rw[htk] at hM hpart hone hcop hpt
 clear htk
 obtain⟨M,hMM⟩:∃M,M=l1.drop (p+q):=⟨_,rfl⟩
 rw[<- hMM] at hM hpart hone hcop hpt
 obtain⟨X,hXX⟩:∃X,X=fl cellC M:=⟨_,rfl⟩
 obtain⟨cur,hcc⟩:∃cur,cur=fl cellC l1++tail:=⟨_,rfl⟩
 rw[<- hXX] at hM hpart hone hcop hpt
 rw[<- hcc] at hcur hrow hcop hpt
 replace hM:=J0 hM
 replace hcur:=J0 hcur
 replace hpart:=J0 hpart
 replace hone:=J0 hone
 replace hrow:=J0 hrow
 replace hcop:=J0 hcop
 replace hpt:=J0 hpt
 replace hMM:=J0 hMM
 replace hXX:=J0 hXX
 replace hcc:=J0 hcc
 have hs1:=hR3.slice
 have hs1d:=J0 hR3.drawn.slice
 replace hbx3:=J0 hbx3
 replace ho3':=J0 ho3'
 clear hR3
 go_wp2_with fail
 have hwr:IntKind.i64.wrap ((p:Int)+(q:Int))=(p:Int)+(q:Int):=IntWalk.i64_in _ (by omega)
 have hw0:(0:Int)<=(p:Int)+(q:Int):=by omega
 have hw1:(p:Int)+(q:Int)<=(n:Int):=by omega
 have hw2:((p:Int)+(q:Int)).toNat=p+q:=by omega
 have hw3:(p:Int)<=(n:Int):=by omega
 have hw4:p+q<=cap:=by omega
 have hw5:p<=cap:=by omega
 obtain⟨ad1,had1⟩:∃ad1,(if cap=p+q then (some ⟨g,0,none⟩:Option Addr) else some ⟨g,(p+q)*10,none⟩)=ad1:=⟨_,rfl⟩
 obtain⟨ad2,had2⟩:∃ad2,(if cap=p then (some ⟨g,0,none⟩:Option Addr) else some ⟨g,p*10,none⟩)=ad2:=⟨_,rfl⟩
 have hd1:Hid (0<n - (p+q)->ad1=some ⟨g,(p+q)*10,none⟩):=J0 fun h0=>by rw[<- had1];exact if_neg (by omega)
 have hd2:Hid (0<n - p->ad2=some ⟨g,p*10,none⟩):=J0 fun h0=>by rw[<- had2];exact if_neg (by omega)
 go_region_held3 (fun w'=>w'.cell? ⟨d,0,none⟩=some (.slice (some ⟨g,0,none⟩) n cap))
  (first|exact hs1|exact hs1d.out|exact hpt.out _ ho4 hr4.out|go_keep)
  (first
   |(refine Ar9 rfl (.tmp 38) (.tmp 46) 189 189 rfl 194 10 Tryz.underlying189 Co6 _ _ _ _ _ _ rfl rfl g (p*10) cur 194 hrow.out X (by rw[hM.out];congr 1;omega) (fun h1 h2=>⟨hd2.out h2,_,hd1.out h1,hpart.out⟩) (by rw[hM.out,hcur.out];omega) hone.out ?_;intro w4 hr4 ho4))
 clear hwr hw0 hw1 hw2 hw3 hw4 hw5 had1 had2 hd1 hd2
 have hR4:=hcop.out _ hr4.out ho4
 have ho4':Only [g] w w4:=(ho3'.out.trans (Only.drewN _ _ 1)).trans ho4
 obtain⟨hb0,hb1,hb2⟩:=Block.box ((hbx3.out.only (Only.drewN [] w3 1) (by simp)).only ho4 (by simpa using hne))
 replace hR4:=J0 hR4
 replace ho4':=J0 ho4'
 clear hcop hpt hrow hone hpart hM hcur hXX hcc hs1 hs1d hr4 ho4 ho3' hbx3
 have hnq:((n - q:Nat):Int)=(n:Int) - (q:Int):=by omega
 go_wp2_with ((go_at_call 214;(with_reducible refine(hcl.out _).mono ?_);rintro e w5 ⟨g5,rfl,hb5,hbel5,hg5⟩))
 have hR5:=hR4.out.below hbel5
 have hss:=Bl1 hR5 (n - q) q ⟨af,ab,ag⟩ (by omega) g5 hb5
 rw[hnq] at hss
 with_reducible refine hss.mono ?_
 rintro e w6 ⟨⟨v6,rfl⟩,hR6,ho6⟩
 have hres:=J0 (And.intro hR6 ((ho4'.out.trans (Only.of_below hbel5 _)).trans ho6))
 clear hR6 ho6 hss hR5 hb5 hbel5 hg5 hR4 ho4' hb0 hb1 hb2 hnq
 go_wp2
 go_ret
 exact⟨rfl,by rw[<- hMM.out];exact hres.out⟩
end
def NewDone (w:World) (n:Nat) (e:Ending) (w':World):Prop:=∃d g,e=.returned (.tuple #[.pointer (some ⟨d,0,none⟩),.int .i64 0])/\RowX w' d g n n [] (List.replicate n (clr zeroAt))/\Below w.heap.size w w'/\w.heap.size<=d/\w.heap.size<=g
theorem new_yes (n:Nat) (h1:1<=n) (h2:n<=512) (w:World):Calls Tryz.prog 147 #[.int .i64 n] w (NewDone w n):=by
 have hmc:=J0 (mayCount_yes n (by omega) (by omega))
 have hcl:=Bn0 n h2 zeroAt
 simp only[zeroAt] at hcl
 replace hcl:=J0 hcl
 go_enter Tryz.func147,Tryz.ntmps147
 go_wp2_with (first
  |(go_at_call 213;(with_reducible refine(hmc.out _).mono ?_);rintro e w' ⟨rfl,rfl⟩)
  |(go_at_call 214;(with_reducible refine(hcl.out _).mono ?_);rintro e w1 ⟨g1,rfl,hb1,hbel1,hg1⟩))
 go_ret2
 have hlt:=hb1.lt
 refine⟨w1.heap.size,g1,rfl,⟨Block.made w1 _ _,by rw[List.append_nil];exact hb1.alloc _,by simp,J5 _,by unfold maxLen;omega,h1,h2⟩,hbel1.alloc hbel1.size _,hbel1.size,hg1⟩
def Aj1 (c:Cel) (x:Int):Cel:=⟨c.r,c.m++[x],c.wide,c.a⟩
theorem pad4_add {m:List Int} (h:m.length<4) (x:Int):pad4 (m++[x])=(pad4 m).set m.length x:=by
 unfold pad4
 match m,h with
 |[],_=>rfl
 |[_],_=>rfl
 |[_,_],_=>rfl
 |[_,_,_],_=>rfl
theorem cellC_add {c:Cel} (h:c.m.length<4) (x:Int):cellC (Aj1 c x)=((cellC c).set (1+c.m.length) (.int .i32 x)).set 5 (.int .u8 ((c.m.length:Int)+1)):=by
 obtain⟨r,m,wd,a⟩:=c
 simp only at h
 unfold cellC Aj1
 simp only[pad4_add h]
 match m,h with
 |[],_=>rfl
 |[_],_=>rfl
 |[_,_],_=>rfl
 |[_,_,_],_=>rfl
theorem Bl2 {α:Type} (cur vs:List α) (off i:Nat) (v:α) (h:off+vs.length<=cur.length) (hi:i<vs.length):splice cur off (vs.set i v)=(splice cur off vs).set (off+i) v:=by
 unfold splice
 rw[List.set_append_right _ _ (by simp;omega),List.length_take,Nat.min_eq_left (by omega),Nat.add_sub_cancel_left,List.set_append_left _ _ hi,List.length_set]
theorem RowX.marked {w:World} {d g n cap:Nat} {tail:List Value} {l:List Cel} (h:RowX w d g n cap tail l) {i:Nat} (hi:i<l.length) (hm:l[i].m.length<4) (x:Int) :
  fl cellC (l.set i (Aj1 l[i] x))++tail=((Rw.fl cellC l++tail).set (i*10+(1+l[i].m.length)) (.int .i32 x)).set (i*10+5) (.int .u8 ((l[i].m.length:Int)+1)):=by
 have hfit:=h.fits (i:=i) (by rw[<- h.len];exact hi) l[i]
 have e1:=Ai8 cellC_length l [Aj1 l[i] x] tail i (by simp;omega)
 have e0:=Ai8 cellC_length l [l[i]] tail i (by simp;omega)
 rw[fl_one,An3 _ _ _ hi] at e1 e0
 rw[List.set_getElem_self] at e0
 rw[<- e1,cellC_add hm,Bl2 _ _ _ _ _ (by simpa using hfit) (by simp[cellC_length]),Bl2 _ _ _ _ _ hfit (by rw[cellC_length];omega),e0]
theorem cellC_mark (c:Cel) {k:Nat} (hk:k<4):∃v,(cellC c)[1+k]?=some (.int .i32 v):=by
 unfold cellC
 rw[show 1+k=k+1 by omega,List.getElem?_cons_succ,List.getElem?_append_left (by simp[pad4_length];omega),List.getElem?_map,List.getElem?_eq_getElem (by rw[pad4_length];exact hk)]
 exact⟨_,rfl⟩
section
variable {w:World}{d g n cap:Nat}{tail:List Value}{l:List Cel}
theorem cjoin_full (h:RowX w d g n cap tail l) {i:Nat} (hi:i<l.length) (hm:l[i].m.length=4) (x:Int) :
  Calls Tryz.prog 221 #[.pointer (some ⟨g,i*10,none⟩),.int .i32 x] w fun e w'=>e=.returned (.int .i64 8)/\w=w':=by
 have hc:=h.count hi
 rw[hm] at hc
 clear h
 go_enter Tryz.func221,Tryz.ntmps221
 go_wp2
 go_ret
 exact⟨rfl,rfl⟩
theorem cjoin_add (h:RowX w d g n cap tail l) {i:Nat} (hi:i<l.length) (hm:l[i].m.length<4) (x:Int) :
  Calls Tryz.prog 221 #[.pointer (some ⟨g,i*10,none⟩),.int .i32 x] w (Au9 w d g n cap tail (l.set i (Aj1 l[i] x)) (.int .i64 0)):=by
 have hc:=h.count hi
 have hmk:=h.marked hi hm x
 have hR:=h.row
 obtain⟨v0,hv0⟩:=cellC_mark l[i] hm
 have hcell:=h.at' hi (by omega) hv0
 have hfr:=fun j=>h.row.free j
 have hb1:=(h.row.set (i*10+(1+l[i].m.length)) (.int .i32 x)).set (i*10+5) (.int .u8 ((l[i].m.length:Int)+1))
 rw[J1,J1,<- hmk] at hb1
 have ho:Only [g] w ((w.setCell ⟨g,i*10+(1+l[i].m.length),none⟩ (.int .i32 x)).setCell ⟨g,i*10+5,none⟩ (.int .u8 ((l[i].m.length:Int)+1))):=by
  have o1:Only [g] w (w.setCell ⟨g,i*10+(1+l[i].m.length),none⟩ (.int .i32 x)):=Only.setCell w ⟨g,i*10+(1+l[i].m.length),none⟩ _
  exact o1.trans (Only.setCell _ ⟨g,i*10+5,none⟩ _)
 have hres:=h.turned ho hb1 (by simp)
 replace hres:=J0 (And.intro hres ho)
 clear hmk hR hb1 ho hv0
 generalize l.set i (Aj1 l[i] x)=l2 at hres |-
 generalize l[i].m.length=k at hc hm hcell hres
 have hk4:((k:Int) == 4)=false:=beq_eq_false_iff_ne.2 (by omega)
 have hfr1:=hfr (i*10+1+k)
 rw[<- Nat.add_assoc] at hcell
 have hk3:(k:Int)<4:=by omega
 have hne:i*10+5≠i*10+1+k:=by omega
 rw[show i*10+(1+k)=i*10+1+k by omega] at hres
 have hfr2:=hfr (i*10+5)
 clear h hfr
 go_enter Tryz.func221,Tryz.ntmps221
 go_wp2
 go_region
 go_wp2
 go_ret
 exact⟨rfl,hres.out.1.drawn,hres.out.2.trans (Only.drewN _ _ 1)⟩
def Ap7 (l:List Cel) (i:Nat):Nat:=if W l i=2 then i - 1 else i
theorem Bt1 {l:List Cel} {i:Nat} (h:i<l.length):Ap7 l i<l.length:=by unfold Ap7;split<;>omega
def Bo4 (l:List Cel) (i:Nat) (x:Int):List Cel:=match l[Ap7 l i]? with
 |some c=>if c.m.length<4 then l.set (Ap7 l i) (Aj1 c x) else l
 |none=>l
def Ce2 (l:List Cel) (i:Nat):Int:=match l[Ap7 l i]? with
 |some c=>if c.m.length<4 then 0 else 8
 |none=>8
theorem join_no (h:RowX w d g n cap tail l) (col x:Int) (hno:An2 x=false\/col<0\/(n:Int)<=col) :
  Calls Tryz.prog 162 #[.pointer (some ⟨d,0,none⟩),.int .i64 col,.int .i32 x] w fun e w'=>e=.returned (.int .i64 2)/\w=w':=by
 have hn:=h.pos
 have hn0:((n:Int) == 0)=false:=beq_eq_false_iff_ne.2 (by omega)
 have hlen:=J0 (Ag5 h)
 have hnot:=J0 (fun j h0=>Ca2 h j h0)
 have hmp:=Ar4 x
 by_cases h1:An2 x=false
 ·rw[h1] at hmp
  replace hmp:=J0 hmp
  clear h hno h1
  go_enter Tryz.func162,Tryz.ntmps162
  go_wp2_with (first|(go_at_call 99;(with_reducible refine(hlen.out).mono ?_);rintro e w' ⟨rfl,rfl⟩)|(go_at_call 220;(with_reducible refine(hmp.out _).mono ?_);rintro e w' ⟨rfl,rfl⟩))
  go_ret
  exact⟨rfl,rfl⟩
 ·have h1:An2 x=true:=by simpa using h1
  have h2:col<0\/(n:Int)<=col:=by
   rcases hno with hh|hh
   ·simp[h1] at hh
   ·exact hh
  rw[h1] at hmp
  replace hmp:=J0 hmp
  replace h2:=J0 h2
  clear h hno h1
  go_enter Tryz.func162,Tryz.ntmps162
  go_wp2_with (first|(go_at_call 99;(with_reducible refine(hlen.out).mono ?_);rintro e w' ⟨rfl,rfl⟩)|(go_at_call 220;(with_reducible refine(hmp.out _).mono ?_);rintro e w' ⟨rfl,rfl⟩)|(go_at_call 219;(with_reducible refine(hnot.out _ h2.out).mono ?_);rintro e w' ⟨rfl,rfl⟩))
  go_ret
  exact⟨rfl,rfl⟩
theorem join_yes (h:RowX w d g n cap tail l) (hwh:Aj0 l) (h4:∀c∈l,c.m.length<=4) (col:Nat) (x:Int) (hx:An2 x=true) (hcol:col<n) :
  Calls Tryz.prog 162 #[.pointer (some ⟨d,0,none⟩),.int .i64 col,.int .i32 x] w (Au9 w d g n cap tail (Bo4 l col x) (.int .i64 (Ce2 l col))):=by
 have hn:=h.pos
 have hn5:=h.small
 have hle:=h.le
 have hcm:=h.cap
 unfold maxLen at hcm
 have hn0:((n:Int) == 0)=false:=beq_eq_false_iff_ne.2 (by omega)
 have hlen:=J0 (Ag5 h)
 have hyes:=J0 (fun j h0 h1=>Bf7 h j h0 h1)
 have hmp:=Ar4 x
 rw[hx] at hmp
 replace hmp:=J0 hmp
 have hcl:col<l.length:=by rw[h.len];exact hcol
 have hjl:=Bt1 hcl
 have hc:=h.slice
 have hwd:=h.wide hcl
 have hWc:=W_at hcl
 have hcall:Calls Tryz.prog 221 #[.pointer (some ⟨g,Ap7 l col*10,none⟩),.int .i32 x] w (Au9 w d g n cap tail (Bo4 l col x) (.int .i64 (Ce2 l col))):=by
  unfold Bo4 Ce2
  rw[List.getElem?_eq_getElem hjl]
  simp only
  by_cases hm:l[Ap7 l col].m.length<4
  ·rw[if_pos hm,if_pos hm]
   exact cjoin_add h hjl hm x
  ·rw[if_neg hm,if_neg hm]
   refine(cjoin_full h hjl ?_ x).mono fun e w' ⟨he,hw⟩=>⟨he,hw▸h,hw▸Only.refl _ _⟩
   have:=h4 _ (List.getElem_mem hjl)
   omega
 generalize Bo4 l col x=l2 at hcall |-
 generalize Ce2 l col=v2 at hcall |-
 replace hcall:=J0 hcall
 by_cases h2:W l col=2
 ·have hpos:col≠0:=fun e=>(Ah9 l).1 hwh |>.1 (by rw[<- e];exact h2)
  rw[h2] at hWc
  rw[<- hWc] at hwd
  have hj:Ap7 l col=col - 1:=if_pos h2
  rw[hj] at hcall
  obtain⟨c,rfl⟩:∃c,col=c+1:=⟨col - 1,by omega⟩
  rw[Nat.add_sub_cancel] at hcall
  clear h hj hWc h2 hcl hjl h4 hwh hx
  go_enter Tryz.func162,Tryz.ntmps162
  go_wp2_with (first
   |(go_at_call 99;(with_reducible refine(hlen.out).mono ?_);rintro e w' ⟨rfl,rfl⟩)
   |(go_at_call 220;(with_reducible refine(hmp.out _).mono ?_);rintro e w' ⟨rfl,rfl⟩)
   |(go_at_call 219;(with_reducible refine(hyes.out _ (by omega) (by omega)).mono ?_);rintro e w' ⟨rfl,rfl⟩)
   |(go_at_call 221;(with_reducible refine(hcall.out).mono ?_);rintro e w1 ⟨rfl,hR1,ho1⟩))
  go_ret
  exact⟨rfl,hR1,ho1⟩
 ·have hj:Ap7 l col=col:=if_neg h2
  rw[hj] at hcall
  have hne:(l[col].wide == 2)=false:=by rw[<- hWc];simpa using h2
  generalize l[col].wide=wd at hwd hne
  clear h hj hWc h2 hcl hjl h4 hwh hx
  go_enter Tryz.func162,Tryz.ntmps162
  go_wp2_with (first
   |(go_at_call 99;(with_reducible refine(hlen.out).mono ?_);rintro e w' ⟨rfl,rfl⟩)
   |(go_at_call 220;(with_reducible refine(hmp.out _).mono ?_);rintro e w' ⟨rfl,rfl⟩)
   |(go_at_call 219;(with_reducible refine(hyes.out _ (by omega) (by omega)).mono ?_);rintro e w' ⟨rfl,rfl⟩)
   |(go_at_call 221;(with_reducible refine(hcall.out).mono ?_);rintro e w1 ⟨rfl,hR1,ho1⟩))
  go_ret
  exact⟨rfl,hR1,ho1⟩
end
