/- Part 7 of HostKeys. -/
import Derived.Test.YtecnpoigegiooaaGreatDoorW06
set_option maxHeartbeats 16000000
set_option maxRecDepth 100000
namespace Go.Proofs.YtecnpoigegiooaaGreatDoor.Rw
open Tryz
open Go RowKit Com
theorem Aca.drewN{w w1:World}{d g n cap:Nat}{tail:List Value}{l:List Cel}(h:Aca w d g n cap tail l w1)(q:Nat):Aca w d g n cap tail l (w1.drewN q):=h.next (C7 (Below.refl _ _) q)
section
variable {w:World}{d g n cap:Nat}{tail:List Value}{l:List Cel}
theorem Bhr(h:B7 w d g n cap tail l)(hwh:Aa3 l)(lo hi:Int)(a:At) :
  Calls prog 148 #[.pointer (some ⟨d,0,none⟩),.int .i64 lo,.int .i64 hi,.agg #[.int .u32 a.f,.int .u32 a.b,.int .u16 a.g]] w (Ahq w d g n cap tail (Ahs l (A9 lo n) (A9 hi n) a) (.int .i64 0)):=by
 have hh1:=Aeo lo n
 have hh2:=Aeo hi n
 have hp:A9 lo n<=n:=Nat.min_le_right _ _
 have hq:A9 hi n<=n:=Nat.min_le_right _ _
 generalize A9 lo n=p at hh1 hp |-
 generalize A9 hi n=q at hh2 hq |-
 obtain⟨af,ab,ag⟩:=a
 have hn:=h.pos
 have hn5:=h.small
 have hn0:((n:Int)==0)=false:=beq_eq_false_iff_ne.2 (by omega)
 have hL:=Aps h af ab ag
 have hlen:=J0 (Aas hL.row)
 have hc:=hL.row.slice
 replace hh1:=J0 hh1
 replace hh2:=J0 hh2
 simp only
 by_cases hlt:p<q
 ·have hcl:=Avl (q-p) (by omega) ⟨af,ab,ag⟩
  rw[show((q-p:Nat):Int)=(q:Int)-(p:Int)by omega]at hcl
  simp only at hcl
  have hE:Ahs l p q ⟨af,ab,ag⟩=G0 l p (List.replicate (q-p) (clr ⟨af,ab,ag⟩)):=if_pos hlt
  rw[hE]
  have hpq:p+(q-p)<=n:=by omega
  generalize hk:q-p=k at hcl hpq |-
  replace hcl:=J0 hcl
  have hst:=fun w1 (h1:Aca w d g n cap tail l w1) g2 hb=>Bgz h1.row hwh p k ⟨af,ab,ag⟩ hpq g2 hb
  replace hst:=J0 hst
  replace hL:=J0 hL
  clear h hE hk
  go_enter func148,ntmps148
  go_wp2_with(first|(go_at_call 99;(with_reducible refine(hlen.out).mono ?_);rintro e w' ⟨rfl,rfl⟩))
  go_quiet ((first|(go_at_call 215;with_reducible exact Aft (hh1.out _))|(go_at_call 215;with_reducible exact Aft (hh2.out _))))
  go_wp2_with((go_at_call 214;(with_reducible refine(hcl.out _).mono ?_);rintro e w2 ⟨g2,rfl,hb2,Aib,hg2⟩))
  have hL2:=(hL.out.drewN nq).next Aib
  with_reducible refine(hst.out _ hL2 g2 hb2).mono ?_
  rintro e w3 ⟨⟨v3,rfl⟩,hR3,ho3⟩
  have A4:=J0 (hL2.Aea hR3 ho3)
  clear hL2 hR3 ho3 hb2 Aib hg2
  go_wp2
  go_ret
  exact⟨rfl,A4.out⟩
 ·have hE:Ahs l p q ⟨af,ab,ag⟩=l:=if_neg hlt
  rw[hE]
  replace hL:=J0 hL
  clear h hE
  go_enter func148,ntmps148
  go_wp2_with(first|(go_at_call 99;(with_reducible refine(hlen.out).mono ?_);rintro e w' ⟨rfl,rfl⟩))
  go_quiet ((first|(go_at_call 215;with_reducible exact Aft (hh1.out _))|(go_at_call 215;with_reducible exact Aft (hh2.out _))))
  go_wp2
  go_ret
  exact⟨rfl,(hL.out.drewN _).stays⟩
theorem Bkk(h:B7 w d g n cap tail l)(col k:Int) :
  Calls prog 226 #[.pointer (some ⟨d,0,none⟩),.int .i64 col,.int .i64 k] w fun e w'=>e=.returned (.tuple #[.int .i64 (A9 col n),.int .i64 (A9 k (n-A9 col n))])/\w=w':=by
 have hh1:=Aeo col n
 have hp:A9 col n<=n:=Nat.min_le_right _ _
 have hn5:=h.small
 generalize A9 col n=p at hh1 hp |-
 have hh2:=Aeo k (n-p)
 rw[show((n-p:Nat):Int)=(n:Int)-(p:Int)by omega]at hh2
 generalize A9 k (n-p)=q at hh2 |-
 have hc:=h.slice
 replace hh1:=J0 hh1
 replace hh2:=J0 hh2
 clear h
 go_enter func226,ntmps226
 go_wp2_with fail
 with_reducible refine(hh1.out _).mono ?_
 rintro e w1 ⟨rfl,rfl⟩
 go_wp2_with fail
 with_reducible refine(hh2.out _).mono ?_
 rintro e w1 ⟨rfl,rfl⟩
 go_wp2_with fail
 go_ret2
 exact⟨rfl,rfl⟩
end
theorem Bxu{l:List Cel}{col k:Nat}(a:At)(h:col+k<=l.length):splice (splice l (col+k) ((l.drop col).take (l.length-col-k))) col (List.replicate k (clr a))=Adi l col k a:=by
 have hM:((l.drop col).take (l.length-col-k)).length=l.length-col-k:=by simp
 unfold Adi
 generalize (l.drop col).take (l.length-col-k)=M at hM
 have e1:splice l (col+k) M=l.take (col+k)++M:=by
  unfold splice
  rw[hM,List.drop_eq_nil_of_le (by omega),List.append_nil]
 rw[e1]
 unfold splice
 rw[List.take_append_of_le_length (by simp;omega),List.take_take,Nat.min_eq_left (by omega),List.length_replicate]
 congr 2
 rw[List.drop_append,List.drop_eq_nil_of_le (by simp;omega)]
 simp only[List.nil_append,List.length_take,Nat.min_eq_left h,Nat.sub_self,List.drop_zero]
theorem Bwq{l:List Cel}{col k:Nat}(a:At)(h:col+k<=l.length):splice (splice l col (l.drop (col+k))) (l.length-k) (List.replicate k (clr a))=l.take col++(l.drop (col+k)++List.replicate k (clr a)):=by
 have hM:(l.drop (col+k)).length=l.length-k-col:=by simp;omega
 generalize l.drop (col+k)=M at hM
 unfold splice
 have e0:(l.take col++(M++l.drop (col+M.length))).length=l.length:=by simp;omega
 have e1:(l.take col++(M++l.drop (col+M.length))).take (l.length-k)=l.take col++M:=by
  rw[<- List.append_assoc,List.take_append_of_le_length (by simp;omega),List.take_of_length_le (by simp;omega)]
 rw[e1,List.length_replicate,List.drop_eq_nil_of_le (by rw[e0];omega),List.append_nil,List.append_assoc]
theorem B7.part{w:World}{d g n cap:Nat}{tail:List Value}{l:List Cel}(h:B7 w d g n cap tail l)(c m:Nat)(hc:c+m<=n):∀j v,(fl B6 ((l.drop c).take m))[j]?=some v->w.cell? ((⟨g,c*10,none⟩:Addr).add j)=some v:=by
 intro j v hj
 rw[Addr.add_lit]
 refine h.row.cell _ ?_
 have hl:=h.len
 rw[<- Avn N3 _ _ (by simp;omega),<- Avm N3 _ _ (by omega),List.getElem?_take]at hj
 split at hj
 ·rw[List.getElem?_drop]at hj
  have hlt:=(List.getElem?_eq_some_iff.1 hj).1
  simp only[List.getElem?_toArray]
  rw[List.getElem?_append_left hlt]
  exact hj
 ·cases hj
theorem Bfu(l:List Cel)(c m:Nat)(h:c+m<=l.length):(fl B6 ((l.drop c).take m)).length=m*10:=by rw[Q4 N3];simp;omega
theorem B7.Bnr{w:World}{d g n cap:Nat}{tail:List Value}{l:List Cel}(h:B7 w d g n cap tail l):(fl B6 l++tail).length=n*10+tail.length:=by rw[List.length_append,Q4 N3,h.len]
theorem B7.copied{w w':World}{d g n cap:Nat}{tail:List Value}{l:List Cel}(h:B7 w d g n cap tail l)(at':Nat)(M:List Cel)(hM:at'+M.length<=n)(hb:Block w' g 194 (splice (Rw.fl B6 l++tail) (at'*10) (Rw.fl B6 M)).toArray)(ho:A0 [g] w w') :
  B7 w' d g n cap tail (splice l at' M):=by
 have hl:=h.len
 refine h.Aea ho ?_ (length_splice _ _ _ (by omega))
 rw[<- Ajb N3 l M tail at' (by omega)]
 exact hb
theorem Block.box{w:World}{bx:Nat}{f b g:Int}(h:Block w bx 51 #[.int .u32 f,.int .u32 b,.int .u16 g]):w.cell? ⟨bx,0,none⟩=some (.int .u32 f)/\w.cell? ⟨bx,1,none⟩=some (.int .u32 b)/\w.cell? ⟨bx,2,none⟩=some (.int .u16 g):=⟨h.cell 0 rfl,h.cell 1 rfl,h.cell 2 rfl⟩
section
variable {w:World}{d g n cap:Nat}{tail:List Value}{l:List Cel}
theorem Bxv(h:B7 w d g n cap tail l)(hwh:Aa3 l)(col k:Int)(a:At) :
  Calls prog 169 #[.pointer (some ⟨d,0,none⟩),.int .i64 col,.int .i64 k,.agg #[.int .u32 a.f,.int .u32 a.b,.int .u16 a.g]] w (Ahq w d g n cap tail (Amf l (A9 col n) (A9 k (n-A9 col n)) a) (.int .i64 0)):=by
 obtain⟨af,ab,ag⟩:=a
 have hn:=h.pos
 have hn5:=h.small
 have hle:=h.le
 have hcm:=h.cap
 unfold maxLen at hcm
 have hn0:((n:Int)==0)=false:=beq_eq_false_iff_ne.2 (by omega)
 have hL:=Aps h af ab ag
 have Ace:=Block.made w 51 #[.int .u32 af,.int .u32 ab,.int .u16 ag]
 have hgw:=h.row.lt
 have hlen:=J0 (Aas hL.row)
 have Acy:=Bkk hL.row col k
 have hp:A9 col n<=n:=Nat.min_le_right _ _
 have hq:A9 k (n-A9 col n)<=n-A9 col n:=Nat.min_le_right _ _
 generalize A9 k (n-A9 col n)=q at Acy hq |-
 generalize A9 col n=p at Acy hp hq |-
 have hpq:p+q<=n:=by omega
 simp only
 replace Acy:=J0 Acy
 replace hL:=J0 hL
 replace Ace:=J0 Ace
 replace hwh:=J0 hwh
 have hll:=J0 h.len
 clear h hq
 go_enter func169,ntmps169
 go_wp2_with(first|(go_at_call 99;(with_reducible refine(hlen.out).mono ?_);rintro e w' ⟨rfl,rfl⟩)|(go_at_call 226;(with_reducible refine(Acy.out).mono ?_);rintro e w' ⟨rfl,rfl⟩))
 obtain⟨bx,hbx⟩:∃bx,bx=w.heap.size:=⟨_,rfl⟩
 have hne:bx≠g:=by omega
 rw[<- hbx]at Ace |-
 clear hbx hgw hlen Acy hp
 generalize w.alloc (.cells #[.int .u32 af,.int .u32 ab,.int .u16 ag] 51)=w1 at hL Ace |-
 have hR1:=hL.out.row
 have hM:=Bfu l p (n-p-q) (by rw[hll.out];omega)
 have G7:=hR1.Bnr
 have P9:=hR1.drawn.part p (n-p-q) (by omega)
 have E0:=Aqf Akr ((l.drop p).take (n-p-q))
 have A6:=hR1.drawn.row
 have Y3:=fun w2 hb ho=>hR1.drawn.copied (w':=w2) (p+q) ((l.drop p).take (n-p-q)) (by simp[hll.out];omega) hb ho
 have hpt:=fun w2 (ho:A0 [g] w1.drew w2)=>(Y3 w2 · ho |>.slice)
 have Bdy:=Bxu (l:=l) (col:=p) (k:=q) ⟨af,ab,ag⟩ (by rw[hll.out];exact hpq)
 rw[hll.out]at Bdy
 have C3:=Cbf (Bvy (l:=l) (col:=p) (n:=q) ⟨af,ab,ag⟩ (by rw[hll.out];exact hpq) hwh.out)
 rw[hll.out]at C3
 have hfin':I4 (I4 (Adi l p q ⟨af,ab,ag⟩) (p-1) (min (p+q+1) n)) (n-1) n=Amf l p q ⟨af,ab,ag⟩:=C3
 rw[<- Bdy]at hfin'
 clear C3 Bdy
 obtain⟨M,hMM⟩:∃M,M=(l.drop p).take (n-p-q):=⟨_,rfl⟩
 rw[<- hMM]at hM P9 E0 Y3 hpt hfin'
 replace hfin':=J0 hfin'
 obtain⟨X,hXX⟩:∃X,X=fl B6 M:=⟨_,rfl⟩
 obtain⟨cur,hcc⟩:∃cur,cur=fl B6 l++tail:=⟨_,rfl⟩
 rw[<- hXX]at hM P9 E0 Y3 hpt
 rw[<- hcc]at G7 A6 Y3 hpt
 replace hM:=J0 hM
 replace G7:=J0 G7
 replace P9:=J0 P9
 replace E0:=J0 E0
 replace A6:=J0 A6
 replace Y3:=J0 Y3
 replace hpt:=J0 hpt
 replace hMM:=J0 hMM
 replace hXX:=J0 hXX
 replace hcc:=J0 hcc
 have hs1:=J0 hR1.slice
 have Asu:=J0 hR1.drawn.slice
 have hwr:IntKind.i64.wrap ((p:Int)+(q:Int))=(p:Int)+(q:Int):=IntWalk.i64_in _ (by omega)
 have hw0:(0:Int)<=(p:Int)+(q:Int):=by omega
 have hw1:(p:Int)+(q:Int)<=(n:Int):=by omega
 have hw2:((p:Int)+(q:Int)).toNat=p+q:=by omega
 have hw3:(p:Int)<=(n:Int):=by omega
 have hw4:p+q<=cap:=by omega
 have hw5:p<=cap:=by omega
 obtain⟨ad1,Aef⟩:∃ad1,(if cap=p+q then(some ⟨g,0,none⟩:Option Addr)else some ⟨g,(p+q)*10,none⟩)=ad1:=⟨_,rfl⟩
 obtain⟨ad2,Agn⟩:∃ad2,(if cap=p then(some ⟨g,0,none⟩:Option Addr)else some ⟨g,p*10,none⟩)=ad2:=⟨_,rfl⟩
 have hd1:Hid (0<n-(p+q)->ad1=some ⟨g,(p+q)*10,none⟩):=J0 fun h0=>by rw[<- Aef];exact if_neg (by omega)
 have hd2:Hid (0<n-p->ad2=some ⟨g,p*10,none⟩):=J0 fun h0=>by rw[<- Agn];exact if_neg (by omega)
 clear hR1
 go_region_held3 (fun w'=>w'.cell? ⟨d,0,none⟩=some (.slice (some ⟨g,0,none⟩) n cap))
  (first|exact hs1.out|exact Asu.out|exact hpt.out _ ho2 hr2.out|go_keep)
  (first
   |(refine Atz rfl (.tmp 26) (.tmp 32) 189 189 rfl 194 10 underlying189 Aww _ _ _ _ _ _ rfl rfl g ((p+q)*10) cur 194 A6.out X (by rw[hM.out];congr 1;omega) (fun h1 h2=>⟨hd1.out h2,_,hd2.out h1,P9.out⟩) (by rw[hM.out,G7.out];omega) E0.out ?_;intro w2 hr2 ho2))
 clear hwr hw0 hw1 hw2 hw3 hw4 hw5 Aef Agn hd1 hd2
 have hL1:=hL.out.drewN 1
 have hR2:=Y3.out _ hr2.out ho2
 have ho2':A0 [g] w w2:=(A0.A1 hL1.below _).trans ho2
 obtain⟨hb0,hb1,hb2⟩:=Block.box ((Ace.out.only (A0.drewN [] w1 1) (by simp)).only ho2 (by simpa using hne))
 have hcl:=Avl q (by omega) ⟨af,ab,ag⟩
 simp only at hcl
 replace hcl:=J0 hcl
 replace hR2:=J0 hR2
 replace ho2':=J0 ho2'
 clear Y3 hpt A6 E0 P9 hM G7 hMM hXX hcc hs1 Asu hL1 hr2 ho2 hL Ace
 go_wp2_with((go_at_call 214;(with_reducible refine(hcl.out _).mono ?_);rintro e w3 ⟨g3,rfl,hb3,Bdb,hg3⟩))
 have hR3:=hR2.out.below Bdb
 with_reducible refine(Bha hR3 p q ⟨af,ab,ag⟩ hpq g3 hb3).mono ?_
 rintro e w4 ⟨⟨v4,rfl⟩,hR4,ho4⟩
 have hm5:=J0 (Bjp hR4.drawn n n (J5 _) (J5 _) (by omega))
 rw[show min (n+1) n=n by omega]at hm5
 have ho4':A0 [g] w w4:=(ho2'.out.trans (A0.A1 Bdb _)).trans ho4
 have hs4:=hR4.slice
 have Bri:=hR4.drawn.slice
 replace ho4':=J0 ho4'
 clear hR2 hR3 hR4 ho4 ho2' hb3 Bdb hg3 hb0 hb1 hb2 hcl
 go_wp2_with fail
 go_region_held3 (fun w'=>w'.cell? ⟨d,0,none⟩=some (.slice (some ⟨g,0,none⟩) n cap))
  (first|exact hs4|exact Bri|exact hR5.slice|go_keep)
  (first
   |(go_at_call 227;(with_reducible refine(hm5.out).mono ?_);rintro e w5 ⟨⟨v5,rfl⟩,hR5,ho5⟩))
 have A4:=J0 (And.intro hR5 ((ho4'.out.trans (A0.drewN _ _ 1)).trans ho5))
 clear hR5 ho5 hm5 ho4' hs4 Bri
 go_wp2
 go_ret
 exact⟨rfl,by rw[<- hfin'.out];exact A4.out⟩
theorem Bwr(h:B7 w d g n cap tail l)(hwh:Aa3 l)(col k:Int)(a:At) :
  Calls prog 244 #[.pointer (some ⟨d,0,none⟩),.int .i64 col,.int .i64 k,.agg #[.int .u32 a.f,.int .u32 a.b,.int .u16 a.g]] w (Ahq w d g n cap tail (Aon l (A9 col n) (A9 k (n-A9 col n)) a) (.int .i64 0)):=by
 obtain⟨af,ab,ag⟩:=a
 have hn:=h.pos
 have hn5:=h.small
 have hle:=h.le
 have hcm:=h.cap
 unfold maxLen at hcm
 have hn0:((n:Int)==0)=false:=beq_eq_false_iff_ne.2 (by omega)
 have hL:=Aps h af ab ag
 have Ace:=Block.made w 51 #[.int .u32 af,.int .u32 ab,.int .u16 ag]
 have hgw:=h.row.lt
 have hlen:=J0 (Aas hL.row)
 have Acy:=Bkk hL.row col k
 have hp:A9 col n<=n:=Nat.min_le_right _ _
 have hq:A9 k (n-A9 col n)<=n-A9 col n:=Nat.min_le_right _ _
 generalize A9 k (n-A9 col n)=q at Acy hq |-
 generalize A9 col n=p at Acy hp hq |-
 have hpq:p+q<=n:=by omega
 simp only
 have hs0:=hL.row.slice
 replace Acy:=J0 Acy
 replace hL:=J0 hL
 replace Ace:=J0 Ace
 have hll:=J0 h.len
 have hcl:=Avl q (by omega) ⟨af,ab,ag⟩
 simp only at hcl
 replace hcl:=J0 hcl
 have Aec:(G0 l p (List.replicate q (clr ⟨af,ab,ag⟩))).length=n:=by rw[Akn (by simp[h.len];omega),h.len]
 have hwX:=Bhe (l:=l) (col:=p) (n:=q) ⟨af,ab,ag⟩ (by rw[h.len];exact hpq) hwh
 have hsp:=Bwq (l:=G0 l p (List.replicate q (clr ⟨af,ab,ag⟩))) (col:=p) (k:=q) ⟨af,ab,ag⟩ (by rw[Aec];exact hpq)
 rw[Aec]at hsp
 have C3:I4 (splice (splice (G0 l p (List.replicate q (clr ⟨af,ab,ag⟩))) p ((G0 l p (List.replicate q (clr ⟨af,ab,ag⟩))).drop (p+q))) (n-q) (List.replicate q (clr ⟨af,ab,ag⟩))) ((n-q)-1) (min ((n-q)+q+1) n)=Aon l p q ⟨af,ab,ag⟩:=by
  rw[hsp]
  exact Btl hwX _ _
 rw[<- C3]
 have hst:=fun w1 (h1:Aca w d g n cap tail l w1) g2 hb=>Bgz h1.row hwh p q ⟨af,ab,ag⟩ hpq g2 hb
 clear C3 hsp hwX
 obtain⟨l1,hl1⟩:∃l1,l1=G0 l p (List.replicate q (clr ⟨af,ab,ag⟩)):=⟨_,rfl⟩
 rw[<- hl1]at Aec hst |-
 replace hl1:=J0 hl1
 replace hst:=J0 hst
 replace Aec:=J0 Aec
 clear h hq hwh
 go_enter func244,ntmps244
 go_wp2_with(first|(go_at_call 99;(with_reducible refine(hlen.out).mono ?_);rintro e w' ⟨rfl,rfl⟩)|(go_at_call 226;(with_reducible refine(Acy.out).mono ?_);rintro e w' ⟨rfl,rfl⟩))
 obtain⟨bx,hbx⟩:∃bx,bx=w.heap.size:=⟨_,rfl⟩
 have hne:bx≠g:=by omega
 rw[<- hbx]at Ace |-
 clear hbx hgw hlen Acy hp
 obtain⟨hb0,hb1,hb2⟩:=Block.box Ace.out
 generalize w.alloc (.cells #[.int .u32 af,.int .u32 ab,.int .u16 ag] 51)=w1 at hL Ace hs0 hb0 hb1 hb2 |-
 with_reducible refine(hcl.out w1).mono ?_
 rintro e w2 ⟨g2,rfl,hb2',Aib,hg2⟩
 have hL2:=hL.out.next Aib
 go_wp2_with fail
 with_reducible refine(hst.out _ hL2 g2 hb2').mono ?_
 rintro e w3 ⟨⟨v3,rfl⟩,hR3,ho3⟩
 have ho3':=(hL2.Aea hR3 ho3).2
 have Axl:=(Ace.out.only (A0.A1 Aib []) (by simp)).only ho3 (by simpa using hne)
 clear hb0 hb1 hb2 hb2' Aib hg2 hL2 ho3 hL Ace hs0
 have hM:=Bfu l1 (p+q) (n-p-q) (by rw[Aec.out];omega)
 have G7:=hR3.Bnr
 have P9:=hR3.drawn.part (p+q) (n-p-q) (by omega)
 have E0:=Aqf Akr ((l1.drop (p+q)).take (n-p-q))
 have A6:=hR3.drawn.row
 have Y3:=fun w2 hb ho=>hR3.drawn.copied (w':=w2) p ((l1.drop (p+q)).take (n-p-q)) (by simp[Aec.out];omega) hb ho
 have hpt:=fun w2 (ho:A0 [g] w3.drew w2)=>(Y3 w2 · ho |>.slice)
 have htk:(l1.drop (p+q)).take (n-p-q)=l1.drop (p+q):=List.take_of_length_le (by simp[Aec.out];omega)
 rw[htk]at hM P9 E0 Y3 hpt
 clear htk
 obtain⟨M,hMM⟩:∃M,M=l1.drop (p+q):=⟨_,rfl⟩
 rw[<- hMM]at hM P9 E0 Y3 hpt
 obtain⟨X,hXX⟩:∃X,X=fl B6 M:=⟨_,rfl⟩
 obtain⟨cur,hcc⟩:∃cur,cur=fl B6 l1++tail:=⟨_,rfl⟩
 rw[<- hXX]at hM P9 E0 Y3 hpt
 rw[<- hcc]at G7 A6 Y3 hpt
 replace hM:=J0 hM
 replace G7:=J0 G7
 replace P9:=J0 P9
 replace E0:=J0 E0
 replace A6:=J0 A6
 replace Y3:=J0 Y3
 replace hpt:=J0 hpt
 replace hMM:=J0 hMM
 replace hXX:=J0 hXX
 replace hcc:=J0 hcc
 have hs1:=hR3.slice
 have Asu:=J0 hR3.drawn.slice
 replace Axl:=J0 Axl
 replace ho3':=J0 ho3'
 clear hR3
 go_wp2_with fail
 have hwr:IntKind.i64.wrap ((p:Int)+(q:Int))=(p:Int)+(q:Int):=IntWalk.i64_in _ (by omega)
 have hw0:(0:Int)<=(p:Int)+(q:Int):=by omega
 have hw1:(p:Int)+(q:Int)<=(n:Int):=by omega
 have hw2:((p:Int)+(q:Int)).toNat=p+q:=by omega
 have hw3:(p:Int)<=(n:Int):=by omega
 have hw4:p+q<=cap:=by omega
 have hw5:p<=cap:=by omega
 obtain⟨ad1,Aef⟩:∃ad1,(if cap=p+q then(some ⟨g,0,none⟩:Option Addr)else some ⟨g,(p+q)*10,none⟩)=ad1:=⟨_,rfl⟩
 obtain⟨ad2,Agn⟩:∃ad2,(if cap=p then(some ⟨g,0,none⟩:Option Addr)else some ⟨g,p*10,none⟩)=ad2:=⟨_,rfl⟩
 have hd1:Hid (0<n-(p+q)->ad1=some ⟨g,(p+q)*10,none⟩):=J0 fun h0=>by rw[<- Aef];exact if_neg (by omega)
 have hd2:Hid (0<n-p->ad2=some ⟨g,p*10,none⟩):=J0 fun h0=>by rw[<- Agn];exact if_neg (by omega)
 go_region_held3 (fun w'=>w'.cell? ⟨d,0,none⟩=some (.slice (some ⟨g,0,none⟩) n cap))
  (first|exact hs1|exact Asu.out|exact hpt.out _ ho4 hr4.out|go_keep)
  (first
   |(refine Atz rfl (.tmp 38) (.tmp 46) 189 189 rfl 194 10 underlying189 Aww _ _ _ _ _ _ rfl rfl g (p*10) cur 194 A6.out X (by rw[hM.out];congr 1;omega) (fun h1 h2=>⟨hd2.out h2,_,hd1.out h1,P9.out⟩) (by rw[hM.out,G7.out];omega) E0.out ?_;intro w4 hr4 ho4))
 clear hwr hw0 hw1 hw2 hw3 hw4 hw5 Aef Agn hd1 hd2
 have hR4:=Y3.out _ hr4.out ho4
 have ho4':A0 [g] w w4:=(ho3'.out.trans (A0.drewN _ _ 1)).trans ho4
 obtain⟨hb0,hb1,hb2⟩:=Block.box ((Axl.out.only (A0.drewN [] w3 1) (by simp)).only ho4 (by simpa using hne))
 replace hR4:=J0 hR4
 replace ho4':=J0 ho4'
 clear Y3 hpt A6 E0 P9 hM G7 hXX hcc hs1 Asu hr4 ho4 ho3' Axl
 have hnq:((n-q:Nat):Int)=(n:Int)-(q:Int):=by omega
 go_wp2_with((go_at_call 214;(with_reducible refine(hcl.out _).mono ?_);rintro e w5 ⟨g5,rfl,hb5,Bdc,hg5⟩))
 have hR5:=hR4.out.below Bdc
 have hss:=Bha hR5 (n-q) q ⟨af,ab,ag⟩ (by omega) g5 hb5
 rw[hnq]at hss
 with_reducible refine hss.mono ?_
 rintro e w6 ⟨⟨v6,rfl⟩,hR6,ho6⟩
 have A4:=J0 (And.intro hR6 ((ho4'.out.trans (A0.A1 Bdc _)).trans ho6))
 clear hR6 ho6 hss hR5 hb5 Bdc hg5 hR4 ho4' hb0 hb1 hb2 hnq
 go_wp2
 go_ret
 exact⟨rfl,by rw[<- hMM.out];exact A4.out⟩
end
def Ciq(w:World)(n:Nat)(e:Ending)(w':World):Prop:=∃d g,e=.returned (.tuple #[.pointer (some ⟨d,0,none⟩),.int .i64 0])/\B7 w' d g n n [] (List.replicate n (clr zeroAt))/\Below w.heap.size w w'/\w.heap.size<=d/\w.heap.size<=g
theorem Avs(n:Nat)(h1:1<=n)(h2:n<=512)(w:World):Calls prog 147 #[.int .i64 n] w (Ciq w n):=by
 have hmc:=J0 (Btk n (by omega) (by omega))
 have hcl:=Avl n h2 zeroAt
 simp only[zeroAt]at hcl
 replace hcl:=J0 hcl
 go_enter func147,ntmps147
 go_wp2_with (first
  |(go_at_call 213;(with_reducible refine(hmc.out _).mono ?_);rintro e w' ⟨rfl,rfl⟩)
  |(go_at_call 214;(with_reducible refine(hcl.out _).mono ?_);rintro e w1 ⟨g1,rfl,hb1,Aia,hg1⟩))
 go_ret2
 have hlt:=hb1.lt
 refine⟨w1.heap.size,g1,rfl,⟨Block.made w1 _ _,by rw[List.append_nil];exact hb1.alloc _,by simp,J5 _,by unfold maxLen;omega,h1,h2⟩,Aia.alloc Aia.size _,Aia.size,hg1⟩
def Adt(c:Cel)(x:Int):Cel:=⟨c.r,c.m++[x],c.wide,c.a⟩
theorem Cgu{m:List Int}(h:m.length<4)(x:Int):Adj (m++[x])=(Adj m).set m.length x:=by
 unfold Adj
 match m,h with
 |[],_=>rfl
 |[_],_=>rfl
 |[_,_],_=>rfl
 |[_,_,_],_=>rfl
theorem Bzk{c:Cel}(h:c.m.length<4)(x:Int):B6 (Adt c x)=((B6 c).set (1+c.m.length) (.int .i32 x)).set 5 (.int .u8 ((c.m.length:Int)+1)):=by
 obtain⟨r,m,wd,a⟩:=c
 simp only at h
 unfold B6 Adt
 simp only[Cgu h]
 match m,h with
 |[],_=>rfl
 |[_],_=>rfl
 |[_,_],_=>rfl
 |[_,_,_],_=>rfl
theorem Bhb{α:Type}(cur vs:List α)(off i:Nat)(v:α)(h:off+vs.length<=cur.length)(hi:i<vs.length):splice cur off (vs.set i v)=(splice cur off vs).set (off+i) v:=by
 unfold splice
 rw[List.set_append_right _ _ (by simp;omega),List.length_take,Nat.min_eq_left (by omega),Nat.add_sub_cancel_left,List.set_append_left _ _ hi,List.length_set]
theorem B7.marked{w:World}{d g n cap:Nat}{tail:List Value}{l:List Cel}(h:B7 w d g n cap tail l){i:Nat}(hi:i<l.length)(hm:l[i].m.length<4)(x:Int) :
  fl B6 (l.set i (Adt l[i] x))++tail=((Rw.fl B6 l++tail).set (i*10+(1+l[i].m.length)) (.int .i32 x)).set (i*10+5) (.int .u8 ((l[i].m.length:Int)+1)):=by
 have S0:=h.fits (i:=i) (by rw[<- h.len];exact hi) l[i]
 have e1:=Ajb N3 l [Adt l[i] x] tail i (by simp;omega)
 have e0:=Ajb N3 l [l[i]] tail i (by simp;omega)
 rw[Acq,Aph _ _ _ hi]at e1 e0
 rw[List.set_getElem_self]at e0
 rw[<- e1,Bzk hm,Bhb _ _ _ _ _ (by simpa using S0) (by simp[N3]),Bhb _ _ _ _ _ S0 (by rw[N3];omega),e0]
theorem Bwe(c:Cel){k:Nat}(hk:k<4):∃v,(B6 c)[1+k]?=some (.int .i32 v):=by
 unfold B6
 rw[show 1+k=k+1 by omega,List.getElem?_cons_succ,List.getElem?_append_left (by simp[Amp];omega),List.getElem?_map,List.getElem?_eq_getElem (by rw[Amp];exact hk)]
 exact⟨_,rfl⟩
section
variable {w:World}{d g n cap:Nat}{tail:List Value}{l:List Cel}
theorem Bwj(h:B7 w d g n cap tail l){i:Nat}(hi:i<l.length)(hm:l[i].m.length=4)(x:Int) :
  Calls prog 221 #[.pointer (some ⟨g,i*10,none⟩),.int .i32 x] w fun e w'=>e=.returned (.int .i64 8)/\w=w':=by
 have hc:=h.count hi
 rw[hm]at hc
 clear h
 go_enter func221,ntmps221
 go_wp2
 go_ret
 exact⟨rfl,rfl⟩
theorem Bzo(h:B7 w d g n cap tail l){i:Nat}(hi:i<l.length)(hm:l[i].m.length<4)(x:Int) :
  Calls prog 221 #[.pointer (some ⟨g,i*10,none⟩),.int .i32 x] w (Ahq w d g n cap tail (l.set i (Adt l[i] x)) (.int .i64 0)):=by
 have hc:=h.count hi
 have hmk:=h.marked hi hm x
 have hR:=h.row
 obtain⟨v0,hv0⟩:=Bwe l[i] hm
 have E7:=h.at' hi (by omega) hv0
 have hfr:=fun j=>h.row.free j
 have hb1:=(h.row.set (i*10+(1+l[i].m.length)) (.int .i32 x)).set (i*10+5) (.int .u8 ((l[i].m.length:Int)+1))
 rw[J1,J1,<- hmk]at hb1
 have ho:A0 [g] w ((w.setCell ⟨g,i*10+(1+l[i].m.length),none⟩ (.int .i32 x)).setCell ⟨g,i*10+5,none⟩ (.int .u8 ((l[i].m.length:Int)+1))):=by
  have o1:A0 [g] w (w.setCell ⟨g,i*10+(1+l[i].m.length),none⟩ (.int .i32 x)):=A0.setCell w ⟨g,i*10+(1+l[i].m.length),none⟩ _
  exact o1.trans (A0.setCell _ ⟨g,i*10+5,none⟩ _)
 have A4:=h.Aea ho hb1 (by simp)
 replace A4:=J0 (And.intro A4 ho)
 clear hmk hR hb1 ho hv0
 generalize l.set i (Adt l[i] x)=l2 at A4 |-
 generalize l[i].m.length=k at hc hm E7 A4
 have hk4:((k:Int)==4)=false:=beq_eq_false_iff_ne.2 (by omega)
 have V2:=hfr (i*10+1+k)
 rw[<- Nat.add_assoc]at E7
 have hk3:(k:Int)<4:=by omega
 have hne:i*10+5≠i*10+1+k:=by omega
 rw[show i*10+(1+k)=i*10+1+k by omega]at A4
 have Acf:=hfr (i*10+5)
 clear h hfr
 go_enter func221,ntmps221
 go_wp2
 go_region
 go_wp2
 go_ret
 exact⟨rfl,A4.out.1.drawn,A4.out.2.trans (A0.drewN _ _ 1)⟩
def Aet(l:List Cel)(i:Nat):Nat:=if W l i=2 then i-1 else i
theorem Bhz{l:List Cel}{i:Nat}(h:i<l.length):Aet l i<l.length:=by unfold Aet;split<;>omega
def Aid(l:List Cel)(i:Nat)(x:Int):List Cel:=match l[Aet l i]? with
 |some c=>if c.m.length<4 then l.set (Aet l i) (Adt c x)else l
 |none=>l
def Aoa(l:List Cel)(i:Nat):Int:=match l[Aet l i]? with
 |some c=>if c.m.length<4 then 0 else 8
 |none=>8
theorem Ckx(h:B7 w d g n cap tail l)(col x:Int)(hno:V1 x=false\/col<0\/(n:Int)<=col) :
  Calls prog 162 #[.pointer (some ⟨d,0,none⟩),.int .i64 col,.int .i32 x] w fun e w'=>e=.returned (.int .i64 2)/\w=w':=by
 have hn:=h.pos
 have hn0:((n:Int)==0)=false:=beq_eq_false_iff_ne.2 (by omega)
 have hlen:=J0 (Aas h)
 have S3:=J0 (fun j h0=>Awe h j h0)
 have hmp:=Atx x
 by_cases h1:V1 x=false
 ·rw[h1]at hmp
  replace hmp:=J0 hmp
  clear h hno h1
  go_enter func162,ntmps162
  go_wp2_with(first|(go_at_call 99;(with_reducible refine(hlen.out).mono ?_);rintro e w' ⟨rfl,rfl⟩)|(go_at_call 220;(with_reducible refine(hmp.out _).mono ?_);rintro e w' ⟨rfl,rfl⟩))
  go_ret
  exact⟨rfl,rfl⟩
 ·have h1:V1 x=true:=by simpa using h1
  have h2:col<0\/(n:Int)<=col:=by
   rcases hno with hh|hh
   ·simp[h1]at hh
   ·exact hh
  rw[h1]at hmp
  replace hmp:=J0 hmp
  replace h2:=J0 h2
  clear h hno h1
  go_enter func162,ntmps162
  go_wp2_with(first|(go_at_call 99;(with_reducible refine(hlen.out).mono ?_);rintro e w' ⟨rfl,rfl⟩)|(go_at_call 220;(with_reducible refine(hmp.out _).mono ?_);rintro e w' ⟨rfl,rfl⟩)|(go_at_call 219;(with_reducible refine(S3.out _ h2.out).mono ?_);rintro e w' ⟨rfl,rfl⟩))
  go_ret
  exact⟨rfl,rfl⟩
theorem Cfm(h:B7 w d g n cap tail l)(hwh:Aa3 l)(h4:∀c∈l,c.m.length<=4)(col:Nat)(x:Int)(hx:V1 x=true)(F5:col<n) :
  Calls prog 162 #[.pointer (some ⟨d,0,none⟩),.int .i64 col,.int .i32 x] w (Ahq w d g n cap tail (Aid l col x) (.int .i64 (Aoa l col))):=by
 have hn:=h.pos
 have hn5:=h.small
 have hle:=h.le
 have hcm:=h.cap
 unfold maxLen at hcm
 have hn0:((n:Int)==0)=false:=beq_eq_false_iff_ne.2 (by omega)
 have hlen:=J0 (Aas h)
 have L5:=J0 (fun j h0 h1=>Aqj h j h0 h1)
 have hmp:=Atx x
 rw[hx]at hmp
 replace hmp:=J0 hmp
 have hcl:col<l.length:=by rw[h.len];exact F5
 have hjl:=Bhz hcl
 have hc:=h.slice
 have hwd:=h.wide hcl
 have hWc:=Ain hcl
 have Aaf:Calls prog 221 #[.pointer (some ⟨g,Aet l col*10,none⟩),.int .i32 x] w (Ahq w d g n cap tail (Aid l col x) (.int .i64 (Aoa l col))):=by
  unfold Aid Aoa
  rw[List.getElem?_eq_getElem hjl]
  simp only
  by_cases hm:l[Aet l col].m.length<4
  ·rw[if_pos hm,if_pos hm]
   exact Bzo h hjl hm x
  ·rw[if_neg hm,if_neg hm]
   refine(Bwj h hjl ?_ x).mono fun e w' ⟨he,hw⟩=>⟨he,hw▸h,hw▸A0.refl _ _⟩
   have:=h4 _ (List.getElem_mem hjl)
   omega
 generalize Aid l col x=l2 at Aaf |-
 generalize Aoa l col=v2 at Aaf |-
 replace Aaf:=J0 Aaf
 by_cases h2:W l col=2
 ·have Aal:col≠0:=fun e=>(Ahi l).1 hwh |>.1 (by rw[<- e];exact h2)
  rw[h2]at hWc
  rw[<- hWc]at hwd
  have hj:Aet l col=col-1:=if_pos h2
  rw[hj]at Aaf
  obtain⟨c,rfl⟩:∃c,col=c+1:=⟨col-1,by omega⟩
  rw[Nat.add_sub_cancel]at Aaf
  clear h hj hWc h2 hcl hjl h4 hwh hx
  go_enter func162,ntmps162
  go_wp2_with (first
   |(go_at_call 99;(with_reducible refine(hlen.out).mono ?_);rintro e w' ⟨rfl,rfl⟩)
   |(go_at_call 220;(with_reducible refine(hmp.out _).mono ?_);rintro e w' ⟨rfl,rfl⟩)
   |(go_at_call 219;(with_reducible refine(L5.out _ (by omega) (by omega)).mono ?_);rintro e w' ⟨rfl,rfl⟩)
   |(go_at_call 221;(with_reducible refine(Aaf.out).mono ?_);rintro e w1 ⟨rfl,hR1,ho1⟩))
  go_ret
  exact⟨rfl,hR1,ho1⟩
 ·have hj:Aet l col=col:=if_neg h2
  rw[hj]at Aaf
  have hne:(l[col].wide==2)=false:=by rw[<- hWc];simpa using h2
  generalize l[col].wide=wd at hwd hne
  clear h hj hWc h2 hcl hjl h4 hwh hx
  go_enter func162,ntmps162
  go_wp2_with (first
   |(go_at_call 99;(with_reducible refine(hlen.out).mono ?_);rintro e w' ⟨rfl,rfl⟩)
   |(go_at_call 220;(with_reducible refine(hmp.out _).mono ?_);rintro e w' ⟨rfl,rfl⟩)
   |(go_at_call 219;(with_reducible refine(L5.out _ (by omega) (by omega)).mono ?_);rintro e w' ⟨rfl,rfl⟩)
   |(go_at_call 221;(with_reducible refine(Aaf.out).mono ?_);rintro e w1 ⟨rfl,hR1,ho1⟩))
  go_ret
  exact⟨rfl,hR1,ho1⟩
end
