/- Part 43 of HostKeys. -/
import Derived.Test.YtecnpoigegiooaaGreatDoorW42
set_option maxHeartbeats 16000000
set_option maxRecDepth 100000
namespace Go.Proofs.YtecnpoigegiooaaGreatDoor.Hos
open Go.Proofs.Tryz
open Go RowKit Com Rw Lns Emu Scn
def Bd(c:Nat)(X:Tri):Prop:=Tr c 8000000000 70000000 8000000000 8000000 X
def Ab4(B:Zn)(W w:World)(h:Nat)(p:HP)(s:List Int)(Y:Tri)(e:Ending)(w':World):Prop:=(∃x,e=.returned x)/\HD B W w w' h p s Y
theorem Ciz{c:Nat}{X:Tri}(h:Bd c X){l:List Int}(hl:l.length<=2){i:Nat}{x:Int}(hx:Utf.Aer x)(_hl:l=(Utf.M8 X.dec x).2):Tr c 8000004000 70000400 8000000080 8000004 (Tri.U3 ⟨(Utf.M8 X.dec x).1,X.ps,X.T⟩ (l.take i)):=by
 have h1:Tr c 8000000000 70000000 8000000000 8000000 ⟨(Utf.M8 X.dec x).1,X.ps,X.T⟩:=⟨Utf.Bni h.dec hx,h.ps,h.rh⟩
 have h2:(l.take i).length<=2:=by simp;omega
 exact(Tr.U3 (l:=l.take i) h1).mono (by omega) (by omega) (by omega) (by omega)
section
variable {Z:Zn}{W w:World}{h:Nat}{p:HP}{X:Tri}{v:Value}{s b:List Int}{ao:Option Addr}{n cp c:Nat}
theorem Cff(hx:HX Z W w h (p.at v) (X.hst s))(hBd:∀k,k<=b.length->Bd c (X.hand (b.take k)))(hb:Utf.Bytes b)(hsh:∀wr,Hf (HZn Z h (p.at v)) w wr->Aju wr .u8 ao b)(hn:b.length=n)(hn5:n<=100000) :
  Calls prog 36 #[.pointer (some ⟨p.e,0,none⟩),.slice ao n cp,.func (Fn.func 37) #[.pointer (some ⟨p.d,0,none⟩)] #[]] w (Ab4 (HZn Z h (p.at v)) W w h p s (X.hand b)):=by
 generalize hBz:HZn Z h (p.at v)=B at *
 have hst:Hid (HD B W w w h p s (X.hand (b.take 0))):=J0 (hBz▸hx.start)
 have E3:Hid (∀w1,HD B W w w1 h p s (X.hand (b.take n))->HD B W w w1 h p s (X.hand b)):=J0 fun w1 h1=>by
  rw[List.take_of_length_le (by omega)]at h1
  exact h1
 generalize hY:X.hand b=Y at E3 |-
 replace hBd:=J0 hBd
 replace hb:=J0 hb
 replace hsh:=J0 hsh
 replace hn:=J0 hn
 clear hx hY hBz
 generalize w=w0 at *
 go_enter func36,ntmps36
 go_wp2
 go_loopw [14] (fun i wr=>∃k:Nat,k<=n/\i=.int .i64 k/\Hid (HD B W w0 wr h p s (X.hand (b.take k)))) (fun i _=>n-(intOf i).toNat)
 case atStart=>exact⟨0,Nat.zero_le _,rfl,hst⟩
 case round =>
  obtain⟨k,hk,rfl,hQ⟩:=hrel
  clear hst
  by_cases hlt:k<n
  ·have hkI:(k:Int)<(n:Int):=by omega
   have hkb:k<b.length:=by rw[hn.out];exact hlt
   obtain⟨Zr,vr,hxr,hsr⟩:=hQ.out.ex
   obtain⟨ad,rfl,hbc⟩:=hsh.out _ hQ.out.fr k _ (List.getElem?_eq_getElem hkb)
   have hbk:=hb.out _ (List.getElem_mem hkb)
   have hT0:=hBd.out k (by omega)
   have hE:=J0 (Car (X:=X) hkb)
   have e0:wr.cell? ⟨p.e,0,none⟩=some (.pointer (some ⟨p.dd,0,none⟩)):=hxr.eb.cell 0 rfl
   have hfd:=J0 (hxr.feed hT0.dec hbk)
   have htl:=Utf.take_len (X.hand (b.take k)).dec b[k]
   have htr:Hid (∀i,Tr c 8000004000 70000400 8000000080 8000004 (Tri.U3 ⟨(Utf.M8 (X.hand (b.take k)).dec b[k]).1,(X.hand (b.take k)).ps,(X.hand (b.take k)).T⟩ ((Utf.M8 (X.hand (b.take k)).dec b[k]).2.take i))):=J0 fun i=>Ciz hT0 htl hbk rfl
   have C3:Hid (∀w1 Z1,Hf (HZn Zr h (p.at vr)) wr w1->(∀k,HZn Z1 h (p.at vr) k->HZn Zr h (p.at vr) k\/wr.heap.size<=k)->∀w2,HD (HZn Z1 h (p.at vr)) W w1 w2 h p s (Tri.U3 ⟨(Utf.M8 (X.hand (b.take k)).dec b[k]).1,(X.hand (b.take k)).ps,(X.hand (b.take k)).T⟩ (Utf.M8 (X.hand (b.take k)).dec b[k]).2)->HD B W w0 w2 h p s (X.hand (b.take (k+1)))):=J0 fun w1 Z1 hf1 hs1 w2 h2=>by
    rw[hE.out]
    exact HD.trans hsr hQ.out.fr (HD.trans hs1 hf1 h2)
   generalize (Utf.M8 (X.hand (b.take k)).dec b[k]).1=D1 at hfd htr C3
   generalize (Utf.M8 (X.hand (b.take k)).dec b[k]).2=l at hfd htr C3 htl
   generalize X.hand (b.take k)=X0 at hfd htr C3
   generalize b[k]=x at hfd hbc
   clear hE hT0 hxr hsr hQ hbk hkb
   obtain⟨m,hm⟩:∃m,l.length=m:=⟨_,rfl⟩
   rw[hm]at hfd
   have hm2:m<=2:=hm▸htl
   replace hm:=J0 hm
   go_wp2_with((go_at_call 58;(with_reducible refine(hfd.out).mono ?_);rintro e w1 ⟨a1,c1,Z1,rfl,hx1,hf1,hs1,Asv⟩))
   have Axu:=J0 hx1.start
   replace C3:=J0 (C3.out w1 Z1 hf1 hs1)
   replace Asv:=J0 Asv
   clear hx1 hf1 hs1 hfd hbc e0
   generalize HZn Z1 h (p.at vr)=B1 at Axu C3 Asv
   obtain⟨X1,hX1⟩:∃X1,X1=(⟨D1,X0.ps,X0.T⟩:Tri):=⟨_,rfl⟩
   rw[<- hX1]at Axu C3 htr
   clear hX1
   go_loopw [25] (fun i wr=>∃j:Nat,j<=m/\i=.int .i64 j/\Hid (HD B1 W w1 wr h p s (X1.U3 (l.take j)))) (fun i _=>m-(intOf i).toNat)
   case atStart=>exact⟨0,Nat.zero_le _,rfl,Axu⟩
   case round =>
    obtain⟨j,hj,rfl,hQ⟩:=hrel
    clear Axu
    by_cases hjl:j<m
    ·have hjI:(j:Int)<(m:Int):=by omega
     have Bdz:j<l.length:=by rw[hm.out];exact hjl
     obtain⟨Zr2,vr2,hxr,hsr⟩:=hQ.out.ex
     obtain⟨ad2,rfl,hbc⟩:=Asv.out _ hQ.out.fr j _ (List.getElem?_eq_getElem Bdz)
     have hT1:=htr.out j
     have hE:=J0 (Byn (X:=X1) Bdz)
     have e1:wr.cell? ⟨p.e,1,none⟩=some (.pointer (some ⟨p.dp,0,none⟩)):=hxr.eb.cell 1 rfl
     have hfd:=J0 (hxr.parse hT1.ps l[j])
     obtain⟨hg1,hg2,hg3⟩:=hT1.ps.feed l[j]
     have hrh:=J0 (fun q=>hT1.rh.M9 (As:=(Prs.Q5 (X1.U3 (l.take j)).ps l[j]).1.take q) fun A hA=>hg2 A (List.mem_of_mem_take hA))
     have Ajz:Hid (∀w2 Z2 v2,Hf (HZn Zr2 h (p.at vr2)) wr w2->(∀k,HZn Z2 h (p.at v2) k->HZn Zr2 h (p.at vr2) k\/wr.heap.size<=k)->∀w3,HD (HZn Z2 h (p.at v2)) W w2 w3 h p s ⟨(X1.U3 (l.take j)).dec,(Prs.Q5 (X1.U3 (l.take j)).ps l[j]).2,Aey (X1.U3 (l.take j)).T (Prs.Q5 (X1.U3 (l.take j)).ps l[j]).1⟩->HD B1 W w1 w3 h p s (X1.U3 (l.take (j+1)))):=J0 fun w2 Z2 v2 hf2 hs2 w3 h3=>by
      rw[hE.out]
      exact HD.trans hsr hQ.out.fr (HD.trans hs2 hf2 h3)
     generalize (Prs.Q5 (X1.U3 (l.take j)).ps l[j]).2=S2 at hfd Ajz
     generalize (Prs.Q5 (X1.U3 (l.take j)).ps l[j]).1=As at hfd Ajz hg2 hg3 hrh
     generalize X1.U3 (l.take j)=X2 at hfd Ajz hrh
     generalize l[j]=r at hfd hbc
     clear hE hT1 hxr hsr hQ Bdz hg1
     replace hg2:=J0 hg2
     obtain⟨na,hna⟩:∃na,As.length=na:=⟨_,rfl⟩
     rw[hna]at hfd hg3
     replace hna:=J0 hna
     go_wp2_with((go_at_call 59;(with_reducible refine(hfd.out).mono ?_);rintro e w2 ⟨a2,c2,Z2,v2,rfl,hx2,hf2,hs2,hac⟩))
     have Agp:=J0 hx2.start
     replace Ajz:=J0 (Ajz.out w2 Z2 v2 hf2 hs2)
     replace hac:=J0 hac
     have hs2w:=hx2.below.size
     clear hx2 hf2 hs2 hfd hbc e1
     obtain⟨B2,hB2⟩:∃B2,HZn Z2 h (p.at v2)=B2:=⟨_,rfl⟩
     rw[hB2]at Agp Ajz hac
     clear hB2
     obtain⟨X4,hX4⟩:∃X4,X4=(⟨X2.dec,S2,X2.T⟩:Tri):=⟨_,rfl⟩
     have hst2':Hid (HD B2 W w2 w2 h p s ⟨X2.dec,S2,Aey X2.T (As.take 0)⟩):=Agp
     clear hX4 Agp
     go_loopw [36] (fun i wr=>∃q:Nat,q<=na/\i=.int .i64 q/\Hid (HD B2 W w2 wr h p s ⟨X2.dec,S2,Aey X2.T (As.take q)⟩)) (fun i _=>na-(intOf i).toNat)
     case atStart=>exact⟨0,Nat.zero_le _,rfl,hst2'⟩
     case round =>
      obtain⟨q,hq,rfl,hQ⟩:=hrel
      clear hst2'
      by_cases hqn:q<na
      ·have hqI:(q:Int)<(na:Int):=by omega
       have hqa:q<As.length:=by rw[hna.out];exact hqn
       obtain⟨Zr3,vr3,hxr,hsr⟩:=hQ.out.ex
       obtain⟨ad3,pa,pc,ia,ic,ta,tc,rfl,Y2,l1,l2,n1,n2⟩:=hac.out _ hQ.out.fr q _ (List.getElem?_eq_getElem hqa)
       have hA:=hg2.out _ (List.getElem_mem hqa)
       have hR:=(hrh.out q).roomy hA (by simp;omega) (by simp;omega) (by simp;omega) (by simp;omega)
       have hE:=J0 (Bvw (T:=X2.T) hqa)
       have hdo:Hid (∀w8,Below wr.heap.size wr w8->Calls prog 37 #[.pointer (some ⟨p.d,0,none⟩),.agg #[.int .u8 As[q].kind,.int .i32 As[q].R,.int .i32 As[q].L7,.slice pa As[q].params.length pc,.slice ia As[q].inter.length ic,.int .i32 As[q].final,.slice ta As[q].text.length tc]] w8 fun e w'=>e=.returned (.int .i64 0)/\HD B2 W w2 w' h p s ⟨X2.dec,S2,Aey X2.T (As.take (q+1))⟩):=J0 fun w8 hb=>by
        rw[hE.out]
        exact(hxr.on' hb).act hsr (hQ.out.fr.trans (Hf.A1 (fun _=>False) hb) (fun _ _ h=>h.elim)) hA hR l1 l2 (Apj n1 (Hf.A1 (fun _=>False) hb) (fun _ _ _ h=>h)) (Apj n2 (Hf.A1 (fun _=>False) hb) (fun _ _ _ h=>h))
       generalize As[q]=A at Y2 hdo
       clear hE hR hA hxr hsr hQ hqa n1 n2 l1 l2
       obtain⟨Ak,Ar,Ap,Al,Ai,Af,At⟩:=A
       simp only[Prs.Arw]at Y2 hdo
       have hbn:=A3 wr (.cells #[.int .u8 0,.int .i32 0,.int .i32 0,.slice none 0 0,.slice none 0 0,.int .i32 0,.slice none 0 0] 151)
       have hbx:=Block.made wr 151 #[.int .u8 0,.int .i32 0,.int .i32 0,.slice none 0 0,.slice none 0 0,.int .i32 0,.slice none 0 0]
       have B9:(prog.info? 151).map (·.size)=some (#[.int .u8 Ak,.int .i32 Ar,.int .i32 Ap,.slice pa Al.length pc,.slice ia Ai.length ic,.int .i32 Af,.slice ta At.length tc]:Array Value).size:=(show(prog.info? 151).map (·.size)=some 7 by kernel_rfl)
       go_wp2_with (first
        |(with_reducible refine J9 39 38 ?_;go_must(refine Rw.Aix rfl 151 (.tmp 38) rfl (ad3.add (q*7)) rfl [.int .u8 Ak,.int .i32 Ar,.int .i32 Ap,.slice pa Al.length pc,.slice ia Ai.length ic,.int .i32 Af,.slice ta At.length tc] _ Y2 underlying151 rfl (by kernel_rfl) ?_))
        |(with_reducible refine J8 11 ?_;go_must(refine L8 rfl _ (.tmp 11) (.tmp 39) rfl hbx #[.int .u8 Ak,.int .i32 Ar,.int .i32 Ap,.slice pa Al.length pc,.slice ia Ai.length ic,.int .i32 Af,.slice ta At.length tc] rfl rfl (by exact B9) rfl (by simp[Value.oneCell']) ?_);intro w8 hb8 ho8;have hB8:=J0 (hbn.trans (ho8.below (by simp) (by simp)));have y0:=hb8.cell 0 (v:=.int .u8 Ak) rfl;have y1:=hb8.cell 1 (v:=.int .i32 Ar) rfl;have y2:=hb8.cell 2 (v:=.int .i32 Ap) rfl;have y3:=hb8.cell 3 (v:=.slice pa Al.length pc) rfl;have y4:=hb8.cell 4 (v:=.slice ia Ai.length ic) rfl;have y5:=hb8.cell 5 (v:=.int .i32 Af) rfl;have y6:=hb8.cell 6 (v:=.slice ta At.length tc) rfl)
        |(go_at_call 37;(with_reducible refine(hdo.out _ hB8.out).mono ?_);rintro e w9 ⟨rfl,hQ9⟩))
       replace hQ9:=J0 hQ9
       clear hdo Y2
       go_roundw
       case rel=>exact⟨q+1,by omega,by go_num,hQ9⟩
       case measure=>simp[intOf];omega
      ·obtain rfl:q=na:=by omega
       rw[List.take_of_length_le (by rw[hna.out];exact J5 _)]at hQ
       have hQ9:=J0 (Ajz.out _ hQ.out)
       clear Ajz hrh hac hQ
       go_wp2
       go_roundw
       case rel=>exact⟨j+1,by omega,by go_num,hQ9⟩
       case measure=>simp[intOf];omega
    ·obtain rfl:j=m:=by omega
     rw[List.take_of_length_le (by rw[hm.out];exact J5 _)]at hQ
     have hQ9:=J0 (C3.out _ hQ.out)
     clear C3 htr Asv hQ
     go_wp2
     go_roundw
     case rel=>exact⟨k+1,by omega,by go_num,hQ9⟩
     case measure=>simp[intOf];omega
  ·obtain rfl:k=n:=by omega
   replace hQ:=J0 (E3.out _ hQ.out)
   clear hBd hb hsh E3 hn
   go_wp2
   go_end0
   exact⟨⟨_,rfl⟩,hQ.out⟩
end
end Go.Proofs.YtecnpoigegiooaaGreatDoor.Hos
namespace Go.Proofs.YtecnpoigegiooaaGreatDoor.Kys
open Go.Proofs.Tryz
open Go RowKit Com Mds
def Bdo(l:List Int)(m:Md)(w:World)(e:Ending)(w':World):Prop:=∃v,e=.returned v/\Row w' w.heap.size 5 v l/\Below w.heap.size w w'/\MB w' w.heap.size m
theorem Bdo.of{w w1:World}{l:List Int}{m:Md}(hb:Below w.heap.size w w1)(hm:MB w1 w.heap.size m)(e:Ending)(w':World)(h:Put w1.heap.size l w1 e w'):Bdo l m w e w':=by
 obtain⟨v,he,hr,hb1⟩:=h
 exact⟨v,he,hr.lower hb.size,A2 hb hb1,hm.below hb1⟩
theorem Bvj(m:Md)(hon:m.a7=false)(ao:Option Addr)(c:Nat)(text:List Int)(hl:text.length<=100000000)(w:World)(hn:A8 w w.heap.size .i32 ao text) :
  Calls prog 31 #[.agg (mA m),.slice ao text.length c] w (Put w.heap.size (Aaw false text) w):=by
 have hb0:=J0 (A3 w (.cells (mA m) 80))
 have hd0:=J0 (MB.made w m)
 have Asr:=hd0.out.cell (k:=7) (by omega)
 rw[show m.get 7=m.a7 from rfl,hon]at Asr
 have hlen:=J0 (fun k=>Bmp (on:=false) hl k)
 go_enter func31,ntmps31
 go_wp2_with fail
 have hst:Hid (All w m [] text 0 (.slice none 0 0) (w.alloc (.cells (mA m) 80))):=⟨Row.nil _ _ _,hb0.out,hd0.out⟩
 clear Asr hd0
 go_loopw [5,16] (fun v i wr=>∃k:Nat,i=.int .i64 k/\k<=text.length/\Hid (All w m ([]:List Int) text k v wr)) (fun _ i _=>text.length-(intOf i).toNat)
 case atStart=>exact⟨0,rfl,by omega,hst⟩
 case round =>
  clear hst
  obtain⟨k,rfl,hk,hat⟩:=hrel
  have hsz:=hat.out.below.size
  by_cases hlt:k<text.length
  ·obtain⟨ad,rfl,_,E7⟩:=(hn.below hat.out.below (J5 _)).at hlt
   have A6:=hat.out.row
   have F0:=J0 hat.out.below
   have N6:=J0 hat.out.box
   have hL:=J0 (hlen.out k)
   obtain⟨acc,O6⟩:∃acc,acc=([]:List Int)++R6 false (text.take k):=⟨_,rfl⟩
   rw[<- O6]at A6
   replace hL:=J0 (show acc.length<=500000000 by rw[O6];exact hL.out)
   replace O6:=J0 O6
   by_cases O7:text[k]=10
   ·rcases k with _|j
    ·have he:=J0 (show Q3 (Aa5 text 0) text[0]=[13]by rw[O7];rfl)
     rw[O7]at E7
     have Bob:wr.cell? ad=some (.int .i32 10):=by simpa[Addr.add]using E7
     clear E7 O7 hat hn
     go_wp2_with(at_builtin;refine Abk Y7 rfl (.tmp 41) (.tmp 42) rfl w.heap.size _ acc [13] _ _ 1 rfl rfl (A6.alloc _) (A8.one wr _ .u8 13) (by simp;omega) (by have:=hL.out;simp;omega) ?_;intro v2 w2 h2 ho2;have hb2:=J0 (Aaq (F0.out.trans ((Below.refl _ _).alloc hsz _)) (A6.alloc _) (by simp;omega) ho2);have hm2:=J0 (Ajn (N6.out.alloc _) (A6.alloc _) ho2);replace h2:=J0 h2;clear ho2)
     go_roundw
     case rel=>exact⟨0+1,by go_num,by omega,Ajj hlt O6.out he.out h2.out hb2.out hm2.out⟩
     case measure=>simp[intOf];omega
    ·obtain⟨ad',e',_,Arl⟩:=(hn.below hat.out.below (J5 _)).at (show j<text.length by omega)
     cases e'
     rw[O7]at E7
     have Coo:wr.cell? ⟨ad.block,ad.off+(j+1),none⟩=some (.int .i32 10):=by simpa[Addr.add]using E7
     clear E7
     by_cases hp:text[j]=13
     ·have Afb:=J0 (Auz hat.out hlt (show Q3 (Aa5 text (j+1)) text[j+1]=[]by rw[O7];exact Bmj _ (by simp[Aa5,Agr,List.getD,show j<text.length by omega,hp])))
      rw[hp]at Arl
      clear O7 hat hn hp
      go_wp2_with fail
      go_roundw
      case rel=>exact⟨j+1+1,by go_num,by omega,Afb.out⟩
      case measure=>simp[intOf];omega
     ·have he:=J0 (show Q3 (Aa5 text (j+1)) text[j+1]=[13]by rw[O7];exact Bmi _ (by simp[Aa5,Agr,List.getD,show j<text.length by omega,hp]))
      clear O7 hat hn
      generalize text[j]=y at Arl hp
      skip
      go_wp2_with(at_builtin;refine Abk Y7 rfl (.tmp 41) (.tmp 42) rfl w.heap.size _ acc [13] _ _ 1 rfl rfl (A6.alloc _) (A8.one wr _ .u8 13) (by simp;omega) (by have:=hL.out;simp;omega) ?_;intro v2 w2 h2 ho2;have hb2:=J0 (Aaq (F0.out.trans ((Below.refl _ _).alloc hsz _)) (A6.alloc _) (by simp;omega) ho2);have hm2:=J0 (Ajn (N6.out.alloc _) (A6.alloc _) ho2);replace h2:=J0 h2;clear ho2)
      go_roundw
      case rel=>exact⟨j+1+1,by go_num,by omega,Ajj hlt O6.out he.out h2.out hb2.out hm2.out⟩
      case measure=>simp[intOf];omega
   ·by_cases Abg:text[k]=13
    ·have he:=J0 (show Q3 (Aa5 text k) text[k]=[13]by rw[Abg];rfl)
     rw[Abg]at E7
     clear O7 Abg hat hn
     go_wp2_with(at_builtin;refine Abk Y7 rfl (.tmp 41) (.tmp 42) rfl w.heap.size _ acc [13] _ _ 1 rfl rfl (A6.alloc _) (A8.one wr _ .u8 13) (by simp;omega) (by have:=hL.out;simp;omega) ?_;intro v2 w2 h2 ho2;have hb2:=J0 (Aaq (F0.out.trans ((Below.refl _ _).alloc hsz _)) (A6.alloc _) (by simp;omega) ho2);have hm2:=J0 (Ajn (N6.out.alloc _) (A6.alloc _) ho2);replace h2:=J0 h2;clear ho2)
     go_roundw
     case rel=>exact⟨k+1,by go_num,by omega,Ajj hlt O6.out he.out h2.out hb2.out hm2.out⟩
     case measure=>simp[intOf];omega
    ·by_cases hpa:V6 text[k]
     ·have he:=J0 (Bpv (Aa5 text k) O7 Abg hpa)
      have hXl:=J0 (Aky text[k]).2
      have Afi:=fun w'=>Ats text[k] w'
      have Afl:=J0 (fun w'=>Bgu hpa w')
      obtain⟨X,hX⟩:∃X,X=O5 text[k]:=⟨_,rfl⟩
      rw[<- hX]at Afi
      replace he:=J0 (show Q3 (Aa5 text k) text[k]=X from he.out.trans hX.symm)
      replace hXl:=J0 (show X.length<=4 by rw[hX];exact hXl.out)
      replace Afi:=J0 Afi
      clear hat hn hX
      generalize text[k]=r at E7 Afi Afl O7 Abg hpa
      clear hpa
      go_wp2_with (first
      |(go_at_call 51;(with_reducible refine(Afl.out _).mono ?_);rintro e w' ⟨rfl,rfl⟩)
      |(go_at_call 52;(with_reducible refine(Afi.out _).mono ?_);rintro e w1 ⟨v1,rfl,hr1,hb1⟩;obtain⟨a1,c1,rfl,_,_,hn1⟩:=hr1.shape;replace hn1:=J0 hn1;replace hb1:=J0 hb1;clear hr1)
      |(at_builtin;refine Abk Y7 rfl (.tmp 47) (.tmp 49) rfl w.heap.size _ acc X a1 _ c1 rfl rfl (A6.below hb1.out) hn1.out (by have:=hb1.out.size;omega) (by have:=hL.out;have:=hXl.out;omega) ?_;intro v2 w2 h2 ho2;have hb2:=J0 (Aaq (F0.out.trans (hb1.out.mono hsz)) (A6.below hb1.out) (by have:=hb1.out.size;omega) ho2);have hm2:=J0 (Ajn (N6.out.below hb1.out) (A6.below hb1.out) ho2);replace h2:=J0 h2;clear ho2))
      go_roundw
      case rel=>exact⟨k+1,by go_num,by omega,Ajj hlt O6.out he.out h2.out hb2.out hm2.out⟩
      case measure=>simp[intOf];omega
     ·have Afb:=J0 (Auz hat.out hlt (Bpu (Aa5 text k) O7 Abg hpa))
      have Afl:=J0 (fun w'=>Bik hpa w')
      clear hat hn
      generalize text[k]=r at E7 Afl O7 Abg hpa
      clear hpa
      go_wp2_with((go_at_call 51;(with_reducible refine(Afl.out _).mono ?_);rintro e w' ⟨rfl,rfl⟩))
      go_roundw
      case rel=>exact⟨k+1,by go_num,by omega,Afb.out⟩
      case measure=>simp[intOf];omega
  ·have hkl:text.take k=text:=List.take_of_length_le (by omega)
   have A6:=hat.out.row
   have F0:=J0 hat.out.below
   have C6:=hat.out.box.cell (k:=7) (by omega)
   rw[show m.get 7=m.a7 from rfl,hon]at C6
   rw[hkl]at A6
   replace A6:=J0 A6
   clear hkl hat hn
   go_wp2_with fail
   go_ret
   exact⟨_,rfl,A6.out,F0.out⟩
theorem Byf(m:Md)(hon:m.a7=true)(ao:Option Addr)(c:Nat)(text:List Int)(hl:text.length<=100000000)(w:World)(hn:A8 w w.heap.size .i32 ao text)(hT:Tab w) :
  Calls prog 31 #[.agg (mA m),.slice ao text.length c] w (Put w.heap.size (Aaw true text) w):=by
 have hb0:=J0 (A3 w (.cells (mA m) 80))
 have hd0:=J0 (MB.made w m)
 have Asr:=hd0.out.cell (k:=7) (by omega)
 rw[show m.get 7=m.a7 from rfl,hon]at Asr
 have hlen:=J0 (fun k=>Bmp (on:=true) hl k)
 have hc:=(Axh _ _ Ahy (by simp) 126 _ (hT.below hb0.out) (x:=200) (by omega)).mono (Bdo.of hb0.out hd0.out)
 rw[show(w.alloc (.cells (mA m) 80)).heap.size=w.heap.size+1 by simp,Cnz]at hc
 have hc2:=fun w' hT'=>Axh _ _ Ahy (by simp) 126 w' hT' (x:=201) (by omega)
 rw[Coa]at hc2
 replace hc:=J0 hc
 replace hc2:=J0 hc2
 have Cth:=J0 (show Adb.length=6 from rfl)
 have Cti:=J0 (show Alu.length=6 from rfl)
 go_enter func31,ntmps31
 go_wp2_with (first
  |(go_at_call 50;(with_reducible refine(hc.out).mono ?_);rintro e w1 ⟨v1,rfl,hr1,hb1,hx1⟩;obtain⟨a1,c1,rfl,_,_,hn1⟩:=hr1.shape;replace hn1:=J0 hn1;replace hb1:=J0 hb1;have hbx:=J0 hx1;clear hr1 hx1)
  |(at_builtin;refine Abk Y7 rfl (.tmp 10) (.tmp 12) rfl w.heap.size (.slice none 0 0) [] Adb a1 _ c1 rfl rfl (Row.nil _ _ _) hn1.out hb1.out.size (by have:=Cth.out;simp only[List.length_nil];omega) ?_;intro v0 w0 h0 ho0))
 have hst:Hid (All w m Adb text 0 v0 w0):=⟨by simpa[R6]using h0,Aaq (e:=5) hb1.out (Row.nil _ _ _) hb1.out.size ho0,hbx.out.only ho0 (by simp[Value.ownBlock])⟩
 clear h0 ho0 hn1 hc Asr hd0
 go_loopw [5,16] (fun v i wr=>∃k:Nat,i=.int .i64 k/\k<=text.length/\Hid (All w m Adb text k v wr)) (fun _ i _=>text.length-(intOf i).toNat)
 case atStart=>exact⟨0,rfl,by omega,hst⟩
 case round =>
  clear hst
  obtain⟨k,rfl,hk,hat⟩:=hrel
  have hsz:=hat.out.below.size
  by_cases hlt:k<text.length
  ·obtain⟨ad,rfl,_,E7⟩:=(hn.below hat.out.below (J5 _)).at hlt
   have A6:=hat.out.row
   have F0:=J0 hat.out.below
   have N6:=J0 hat.out.box
   have hL:=J0 (hlen.out k)
   obtain⟨acc,O6⟩:∃acc,acc=Adb++R6 false (text.take k):=⟨_,rfl⟩
   rw[<- O6]at A6
   replace hL:=J0 (show acc.length<=500000000 by rw[O6];exact hL.out)
   replace O6:=J0 O6
   by_cases O7:text[k]=10
   ·rcases k with _|j
    ·have he:=J0 (show Q3 (Aa5 text 0) text[0]=[13]by rw[O7];rfl)
     rw[O7]at E7
     have Bob:wr.cell? ad=some (.int .i32 10):=by simpa[Addr.add]using E7
     clear E7 O7 hat hT hn
     go_wp2_with(at_builtin;refine Abk Y7 rfl (.tmp 41) (.tmp 42) rfl w.heap.size _ acc [13] _ _ 1 rfl rfl (A6.alloc _) (A8.one wr _ .u8 13) (by simp;omega) (by have:=hL.out;simp;omega) ?_;intro v2 w2 h2 ho2;have hb2:=J0 (Aaq (F0.out.trans ((Below.refl _ _).alloc hsz _)) (A6.alloc _) (by simp;omega) ho2);have hm2:=J0 (Ajn (N6.out.alloc _) (A6.alloc _) ho2);replace h2:=J0 h2;clear ho2)
     go_roundw
     case rel=>exact⟨0+1,by go_num,by omega,Ajj hlt O6.out he.out h2.out hb2.out hm2.out⟩
     case measure=>simp[intOf];omega
    ·obtain⟨ad',e',_,Arl⟩:=(hn.below hat.out.below (J5 _)).at (show j<text.length by omega)
     cases e'
     rw[O7]at E7
     have Coo:wr.cell? ⟨ad.block,ad.off+(j+1),none⟩=some (.int .i32 10):=by simpa[Addr.add]using E7
     clear E7
     by_cases hp:text[j]=13
     ·have Afb:=J0 (Auz hat.out hlt (show Q3 (Aa5 text (j+1)) text[j+1]=[]by rw[O7];exact Bmj _ (by simp[Aa5,Agr,List.getD,show j<text.length by omega,hp])))
      rw[hp]at Arl
      clear O7 hat hT hn hp
      go_wp2_with fail
      go_roundw
      case rel=>exact⟨j+1+1,by go_num,by omega,Afb.out⟩
      case measure=>simp[intOf];omega
     ·have he:=J0 (show Q3 (Aa5 text (j+1)) text[j+1]=[13]by rw[O7];exact Bmi _ (by simp[Aa5,Agr,List.getD,show j<text.length by omega,hp]))
      clear O7 hat hT hn
      generalize text[j]=y at Arl hp
      skip
      go_wp2_with(at_builtin;refine Abk Y7 rfl (.tmp 41) (.tmp 42) rfl w.heap.size _ acc [13] _ _ 1 rfl rfl (A6.alloc _) (A8.one wr _ .u8 13) (by simp;omega) (by have:=hL.out;simp;omega) ?_;intro v2 w2 h2 ho2;have hb2:=J0 (Aaq (F0.out.trans ((Below.refl _ _).alloc hsz _)) (A6.alloc _) (by simp;omega) ho2);have hm2:=J0 (Ajn (N6.out.alloc _) (A6.alloc _) ho2);replace h2:=J0 h2;clear ho2)
      go_roundw
      case rel=>exact⟨j+1+1,by go_num,by omega,Ajj hlt O6.out he.out h2.out hb2.out hm2.out⟩
      case measure=>simp[intOf];omega
   ·by_cases Abg:text[k]=13
    ·have he:=J0 (show Q3 (Aa5 text k) text[k]=[13]by rw[Abg];rfl)
     rw[Abg]at E7
     clear O7 Abg hat hT hn
     go_wp2_with(at_builtin;refine Abk Y7 rfl (.tmp 41) (.tmp 42) rfl w.heap.size _ acc [13] _ _ 1 rfl rfl (A6.alloc _) (A8.one wr _ .u8 13) (by simp;omega) (by have:=hL.out;simp;omega) ?_;intro v2 w2 h2 ho2;have hb2:=J0 (Aaq (F0.out.trans ((Below.refl _ _).alloc hsz _)) (A6.alloc _) (by simp;omega) ho2);have hm2:=J0 (Ajn (N6.out.alloc _) (A6.alloc _) ho2);replace h2:=J0 h2;clear ho2)
     go_roundw
     case rel=>exact⟨k+1,by go_num,by omega,Ajj hlt O6.out he.out h2.out hb2.out hm2.out⟩
     case measure=>simp[intOf];omega
    ·by_cases hpa:V6 text[k]
     ·have he:=J0 (Bpv (Aa5 text k) O7 Abg hpa)
      have hXl:=J0 (Aky text[k]).2
      have Afi:=fun w'=>Ats text[k] w'
      have Afl:=J0 (fun w'=>Bgu hpa w')
      obtain⟨X,hX⟩:∃X,X=O5 text[k]:=⟨_,rfl⟩
      rw[<- hX]at Afi
      replace he:=J0 (show Q3 (Aa5 text k) text[k]=X from he.out.trans hX.symm)
      replace hXl:=J0 (show X.length<=4 by rw[hX];exact hXl.out)
      replace Afi:=J0 Afi
      clear hat hT hn hX
      generalize text[k]=r at E7 Afi Afl O7 Abg hpa
      clear hpa
      go_wp2_with (first
      |(go_at_call 51;(with_reducible refine(Afl.out _).mono ?_);rintro e w' ⟨rfl,rfl⟩)
      |(go_at_call 52;(with_reducible refine(Afi.out _).mono ?_);rintro e w1 ⟨v1,rfl,hr1,hb1⟩;obtain⟨a1,c1,rfl,_,_,hn1⟩:=hr1.shape;replace hn1:=J0 hn1;replace hb1:=J0 hb1;clear hr1)
      |(at_builtin;refine Abk Y7 rfl (.tmp 47) (.tmp 49) rfl w.heap.size _ acc X a1 _ c1 rfl rfl (A6.below hb1.out) hn1.out (by have:=hb1.out.size;omega) (by have:=hL.out;have:=hXl.out;omega) ?_;intro v2 w2 h2 ho2;have hb2:=J0 (Aaq (F0.out.trans (hb1.out.mono hsz)) (A6.below hb1.out) (by have:=hb1.out.size;omega) ho2);have hm2:=J0 (Ajn (N6.out.below hb1.out) (A6.below hb1.out) ho2);replace h2:=J0 h2;clear ho2))
      go_roundw
      case rel=>exact⟨k+1,by go_num,by omega,Ajj hlt O6.out he.out h2.out hb2.out hm2.out⟩
      case measure=>simp[intOf];omega
     ·have Afb:=J0 (Auz hat.out hlt (Bpu (Aa5 text k) O7 Abg hpa))
      have Afl:=J0 (fun w'=>Bik hpa w')
      clear hat hT hn
      generalize text[k]=r at E7 Afl O7 Abg hpa
      clear hpa
      go_wp2_with((go_at_call 51;(with_reducible refine(Afl.out _).mono ?_);rintro e w' ⟨rfl,rfl⟩))
      go_roundw
      case rel=>exact⟨k+1,by go_num,by omega,Afb.out⟩
      case measure=>simp[intOf];omega
  ·have hkl:text.take k=text:=List.take_of_length_le (by omega)
   have A6:=hat.out.row
   have F0:=J0 hat.out.below
   have N6:=hat.out.box
   have C6:=N6.cell (k:=7) (by omega)
   rw[show m.get 7=m.a7 from rfl,hon]at C6
   have hL:=hlen.out k
   rw[hkl]at A6 hL
   have hE:=J0 (show Aaw true text=Adb++R6 false text++Alu from rfl)
   obtain⟨acc,O6⟩:∃acc,acc=Adb++R6 false text:=⟨_,rfl⟩
   rw[<- O6]at A6 hE
   replace hL:=J0 (show acc.length<=500000000 by rw[O6];exact hL)
   have hTr:=J0 (hT.below hat.out.below)
   clear hkl hat hT O6 hn N6
   go_wp2_with (first
    |(go_at_call 50;(with_reducible refine(hc2.out _ hTr.out).mono ?_);rintro e w3 ⟨v3,rfl,hr3,hb3⟩;obtain⟨a3,c3,rfl,_,_,hn3⟩:=hr3.shape;replace hn3:=J0 hn3;replace hb3:=J0 hb3;clear hr3)
    |(at_builtin;refine Abk Y7 rfl (.tmp 54) (.tmp 56) rfl w.heap.size _ acc Alu a3 _ c3 rfl rfl (A6.below hb3.out) hn3.out (by have:=hb3.out.size;omega) (by have:=hL.out;rw[Cti.out];omega) ?_;intro v4 w4 h4 ho4;have hb4:=J0 (Aaq (F0.out.trans (hb3.out.mono hsz)) (A6.below hb3.out) (by have:=hb3.out.size;omega) ho4);replace h4:=J0 h4;clear ho4))
   go_ret
   exact⟨v4,rfl,by rw[hE.out];exact h4.out,hb4.out⟩
theorem Cbo(m:Md)(ao:Option Addr)(c:Nat)(text:List Int)(hl:text.length<=100000000)(w:World)(hn:A8 w w.heap.size .i32 ao text)(hT:Tab w) :
  Calls prog 31 #[.agg (mA m),.slice ao text.length c] w (Put w.heap.size (Aaw m.a7 text) w):=by
 rcases h:m.a7 with _|_
 ·exact Bvj m h ao c text hl w hn
 ·exact Byf m h ao c text hl w hn hT
end Go.Proofs.YtecnpoigegiooaaGreatDoor.Kys
namespace Go.Proofs.YtecnpoigegiooaaGreatDoor.Hos
open Go.Proofs.Tryz
open Go RowKit Com Rw Lns Emu Scn
def HP.snd(p:HP)(v:Value):HP:={ p with sv:=v }
def HB(B:Zn)(W w:World)(h:Nat)(H:Hst):Prop:=∃Z p,HX Z W w h p H/\∀k,HZn Z h p k->B k
section
variable {Z B:Zn}{W w w1 w2 w':World}{h:Nat}{p:HP}{H:Hst}{X:Tri}{v sv:Value}{s b l:List Int}{ao:Option Addr}{n cp c:Nat}
theorem HB.up(hB:HB B W w h H):∀k,w.heap.size<=k->B k:=fun k hk=>by
 obtain⟨Z,p,hx,hs⟩:=hB
 exact hs k (.inl (hx.up k hk))
theorem Cme(hat:sv.ownBlock=p.sv.ownBlock\/sv.ownBlock=none\/∃g,sv.ownBlock=some g/\w.heap.size<=g):∀k,(p.snd sv).own h k->p.own h k\/w.heap.size<=k/\sv.ownBlock=some k:=fun k hk=>by
 rcases hk with hk|hk|hk|hk|hk|hk|hk
 ·exact .inl (.inl hk)
 ·exact .inl (.inr (.inl hk))
 ·exact .inl (.inr (.inr (.inl hk)))
 ·exact .inl (.inr (.inr (.inr (.inl hk))))
 ·exact .inl (.inr (.inr (.inr (.inr (.inl hk)))))
 ·exact .inl (.inr (.inr (.inr (.inr (.inr (.inl hk))))))
 ·have hk':sv.ownBlock=some k:=hk
  rcases hat with e|e|⟨g,e,hg⟩
  ·exact .inl (.inr (.inr (.inr (.inr (.inr (.inr (e▸hk')))))))
  ·rw[e]at hk';cases hk'
  ·rw[e]at hk';cases hk';exact .inr ⟨hg,e⟩
theorem HX.Bqc(hx:HX Z W w h p H)(hr:Kys.Row w2 W.heap.size 5 sv l)(ho:A0 p.sv.ownBlock.toList w w2)(hat:sv.ownBlock=p.sv.ownBlock\/sv.ownBlock=none\/∃g,sv.ownBlock=some g/\w.heap.size<=g) :
  HX (re Z w (w2.setCell ⟨p.e,3,none⟩ sv)) W (w2.setCell ⟨p.e,3,none⟩ sv) h (p.snd sv) { H with B8:=l }/\Hf (HZn Z h p) w (w2.setCell ⟨p.e,3,none⟩ sv)/\∀k,HZn (re Z w (w2.setCell ⟨p.e,3,none⟩ sv)) h (p.snd sv) k->HZn Z h p k\/w.heap.size<=k:=by
 have hlt:=hx.lt
 have te:=Block.typ hx.eb
 have ts:∀g,p.sv.ownBlock=some g->Typ w g 5:=fun g hg=>R0 hx.B8 g hg
 have hO:A0 (p.e::p.sv.ownBlock.toList) w (w2.setCell ⟨p.e,3,none⟩ sv):=(ho.mono (by simp +contextual)).trans ((A0.setCell w2 ⟨p.e,3,none⟩ sv).mono (by simp))
 have hs:=hO.size
 have own:∀k,k∈p.e::p.sv.ownBlock.toList->p.own h k:=fun k hm=>by
  rcases List.mem_cons.1 hm with rfl|hm
  ·exact .inr (.inl rfl)
  ·exact .inr (.inr (.inr (.inr (.inr (.inr (by simpa using hm))))))
 have hf:Hf (HZn Z h p) w (w2.setCell ⟨p.e,3,none⟩ sv):=(Hf.I9 hO).mono fun k _ hk=>.inr (own k hk)
 have hnd:∀ {k:Nat} {ty:TypeId},Typ w k ty->ty≠69->ty≠5->k∉p.e::p.sv.ownBlock.toList:=fun hb hn hn2 hm=>by
  rcases List.mem_cons.1 hm with rfl|hm
  ·exact hn (Typ.inj hb te)
  ·exact hn2 (Typ.inj hb (ts _ (by simpa using hm)))
 have he2:Block w2 p.e 69 (Bqm p):=Block.only hx.eb ho (fun hm=>absurd (Typ.inj te (ts _ (by simpa using hm))) (by decide))
 have hgt:∀g,sv.ownBlock=some g->g≠p.e:=fun g hg e=>absurd (Typ.inj (R0 hr g hg) (e▸Block.typ he2)) (by decide)
 have hso:=Cme (p:=p) (w:=w) (h:=h) hat
 refine⟨⟨Block.only hx.hb hO (hnd (Block.typ hx.hb) (by decide) (by decide)),he2.set 3 sv,Block.only hx.dec hO (hnd (Block.typ hx.dec) (by decide) (by decide)),hx.par.only hO (hnd (Block.typ hx.par.blk.blk) (by decide) (by decide)) (fun g hg=>hnd (M4 hx.par.own g hg) (by decide) (by decide)),
  W8 hr (fun g hg=>Below.heap_setCell _ _ _ _ (hgt g hg)),TZ.re hx.tz (Hf.I9 hO) (fun k hk hz hm=>hx.nz k (own k hm) hz) (fun hm=>hnd (Block.typ hx.tz.tv.blk) (by decide) (by decide) hm) (fun k hk hm=>?_) hx.six,fun k hk hz=>?_,hx.lo,hx.six⟩,hf,fun k hk=>?_⟩
 ·have:=(hlt k (own k hm)).1
  omega
 ·have hk2:k<(w2.setCell ⟨p.e,3,none⟩ sv).heap.size:=by
   rcases hso k hk with h1|⟨_,h1⟩
   ·have:=(hlt k h1).2;omega
   ·have:=(hr.lt k h1).2
    simpa using this
  rcases hz with hz|hz
  ·rcases hso k hk with h1|h1
   ·exact hx.nz k h1 hz.1
   ·omega
  ·omega
 ·rcases hk with hk|hk
  ·exact(Bcp hs k hk).imp (fun h=>.inl h) id
  ·rcases hso k hk with h1|h1
   ·exact .inl (.inr h1)
   ·exact .inr h1.1
def Arc(Z:Zn)(W w:World)(h:Nat)(p:HP)(H:Hst)(b:List Int)(e:Ending)(w':World):Prop:=(∃x,e=.returned x)/\∃Z' sv,HX Z' W w' h (p.snd sv) { H with B8:=H.B8++b }/\Hf (HZn Z h p) w w'/\∀k,HZn Z' h (p.snd sv) k->HZn Z h p k\/w.heap.size<=k
theorem Avb(hx:HX Z W w h p H)(hn:A8 w w.heap.size .u8 ao b)(hl:H.B8.length+b.length<=140737488355328)(hbn:b.length=n):Calls prog 30 #[.pointer (some ⟨p.e,0,none⟩),.slice ao n cp] w (Arc Z W w h p H b):=by
 subst hbn
 have A6:=hx.B8
 have c3:w.cell? ⟨p.e,3,none⟩=some p.sv:=hx.eb.cell 3 rfl
 have heb:=hx.eb
 have C3:Hid (∀w2 sv,Kys.Row w2 W.heap.size 5 sv (H.B8++b)->A0 p.sv.ownBlock.toList w w2->(sv.ownBlock=p.sv.ownBlock\/sv.ownBlock=some w.heap.size)->Arc Z W w h p H b (.returned (.tuple #[])) (w2.setCell ⟨p.e,3,none⟩ sv)):=J0 fun w2 sv h1 h2 h3=>by
  obtain⟨a1,a2,a3⟩:=hx.Bqc h1 h2 (h3.imp id fun h=>.inr ⟨_,h,J5 _⟩)
  exact⟨⟨_,rfl⟩,_,sv,a1,a2,a3⟩
 have S3:p.e∉p.sv.ownBlock.toList:=fun hm=>absurd (Typ.inj (Block.typ hx.eb) (R0 hx.B8 p.e (by simpa using hm))) (by decide)
 have hW:=hx.below.size
 obtain⟨ar,cr,hrv,_⟩:=hx.B8.shape
 generalize H.B8=l at A6 C3 hl hrv
 rw[hrv]at c3 A6 C3 S3
 replace A6:=J0 A6
 replace hn:=J0 hn
 replace heb:=J0 heb
 replace S3:=J0 S3
 replace hl:=J0 hl
 replace hrv:=J0 hrv
 clear hx
 go_enter func30,ntmps30
 go_wp2_with (first
  |(with_reducible refine J6 10 ?_;go_must(refine Bfx Kys.Y7 rfl (.tmp 8) (.tmp 9) rfl W.heap.size (.slice ar l.length cr) l b ao w.heap.size cp rfl rfl A6.out hn.out hW hl.out ?_);intro v2 w2 hr2 ho2 Aak;have hb2:=heb.out.only ho2 S3.out;have k2':=hb2.cell 3 rfl;have f2:=hb2.free 3;have A4:=J0 (C3.out _ _ hr2 ho2 Aak);obtain⟨a2,c2,rfl,_⟩:=hr2.shape))
 have Anv:=A4.out
 rw[List.length_append]at Anv
 go_end0
 exact Anv
end
