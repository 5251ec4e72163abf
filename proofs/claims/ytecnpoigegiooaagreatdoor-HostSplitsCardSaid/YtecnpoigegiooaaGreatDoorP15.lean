/- Part 15 of HostSplits. -/
import Derived.Test.YtecnpoigegiooaaGreatDoorP14
set_option maxHeartbeats 16000000
set_option maxRecDepth 100000
namespace Go.Proofs.YtecnpoigegiooaaGreatDoor.Scn
open Go RowKit Com Rw Lns
def SC (B:Zn) (w:World) (x s:Nat) (S:Scr):Prop :=
 ∃sv lv L R,MidX B w x s S.nx S.most S.kp S.cols sv lv S.top S.bot L.length (fl Ac3 L) L R/\vw L=S.L/\vw R=S.R
section
variable {B:Zn}{w w':World}{x s:Nat}{S:Scr}
theorem SC.fr {B':Zn} {ts:List TypeId} (h:SC B w x s S) (hf:Fr B' ts w w') (hn:NoPT ts):SC B w' x s S:=by
 obtain⟨sv,lv,L,R,h1,h2,h3⟩:=h
 exact⟨sv,lv,L,R,h1.fr hf hn,h2,h3⟩
theorem SC.below (h:SC B w x s S) (hb:Below w.heap.size w w'):SC B w' x s S:=h.fr (Fr.of_below (B:=fun _=>True) (ts:=[]) hb) (by simp[NoPT])
theorem SC.cells (h:SC B w x s S):w.cell? ⟨x,0,none⟩=some (.pointer (some ⟨s,0,none⟩))/\w.cell? ⟨x,1,none⟩=some (.bool S.kp)/\w.cell? ⟨x,2,none⟩=some (.int .i64 S.cols)/\(∃ao c,w.cell? ⟨x,3,none⟩=some (.slice ao S.L.length c))/\w.cell? ⟨x,4,none⟩=some (.int .i64 S.top)/\w.cell? ⟨x,5,none⟩=some (.int .i64 S.bot):=by
 obtain⟨sv,lv,L,R,h1,h2,h3⟩:=h
 obtain⟨c0,c1,c2,c3,c4,c5⟩:=h1.ln.cells
 obtain⟨ao,c,rfl,_⟩:=h1.ln.shape
 rw[<- h2,Ay7]
 exact⟨c0,c1,c2,⟨ao,c,c3⟩,c4,c5⟩
theorem SC.elem (h:SC B w x s S) {i:Nat} (hi:i<S.L.length):∃g c d,w.cell? ⟨x,3,none⟩=some (.slice (some ⟨g,0,none⟩) S.L.length c)/\w.cell? ⟨g,i*2,none⟩=some (.int .i64 S.L[i].1)/\w.cell? ⟨g,i*2+1,none⟩=some (.pointer (some ⟨d,0,none⟩)):=by
 obtain⟨sv,lv,L,R,h1,h2,h3⟩:=h
 have hl:L.length=S.L.length:=by rw[<- h2,Ay7]
 have hiL:i<L.length:=by omega
 have hc:=h1.ln.cells.2.2.2.1
 obtain⟨g,c,rfl,q0,q1,_⟩:=h1.elem rfl hiL
 rw[hl] at hc
 refine⟨g,c,_,hc,?_,q1⟩
 rw[q0]
 simp only[<- h2,vw,List.getElem_map]
theorem Ak8 (h:SC B w x s S) (hl:1<=S.L.length):Calls Tryz.prog 97 #[.pointer (some ⟨x,0,none⟩)] w fun e w'=>e=.returned (.bool true)/\w=w':=by
 obtain⟨_,_,_,⟨ao,c,c3⟩,_,_⟩:=h.cells
 have hl':(0:Int)<(S.L.length:Int):=by omega
 generalize S.L.length=n at c3 hl'
 clear h
 go_enter Tryz.func97,Tryz.ntmps97
 go_wp2
 go_ret
 exact⟨Ab6 (decide_eq_true (by omega)),rfl⟩
theorem Af8 (h:SC B w x s S) (hl:1<=S.L.length):Calls Tryz.prog 70 #[.pointer (some ⟨x,0,none⟩)] w fun e w'=>e=.returned (.int .i64 S.L.length)/\w=w':=by
 have hm:=J0 (Ak8 h hl)
 obtain⟨_,_,_,⟨ao,c,c3⟩,_,_⟩:=h.cells
 generalize S.L.length=n at c3 |-
 clear h
 go_enter Tryz.func70,Tryz.ntmps70
 go_wp2_with ((go_at_call 97;(with_reducible refine(hm.out).mono ?_);rintro e w' ⟨rfl,rfl⟩))
 go_ret
 exact⟨rfl,rfl⟩
theorem Ai2 (h:SC B w x s S) (hl:1<=S.L.length):Calls Tryz.prog 124 #[.pointer (some ⟨x,0,none⟩)] w fun e w'=>e=.returned (.int .i64 S.cols)/\w=w':=by
 have hm:=J0 (Ak8 h hl)
 obtain⟨_,_,c2,_,_,_⟩:=h.cells
 generalize S.cols=n at c2 |-
 clear h
 go_enter Tryz.func124,Tryz.ntmps124
 go_wp2_with ((go_at_call 97;(with_reducible refine(hm.out).mono ?_);rintro e w' ⟨rfl,rfl⟩))
 go_ret
 exact⟨rfl,rfl⟩
theorem Cq2 (h:SC B w x s S) (hl:1<=S.L.length) (i:Int):Calls Tryz.prog 98 #[.pointer (some ⟨x,0,none⟩),.int .i64 i] w fun e w'=>e=.returned (.bool (decide (0<=i/\i<S.L.length)))/\w=w':=by
 have hm:=J0 (Af8 h hl)
 obtain⟨b,hb⟩:∃b,b=decide (0<=i/\i<(S.L.length:Int)):=⟨_,rfl⟩
 rw[<- hb]
 replace hb:=J0 hb
 clear h
 by_cases h0:0<=i
 ·go_enter Tryz.func98,Tryz.ntmps98
  go_wp2_with ((go_at_call 70;(with_reducible refine(hm.out).mono ?_);rintro e w' ⟨rfl,rfl⟩))
  go_ret
  exact⟨Ab6 (by rw[hb.out,Bool.eq_iff_iff];simp;omega),rfl⟩
 ·have h1:decide (0<=i)=false:=decide_eq_false h0
  go_enter Tryz.func98,Tryz.ntmps98
  go_wp2_with ((go_at_call 70;(with_reducible refine(hm.out).mono ?_);rintro e w' ⟨rfl,rfl⟩))
  go_ret
  exact⟨Ab6 (by rw[hb.out];symm;exact decide_eq_false (by omega)),rfl⟩
theorem Az0 (h:SC B w x s S) (at':Int):Calls Tryz.prog 272 #[.pointer (some ⟨x,0,none⟩),.int .i64 at'] w fun e w'=>e=.returned (.bool (decide ((S.top:Int)<=at'/\at'<=S.bot)))/\Below w.heap.size w w':=by
 obtain⟨_,_,_,_,c4,c5⟩:=h.cells
 obtain⟨b,hb⟩:∃b,b=decide ((S.top:Int)<=at'/\at'<=S.bot):=⟨_,rfl⟩
 rw[<- hb]
 generalize S.top=t at c4 hb
 generalize S.bot=bo at c5 hb
 replace hb:=J0 hb
 clear h
 by_cases h0:(t:Int)<=at'
 ·go_enter Tryz.func272,Tryz.ntmps272
  go_wp2
  try go_quiet (fail)
  try go_wp2
  go_ret
  exact⟨Ab6 (by rw[hb.out,Bool.eq_iff_iff];simp;omega),by first|exact Below.refl _ _|exact Aa4 (Below.refl _ _) _⟩
 ·have h1:decide ((t:Int)<=at')=false:=decide_eq_false h0
  go_enter Tryz.func272,Tryz.ntmps272
  go_wp2
  try go_quiet (fail)
  try go_wp2
  go_ret
  exact⟨Ab6 (by rw[hb.out];symm;exact decide_eq_false (by omega)),by first|exact Below.refl _ _|exact Aa4 (Below.refl _ _) _⟩
theorem Ct7 (h:SC B w x s S) (hl:1<=S.L.length) (i:Int):Calls Tryz.prog 73 #[.pointer (some ⟨x,0,none⟩),.int .i64 i] w fun e w'=>e=.returned (.int .i64 (idAt S.L i))/\w=w':=by
 have hm:=Cq2 h hl i
 by_cases hi:0<=i/\i<S.L.length
 ·obtain⟨k,rfl⟩:∃k:Nat,i=k:=⟨i.toNat,by omega⟩
  have hk:k<S.L.length:=by omega
  obtain⟨g,c,d,c3,q0,q1⟩:=h.elem hk
  rw[Ci2 hk]
  rw[decide_eq_true hi] at hm
  have hkI:(k:Int)<(S.L.length:Int):=by omega
  generalize S.L[k].1=y at q0 |-
  generalize S.L.length=n at c3 hkI
  replace hm:=J0 hm
  clear h hi hk hl
  go_enter Tryz.func73,Tryz.ntmps73
  go_wp2_with ((go_at_call 98;(with_reducible refine(hm.out).mono ?_);rintro e w' ⟨rfl,rfl⟩))
  go_ret
  exact⟨rfl,rfl⟩
 ·rw[decide_eq_false hi] at hm
  have h0:idAt S.L i=0:=by unfold idAt;rw[if_neg hi]
  rw[h0]
  replace hm:=J0 hm
  clear h hi hl h0
  go_enter Tryz.func73,Tryz.ntmps73
  go_wp2_with ((go_at_call 98;(with_reducible refine(hm.out).mono ?_);rintro e w' ⟨rfl,rfl⟩))
  go_ret
  exact⟨rfl,rfl⟩
def Ae1 (B:Zn) (w:World) (x s:Nat) (S:Scr) (i d:Nat):Prop :=
 ∃sv lv L R,MidX B w x s S.nx S.most S.kp S.cols sv lv S.top S.bot L.length (fl Ac3 L) L R/\vw L=S.L/\vw R=S.R/\∃e,L[i]?=some e/\e.d=d
theorem Cm5 (h:SC B w x s S) (hl:1<=S.L.length) (i:Nat) (hi:i<S.L.length):Calls Tryz.prog 71 #[.pointer (some ⟨x,0,none⟩),.int .i64 i] w fun e w'=>(∃d,e=.returned (.pointer (some ⟨d,0,none⟩))/\Ae1 B w x s S i d)/\w=w':=by
 have hm:=Cq2 h hl i
 rw[decide_eq_true (by omega)] at hm
 obtain⟨sv,lv,L,R,h1,h2,h3⟩:=h
 have hll:L.length=S.L.length:=by rw[<- h2,Ay7]
 have hiL:i<L.length:=by omega
 have hc:=h1.ln.cells.2.2.2.1
 have hat:Ae1 B w x s S i L[i].d:=⟨sv,lv,L,R,h1,h2,h3,L[i],List.getElem?_eq_getElem hiL,rfl⟩
 obtain⟨g,c,rfl,q0,q1,hrw⟩:=h1.elem rfl hiL
 clear hrw
 have hkI:(i:Int)<(L.length:Int):=by omega
 generalize L[i].d=d at q1 hat
 generalize L.length=n at hc hkI
 replace hm:=J0 hm
 replace hat:=J0 hat
 clear h1 h2 h3 hi hl hll hiL q0
 go_enter Tryz.func71,Tryz.ntmps71
 go_wp2_with ((go_at_call 98;(with_reducible refine(hm.out).mono ?_);rintro e w' ⟨rfl,rfl⟩))
 go_ret
 exact⟨⟨d,rfl,hat.out⟩,rfl⟩
end
def Did (B:Zn) (w:World) (x s:Nat) (S:Scr) (e:Ending) (w':World):Prop:=(∃v,e=.returned v)/\SC B w' x s S/\Fr B PT w w'
def DidV (B:Zn) (w:World) (x s:Nat) (S:Scr) (y:Int) (e:Ending) (w':World):Prop:=e=.returned (.int .i64 y)/\SC B w' x s S/\Fr B PT w w'
theorem mkf (fn:Fn) (first cap:Array Value) (w:World):(Instr.makeFunc fn first cap).run Tryz.prog w=.ok (.func fn first cap) w:=rfl
section
variable {B:Zn}{w w':World}{x s:Nat}{S:Scr}
theorem Cg7 {p:Bool} {fn0:Nat} (hor:(p=false/\fn0=77)\/(p=true/\fn0=283)) (h:SC B w x s S) (f k i m:Nat) (hf:f+k<=S.L.length) (hi:i<=S.L.length - k) (hm:S.L.length - k+m<=1000) (hnx:S.nx+m<=10000000000) (hc1:1<=S.cols) (hc5:S.cols<=512) (a:At) (hid:p=true->∀q∈S.L,1<=q.1/\q.1<S.nx) :
  Calls Tryz.prog 76 #[.pointer (some ⟨x,0,none⟩),.agg #[.int .i64 f,.int .i64 k],.agg #[.int .i64 i,.int .i64 m],.agg #[.int .u32 a.f,.int .u32 a.b,.int .u16 a.g],.func (.func fn0) #[.pointer (some ⟨x,0,none⟩)] #[]] w (Did B w x s (chg S f k i m a p)):=by
 obtain⟨sv,lv,L,R,h1,h2,h3⟩:=h
 have hl:L.length=S.L.length:=by rw[<- h2,Ay7]
 refine(change_any hor h1 f k i m (by omega) (by omega) (by omega) hnx hc1 hc5 a (fun hp e he=>hid hp (e.id,e.l) (by rw[<- h2];exact List.mem_map.2 ⟨e,he,rfl⟩))).mono ?_
 rintro e w' ⟨hv,sv',lv',L',R',m1,m2,m3,m4⟩
 exact⟨hv,⟨sv',lv',L',R',m1,by rw[m2,h2];rfl,by rw[m3,h3,h2];rfl⟩,m4⟩
theorem Ci1 (h:SC B w x s S) (n:Int) (frm:Nat) (hf:frm<=S.bot) (hb:S.bot<=512):Calls Tryz.prog 271 #[.pointer (some ⟨x,0,none⟩),.int .i64 n,.int .i64 frm] w fun e w'=>e=.returned (.int .i64 (Ab0 n (S.bot+1 - frm)))/\w=w':=by
  obtain⟨_,_,_,_,_,c5⟩:=h.cells
  generalize S.bot=b at c5 hf hb |-
  have hw1:IntKind.i64.wrap ((b:Int)+1)=(b:Int)+1:=IntWalk.i64_in _ (by omega)
  have hw2:IntKind.i64.wrap ((b:Int)+1 - (frm:Int))=(b:Int)+1 - (frm:Int):=IntWalk.i64_in _ (by omega)
  obtain⟨k,hk⟩:∃k,k=Ab0 n (b+1 - frm):=⟨_,rfl⟩
  rw[<- hk]
  unfold Ab0 at hk
  replace hk:=J0 hk
  clear h
  by_cases h0:n<0
  · have hmn:Hid (min n ((b:Int)+1 - (frm:Int))=n):=J0 (by omega)
    have hmx:Hid (max 0 n=0):=J0 (by omega)
    go_enter Tryz.func271,Tryz.ntmps271
    go_wp2
    go_ret
    exact⟨Ab7 (by have:=hk.out;first|omega|(split<;>omega)|(repeat' split)<;>omega),rfl⟩
  · by_cases h1:n<=(b:Int)+1 - (frm:Int)
    · go_enter Tryz.func271,Tryz.ntmps271
      go_wp2
      all_goals
       go_ret
       exact⟨Ab7 (by have:=hk.out;first|omega|(split<;>omega)|(repeat' split)<;>omega),rfl⟩
    · go_enter Tryz.func271,Tryz.ntmps271
      go_wp2
      go_ret
      exact⟨Ab7 (by have:=hk.out;first|omega|(split<;>omega)|(repeat' split)<;>omega),rfl⟩
theorem Cs9 {p:Bool} {fn0:Nat} (hor:(p=false/\fn0=77)\/(p=true/\fn0=283)) (h:SC B w x s S) (hF:Fit S) (frm:Nat) (hfr:frm<=S.bot) (n:Int) (hnx:S.nx+512<=10000000000) (a:At) :
  Calls Tryz.prog 265 #[.pointer (some ⟨x,0,none⟩),.int .i64 frm,.int .i64 n,.agg #[.int .u32 a.f,.int .u32 a.b,.int .u16 a.g],.func (.func fn0) #[.pointer (some ⟨x,0,none⟩)] #[]] w (Did B w x s (upS S frm n a p)):=by
 have hbl:=hF.bot
 have hl5:=hF.len5
 have hkl:=Al7 n (S.bot+1 - frm)
 have hu:upS S frm n a p=chg S frm (Ab0 n (S.bot+1 - frm)) (S.bot+1 - Ab0 n (S.bot+1 - frm)) (Ab0 n (S.bot+1 - frm)) a p:=rfl
 rw[hu]
 have hb1:=Aa1 w (.cells #[.int .u32 a.f,.int .u32 a.b,.int .u16 a.g] 51)
 have hhe:=Ci1 (h.below hb1) n frm hfr (by omega)
 generalize Ab0 n (S.bot+1 - frm)=k at hkl hhe |-
 obtain⟨j,hj⟩:∃j,j=S.bot+1 - k:=⟨_,rfl⟩
 rw[<- hj]
 have hbx:=Block.made w 51 #[.int .u32 a.f,.int .u32 a.b,.int .u16 a.g]
 have hw1:IntKind.i64.wrap ((S.bot:Int)+1)=(S.bot:Int)+1:=IntWalk.i64_in _ (by omega)
 have hw2:IntKind.i64.wrap ((S.bot:Int)+1 - (k:Int))=(j:Int):=by
  rw[show (S.bot:Int)+1 - (k:Int)=(j:Int) by omega]
  exact IntWalk.i64_in _ (by omega)
 obtain⟨af,ab,ag⟩:=a
 simp only at hb1 hbx hhe |-
 obtain⟨bx,hbxe⟩:∃bx,bx=w.heap.size:=⟨_,rfl⟩
 have h1:=h.below hb1
 replace hhe:=J0 hhe
 clear h hu
 go_enter Tryz.func265,Tryz.ntmps265
 go_wp2_with ((go_at_call 271;(with_reducible refine(hhe.out).mono ?_);rintro e w' ⟨rfl,rfl⟩))
 generalize w.alloc (.cells #[.int .u32 af,.int .u32 ab,.int .u16 ag] 51)=w0 at hbx hb1 h1 |-
 rw[<- hbxe] at hbx |-
 replace hbxe:=J0 hbxe
 have hd0:Below w0.heap.size w0 w0.drew:=Aa4 (Below.refl _ _) 1
 have hS:∀w' S',SC B w' x s S'->S'.bot=S.bot->Fr B PT w0 w'->w'.cell? ⟨x,5,none⟩=some (.int .i64 S.bot)/\w'.cell? ⟨bx,0,none⟩=some (.int .u32 af)/\w'.cell? ⟨bx,1,none⟩=some (.int .u32 ab)/\w'.cell? ⟨bx,2,none⟩=some (.int .u16 ag):=fun w' S' hs hb hf=>by
  have hbx':=Block.fr hbx hf (.inl (by decide))
  have:=hs.cells.2.2.2.2.2
  rw[hb] at this
  exact⟨this,hbx'.cell 0 rfl,hbx'.cell 1 rfl,hbx'.cell 2 rfl⟩
 obtain⟨a0,a1,a2,a3⟩:=hS _ _ h1 rfl (Fr.refl _ _ _)
 have c1:=hS _ _ (h1.below hd0) rfl (Fr.of_below hd0)
 have hch:=Cg7 hor (h1.below hd0) frm k j k (by omega) (by omega) (by omega) (by omega) hF.c1 hF.c5 ⟨af,ab,ag⟩ (fun _=>hF.ids)
 have hpt:=J0 (fun w' hs=>hS w' (chg S frm k j k ⟨af,ab,ag⟩ p) hs rfl)
 have hfr1:Fr B PT w w0.drew:=(Fr.of_below hb1).trans (Fr.of_below hd0)
 have hfr0:Fr B PT w0 w0.drew:=Fr.of_below hd0
 generalize chg S frm k j k ⟨af,ab,ag⟩ p=S' at hch hpt |-
 simp only at hch
 generalize S.bot=bo at hw1 hw2 a0 c1 hpt
 replace hch:=J0 hch
 replace hfr1:=J0 hfr1
 replace hfr0:=J0 hfr0
 clear hS hbx h1 hb1 hd0 hj hF hfr hnx hl5 hbl hkl
 go_region_held3 (fun w'=>w'.cell? ⟨x,5,none⟩=some (.int .i64 bo)/\w'.cell? ⟨bx,0,none⟩=some (.int .u32 af)/\w'.cell? ⟨bx,1,none⟩=some (.int .u32 ab)/\w'.cell? ⟨bx,2,none⟩=some (.int .u16 ag))
  (first|exact⟨a0,a1,a2,a3⟩|exact c1|exact hz)
  (first
   |(go_at_call 76;(with_reducible refine hch.out.mono ?_);rintro r w2 ⟨⟨v2,rfl⟩,hs2,hf2⟩;have hz:=hpt.out _ hs2 (hfr0.out.trans hf2)))
 have hres:=J0 (And.intro hs2 (hfr1.out.trans hf2))
 go_end0
 exact⟨⟨_,rfl⟩,hres.out⟩
theorem Cg9 (h:SC B w x s S) (hF:Fit S) (tq:Nat) (hfr:tq<=S.bot) (n:Int) (hnx:S.nx+512<=10000000000) (a:At) :
  Calls Tryz.prog 235 #[.pointer (some ⟨x,0,none⟩),.int .i64 tq,.int .i64 n,.agg #[.int .u32 a.f,.int .u32 a.b,.int .u16 a.g]] w (Did B w x s (Ag0 S tq n a)):=by
 have hbl:=hF.bot
 have hl5:=hF.len5
 have hkl:=Al7 n (S.bot+1 - tq)
 have hu:Ag0 S tq n a=chg S (S.bot+1 - Ab0 n (S.bot+1 - tq)) (Ab0 n (S.bot+1 - tq)) tq (Ab0 n (S.bot+1 - tq)) a false:=rfl
 rw[hu]
 have hb1:=Aa1 w (.cells #[.int .u32 a.f,.int .u32 a.b,.int .u16 a.g] 51)
 have hhe:=Ci1 (h.below hb1) n tq hfr (by omega)
 generalize Ab0 n (S.bot+1 - tq)=k at hkl hhe |-
 obtain⟨j,hj⟩:∃j,j=S.bot+1 - k:=⟨_,rfl⟩
 rw[<- hj]
 have hbx:=Block.made w 51 #[.int .u32 a.f,.int .u32 a.b,.int .u16 a.g]
 have hw1:IntKind.i64.wrap ((S.bot:Int)+1)=(S.bot:Int)+1:=IntWalk.i64_in _ (by omega)
 have hw2:IntKind.i64.wrap ((S.bot:Int)+1 - (k:Int))=(j:Int):=by
  rw[show (S.bot:Int)+1 - (k:Int)=(j:Int) by omega]
  exact IntWalk.i64_in _ (by omega)
 obtain⟨af,ab,ag⟩:=a
 simp only at hb1 hbx hhe |-
 obtain⟨bx,hbxe⟩:∃bx,bx=w.heap.size:=⟨_,rfl⟩
 have h1:=h.below hb1
 have hmf:=mkf
 replace hhe:=J0 hhe
 clear h hu
 go_enter Tryz.func235,Tryz.ntmps235
 go_wp2_with ((go_at_call 271;(with_reducible refine(hhe.out).mono ?_);rintro e w' ⟨rfl,rfl⟩))
 generalize w.alloc (.cells #[.int .u32 af,.int .u32 ab,.int .u16 ag] 51)=w0 at hbx hb1 h1 |-
 rw[<- hbxe] at hbx |-
 replace hbxe:=J0 hbxe
 have hd0:Below w0.heap.size w0 w0.drew:=Aa4 (Below.refl _ _) 1
 have hS:∀w' S',SC B w' x s S'->S'.bot=S.bot->Fr B PT w0 w'->w'.cell? ⟨x,5,none⟩=some (.int .i64 S.bot)/\w'.cell? ⟨bx,0,none⟩=some (.int .u32 af)/\w'.cell? ⟨bx,1,none⟩=some (.int .u32 ab)/\w'.cell? ⟨bx,2,none⟩=some (.int .u16 ag):=fun w' S' hs hb hf=>by
  have hbx':=Block.fr hbx hf (.inl (by decide))
  have:=hs.cells.2.2.2.2.2
  rw[hb] at this
  exact⟨this,hbx'.cell 0 rfl,hbx'.cell 1 rfl,hbx'.cell 2 rfl⟩
 obtain⟨a0,a1,a2,a3⟩:=hS _ _ h1 rfl (Fr.refl _ _ _)
 have c1:=hS _ _ (h1.below hd0) rfl (Fr.of_below hd0)
 have hch:=Cg7 (.inl ⟨rfl,rfl⟩) (h1.below hd0) j k tq k (by omega) (by omega) (by omega) (by omega) hF.c1 hF.c5 ⟨af,ab,ag⟩ (fun e=>nomatch e)
 have hpt:=J0 (fun w' hs=>hS w' (chg S j k tq k ⟨af,ab,ag⟩ false) hs rfl)
 have hfr1:Fr B PT w w0.drew:=(Fr.of_below hb1).trans (Fr.of_below hd0)
 have hfr0:Fr B PT w0 w0.drew:=Fr.of_below hd0
 generalize chg S j k tq k ⟨af,ab,ag⟩ false=S' at hch hpt |-
 simp only at hch
 generalize S.bot=bo at hw1 hw2 a0 c1 hpt
 replace hch:=J0 hch
 replace hfr1:=J0 hfr1
 replace hfr0:=J0 hfr0
 clear hS hbx h1 hb1 hd0 hj hF hfr hnx hl5 hbl hkl
 go_region_held3 (fun w'=>w'.cell? ⟨x,5,none⟩=some (.int .i64 bo)/\w'.cell? ⟨bx,0,none⟩=some (.int .u32 af)/\w'.cell? ⟨bx,1,none⟩=some (.int .u32 ab)/\w'.cell? ⟨bx,2,none⟩=some (.int .u16 ag))
  (first|exact⟨a0,a1,a2,a3⟩|exact c1|exact hz)
  (first
   |(go_at_call 76;(with_reducible refine hch.out.mono ?_);rintro r w2 ⟨⟨v2,rfl⟩,hs2,hf2⟩;have hz:=hpt.out _ hs2 (hfr0.out.trans hf2)))
 have hres:=J0 (And.intro hs2 (hfr1.out.trans hf2))
 go_end0
 exact⟨⟨_,rfl⟩,hres.out⟩
end
theorem lineC_eq {e e':En} (h1:e'.id=e.id) (h2:e'.d=e.d):Ac3 e'=Ac3 e:=by simp[Ac3,h1,h2]
theorem fl_same {A C:List En} {e e':En} (h1:e'.id=e.id) (h2:e'.d=e.d):fl Ac3 (A++e'::C)=fl Ac3 (A++e::C):=by simp[fl,lineC_eq h1 h2]
section
variable {B:Zn}{w w':World}{x s nx most cols top bot n:Nat}{kp:Bool}{sv lv:Value}{xs:List Value}{R A C:List En}{e e':En}{S:Scr}
theorem MidX.row (h:MidX B w x s nx most kp cols sv lv top bot n xs (A++e::C) R) {k:Nat} {t:TypeId} (ht:Typ w k t) (h1:168≠t) (h2:136≠t) (h3:188≠t) (hB:B k) (htP:t∈PT)
  (ho:Only [k] w w') (ha:∀e2,e2∈A++C\/e2∈R->e2.d≠k/\e2.g≠k) (hr:RowG 0 w' e') (hd:e'.d=e.d) (hg:e'.g=e.g\/w.heap.size<=e'.g) :
  MidX B w' x s nx most kp cols sv lv top bot n xs (A++e'::C) R/\Fr B PT w w':=by
 have hno:∀ {j:Nat} {t':TypeId},Typ w j t'->t'≠t->j∉[k]:=fun hj hn=>Ad9 hj ht hn
 have hmem:∀e2,e2∈A++C->e2∈A++e::C:=fun e2 he=>by
  rcases List.mem_append.1 he with he|he
  ·exact List.mem_append_left _ he
  ·exact List.mem_append_right _ (List.mem_cons_of_mem _ he)
 refine⟨⟨h.ln.only ho (hno h.ln.typ h1) (hno h.ln.st.typ h2) (fun g hg=>hno (h.ln.ltyp g hg).2.2 h3) (fun g hg=>hno (h.ln.st.ptyp g hg).2.2 h3) (fun e2 he=>by
  have:=ha e2 (.inr he)
  exact⟨by simpa using this.1,by simpa using this.2⟩),fun e2 he=>?_,fun e2 he=>?_,?_,?_⟩,?_⟩
 ·rcases List.mem_append.1 he with he|he
  ·have:=ha e2 (.inl (List.mem_append_left _ he))
   exact(h.rows e2 (List.mem_append_left _ he)).only ho (by simpa using this.1) (by simpa using this.2)
  ·rcases List.mem_cons.1 he with rfl|he
   ·exact hr
   ·have:=ha e2 (.inl (List.mem_append_right _ he))
    exact(h.rows e2 (List.mem_append_right _ (List.mem_cons_of_mem _ he))).only ho (by simpa using this.1) (by simpa using this.2)
 ·rcases List.mem_append.1 he with he|he
  ·exact h.zr e2 (List.mem_append_left _ he)
  ·rcases List.mem_cons.1 he with rfl|he
   ·exact⟨hd▸(h.zr e (by simp)).1,hg.elim (fun hg=>hg▸(h.zr e (by simp)).2) (fun hg=>h.ln.lo.up _ hg)⟩
   ·exact h.zr e2 (List.mem_append_right _ (List.mem_cons_of_mem _ he))
 ·have:=h.dd
  simpa[hd] using this
 ·rcases hg with hg|hg
  ·have:=h.gg
   simpa[hg] using this
  ·have h0:((A++(C++R)).map En.g).Nodup:=h.gg.sublist (by
    rw[List.append_assoc,List.cons_append]
    exact(List.Sublist.append (List.Sublist.refl A) (List.sublist_cons_self e _)).map _)
   refine Aw9 En.g h0 (fun e2 he=>?_) hg (by rw[List.append_assoc,List.cons_append];exact List.perm_middle)
   have:e2∈(A++e::C)++R:=by
    rcases List.mem_append.1 he with he|he
    ·exact List.mem_append_left _ (List.mem_append_left _ he)
    ·rcases List.mem_append.1 he with he|he
     ·exact List.mem_append_left _ (List.mem_append_right _ (List.mem_cons_of_mem _ he))
     ·exact List.mem_append_right _ he
   exact(h.lts e2 this).2
 ·exact Fr.of_only ho fun j hj _=>by
   obtain rfl:j=k:=by simpa using hj
   exact⟨hB,t,htP,ht⟩
theorem MidX.apartG (h:MidX B w x s nx most kp cols sv lv top bot n xs (A++e::C) R):∀e2,e2∈A++C\/e2∈R->e2.d≠e.g/\e2.g≠e.g:=fun e2 he=>by
 have hm:e2∈A++(C++R):=by
  rcases he with he|he
  ·rcases List.mem_append.1 he with he|he
   ·exact List.mem_append_left _ he
   ·exact List.mem_append_right _ (List.mem_append_left _ he)
  ·exact List.mem_append_right _ (List.mem_append_right _ he)
 have hm2:e2∈(A++e::C)++R:=by
  rcases List.mem_append.1 hm with hm|hm
  ·exact List.mem_append_left _ (List.mem_append_left _ hm)
  ·rcases List.mem_append.1 hm with hm|hm
   ·exact List.mem_append_left _ (List.mem_append_right _ (List.mem_cons_of_mem _ hm))
   ·exact List.mem_append_right _ hm
 have hrow:RowG 0 w e2:=by
  rcases List.mem_append.1 hm2 with hm2|hm2
  ·exact h.rows e2 hm2
  ·exact h.ln.st.2 e2 hm2
 have he':=h.rows e (by simp)
 refine⟨fun hd=>absurd (Typ.inj hrow.typ.1 (hd▸he'.typ.2)) (by decide),fun hg=>?_⟩
 have hn:((e::(A++(C++R))).map En.g).Nodup:=by
  have hp:List.Perm ((A++e::C)++R) (e::(A++(C++R))):=by rw[List.append_assoc,List.cons_append];exact List.perm_middle
  exact(hp.map En.g).nodup_iff.1 h.gg
 rw[List.map_cons,List.nodup_cons] at hn
 exact hn.1 (List.mem_map.2 ⟨e2,hm,hg⟩)
theorem LnX.setMarg (h:LnX B w x s nx most kp cols sv lv top bot n xs R) (t b:Nat):LnX B ((w.setCell ⟨x,4,none⟩ (.int .i64 t)).setCell ⟨x,5,none⟩ (.int .i64 b)) x s nx most kp cols sv lv t b n xs R/\Only [x] w ((w.setCell ⟨x,4,none⟩ (.int .i64 t)).setCell ⟨x,5,none⟩ (.int .i64 b)):=by
 have ho:Only [x] w ((w.setCell ⟨x,4,none⟩ (.int .i64 t)).setCell ⟨x,5,none⟩ (.int .i64 b)):=(Only.setCell w ⟨x,4,none⟩ _).trans (Only.setCell _ ⟨x,5,none⟩ _)
 exact⟨⟨(h.blk.set 4 _).set 5 _,Af0 h.own ho (fun g hg=>Ad9 (h.ltyp g hg).2.2 h.typ (by decide)),h.store (ho.mono (by simp)),h.apart,h.lo.grow ho.size,h.small⟩,ho⟩
theorem SC.free (h:SC B w x s S) (i:Nat):w.frozen? ⟨x,i,none⟩=false:=by
 obtain⟨sv,lv,L,R,h1,h2,h3⟩:=h
 exact h1.ln.blk.free i
theorem SC.setMarg (h:SC B w x s S) (t b:Nat):SC B ((w.setCell ⟨x,4,none⟩ (.int .i64 t)).setCell ⟨x,5,none⟩ (.int .i64 b)) x s { S with top:=t,bot:=b }/\Fr B PT w ((w.setCell ⟨x,4,none⟩ (.int .i64 t)).setCell ⟨x,5,none⟩ (.int .i64 b)):=by
 obtain⟨sv,lv,L,R,h1,h2,h3⟩:=h
 obtain⟨m1,m2⟩:=h1.ln.setMarg t b
 exact⟨⟨sv,lv,L,R,h1.ln' m1 (m2.mono (by simp)),h2,h3⟩,h1.ln.frame (m2.mono (by simp))⟩
theorem marg_sc (h:SC B w x s S) (hl:1<=S.L.length) (h5:S.L.length<=512):Calls Tryz.prog 78 #[.pointer (some ⟨x,0,none⟩)] w (Did B w x s (Co8 S)):=by
 obtain⟨_,_,_,⟨ao,c,c3⟩,c4,c5⟩:=h.cells
 have f4:=h.free 4
 have f5:=h.free 5
 have hw:IntKind.i64.wrap ((S.L.length:Int) - 1)=((S.L.length - 1:Nat):Int):=by
  rw[show (S.L.length:Int) - 1=((S.L.length - 1:Nat):Int) by omega]
  exact IntWalk.i64_in _ (by omega)
 have hs:=h.setMarg 0 (S.L.length - 1)
 unfold Co8
 rw[Int.natCast_zero] at hs
 have hres:=J0 hs
 generalize S.L.length - 1=b at hw hres |-
 generalize S.L.length=n at c3 hw
 clear h hs
 go_enter Tryz.func78,Tryz.ntmps78
 go_wp2
 try go_region
 try go_wp2
 go_end0
 exact⟨⟨_,rfl⟩,hres.out⟩
end
