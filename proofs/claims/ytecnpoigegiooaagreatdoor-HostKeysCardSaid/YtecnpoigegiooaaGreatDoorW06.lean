/- Part 6 of HostKeys. -/
import Derived.Test.YtecnpoigegiooaaGreatDoorW05
import Derived.Laws.MakeOwn
import Derived.Laws.Entries
set_option maxHeartbeats 16000000
set_option maxRecDepth 100000
namespace Go.Proofs.YtecnpoigegiooaaGreatDoor.Rw
open Tryz
open Go RowKit Com
theorem Aas{w:World}{d g n cap:Nat}{tail:List Value}{l:List Cel}(h:B7 w d g n cap tail l) :
  Calls prog 99 #[.pointer (some ⟨d,0,none⟩)] w fun e w'=>e=.returned (.int .i64 n)/\w=w':=by
 have hc:=h.slice
 clear h
 go_enter func99,ntmps99
 go_wp2
 go_ret
 exact⟨rfl,rfl⟩
theorem Aqj{w:World}{d g n cap:Nat}{tail:List Value}{l:List Cel}(h:B7 w d g n cap tail l)(i:Int)(h0:0<=i)(h1:i<n) :
  Calls prog 219 #[.pointer (some ⟨d,0,none⟩),.int .i64 i] w fun e w'=>e=.returned (.bool true)/\w=w':=by
 have hl:=J0 (Aas h)
 clear h
 go_enter func219,ntmps219
 go_wp2_with((go_at_call 99;refine(hl.out).mono ?_;rintro e w' ⟨rfl,rfl⟩))
 go_ret
 exact⟨rfl,rfl⟩
theorem Awe{w:World}{d g n cap:Nat}{tail:List Value}{l:List Cel}(h:B7 w d g n cap tail l)(i:Int)(h0:i<0\/(n:Int)<=i) :
  Calls prog 219 #[.pointer (some ⟨d,0,none⟩),.int .i64 i] w fun e w'=>e=.returned (.bool false)/\w=w':=by
 have hl:=J0 (Aas h)
 clear h
 by_cases h1:i<0
 ·go_enter func219,ntmps219
  go_wp2_with((go_at_call 99;refine(hl.out).mono ?_;rintro e w' ⟨rfl,rfl⟩))
  go_ret
  exact⟨rfl,rfl⟩
 ·have h2:decide (i<(n:Int))=false:=decide_eq_false (by omega)
  go_enter func219,ntmps219
  go_wp2_with((go_at_call 99;refine(hl.out).mono ?_;rintro e w' ⟨rfl,rfl⟩))
  go_ret
  exact⟨rfl,rfl⟩
theorem Btk(n:Int)(h0:1<=n)(h1:n<=512)(w:World):Calls prog 213 #[.int .i64 n] w fun e w'=>e=.returned (.bool true)/\w=w':=by
 go_enter func213,ntmps213
 go_wp2
 go_ret
 exact⟨rfl,rfl⟩
def V1(x:Int):Bool:=decide (32<=x)&&decide (x<=1114111)&&(decide (x<55296)||decide (57343<x))
theorem Atx(x:Int)(w:World):Calls prog 220 #[.int .i32 x] w fun e w'=>e=.returned (.bool (V1 x))/\w=w':=by
 obtain⟨b,hb⟩:∃b,b=V1 x:=⟨_,rfl⟩
 rw[<- hb]
 have hb':=J0 hb
 clear hb
 go_enter func220,ntmps220
 go_wp2
 all_goals
  go_ret
  exact⟨G1 (by rw[hb'.out,Bool.eq_iff_iff];simp[V1]<;>omega),rfl⟩
def A9(i:Int)(most:Nat):Nat:=min i.toNat most
theorem Aeo(i:Int)(most:Nat)(w:World):Calls prog 215 #[.int .i64 i,.int .i64 most] w fun e w'=>e=.returned (.int .i64 (A9 i most))/\w=w':=by
 obtain⟨b,hb⟩:∃b,b=A9 i most:=⟨_,rfl⟩
 rw[<- hb]
 have hb':Hid (b=min i.toNat most):=hb
 clear hb
 go_enter func215,ntmps215
 go_wp2
 all_goals
  go_ret
  exact⟨G6 (by rw[hb'.out];omega),rfl⟩
theorem Bhm(a:At)(w:World):Calls prog 263 #[.agg #[.int .u32 a.f,.int .u32 a.b,.int .u16 a.g]] w fun e w'=>e=.returned (.agg (B6 ⟨32,[],0,a⟩).toArray)/\Below w.heap.size w w':=by
 obtain⟨f,b,g⟩:=a
 go_enter func263,ntmps263
 go_wp2
 exact bodyPost_ret (v:=.agg (B6 ⟨32,[],0,⟨f,b,g⟩⟩).toArray) (by simp[results,results263,go_sem,B6,Adj,R9]) rfl ⟨rfl,(((Below.refl _ _).alloc (J5 _) _).alloc (by simp) _)⟩
theorem Azm{w:World}{d g n cap:Nat}{tail:List Value}{l:List Cel}(h:B7 w d g n cap tail l)(i:Nat)(hi:i<n) :
  Calls prog 268 #[.pointer (some ⟨d,0,none⟩),.int .i64 i] w fun e w'=>e=.returned (.bool (decide (F9 l i)))/\w=w':=by
 have hle:=h.le
 have hcm:=h.cap
 unfold maxLen at hcm
 have hc:=h.slice
 have hil:i<l.length:=by rw[h.len];exact hi
 have hw:=h.wide hil
 have hW:=Ain hil
 generalize l[i].wide=x at hw hW
 have hW1:i+1<n->∃y,W l (i+1)=y/\w.cell? ⟨g,(i+1)*10+6,none⟩=some (.int .u8 y):=fun h1=>by
  have h2:i+1<l.length:=by rw[h.len];exact h1
  exact⟨_,Ain h2,h.wide h2⟩
 have hW2:n<=i+1->W l (i+1)=0:=fun h1=>Ard (by rw[h.len];exact h1)
 have hW0:0<i->∃y,W l (i-1)=y/\w.cell? ⟨g,(i-1)*10+6,none⟩=some (.int .u8 y):=fun h1=>by
  have h2:i-1<l.length:=by omega
  exact⟨_,Ain h2,h.wide h2⟩
 have L5:=J0 (fun j h0 h1=>Aqj h j h0 h1)
 have hno:=J0 (fun j h0=>Awe h j h0)
 obtain⟨b,hb⟩:∃b,b=decide (F9 l i):=⟨_,rfl⟩
 rw[<- hb]
 replace hb:=J0 hb
 clear h hil
 by_cases h1:x=1
 ·subst h1
  by_cases h2:i+1<n
  ·obtain⟨y,hy,hcy⟩:=hW1 h2
   have hbb:b=(y != 2):=by rw[hb.out,Bool.eq_iff_iff,decide_eq_true_iff];unfold F9;rw[hW,hy];simp
   replace hbb:=J0 hbb
   clear hW1 hW2 hW0 hb hW hy
   go_enter func268,ntmps268
   go_wp2_with((go_at_call 219;refine(L5.out _ (by omega) (by omega)).mono ?_;rintro e w' ⟨rfl,rfl⟩))
   go_ret
   exact⟨G1 hbb.out.symm,rfl⟩
  ·have hy:=hW2 (by omega)
   have hbb:b=true:=hb.out.trans (decide_eq_true (by unfold F9;rw[hW,hy];simp))
   replace hbb:=J0 hbb
   clear hW1 hW2 hW0 hb hW hy
   go_enter func268,ntmps268
   go_wp2_with((go_at_call 219;refine(hno.out _ (Or.inr (by omega))).mono ?_;rintro e w' ⟨rfl,rfl⟩))
   go_ret
   exact⟨G1 hbb.out.symm,rfl⟩
 have h1':(x==1)=false:=by simpa using h1
 by_cases h2:x=2
 ·subst h2
  by_cases h3:0<i
  ·obtain⟨y,hy,hcy⟩:=hW0 h3
   have hbb:b=(y != 1):=by rw[hb.out,Bool.eq_iff_iff,decide_eq_true_iff];unfold F9;rw[hW,hy];simp;omega
   replace hbb:=J0 hbb
   obtain⟨j,rfl⟩:∃j,i=j+1:=⟨i-1,by omega⟩
   simp only[Nat.add_sub_cancel]at hcy
   clear hW1 hW2 hW0 hb hW hy
   go_enter func268,ntmps268
   go_wp2_with((go_at_call 219;refine(L5.out _ (by omega) (by omega)).mono ?_;rintro e w' ⟨rfl,rfl⟩))
   go_ret
   exact⟨G1 hbb.out.symm,rfl⟩
  ·obtain rfl:i=0:=by omega
   have hbb:b=true:=hb.out.trans (decide_eq_true (by unfold F9;rw[hW];simp))
   replace hbb:=J0 hbb
   clear hW1 hW2 hW0 hb hW
   go_enter func268,ntmps268
   go_wp2_with((go_at_call 219;refine(hno.out _ (Or.inl (by omega))).mono ?_;rintro e w' ⟨rfl,rfl⟩))
   go_ret
   exact⟨G1 hbb.out.symm,rfl⟩
 ·have h2':(x==2)=false:=by simpa using h2
  have hbb:b=false:=hb.out.trans (decide_eq_false (by unfold F9;rw[hW];simp[h1,h2]))
  replace hbb:=J0 hbb
  clear hW1 hW2 hW0 hb hW
  go_enter func268,ntmps268
  go_wp2
  go_ret
  exact⟨G1 hbb.out.symm,rfl⟩
theorem Aww:(prog.info? 194).map (·.size)=some 10:=by kernel_rfl
theorem Awg(c:Cel):(prog.info? 194).map (·.size)=some (B6 c).length:=by rw[N3];exact Aww
theorem B7.put{w w':World}{d g n cap:Nat}{tail:List Value}{l:List Cel}(h:B7 w d g n cap tail l){i:Nat}(hi:i<l.length)(c:Cel)(hb:Block w' g 194 (splice (fl B6 l++tail) (i*10) (B6 c)).toArray)(ho:A0 [g] w w') :
  B7 w' d g n cap tail (l.set i c):=by
 refine h.Aea ho ?_ (by simp)
 have e:=Ajb N3 l [c] tail i (by simp;omega)
 rw[Acq,Aph l i c hi]at e
 rw[<- e]
 exact hb
theorem B7.fits{w:World}{d g n cap:Nat}{tail:List Value}{l:List Cel}(h:B7 w d g n cap tail l){i:Nat}(hi:i<n)(c:Cel):i*10+(B6 c).length<=(fl B6 l++tail).length:=by
 rw[List.length_append,Q4 N3,N3,h.len]
 have:(i+1)*10<=n*10:=Nat.mul_le_mul_right _ hi
 omega
theorem B7.Cms{w:World}{d g n cap:Nat}{tail:List Value}{l:List Cel}(h:B7 w d g n cap tail l){i:Nat}(hi:i<l.length)(c:Cel) :
  ∃w',(storeCells ⟨g,i*10,none⟩ (B6 c)).run prog w=.ok () w'/\B7 w' d g n cap tail (l.set i c)/\A0 [g] w w':=by
 have G4:=run_storeCells_at prog g (i*10) 194 (B6 c) 0 _ w h.row (by simpa using h.fits (by rw[<- h.len];exact hi) c) (Akr c)
 refine⟨_,G4,?_,Adl w g _⟩
 exact h.put hi c (by simpa[splice,Block,N3]using setRow_heap w g _ _ _ _ h.row) (Adl w g _)
def Aqq(w:World)(d g n cap:Nat)(tail:List Value)(l:List Cel)(e:Ending)(w':World):Prop:=(∃v,e=.returned v)/\B7 w' d g n cap tail l/\A0 [g] w w'
theorem Bjp{w:World}{d g n cap:Nat}{tail:List Value}{l:List Cel}(h:B7 w d g n cap tail l)(lo hi:Nat)(h1:lo<=n)(h2:hi<=n)(h3:lo<=hi+2) :
  Calls prog 227 #[.pointer (some ⟨d,0,none⟩),.int .i64 lo,.int .i64 hi] w (Aqq w d g n cap tail (I4 l (lo-1) (min (hi+1) n))):=by
 have hle:=h.le
 have hn:=h.pos
 have hn5:=h.small
 have hcm:=h.cap
 unfold maxLen at hcm
 have hc:=h.slice
 obtain⟨a,ha⟩:∃a,a=lo-1:=⟨_,rfl⟩
 obtain⟨b,hb⟩:∃b,b=min (hi+1) n:=⟨_,rfl⟩
 rw[<- ha,<- hb]
 have ha':max ((lo:Int)-1) 0=(a:Int):=by omega
 have hb':min ((hi:Int)+1) (n:Int)=(b:Int):=by omega
 have hab:a<=b:=by omega
 have hbn:b<=n:=by omega
 have hw0:=J0 h
 clear h hb ha
 go_enter func227,ntmps227
 have hmx:(if(lo:Int)-1<0 then 0 else(lo:Int)-1)=(a:Int):=by split<;>omega
 have hmn:(if(n:Int)<(hi:Int)+1 then(n:Int)else(hi:Int)+1)=(b:Int):=by split<;>omega
 go_wp2
 go_quiet (fail)
 clear hmx hmn ha' hb'
 go_wp2
 have hd0:∀q,B7 (w.drewN q) d g n cap tail l:=fun q=>hw0.out.kept (A0.drewN [] w q) (by simp) (by simp)
 replace hd0:=J0 hd0
 go_loopw [22] (fun i wr=>∃k:Nat,k<=b-a/\i=.int .i64 k/\Hid (B7 wr d g n cap tail (I4 l a (a+k))/\A0 [g] w wr)) (fun i _=>(b-a)-(intOf i).toNat)
 case atStart=>exact⟨0,Nat.zero_le _,rfl,J0 ⟨by simpa[Bif]using hd0.out _,A0.drewN _ _ _⟩⟩
 case round =>
  obtain⟨k,hk,rfl,hR⟩:=hrel
  obtain⟨hR,hO⟩:=hR.out
  by_cases hlt:k<b-a
  ·obtain⟨p,hp⟩:∃p,p=a+k:=⟨_,rfl⟩
   have hp':(a:Int)+(k:Int)=(p:Int):=by omega
   rw[<- hp]at hR
   have hpn:p<n:=by omega
   have hpl:p<l.length:=by rw[hw0.out.len];exact hpn
   have F2:=Azm hR p hpn
   have hA:=Aye l a p p
   have hsn:=Cbg l a p (by omega)
   have G7:(I4 l a p)[p]?=some l[p]:=by rw[Ahd,List.getElem?_eq_getElem hpl];simp
   have hpm:p<(I4 l a p).length:=by rw[Bex];exact hpl
   have hnx:a+(k+1)=p+1:=by omega
   by_cases hAl:F9 l p
   ·rw[decide_eq_true (hA.2 ⟨hAl,by omega⟩)]at F2
    rw[dif_pos ⟨hpl,hAl⟩]at hsn
    have hgc:(I4 l a p)[p]=l[p]:=by rw[List.getElem?_eq_getElem hpm]at G7;exact Option.some.inj G7
    have hS:=fun(w':World) (h:B7 w' d g n cap tail (I4 l a p))=>And.intro h.slice (And.intro (h.fg hpm) (And.intro (h.bg hpm) (h.gg hpm)))
    rw[hgc]at hS
    have hS':=fun(w':World) (h:B7 w' d g n cap tail ((I4 l a p).set p (Abq l[p])))=>And.intro h.slice (And.intro (h.fg (i:=p) (by simpa using hpm)) (And.intro (h.bg (i:=p) (by simpa using hpm)) (h.gg (i:=p) (by simpa using hpm))))
    simp only[List.getElem_set_self]at hS'
    have hst:=fun(w1:World) (hR1:B7 w1 d g n cap tail (I4 l a p))=>hR1.Cms hpm (Abq l[p])
    rw[<- hsn]at hst hS'
    have hbl:=fun w=>Bhm l[p].a w
    have hCe:B6 (Abq l[p])=B6 ⟨32,[],0,l[p].a⟩:=rfl
    rw[hCe]at hst
    have hae:(Abq l[p]).a=l[p].a:=rfl
    rw[hae]at hS'
    have hC10:=N3 ⟨32,[],0,l[p].a⟩
    generalize B6 ⟨32,[],0,l[p].a⟩=C at hst hbl hC10
    generalize l[p].a=A at hS hS' hbl
    obtain⟨af,ab,ag⟩:=A
    simp only at hS hS' hbl
    generalize I4 l a p=lc at hR F2 hst hpm hgc G7 hA hsn hS
    obtain⟨lc',hlc⟩:∃lc',lc'=I4 l a (p+1):=⟨_,rfl⟩
    rw[<- hlc]at hst hsn hS'
    replace hlc:=J0 hlc
    replace F2:=J0 F2
    replace hst:=J0 hst
    replace hbl:=J0 hbl
    replace hS:=J0 hS
    replace hS':=J0 hS'
    replace hnx:=J0 hnx
    replace hp:=J0 hp
    clear hgc G7 hA hsn hCe
    go_wp2_with((go_at_call 268;refine(F2.out).mono ?_;rintro e w' ⟨rfl,rfl⟩))
    clear F2 hd0
    go_region_held3 (fun w'=>w'.cell? ⟨d,0,none⟩=some (.slice (some ⟨g,0,none⟩) n cap)/\w'.cell? ⟨g,p*10+7,none⟩=some (.int .u32 af)/\w'.cell? ⟨g,p*10+8,none⟩=some (.int .u32 ab)/\w'.cell? ⟨g,p*10+9,none⟩=some (.int .u16 ag))
     (first|exact hS.out _ hR|exact hS.out _ hR.drawn|exact hS.out _ hR6|exact hS'.out _ hR7|go_keep)
     (first
      |(go_at_call 263;with_reducible refine(hbl.out _).mono ?_;rintro e1 w6 ⟨rfl,hb6'⟩;have hR6:B7 w6 d g n cap tail lc:=hR.drawn.below hb6';obtain⟨w7,Axv,hR7,ho7⟩:=hst.out w6 hR6))
    have hO6:A0 [g] w w6:=hO.trans ((A0.drewN [g] wr 1).trans (A0.A1 hb6' [g]))
    replace hR7:=J0 hR7
    replace hO6:=J0 (hO6.trans ho7)
    clear hO Axv
    go_wp2
    go_roundw
    case rel=>exact⟨k+1,by omega,by go_num,J0 ⟨by rw[hnx.out,<- hlc.out];exact hR7.out,hO6.out⟩⟩
    case measure=>simp[intOf];omega
   ·rw[decide_eq_false (fun h=>hAl (hA.1 h).1)]at F2
    rw[dif_neg (fun h=>hAl h.2)]at hsn
    rw[<- hsn]at hR
    replace F2:=J0 F2
    replace hR:=J0 hR
    replace hO:=J0 hO
    replace hnx:=J0 hnx
    replace hp:=J0 hp
    clear G7 hA hsn hd0
    go_wp2_with((go_at_call 268;refine(F2.out).mono ?_;rintro e w' ⟨rfl,rfl⟩))
    go_roundw
    case rel=>exact⟨k+1,by omega,by go_num,J0 ⟨by rw[hnx.out];exact hR.out,hO.out⟩⟩
    case measure=>simp[intOf];omega
  ·have hkb:a+k=b:=by omega
   rw[hkb]at hR
   replace hR:=J0 hR
   replace hO:=J0 hO
   clear hkb hd0
   go_wp2
   go_end0
   exact⟨⟨_,rfl⟩,hR.out,hO.out⟩
theorem Bna{w:World}{d g n cap:Nat}{tail:List Value}{l:List Cel}(h:B7 w d g n cap tail l)(col:Nat)(cs:List Cel)(hcs:col+cs.length<=n)(sp:Option Addr)(c2:Nat)
  (Afn:0<cs.length->∃ad,sp=some ad/\∀j v,(fl B6 cs)[j]?=some v->w.cell? (ad.add j)=some v) :
  Calls prog 216 #[.pointer (some ⟨d,0,none⟩),.int .i64 col,.slice sp cs.length c2] w (Aqq w d g n cap tail (I4 (splice l col cs) (col-1) (min (col+cs.length+1) n))):=by
 have hle:=h.le
 have hcm:=h.cap
 have hn5:=h.small
 unfold maxLen at hcm
 have hc:=h.slice
 have h1:=h.row
 obtain⟨m,hm⟩:∃m,m=cs.length:=⟨_,rfl⟩
 rw[<- hm]at hcs Afn |-
 replace hm:=J0 hm
 replace h:=J0 h
 replace Afn:=J0 Afn
 have hcolc:col<=cap:=by omega
 have hX:(fl B6 cs).length=m*10:=by rw[Q4 N3,hm.out]
 have G7:(fl B6 l++tail).length=n*10+tail.length:=by rw[List.length_append,Q4 N3,h.out.len]
 have hsp:=Ajb N3 l cs tail col (by rw[h.out.len,<- hm.out];exact hcs)
 have E0:=Aqf Akr cs
 have hlen:(splice l col cs).length=l.length:=length_splice l col cs (by rw[h.out.len,<- hm.out];exact hcs)
 have Ctr:¬0<cs.length->m=0:=fun h0=>by have:=hm.out;omega
 have A6:∀w1,Block w1 g 194 (splice (fl B6 l++tail) (col*10) (fl B6 cs)).toArray->A0 [g] w w1->B7 w1 d g n cap tail (splice l col cs):=fun w1 hb ho=>h.out.Aea ho (by rw[<- hsp];exact hb) hlen
 clear hsp hlen
 generalize splice l col cs=l2 at A6 |-
 have hsrc':0<m->∃ad,sp=some ad/\∀j v,(fl B6 cs)[j]?=some v->w.cell? (ad.add j)=some v:=fun h0=>Afn.out h0
 obtain⟨X,hXX⟩:∃X,X=fl B6 cs:=⟨_,rfl⟩
 obtain⟨cur,hcc⟩:∃cur,cur=fl B6 l++tail:=⟨_,rfl⟩
 rw[<- hXX]at hX E0 A6 hsrc'
 rw[<- hcc]at G7 A6 h1
 clear hXX hcc Ctr Afn
 replace hX:=J0 hX
 replace G7:=J0 G7
 replace E0:=J0 E0
 replace A6:=J0 A6
 replace hsrc':=J0 hsrc'
 replace h1:=J0 h1
 go_enter func216,ntmps216
 go_wp2_with(with_reducible refine J6 13 ?_;go_must(refine Bub rfl (.tmp 11) (.tmp 12) _ _ rfl 194 10 underlying189 Aww _ _ _ _ _ _ rfl rfl g (col*10) cur _ h1.out X ((by rw[hX.out,Nat.min_eq_left (by omega)])) (fun hp _=>⟨if_neg (by omega),hsrc'.out (by omega)⟩) (by rw[hX.out,G7.out];omega) E0.out ?_);intro w1 hb1 ho1)
 all_goals
  have hR1:=A6.out _ hb1.out ho1
  have hm1:=J0 (Bjp hR1 col (col+m) (by omega) (by omega) (by omega))
  clear hb1 hR1
  go_wp2_with((go_at_call 227;refine(hm1.out).mono ?_;rintro e w2 ⟨⟨v,rfl⟩,hR2,ho2⟩))
  go_end0
  exact⟨⟨_,rfl⟩,hR2,ho1.trans ho2⟩
theorem Aqp{w:World}{d g n cap:Nat}{tail:List Value}{l:List Cel}(h:B7 w d g n cap tail l)(hwh:Aa3 l)(col:Nat)(cs:List Cel)(hcs:col+cs.length<=n)(sp:Option Addr)(c2:Nat)
  (Afn:0<cs.length->∃ad,sp=some ad/\∀j v,(fl B6 cs)[j]?=some v->w.cell? (ad.add j)=some v) :
  Calls prog 216 #[.pointer (some ⟨d,0,none⟩),.int .i64 col,.slice sp cs.length c2] w (Aqq w d g n cap tail (G0 l col cs)):=by
 have:=Bna h col cs hcs sp c2 Afn
 have e:=Cmd (cs:=cs) (col:=col) (by rw[h.len];exact hcs) hwh
 rw[h.len]at e
 rw[e]at this
 exact this
theorem Bey{P:Program}(t e:TypeId)(i:TypeInfo)(z:Value)(ht:P.underlying t=some (.slice e))(hi:P.info? e=some i)(hz:i.zero=some z)
  (kl kc:IntKind) (n c:Nat) (hnc:n<=c) (hbytes:i.bytes*c<=281474976710656) (h63:c<=9223372036854775807) (w:World) :
  (Instr.makeSlice t (.int kl (n:Int)) (.int kc (c:Int))).run P w=.ok (.slice (some ⟨w.heap.size,0,none⟩) n c) (w.alloc (.cells (madeCells z.cells (c*i.size)) e)):=by
 have hb:(i.bytes:Int)*(c:Int)<=281474976710656:=by
  have h:((i.bytes*c:Nat):Int)<=281474976710656:=by omega
  rwa [Int.natCast_mul]at h
 have hr:=run_make (P:=P) w t e i z ht hi hz kl kc n c (by omega) (by omega) hb (by omega)
 simp only[Int.toNat_natCast]at hr
 exact hr
theorem Bly{α:Type}(f:α->List Value)(s:Nat)(hs:∀a,(f a).length=s)(h0:0<s)(a:α)(n:Nat):(madeCells (f a).toArray (n*s))=(fl f (List.replicate n a)).toArray:=by
 apply Array.ext'
 apply List.ext_getElem?
 intro j
 have hsz:(madeCells (f a).toArray (n*s)).toList.length=n*s:=by rw[Array.length_toList,size_madeCells]
 by_cases hj:j<n*s
 ·have hi:j/s<(List.replicate n a).length:=by rw[List.length_replicate];exact Nat.div_lt_of_lt_mul (by rw[Nat.mul_comm];exact hj)
  have hm:j % s<s:=Nat.mod_lt _ h0
  have e:=Ahz hs hi hm
  have ej:j/s*s+j % s=j:=by rw[Nat.mul_comm];exact Nat.div_add_mod j s
  rw[ej]at e
  simp only[List.getElem_replicate]at e
  rw[e]
  simp only[madeCells,Array.toList_map,Array.toList_range,List.getElem?_map,List.getElem?_range hj,Option.map_some,List.size_toArray,hs]
  rw[List.getElem?_eq_getElem (by rw[hs];exact hm)]
  simp[getElem!_pos,hs,hm]
 ·rw[List.getElem?_eq_none (by omega)]
  rw[List.getElem?_eq_none (by simp only[Q4 hs,List.length_replicate];omega)]
def O8:Cel:=⟨0,[],0,⟨0,0,0⟩⟩
theorem Cou:(prog.info? 194).map (fun i=>(i.zero,i.size,decide (i.bytes<=100)))=some (some (.agg (B6 O8).toArray),10,true):=by kernel_rfl
theorem Byd(n:Nat)(hn:n<=512)(w:World):(Instr.makeSlice 189 (.int .i64 (n:Int)) (.int .i64 (n:Int))).run prog w=.ok (.slice (some ⟨w.heap.size,0,none⟩) n n) (w.alloc (.cells (fl B6 (List.replicate n O8)).toArray 194)):=by
 have h:=Cou
 cases hq:prog.info? 194 with
 |none=>simp[hq]at h
 |some i =>
  simp only[hq,Option.map_some,Option.some.injEq,Prod.mk.injEq,decide_eq_true_eq]at h
  obtain⟨hz,hs,hb⟩:=h
  have hm:i.bytes*n<=100*512:=Nat.mul_le_mul hb hn
  have:=Bey 189 194 i _ underlying189 hq hz .i64 .i64 n n (J5 _) (by omega) (by omega) w
  rw[this,hs]
  have e:(Value.agg (B6 O8).toArray).cells=(B6 O8).toArray:=rfl
  rw[e,Bly B6 10 N3 (by omega)]
theorem Clu{α:Type}(a z:α)(n k:Nat)(h:k<n):(List.replicate k a++List.replicate (n-k) z).set k a=List.replicate (k+1) a++List.replicate (n-(k+1)) z:=by
 rw[List.set_append_right _ _ (by simp),List.length_replicate,Nat.sub_self,show n-k=(n-(k+1))+1 by omega,List.replicate_succ (n:=n-(k+1)),J2,List.replicate_succ' (n:=k),List.append_assoc]
 rfl
def Made(w:World)(l:List Cel)(e:Ending)(w':World):Prop:=∃g,e=.returned (.slice (some ⟨g,0,none⟩) l.length l.length)/\Block w' g 194 (fl B6 l).toArray/\Below w.heap.size w w'/\w.heap.size<=g
structure Axf(w wr:World)(bx g:Nat)(a:At)(l:List Cel):Prop where
 box:Block wr bx 51 (R9 a).toArray
 row:Block wr g 194 (fl B6 l).toArray
 below:Below w.heap.size w wr
theorem Bui(n:Nat)(hn:n<=512)(a:At)(w:World) :
  Calls prog 214 #[.int .i64 n,.agg #[.int .u32 a.f,.int .u32 a.b,.int .u16 a.g]] w (Made w (List.replicate n (clr a))):=by
 have hmk:=Byd n hn
 have hb0:=Block.made w 51 (R9 a).toArray
 have hc0:Axf w ((w.alloc (.cells (R9 a).toArray 51)).alloc (.cells (fl B6 (List.replicate n O8)).toArray 194)) w.heap.size (w.heap.size+1) a (List.replicate n O8):=by
  refine⟨hb0.alloc _,?_,((Below.refl _ _).alloc (J5 _) _).alloc (by simp) _⟩
  have:=Block.made (w.alloc (.cells (R9 a).toArray 51)) 194 (fl B6 (List.replicate n O8)).toArray
  simpa using this
 unfold R9 at hc0
 clear hb0
 obtain⟨af,ab,ag⟩:=a
 simp only at hc0
 replace hmk:=J0 hmk
 replace hc0:=J0 hc0
 go_enter func214,ntmps214
 have hm2:=hmk.out
 go_wp2
 clear hm2
 obtain⟨g,hg⟩:∃g,g=w.heap.size+1:=⟨_,rfl⟩
 obtain⟨bx,hbx⟩:∃bx,bx=w.heap.size:=⟨_,rfl⟩
 have hge:w.heap.size<=g:=by omega
 have hne:bx≠g:=by omega
 have hc1:=hc0.out
 rw[<- hg]at hc1 |-
 rw[<- hbx]at hge |-
 have hc2:Axf w ((w.alloc (.cells #[.int .u32 af,.int .u32 ab,.int .u16 ag] 51)).alloc (.cells (fl B6 (List.replicate n O8)).toArray 194)) bx g ⟨af,ab,ag⟩ (List.replicate n O8):=by rw[hbx];exact hc1
 clear hc1 hc0 hmk
 rw[hbx]at hge
 replace hg:=J0 hg
 replace hbx:=J0 hbx
 replace hc2:=J0 hc2
 generalize (w.alloc (.cells #[.int .u32 af,.int .u32 ab,.int .u16 ag] 51)).alloc (.cells (fl B6 (List.replicate n O8)).toArray 194)=w0 at hc2 |-
 go_loopw [11] (fun i wr=>∃k:Nat,k<=n/\i=.int .i64 k/\Hid (Axf w wr bx g ⟨af,ab,ag⟩ (List.replicate k (clr ⟨af,ab,ag⟩)++List.replicate (n-k) O8))) (fun i _=>n-(intOf i).toNat)
 case atStart=>exact⟨0,Nat.zero_le _,rfl,J0 (by simpa using hc2.out)⟩
 case round =>
  obtain⟨k,hk,rfl,hR⟩:=hrel
  have hR:=hR.out
  by_cases hlt:k<n
  ·have hbg:wr.cell? ⟨bx,1,none⟩=some (.int .u32 ab):=hR.box.cell 1 rfl
   have hbl:=J0 (fun w=>Bhm ⟨0,ab,0⟩ w)
   have hC:B6 ⟨32,[],0,⟨0,ab,0⟩⟩=B6 (clr ⟨af,ab,ag⟩):=rfl
   have C4:=Clu (clr ⟨af,ab,ag⟩) O8 n k hlt
   have hfs:=Ajb N3 (List.replicate k (clr ⟨af,ab,ag⟩)++List.replicate (n-k) O8) [clr ⟨af,ab,ag⟩] [] k (by simp;omega)
   rw[Aph _ _ _ (by simp;omega),C4,Acq,List.append_nil,List.append_nil,<- hC]at hfs
   have hlen:(fl B6 (List.replicate k (clr ⟨af,ab,ag⟩)++List.replicate (n-k) O8)).length=n*10:=by rw[Q4 N3];simp;omega
   have hkk:k*10+10<=n*10:=by omega
   have Adh:∀w5 w6,Below wr.heap.size wr w5->Block w6 g 194 (splice (fl B6 (List.replicate k (clr ⟨af,ab,ag⟩)++List.replicate (n-k) O8)) (k*10) (B6 ⟨32,[],0,⟨0,ab,0⟩⟩)).toArray->A0 [g] w5 w6->Axf w w6 bx g ⟨af,ab,ag⟩ (List.replicate (k+1) (clr ⟨af,ab,ag⟩)++List.replicate (n-(k+1)) O8):=by
    intro w5 w6 hb5 hb6 ho6
    rw[hfs]at hb6
    exact⟨(hR.box.only (A0.A1 hb5 []) (by simp)).only ho6 (by simpa using hne),hb6,(A2 hR.below hb5).trans (ho6.below (by have:=hR.below.size;have:=hb5.size;omega) (by simpa using hge))⟩
   have A6:∀w5,Below wr.heap.size wr w5->Block w5 g 194 (fl B6 (List.replicate k (clr ⟨af,ab,ag⟩)++List.replicate (n-k) O8)).toArray:=fun w5 hb5=>hR.row.only (A0.A1 hb5 []) (by simp)
   have B9:=Awg ⟨32,[],0,⟨0,ab,0⟩⟩
   have E0:=Akr ⟨32,[],0,⟨0,ab,0⟩⟩
   have hCl:=N3 ⟨32,[],0,⟨0,ab,0⟩⟩
   simp only at hbl
   generalize B6 ⟨32,[],0,⟨0,ab,0⟩⟩=C at hbl Adh B9 E0 hCl hC hfs
   generalize fl B6 (List.replicate k (clr ⟨af,ab,ag⟩)++List.replicate (n-k) O8)=X at Adh A6 hlen hfs
   clear hfs hC C4 hR
   replace Adh:=J0 Adh
   replace A6:=J0 A6
   replace B9:=J0 B9
   replace E0:=J0 E0
   replace hCl:=J0 hCl
   replace hlen:=J0 hlen
   go_wp2_with (first
    |((go_at_call 263;refine(hbl.out _).mono ?_;rintro e w5 ⟨rfl,hb5⟩))
    |(with_reducible refine J8 20 ?_;go_must(refine Amj rfl 194 (.tmp 20) (.tmp 19) rfl (g:=g) (i:=k*10) (A6.out _ hb5) C rfl rfl (by rw[hlen.out,hCl.out];exact hkk) (B9.out) (E0.out) ?_);intro w6 hr6 ho6))
   replace hr6:=J0 (Adh.out _ _ hb5 hr6.out ho6)
   clear ho6 hb5
   go_roundw
   case rel=>exact⟨k+1,by omega,by go_num,hr6⟩
   case measure=>simp[intOf];omega
  ·obtain rfl:k=n:=by omega
   have hr:Hid (Block wr g 194 (fl B6 (List.replicate k (clr ⟨af,ab,ag⟩))).toArray):=J0 (by simpa using hR.row)
   have hb:=J0 hR.below
   clear hR
   go_wp2
   go_ret
   exact⟨g,by simp,hr.out,hb.out,hge⟩
theorem Avl(n:Nat)(hn:n<=512)(a:At)(w:World) :
  Calls prog 214 #[.int .i64 n,.agg #[.int .u32 a.f,.int .u32 a.b,.int .u16 a.g]] w fun e w'=>∃g,e=.returned (.slice (some ⟨g,0,none⟩) n n)/\Block w' g 194 (fl B6 (List.replicate n (clr a))).toArray/\Below w.heap.size w w'/\w.heap.size<=g :=
 (Bui n hn a w).mono fun _ _ ⟨g,he,h⟩=>⟨g,by rw[he,List.length_replicate],h⟩
theorem Bho{w:World}{g:Nat}{l:List Cel}(h:Block w g 194 (fl B6 l).toArray):∃ad,(some (⟨g,0,none⟩:Addr))=some ad/\∀j v,(fl B6 l)[j]?=some v->w.cell? (ad.add j)=some v :=
 ⟨_,rfl,fun j v hj=>by rw[Addr.add_lit,Nat.zero_add];exact h.cell j (by simpa using hj)⟩
theorem Bha{w:World}{d g n cap:Nat}{tail:List Value}{l:List Cel}(h:B7 w d g n cap tail l)(col k:Nat)(a:At)(hk:col+k<=n)(g2:Nat)(hb:Block w g2 194 (fl B6 (List.replicate k (clr a))).toArray) :
  Calls prog 216 #[.pointer (some ⟨d,0,none⟩),.int .i64 col,.slice (some ⟨g2,0,none⟩) k k] w (Aqq w d g n cap tail (I4 (splice l col (List.replicate k (clr a))) (col-1) (min (col+k+1) n))):=by
 have:=Bna h col (List.replicate k (clr a)) (by simpa using hk) (some ⟨g2,0,none⟩) k (fun _=>Bho hb)
 rw[List.length_replicate]at this
 exact this
theorem Bgz{w:World}{d g n cap:Nat}{tail:List Value}{l:List Cel}(h:B7 w d g n cap tail l)(hwh:Aa3 l)(col k:Nat)(a:At)(hk:col+k<=n)(g2:Nat)(hb:Block w g2 194 (fl B6 (List.replicate k (clr a))).toArray) :
  Calls prog 216 #[.pointer (some ⟨d,0,none⟩),.int .i64 col,.slice (some ⟨g2,0,none⟩) k k] w (Aqq w d g n cap tail (G0 l col (List.replicate k (clr a)))):=by
 have:=Aqp h hwh col (List.replicate k (clr a)) (by simpa using hk) (some ⟨g2,0,none⟩) k (fun _=>Bho hb)
 rw[List.length_replicate]at this
 exact this
theorem Aft{P:Program}{f:FuncId}{args:Array Value}{w:World}{n:Nat}{v:Value}
  (h:Calls P f args (w.drewN n) fun e w'=>e=.returned v/\w.drewN n=w'):Calls P f args (w.drewN n) fun e w''=>e=.returned v/\∃m,w''=w.drewN m :=
 h.mono fun _ _ ⟨he,hm⟩=>⟨he,n,hm.symm⟩
def Ahq(w:World)(d g n cap:Nat)(tail:List Value)(l:List Cel)(v:Value)(e:Ending)(w':World):Prop:=e=.returned v/\B7 w' d g n cap tail l/\A0 [g] w w'
structure Aca(w:World)(d g n cap:Nat)(tail:List Value)(l:List Cel)(w1:World):Prop where
 row:B7 w1 d g n cap tail l
 below:Below w.heap.size w w1
theorem B7.Cuq{w:World}{d g n cap:Nat}{tail:List Value}{l:List Cel}(h:B7 w d g n cap tail l):Aca w d g n cap tail l w:=⟨h,Below.refl _ _⟩
theorem Aca.next{w w1 w2:World}{d g n cap:Nat}{tail:List Value}{l:List Cel}(h:Aca w d g n cap tail l w1)(hb:Below w1.heap.size w1 w2):Aca w d g n cap tail l w2:=⟨h.row.below hb,A2 h.below hb⟩
theorem Aca.stays{w w1:World}{d g n cap:Nat}{tail:List Value}{l:List Cel}(h:Aca w d g n cap tail l w1):B7 w1 d g n cap tail l/\A0 [g] w w1:=⟨h.row,A0.A1 h.below _⟩
theorem Aca.Aea{w w1 w2:World}{d g n cap:Nat}{tail:List Value}{l l':List Cel}(h:Aca w d g n cap tail l w1)(hr:B7 w2 d g n cap tail l')(ho:A0 [g] w1 w2):B7 w2 d g n cap tail l'/\A0 [g] w w2:=⟨hr,(A0.A1 h.below _).trans ho⟩
section
variable {w:World}{d g n cap:Nat}{tail:List Value}{l:List Cel}
theorem Aps(h:B7 w d g n cap tail l)(a b c:Int):Aca w d g n cap tail l (w.alloc (.cells #[.int .u32 a,.int .u32 b,.int .u16 c] 51)):=h.Cuq.next (A3 _ _)
theorem Bcn(h:B7 w d g n cap tail l)(col x:Int)(hc:-9223372036854775808<=col/\col<=9223372036854775807)(wide:Bool)(a:At)(hno:V1 x=false\/col<0\/(n:Int)<=col\/(wide=true/\(n:Int)<=col+1)) :
  Calls prog 170 #[.pointer (some ⟨d,0,none⟩),.int .i64 col,.int .i32 x,.bool wide,.agg #[.int .u32 a.f,.int .u32 a.b,.int .u16 a.g]] w (Ahq w d g n cap tail l (.int .i64 2)):=by
 obtain⟨af,ab,ag⟩:=a
 have hn:=h.pos
 have hn5:=h.small
 have hn0:((n:Int)==0)=false:=beq_eq_false_iff_ne.2 (by omega)
 have hL:=Aps h af ab ag
 have hlen:=J0 (Aas hL.row)
 have L5:=J0 (fun j h0 h1=>Aqj hL.row j h0 h1)
 have S3:=J0 (fun j h0=>Awe hL.row j h0)
 have A4:=J0 hL.stays
 have hmp:=Atx x
 simp only
 by_cases h1:V1 x=false
 ·rw[h1]at hmp
  replace hmp:=J0 hmp
  clear hL h hno h1
  go_enter func170,ntmps170
  go_wp2_with(first|(go_at_call 99;(with_reducible refine(hlen.out).mono ?_);rintro e w' ⟨rfl,rfl⟩)|(go_at_call 220;(with_reducible refine(hmp.out _).mono ?_);rintro e w' ⟨rfl,rfl⟩))
  go_ret
  exact⟨rfl,A4.out⟩
 have h1:V1 x=true:=by simpa using h1
 rw[h1]at hmp
 replace hmp:=J0 hmp
 by_cases h2:col<0\/(n:Int)<=col
 ·replace h2:=J0 h2
  clear hL h hno h1
  go_enter func170,ntmps170
  go_wp2_with(first|(go_at_call 99;(with_reducible refine(hlen.out).mono ?_);rintro e w' ⟨rfl,rfl⟩)|(go_at_call 220;(with_reducible refine(hmp.out _).mono ?_);rintro e w' ⟨rfl,rfl⟩)|(go_at_call 219;(with_reducible refine(S3.out _ h2.out).mono ?_);rintro e w' ⟨rfl,rfl⟩))
  go_ret
  exact⟨rfl,A4.out⟩
 ·obtain⟨hw,h3⟩:wide=true/\(n:Int)<=col+1:=by
   rcases hno with hh|hh|hh|hh
   ·simp[h1]at hh
   ·omega
   ·omega
   ·exact hh
  subst hw
  have h4:0<=col:=by omega
  have h5:col<n:=by omega
  clear hL h hno h1 h2
  go_enter func170,ntmps170
  go_wp2_with(first|(go_at_call 99;(with_reducible refine(hlen.out).mono ?_);rintro e w' ⟨rfl,rfl⟩)|(go_at_call 220;(with_reducible refine(hmp.out _).mono ?_);rintro e w' ⟨rfl,rfl⟩))
  with_reducible refine(L5.out _ h4 h5).mono ?_
  rintro e w1 ⟨rfl,rfl⟩
  go_wp2_with fail
  with_reducible refine(S3.out _ (Or.inr h3)).mono ?_
  rintro e w1 ⟨rfl,rfl⟩
  go_wp2_with fail
  go_ret
  exact⟨rfl,A4.out⟩
theorem Clt(h:B7 w d g n cap tail l)(hwh:Aa3 l)(col:Nat)(x:Int)(wide:Bool)(a:At)(h1:V1 x=true)(h2:col+(L9 x wide a).length<=n) :
  Calls prog 170 #[.pointer (some ⟨d,0,none⟩),.int .i64 col,.int .i32 x,.bool wide,.agg #[.int .u32 a.f,.int .u32 a.b,.int .u16 a.g]] w (Ahq w d g n cap tail (G0 l col (L9 x wide a)) (.int .i64 0)):=by
 obtain⟨af,ab,ag⟩:=a
 have hn:=h.pos
 have hn5:=h.small
 have hn0:((n:Int)==0)=false:=beq_eq_false_iff_ne.2 (by omega)
 have hL:=Aps h af ab ag
 have hlen:=J0 (Aas hL.row)
 have L5:=J0 (fun j h0 h1=>Aqj hL.row j h0 h1)
 have hmp:=Atx x
 rw[h1]at hmp
 replace hmp:=J0 hmp
 simp only
 cases wide
 ·have h3:col+1<=n:=by simpa[L9]using h2
  have C4:=fun w1 (hb:Below (w.alloc (.cells #[.int .u32 af,.int .u32 ab,.int .u16 ag] 51)).heap.size (w.alloc (.cells #[.int .u32 af,.int .u32 ab,.int .u16 ag] 51)) w1) hs=>Aqp (hL.row.below hb) hwh col (L9 x false ⟨af,ab,ag⟩) h2 (some ⟨w.heap.size+1,0,none⟩) 1 hs
  have P6:=Block.made (w.alloc (.cells #[.int .u32 af,.int .u32 ab,.int .u16 ag] 51)) 194 (fl B6 (L9 x false ⟨af,ab,ag⟩)).toArray
  have e1:(fl B6 (L9 x false ⟨af,ab,ag⟩)).toArray=#[.int .i32 x,.int .i32 0,.int .i32 0,.int .i32 0,.int .i32 0,.int .u8 0,.int .u8 0,.int .u32 af,.int .u32 ab,.int .u16 ag]:=by simp[fl,L9,B6,Adj,R9]
  have C3:=fun w1 w2 (hb:Below (w.alloc (.cells #[.int .u32 af,.int .u32 ab,.int .u16 ag] 51)).heap.size (w.alloc (.cells #[.int .u32 af,.int .u32 ab,.int .u16 ag] 51)) w1) (hr:B7 w2 d g n cap tail (G0 l col (L9 x false ⟨af,ab,ag⟩))) (ho:A0 [g] w1 w2)=>(hL.next hb).Aea hr ho
  have Aec:(L9 x false ⟨af,ab,ag⟩).length=1:=rfl
  have hs0:=C4 _ (A3 _ _) (fun _=>⟨_,rfl,fun j v hj=>by
   rw[Addr.add_lit,Nat.zero_add]
   exact Block.cell (by simpa using P6) j (by simpa using hj)⟩)
  rw[e1,Aec]at hs0
  clear C4 P6 e1
  replace hs0:=J0 hs0
  replace C3:=J0 C3
  clear hL h h1 h2
  go_enter func170,ntmps170
  go_wp2_with (first
   |(go_at_call 99;(with_reducible refine(hlen.out).mono ?_);rintro e w' ⟨rfl,rfl⟩)
   |(go_at_call 220;(with_reducible refine(hmp.out _).mono ?_);rintro e w' ⟨rfl,rfl⟩)
   |(go_at_call 219;(with_reducible refine(L5.out _ (by omega) (by omega)).mono ?_);rintro e w' ⟨rfl,rfl⟩)
   |(go_at_call 216;(with_reducible refine(hs0.out).mono ?_);rintro e w2 ⟨⟨v2,rfl⟩,hR2,ho2⟩))
  go_ret
  exact⟨rfl,C3.out _ _ (A3 _ _) hR2 ho2⟩
 ·have h3:col+1<n:=by simp[L9]at h2;omega
  have C4:=fun w1 (hb:Below (w.alloc (.cells #[.int .u32 af,.int .u32 ab,.int .u16 ag] 51)).heap.size (w.alloc (.cells #[.int .u32 af,.int .u32 ab,.int .u16 ag] 51)) w1) hs=>Aqp (hL.row.below hb) hwh col (L9 x true ⟨af,ab,ag⟩) h2 (some ⟨w.heap.size+1,0,none⟩) 2 hs
  have P6:=Block.made (w.alloc (.cells #[.int .u32 af,.int .u32 ab,.int .u16 ag] 51)) 194 (fl B6 (L9 x true ⟨af,ab,ag⟩)).toArray
  have e1:(fl B6 (L9 x true ⟨af,ab,ag⟩)).toArray=#[.int .i32 x,.int .i32 0,.int .i32 0,.int .i32 0,.int .i32 0,.int .u8 0,.int .u8 1,.int .u32 af,.int .u32 ab,.int .u16 ag,.int .i32 0,.int .i32 0,.int .i32 0,.int .i32 0,.int .i32 0,.int .u8 0,.int .u8 2,.int .u32 af,.int .u32 ab,.int .u16 ag]:=by simp[fl,L9,B6,Adj,R9]
  have C3:=fun w1 w2 (hb:Below (w.alloc (.cells #[.int .u32 af,.int .u32 ab,.int .u16 ag] 51)).heap.size (w.alloc (.cells #[.int .u32 af,.int .u32 ab,.int .u16 ag] 51)) w1) (hr:B7 w2 d g n cap tail (G0 l col (L9 x true ⟨af,ab,ag⟩))) (ho:A0 [g] w1 w2)=>(hL.next hb).Aea hr ho
  have Aec:(L9 x true ⟨af,ab,ag⟩).length=2:=rfl
  have hs0:=C4 _ (A3 _ _) (fun _=>⟨_,rfl,fun j v hj=>by
   rw[Addr.add_lit,Nat.zero_add]
   exact Block.cell (by simpa using P6) j (by simpa using hj)⟩)
  rw[e1,Aec]at hs0
  clear C4 P6 e1
  replace hs0:=J0 hs0
  replace C3:=J0 C3
  clear hL h h1 h2
  go_enter func170,ntmps170
  go_wp2_with (first
   |(go_at_call 99;(with_reducible refine(hlen.out).mono ?_);rintro e w' ⟨rfl,rfl⟩)
   |(go_at_call 220;(with_reducible refine(hmp.out _).mono ?_);rintro e w' ⟨rfl,rfl⟩)
   |(go_at_call 219;(with_reducible refine(L5.out _ (by omega) (by omega)).mono ?_);rintro e w' ⟨rfl,rfl⟩)
   |(go_at_call 216;(with_reducible refine(hs0.out).mono ?_);rintro e w2 ⟨⟨v2,rfl⟩,hR2,ho2⟩))
  go_ret
  exact⟨rfl,C3.out _ _ (A3 _ _) hR2 ho2⟩
end
