/- Part 2 of the proof that the card of HostNone holds. -/
import Derived.Test.YtbafmljidapmgaaGreatDoorN01
import Derived.Laws.MakeOwn
import Derived.Laws.Entries
set_option maxHeartbeats 16000000
set_option maxRecDepth 100000
namespace Go.Proofs.YtbafmljidapmgaaGreatDoor.Rw
open Go RowKit Com
theorem Ah1 {w:World} {d g n cap:Nat} {tail:List Value} {l:List Cel} (h:RowX w d g n cap tail l) :
  Calls Tryz.prog 240 #[.pointer (some ⟨d,0,none⟩)] w fun e w'=>e=.returned (.int .i64 n)/\w=w':=by
 have hc:=h.slice
 clear h
 go_enter Tryz.func240,Tryz.ntmps240
 go_wp2
 go_ret
 exact ⟨rfl,rfl⟩
theorem Be8 {w:World} {d g n cap:Nat} {tail:List Value} {l:List Cel} (h:RowX w d g n cap tail l) (i:Int) (h0:0<=i) (h1:i<n) :
  Calls Tryz.prog 362 #[.pointer (some ⟨d,0,none⟩),.int .i64 i] w fun e w'=>e=.returned (.bool true)/\w=w':=by
 have hl:=J0 (Ah1 h)
 clear h
 go_enter Tryz.func362,Tryz.ntmps362
 go_wp2_with ((go_at_call 240;refine (hl.out).mono ?_;rintro e w' ⟨rfl,rfl⟩))
 go_ret
 exact ⟨rfl,rfl⟩
theorem Bx8 {w:World} {d g n cap:Nat} {tail:List Value} {l:List Cel} (h:RowX w d g n cap tail l) (i:Int) (h0:i<0\/(n:Int)<=i) :
  Calls Tryz.prog 362 #[.pointer (some ⟨d,0,none⟩),.int .i64 i] w fun e w'=>e=.returned (.bool false)/\w=w':=by
 have hl:=J0 (Ah1 h)
 clear h
 by_cases h1:i<0
 ·go_enter Tryz.func362,Tryz.ntmps362
  go_wp2_with ((go_at_call 240;refine (hl.out).mono ?_;rintro e w' ⟨rfl,rfl⟩))
  go_ret
  exact ⟨rfl,rfl⟩
 ·have h2:decide (i<(n:Int))=false:=decide_eq_false (by omega)
  go_enter Tryz.func362,Tryz.ntmps362
  go_wp2_with ((go_at_call 240;refine (hl.out).mono ?_;rintro e w' ⟨rfl,rfl⟩))
  go_ret
  exact ⟨rfl,rfl⟩
theorem mayCount_yes (n:Int) (h0:1<=n) (h1:n<=512) (w:World):Calls Tryz.prog 351 #[.int .i64 n] w fun e w'=>e=.returned (.bool true)/\w=w':=by
 go_enter Tryz.func351,Tryz.ntmps351
 go_wp2
 go_ret
 exact ⟨rfl,rfl⟩
def An1 (x:Int):Bool:=decide (32<=x) && decide (x<=1114111) && (decide (x<55296) || decide (57343<x))
theorem Ar4 (x:Int) (w:World):Calls Tryz.prog 363 #[.int .i32 x] w fun e w'=>e=.returned (.bool (An1 x))/\w=w':=by
 obtain ⟨b,hb⟩:∃ b,b=An1 x:=⟨_,rfl⟩
 rw [<- hb]
 have hb':=J0 hb
 clear hb
 go_enter Tryz.func363,Tryz.ntmps363
 go_wp2
 all_goals
  go_ret
  exact ⟨Ab7 (by rw [hb'.out,Bool.eq_iff_iff];simp [An1]<;>omega),rfl⟩
def Ab1 (i:Int) (most:Nat):Nat:=min i.toNat most
theorem Ah8 (i:Int) (most:Nat) (w:World):Calls Tryz.prog 358 #[.int .i64 i,.int .i64 most] w fun e w'=>e=.returned (.int .i64 (Ab1 i most))/\w=w':=by
 obtain ⟨b,hb⟩:∃ b,b=Ab1 i most:=⟨_,rfl⟩
 rw [<- hb]
 have hb':Hid (b=min i.toNat most):=hb
 clear hb
 go_enter Tryz.func358,Tryz.ntmps358
 go_wp2
 all_goals
  go_ret
  exact ⟨Ab4 (by rw [hb'.out];omega),rfl⟩
theorem Bo6 (a:At) (w:World):Calls Tryz.prog 400 #[.agg #[.int .u32 a.f,.int .u32 a.b,.int .u16 a.g]] w fun e w'=>e=.returned (.agg (cellC ⟨32,[],0,a⟩).toArray)/\Below w.heap.size w w':=by
 obtain ⟨f,b,g⟩:=a
 go_enter Tryz.func400,Tryz.ntmps400
 go_wp2
 exact bodyPost_ret (v:=.agg (cellC ⟨32,[],0,⟨f,b,g⟩⟩).toArray) (by simp [results,Tryz.results400,go_sem,cellC,pad4,attV]) rfl ⟨rfl,(((Below.refl _ _).alloc (J5 _) _).alloc (by simp) _)⟩
theorem Bc7 {w:World} {d g n cap:Nat} {tail:List Value} {l:List Cel} (h:RowX w d g n cap tail l) (i:Nat) (hi:i<n) :
  Calls Tryz.prog 401 #[.pointer (some ⟨d,0,none⟩),.int .i64 i] w fun e w'=>e=.returned (.bool (decide (Alone l i)))/\w=w':=by
 have hle:=h.le
 have hcm:=h.cap
 unfold maxLen at hcm
 have hc:=h.slice
 have hil:i<l.length:=by rw [h.len];exact hi
 have hw:=h.wide hil
 have hW:=W_at hil
 generalize l[i].wide=x at hw hW
 have hW1:i+1<n->∃ y,W l (i+1)=y/\w.cell? ⟨g,(i+1)*10+6,none⟩=some (.int .u8 y):=fun h1=>by
  have h2:i+1<l.length:=by rw [h.len];exact h1
  exact ⟨_,W_at h2,h.wide h2⟩
 have hW2:n<=i+1->W l (i+1)=0:=fun h1=>Cd6 (by rw [h.len];exact h1)
 have hW0:0<i->∃ y,W l (i - 1)=y/\w.cell? ⟨g,(i - 1)*10+6,none⟩=some (.int .u8 y):=fun h1=>by
  have h2:i - 1<l.length:=by omega
  exact ⟨_,W_at h2,h.wide h2⟩
 have hyes:=J0 (fun j h0 h1=>Be8 h j h0 h1)
 have hno:=J0 (fun j h0=>Bx8 h j h0)
 obtain ⟨b,hb⟩:∃ b,b=decide (Alone l i):=⟨_,rfl⟩
 rw [<- hb]
 replace hb:=J0 hb
 clear h hil
 by_cases h1:x=1
 ·subst h1
  by_cases h2:i+1<n
  ·obtain ⟨y,hy,hcy⟩:=hW1 h2
   have hbb:b=(y != 2):=by rw [hb.out,Bool.eq_iff_iff,decide_eq_true_iff];unfold Alone;rw [hW,hy];simp
   replace hbb:=J0 hbb
   clear hW1 hW2 hW0 hb hW hy
   go_enter Tryz.func401,Tryz.ntmps401
   go_wp2_with ((go_at_call 362;refine (hyes.out _ (by omega) (by omega)).mono ?_;rintro e w' ⟨rfl,rfl⟩))
   go_ret
   exact ⟨Ab7 hbb.out.symm,rfl⟩
  ·have hy:=hW2 (by omega)
   have hbb:b=true:=hb.out.trans (decide_eq_true (by unfold Alone;rw [hW,hy];simp))
   replace hbb:=J0 hbb
   clear hW1 hW2 hW0 hb hW hy
   go_enter Tryz.func401,Tryz.ntmps401
   go_wp2_with ((go_at_call 362;refine (hno.out _ (Or.inr (by omega))).mono ?_;rintro e w' ⟨rfl,rfl⟩))
   go_ret
   exact ⟨Ab7 hbb.out.symm,rfl⟩
 have h1':(x == 1)=false:=by simpa using h1
 by_cases h2:x=2
 ·subst h2
  by_cases h3:0<i
  ·obtain ⟨y,hy,hcy⟩:=hW0 h3
   have hbb:b=(y != 1):=by rw [hb.out,Bool.eq_iff_iff,decide_eq_true_iff];unfold Alone;rw [hW,hy];simp;omega
   replace hbb:=J0 hbb
   obtain ⟨j,rfl⟩:∃ j,i=j+1:=⟨i - 1,by omega⟩
   simp only [Nat.add_sub_cancel] at hcy
   clear hW1 hW2 hW0 hb hW hy
   go_enter Tryz.func401,Tryz.ntmps401
   go_wp2_with ((go_at_call 362;refine (hyes.out _ (by omega) (by omega)).mono ?_;rintro e w' ⟨rfl,rfl⟩))
   go_ret
   exact ⟨Ab7 hbb.out.symm,rfl⟩
  ·obtain rfl:i=0:=by omega
   have hbb:b=true:=hb.out.trans (decide_eq_true (by unfold Alone;rw [hW];simp))
   replace hbb:=J0 hbb
   clear hW1 hW2 hW0 hb hW
   go_enter Tryz.func401,Tryz.ntmps401
   go_wp2_with ((go_at_call 362;refine (hno.out _ (Or.inl (by omega))).mono ?_;rintro e w' ⟨rfl,rfl⟩))
   go_ret
   exact ⟨Ab7 hbb.out.symm,rfl⟩
 ·have h2':(x == 2)=false:=by simpa using h2
  have hbb:b=false:=hb.out.trans (decide_eq_false (by unfold Alone;rw [hW];simp [h1,h2]))
  replace hbb:=J0 hbb
  clear hW1 hW2 hW0 hb hW
  go_enter Tryz.func401,Tryz.ntmps401
  go_wp2
  go_ret
  exact ⟨Ab7 hbb.out.symm,rfl⟩
theorem Cl4:(Tryz.prog.info? 304).map (·.size)=some 10:=by kernel_rfl
theorem By6 (c:Cel):(Tryz.prog.info? 304).map (·.size)=some (cellC c).length:=by rw [cellC_length];exact Cl4
theorem RowX.put {w w':World} {d g n cap:Nat} {tail:List Value} {l:List Cel} (h:RowX w d g n cap tail l) {i:Nat} (hi:i<l.length) (c:Cel) (hb:Block w' g 304 (splice (fl cellC l++tail) (i*10) (cellC c)).toArray) (ho:Only [g] w w') :
  RowX w' d g n cap tail (l.set i c):=by
 refine h.turned ho ?_ (by simp)
 have e:=Aj1 cellC_length l [c] tail i (by simp;omega)
 rw [fl_one,An2 l i c hi] at e
 rw [<- e]
 exact hb
theorem RowX.fits {w:World} {d g n cap:Nat} {tail:List Value} {l:List Cel} (h:RowX w d g n cap tail l) {i:Nat} (hi:i<n) (c:Cel):i*10+(cellC c).length<=(fl cellC l++tail).length:=by
 rw [List.length_append,Ab5 cellC_length,cellC_length,h.len]
 have:(i+1)*10<=n*10:=Nat.mul_le_mul_right _ hi
 omega
theorem RowX.storing {w:World} {d g n cap:Nat} {tail:List Value} {l:List Cel} (h:RowX w d g n cap tail l) {i:Nat} (hi:i<l.length) (c:Cel) :
  ∃ w',(storeCells ⟨g,i*10,none⟩ (cellC c)).run Tryz.prog w=.ok () w'/\RowX w' d g n cap tail (l.set i c)/\Only [g] w w':=by
 have hrun:=run_storeCells_at Tryz.prog g (i*10) 304 (cellC c) 0 _ w h.row (by simpa using h.fits (by rw [<- h.len];exact hi) c) (Ak5 c)
 refine ⟨_,hrun,?_,Ac6 w g _⟩
 exact h.put hi c (by simpa [splice,Block,cellC_length] using setRow_heap w g _ _ _ _ h.row) (Ac6 w g _)
def Bn9 (w:World) (d g n cap:Nat) (tail:List Value) (l:List Cel) (e:Ending) (w':World):Prop:=(∃ v,e=.returned v)/\RowX w' d g n cap tail l/\Only [g] w w'
theorem Bz0 {w:World} {d g n cap:Nat} {tail:List Value} {l:List Cel} (h:RowX w d g n cap tail l) (lo hi:Nat) (h1:lo<=n) (h2:hi<=n) (h3:lo<=hi+2) :
  Calls Tryz.prog 353 #[.pointer (some ⟨d,0,none⟩),.int .i64 lo,.int .i64 hi] w (Bn9 w d g n cap tail (Ac7 l (lo - 1) (min (hi+1) n))):=by
 have hle:=h.le
 have hn:=h.pos
 have hn5:=h.small
 have hcm:=h.cap
 unfold maxLen at hcm
 have hc:=h.slice
 obtain ⟨a,ha⟩:∃ a,a=lo - 1:=⟨_,rfl⟩
 obtain ⟨b,hb⟩:∃ b,b=min (hi+1) n:=⟨_,rfl⟩
 rw [<- ha,<- hb]
 have ha':max ((lo:Int) - 1) 0=(a:Int):=by omega
 have hb':min ((hi:Int)+1) (n:Int)=(b:Int):=by omega
 have hab:a<=b:=by omega
 have hbn:b<=n:=by omega
 have hw0:=J0 h
 clear h hb ha
 go_enter Tryz.func353,Tryz.ntmps353
 have hmx:(if (lo:Int) - 1<0 then 0 else (lo:Int) - 1)=(a:Int):=by split<;>omega
 have hmn:(if (n:Int)<(hi:Int)+1 then (n:Int) else (hi:Int)+1)=(b:Int):=by split<;>omega
 go_wp2
 go_quiet (fail)
 clear hmx hmn ha' hb'
 go_wp2
 have hd0:∀ q,RowX (w.drewN q) d g n cap tail l:=fun q=>hw0.out.kept (Only.drewN [] w q) (by simp) (by simp)
 replace hd0:=J0 hd0
 go_loopw [22] (fun i wr=>∃ k:Nat,k<=b - a/\i=.int .i64 k/\Hid (RowX wr d g n cap tail (Ac7 l a (a+k))/\Only [g] w wr)) (fun i _=>(b - a) - (intOf i).toNat)
 case atStart=>exact ⟨0,Nat.zero_le _,rfl,J0 ⟨by simpa [Bq9] using hd0.out _,Only.drewN _ _ _⟩⟩
 case round =>
  obtain ⟨k,hk,rfl,hR⟩:=hrel
  obtain ⟨hR,hO⟩:=hR.out
  by_cases hlt:k<b - a
  ·obtain ⟨p,hp⟩:∃ p,p=a+k:=⟨_,rfl⟩
   have hp':(a:Int)+(k:Int)=(p:Int):=by omega
   rw [<- hp] at hR
   have hpn:p<n:=by omega
   have hpl:p<l.length:=by rw [hw0.out.len];exact hpn
   have hall:=Bc7 hR p hpn
   have hA:=Ap1 l a p p
   have hsn:=mend_snoc l a p (by omega)
   have hcur:(Ac7 l a p)[p]?=some l[p]:=by rw [Ai0,List.getElem?_eq_getElem hpl];simp
   have hpm:p<(Ac7 l a p).length:=by rw [mendTo_length];exact hpl
   have hnx:a+(k+1)=p+1:=by omega
   by_cases hAl:Alone l p
   ·rw [decide_eq_true (hA.2 ⟨hAl,by omega⟩)] at hall
    rw [dif_pos ⟨hpl,hAl⟩] at hsn
    have hgc:(Ac7 l a p)[p]=l[p]:=by rw [List.getElem?_eq_getElem hpm] at hcur;exact Option.some.inj hcur
    have hS:=fun (w':World) (h:RowX w' d g n cap tail (Ac7 l a p))=>And.intro h.slice (And.intro (h.fg hpm) (And.intro (h.bg hpm) (h.gg hpm)))
    rw [hgc] at hS
    have hS':=fun (w':World) (h:RowX w' d g n cap tail ((Ac7 l a p).set p (Al1 l[p])))=>And.intro h.slice (And.intro (h.fg (i:=p) (by simpa using hpm)) (And.intro (h.bg (i:=p) (by simpa using hpm)) (h.gg (i:=p) (by simpa using hpm))))
    simp only [List.getElem_set_self] at hS'
    have hst:=fun (w1:World) (hR1:RowX w1 d g n cap tail (Ac7 l a p))=>hR1.storing hpm (Al1 l[p])
    rw [<- hsn] at hst hS'
    have hbl:=fun w=>Bo6 l[p].a w
    have hCe:cellC (Al1 l[p])=cellC ⟨32,[],0,l[p].a⟩:=rfl
    rw [hCe] at hst
    have hae:(Al1 l[p]).a=l[p].a:=rfl
    rw [hae] at hS'
    have hC10:=cellC_length ⟨32,[],0,l[p].a⟩
    generalize cellC ⟨32,[],0,l[p].a⟩=C at hst hbl hC10
    generalize l[p].a=A at hS hS' hbl
    obtain ⟨af,ab,ag⟩:=A
    simp only at hS hS' hbl
    generalize Ac7 l a p=lc at hR hall hst hpm hgc hcur hA hsn hS
    obtain ⟨lc',hlc⟩:∃ lc',lc'=Ac7 l a (p+1):=⟨_,rfl⟩
    rw [<- hlc] at hst hsn hS'
    replace hlc:=J0 hlc
    replace hall:=J0 hall
    replace hst:=J0 hst
    replace hbl:=J0 hbl
    replace hS:=J0 hS
    replace hS':=J0 hS'
    replace hnx:=J0 hnx
    replace hp:=J0 hp
    clear hgc hcur hA hsn hCe
    go_wp2_with ((go_at_call 401;refine (hall.out).mono ?_;rintro e w' ⟨rfl,rfl⟩))
    clear hall hd0
    go_region_held3 (fun w'=>w'.cell? ⟨d,0,none⟩=some (.slice (some ⟨g,0,none⟩) n cap)/\w'.cell? ⟨g,p*10+7,none⟩=some (.int .u32 af)/\w'.cell? ⟨g,p*10+8,none⟩=some (.int .u32 ab)/\w'.cell? ⟨g,p*10+9,none⟩=some (.int .u16 ag))
     (first|exact hS.out _ hR|exact hS.out _ hR.drawn|exact hS.out _ hR6|exact hS'.out _ hR7|go_keep)
     (first
      |(go_at_call 400;with_reducible refine (hbl.out _).mono ?_;rintro e1 w6 ⟨rfl,hb6'⟩;have hR6:RowX w6 d g n cap tail lc:=hR.drawn.below hb6';obtain ⟨w7,hst7,hR7,ho7⟩:=hst.out w6 hR6))
    have hO6:Only [g] w w6:=hO.trans ((Only.drewN [g] wr 1).trans (Only.of_below hb6' [g]))
    replace hR7:=J0 hR7
    replace hO6:=J0 (hO6.trans ho7)
    clear hO hst7
    go_wp2
    go_roundw
    case rel=>exact ⟨k+1,by omega,by go_num,J0 ⟨by rw [hnx.out,<- hlc.out];exact hR7.out,hO6.out⟩⟩
    case measure=>simp [intOf];omega
   ·rw [decide_eq_false (fun h=>hAl (hA.1 h).1)] at hall
    rw [dif_neg (fun h=>hAl h.2)] at hsn
    rw [<- hsn] at hR
    replace hall:=J0 hall
    replace hR:=J0 hR
    replace hO:=J0 hO
    replace hnx:=J0 hnx
    replace hp:=J0 hp
    clear hcur hA hsn hd0
    go_wp2_with ((go_at_call 401;refine (hall.out).mono ?_;rintro e w' ⟨rfl,rfl⟩))
    go_roundw
    case rel=>exact ⟨k+1,by omega,by go_num,J0 ⟨by rw [hnx.out];exact hR.out,hO.out⟩⟩
    case measure=>simp [intOf];omega
  ·have hkb:a+k=b:=by omega
   rw [hkb] at hR
   replace hR:=J0 hR
   replace hO:=J0 hO
   clear hkb hd0
   go_wp2
   go_end0
   exact ⟨⟨_,rfl⟩,hR.out,hO.out⟩
theorem Cj8 {w:World} {d g n cap:Nat} {tail:List Value} {l:List Cel} (h:RowX w d g n cap tail l) (col:Nat) (cs:List Cel) (hcs:col+cs.length<=n) (sp:Option Addr) (c2:Nat)
  (hsrc:0<cs.length->∃ ad,sp=some ad/\∀ j v,(fl cellC cs)[j]?=some v->w.cell? (ad.add j)=some v) :
  Calls Tryz.prog 359 #[.pointer (some ⟨d,0,none⟩),.int .i64 col,.slice sp cs.length c2] w (Bn9 w d g n cap tail (Ac7 (splice l col cs) (col - 1) (min (col+cs.length+1) n))):=by
 have hle:=h.le
 have hcm:=h.cap
 have hn5:=h.small
 unfold maxLen at hcm
 have hc:=h.slice
 have h1:=h.row
 obtain ⟨m,hm⟩:∃ m,m=cs.length:=⟨_,rfl⟩
 rw [<- hm] at hcs hsrc |-
 replace hm:=J0 hm
 replace h:=J0 h
 replace hsrc:=J0 hsrc
 have hcolc:col<=cap:=by omega
 have hX:(fl cellC cs).length=m*10:=by rw [Ab5 cellC_length,hm.out]
 have hcur:(fl cellC l++tail).length=n*10+tail.length:=by rw [List.length_append,Ab5 cellC_length,h.out.len]
 have hsp:=Aj1 cellC_length l cs tail col (by rw [h.out.len,<- hm.out];exact hcs)
 have hone:=Bd8 Ak5 cs
 have hlen:(splice l col cs).length=l.length:=length_splice l col cs (by rw [h.out.len,<- hm.out];exact hcs)
 have hcs0:¬ 0<cs.length->m=0:=fun h0=>by have:=hm.out;omega
 have hrow:∀ w1,Block w1 g 304 (splice (fl cellC l++tail) (col*10) (fl cellC cs)).toArray->Only [g] w w1->RowX w1 d g n cap tail (splice l col cs):=fun w1 hb ho=>h.out.turned ho (by rw [<- hsp];exact hb) hlen
 clear hsp hlen
 generalize splice l col cs=l2 at hrow |-
 have hsrc':0<m->∃ ad,sp=some ad/\∀ j v,(fl cellC cs)[j]?=some v->w.cell? (ad.add j)=some v:=fun h0=>hsrc.out h0
 obtain ⟨X,hXX⟩:∃ X,X=fl cellC cs:=⟨_,rfl⟩
 obtain ⟨cur,hcc⟩:∃ cur,cur=fl cellC l++tail:=⟨_,rfl⟩
 rw [<- hXX] at hX hone hrow hsrc'
 rw [<- hcc] at hcur hrow h1
 clear hXX hcc hcs0 hsrc
 replace hX:=J0 hX
 replace hcur:=J0 hcur
 replace hone:=J0 hone
 replace hrow:=J0 hrow
 replace hsrc':=J0 hsrc'
 replace h1:=J0 h1
 go_enter Tryz.func359,Tryz.ntmps359
 go_wp2_with (with_reducible show wpList _ _ _ (⟨some 13,.call _,_,_,_,_⟩::_) _ _;go_must (refine wpList_copyN rfl (.tmp 11) (.tmp 12) _ _ rfl 304 10 Tryz.underlying299 Cl4 _ _ _ _ _ _ rfl rfl g (col*10) cur _ h1.out X ((by rw [hX.out,Nat.min_eq_left (by omega)])) (fun hp _=>⟨if_neg (by omega),hsrc'.out (by omega)⟩) (by rw [hX.out,hcur.out];omega) hone.out ?_);intro w1 hb1 ho1)
 all_goals
  have hR1:=hrow.out _ hb1.out ho1
  have hm1:=J0 (Bz0 hR1 col (col+m) (by omega) (by omega) (by omega))
  clear hb1 hR1
  go_wp2_with ((go_at_call 353;refine (hm1.out).mono ?_;rintro e w2 ⟨⟨v,rfl⟩,hR2,ho2⟩))
  go_end0
  exact ⟨⟨_,rfl⟩,hR2,ho1.trans ho2⟩
theorem Bg2 {w:World} {d g n cap:Nat} {tail:List Value} {l:List Cel} (h:RowX w d g n cap tail l) (hwh:Aj4 l) (col:Nat) (cs:List Cel) (hcs:col+cs.length<=n) (sp:Option Addr) (c2:Nat)
  (hsrc:0<cs.length->∃ ad,sp=some ad/\∀ j v,(fl cellC cs)[j]?=some v->w.cell? (ad.add j)=some v) :
  Calls Tryz.prog 359 #[.pointer (some ⟨d,0,none⟩),.int .i64 col,.slice sp cs.length c2] w (Bn9 w d g n cap tail (setL l col cs)):=by
 have:=Cj8 h col cs hcs sp c2 hsrc
 have e:=setL_eq (cs:=cs) (col:=col) (by rw [h.len];exact hcs) hwh
 rw [h.len] at e
 rw [e] at this
 exact this
theorem Ax5 {P:Program} (t e:TypeId) (i:TypeInfo) (z:Value) (ht:P.underlying t=some (.slice e)) (hi:P.info? e=some i) (hz:i.zero=some z)
  (kl kc:IntKind) (n c:Nat) (hnc:n<=c) (hbytes:i.bytes*c<=281474976710656) (h63:c<=9223372036854775807) (w:World) :
  (Instr.makeSlice t (.int kl (n:Int)) (.int kc (c:Int))).run P w=.ok (.slice (some ⟨w.heap.size,0,none⟩) n c) (w.alloc (.cells (madeCells z.cells (c*i.size)) e)):=by
 have hb:(i.bytes:Int)*(c:Int)<=281474976710656:=by
  have h:((i.bytes*c:Nat):Int)<=281474976710656:=by omega
  rwa [Int.natCast_mul] at h
 have hr:=run_make (P:=P) w t e i z ht hi hz kl kc n c (by omega) (by omega) hb (by omega)
 simp only [Int.toNat_natCast] at hr
 exact hr
theorem Cg7 {α:Type} (f:α->List Value) (s:Nat) (hs:∀ a,(f a).length=s) (h0:0<s) (a:α) (n:Nat):(madeCells (f a).toArray (n*s))=(fl f (List.replicate n a)).toArray:=by
 apply Array.ext'
 apply List.ext_getElem?
 intro j
 have hsz:(madeCells (f a).toArray (n*s)).toList.length=n*s:=by rw [Array.length_toList,size_madeCells]
 by_cases hj:j<n*s
 ·have hi:j / s<(List.replicate n a).length:=by rw [List.length_replicate];exact Nat.div_lt_of_lt_mul (by rw [Nat.mul_comm];exact hj)
  have hm:j % s<s:=Nat.mod_lt _ h0
  have e:=Bt7 hs hi hm
  have ej:j / s*s+j % s=j:=by rw [Nat.mul_comm];exact Nat.div_add_mod j s
  rw [ej] at e
  simp only [List.getElem_replicate] at e
  rw [e]
  simp only [madeCells,Array.toList_map,Array.toList_range,List.getElem?_map,List.getElem?_range hj,Option.map_some,List.size_toArray,hs]
  rw [List.getElem?_eq_getElem (by rw [hs];exact hm)]
  simp [getElem!_pos,hs,hm]
 ·rw [List.getElem?_eq_none (by omega)]
  rw [List.getElem?_eq_none (by simp only [Ab5 hs,List.length_replicate];omega)]
def zeroCel:Cel:=⟨0,[],0,⟨0,0,0⟩⟩
theorem infoC3:(Tryz.prog.info? 304).map (fun i=>(i.zero,i.size,decide (i.bytes<=100)))=some (some (.agg (cellC zeroCel).toArray),10,true):=by kernel_rfl
theorem make_cells (n:Nat) (hn:n<=512) (w:World):(Instr.makeSlice 299 (.int .i64 (n:Int)) (.int .i64 (n:Int))).run Tryz.prog w=.ok (.slice (some ⟨w.heap.size,0,none⟩) n n) (w.alloc (.cells (fl cellC (List.replicate n zeroCel)).toArray 304)):=by
 have h:=infoC3
 cases hq:Tryz.prog.info? 304 with
 |none=>simp [hq] at h
 |some i =>
  simp only [hq,Option.map_some,Option.some.injEq,Prod.mk.injEq,decide_eq_true_eq] at h
  obtain ⟨hz,hs,hb⟩:=h
  have hm:i.bytes*n<=100*512:=Nat.mul_le_mul hb hn
  have:=Ax5 299 304 i _ Tryz.underlying299 hq hz .i64 .i64 n n (J5 _) (by omega) (by omega) w
  rw [this,hs]
  have e:(Value.agg (cellC zeroCel).toArray).cells=(cellC zeroCel).toArray:=rfl
  rw [e,Cg7 cellC 10 cellC_length (by omega)]
theorem rep_set {α:Type} (a z:α) (n k:Nat) (h:k<n):(List.replicate k a++List.replicate (n - k) z).set k a=List.replicate (k+1) a++List.replicate (n - (k+1)) z:=by
 rw [List.set_append_right _ _ (by simp),List.length_replicate,Nat.sub_self,show n - k=(n - (k+1))+1 by omega,List.replicate_succ (n:=n - (k+1)),J2,List.replicate_succ' (n:=k),List.append_assoc]
 rfl
def Made (w:World) (l:List Cel) (e:Ending) (w':World):Prop:=∃ g,e=.returned (.slice (some ⟨g,0,none⟩) l.length l.length)/\Block w' g 304 (fl cellC l).toArray/\Below w.heap.size w w'/\w.heap.size<=g
structure Clrd (w wr:World) (bx g:Nat) (a:At) (l:List Cel):Prop where
 box:Block wr bx 56 (attV a).toArray
 row:Block wr g 304 (fl cellC l).toArray
 below:Below w.heap.size w wr
theorem cleared_any (n:Nat) (hn:n<=512) (a:At) (w:World) :
  Calls Tryz.prog 352 #[.int .i64 n,.agg #[.int .u32 a.f,.int .u32 a.b,.int .u16 a.g]] w (Made w (List.replicate n (clr a))):=by
 have hmk:=make_cells n hn
 have hb0:=Block.made w 56 (attV a).toArray
 have hc0:Clrd w ((w.alloc (.cells (attV a).toArray 56)).alloc (.cells (fl cellC (List.replicate n zeroCel)).toArray 304)) w.heap.size (w.heap.size+1) a (List.replicate n zeroCel):=by
  refine ⟨hb0.alloc _,?_,((Below.refl _ _).alloc (J5 _) _).alloc (by simp) _⟩
  have:=Block.made (w.alloc (.cells (attV a).toArray 56)) 304 (fl cellC (List.replicate n zeroCel)).toArray
  simpa using this
 unfold attV at hc0
 clear hb0
 obtain ⟨af,ab,ag⟩:=a
 simp only at hc0
 replace hmk:=J0 hmk
 replace hc0:=J0 hc0
 go_enter Tryz.func352,Tryz.ntmps352
 have hm2:=hmk.out
 go_wp2
 clear hm2
 obtain ⟨g,hg⟩:∃ g,g=w.heap.size+1:=⟨_,rfl⟩
 obtain ⟨bx,hbx⟩:∃ bx,bx=w.heap.size:=⟨_,rfl⟩
 have hge:w.heap.size<=g:=by omega
 have hne:bx≠g:=by omega
 have hc1:=hc0.out
 rw [<- hg] at hc1 |-
 rw [<- hbx] at hge |-
 have hc2:Clrd w ((w.alloc (.cells #[.int .u32 af,.int .u32 ab,.int .u16 ag] 56)).alloc (.cells (fl cellC (List.replicate n zeroCel)).toArray 304)) bx g ⟨af,ab,ag⟩ (List.replicate n zeroCel):=by rw [hbx];exact hc1
 clear hc1 hc0 hmk
 rw [hbx] at hge
 replace hg:=J0 hg
 replace hbx:=J0 hbx
 replace hc2:=J0 hc2
 generalize (w.alloc (.cells #[.int .u32 af,.int .u32 ab,.int .u16 ag] 56)).alloc (.cells (fl cellC (List.replicate n zeroCel)).toArray 304)=w0 at hc2 |-
 go_loopw [11] (fun i wr=>∃ k:Nat,k<=n/\i=.int .i64 k/\Hid (Clrd w wr bx g ⟨af,ab,ag⟩ (List.replicate k (clr ⟨af,ab,ag⟩)++List.replicate (n - k) zeroCel))) (fun i _=>n - (intOf i).toNat)
 case atStart=>exact ⟨0,Nat.zero_le _,rfl,J0 (by simpa using hc2.out)⟩
 case round =>
  obtain ⟨k,hk,rfl,hR⟩:=hrel
  have hR:=hR.out
  by_cases hlt:k<n
  ·have hbg:wr.cell? ⟨bx,1,none⟩=some (.int .u32 ab):=hR.box.cell 1 rfl
   have hbl:=J0 (fun w=>Bo6 ⟨0,ab,0⟩ w)
   have hC:cellC ⟨32,[],0,⟨0,ab,0⟩⟩=cellC (clr ⟨af,ab,ag⟩):=rfl
   have hset:=rep_set (clr ⟨af,ab,ag⟩) zeroCel n k hlt
   have hfs:=Aj1 cellC_length (List.replicate k (clr ⟨af,ab,ag⟩)++List.replicate (n - k) zeroCel) [clr ⟨af,ab,ag⟩] [] k (by simp;omega)
   rw [An2 _ _ _ (by simp;omega),hset,fl_one,List.append_nil,List.append_nil,<- hC] at hfs
   have hlen:(fl cellC (List.replicate k (clr ⟨af,ab,ag⟩)++List.replicate (n - k) zeroCel)).length=n*10:=by rw [Ab5 cellC_length];simp;omega
   have hkk:k*10+10<=n*10:=by omega
   have hnew:∀ w5 w6,Below wr.heap.size wr w5->Block w6 g 304 (splice (fl cellC (List.replicate k (clr ⟨af,ab,ag⟩)++List.replicate (n - k) zeroCel)) (k*10) (cellC ⟨32,[],0,⟨0,ab,0⟩⟩)).toArray->Only [g] w5 w6->Clrd w w6 bx g ⟨af,ab,ag⟩ (List.replicate (k+1) (clr ⟨af,ab,ag⟩)++List.replicate (n - (k+1)) zeroCel):=by
    intro w5 w6 hb5 hb6 ho6
    rw [hfs] at hb6
    exact ⟨(hR.box.only (Only.of_below hb5 []) (by simp)).only ho6 (by simpa using hne),hb6,(Aa0 hR.below hb5).trans (ho6.below (by have:=hR.below.size;have:=hb5.size;omega) (by simpa using hge))⟩
   have hrow:∀ w5,Below wr.heap.size wr w5->Block w5 g 304 (fl cellC (List.replicate k (clr ⟨af,ab,ag⟩)++List.replicate (n - k) zeroCel)).toArray:=fun w5 hb5=>hR.row.only (Only.of_below hb5 []) (by simp)
   have hinf:=By6 ⟨32,[],0,⟨0,ab,0⟩⟩
   have hone:=Ak5 ⟨32,[],0,⟨0,ab,0⟩⟩
   have hCl:=cellC_length ⟨32,[],0,⟨0,ab,0⟩⟩
   simp only at hbl
   generalize cellC ⟨32,[],0,⟨0,ab,0⟩⟩=C at hbl hnew hinf hone hCl hC hfs
   generalize fl cellC (List.replicate k (clr ⟨af,ab,ag⟩)++List.replicate (n - k) zeroCel)=X at hnew hrow hlen hfs
   clear hfs hC hset hR
   replace hnew:=J0 hnew
   replace hrow:=J0 hrow
   replace hinf:=J0 hinf
   replace hone:=J0 hone
   replace hCl:=J0 hCl
   replace hlen:=J0 hlen
   go_wp2_with (first
    |((go_at_call 400;refine (hbl.out _).mono ?_;rintro e w5 ⟨rfl,hb5⟩))
    |(with_reducible show wpList _ _ _ (⟨none,.store _ (.tmp 20) _,_,_,_,_⟩::_) _ _;go_must (refine Ag1 rfl 304 (.tmp 20) (.tmp 19) rfl (g:=g) (i:=k*10) (hrow.out _ hb5) C rfl rfl (by rw [hlen.out,hCl.out];exact hkk) (hinf.out) (hone.out) ?_);intro w6 hr6 ho6))
   replace hr6:=J0 (hnew.out _ _ hb5 hr6.out ho6)
   clear ho6 hb5
   go_roundw
   case rel=>exact ⟨k+1,by omega,by go_num,hr6⟩
   case measure=>simp [intOf];omega
  ·obtain rfl:k=n:=by omega
   have hr:Hid (Block wr g 304 (fl cellC (List.replicate k (clr ⟨af,ab,ag⟩))).toArray):=J0 (by simpa using hR.row)
   have hb:=J0 hR.below
   clear hR
   go_wp2
   go_ret
   exact ⟨g,by simp,hr.out,hb.out,hge⟩
theorem Bk9 (n:Nat) (hn:n<=512) (a:At) (w:World) :
  Calls Tryz.prog 352 #[.int .i64 n,.agg #[.int .u32 a.f,.int .u32 a.b,.int .u16 a.g]] w fun e w'=>∃ g,e=.returned (.slice (some ⟨g,0,none⟩) n n)/\Block w' g 304 (fl cellC (List.replicate n (clr a))).toArray/\Below w.heap.size w w'/\w.heap.size<=g :=
 (cleared_any n hn a w).mono fun _ _ ⟨g,he,h⟩=>⟨g,by rw [he,List.length_replicate],h⟩
theorem Bo7 {w:World} {g:Nat} {l:List Cel} (h:Block w g 304 (fl cellC l).toArray):∃ ad,(some (⟨g,0,none⟩:Addr))=some ad/\∀ j v,(fl cellC l)[j]?=some v->w.cell? (ad.add j)=some v :=
 ⟨_,rfl,fun j v hj=>by rw [Addr.add_lit,Nat.zero_add];exact h.cell j (by simpa using hj)⟩
theorem Bj1 {w:World} {d g n cap:Nat} {tail:List Value} {l:List Cel} (h:RowX w d g n cap tail l) (col k:Nat) (a:At) (hk:col+k<=n) (g2:Nat) (hb:Block w g2 304 (fl cellC (List.replicate k (clr a))).toArray) :
  Calls Tryz.prog 359 #[.pointer (some ⟨d,0,none⟩),.int .i64 col,.slice (some ⟨g2,0,none⟩) k k] w (Bn9 w d g n cap tail (Ac7 (splice l col (List.replicate k (clr a))) (col - 1) (min (col+k+1) n))):=by
 have:=Cj8 h col (List.replicate k (clr a)) (by simpa using hk) (some ⟨g2,0,none⟩) k (fun _=>Bo7 hb)
 rw [List.length_replicate] at this
 exact this
theorem Bj0 {w:World} {d g n cap:Nat} {tail:List Value} {l:List Cel} (h:RowX w d g n cap tail l) (hwh:Aj4 l) (col k:Nat) (a:At) (hk:col+k<=n) (g2:Nat) (hb:Block w g2 304 (fl cellC (List.replicate k (clr a))).toArray) :
  Calls Tryz.prog 359 #[.pointer (some ⟨d,0,none⟩),.int .i64 col,.slice (some ⟨g2,0,none⟩) k k] w (Bn9 w d g n cap tail (setL l col (List.replicate k (clr a)))):=by
 have:=Bg2 h hwh col (List.replicate k (clr a)) (by simpa using hk) (some ⟨g2,0,none⟩) k (fun _=>Bo7 hb)
 rw [List.length_replicate] at this
 exact this
theorem Af2 {P:Program} {f:FuncId} {args:Array Value} {w:World} {n:Nat} {v:Value}
  (h:Calls P f args (w.drewN n) fun e w'=>e=.returned v/\w.drewN n=w'):Calls P f args (w.drewN n) fun e w''=>e=.returned v/\∃ m,w''=w.drewN m :=
 h.mono fun _ _ ⟨he,hm⟩=>⟨he,n,hm.symm⟩
