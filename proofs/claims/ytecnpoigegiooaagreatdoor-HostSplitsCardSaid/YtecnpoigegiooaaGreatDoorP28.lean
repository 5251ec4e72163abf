/- Part 28 of HostSplits. -/
import Derived.Test.YtecnpoigegiooaaGreatDoorP27
set_option maxHeartbeats 16000000
set_option maxRecDepth 100000
namespace Go.Proofs.YtecnpoigegiooaaGreatDoor.Emu
open Go RowKit Com Rw Lns Scn
def Ab1 (S:Scr) (i:Nat):List Cel:=((S.L[i]?).map (·.2)).getD []
section
variable {Z Z1:Zn}{w w':World}{x s i d:Nat}{S:Scr}{t:Nat}{T:Ter}{P:Pt}
theorem Am2 (h:Ae1 Z1 w x s S i d):SC Z1 w x s S:=by
 obtain⟨sv,lv,L,R,h1,h2,h3,_⟩:=h
 exact⟨sv,lv,L,R,h1,h2,h3⟩
theorem Ag4 (h:SC Z1 w x s S) (hi:i<S.L.length):∃d,Ae1 Z1 w x s S i d:=by
 obtain⟨sv,lv,L,R,h1,h2,h3⟩:=h
 have hl:i<L.length:=by rw[<- Ay7,h2];exact hi
 exact⟨L[i].d,sv,lv,L,R,h1,h2,h3,L[i],List.getElem?_eq_getElem hl,rfl⟩
theorem rowAt_fr {B:Zn} {ts:List TypeId} (h:Ae1 Z1 w x s S i d) (hf:Scn.Fr B ts w w') (hn:NoPT ts):Ae1 Z1 w' x s S i d:=by
 obtain⟨sv,lv,L,R,h1,h2⟩:=h
 exact⟨sv,lv,L,R,h1.fr hf hn,h2⟩
theorem Aa7 (h:Ae1 Z1 w x s S i d) (hb:Below w.heap.size w w'):Ae1 Z1 w' x s S i d:=rowAt_fr (B:=fun _=>True) (ts:=[]) h (Scn.Fr.of_below hb) (by simp[NoPT])
theorem rowAt_uniq {d':Nat} (h:Ae1 Z1 w x s S i d) (h':Ae1 Z1 w x s S i d'):d=d':=by
 obtain⟨sv,lv,L,R,h1,h2,h3,e,he,rfl⟩:=h
 obtain⟨sv',lv',L',R',g1,g2,g3,e',he',rfl⟩:=h'
 have hl:=(List.getElem?_eq_some_iff.1 he).1
 have hl':=(List.getElem?_eq_some_iff.1 he').1
 obtain⟨g,c,rfl,_,q,_⟩:=h1.elem rfl hl
 obtain⟨g',c',rfl,_,q',_⟩:=g1.elem rfl hl'
 have a:=h1.ln.cells.2.2.2.1
 have b:=g1.ln.cells.2.2.2.1
 rw[a] at b
 simp only[Option.some.injEq,Value.slice.injEq,Addr.mk.injEq] at b
 obtain⟨⟨rfl,_⟩,_⟩:=b
 rw[q] at q'
 simp only[Option.some.injEq,Value.pointer.injEq,Addr.mk.injEq] at q'
 have e1:=(List.getElem?_eq_some_iff.1 he).2
 have e2:=(List.getElem?_eq_some_iff.1 he').2
 rw[e1,e2] at q'
 exact q'.1
theorem Cu9 (h:Ae1 Z1 w x s S i d) (hl:1<=S.L.length) (hi:i<S.L.length):Calls Tryz.prog 71 #[.pointer (some ⟨x,0,none⟩),.int .i64 i] w fun e w'=>e=.returned (.pointer (some ⟨d,0,none⟩))/\w=w' :=
 (Cm5 (Am2 h) hl i hi).mono fun e w' ⟨⟨d',he,hr⟩,hw⟩=>by
  obtain rfl:=rowAt_uniq h hr
  exact⟨he,hw⟩
theorem list_split {α:Type} {L:List α} {i:Nat} {e:α} (h:L[i]?=some e):L=L.take i++e::L.drop (i+1):=by
 have hl:=(List.getElem?_eq_some_iff.1 h).1
 have he:=(List.getElem?_eq_some_iff.1 h).2
 rw[<- he,<- List.drop_eq_getElem_cons hl,List.take_append_drop]
theorem modify_split {α:Type} {A C:List α} {e:α} (f:α->α):(A++e::C).modify A.length f=A++f e::C:=by
 induction A with
 |nil=>rfl
 |cons a A ih=>simp[List.modify_succ_cons,ih]
theorem Af6 (h:Ae1 Z1 w x s S i d):∃g n cap tail,RowX w d g n cap tail (Ab1 S i)/\Rw.Good (Ab1 S i) /\
  ∀l' w',Rw.Good l'->RowX w' d g n cap tail l'->Only [g] w w'->Ae1 Z1 w' x s (Ae0 S i l') i d/\Scn.Fr Z1 PT w w':=by
 obtain⟨sv,lv,L,R,h1,h2,h3,e,he,rfl⟩:=h
 have hs:=list_split he
 have hil:=(List.getElem?_eq_some_iff.1 he).1
 have hlt:(L.take i).length=i:=by rw[List.length_take];omega
 have hline:Ab1 S i=e.l:=by
  unfold Ab1
  rw[<- h2]
  simp[vw,he]
 obtain⟨id,ed,eg,edr,el⟩:=e
 generalize L.take i=A at hs hlt
 generalize L.drop (i+1)=C at hs
 subst hs
 have hr:=h1.rows ⟨id,ed,eg,edr,el⟩ (by simp)
 have htg:=hr.typ.2
 have hzg:=(h1.zr ⟨id,ed,eg,edr,el⟩ (by simp)).2
 obtain⟨g1,g2,g3,n,cap,tail,hx⟩:=hr
 rw[hline]
 refine⟨eg,n,cap,tail,hx,g1,fun l' w' hg hx' ho=>?_⟩
 obtain⟨m,hf⟩:=h1.row (e':=⟨id,ed,eg,edr,l'⟩) htg (by decide) (by decide) (by decide) hzg (by simp[PT]) ho h1.apartG ⟨hg,Nat.zero_le _,Nat.zero_le _,_,_,_,hx'⟩ rfl (.inl rfl)
 refine⟨⟨sv,lv,A++⟨id,ed,eg,edr,l'⟩::C,R,?_,?_,h3,⟨id,ed,eg,edr,l'⟩,?_,rfl⟩,hf⟩
 ·have e1:fl Ac3 (A++⟨id,ed,eg,edr,l'⟩::C)=fl Ac3 (A++⟨id,ed,eg,edr,el⟩::C):=fl_same (e:=⟨id,ed,eg,edr,el⟩) (e':=⟨id,ed,eg,edr,l'⟩) rfl rfl
  have e2:(A++(⟨id,ed,eg,edr,l'⟩:En)::C).length=(A++(⟨id,ed,eg,edr,el⟩:En)::C).length:=by simp
  rw[e1,e2]
  exact m
 ·show vw _=(S.L).modify i _
  rw[<- h2,<- hlt]
  have:(vw (A++⟨id,ed,eg,edr,el⟩::C))=vw A++(id,el)::vw C:=by simp[vw]
  rw[this,<- Ay7 A,modify_split]
  simp[vw]
 ·rw[<- hlt,List.getElem?_append_right (J5 _),Nat.sub_self]
  rfl
theorem rowAt_good (h:Ae1 Z1 w x s S i d):Rw.Good (Ab1 S i):=by
 obtain⟨g,n,cap,tail,_,hg,_⟩:=Af6 h
 exact hg
theorem Bg9 (S:Scr) (i:Nat) (l:List Cel):(Ae0 S i l).L.length=S.L.length:=by simp[Ae0]
def Cf5 (Z1:Zn) (w:World) (x s:Nat) (S:Scr) (i d:Nat) (v:Value) (e:Ending) (w':World):Prop:=e=.returned v/\Ae1 Z1 w' x s S i d/\Scn.Fr Z1 PT w w'
theorem Be6 (h:Ae1 Z1 w x s S i d) (lo hi:Int) (a:At) :
  Calls Tryz.prog 148 #[.pointer (some ⟨d,0,none⟩),.int .i64 lo,.int .i64 hi,.agg #[.int .u32 a.f,.int .u32 a.b,.int .u16 a.g]] w (Cf5 Z1 w x s (Ae0 S i (eraL (Ab1 S i) lo hi a)) i d (.int .i64 0)):=by
 obtain⟨g,n,cap,tail,hx,hg,hb⟩:=Af6 h
 refine(Bs0 hx hg.whole lo hi a).mono fun e w' ⟨he,hx',ho⟩=>?_
 have hl:Av7 (Ab1 S i) (Ab0 lo n) (Ab0 hi n) a=eraL (Ab1 S i) lo hi a:=by unfold eraL;rw[hx.len]
 rw[hl] at hx'
 obtain⟨h1,h2⟩:=hb _ _ (hg.era lo hi a) hx' ho
 exact⟨he,h1,h2⟩
theorem Bj8 (h:Ae1 Z1 w x s S i d) (col k:Int) (a:At) :
  Calls Tryz.prog 169 #[.pointer (some ⟨d,0,none⟩),.int .i64 col,.int .i64 k,.agg #[.int .u32 a.f,.int .u32 a.b,.int .u16 a.g]] w (Cf5 Z1 w x s (Ae0 S i (inL (Ab1 S i) col k a)) i d (.int .i64 0)):=by
 obtain⟨g,n,cap,tail,hx,hg,hb⟩:=Af6 h
 refine(insert_any hx hg.whole col k a).mono fun e w' ⟨he,hx',ho⟩=>?_
 have hl:insL (Ab1 S i) (Ab0 col n) (Ab0 k (n - Ab0 col n)) a=inL (Ab1 S i) col k a:=by unfold inL;rw[hx.len]
 rw[hl] at hx'
 obtain⟨h1,h2⟩:=hb _ _ (hg.ins col k a) hx' ho
 exact⟨he,h1,h2⟩
theorem delete_row (h:Ae1 Z1 w x s S i d) (col k:Int) (a:At) :
  Calls Tryz.prog 244 #[.pointer (some ⟨d,0,none⟩),.int .i64 col,.int .i64 k,.agg #[.int .u32 a.f,.int .u32 a.b,.int .u16 a.g]] w (Cf5 Z1 w x s (Ae0 S i (deL (Ab1 S i) col k a)) i d (.int .i64 0)):=by
 obtain⟨g,n,cap,tail,hx,hg,hb⟩:=Af6 h
 refine(delete_any hx hg.whole col k a).mono fun e w' ⟨he,hx',ho⟩=>?_
 have hl:delL (Ab1 S i) (Ab0 col n) (Ab0 k (n - Ab0 col n)) a=deL (Ab1 S i) col k a:=by unfold deL;rw[hx.len]
 rw[hl] at hx'
 obtain⟨h1,h2⟩:=hb _ _ (hg.del col k a) hx' ho
 exact⟨he,h1,h2⟩
theorem Cb8 (h:Ae1 Z1 w x s S i d) (col r:Int) (hc:-9223372036854775808<=col/\col<=9223372036854775807) (wide:Bool) (a:At) :
  Calls Tryz.prog 170 #[.pointer (some ⟨d,0,none⟩),.int .i64 col,.int .i32 r,.bool wide,.agg #[.int .u32 a.f,.int .u32 a.b,.int .u16 a.g]] w (Cf5 Z1 w x s (Ae0 S i (putL (Ab1 S i) col r wide a)) i d (.int .i64 (putV (Ab1 S i) col r wide a))):=by
 obtain⟨g,n,cap,tail,hx,hg,hb⟩:=Af6 h
 generalize Ab1 S i=l at hx hg hb |-
 have hgd:=hg.put col r wide a
 by_cases hok:Ce5 l col r wide a
 ·have hok':=hok
  obtain⟨k1,k2,k3⟩:=hok'
  obtain⟨c,rfl⟩:∃c:Nat,col=c:=⟨col.toNat,by omega⟩
  refine(put_yes hx hg.whole c r wide a k1 (by have:=hx.len;omega)).mono ?_
  rintro y w' ⟨rfl,hx',ho⟩
  have hl:putL l c r wide a=setL l c (cellsPut r wide a):=by unfold putL;rw[if_pos hok];rfl
  have hv:putV l c r wide a=0:=by unfold putV;rw[if_pos hok]
  rw[hv]
  rw[hl] at hgd |-
  obtain⟨h1,h2⟩:=hb _ _ hgd hx' ho
  exact⟨rfl,h1,h2⟩
 ·have hl:putL l col r wide a=l:=by unfold putL;rw[if_neg hok]
  have hv:putV l col r wide a=2:=by unfold putV;rw[if_neg hok]
  rw[hl] at hgd
  rw[hl,hv]
  have hno:An2 r=false\/col<0\/(n:Int)<=col\/(wide=true/\(n:Int)<=col+1):=by
   have hlen:=hx.len
   unfold Ce5 at hok
   rcases hrb:An2 r with _|_
   ·exact .inl rfl
   ·right
    have:¬(0<=col/\col+((cellsPut r wide a).length:Int)<=(l.length:Int)):=fun hh=>hok ⟨hrb,hh.1,hh.2⟩
    cases wide
    ·have h1:(cellsPut r false a).length=1:=rfl
     rw[h1] at this
     by_cases c0:col<0
     ·exact .inl c0
     ·exact .inr (.inl (by omega))
    ·have h1:(cellsPut r true a).length=2:=rfl
     rw[h1] at this
     by_cases c0:col<0
     ·exact .inl c0
     ·exact .inr (.inr ⟨rfl,by omega⟩)
  refine(Cl8 hx col r hc wide a hno).mono ?_
  rintro y w' ⟨rfl,hx',ho⟩
  obtain⟨h1,h2⟩:=hb _ _ hgd hx' ho
  exact⟨rfl,h1,h2⟩
theorem Bt2 (h:Ae1 Z1 w x s S i d) (col r:Int) :
  Calls Tryz.prog 162 #[.pointer (some ⟨d,0,none⟩),.int .i64 col,.int .i32 r] w (Cf5 Z1 w x s (Ae0 S i (joiL (Ab1 S i) col r)) i d (.int .i64 (joiV (Ab1 S i) col r))):=by
 obtain⟨g,n,cap,tail,hx,hg,hb⟩:=Af6 h
 generalize Ab1 S i=l at hx hg hb |-
 have hgd:=hg.joi col r
 by_cases hok:Ce1 l col r
 ·have hok':=hok
  obtain⟨k1,k2,k3⟩:=hok'
  obtain⟨c,rfl⟩:∃c:Nat,col=c:=⟨col.toNat,by omega⟩
  refine(join_yes hx hg.whole (fun c hc=>(hg.cell c hc).four) c r k1 (by have:=hx.len;omega)).mono ?_
  rintro y w' ⟨rfl,hx',ho⟩
  have hl:joiL l c r=Bo4 l c r:=by unfold joiL;rw[if_pos hok];rfl
  have hv:joiV l c r=Ce2 l c:=by unfold joiV;rw[if_pos hok];rfl
  rw[hv]
  rw[hl] at hgd |-
  obtain⟨h1,h2⟩:=hb _ _ hgd hx' ho
  exact⟨rfl,h1,h2⟩
 ·have hl:joiL l col r=l:=by unfold joiL;rw[if_neg hok]
  have hv:joiV l col r=2:=by unfold joiV;rw[if_neg hok]
  rw[hl] at hgd
  rw[hl,hv]
  have hno:An2 r=false\/col<0\/(n:Int)<=col:=by
   have hlen:=hx.len
   unfold Ce1 at hok
   rcases hrb:An2 r with _|_
   ·exact .inl rfl
   ·right
    by_cases c0:col<0
    ·exact .inl c0
    ·exact .inr (by
      have:¬(0<=col/\col<(l.length:Int)):=fun hh=>hok ⟨hrb,hh.1,hh.2⟩
      omega)
  refine(join_no hx col r hno).mono ?_
  rintro y w' ⟨rfl,rfl⟩
  obtain⟨h1,h2⟩:=hb _ _ hgd hx (Only.refl _ _)
  exact⟨rfl,h1,h2⟩
theorem Be1 (h:Ae1 Z1 w x s S i d) (k:Int):Calls Tryz.prog 168 #[.pointer (some ⟨d,0,none⟩),.int .i64 k] w fun e w'=>e=.returned (.bool (Ao9 (Ab1 S i) k))/\Below w.heap.size w w':=by
 obtain⟨g,n,cap,tail,hx,hg,hb⟩:=Af6 h
 exact blank'_any hx k
theorem Bb1 (h:Ae1 Z1 w x s S i d) (k:Nat) (hk:k<(Ab1 S i).length):Calls Tryz.prog 161 #[.pointer (some ⟨d,0,none⟩),.int .i64 k] w (Cf0 w (Ab1 S i)[k]):=by
 obtain⟨g,n,cap,tail,hx,hg,hb⟩:=Af6 h
 exact cell_yes hx (fun c hc=>(hg.cell c hc).four) k (by have:=hx.len;omega) hk
theorem Be2 (h:Ae1 Z1 w x s S i d) (k:Int) (hk:¬(0<=k/\k<((Ab1 S i).length:Int))):Calls Tryz.prog 161 #[.pointer (some ⟨d,0,none⟩),.int .i64 k] w (Cp2 w 6):=by
 obtain⟨g,n,cap,tail,hx,hg,hb⟩:=Af6 h
 exact cell_no hx k (by have:=hx.len;omega)
def Lat (Z1:Zn) (w:World) (T:Ter) (P:Pt) (d:Nat):Prop:=Ae1 Z1 w (P.x T.other) P.s T.vis T.c.row d
theorem line_is (T:Ter):line T=Ab1 T.vis T.c.row:=rfl
theorem Af3 (h:TMx Z w t T P) (ok:Ok T) (hd:Lat Z1 w T P d):Calls Tryz.prog 160 #[.pointer (some ⟨t,0,none⟩)] w (Asks (.pointer (some ⟨d,0,none⟩)) w):=by
 have c8:=h.c8
 have hs:=h.s0
 have hsh:=J0 (fun m=>Aa8 (h.drew m))
 have hrw:=J0 (fun m=>Cu9 (Aa7 hd (Aa4 (Below.refl _ _) m)) ok.fit.len ok.row)
 generalize P.h T.other=hh at hs hsh
 generalize P.x T.other=xx at hs hrw
 generalize T.c.row=row at c8 hrw
 clear h ok hd
 go_enter Tryz.func160,Tryz.ntmps160
 go_wp2
 go_quiet (first
  |(go_at_call 68;exact Cc0 (hsh.out _))
  |(go_at_call 71;exact Cc0 (hrw.out _)))
 go_wp2
 go_ret
 exact⟨rfl,_,rfl⟩
end
end Go.Proofs.YtecnpoigegiooaaGreatDoor.Emu
namespace Go.Proofs.YtecnpoigegiooaaGreatDoor.Emu
open Go Rw Scn
section
variable {T:Ter}
theorem Bf8 (i:Int) {n:Nat} (h:1<=n):Ba1 i n<n:=by unfold Ba1;omega
theorem Ok.place (h:Ok T) (r c:Int):Ok (place T r c) :=
 ⟨h.fit,h.fitm,h.rows,h.cols,Bf8 _ h.fit.len,Bf8 _ h.fit.c1,h.sv,h.svm,h.tn,h.alt⟩
theorem Ok.tell (h:Ok T) (e:Ev):Ok (tell T e):=⟨h.fit,h.fitm,h.rows,h.cols,h.row,h.col,h.sv,h.svm,h.tn,h.alt⟩
theorem Ok.tellOther (h:Ok T):Ok (tellOther T):=h.tell _
theorem Ok.move (h:Ok T) (r c:Int):Ok (move T r c):=(h.place r c).tellOther
theorem Ok.tellFeed (h:Ok T) (b:Bool):Ok (tellFeed T b):=h.tell _
end
end Go.Proofs.YtecnpoigegiooaaGreatDoor.Emu
namespace Go.Proofs.YtecnpoigegiooaaGreatDoor.Emu
open Go RowKit Com Rw Lns Scn
section
variable {Z Z1:Zn}{w w':World}{t:Nat}{T:Ter}{P:Pt}{v:Value}{l:List Int}
theorem Ad0 (h:TM Z w t T) (ok:Ok T) (hj:T.jr.length<=90000000):Calls Tryz.prog 175 #[.pointer (some ⟨t,0,none⟩)] w (Does Z w t (tellOther T)):=by
 obtain⟨P,h⟩:=h
 have hh:=J0 (Al8 h ok 4)
 have ht:=J0 (fun w1 (hb:Below w.heap.size w w1)=>Ay5 (h.below hb) hj (here T 4))
 unfold tellOther
 generalize here T 4=e at hh ht |-
 clear h ok
 go_enter Tryz.func175,Tryz.ntmps175
 go_wp2_with (first
  |(go_at_call 163;(with_reducible refine hh.out.mono ?_);rintro e w1 ⟨rfl,hb⟩)
  |(go_at_call 222;(with_reducible refine(ht.out _ hb).mono ?_);rintro e w2 ⟨⟨v2,rfl⟩,⟨jv,hres⟩,hf⟩))
 go_end0
 exact⟨⟨_,rfl⟩,⟨_,hres⟩,(Scn.Fr.of_below hb).trans hf⟩
theorem Ap1 (h:TM Z w t T) (ok:Ok T) (hj:T.jr.length<=90000000):Calls Tryz.prog 174 #[.pointer (some ⟨t,0,none⟩)] w (Does Z w t (tellStraight T)):=by
 obtain⟨P,h⟩:=h
 have hh:=J0 (Al8 h ok 3)
 have ht:=J0 (fun w1 (hb:Below w.heap.size w w1)=>Ay5 (h.below hb) hj (here T 3))
 unfold tellStraight
 generalize here T 3=e at hh ht |-
 clear h ok
 go_enter Tryz.func174,Tryz.ntmps174
 go_wp2_with (first
  |(go_at_call 163;(with_reducible refine hh.out.mono ?_);rintro e w1 ⟨rfl,hb⟩)
  |(go_at_call 222;(with_reducible refine(ht.out _ hb).mono ?_);rintro e w2 ⟨⟨v2,rfl⟩,⟨jv,hres⟩,hf⟩))
 go_end0
 exact⟨⟨_,rfl⟩,⟨_,hres⟩,(Scn.Fr.of_below hb).trans hf⟩
theorem tellReset_any (h:TM Z w t T) (ok:Ok T) (hj:T.jr.length<=90000000):Calls Tryz.prog 178 #[.pointer (some ⟨t,0,none⟩)] w (Does Z w t (tellReset T)):=by
 obtain⟨P,h⟩:=h
 have hh:=J0 (Al8 h ok 5)
 have ht:=J0 (fun w1 (hb:Below w.heap.size w w1)=>Ay5 (h.below hb) hj (here T 5))
 unfold tellReset
 generalize here T 5=e at hh ht |-
 clear h ok
 go_enter Tryz.func178,Tryz.ntmps178
 go_wp2_with (first
  |(go_at_call 163;(with_reducible refine hh.out.mono ?_);rintro e w1 ⟨rfl,hb⟩)
  |(go_at_call 222;(with_reducible refine(ht.out _ hb).mono ?_);rintro e w2 ⟨⟨v2,rfl⟩,⟨jv,hres⟩,hf⟩))
 go_end0
 exact⟨⟨_,rfl⟩,⟨_,hres⟩,(Scn.Fr.of_below hb).trans hf⟩
theorem move_fit (h:TM Z w t T) (fit:Fit T.vis) (hj:T.jr.length<=90000000) (r c:Int) (ok:Ok (place T r c)):Calls Tryz.prog 172 #[.pointer (some ⟨t,0,none⟩),.int .i64 r,.int .i64 c] w (Does Z w t (move T r c)):=by
 obtain⟨P,h⟩:=h
 have hp:=J0 (Bu5 h fit r c)
 have ht:=J0 (fun w1 (h1:TM Z w1 t (place T r c))=>Ad0 h1 ok hj)
 unfold move
 generalize place T r c=T1 at hp ht |-
 clear h ok fit
 go_enter Tryz.func172,Tryz.ntmps172
 go_wp2_with (first
  |(go_at_call 171;(with_reducible refine hp.out.mono ?_);rintro e w1 ⟨⟨v1,rfl⟩,h1,hf1⟩)
  |(go_at_call 175;(with_reducible refine(ht.out _ h1.tm).mono ?_);rintro e w2 ⟨⟨v2,rfl⟩,hres,hf⟩))
 go_end0
 exact⟨⟨_,rfl⟩,hres,hf1.trans hf⟩
theorem Ac9 (h:TM Z w t T) (ok:Ok T) (hj:T.jr.length<=90000000) (r c:Int):Calls Tryz.prog 172 #[.pointer (some ⟨t,0,none⟩),.int .i64 r,.int .i64 c] w (Does Z w t (move T r c)):=move_fit h ok.fit hj r c (ok.place r c)
theorem Bn3 {k:Eqt.Ext w} {a:Addr} {v:Value} (h:w.cell? a=some v):k.w.cell? a=some v:=by
 have hlt:=World.block_lt_of_cell? _ _ h
 exact(World.cell?_of_block (w:=w) (k.below.block _ hlt)).trans h
theorem nextTab_any (h:TM Z w t T) (ok:Ok T) (hj:T.jr.length<=90000000):Calls Tryz.prog 128 #[.pointer (some ⟨t,0,none⟩)] w (Does Z w t (nextTab T)):=by
 obtain⟨P,h⟩:=h
 have c8:=fun k:Eqt.Ext w=>Bn3 (k:=k) h.c8
 have c9:=fun k:Eqt.Ext w=>Bn3 (k:=k) h.c9
 have c20:=fun k:Eqt.Ext w=>Bn3 (k:=k) h.c20
 have hn:=J0 (fun k:Eqt.Ext w=>Tbs.next_any (h.below k.below).tabs (by have:=ok.tn;have:=ok.fit.c1;omega) (by have:=ok.tn;have:=ok.fit.c5;omega) T.c.col 1 (h.tbl.below k.below).tbs)
 have hp:=J0 (fun w1 (hb:Below w.heap.size w w1)=>Ah7 (h.below hb) ok T.c.row (Tbs.nextF T.tn T.tf T.c.col 1))
 have ht:=J0 (fun w1 (h1:TM Z w1 t (place T T.c.row (Tbs.nextF T.tn T.tf T.c.col 1)))=>Ap1 h1 (ok.place _ _) hj)
 unfold nextTab
 generalize Tbs.nextF T.tn T.tf T.c.col 1=y at hn hp ht |-
 generalize place T T.c.row y=T1 at hp ht |-
 generalize T.c.row=row at c8 hp
 generalize T.c.col=col at c9 hn
 clear h ok
 go_enter Tryz.func128,Tryz.ntmps128
 go_wp2
 refine Eqt.region_ext_tail 16 (by kernel_rfl) (by kernel_rfl) ?_
 simp only[List.take_succ_cons,List.take_zero,List.drop_succ_cons,List.drop_zero]
 repeat (go_big_quiet_step (first
  |(go_at_call 173;exact Eqt.q_ext (hn.out _))))
 refine wpQuiet_nil ?_
 intro w9 hw9
 obtain⟨k9,rfl⟩:=hw9
 have hb9:=k9.below
 generalize k9.w=w9 at hb9 |-
 go_wp2_with (first
  |(go_at_call 171;(with_reducible refine(hp.out _ hb9).mono ?_);rintro e w1 ⟨⟨v1,rfl⟩,h1,hf1⟩)
  |(go_at_call 174;(with_reducible refine(ht.out _ h1.tm).mono ?_);rintro e w2 ⟨⟨v2,rfl⟩,hres,hf⟩))
 go_end0
 exact⟨⟨_,rfl⟩,hres,((Scn.Fr.of_below hb9).trans hf1).trans hf⟩
end
end Go.Proofs.YtecnpoigegiooaaGreatDoor.Emu
namespace Go.Proofs.YtecnpoigegiooaaGreatDoor.Emu
open Go Rw Scn
section
variable {T:Ter}{S:Scr}
theorem Bx8 (hm:S.most=T.most) (hk:S.kp=T.other.isNone):(T.putVis S).vis=S:=by
 obtain⟨m,c,p,nx,most,R,main,other,tn,tf,pr,la,jr,rp⟩:=T
 obtain⟨snx,smost,skp,sc,st,sb,sL,sR⟩:=S
 simp only at hm hk
 subst hm hk
 cases other<;>rfl
theorem Bp4 (T:Ter) (S:Scr):(T.putVis S).c=T.c:=by unfold Ter.putVis;split<;>rfl
theorem Cu6 (T:Ter) (S:Scr):(T.putVis S).p=T.p:=by unfold Ter.putVis;split<;>rfl
theorem Cu5 (T:Ter) (S:Scr):(T.putVis S).m=T.m:=by unfold Ter.putVis;split<;>rfl
theorem Ag2 (T:Ter) (S:Scr):(T.putVis S).jr=T.jr:=by unfold Ter.putVis;split<;>rfl
theorem put_rp (T:Ter) (S:Scr):(T.putVis S).rp=T.rp:=by unfold Ter.putVis;split<;>rfl
theorem put_nx (T:Ter) (S:Scr):(T.putVis S).nx=S.nx:=by unfold Ter.putVis;split<;>rfl
theorem put_most (T:Ter) (S:Scr):(T.putVis S).most=T.most:=by unfold Ter.putVis;split<;>rfl
theorem Ak4 (T:Ter) (S:Scr):(T.putVis S).prints=T.prints:=by unfold Ter.putVis;split<;>rfl
theorem put_isNone (T:Ter) (S:Scr):(T.putVis S).other.isNone=T.other.isNone:=by
 unfold Ter.putVis
 split<;>simp[*]
theorem put_put (T:Ter) (S S':Scr):(T.putVis S).putVis S'=T.putVis S':=by
 obtain⟨m,c,p,nx,most,R,main,other,tn,tf,pr,la,jr,rp⟩:=T
 cases other<;>rfl
theorem Cp9 {S:Scr} (h:Fit S) {n:Nat} (hn:S.nx<=n) (R:List Ln):Fit { S with nx:=n,R:=R } :=
 ⟨h.len,h.len5,h.bot,h.top,h.c1,h.c5,h.wid,fun p hp=>⟨(h.ids p hp).1,by have:=(h.ids p hp).2;show p.1<(n:Int);omega⟩,Nat.le_trans h.pos hn⟩
theorem Ok.putVis (h:Ok T) (hm:S.most=T.most) (hk:S.kp=T.other.isNone) (hF:Fit S) (hl:S.L.length=T.vis.L.length) (hc:S.cols=T.vis.cols) (hn:T.nx<=S.nx):Ok (T.putVis S):=by
 obtain⟨h1,h2,h3,h4,h5,h6,h8,h9,h10,h11⟩:=h
 obtain⟨m,c,p,nx,most,R,main,other,tn,tf,pr,la,jr,rp⟩:=T
 obtain⟨snx,smost,skp,sc,st,sb,sL,sR⟩:=S
 simp only at hm hk hl hc hn
 subst hm hk
 cases other with
 |none =>
  simp only[Ter.vis,Ter.sh,Sh.scr,Ter.mscr] at h1 h2 h3 h4 h5 h6 h8 h9 h10 hl hc
  subst hc
  exact⟨hF,hF,rfl,rfl,by simpa[Ter.putVis,Ter.vis,Ter.sh,Sh.scr,Sh.of,hl] using h5,by simpa[Ter.putVis,Ter.vis,Ter.sh,Sh.scr,Sh.of] using h6,
   by simpa[Ter.putVis,Ter.vis,Ter.sh,Sh.scr,Sh.of,hl] using h8,by simpa[Ter.putVis,Ter.vis,Ter.sh,Sh.scr,Sh.of,hl] using h9,by simpa[Ter.putVis,Ter.vis,Ter.sh,Sh.scr,Sh.of] using h10,h11⟩
 |some o =>
  simp only[Ter.vis,Ter.sh,Sh.scr,Ter.mscr] at h1 h2 h3 h4 h5 h6 h8 h9 h10 hl hc
  subst hc
  exact⟨hF,Cp9 h2 hn sR,by simpa[Ter.putVis,Ter.vis,Ter.sh,Sh.scr,Sh.of,hl] using h3,by simpa[Ter.putVis,Ter.vis,Ter.sh,Sh.scr,Sh.of] using h4,by simpa[Ter.putVis,Ter.vis,Ter.sh,Sh.scr,Sh.of,hl] using h5,by simpa[Ter.putVis,Ter.vis,Ter.sh,Sh.scr,Sh.of] using h6,
   by simpa[Ter.putVis,Ter.vis,Ter.sh,Sh.scr,Sh.of,hl] using h8,h9,by simpa[Ter.putVis,Ter.vis,Ter.sh,Sh.scr,Sh.of] using h10,h11⟩
theorem Cn9 {S:Scr} (h:Fit S) {frm:Nat} (hf:frm<=S.bot) (n:Int) (a:At) (b:Bool):(upS S frm n a b).L.length=S.L.length:=by
 unfold upS
 have:=Al7 n (S.bot+1 - frm)
 have:=h.bot
 rw[Bm9 (by omega)]
 omega
theorem Br8 {S:Scr} (h:Fit S) {tp:Nat} (hf:tp<=S.bot) (n:Int) (a:At):(Ag0 S tp n a).L.length=S.L.length:=by
 unfold Ag0
 have:=Al7 n (S.bot+1 - tp)
 have:=h.bot
 rw[Bm9 (by omega)]
 omega
theorem Ok.up (h:Ok T) {frm:Nat} (hf:frm<=T.vis.bot) (n:Int) (a:At) (b:Bool):Ok (T.putVis (upS T.vis frm n a b)) :=
 h.putVis rfl rfl (h.fit.up hf n a b) (Cn9 h.fit hf n a b) rfl (Nat.le_add_right _ _)
theorem Ok.upT (h:Ok T) (n:Int) (a:At):Ok (T.putVis (upT T.vis n a)):=h.up h.fit.top n a _
theorem Ok.down (h:Ok T) {tp:Nat} (hf:tp<=T.vis.bot) (n:Int) (a:At):Ok (T.putVis (Ag0 T.vis tp n a)) :=
 h.putVis rfl rfl (h.fit.down hf n a) (Br8 h.fit hf n a) rfl (Nat.le_add_right _ _)
theorem Ok.setCol (h:Ok T) {n:Nat} (hn:n<T.vis.cols):Ok (setCol T n):=⟨h.fit,h.fitm,h.rows,h.cols,h.row,hn,h.sv,h.svm,h.tn,h.alt⟩
end
end Go.Proofs.YtecnpoigegiooaaGreatDoor.Emu
namespace Go.Proofs.YtecnpoigegiooaaGreatDoor.Emu
open Go RowKit Com Rw Lns Scn
section
variable {Z Z1:Zn}{w w':World}{t x s:Nat}{S:Scr}{T:Ter}{P:Pt}{v:Value}{l:List Int}
theorem Cr9 (h:SC Z1 w x s S) (hF:Fit S) (n:Int) (hnx:S.nx<=9900000000) (a:At) :
  Calls Tryz.prog 223 #[.pointer (some ⟨x,0,none⟩),.int .i64 n,.agg #[.int .u32 a.f,.int .u32 a.b,.int .u16 a.g]] w (DidV Z1 w x s (upT S n a) 0):=by
 unfold upT
 by_cases hk:S.kp=true/\S.top=0
 ·rw[hk.1,decide_eq_true hk.2]
  exact Up_keep h hF n (by omega) a hk
 ·have hb:(S.kp && decide (S.top=0))=false:=by
   rcases hq:S.kp with _|_
   ·rfl
   ·simp only[Bool.true_and,decide_eq_false_iff_not]
    exact fun h0=>hk ⟨hq,h0⟩
  rw[hb]
  refine Up_forget h hF n (by omega) a ?_
  rcases hq:S.kp with _|_
  ·exact .inl rfl
  ·exact .inr fun h0=>hk ⟨hq,h0⟩
theorem TMx.setCol (h:TMx Z w t T P) (n:Nat):TMx Z (w.setCell ⟨t,9,none⟩ (.int .i64 n)) t (setCol T n) P/\Scn.Fr Z TT w (w.setCell ⟨t,9,none⟩ (.int .i64 n)) :=
 h.turn (m:=T.m) (c:={ T.c with col:=n }) (p:=T.p) (n:=T.prints) (e:=T.last) (Only.setCell w ⟨t,9,none⟩ _) (h.blk.set 9 _)
theorem TMx.setWh (h:TMx Z w t T P) (b:Bool):TMx Z (w.setCell ⟨t,16,none⟩ (.int .i64 (whI b))) t (setWh T b) P/\Scn.Fr Z TT w (w.setCell ⟨t,16,none⟩ (.int .i64 (whI b))) :=
 h.turn (m:=T.m) (c:=T.c) (p:={ T.p with wh:=b }) (n:=T.prints) (e:=T.last) (Only.setCell w ⟨t,16,none⟩ _) (h.blk.set 16 _)
theorem feed_any (h:TM Z w t T) (ok:Ok T) (hnx:T.nx<=9900000000):Calls Tryz.prog 166 #[.pointer (some ⟨t,0,none⟩)] w (Does Z w t (feed T)):=by
 obtain⟨P,h⟩:=h
 have c8:=h.c8
 have hs:=h.s0
 have hsh:=J0 (Aa8 h)
 obtain⟨Z1,hf⟩:=h.focus
 have hm:=J0 (An1 hf.sc ok.fit.len)
 unfold feed
 by_cases hc:T.c.row=T.vis.bot
 ·rw[if_pos hc]
  have hd:decide ((T.c.row:Int)=(T.vis.bot:Int))=true:=decide_eq_true (by omega)
  have hd2:decide (T.c.row=T.vis.bot)=true:=decide_eq_true hc
  have hup:=J0 (fun w1 (hb:Below w.heap.size w w1)=>Cr9 (hf.sc.below hb) ok.fit 1 hnx T.p.a)
  have hbk:=J0 (fun w1 w2 (hb:Below w.heap.size w w1) (hs2:SC Z1 w2 (P.x T.other) P.s (upT T.vis 1 T.p.a)) (hf2:Scn.Fr Z1 PT w1 w2)=>hf.back w2 _ hs2 rfl rfl ((Scn.Fr.of_below hb).trans hf2))
  have hpl:=J0 (fun w2 (h2:TMx Z w2 t (T.putVis (upT T.vis 1 T.p.a)) P)=>Ah7 h2 (ok.upT 1 T.p.a) T.c.row T.c.col)
  have ce:=J0 (fun w1 (hb:Below w.heap.size w w1) (k:Eqt.Ext w1)=>And.intro ((h.below hb).below k.below).s0 (And.intro ((h.below hb).below k.below).c11 (And.intro ((h.below hb).below k.below).c12 ((h.below hb).below k.below).c13)))
  have c2:=J0 (fun w2 (h2:TMx Z w2 t (T.putVis (upT T.vis 1 T.p.a)) P) (k:Eqt.Ext w2)=>And.intro (Bp4 T (upT T.vis 1 T.p.a)▸(h2.below k.below).c8) (Bp4 T (upT T.vis 1 T.p.a)▸(h2.below k.below).c9))
  have kp:=J0 (fun w2 w3 (h2:TMx Z w2 t (T.putVis (upT T.vis 1 T.p.a)) P) (hb:Below w2.heap.size w2 w3)=>h2.below hb)
  generalize T.putVis (upT T.vis 1 T.p.a)=T1 at hbk hpl c2 kp |-
  generalize upT T.vis 1 T.p.a=S1 at hup hbk
  generalize P.h T.other=hh at hs hsh ce
  generalize P.x T.other=xx at hs hm hup hbk ce
  generalize T.vis.bot=bot at hm hd hd2 hc
  generalize T.vis.top=top at hm
  subst hc
  generalize T.c.row=row at c8 hd hd2 hm hpl c2 |-
  generalize T.c.col=col at hpl c2 |-
  generalize T.p.a=a at hup ce
  obtain⟨af,ab,ag⟩:=a
  simp only at hup ce
  clear h hf ok
  go_enter Tryz.func166,Tryz.ntmps166
  go_wp2_with (first
   |(go_at_call 68;(with_reducible refine(hsh.out).mono ?_);rintro e w1 ⟨rfl,rfl⟩)
   |(go_at_call 69;(with_reducible refine(hm.out).mono ?_);rintro e w1 ⟨rfl,q,rfl⟩))
  have hbq:=Aa4 (Below.refl w.heap.size w) q
  have k0:=fun k=>(ce.out _ hbq k).1
  have k1:=fun k=>(ce.out _ hbq k).2.1
  have k2:=fun k=>(ce.out _ hbq k).2.2.1
  have k3:=fun k=>(ce.out _ hbq k).2.2.2
  clear c8 hs ce hsh hm
  generalize w.drewN q=wq at hbq k0 k1 k2 k3 |-
  refine Eqt.region_ext_tail 9 (by kernel_rfl) (by kernel_rfl) ?_
  simp only[List.take_succ_cons,List.take_zero,List.drop_succ_cons,List.drop_zero]
  repeat (go_big_quiet_step (fail))
  refine wpQuiet_nil ?_
  intro w9 hw9
  obtain⟨k9,rfl⟩:=hw9
  have hb9:=k9.below
  generalize k9.w=w9 at hb9 |-
  go_wp2_with (first
   |(go_at_call 223;(with_reducible refine(hup.out _ (Aa0 hbq hb9)).mono ?_);rintro e w2 ⟨rfl,hs2,hf2⟩))
  obtain⟨h2,hf3⟩:=hbk.out _ _ (Aa0 hbq hb9) hs2 hf2
  have c8:=fun k=>(c2.out _ h2 k).1
  have c9:=fun k=>(c2.out _ h2 k).2
  have hfr:=(Scn.Fr.of_below (B:=Z) (ts:=TT) (Below.refl w.heap.size w)).trans hf3
  clear k0 k1 k2 k3 hs2 hf2 hbk hup c2 hf3 hb9 hbq
  refine Eqt.region_ext_tail 11 (by kernel_rfl) (by kernel_rfl) ?_
  simp only[List.take_succ_cons,List.take_zero,List.drop_succ_cons,List.drop_zero]
  repeat (go_big_quiet_step (fail))
  refine wpQuiet_nil ?_
  intro w9 hw9
  obtain⟨k9,rfl⟩:=hw9
  have hb9:=k9.below
  generalize k9.w=w9 at hb9 |-
  go_wp2_with (first
   |(go_at_call 171;(with_reducible refine(hpl.out _ (kp.out _ _ h2 hb9)).mono ?_);rintro e w3 ⟨⟨v3,rfl⟩,h3,hf3⟩))
  go_end0
  exact⟨⟨_,rfl⟩,h3.tm,(hfr.trans (Scn.Fr.of_below hb9)).trans hf3⟩
 ·rw[if_neg hc]
  have hd:decide ((T.c.row:Int)=(T.vis.bot:Int))=false:=decide_eq_false (by omega)
  have hd2:decide (T.c.row=T.vis.bot)=false:=decide_eq_false hc
  have hw:IntKind.i64.wrap ((T.c.row:Int)+1)=(T.c.row:Int)+1:=IntWalk.i64_in _ (by have:=ok.row;have:=ok.fit.len5;omega)
  have hpl:=J0 (fun w1 (hb:Below w.heap.size w w1)=>Ah7 (h.below hb) ok ((T.c.row:Int)+1) T.c.col)
  have ce:=J0 (fun w1 (hb:Below w.heap.size w w1) (k:Eqt.Ext w1)=>And.intro ((h.below hb).below k.below).c8 ((h.below hb).below k.below).c9)
  generalize place T ((T.c.row:Int)+1) T.c.col=T1 at hpl |-
  generalize P.h T.other=hh at hs hsh
  generalize P.x T.other=xx at hs hm
  generalize T.vis.bot=bot at hm hd hd2 hc
  generalize T.vis.top=top at hm
  generalize T.c.row=row at c8 hd hd2 hpl ce hw hc
  generalize T.c.col=col at hpl ce
  clear h hf ok
  go_enter Tryz.func166,Tryz.ntmps166
  go_wp2_with (first
   |(go_at_call 68;(with_reducible refine(hsh.out).mono ?_);rintro e w1 ⟨rfl,rfl⟩)
   |(go_at_call 69;(with_reducible refine(hm.out).mono ?_);rintro e w1 ⟨rfl,q,rfl⟩))
  have hbq:=Aa4 (Below.refl w.heap.size w) q
  have k0:=fun k=>(ce.out _ hbq k).1
  have k1:=fun k=>(ce.out _ hbq k).2
  clear c8 hs ce hsh hm
  generalize w.drewN q=wq at hbq k0 k1 |-
  refine Eqt.region_ext_tail 12 (by kernel_rfl) (by kernel_rfl) ?_
  simp only[List.take_succ_cons,List.take_zero,List.drop_succ_cons,List.drop_zero]
  repeat (go_big_quiet_step (fail))
  refine wpQuiet_nil ?_
  intro w9 hw9
  obtain⟨k9,rfl⟩:=hw9
  have hb9:=k9.below
  generalize k9.w=w9 at hb9 |-
  go_wp2_with (first
   |(go_at_call 171;(with_reducible refine(hpl.out _ (Aa0 hbq hb9)).mono ?_);rintro e w3 ⟨⟨v3,rfl⟩,h3,hf3⟩))
  go_end0
  exact⟨⟨_,rfl⟩,h3.tm,(Scn.Fr.of_below (Aa0 hbq hb9)).trans hf3⟩
end
