/- Part 34 of HostSplits. -/
import Derived.Test.YtecnpoigegiooaaGreatDoorP33
set_option maxHeartbeats 16000000
set_option maxRecDepth 100000
namespace Go.Proofs.YtecnpoigegiooaaGreatDoor.Emu
open Go RowKit Com Rw Lns Scn
section
variable {Z Z1:Zn}{w w':World}{t x s:Nat}{S:Scr}{T:Ter}{P:Pt}{v:Value}{l:List Int}{f j:Nat}
theorem Cc3 (h:SC Z1 w x s S):Calls Tryz.prog 55 #[.pointer (some ⟨s,0,none⟩)] w fun e w'=>e=.returned (.int .i64 0)/\SC Z1 w' x s { S with R:=[] }/\Scn.Fr Z1 PT w w':=by
 obtain⟨sv,lv,L,R,h1,h2,h3⟩:=h
 refine(sclear_any h1.ln.st).mono fun e w' ⟨he,hx,ho⟩=>⟨he,?_,?_⟩
 ·have hno:∀ {k:Nat} {t:TypeId},Typ w k t->136≠t->k∉[s]:=fun {k t} ht n1 hm=>by
   obtain rfl:k=s:=by simpa using hm
   exact n1 (Typ.inj h1.ln.st.typ ht)
  have hsub:∀f:En->Nat,((L++R).map f).Nodup->((L++[]).map f).Nodup:=fun f hn=>hn.sublist ((List.Sublist.append (List.Sublist.refl L) (List.nil_sublist R)).map f)
  refine⟨.slice none 0 0,lv,L,[],⟨⟨h1.ln.blk.only ho (hno h1.ln.typ (by decide)),Af0 h1.ln.own ho (fun g hg=>hno (h1.ln.ltyp g hg).2.2 (by decide)),hx,fun g _ hg=>(by cases hg),⟨h1.ln.lo.x,h1.ln.lo.s,h1.ln.lo.l,fun g hg=>(by cases hg),fun e he=>(by cases he),fun k hk=>h1.ln.lo.up k (Nat.le_trans ho.size hk)⟩,h1.ln.small⟩,
   fun e he=>(h1.rows e he).only ho (hno (h1.rows e he).typ.1 (by decide)) (hno (h1.rows e he).typ.2 (by decide)),h1.zr,hsub _ h1.dd,hsub _ h1.gg⟩,h2,rfl⟩
 ·refine Scn.Fr.of_only ho fun k hk _=>?_
  obtain rfl:k=s:=by simpa using hk
  exact⟨h1.ln.lo.s,_,by simp[PT],h1.ln.st.typ⟩
theorem Bu2 (T:Ter):T.putVis { T.vis with R:=[] }=noBack T:=by
 obtain⟨m,c,p,nx,most,R,main,other,tn,tf,pr,la,jr,rp⟩:=T
 cases other<;>rfl
theorem Ok.noBack (h:Ok T):Ok (noBack T):=by
 rw[<- Bu2]
 exact h.putVis rfl rfl ⟨h.fit.len,h.fit.len5,h.fit.bot,h.fit.top,h.fit.c1,h.fit.c5,h.fit.wid,h.fit.ids,h.fit.pos⟩ rfl rfl (J5 _)
theorem As6 (h:TM Z w t T) (ok:Ok T) (u:Nat) (hu:u<=T.vis.L.length):Calls Tryz.prog 242 #[.pointer (some ⟨t,0,none⟩),.int .i64 0,.int .i64 u] w (Does Z w t (eraseRows T 0 u)):=Av8 h ok 0 u (Nat.zero_le _) hu
theorem clear_tm (h:TM Z w t T):∃P,TMx Z w t T P/\Calls Tryz.prog 55 #[.pointer (some ⟨P.s,0,none⟩)] w fun e w'=>e=.returned (.int .i64 0)/\TM Z w' t (noBack T)/\Scn.Fr Z TT w w':=by
 obtain⟨P,h⟩:=h
 obtain⟨Z1,hf⟩:=h.focus
 refine⟨P,h,(Cc3 hf.sc).mono fun e w' ⟨he,h2,hf2⟩=>?_⟩
 obtain⟨h3,hf3⟩:=hf.back w' _ h2 rfl rfl hf2
 rw[Bu2] at h3
 exact⟨he,h3.tm,hf3⟩
theorem eraseScr_0 (h:TMx Z w t T P) (ok:Ok T) (hj:T.jr.length<=90000000) (hp:NA Z w v l) (h0:atN l 0=0):Calls Tryz.prog 190 #[.pointer (some ⟨t,0,none⟩),v] w (Does Z w t (eraseLine (eraseRows T (T.c.row+1) T.vis.L.length) (atN l 0))):=by
 obtain⟨Z1,hf⟩:=h.focus
 have s0:=h.s0
 have c8:=h.c8
 have c17:=h.c17
 have hlen:=ok.fit.len
 have hl5:=ok.fit.len5
 have hrow:=ok.row
 have hsh:=J0 (Aa8 h)
 have hro:=J0 (Af8 hf.sc ok.fit.len)
 have ha:=J0 (Am7 hp)
 have he:=J0 (Av8 h.tm ok (T.c.row+1) T.vis.L.length (by have:=ok.row;omega) (J5 _))
 have hel:=J0 (fun w2 (h2:TM Z w2 t (eraseRows T (T.c.row+1) T.vis.L.length)) (hf2:Scn.Fr Z TT w w2)=>Af1 h2 (ok.era _ _) (by rw[show (eraseRows T (T.c.row+1) T.vis.L.length).jr=T.jr from Ag2 _ _];exact hj) (hp.fr hf2))
 have hw:IntKind.i64.wrap ((T.c.row:Int)+1)=((T.c.row+1:Nat):Int):=IntWalk.i64_in _ (by omega)
 rw[h0] at ha hel |-
 generalize (eraseRows T (T.c.row+1) T.vis.L.length)=T1 at hel he |-
 generalize T.vis.L.length=rows at *
 generalize P.h T.other=hh at s0 hsh
 generalize P.x T.other=xx at s0 hro
 generalize hr1:T.c.row+1=row1 at *
 replace hr1:=J0 hr1
 generalize T.c.row=row at *
 clear h ok hj hp hf
 go_enter Tryz.func190,Tryz.ntmps190
 go_wp2_with (first
  |(go_at_call 68;(with_reducible refine(hsh.out).mono ?_);rintro e w1 ⟨rfl,rfl⟩)
  |(go_at_call 70;(with_reducible refine(hro.out).mono ?_);rintro e w1 ⟨rfl,rfl⟩)
  |(go_at_call 241;(with_reducible refine(ha.out).mono ?_);rintro e w1 ⟨rfl,rfl⟩)
  |(go_at_call 242;(with_reducible refine(he.out).mono ?_);rintro e w2 ⟨⟨v2,rfl⟩,h2,hf2⟩))
 go_wp2_with (first
  |(go_at_call 191;(with_reducible refine(hel.out _ h2 hf2).mono ?_);rintro e w4 ⟨⟨v4,rfl⟩,h4,hf4⟩))
 go_end0
 exact⟨⟨_,rfl⟩,h4,hf2.trans hf4⟩
theorem eraseScr_1 (h:TMx Z w t T P) (ok:Ok T) (hj:T.jr.length<=90000000) (hp:NA Z w v l) (h0:atN l 0=1):Calls Tryz.prog 190 #[.pointer (some ⟨t,0,none⟩),v] w (Does Z w t (eraseLine (eraseRows T 0 T.c.row) (atN l 0))):=by
 obtain⟨Z1,hf⟩:=h.focus
 have s0:=h.s0
 have c8:=h.c8
 have c17:=h.c17
 have hlen:=ok.fit.len
 have hl5:=ok.fit.len5
 have hrow:=ok.row
 have hsh:=J0 (Aa8 h)
 have hro:=J0 (Af8 hf.sc ok.fit.len)
 have ha:=J0 (Am7 hp)
 have he:=J0 (As6 h.tm ok T.c.row (by have:=ok.row;omega))
 have hel:=J0 (fun w2 (h2:TM Z w2 t (eraseRows T 0 T.c.row)) (hf2:Scn.Fr Z TT w w2)=>Af1 h2 (ok.era _ _) (by rw[show (eraseRows T 0 T.c.row).jr=T.jr from Ag2 _ _];exact hj) (hp.fr hf2))
 have hw:IntKind.i64.wrap ((T.c.row:Int)+1)=((T.c.row+1:Nat):Int):=IntWalk.i64_in _ (by omega)
 rw[h0] at ha hel |-
 generalize (eraseRows T 0 T.c.row)=T1 at hel he |-
 generalize T.vis.L.length=rows at *
 generalize P.h T.other=hh at s0 hsh
 generalize P.x T.other=xx at s0 hro
 generalize T.c.row=row at *
 clear h ok hj hp hf
 go_enter Tryz.func190,Tryz.ntmps190
 go_wp2_with (first
  |(go_at_call 68;(with_reducible refine(hsh.out).mono ?_);rintro e w1 ⟨rfl,rfl⟩)
  |(go_at_call 70;(with_reducible refine(hro.out).mono ?_);rintro e w1 ⟨rfl,rfl⟩)
  |(go_at_call 241;(with_reducible refine(ha.out).mono ?_);rintro e w1 ⟨rfl,rfl⟩)
  |(go_at_call 242;(with_reducible refine(he.out).mono ?_);rintro e w2 ⟨⟨v2,rfl⟩,h2,hf2⟩))
 go_wp2_with (first
  |(go_at_call 191;(with_reducible refine(hel.out _ h2 hf2).mono ?_);rintro e w4 ⟨⟨v4,rfl⟩,h4,hf4⟩))
 go_end0
 exact⟨⟨_,rfl⟩,h4,hf2.trans hf4⟩
theorem eraseScr_2 (h:TMx Z w t T P) (ok:Ok T) (hj:T.jr.length<=90000000) (hp:NA Z w v l) (h0:atN l 0=2):Calls Tryz.prog 190 #[.pointer (some ⟨t,0,none⟩),v] w (Does Z w t (eraseLine (eraseRows T 0 T.vis.L.length) (atN l 0))):=by
 obtain⟨Z1,hf⟩:=h.focus
 have s0:=h.s0
 have c8:=h.c8
 have c17:=h.c17
 have hlen:=ok.fit.len
 have hl5:=ok.fit.len5
 have hrow:=ok.row
 have hsh:=J0 (Aa8 h)
 have hro:=J0 (Af8 hf.sc ok.fit.len)
 have ha:=J0 (Am7 hp)
 have he:=J0 (As6 h.tm ok T.vis.L.length (J5 _))
 have hel:=J0 (fun w2 (h2:TM Z w2 t (eraseRows T 0 T.vis.L.length)) (hf2:Scn.Fr Z TT w w2)=>Af1 h2 (ok.era _ _) (by rw[show (eraseRows T 0 T.vis.L.length).jr=T.jr from Ag2 _ _];exact hj) (hp.fr hf2))
 have hw:IntKind.i64.wrap ((T.c.row:Int)+1)=((T.c.row+1:Nat):Int):=IntWalk.i64_in _ (by omega)
 rw[h0] at ha hel |-
 generalize (eraseRows T 0 T.vis.L.length)=T1 at hel he |-
 generalize T.vis.L.length=rows at *
 generalize P.h T.other=hh at s0 hsh
 generalize P.x T.other=xx at s0 hro
 generalize T.c.row=row at *
 clear h ok hj hp hf
 go_enter Tryz.func190,Tryz.ntmps190
 go_wp2_with (first
  |(go_at_call 68;(with_reducible refine(hsh.out).mono ?_);rintro e w1 ⟨rfl,rfl⟩)
  |(go_at_call 70;(with_reducible refine(hro.out).mono ?_);rintro e w1 ⟨rfl,rfl⟩)
  |(go_at_call 241;(with_reducible refine(ha.out).mono ?_);rintro e w1 ⟨rfl,rfl⟩)
  |(go_at_call 242;(with_reducible refine(he.out).mono ?_);rintro e w2 ⟨⟨v2,rfl⟩,h2,hf2⟩))
 go_wp2_with (first
  |(go_at_call 191;(with_reducible refine(hel.out _ h2 hf2).mono ?_);rintro e w4 ⟨⟨v4,rfl⟩,h4,hf4⟩))
 go_end0
 exact⟨⟨_,rfl⟩,h4,hf2.trans hf4⟩
theorem eraseScr_3 (h:TMx Z w t T P) (ok:Ok T) (hj:T.jr.length<=90000000) (hp:NA Z w v l) (h0:atN l 0=3):Calls Tryz.prog 190 #[.pointer (some ⟨t,0,none⟩),v] w (Does Z w t (eraseLine (noBack T) (atN l 0))):=by
 obtain⟨P,h,hcl⟩:=clear_tm h.tm
 obtain⟨Z1,hf⟩:=h.focus
 have s0:=h.s0
 have c8:=h.c8
 have c17:=h.c17
 have hlen:=ok.fit.len
 have hl5:=ok.fit.len5
 have hrow:=ok.row
 have hsh:=J0 (Aa8 h)
 have hro:=J0 (Af8 hf.sc ok.fit.len)
 have ha:=J0 (Am7 hp)
 have he:=J0 (hcl)
 have hel:=J0 (fun w2 (h2:TM Z w2 t (noBack T)) (hf2:Scn.Fr Z TT w w2)=>Af1 h2 (ok.noBack) (by rw[show (noBack T).jr=T.jr from rfl];exact hj) (hp.fr hf2))
 have hw:IntKind.i64.wrap ((T.c.row:Int)+1)=((T.c.row+1:Nat):Int):=IntWalk.i64_in _ (by omega)
 rw[h0] at ha hel |-
 generalize (noBack T)=T1 at hel he |-
 generalize T.vis.L.length=rows at *
 generalize P.h T.other=hh at s0 hsh
 generalize P.x T.other=xx at s0 hro
 generalize T.c.row=row at *
 clear h ok hj hp hf
 go_enter Tryz.func190,Tryz.ntmps190
 go_wp2_with (first
  |(go_at_call 68;(with_reducible refine(hsh.out).mono ?_);rintro e w1 ⟨rfl,rfl⟩)
  |(go_at_call 70;(with_reducible refine(hro.out).mono ?_);rintro e w1 ⟨rfl,rfl⟩)
  |(go_at_call 241;(with_reducible refine(ha.out).mono ?_);rintro e w1 ⟨rfl,rfl⟩)
  |(go_at_call 55;(with_reducible refine(he.out).mono ?_);rintro e w2 ⟨rfl,h2,hf2⟩))
 go_wp2_with (first
  |(go_at_call 191;(with_reducible refine(hel.out _ h2 hf2).mono ?_);rintro e w4 ⟨⟨v4,rfl⟩,h4,hf4⟩))
 go_end0
 exact⟨⟨_,rfl⟩,h4,hf2.trans hf4⟩
theorem eraseScr_x (h:TMx Z w t T P) (ok:Ok T) (hj:T.jr.length<=90000000) (hp:NA Z w v l) (h0:atN l 0≠0) (h1:atN l 0≠1) (h2:atN l 0≠2) (h3:atN l 0≠3):Calls Tryz.prog 190 #[.pointer (some ⟨t,0,none⟩),v] w (Does Z w t (eraseLine T (atN l 0))):=by
 obtain⟨Z1,hf⟩:=h.focus
 have s0:=h.s0
 have c8:=h.c8
 have c17:=h.c17
 have hlen:=ok.fit.len
 have hl5:=ok.fit.len5
 have hrow:=ok.row
 have hsh:=J0 (Aa8 h)
 have hro:=J0 (Af8 hf.sc ok.fit.len)
 have ha:=J0 (Am7 hp)
 have hel:=J0 (fun w2 (h2:TM Z w2 t T) (hf2:Scn.Fr Z TT w w2)=>Af1 h2 (ok) (by rw[show T.jr=T.jr from rfl];exact hj) (hp.fr hf2))
 have hw:IntKind.i64.wrap ((T.c.row:Int)+1)=((T.c.row+1:Nat):Int):=IntWalk.i64_in _ (by omega)
 have hd0:(atN l 0 == 0)=false:=by simpa using h0
 have he0:decide (atN l 0=0)=false:=decide_eq_false h0
 have hd1:(atN l 0 == 1)=false:=by simpa using h1
 have he1:decide (atN l 0=1)=false:=decide_eq_false h1
 have hd2:(atN l 0 == 2)=false:=by simpa using h2
 have he2:decide (atN l 0=2)=false:=decide_eq_false h2
 have hd3:(atN l 0 == 3)=false:=by simpa using h3
 have he3:decide (atN l 0=3)=false:=decide_eq_false h3
 have hres:=h.tm
 generalize T.vis.L.length=rows at *
 generalize P.h T.other=hh at s0 hsh
 generalize P.x T.other=xx at s0 hro
 generalize atN l 0=n at *
 clear hw
 clear h ok hj hp hf
 go_enter Tryz.func190,Tryz.ntmps190
 go_wp2_with (first
  |(go_at_call 68;(with_reducible refine(hsh.out).mono ?_);rintro e w1 ⟨rfl,rfl⟩)
  |(go_at_call 70;(with_reducible refine(hro.out).mono ?_);rintro e w1 ⟨rfl,rfl⟩)
  |(go_at_call 241;(with_reducible refine(ha.out).mono ?_);rintro e w1 ⟨rfl,rfl⟩)
  |(go_at_call 191;(with_reducible refine(hel.out _ hres (Scn.Fr.refl _ _ _)).mono ?_);rintro e w4 ⟨⟨v4,rfl⟩,h4,hf4⟩))
 go_end0
 exact⟨⟨_,rfl⟩,h4,hf4⟩
theorem eraseScr_any (h:TM Z w t T) (ok:Ok T) (hj:T.jr.length<=90000000) (hp:NA Z w v l):Calls Tryz.prog 190 #[.pointer (some ⟨t,0,none⟩),v] w (Does Z w t (Al6 T (atN l 0))):=by
 obtain⟨P,h⟩:=h
 unfold Al6
 split
 ·exact eraseScr_0 h ok hj hp (by assumption)
 ·split
  ·exact eraseScr_1 h ok hj hp (by assumption)
  ·split
   ·exact eraseScr_2 h ok hj hp (by assumption)
   ·split
    ·exact eraseScr_3 h ok hj hp (by assumption)
    ·exact eraseScr_x h ok hj hp (by assumption) (by assumption) (by assumption) (by assumption)
end
end Go.Proofs.YtecnpoigegiooaaGreatDoor.Emu
namespace Go.Proofs.YtecnpoigegiooaaGreatDoor.Emu
open Go RowKit Com
open Go.Maps (Keyed int_keyed keyOf_int_mk)
open Go.ChangeMaps (setBlock heap_setBlock_same heap_setBlock_other)
structure MT (Tm Tk Tv:TypeId) (kd:IntKind) (z:Value):Prop where
 und:Tryz.prog.underlying Tm=some (.map Tk Tv)
 law:Keyed Tryz.prog Tk
 key:∀n,(Lit.int kd n).wf=true->∃k,keyOf Tryz.prog Tk (.int kd n)=some k
 zero:∀w,(zeroValue Tv).run Tryz.prog w=.ok z w
abbrev Ent:=Int×Value
def entsM (kd:IntKind):Nat->List Ent->List MapEntry
 |_,[]=>[]
 |i,e::r=>⟨.int kd e.1,e.2,i⟩::entsM kd (i+1) r
section
variable {Tm Tk Tv:TypeId}{kd:IntKind}{z:Value}{w w':World}{b:Nat}{l:List Ent}
theorem entsM_snoc (i:Nat) (l:List Ent) (e:Ent):entsM kd i (l++[e])=entsM kd i l++[⟨.int kd e.1,e.2,i+l.length⟩]:=by
 induction l generalizing i with
 |nil=>rfl
 |cons x r ih =>
  simp only[List.cons_append,entsM,ih,List.length_cons]
  rw[Nat.add_right_comm,Nat.add_assoc]
theorem Be5 {i:Nat} {l:List Ent} {y:MapEntry} (h:y∈entsM kd i l):∃e∈l,y.key=.int kd e.1/\y.val=e.2:=by
 induction l generalizing i with
 |nil=>simp[entsM] at h
 |cons x r ih =>
  rcases List.mem_cons.1 h with rfl|h
  ·exact⟨x,List.mem_cons_self,rfl,rfl⟩
  ·obtain⟨e,he,h2⟩:=ih h
   exact⟨e,List.mem_cons_of_mem _ he,h2⟩
theorem mem_entsM {i:Nat} {l:List Ent} {e:Ent} (h:e∈l):∃y∈entsM kd i l,y.key=.int kd e.1:=by
 induction l generalizing i with
 |nil=>simp at h
 |cons x r ih =>
  rcases List.mem_cons.1 h with rfl|h
  ·exact⟨_,List.mem_cons_self,rfl⟩
  ·obtain⟨y,hy,h2⟩:=ih (i:=i+1) h
   exact⟨y,List.mem_cons_of_mem _ hy,h2⟩
structure MpN (w:World) (b:Nat) (kd:IntKind) (l:List Ent):Prop where
 blk:w.heap[b]?=some (.map (entsM kd 0 l).toArray l.length)
 fine:∀e∈l,(Lit.int kd e.1).wf=true
 nd:(l.map (·.1)).Nodup
theorem MpN.lt (h:MpN w b kd l):b<w.heap.size:=(Array.getElem?_eq_some_iff.1 h.blk).1
theorem MpN.made (w:World) (kd:IntKind):MpN (w.alloc (.map #[] 0)) w.heap.size kd []:=⟨heap_alloc_new w _,by simp,by simp⟩
theorem MpN.below (h:MpN w b kd l) (hb:Below w.heap.size w w'):MpN w' b kd l:=⟨(hb.block b h.lt).trans h.blk,h.fine,h.nd⟩
theorem Cj0 {n k:Int} (h:Value.int kd n=.int kd k):n=k:=by simpa using h
theorem Cu1 (M:MT Tm Tk Tv kd z) (h:MpN w b kd l):∀y∈(entsM kd 0 l).toArray.toList,∃k,keyOf Tryz.prog Tk y.key=some k:=by
 intro y hy
 obtain⟨e,he,hk,-⟩:=Be5 (by simpa using hy)
 rw[hk]
 exact M.key _ (h.fine e he)
theorem putM_new (M:MT Tm Tk Tv kd z) (h:MpN w b kd l) (n:Int) (v:Value) (hw:(Lit.int kd n).wf=true) (hne:n∉l.map (·.1)) :
  ∃w',(Instr.mapUpdate Tm (.map (some b)) (.int kd n) v).run Tryz.prog w=.ok () w'/\MpN w' b kd (l++[(n,v)])/\Only [b] w w':=by
 obtain⟨k,hk⟩:=M.key n hw
 refine⟨setBlock w b (.map ((entsM kd 0 l).toArray.push ⟨.int kd n,v,l.length⟩) (l.length+1)),?_,⟨?_,?_,?_⟩,?_⟩
 ·rcases M.law.find w hk (entsM kd 0 l).toArray.toList (Cu1 M h) with ⟨h1,-⟩|⟨j,e0,h1,h2,h3⟩
  ·have h1':(Instr.findKey Tk (.int kd n) (entsM kd 0 l)).run Tryz.prog w=.ok none w:=by simpa using h1
   simp[Instr.mapUpdate,run_underlying M.und,MapKept.run_getObj_map h.blk,M.law.check w false hk,h1',MapKept.run_setObj_map _ h.blk,Result.andThen,setBlock]
  ·exfalso
   obtain⟨e,he,hke,-⟩:=Be5 (by simpa using List.mem_of_getElem? h2)
   exact hne (List.mem_map.2 ⟨e,he,Cj0 (hke.symm.trans h3)⟩)
 ·rw[heap_setBlock_same h.blk (.map ((entsM kd 0 l).toArray.push ⟨.int kd n,v,l.length⟩) (l.length+1)),entsM_snoc]
  simp
 ·intro e he
  rcases List.mem_append.1 he with he|he
  ·exact h.fine e he
  ·obtain rfl:e=(n,v):=by simpa using he
   exact hw
 ·rw[List.map_append,List.nodup_append]
  refine⟨h.nd,by simp,fun a ha b hb=>?_⟩
  obtain rfl:b=n:=by simpa using hb
  rintro rfl
  exact hne ha
 ·exact⟨rfl,rfl,rfl,by simp[setBlock],fun i _ hi=>heap_setBlock_other h.blk _ (by simpa using hi)⟩
def findM:List Ent->Int->Option Value
 |[],_=>none
 |e::r,n=>if n=e.1 then some e.2 else findM r n
theorem findM_none {l:List Ent} {n:Int} (h:∀e∈l,e.1≠n):findM l n=none:=by
 induction l with
 |nil=>rfl
 |cons x r ih =>
  unfold findM
  rw[if_neg (fun e=>h x List.mem_cons_self e.symm),ih fun e he=>h e (List.mem_cons_of_mem _ he)]
theorem findM_mem {l:List Ent} {e:Ent} (h:e∈l) (hn:(l.map (·.1)).Nodup):findM l e.1=some e.2:=by
 induction l with
 |nil=>simp at h
 |cons x r ih =>
  rw[List.map_cons,List.nodup_cons] at hn
  unfold findM
  rcases List.mem_cons.1 h with rfl|h
  ·rw[if_pos rfl]
  ·rw[if_neg (fun e1=>hn.1 (List.mem_map.2 ⟨e,h,e1⟩)),ih h hn.2]
theorem Bt5 (M:MT Tm Tk Tv kd z) (h:MpN w b kd l) (n:Int) (hw:(Lit.int kd n).wf=true) :
  (Instr.lookup Tm (.map (some b)) (.int kd n) false).run Tryz.prog w=.ok ((findM l n).getD z) w /\
  (Instr.lookup Tm (.map (some b)) (.int kd n) true).run Tryz.prog w=.ok (.tuple #[(findM l n).getD z,.bool (findM l n).isSome]) w:=by
 obtain⟨k,hk⟩:=M.key n hw
 rcases M.law.find w hk (entsM kd 0 l).toArray.toList (Cu1 M h) with ⟨h1,h2⟩|⟨j,e0,h1,h2,h3⟩
 ·have h1':(Instr.findKey Tk (.int kd n) (entsM kd 0 l)).run Tryz.prog w=.ok none w:=by simpa using h1
  have hf:findM l n=none:=findM_none fun e he hen=>by
   obtain⟨y,hy,hky⟩:=mem_entsM (kd:=kd) (i:=0) he
   rw[hen] at hky
   exact h2 y (by simpa using hy) hky
  rw[hf]
  constructor<;>simp[Instr.lookup,run_underlying M.und,MapKept.run_getObj_map h.blk,M.law.check w _ hk,h1',M.zero,Result.andThen]
 ·have h1':(Instr.findKey Tk (.int kd n) (entsM kd 0 l)).run Tryz.prog w=.ok (some (j,e0.val)) w:=by simpa using h1
  obtain⟨e,he,hke,hv⟩:=Be5 (by simpa using List.mem_of_getElem? h2)
  obtain rfl:e.1=n:=Cj0 (hke.symm.trans h3)
  have hf:findM l e.1=some e.2:=findM_mem he h.nd
  rw[hf]
  constructor<;>simp[Instr.lookup,run_underlying M.und,MapKept.run_getObj_map h.blk,M.law.check w _ hk,h1',hv,Result.andThen]
theorem upon_ok {P:Program} {o:Oper} {a:Act} {next:Act->World->Prop} {Q:Exit->Act->World->Prop} {r:Result Unit} (h:r=.ok () w') (hK:next (a.put o.dst undef) w') :
  Oper.upon P o a next Q (r.andThen fun _ w'=>.ok .skip w'):=by
 subst h
 exact hK
theorem Am6 {o:Oper} {a:Act} {next:Act->World->Prop} {Q:Exit->Act->World->Prop} {n:Int} {v:Value} (M:MT Tm Tk Tv kd z) (h:MpN w b kd l) (hw:(Lit.int kd n).wf=true) (hne:n∉l.map (·.1))
  (hK:∀w',MpN w' b kd (l++[(n,v)])->Only [b] w w'->next (a.put o.dst undef) w') :
  Oper.upon Tryz.prog o a next Q (((Instr.mapUpdate Tm (.map (some b)) (.int kd n) v).run Tryz.prog w).andThen fun _ w'=>.ok .skip w'):=by
 refine(putM_new M h n v hw hne).elim fun w' h=>?_
 exact upon_ok h.1 (hK w' h.2.1 h.2.2)
end
theorem Cj5:MT 184 5 183 .u8 .nilFunc :=
 ⟨Tryz.underlying184,int_keyed Tryz.underlying5,fun n hw=>⟨_,keyOf_int_mk Tryz.underlying5 hw⟩,fun w=>by exact Tryz.zeroValue183 w⟩
theorem Co9:MT 208 21 207 .i32 .nilFunc :=
 ⟨Tryz.underlying208,int_keyed Tryz.underlying21,fun n hw=>⟨_,keyOf_int_mk Tryz.underlying21 hw⟩,fun w=>by exact Tryz.zeroValue207 w⟩
theorem mtCsi:MT 209 21 211 .i32 .nilFunc :=
 ⟨Tryz.underlying209,int_keyed Tryz.underlying21,fun n hw=>⟨_,keyOf_int_mk Tryz.underlying21 hw⟩,fun w=>by exact Tryz.zeroValue211 w⟩
theorem Cq7:MT 290 3 289 .i64 .nilFunc :=
 ⟨Tryz.underlying290,int_keyed Tryz.underlying3,fun n hw=>⟨_,keyOf_int_mk Tryz.underlying3 hw⟩,fun w=>by exact Tryz.zeroValue289 w⟩
theorem Cj6:MT 242 21 3 .i32 (.int .i64 0) :=
 ⟨Tryz.underlying242,int_keyed Tryz.underlying21,fun n hw=>⟨_,keyOf_int_mk Tryz.underlying21 hw⟩,fun w=>by exact Tryz.zeroValue3 w⟩
theorem Cq8:MT 243 21 5 .i32 (.int .u8 0) :=
 ⟨Tryz.underlying243,int_keyed Tryz.underlying21,fun n hw=>⟨_,keyOf_int_mk Tryz.underlying21 hw⟩,fun w=>by exact Tryz.zeroValue5 w⟩
end Go.Proofs.YtecnpoigegiooaaGreatDoor.Emu
namespace Go.Proofs.YtecnpoigegiooaaGreatDoor.Emu
open Go RowKit Com Rw Lns Scn
section
variable {Z Z1:Zn}{w w':World}{t x s:Nat}{S:Scr}{T:Ter}{P:Pt}{v:Value}{l:List Int}
theorem Ok.putM (h:Ok T) (n:Int) (on:Bool):Ok (putM T false on n):=by
 refine⟨h.fit,h.fitm,h.rows,h.cols,h.row,h.col,h.sv,h.svm,h.tn,?_⟩
 show T.other.isSome=(T.m.put false n on).a6
 rw[h.alt]
 unfold Mds.Md.put Mds.spot
 simp only[Bool.false_eq_true,if_false]
 split
 ·rfl
 ·split<;>rfl
theorem Bq5 (l:List Int) (i:Nat):(Lit.int .i64 (atN l i)).wf=true:=WalkArith.wf_i64 (by have:=Br2 l i;omega)
def mdW (w:World) (t:Nat) (m:Mds.Md):World:=((((((((w.setCell ⟨t,0,none⟩ (.bool m.a0)).setCell ⟨t,1,none⟩ (.bool m.a1)).setCell ⟨t,2,none⟩ (.bool m.a2)).setCell ⟨t,3,none⟩ (.bool m.a3)).setCell ⟨t,4,none⟩ (.bool m.a4)).setCell ⟨t,5,none⟩ (.bool m.a5)).setCell ⟨t,6,none⟩ (.bool m.a6)).setCell ⟨t,7,none⟩ (.bool m.a7))
theorem TMx.setMd (h:TMx Z w t T P) (m:Mds.Md):TMx Z (mdW w t m) t { T with m:=m } P/\Scn.Fr Z TT w (mdW w t m):=by
 have e:((((((((terA T P).setIfInBounds 0 (.bool m.a0)).setIfInBounds 1 (.bool m.a1)).setIfInBounds 2 (.bool m.a2)).setIfInBounds 3 (.bool m.a3)).setIfInBounds 4 (.bool m.a4)).setIfInBounds 5 (.bool m.a5)).setIfInBounds 6 (.bool m.a6)).setIfInBounds 7 (.bool m.a7)=terA { T with m:=m } P:=by kernel_rfl
 have hb:Block (mdW w t m) t 102 (((((((((terA T P).setIfInBounds 0 (.bool m.a0)).setIfInBounds 1 (.bool m.a1)).setIfInBounds 2 (.bool m.a2)).setIfInBounds 3 (.bool m.a3)).setIfInBounds 4 (.bool m.a4)).setIfInBounds 5 (.bool m.a5)).setIfInBounds 6 (.bool m.a6)).setIfInBounds 7 (.bool m.a7)):=(((((((h.blk.set 0 _).set 1 _).set 2 _).set 3 _).set 4 _).set 5 _).set 6 _).set 7 _
 rw[e] at hb
 exact h.turn (w':=mdW w t m) (m:=m) (c:=T.c) (p:=T.p) (n:=T.prints) (e:=T.last) ((((((((Only.setCell w ⟨t,0,none⟩ _).trans (Only.setCell _ ⟨t,1,none⟩ _)).trans (Only.setCell _ ⟨t,2,none⟩ _)).trans (Only.setCell _ ⟨t,3,none⟩ _)).trans (Only.setCell _ ⟨t,4,none⟩ _)).trans (Only.setCell _ ⟨t,5,none⟩ _)).trans (Only.setCell _ ⟨t,6,none⟩ _)).trans (Only.setCell _ ⟨t,7,none⟩ _)) hb
theorem TMx.md8 (h:TMx Z w t T P):w.cell? ⟨t,0,none⟩=some (.bool T.m.a0)/\w.cell? ⟨t,1,none⟩=some (.bool T.m.a1)/\w.cell? ⟨t,2,none⟩=some (.bool T.m.a2)/\w.cell? ⟨t,3,none⟩=some (.bool T.m.a3)/\w.cell? ⟨t,4,none⟩=some (.bool T.m.a4)/\w.cell? ⟨t,5,none⟩=some (.bool T.m.a5)/\w.cell? ⟨t,6,none⟩=some (.bool T.m.a6)/\w.cell? ⟨t,7,none⟩=some (.bool T.m.a7):=⟨h.c0,h.c1,h.c2,h.c3,h.c4,h.c5,h.c6,h.c7⟩
theorem Bk3 (T:Ter) (l:List Int) (on:Bool) {j:Nat} (hj:j<l.length):setModes T (l.take (j+1)) on=putM (setModes T (l.take j) on) false on (atN l j):=by
 unfold setModes
 have ht:l.take (j+1)=l.take j++[l[j]]:=by rw[List.take_add_one,List.getElem?_eq_getElem hj];rfl
 rw[ht,List.foldl_append]
 simp only[List.foldl_cons,List.foldl_nil]
 rw[show atN l j=Aj4 l[j] by unfold atN;rw[List.getElem?_eq_getElem hj]]
theorem Bc2 (h:TM Z w t T) (hp:NA Z w v l) (on:Bool):Calls Tryz.prog 252 #[.pointer (some ⟨t,0,none⟩),v,.bool on] w (Does Z w t (setModes T l on)):=by
 have hlen:=hp
 obtain⟨ao,cp,rfl,hl2,hl3,_,_⟩:=hlen
 have hall:=J0 (fun j (hj:j<l.length) w1 (h1:TM Z w1 t (setModes T (l.take j) on)) (hf:Scn.Fr Z TT w w1)=>And.intro h1 (And.intro (Bk3 T l on hj) (hp.fr hf)))
 have hst:setModes T (l.take 0) on=T:=rfl
 obtain⟨R,hR⟩:∃R:Nat->Ter,R=fun j=>setModes T (l.take j) on:=⟨_,rfl⟩
 have hlast:setModes T l on=R l.length:=by rw[hR];simp
 have hstep:∀j,j<l.length->R (j+1)=putM (R j) false on (atN l j):=fun j hj=>by rw[hR];exact Bk3 T l on hj
 have h0:TM Z w t (R 0):=by rw[hR];exact h
 rw[hlast]
 replace hstep:=J0 hstep
 replace h0:=J0 h0
 have hfp:=J0 (fun w1 (hf:Scn.Fr Z TT w w1)=>hp.fr hf)
 clear hall hst hlast hR h hp
 obtain⟨n,hn⟩:∃n,n=l.length:=⟨_,rfl⟩
 rw[<- hn] at hl2 hstep hfp |-
 have hn9:n<=9223372036854775807:=by unfold maxLen at hl3;omega
 replace hn:=J0 hn
 go_enter Tryz.func252,Tryz.ntmps252
 go_wp2
 go_loopw [9] (fun iv wr=>∃j:Nat,j<=n/\iv=.int .i64 j/\Hid (TM Z wr t (R j)/\Scn.Fr Z TT w wr)) (fun iv _=>n - (intOf iv).toNat)
 case atStart=>exact⟨0,Nat.zero_le _,rfl,J0 ⟨h0.out,Scn.Fr.refl _ _ _⟩⟩
 case round =>
  obtain⟨j,hj,rfl,hRr⟩:=hrel
  obtain⟨⟨P,hM⟩,hfr⟩:=hRr.out
  clear hRr
  by_cases hlt:j<n
  ·have hjI:(j:Int)<(n:Int):=by omega
   have c0:=hM.c0
   have c1:=hM.c1
   have c2:=hM.c2
   have c3:=hM.c3
   have c4:=hM.c4
   have c5:=hM.c5
   have c6:=hM.c6
   have c7:=hM.c7
   have hna:=hfp.out _ hfr
   have hat:=J0 (Br1 (hna.below (Aa4 (Below.refl _ _) 1)) j)
   change Hid (Calls _ _ _ wr.drew _) at hat
   have hput:=J0 (fun w1:World=>Mds.put_any (R j).m false (atN l j) (Bq5 l j) on w1)
   have hb:=J0 (fun w1 (hb:Below wr.heap.size wr w1)=>And.intro (hM.below hb).free (hM.below hb).md8)
   have hres:=J0 (fun w1 (hb:Below wr.heap.size wr w1)=>(⟨by rw[hstep.out j hlt];exact((hM.below hb).setMd ((R j).m.put false (atN l j) on)).1.tm,(hfr.trans (Scn.Fr.of_below hb)).trans ((hM.below hb).setMd _).2⟩:TM Z (mdW w1 t ((R j).m.put false (atN l j) on)) t (R (j+1))/\Scn.Fr Z TT w (mdW w1 t ((R j).m.put false (atN l j) on))))
   change Hid (∀w1:World,Calls Tryz.prog 276 #[.agg #[.bool (R j).m.a0,.bool (R j).m.a1,.bool (R j).m.a2,.bool (R j).m.a3,.bool (R j).m.a4,.bool (R j).m.a5,.bool (R j).m.a6,.bool (R j).m.a7],.bool false,.int .i64 (atN l j),.bool on] w1 fun e w'=>e=.returned (.tuple #[.agg (Mds.mA ((R j).m.put false (atN l j) on)),.bool (Mds.known false (atN l j))])/\Below w1.heap.size w1 w') at hput
   generalize (R j).m.put false (atN l j) on=m1 at hput hres
   generalize Mds.known false (atN l j)=kk at hput
   generalize atN l j=nn at hat hput
   generalize (R j).m=m0 at c0 c1 c2 c3 c4 c5 c6 c7 hput hb
   obtain⟨a0,a1,a2,a3,a4,a5,a6,a7⟩:=m0
   obtain⟨b0,b1,b2,b3,b4,b5,b6,b7⟩:=m1
   simp only[Mds.mA] at c0 c1 c2 c3 c4 c5 c6 c7 hput hb
   have hd0:Below wr.heap.size wr wr.drew:=Aa4 (Below.refl _ _) 1
   clear hM hfr h0 hfp hstep hna
   go_wp2
   go_region_law (first
    |(go_simp;(go_at_call 241;(with_reducible refine(hat.out).mono ?_);rintro e w1 ⟨rfl,rfl⟩))
    |(go_simp;go_at_call 276;(with_reducible refine(hput.out _).mono ?_);rintro e w1 ⟨rfl,hb8⟩;have hb9:=Aa0 hd0 hb8;obtain⟨hf,d0,d1,d2,d3,d4,d5,d6,d7⟩:=hb.out _ hb9;have f0:=hf 0;have f1:=hf 1;have f2:=hf 2;have f3:=hf 3;have f4:=hf 4;have f5:=hf 5;have f6:=hf 6;have f7:=hf 7))
   all_goals
    have hr2:=hres.out _ hb9
    simp only[mdW] at hr2
    generalize ((((((((w1.setCell ⟨t,0,none⟩ (.bool b0)).setCell ⟨t,1,none⟩ (.bool b1)).setCell ⟨t,2,none⟩ (.bool b2)).setCell ⟨t,3,none⟩ (.bool b3)).setCell ⟨t,4,none⟩ (.bool b4)).setCell ⟨t,5,none⟩ (.bool b5)).setCell ⟨t,6,none⟩ (.bool b6)).setCell ⟨t,7,none⟩ (.bool b7))=w5 at hr2 |-
    replace hr2:=J0 hr2
    clear c0 c1 c2 c3 c4 c5 c6 c7 d0 d1 d2 d3 d4 d5 d6 d7 f0 f1 f2 f3 f4 f5 f6 f7 hb9 hb8 hf hres hb hput hat
    go_wp2
    go_roundw
    case rel=>exact⟨j+1,by omega,by go_num,hr2⟩
    case measure=>simp[intOf];omega
  ·obtain rfl:j=n:=by omega
   have hno:decide ((j:Int)<(j:Int))=false:=by simp
   have hres:=J0 (And.intro hM.tm hfr)
   clear hM hfr h0 hfp hstep
   go_wp2
   go_end0
   exact⟨⟨_,rfl⟩,hres.out⟩
theorem modesOn_any (h:TM Z w t T) (hp:NA Z w v l):Calls Tryz.prog 202 #[.pointer (some ⟨t,0,none⟩),v] w (Does Z w t (setModes T l true)):=by
 have hs:=J0 (Bc2 h hp true)
 generalize setModes T l true=T1 at hs |-
 clear h hp
 go_enter Tryz.func202,Tryz.ntmps202
 go_wp2_with (first
  |(go_at_call 252;(with_reducible refine(hs.out).mono ?_);rintro e w4 ⟨⟨v4,rfl⟩,h4,hf4⟩))
 go_end0
 exact⟨⟨_,rfl⟩,h4,hf4⟩
theorem modesOff_any (h:TM Z w t T) (hp:NA Z w v l):Calls Tryz.prog 203 #[.pointer (some ⟨t,0,none⟩),v] w (Does Z w t (setModes T l false)):=by
 have hs:=J0 (Bc2 h hp false)
 generalize setModes T l false=T1 at hs |-
 clear h hp
 go_enter Tryz.func203,Tryz.ntmps203
 go_wp2_with (first
  |(go_at_call 252;(with_reducible refine(hs.out).mono ?_);rintro e w4 ⟨⟨v4,rfl⟩,h4,hf4⟩))
 go_end0
 exact⟨⟨_,rfl⟩,h4,hf4⟩
end
