/- Part 47 of the proof that the card of EmuAside holds. -/
import Derived.Test.YtkjpjegmanpbfaaGreatDoorPA45
set_option maxHeartbeats 16000000
set_option maxRecDepth 100000
namespace Go.Proofs.YtkjpjegmanpbfaaGreatDoor.Emu
open Go Rw Scn
structure As (M:Sh) (R:List Ln) (T:Ter):Prop where
 oth:T.other.isSome=true
 main:T.main=M
 back:T.R=R
 a6:T.m.a6=true
section
variable {M:Sh} {R:List Ln} {T:Ter}
theorem Ac9 {T':Ter} (h:As M R T) (h1:T'.other=T.other) (h2:T'.main=T.main) (h3:T'.R=T.R) (h4:T'.m.a6=T.m.a6):As M R T':=⟨by rw [h1];exact h.oth,h2.trans h.main,h3.trans h.back,h4.trans h.a6⟩
theorem Bi6 (h:As M R T) (e:Ev):As M R (tell T e):=Ac9 h rfl rfl rfl rfl
theorem Bu2 (h:As M R T) (y x:Int):As M R (place T y x):=Ac9 h rfl rfl rfl rfl
theorem As6 (h:As M R T) (y x:Int):As M R (move T y x):=Ac9 h rfl rfl rfl rfl
theorem Aq4 (h:As M R T):As M R (tellOther T):=Bi6 h _
theorem Bu0 (h:As M R T) (x:Nat):As M R (setCol T x):=Ac9 h rfl rfl rfl rfl
theorem Bu3 (h:As M R T) {S:Scr} (hR:S.R=T.R):As M R (T.putVis S):=by
 obtain ⟨h1,h2,h3,h4⟩:=h
 unfold Ter.putVis
 rcases ho:T.other with _|o
 ·rw [ho] at h1;cases h1
 ·exact ⟨rfl,h2,hR.trans h3,h4⟩
theorem As.kp (h:As M R T):T.vis.kp=false:=by
 have h1:=h.oth
 show T.other.isNone=false
 rcases ho:T.other with _|o
 ·rw [ho] at h1;cases h1
 ·rfl
theorem Cm7 (h:As M R T) (frm:Nat) (n:Int) (a:At) {b:Bool} (hb:b=false):As M R (T.putVis (upS T.vis frm n a b)):=by
 subst hb
 exact Bu3 h rfl
theorem Ci8 (h:As M R T) (n:Int) (a:At):As M R (T.putVis (upT T.vis n a)):=Cm7 h _ n a (by rw [h.kp];rfl)
theorem Br4 (h:As M R T) (tp:Nat) (n:Int) (a:At):As M R (T.putVis (Ag6 T.vis tp n a)):=Bu3 h rfl
theorem Bb1 (h:As M R T) (l:List Cel):As M R (putLine T l):=Bu3 h rfl
theorem Bi5 (h:As M R T):As M R (feed T):=by
 unfold feed
 split
 ·exact Bu2 (Ci8 h _ _) _ _
 ·exact Bu2 h _ _
theorem Ci9 (h:As M R T) (w:Nat):As M R (makeWay T w):=by
 unfold makeWay
 split
 ·exact Bi6 (Bi5 (Bu0 h 0)) _
 split
 ·exact Bu0 h _
 ·exact h
theorem Cb7 (h:As M R T) (e:Ev) (x:Int):As M R (tellRune T e x):=Ac9 h rfl rfl rfl rfl
theorem as_join (h:As M R T) (x:Int):As M R (Ay1 T x):=by
 unfold Ay1
 split
 ·exact Cb7 (Bb1 h _) _ _
 ·exact h
theorem Cb6 (h:As M R T) (x:Int) (w:Nat):As M R (putT T x w):=Ac9 (Cb7 (Bb1 h (Aa3 T x w)) (Ac2 T w) x) rfl rfl rfl rfl
theorem as_print (h:As M R T) (x:Int):As M R (As3 T x):=by
 unfold As3
 generalize Cht.charsetF (if T.p.wh then T.p.g1 else T.p.g0) x=c
 simp only
 split
 ·exact as_join h _
 split
 ·exact Cb6 (Ci9 h _) _ _
 ·exact Cb6 (Ci9 h _) _ _
theorem Ax1 (h:As M R T):As M R (rowDown T):=Aq4 (Bi5 h)
theorem Bb2 (h:As M R T):As M R (nextLine T):=Ax1 (Bu0 h 0)
theorem Bu4 (h:As M R T):As M R (rowUp T):=by
 unfold rowUp
 split
 ·exact As6 (Br4 h _ _ _) _ _
 ·exact As6 h _ _
theorem as_newLine (h:As M R T):As M R (newLine T):=by
 unfold newLine
 split
 ·exact Bi6 (Bi5 (Bu0 h 0)) _
 ·exact Bi6 (Bi5 h) _
theorem as_control (h:As M R T) (x:Int):As M R (control T x):=by
 unfold control
 split
 ·exact As6 h _ _
 split
 ·exact Ac9 h rfl rfl rfl rfl
 split
 ·exact as_newLine h
 split
 ·exact Ac9 h rfl rfl rfl rfl
 split
 ·exact Ac9 h rfl rfl rfl rfl
 split
 ·exact Ac9 h rfl rfl rfl rfl
 split
 ·exact Ax1 h
 split
 ·exact Bb2 h
 split
 ·exact Ac9 h rfl rfl rfl rfl
 split
 ·exact Bu4 h
 ·exact h
theorem as_save (h:As M R T):As M R (save T):=by
 obtain ⟨h1,h2,h3,h4⟩:=h
 unfold save Ter.putSv
 rcases ho:T.other with _|o
 ·rw [ho] at h1;cases h1
 ·exact ⟨rfl,h2,h3,h4⟩
theorem as_restore (h:As M R T):As M R (restore T):=Ac9 h rfl rfl rfl rfl
theorem as_choose (h:As M R T) (x:AcT):As M R (choose T x):=by
 unfold choose
 split
 ·split
  ·unfold setG
   split
   ·exact Ac9 h rfl rfl rfl rfl
   ·exact Ac9 h rfl rfl rfl rfl
  ·exact h
 ·exact h
theorem as_escape (h:As M R T) (x:AcT) (hx:x.fin≠99):As M R (escape T x):=by
 unfold escape
 split
 ·split
  ·exact as_save h
  split
  ·exact as_restore h
  split
  ·exact Ax1 h
  split
  ·exact Bb2 h
  split
  ·exact Ac9 h rfl rfl rfl rfl
  split
  ·exact Bu4 h
  ·exact h
 ·exact as_choose h x
theorem Aq3 (h:As M R T) (f u:Int):As M R (Am8 T f u):=Aq4 (Bb1 h _)
theorem as_eraseLine (h:As M R T) (k:Int):As M R (eraseLine T k):=by
 unfold eraseLine
 split
 ·exact Aq3 h _ _
 split
 ·exact Aq3 h _ _
 split
 ·exact Aq3 h _ _
 ·exact h
theorem as_insL (h:As M R T) (l:List Int):As M R (insertLines T l):=by
 unfold insertLines
 split
 ·exact As6 (Br4 h _ _ _) _ _
 ·exact h
theorem as_delL (h:As M R T) (l:List Int):As M R (deleteLines T l):=by
 unfold deleteLines
 split
 ·exact As6 (Cm7 h _ _ _ rfl) _ _
 ·exact h
theorem as_marg (h:As M R T) (l:List Int):As M R (setMargins T l):=by
 unfold setMargins
 split
 ·exact As6 (Bu3 h rfl) _ _
 ·exact h
theorem as_tabs (h:As M R T) (l:List Int):As M R (clearTabs T l):=by
 unfold clearTabs
 split
 ·exact Ac9 h rfl rfl rfl rfl
 split
 ·exact Ac9 h rfl rfl rfl rfl
 ·exact h
theorem putM_a6 (T:Ter) (on:Bool) (n:Int):(putM T false on n).m.a6=T.m.a6:=by
 show (T.m.put false n on).a6=_
 unfold Mds.Md.put
 have h:Mds.spot false n=0\/Mds.spot false n=1\/Mds.spot false n=8:=by
  unfold Mds.spot
  simp only [Bool.false_eq_true,if_false]
  split
  ·exact .inl rfl
  split
  ·exact .inr (.inl rfl)
  ·exact .inr (.inr rfl)
 rcases h with h|h|h<;>rw [h]<;>rfl
theorem Bu1 (l:List Int) (on:Bool):∀ {T:Ter},As M R T->As M R (setModes T l on):=by
 unfold setModes
 induction l with
 |nil=>exact fun h=>h
 |cons a l ih=>exact fun h=>ih (Ac9 h rfl rfl rfl (putM_a6 _ _ _))
theorem as_report (h:As M R T) (l:List Int):As M R (report T l):=by
 unfold report
 split
 ·exact Ac9 h rfl rfl rfl rfl
 split
 ·exact Ac9 h rfl rfl rfl rfl
 ·exact h
theorem as_device (h:As M R T) (l:List Int):As M R (device T l):=by
 unfold device
 split
 ·exact Ac9 h rfl rfl rfl rfl
 ·exact h
theorem as_plain (h:As M R T) (f:Int) (l:List Int) (hf:f≠74):As M R (plain T f l):=by
 unfold plain
 have it:∀ {c:Prop} [Decidable c] {A B:Ter},(c->As M R A)->(¬ c->As M R B)->As M R (if c then A else B):=fun {c _ A B} ha hb=>by
  split
  ·next hc=>exact ha hc
  ·next hc=>exact hb hc
 have mv:∀ y x,As M R (move T y x):=fun y x=>As6 h y x
 refine it (fun _=>mv _ _) (fun _=>?_)
 refine it (fun _=>mv _ _) (fun _=>?_)
 refine it (fun _=>mv _ _) (fun _=>?_)
 refine it (fun _=>mv _ _) (fun _=>?_)
 refine it (fun _=>mv _ _) (fun _=>?_)
 refine it (fun _=>mv _ _) (fun _=>?_)
 refine it (fun _=>mv _ _) (fun _=>?_)
 refine it (fun _=>mv _ _) (fun _=>?_)
 refine it (fun _=>mv _ _) (fun _=>?_)
 refine it (fun _=>mv _ _) (fun _=>?_)
 refine it (fun _=>mv _ _) (fun _=>?_)
 refine it (fun h9=>absurd h9 hf) (fun _=>?_)
 refine it (fun _=>as_eraseLine h _) (fun _=>?_)
 refine it (fun _=>Aq3 h _ _) (fun _=>?_)
 refine it (fun _=>Aq4 (Bb1 h _)) (fun _=>?_)
 refine it (fun _=>Aq4 (Bb1 h _)) (fun _=>?_)
 refine it (fun _=>as_insL h _) (fun _=>?_)
 refine it (fun _=>as_delL h _) (fun _=>?_)
 refine it (fun _=>Aq4 (Ci8 h _ _)) (fun _=>?_)
 refine it (fun _=>Aq4 (Br4 h _ _ _)) (fun _=>?_)
 refine it (fun _=>as_marg h _) (fun _=>?_)
 refine it (fun _=>as_tabs h _) (fun _=>?_)
 refine it (fun _=>Ac9 h rfl rfl rfl rfl) (fun _=>?_)
 refine it (fun _=>Bu1 _ _ h) (fun _=>?_)
 refine it (fun _=>Bu1 _ _ h) (fun _=>?_)
 refine it (fun _=>as_report h _) (fun _=>?_)
 refine it (fun _=>as_device h _) (fun _=>?_)
 exact h
def stays (k pr f:Int):Prop:=¬ (k=3/\f=99)/\¬ (k=4/\(pr≠0/\(f=104\/f=108)\/f=74))
theorem as_do (h:As M R T) (x:AcT) (hx:stays x.kind x.priv x.fin):As M R (doT T x):=by
 obtain ⟨h1,h2⟩:=hx
 unfold doT
 split
 ·exact as_print h _
 split
 ·exact as_control h _
 split
 ·next h3=>exact as_escape h x (fun h9=>h1 ⟨h3,h9⟩)
 split
 ·next h4 =>
  unfold sequence
  split
  ·split
   ·exact as_plain h _ _ (fun h9=>h2 ⟨h4,.inr h9⟩)
   split
   ·next h5 h6 =>
    split
    ·next h7=>exact absurd ⟨h4,.inl ⟨h5,.inl h7⟩⟩ h2
    split
    ·next h7=>exact absurd ⟨h4,.inl ⟨h5,.inr h7⟩⟩ h2
    ·exact h
   ·exact h
  ·exact h
 ·exact h
theorem as_run (os:List OpA):∀ {T:Ter},As M R T->(∀ o∈os,o.size=false/\stays o.x.kind o.x.priv o.x.fin)->As M R (runT T os):=by
 induction os with
 |nil=>exact fun h _=>h
 |cons o os ih =>
  intro T h hs
  refine ih (T:=opT T o) ?_ (fun o' ho'=>hs o' (by simp [ho']))
  obtain ⟨h1,h2⟩:=hs o (by simp)
  unfold opT
  rw [h1]
  exact as_do h _ h2
end
def Pd (T:Ter):Prop:=T.c.pend=true->T.c.col+1=T.vis.cols
section
variable {T T':Ter}
theorem Cg1 (h:Pd T) (hc:T'.c=T.c) (hv:T'.vis.cols=T.vis.cols):Pd T':=by unfold Pd;rw [hc,hv];exact h
theorem Ca1 (h:T'.c.pend=false):Pd T':=fun h9=>by rw [h] at h9;cases h9
theorem An8 (T:Ter) (y x:Int):Pd (move T y x):=Ca1 rfl
theorem Bp3 (T:Ter):(feed T).c.pend=false:=by unfold feed;split<;>rfl
theorem Bx5 {S:Scr} (hc:S.cols=T.vis.cols):(T.putVis S).vis.cols=T.vis.cols:=by
 unfold Ter.putVis Ter.vis Ter.sh at *
 rcases ho:T.other with _|o<;>simp only [ho] at hc |-<;>exact hc
theorem Bg4 (h:Pd T) {S:Scr} (hc:S.cols=T.vis.cols):Pd (T.putVis S):=Cg1 h (Ay4 _ _) (Bx5 hc)
theorem Bk7 (h:Pd T) (l:List Cel):Pd (putLine T l):=Bg4 h rfl
theorem Cg0 (T:Ter) (x:Int) (w:Nat) (h1:1<=T.vis.cols):Pd (putT T x w):=by
 intro h9
 have hc:(putLine T (Aa3 T x w)).vis.cols=T.vis.cols:=Bx5 rfl
 have h8:(T.m.a4 && decide (Aj3 (T.c.col+w:Nat) (putLine T (Aa3 T x w)).vis.cols<T.c.col+w))=true:=h9
 show Aj3 (T.c.col+w:Nat) (putLine T (Aa3 T x w)).vis.cols+1=(putLine T (Aa3 T x w)).vis.cols
 rw [hc] at h8 |-
 simp only [Bool.and_eq_true,decide_eq_true_eq] at h8
 have:=h8.2
 unfold Aj3 at this |-
 omega
theorem pd_join (h:Pd T) (x:Int):Pd (Ay1 T x):=by
 unfold Ay1
 split
 ·exact Bk7 h _
 ·exact h
theorem pd_print (h:Pd T) (ok:Ok T) (x:Int):Pd (As3 T x):=by
 unfold As3
 generalize Cht.charsetF (if T.p.wh then T.p.g1 else T.p.g0) x=c
 simp only
 split
 ·exact pd_join h _
 split
 ·exact Cg0 _ _ _ (by rw [(Bf7 ok _).cols];exact ok.fit.c1)
 ·exact Cg0 _ _ _ (by rw [(Bf7 ok _).cols];exact ok.fit.c1)
theorem Ar5 (T:Ter):Pd (rowDown T):=Ca1 (Bp3 T)
theorem Bx3 (T:Ter):Pd (rowUp T):=by
 unfold rowUp
 split<;>exact An8 _ _ _
theorem pd_newLine (T:Ter):Pd (newLine T):=by
 unfold newLine
 exact Ca1 (Bp3 _)
theorem pd_control (h:Pd T) (x:Int):Pd (control T x):=by
 unfold control
 split
 ·exact An8 _ _ _
 split
 ·exact Ca1 rfl
 split
 ·exact pd_newLine _
 split
 ·exact Ca1 rfl
 split
 ·exact h
 split
 ·exact h
 split
 ·exact Ar5 _
 split
 ·exact Ar5 _
 split
 ·exact h
 split
 ·exact Bx3 _
 ·exact h
theorem Ay3 (T:Ter):Pd (restore T):=fun h9=>by
 have h8:(T.sh.sv.c.pend && decide (T.sh.sv.c.col+1=T.vis.cols))=true:=h9
 simp only [Bool.and_eq_true,decide_eq_true_eq] at h8
 exact h8.2
theorem save_c (T:Ter):(save T).c=T.c:=by unfold save Ter.putSv;split<;>rfl
theorem save_cols (T:Ter):(save T).vis.cols=T.vis.cols:=by
 unfold save Ter.putSv
 rcases ho:T.other with _|o<;>simp [Ter.vis,Ter.sh,Sh.scr,ho]
theorem Bs9 (h:Pd T):Pd (save T):=Cg1 h (save_c T) (save_cols T)
theorem pd_choose (h:Pd T) (x:AcT):Pd (choose T x):=by
 unfold choose
 split
 ·split
  ·unfold setG
   split<;>exact h
  ·exact h
 ·exact h
theorem pd_escape (h:Pd T) (x:AcT):Pd (escape T x):=by
 unfold escape
 split
 ·split
  ·exact Bs9 h
  split
  ·exact Ay3 _
  split
  ·exact Ar5 _
  split
  ·exact Ar5 _
  split
  ·exact h
  split
  ·exact Bx3 _
  split
  ·exact Ca1 rfl
  ·exact h
 ·exact pd_choose h x
theorem Ar4 (h:Pd T) (f u:Int):Pd (Am8 T f u):=Bk7 h _
theorem Az4 (h:Pd T) (k:Int):Pd (eraseLine T k):=by
 unfold eraseLine
 split
 ·exact Ar4 h _ _
 split
 ·exact Ar4 h _ _
 split
 ·exact Ar4 h _ _
 ·exact h
theorem pd_eraseScr (h:Pd T) (k:Int):Pd (Ak9 T k):=by
 unfold Ak9
 refine Az4 ?_ k
 split
 ·exact Bg4 h rfl
 split
 ·exact Bg4 h rfl
 split
 ·exact Bg4 h rfl
 split
 ·exact h
 ·exact h
theorem Bx2 (l:List Int) (on:Bool):∀ {T:Ter},Pd T->Pd (setModes T l on):=by
 unfold setModes
 induction l with
 |nil=>exact fun h=>h
 |cons a l ih=>exact fun h=>ih h
theorem pd_plain (h:Pd T) (f:Int) (l:List Int):Pd (plain T f l):=by
 unfold plain
 have it:∀ {c:Prop} [Decidable c] {A B:Ter},Pd A->Pd B->Pd (if c then A else B):=fun {c _ A B} ha hb=>by
  split
  ·exact ha
  ·exact hb
 have mv:∀ y x,Pd (move T y x):=fun y x=>An8 T y x
 refine it (mv _ _) (it (mv _ _) (it (mv _ _) (it (mv _ _) (it (mv _ _) (it (mv _ _) (it (mv _ _) (it (mv _ _) (it (mv _ _) (it (mv _ _) (it (mv _ _) ?_))))))))))
 refine it (pd_eraseScr h _) (it (Az4 h _) (it (Ar4 h _ _) (it (Bk7 h _) (it (Bk7 h _) ?_))))
 refine it (it (An8 _ _ _) h) (it (it (An8 _ _ _) h) (it (Bg4 h rfl) (it (Bg4 h rfl) ?_)))
 refine it (it (An8 _ _ _) h) (it (it h (it h h)) (it h (it (Bx2 _ _ h) (it (Bx2 _ _ h) (it (it h (it h h)) (it (it h h) h))))))
theorem Be0 (h:Pd T) (on:Bool):Pd (setOther T on):=by
 unfold setOther
 split
 ·exact h
 ·split<;>exact An8 _ _ _
theorem pd_priv1 (h:Pd T) (n:Int) (on:Bool):Pd (Ao6 T n on):=by
 unfold Ao6
 split
 ·exact An8 _ _ _
 split
 ·exact Be0 h on
 split
 ·unfold setSaved
  split
  ·exact Bs9 h
  ·exact Ay3 _
 split
 ·unfold setOtherSaved
  split
  ·exact h
  split
  ·exact Be0 (Bs9 h) true
  ·exact Ay3 _
 ·exact h
theorem Bd9 (l:List Int) (on:Bool):∀ {T:Ter},Pd T->Pd (Ac1 T l on):=by
 unfold Ac1
 induction l with
 |nil=>exact fun h=>h
 |cons a l ih=>exact fun h=>ih (pd_priv1 h _ _)
theorem pd_do (h:Pd T) (ok:Ok T) (x:AcT):Pd (doT T x):=by
 unfold doT
 split
 ·exact pd_print h ok _
 split
 ·exact pd_control h _
 split
 ·exact pd_escape h x
 split
 ·unfold sequence
  split
  ·split
   ·exact pd_plain h _ _
   split
   ·split
    ·exact Bd9 _ _ h
    split
    ·exact Bd9 _ _ h
    ·exact h
   ·exact h
  ·exact h
 ·exact h
theorem pd_op (h:Pd T) (ok:Ok T) (o:OpA):Pd (opT T o):=by
 unfold opT
 split
 ·unfold resizeT
  split
  ·exact An8 _ _ _
  ·exact h
 ·exact pd_do h ok _
theorem ok_op (ok:Ok T) (o:OpA):Ok (opT T o):=by
 unfold opT
 split
 ·exact ok.resizeT _ _
 ·exact (Cd2 ok _).ok
theorem pd_run (os:List OpA):∀ {T:Ter},Pd T->Ok T->Pd (runT T os):=by
 induction os with
 |nil=>exact fun h _=>h
 |cons o os ih=>exact fun h ok=>ih (pd_op h ok o) (ok_op ok o)
end
section
variable {T T2:Ter}
theorem Bp6 (T:Ter) (on:Bool):Ao6 T (Ak3 1049) on=setOtherSaved T on:=by
 unfold Ao6
 rw [if_neg (by decide),if_neg (by decide),if_neg (by decide),if_pos (by decide)]
theorem do_on (T:Ter):doT T (csA 63 [1049] 104)=setOtherSaved T true:=Bp6 T true
theorem do_off (T:Ter):doT T (csA 63 [1049] 108)=setOtherSaved T false:=Bp6 T false
theorem alone (ok:Ok T) (h6:T.m.a6=false):T.other=none:=by
 have h:=ok.alt
 rw [h6] at h
 rcases ho:T.other with _|o
 ·rfl
 ·rw [ho] at h;cases h
theorem as_on (ok:Ok T) (h6:T.m.a6=false):As (save T).main T.R (doT T (csA 63 [1049] 104)):=by
 have ho:=alone ok h6
 have e:save T={ T with main:={ T.main with sv:=⟨T.c,T.p,T.m.a3⟩ } }:=by unfold save Ter.putSv;rw [ho]
 rw [do_on]
 unfold setOtherSaved
 rw [if_neg (by rw [h6];decide),if_pos rfl,e]
 unfold setOther
 rw [if_neg (by show ¬ true=T.m.a6;rw [h6];decide)]
 exact ⟨rfl,rfl,rfl,rfl⟩
theorem as_off (ok:Ok T) (hp:Pd T) (h6:T.m.a6=false) (h2:As (save T).main T.R T2) :
  (doT T2 (csA 63 [1049] 108)).vis.L=T.vis.L/\(doT T2 (csA 63 [1049] 108)).vis.cols=T.vis.cols/\(doT T2 (csA 63 [1049] 108)).vis.top=T.vis.top/\(doT T2 (csA 63 [1049] 108)).vis.bot=T.vis.bot/\(doT T2 (csA 63 [1049] 108)).R=T.R/\(doT T2 (csA 63 [1049] 108)).c=T.c/\(doT T2 (csA 63 [1049] 108)).p=T.p/\(doT T2 (csA 63 [1049] 108)).other=none:=by
 have ho:=alone ok h6
 have e:save T={ T with main:={ T.main with sv:=⟨T.c,T.p,T.m.a3⟩ } }:=by unfold save Ter.putSv;rw [ho]
 have hv:T.vis=T.main.scr T.nx T.most true T.R:=by unfold Ter.vis Ter.sh;rw [ho];rfl
 obtain ⟨h3,h4,h5,h7⟩:=h2
 rw [e] at h4
 simp only at h4
 rw [do_off]
 have e2:setOtherSaved T2 false=restore (setOther T2 false):=by
  unfold setOtherSaved
  rw [if_neg (by rw [h7];decide),if_neg (by decide)]
 have e3:setOther T2 false=move (showMain (Emu.setAlt T2 false)) T2.c.row T2.c.col:=by
  unfold setOther
  rw [if_neg (by rw [h7];decide)]
  rfl
 rw [e2,e3]
 have ev:(restore (move (showMain (Emu.setAlt T2 false)) T2.c.row T2.c.col)).vis=T2.main.scr T2.nx T2.most true T2.R:=rfl
 have ec:(restore (move (showMain (Emu.setAlt T2 false)) T2.c.row T2.c.col)).c={ T2.main.sv.c with pend:=T2.main.sv.c.pend && decide (T2.main.sv.c.col+1=T2.main.cols) }:=rfl
 have ep:(restore (move (showMain (Emu.setAlt T2 false)) T2.c.row T2.c.col)).p=T2.main.sv.p:=rfl
 have er:(restore (move (showMain (Emu.setAlt T2 false)) T2.c.row T2.c.col)).R=T2.R:=rfl
 rw [ev,ec,ep,er,h4,hv]
 refine ⟨rfl,rfl,rfl,rfl,h5,?_,rfl,rfl⟩
 have hp2:T.c.pend=true->T.c.col+1=T.main.cols:=fun h9=>by
  have:=hp h9
  rw [hv] at this
  exact this
 show Cur.mk T.c.row T.c.col (T.c.pend && decide (T.c.col+1=T.main.cols))=T.c
 rcases hc:T.c with ⟨cr,cc,cp⟩
 cases cp with
 |false=>rfl
 |true =>
  rw [hc] at hp2
  have h9:=hp2 rfl
  simp only at h9 |-
  rw [decide_eq_true h9]
  rfl
end
