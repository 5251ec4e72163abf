/- Part 48 of the proof that the card of EmuReset holds. -/
import Derived.Test.YtkjpjegmanpbfaaGreatDoorPR45
set_option maxHeartbeats 16000000
set_option maxRecDepth 100000
namespace Go.Proofs.YtkjpjegmanpbfaaGreatDoor.Emu
open Go Rw Lns Scn
def Mo (b:Nat) (T:Ter):Prop:=T.most=b
section
variable {T:Ter} {b:Nat}
theorem Bv9 {T':Ter} (h:Mo b T) (e:T'.most=T.most):Mo b T':=e.trans h
theorem An7 (h:Mo b T) (S:Scr):Mo b (T.putVis S):=by
 refine Bv9 h ?_
 unfold Ter.putVis
 split<;>rfl
theorem Ao6 (h:Mo b T) (e:Ev):Mo b (tell T e):=h
theorem mo_place (h:Mo b T) (y x:Int):Mo b (place T y x):=h
theorem Bo5 (h:Mo b T) (y x:Int):Mo b (move T y x):=h
theorem Bg9 (h:Mo b T) (l:List Cel):Mo b (putLine T l):=An7 h _
theorem Bl5 (h:Mo b T):Mo b (feed T):=by
 unfold feed
 split
 ·exact mo_place (An7 h _) _ _
 ·exact h
theorem Co6 (h:Mo b T) (w:Nat):Mo b (makeWay T w):=by
 unfold makeWay
 split
 ·exact Ao6 (Bl5 (T:=setCol T 0) h) _
 split
 ·exact h
 ·exact h
theorem Cj6 (h:Mo b T) (e:Ev) (x:Int):Mo b (tellRune T e x):=h
theorem mo_join (h:Mo b T) (x:Int):Mo b (Aw2 T x):=by
 unfold Aw2
 split
 ·exact Cj6 (Bg9 h _) _ _
 ·exact h
theorem Cd8 (h:Mo b T) (x:Int) (w:Nat):Mo b (putT T x w):=Bv9 (Cj6 (Bg9 h (Aa3 T x w)) (Ac4 T w) x) rfl
theorem mo_print (h:Mo b T) (x:Int):Mo b (Ar4 T x):=by
 unfold Ar4
 generalize Cht.charsetF (if T.p.wh then T.p.g1 else T.p.g0) x=c
 simp only
 split
 ·exact mo_join h _
 split
 ·exact Cd8 (Co6 h _) _ _
 ·exact Cd8 (Co6 h _) _ _
theorem Az2 (h:Mo b T):Mo b (rowDown T):=Ao6 (Bl5 h) _
theorem Bf1 (h:Mo b T):Mo b (nextLine T):=Az2 (T:=setCol T 0) h
theorem Bw9 (h:Mo b T):Mo b (rowUp T):=by
 unfold rowUp
 split
 ·exact Bo5 (An7 h _) _ _
 ·exact h
theorem mo_newLine (h:Mo b T):Mo b (newLine T):=by
 unfold newLine
 split
 ·exact Ao6 (Bl5 (T:=setCol T 0) h) _
 ·exact Ao6 (Bl5 h) _
theorem mo_control (h:Mo b T) (x:Int):Mo b (control T x):=by
 unfold control
 split
 ·exact h
 split
 ·exact h
 split
 ·exact mo_newLine h
 split
 ·exact h
 split
 ·exact h
 split
 ·exact h
 split
 ·exact Az2 h
 split
 ·exact Bf1 h
 split
 ·exact h
 split
 ·exact Bw9 h
 ·exact h
theorem Bv4 (h:Mo b T):Mo b (save T):=by
 refine Bv9 h ?_
 unfold save Ter.putSv
 split<;>rfl
theorem mo_choose (h:Mo b T) (x:AcT):Mo b (choose T x):=by
 unfold choose
 split
 ·split
  ·unfold setG
   split
   ·exact h
   ·exact h
  ·exact h
 ·exact h
theorem mo_escape (h:Mo b T) (x:AcT):Mo b (escape T x):=by
 unfold escape
 split
 ·split
  ·exact Bv4 h
  split
  ·exact h
  split
  ·exact Az2 h
  split
  ·exact Bf1 h
  split
  ·exact h
  split
  ·exact Bw9 h
  split
  ·exact h
  ·exact h
 ·exact mo_choose h x
theorem At3 (h:Mo b T) (f u:Int):Mo b (Am6 T f u):=Ao6 (Bg9 h _) _
theorem Bb3 (h:Mo b T) (k:Int):Mo b (eraseLine T k):=by
 unfold eraseLine
 split
 ·exact At3 h _ _
 split
 ·exact At3 h _ _
 split
 ·exact At3 h _ _
 ·exact h
theorem mo_eraseScr (h:Mo b T) (k:Int):Mo b (Ai5 T k):=by
 unfold Ai5
 refine Bb3 ?_ k
 split
 ·exact An7 h _
 split
 ·exact An7 h _
 split
 ·exact An7 h _
 split
 ·exact h
 ·exact h
theorem Bx5 (l:List Int) (on:Bool):∀ {T:Ter},Mo b T->Mo b (setModes T l on):=by
 unfold setModes
 induction l with
 |nil=>exact fun h=>h
 |cons a l ih=>exact fun {T} h=>ih (T:=putM T false on (Ak1 a)) h
theorem mo_plain (h:Mo b T) (f:Int) (l:List Int):Mo b (plain T f l):=by
 unfold plain
 have it:∀ {c:Prop} [Decidable c] {A B:Ter},Mo b A->Mo b B->Mo b (if c then A else B):=fun {c _ A B} ha hb=>by
  split
  ·exact ha
  ·exact hb
 refine it h (it h (it h (it h (it h (it h (it h (it h (it h (it h (it h ?_))))))))))
 refine it (mo_eraseScr h _) (it (Bb3 h _) (it (At3 h _ _) (it (Ao6 (Bg9 h _) _) (it (Ao6 (Bg9 h _) _) ?_))))
 refine it (it (Bo5 (An7 h _) _ _) h) (it (it (Bo5 (An7 h _) _ _) h) (it (Ao6 (An7 h _) _) (it (Ao6 (An7 h _) _) ?_)))
 refine it (it (Bo5 (An7 h _) _ _) h) (it (it h (it h h)) (it h (it (Bx5 _ _ h) (it (Bx5 _ _ h) (it (it h (it h h)) (it (it h h) h))))))
theorem Au6 (h:Mo b T) (on:Bool):Mo b (setOther T on):=by
 unfold setOther
 split
 ·exact h
 ·split
  ·exact h
  ·exact h
theorem mo_priv1 (h:Mo b T) (n:Int) (on:Bool):Mo b (Ao2 T n on):=by
 unfold Ao2
 split
 ·exact h
 split
 ·exact Au6 h on
 split
 ·unfold setSaved
  split
  ·exact Bv4 h
  ·exact h
 split
 ·unfold setOtherSaved
  split
  ·exact h
  split
  ·exact Au6 (Bv4 h) true
  ·exact Au6 h false
 ·exact h
theorem Bd6 (l:List Int) (on:Bool):∀ {T:Ter},Mo b T->Mo b (Ab9 T l on):=by
 unfold Ab9
 induction l with
 |nil=>exact fun h=>h
 |cons a l ih=>exact fun h=>ih (mo_priv1 h _ _)
theorem mo_do (h:Mo b T) (x:AcT):Mo b (doT T x):=by
 unfold doT
 split
 ·exact mo_print h _
 split
 ·exact mo_control h _
 split
 ·exact mo_escape h x
 split
 ·unfold sequence
  split
  ·split
   ·exact mo_plain h _ _
   split
   ·split
    ·exact Bd6 _ _ h
    split
    ·exact Bd6 _ _ h
    ·exact h
   ·exact h
  ·exact h
 ·exact h
theorem mo_resize (h:Mo b T) (r c:Int):Mo b (resizeT T r c):=by
 unfold resizeT
 split
 ·unfold Ad7
  simp only
  split
  ·exact An7 h _
  ·exact An7 h _
 ·exact h
theorem mo_run (os:List OpA):∀ {T:Ter},Mo b T->Mo b (runT T os):=by
 induction os with
 |nil=>exact fun h=>h
 |cons o os ih =>
  intro T h
  refine ih (T:=opT T o) ?_
  unfold opT
  split
  ·exact mo_resize h _ _
  ·exact mo_do h _
end
def sln (d:Nat) (p:Ln):Ln:=(p.1+d,p.2)
def sl (d:Nat) (L:List Ln):List Ln:=L.map (sln d)
def sS (d:Nat) (S:Scr):Scr:={ S with nx:=S.nx+d,L:=sl d S.L,R:=sl d S.R }
def sSh (d:Nat) (h:Sh):Sh:={ h with L:=sl d h.L }
section
variable {d:Nat}
theorem Ax4 (L:List Ln):(sl d L).length=L.length:=List.length_map _
theorem Ca8 (nx cols m:Nat) (a:At):Ac3 (nx+d) cols m a=sl d (Ac3 nx cols m a):=by
 unfold Ac3 sl
 rw [List.map_map]
 refine List.map_congr_left fun j _=>?_
 show (((nx+d:Nat):Int)+(j:Int),Ae6 cols a)=((nx:Int)+(j:Int)+(d:Int),Ae6 cols a)
 congr 1
 omega
theorem sl_push (most:Nat) (R:List Ln) (p:Ln):Ai3 most (sl d R) (sln d p)=sl d (Ai3 most R p):=by
 unfold Ai3
 rw [Ax4]
 split
 ·simp [sl]
 ·simp [sl]
theorem sl_pushes (most:Nat) (ls:List Ln):∀ R:List Ln,Aj9 most (sl d R) (sl d ls)=sl d (Aj9 most R ls):=by
 induction ls with
 |nil=>exact fun R=>rfl
 |cons p ls ih =>
  intro R
  show Aj9 most (Ai3 most (sl d R) (sln d p)) (sl d ls)=_
  rw [sl_push]
  exact ih _
theorem Cb9 (S:Scr) (f k i m:Nat) (a:At) (push:Bool):chg (sS d S) f k i m a push=sS d (chg S f k i m a push):=by
 have h1:insA (outA (sl d S.L) f k) i (Ac3 (S.nx+d) S.cols m a)=sl d (insA (outA S.L f k) i (Ac3 S.nx S.cols m a)):=by
  rw [Ca8]
  unfold sl
  rw [insA_map,Bn3]
 have h2:Aj9 S.most (sl d S.R) (((sl d S.L).drop f).take k)=sl d (Aj9 S.most S.R ((S.L.drop f).take k)):=by
  rw [<- sl_pushes]
  unfold sl
  rw [List.map_take,List.map_drop]
 have h3:S.nx+d+m=S.nx+m+d:=by omega
 unfold chg
 show Scr.mk (S.nx+d+m) S.most S.kp S.cols S.top S.bot (insA (outA (sl d S.L) f k) i (Ac3 (S.nx+d) S.cols m a)) (if push then Aj9 S.most (sl d S.R) (((sl d S.L).drop f).take k) else sl d S.R)=Scr.mk (S.nx+m+d) S.most S.kp S.cols S.top S.bot (sl d (insA (outA S.L f k) i (Ac3 S.nx S.cols m a))) (sl d (if push then Aj9 S.most S.R ((S.L.drop f).take k) else S.R))
 rw [h1,h2,h3]
 cases push<;>rfl
theorem Cq2 (S:Scr) (frm:Nat) (n:Int) (a:At) (push:Bool):upS (sS d S) frm n a push=sS d (upS S frm n a push):=Cb9 S _ _ _ _ a push
theorem sS_down (S:Scr) (q:Nat) (n:Int) (a:At):Af6 (sS d S) q n a=sS d (Af6 S q n a):=Cb9 S _ _ _ _ a false
theorem sS_upT (S:Scr) (n:Int) (a:At):upT (sS d S) n a=sS d (upT S n a):=Cq2 S _ n a _
theorem sS_put (S:Scr) (i:Nat) (l:List Cel):Ae1 (sS d S) i l=sS d (Ae1 S i l):=by
 have h:(sl d S.L).modify i (fun p=>(p.1,l))=sl d (S.L.modify i fun p=>(p.1,l)):=by
  apply List.ext_getElem?
  intro j
  unfold sl
  rw [List.getElem?_modify,List.getElem?_map,List.getElem?_map,List.getElem?_modify]
  rcases S.L[j]? with _|p
  ·simp
  ·by_cases hj:i=j
   ·simp [hj,sln]
   ·simp [hj]
 show ({ sS d S with L:=(sl d S.L).modify i fun p=>(p.1,l) }:Scr)=_
 rw [h]
 rfl
theorem sS_wide (S:Scr) (cols:Nat):Bh7 (sS d S) cols=sS d (Bh7 S cols):=by
 have h:(sl d S.L).map (fun p=>(p.1,resL p.2 cols))=sl d (S.L.map fun p=>(p.1,resL p.2 cols)):=by
  unfold sl
  rw [List.map_map,List.map_map]
  rfl
 show ({ sS d S with cols:=cols,L:=(sl d S.L).map (fun p=>(p.1,resL p.2 cols)) }:Scr)=_
 rw [h]
 rfl
theorem sS_marg (S:Scr):Bh3 (sS d S)=sS d (Bh3 S):=by
 show ({ sS d S with top:=0,bot:=(sl d S.L).length - 1 }:Scr)=_
 rw [Ax4]
 rfl
theorem Co2 (S:Scr) (rows cols y:Nat):resS (sS d S) rows cols y=sS d (resS S rows cols y):=by
 have h1:resA (sS d S) rows y=sS d (resA S rows y):=Cb9 S _ _ _ _ _ _
 have h2:∀ S1:Scr,resB (sS d S1) rows=sS d (resB S1 rows):=fun S1=>by
  unfold resB
  rw [show (sS d S1).L.length=S1.L.length from Ax4 _]
  exact Cb9 S1 _ _ _ _ _ _
 unfold resS
 rw [h1,h2,sS_wide,sS_marg]
theorem sl_era (L:List Ln) (f t cols:Nat) (a:At):eraRows (sl d L) f t cols a=sl d (eraRows L f t cols a):=by
 apply List.ext_getElem?
 intro j
 unfold eraRows sl
 rw [List.getElem?_mapIdx,List.getElem?_map,List.getElem?_map,List.getElem?_mapIdx]
 rcases L[j]? with _|p
 ·rfl
 ·show some (if f<=j/\j<t then _ else _)=some (sln d (if f<=j/\j<t then _ else _))
  split<;>rfl
theorem Bx3 (h:Sh):(sSh d h).hold=sSh d h.hold:=by
 show ({ sSh d h with sv:=Bs1 h.sv (sl d h.L).length h.cols }:Sh)=_
 rw [Ax4]
 rfl
end
structure Sim (d:Nat) (T U:Ter):Prop where
 m:T.m=U.m
 c:T.c=U.c
 p:T.p=U.p
 nx:T.nx=U.nx+d
 most:T.most=U.most
 R:T.R=sl d U.R
 main:T.main=sSh d U.main
 other:T.other=U.other.map (sSh d)
 tn:T.tn=U.tn
 tf:T.tf=U.tf
 rp:T.rp=U.rp
section
variable {d:Nat} {T U:Ter}
theorem Co9 (h:Sim d T U):T.sh=sSh d U.sh:=by
 unfold Ter.sh
 rw [h.other,h.main]
 rcases U.other with _|o<;>rfl
theorem Aj4 (h:Sim d T U):T.vis=sS d U.vis:=by
 have h1:=Co9 h
 unfold Ter.vis
 rw [h1,h.nx,h.most,h.R,h.other]
 rcases U.other with _|o<;>rfl
theorem Bd1 (h:Sim d T U):T.vis.L.length=U.vis.L.length:=by rw [Aj4 h];exact Ax4 _
theorem Ap2 (h:Sim d T U):T.vis.cols=U.vis.cols:=by rw [Aj4 h];rfl
theorem Az8 (h:Sim d T U):T.vis.top=U.vis.top:=by rw [Aj4 h];rfl
theorem Bm4 (h:Sim d T U):T.vis.bot=U.vis.bot:=by rw [Aj4 h];rfl
theorem Bf4 (h:Sim d T U):line T=line U:=by
 unfold line
 rw [Aj4 h,h.c]
 show (((sl d U.vis.L)[U.c.row]?).map (·.2)).getD []=_
 unfold sl
 rw [List.getElem?_map]
 rcases U.vis.L[U.c.row]? with _|p<;>rfl
theorem Sim.ite {c c':Prop} [Decidable c] [Decidable c'] {A B A' B':Ter} (hc:c↔c') (ha:c'->Sim d A A') (hb:¬ c'->Sim d B B'):Sim d (if c then A else B) (if c' then A' else B'):=by
 by_cases h:c'
 ·rw [if_pos h,if_pos (hc.2 h)];exact ha h
 ·rw [if_neg h,if_neg (fun h9=>h (hc.1 h9))];exact hb h
theorem Sim.it {c:Prop} [Decidable c] {A B A' B':Ter} (ha:Sim d A A') (hb:Sim d B B'):Sim d (if c then A else B) (if c then A' else B'):=Sim.ite Iff.rfl (fun _=>ha) (fun _=>hb)
theorem Au9 (h:Sim d T U) {S S':Scr} (hS:S=sS d S'):Sim d (T.putVis S) (U.putVis S'):=by
 subst hS
 obtain ⟨h1,h2,h3,h4,h5,h6,h7,h8,h9,h10,h11⟩:=h
 unfold Ter.putVis
 rw [h8]
 rcases ho:U.other with _|o
 ·exact ⟨h1,h2,h3,rfl,h5,rfl,by show T.main.of (sS d S')=_;rw [h7];rfl,rfl,h9,h10,h11⟩
 ·exact ⟨h1,h2,h3,rfl,h5,rfl,h7,rfl,h9,h10,h11⟩
theorem Cp5 (h:Sim d T U) {c c':Cur} (e:c=c'):Sim d { T with c:=c } { U with c:=c' }:=⟨h.m,e,h.p,h.nx,h.most,h.R,h.main,h.other,h.tn,h.tf,h.rp⟩
theorem Cm0 (h:Sim d T U) {c c':Mds.Md} (e:c=c'):Sim d { T with m:=c } { U with m:=c' }:=⟨e,h.c,h.p,h.nx,h.most,h.R,h.main,h.other,h.tn,h.tf,h.rp⟩
theorem Cm1 (h:Sim d T U) {c c':Pen} (e:c=c'):Sim d { T with p:=c } { U with p:=c' }:=⟨h.m,h.c,e,h.nx,h.most,h.R,h.main,h.other,h.tn,h.tf,h.rp⟩
theorem Cg2 (h:Sim d T U) {c c':Nat->Bool} (e:c=c'):Sim d { T with tf:=c } { U with tf:=c' }:=⟨h.m,h.c,h.p,h.nx,h.most,h.R,h.main,h.other,h.tn,e,h.rp⟩
theorem Bc0 (h:Sim d T U) (e e':Ev):Sim d (tell T e) (tell U e'):=⟨h.m,h.c,h.p,h.nx,h.most,h.R,h.main,h.other,h.tn,h.tf,h.rp⟩
theorem Ak0 (h:Sim d T U):Sim d (tellOther T) (tellOther U):=Bc0 h _ _
theorem Ba6 (h:Sim d T U):Sim d (tellStraight T) (tellStraight U):=Bc0 h _ _
theorem An2 (h:Sim d T U) {y x y' x':Int} (hy:y=y') (hx:x=x'):Sim d (place T y x) (place U y' x'):=by
 subst hy hx
 refine Cp5 h ?_
 rw [Bd1 h,Ap2 h]
theorem Ad1 (h:Sim d T U) {y x y' x':Int} (hy:y=y') (hx:x=x'):Sim d (move T y x) (move U y' x'):=Ak0 (An2 h hy hx)
theorem Aw7 (h:Sim d T U) {l l':List Cel} (e:l=l'):Sim d (putLine T l) (putLine U l'):=Au9 h (by rw [Aj4 h,h.c,sS_put,e])
theorem sim_up (h:Sim d T U) {f f':Nat} (n:Int) {b b':Bool} (hf:f=f') (hb:b=b'):Sim d (T.putVis (upS T.vis f n T.p.a b)) (U.putVis (upS U.vis f' n U.p.a b')):=Au9 h (by rw [Aj4 h,h.p,hf,hb,Cq2])
theorem Ck0 (h:Sim d T U) (n:Int):Sim d (T.putVis (upT T.vis n T.p.a)) (U.putVis (upT U.vis n U.p.a)):=Au9 h (by rw [Aj4 h,h.p,sS_upT])
theorem Bl7 (h:Sim d T U) {f f':Nat} (n:Int) (hf:f=f'):Sim d (T.putVis (Af6 T.vis f n T.p.a)) (U.putVis (Af6 U.vis f' n U.p.a)):=Au9 h (by rw [Aj4 h,h.p,hf,sS_down])
theorem Al7 (h:Sim d T U):(T.c.row:Int)=U.c.row:=by rw [h.c]
theorem Am1 (h:Sim d T U):(T.c.col:Int)=U.c.col:=by rw [h.c]
theorem Bm0 (h:Sim d T U):Sim d (feed T) (feed U):=by
 unfold feed
 refine Sim.ite (by rw [h.c,Bm4 h]) (fun _=>?_) (fun _=>?_)
 ·exact An2 (Ck0 h 1) (Al7 h) (Am1 h)
 ·exact An2 h (by rw [h.c]) (Am1 h)
theorem Ar8 (h:Sim d T U) {n n':Nat} (e:n=n'):Sim d (setCol T n) (setCol U n'):=Cp5 h (by rw [h.c,e])
theorem Ba1 (h:Sim d T U) (b b':Bool):Sim d (tellFeed T b) (tellFeed U b'):=Bc0 h _ _
theorem Ci3 (h:Sim d T U) (w:Nat):Sim d (makeWay T w) (makeWay U w):=by
 have ht:Al2 T w=Al2 U w:=by unfold Al2;rw [Ap2 h,h.c]
 unfold makeWay
 refine Sim.ite (by rw [ht,h.m,h.c]) (fun _=>?_) (fun _=>?_)
 ·exact Ba1 (Bm0 (Ar8 h rfl)) _ _
 ·refine Sim.ite (by rw [ht]) (fun _=>?_) (fun _=>h)
  exact Ar8 h (by rw [h.c])
theorem By6 (h:Sim d T U) (e e':Ev) (x x':Int):Sim d (tellRune T e x) (tellRune U e' x'):=⟨h.m,h.c,h.p,h.nx,h.most,h.R,h.main,h.other,h.tn,h.tf,h.rp⟩
theorem sim_join (h:Sim d T U) (x:Int):Sim d (Aw2 T x) (Aw2 U x):=by
 have hj:Ak4 T=Ak4 U:=by unfold Ak4;rw [h.c]
 have hl:=Bf4 h
 unfold Aw2
 refine Sim.ite (by rw [hj,hl]) (fun _=>?_) (fun _=>h)
 unfold Am9
 rw [hj,hl]
 exact By6 (Aw7 h rfl) _ _ _ _
theorem Cb0 (h:Sim d T U) (x:Int) (w:Nat):Sim d (putT T x w) (putT U x w):=by
 have hp:Aa3 T x w=Aa3 U x w:=by unfold Aa3;rw [Bf4 h,h.m,h.c,h.p]
 unfold putT Bi9
 rw [hp,h.c,h.m]
 have h1:Sim d (tellRune (putLine T (Aa3 U x w)) (Ac4 T w) x) (tellRune (putLine U (Aa3 U x w)) (Ac4 U w) x):=By6 (Aw7 h rfl) _ _ _ _
 have h2:=An2 h1 (Al7 h1) (rfl:((U.c.col+w:Nat):Int)=_)
 exact Cp5 h2 (by rw [h2.c])
theorem sim_print (h:Sim d T U) (x:Int):Sim d (Ar4 T x) (Ar4 U x):=by
 unfold Ar4
 rw [h.p,Ap2 h]
 generalize Cht.charsetF (if U.p.wh then U.p.g1 else U.p.g0) x=c
 simp only
 exact Sim.it (sim_join h _) (Sim.it (Cb0 (Ci3 h _) _ _) (Cb0 (Ci3 h _) _ _))
theorem sim_stepBack (h:Sim d T U):Sim d (stepBack T) (stepBack U):=Ad1 h (Al7 h) (by rw [h.c])
theorem sim_nextTab (h:Sim d T U):Sim d (nextTab T) (nextTab U):=Ba6 (An2 h (Al7 h) (by rw [h.c,h.tn,h.tf]))
theorem sim_newLine (h:Sim d T U):Sim d (newLine T) (newLine U):=by
 unfold newLine
 rw [h.m]
 exact Ba1 (Bm0 (Sim.it (Ar8 h rfl) h)) _ _
theorem sim_begin (h:Sim d T U):Sim d (lineBegin T) (lineBegin U):=Ba6 (An2 h (Al7 h) rfl)
theorem Co0 (h:Sim d T U) (b:Bool):Sim d (setWh T b) (setWh U b):=Cm1 h (by rw [h.p])
theorem Av3 (h:Sim d T U):Sim d (rowDown T) (rowDown U):=Ak0 (Bm0 h)
theorem Ba7 (h:Sim d T U):Sim d (nextLine T) (nextLine U):=Av3 (Ar8 h rfl)
theorem Bj6 (h:Sim d T U):Sim d (setTab T) (setTab U):=Cg2 h (by rw [h.tf,h.c])
theorem Bp9 (h:Sim d T U):Sim d (rowUp T) (rowUp U):=by
 unfold rowUp
 refine Sim.ite (by rw [h.c,Az8 h]) (fun _=>?_) (fun _=>?_)
 ·exact Ad1 (Bl7 h 1 (Az8 h)) (Al7 h) (Am1 h)
 ·exact Ad1 h (by rw [h.c]) (Am1 h)
theorem sim_control (h:Sim d T U) (x:Int):Sim d (control T x) (control U x):=by
 unfold control
 exact Sim.it (sim_stepBack h) (Sim.it (sim_nextTab h) (Sim.it (sim_newLine h) (Sim.it (sim_begin h) (Sim.it (Co0 h _) (Sim.it (Co0 h _) (Sim.it (Av3 h) (Sim.it (Ba7 h) (Sim.it (Bj6 h) (Sim.it (Bp9 h) h)))))))))
theorem sim_sv (h:Sim d T U) {s s':Sav} (e:s=s'):Sim d (T.putSv s) (U.putSv s'):=by
 subst e
 obtain ⟨h1,h2,h3,h4,h5,h6,h7,h8,h9,h10,h11⟩:=h
 unfold Ter.putSv
 rw [h8]
 rcases ho:U.other with _|o
 ·exact ⟨h1,h2,h3,h4,h5,h6,by show ({ T.main with sv:=s }:Sh)=_;rw [h7];rfl,rfl,h9,h10,h11⟩
 ·exact ⟨h1,h2,h3,h4,h5,h6,h7,rfl,h9,h10,h11⟩
theorem Bl3 (h:Sim d T U):Sim d (save T) (save U):=sim_sv h (by rw [h.c,h.p,h.m])
theorem sim_org (h:Sim d T U) (b:Bool):Sim d (setOrg T b) (setOrg U b):=Cm0 h (by rw [h.m])
theorem Au8 (h:Sim d T U):Sim d (restore T) (restore U):=by
 have hs:T.sh.sv=U.sh.sv:=by rw [Co9 h];rfl
 refine Ak0 ?_
 unfold restored
 rw [hs,Ap2 h,h.m]
 exact ⟨rfl,rfl,rfl,h.nx,h.most,h.R,h.main,h.other,h.tn,h.tf,h.rp⟩
theorem Be0 (nx rows cols:Nat):Ai9 (nx+d) rows cols=sSh d (Ai9 nx rows cols):=by
 show Sh.mk cols 0 (rows - 1) (Ac3 (nx+d) cols rows zeroAt) sav0=_
 rw [Ca8]
 rfl
theorem sim_reset (h:Sim d T U):Sim d (reset T) (reset U):=by
 refine Bc0 ?_ _ _
 rw [Bd1 h,Ap2 h]
 refine ⟨rfl,rfl,rfl,?_,h.most,rfl,?_,rfl,rfl,rfl,h.rp⟩
 ·show T.nx+U.vis.L.length=U.nx+U.vis.L.length+d
  rw [h.nx]
  omega
 ·show Ai9 T.nx _ _=_
  rw [h.nx]
  exact Be0 _ _ _
theorem sim_choose (h:Sim d T U) (x:AcT):Sim d (choose T x) (choose U x):=by
 unfold choose
 split
 ·split
  ·unfold setG
   exact Sim.it (Cm1 h (by rw [h.p])) (Cm1 h (by rw [h.p]))
  ·exact h
 ·exact h
theorem sim_escape (h:Sim d T U) (x:AcT):Sim d (escape T x) (escape U x):=by
 unfold escape
 exact Sim.it (Sim.it (Bl3 h) (Sim.it (Au8 h) (Sim.it (Av3 h) (Sim.it (Ba7 h) (Sim.it (Bj6 h) (Sim.it (Bp9 h) (Sim.it (sim_reset h) h))))))) (sim_choose h x)
theorem Br4 (h:Sim d T U) (n:Int):above T n=above U n:=by unfold above;rw [Az8 h,h.c]
theorem Bs2 (h:Sim d T U) (n:Int):Emu.below T n=Emu.below U n:=by unfold Emu.below;rw [Bm4 h,h.c]
theorem Ao4 (h:Sim d T U) (n:Int):counted T n=counted U n:=by unfold counted;rw [Bm4 h,Az8 h,h.m]
theorem Bx9 (h:Sim d T U):Sim d (home T) (home U):=Ad1 h (Ao4 h _) rfl
theorem Ao5 (h:Sim d T U) {f t f' t':Nat} (hf:f=f') (ht:t=t'):Sim d (eraseRows T f t) (eraseRows U f' t'):=by
 subst hf ht
 refine Au9 h ?_
 rw [Aj4 h,h.p]
 show ({ sS d U.vis with L:=eraRows (sl d U.vis.L) f t U.vis.cols U.p.a }:Scr)=_
 rw [sl_era]
 rfl
theorem Ap7 (h:Sim d T U) {f t f' t':Int} (hf:f=f') (ht:t=t'):Sim d (Am6 T f t) (Am6 U f' t'):=Ak0 (Aw7 h (by rw [Bf4 h,h.p,hf,ht]))
theorem Av6 (h:Sim d T U) (n:Int):Sim d (eraseLine T n) (eraseLine U n):=by
 unfold eraseLine
 exact Sim.it (Ap7 h (Am1 h) (by rw [Ap2 h])) (Sim.it (Ap7 h rfl (by rw [h.c])) (Sim.it (Ap7 h rfl (by rw [Ap2 h])) h))
theorem sim_noBack (h:Sim d T U):Sim d (noBack T) (noBack U):=⟨h.m,h.c,h.p,h.nx,h.most,rfl,h.main,h.other,h.tn,h.tf,h.rp⟩
theorem sim_eraseScr (h:Sim d T U) (n:Int):Sim d (Ai5 T n) (Ai5 U n):=by
 unfold Ai5
 refine Av6 ?_ n
 exact Sim.it (Ao5 h (by rw [h.c]) (Bd1 h)) (Sim.it (Ao5 h rfl (by rw [h.c])) (Sim.it (Ao5 h rfl (Bd1 h)) (Sim.it (sim_noBack h) h)))
theorem sim_margins (h:Sim d T U) (l:List Int):Sim d (setMargins T l) (setMargins U l):=by
 have hb:At9 T l=At9 U l:=by unfold At9;rw [Bd1 h]
 unfold setMargins
 rw [hb]
 refine Sim.it (Bx9 (Au9 h ?_)) h
 rw [Aj4 h]
 rfl
theorem Bq2 (l:List Int) (on:Bool):∀ {T U:Ter},Sim d T U->Sim d (setModes T l on) (setModes U l on):=by
 unfold setModes
 induction l with
 |nil=>exact fun h=>h
 |cons a l ih=>exact fun {T U} h=>ih (T:=putM T false on (Ak1 a)) (U:=putM U false on (Ak1 a)) (Cm0 h (by rw [h.m]))
theorem Bf7 (h:Sim d T U) {b b':List Int} (e:b=b'):Sim d (reply T b) (reply U b'):=⟨h.m,h.c,h.p,h.nx,h.most,h.R,h.main,h.other,h.tn,h.tf,by show T.rp++b=U.rp++b';rw [h.rp,e]⟩
theorem sim_plain (h:Sim d T U) (f:Int) (l:List Int):Sim d (plain T f l) (plain U f l):=by
 unfold plain
 have hr:=Al7 h
 have hc:=Am1 h
 have hw:within T↔within U:=by unfold within;rw [Az8 h,Bm4 h,h.c]
 refine Sim.it (Ad1 h (Br4 h _) hc) ?_
 refine Sim.it (Ad1 h (Bs2 h _) hc) ?_
 refine Sim.it (Ad1 h hr (by rw [h.c])) ?_
 refine Sim.it (Ad1 h hr (by rw [h.c])) ?_
 refine Sim.it (Ad1 h (Bs2 h _) rfl) ?_
 refine Sim.it (Ad1 h (Br4 h _) rfl) ?_
 refine Sim.it (Ad1 h hr rfl) ?_
 refine Sim.it (Ad1 h (Ao4 h _) rfl) ?_
 refine Sim.it (Ad1 h (Ao4 h _) hc) ?_
 refine Sim.it (Ad1 h hr (by rw [h.c,h.tn,h.tf])) ?_
 refine Sim.it (Ad1 h hr (by rw [h.c,h.tn,h.tf])) ?_
 refine Sim.it (sim_eraseScr h _) ?_
 refine Sim.it (Av6 h _) ?_
 refine Sim.it (Ap7 h hc (by rw [h.c])) ?_
 refine Sim.it (Ak0 (Aw7 h (by rw [Bf4 h,h.c,h.p]))) ?_
 refine Sim.it (Ak0 (Aw7 h (by rw [Bf4 h,h.c,h.p]))) ?_
 refine Sim.it (Sim.ite hw (fun _=>Ad1 (Bl7 h _ (by rw [h.c])) hr rfl) (fun _=>h)) ?_
 refine Sim.it (Sim.ite hw (fun _=>Ad1 (sim_up h _ (by rw [h.c]) rfl) hr rfl) (fun _=>h)) ?_
 refine Sim.it (Ak0 (Ck0 h _)) ?_
 refine Sim.it (Ak0 (Bl7 h _ (Az8 h))) ?_
 refine Sim.it (sim_margins h l) ?_
 refine Sim.it (Sim.it (Cg2 h (by rw [h.tf,h.c])) (Sim.it (Cg2 h rfl) h)) ?_
 refine Sim.it (Cm1 h (by rw [h.p])) ?_
 refine Sim.it (Bq2 _ _ h) ?_
 refine Sim.it (Bq2 _ _ h) ?_
 refine Sim.it (Sim.it (Bf7 h rfl) (Sim.it (Bf7 h (by rw [h.c,Ao4 h])) h)) ?_
 refine Sim.it (Sim.it (Bf7 h rfl) h) ?_
 exact h
theorem Ar6 (h:Sim d T U) (on:Bool):Sim d (setOther T on) (setOther U on):=by
 unfold setOther
 rw [h.m]
 refine Sim.it h ?_
 have h1:∀ b,Sim d (Emu.setAlt T b) (Emu.setAlt U b):=fun b=>Cm0 h (by rw [h.m])
 have h2:Sim d (showOther (Emu.setAlt T true)) (showOther (Emu.setAlt U true)):=by
  have h3:=h1 true
  have hL:(Emu.setAlt T true).main.L.length=(Emu.setAlt U true).main.L.length:=by rw [h3.main];exact Ax4 _
  have hC:(Emu.setAlt T true).main.cols=(Emu.setAlt U true).main.cols:=by rw [h3.main];rfl
  refine ⟨h3.m,h3.c,h3.p,?_,h3.most,h3.R,h3.main,?_,h3.tn,h3.tf,h3.rp⟩
  ·show T.nx+(Emu.setAlt T true).main.L.length=U.nx+(Emu.setAlt U true).main.L.length+d
   rw [hL,h.nx]
   omega
  ·show some (Ai9 T.nx (Emu.setAlt T true).main.L.length (Emu.setAlt T true).main.cols)=some (sSh d (Ai9 U.nx (Emu.setAlt U true).main.L.length (Emu.setAlt U true).main.cols))
   rw [hL,hC,h.nx,Be0]
 have h4:Sim d (showMain (Emu.setAlt T false)) (showMain (Emu.setAlt U false)):=by
  have h3:=h1 false
  exact ⟨h3.m,h3.c,h3.p,h3.nx,h3.most,h3.R,h3.main,rfl,h3.tn,h3.tf,h3.rp⟩
 have h5:Sim d (if on then showOther (Emu.setAlt T true) else showMain (Emu.setAlt T false)) (if on then showOther (Emu.setAlt U true) else showMain (Emu.setAlt U false)):=Sim.it h2 h4
 exact Ad1 h5 (Al7 h5) (Am1 h5)
theorem sim_priv1 (h:Sim d T U) (n:Int) (on:Bool):Sim d (Ao2 T n on) (Ao2 U n on):=by
 unfold Ao2
 refine Sim.it (Bx9 (sim_org h on)) (Sim.it (Ar6 h on) (Sim.it (Sim.it (Bl3 h) (Au8 h)) (Sim.it ?_ (Cm0 h (by rw [h.m])))))
 unfold setOtherSaved
 rw [h.m]
 exact Sim.it h (Sim.it (Ar6 (Bl3 h) true) (Au8 (Ar6 h false)))
theorem Bb6 (l:List Int) (on:Bool):∀ {T U:Ter},Sim d T U->Sim d (Ab9 T l on) (Ab9 U l on):=by
 unfold Ab9
 induction l with
 |nil=>exact fun h=>h
 |cons a l ih=>exact fun h=>ih (sim_priv1 h _ _)
theorem sim_do (h:Sim d T U) (x:AcT):Sim d (doT T x) (doT U x):=by
 unfold doT
 refine Sim.it (sim_print h _) (Sim.it (sim_control h _) (Sim.it (sim_escape h x) (Sim.it ?_ h)))
 unfold sequence
 exact Sim.it (Sim.it (sim_plain h _ _) (Sim.it (Sim.it (Bb6 _ _ h) (Sim.it (Bb6 _ _ h) h)) h)) h
theorem sim_resMain (h:Sim d T U) (rows cols:Nat):Sim d (Af5 T rows cols) (Af5 U rows cols):=by
 have hm:T.mscr=sS d U.mscr:=by unfold Ter.mscr;rw [h.main,h.nx,h.most,h.R];rfl
 have hs:T.main.sv=U.main.sv:=by rw [h.main];rfl
 have hS:resS T.mscr rows cols T.main.sv.c.row=sS d (resS U.mscr rows cols U.main.sv.c.row):=by rw [hm,hs,Co2]
 unfold Af5
 rw [hS,hs]
 refine ⟨h.m,h.c,h.p,rfl,h.most,rfl,?_,?_,h.tn,h.tf,h.rp⟩
 ·show ({ T.main.of (sS d _) with sv:=_ }:Sh)=_
  rw [h.main]
  rfl
 ·show T.other.map Sh.hold=(U.other.map Sh.hold).map (sSh d)
  rw [h.other]
  rcases U.other with _|o
  ·rfl
  ·show some (sSh d o).hold=some (sSh d o.hold)
   rw [Bx3]
theorem sim_resize (h:Sim d T U) (r c:Int):Sim d (resizeT T r c) (resizeT U r c):=by
 unfold resizeT
 refine Sim.it ?_ h
 unfold Ad7
 have h1:Sim d (T.putVis (resS T.vis r.toNat c.toNat T.c.row)) (U.putVis (resS U.vis r.toNat c.toNat U.c.row)):=Au9 h (by rw [Aj4 h,h.c,Co2])
 have ho:T.other.isSome=U.other.isSome:=by rw [h.other];rcases U.other with _|o<;>rfl
 simp only
 rw [ho]
 have h2:Sim d (if U.other.isSome then Af5 (T.putVis (resS T.vis r.toNat c.toNat T.c.row)) r.toNat c.toNat else T.putVis (resS T.vis r.toNat c.toNat T.c.row)) (if U.other.isSome then Af5 (U.putVis (resS U.vis r.toNat c.toNat U.c.row)) r.toNat c.toNat else U.putVis (resS U.vis r.toNat c.toNat U.c.row)):=Sim.it (sim_resMain h1 _ _) h1
 refine Ad1 ?_ (by rw [h.c]) (Am1 h)
 refine ⟨h2.m,h2.c,h2.p,h2.nx,h2.most,h2.R,?_,h2.other,rfl,?_,h2.rp⟩
 ·show Sh.hold (Ter.main _)=sSh d (Sh.hold (Ter.main _))
  rw [<- Bx3,h2.main]
 ·show Tbs.resizeF T.tn _ T.tf=Tbs.resizeF U.tn _ U.tf
  rw [h.tn,h.tf]
theorem sim_run (os:List OpA):∀ {T U:Ter},Sim d T U->Sim d (runT T os) (runT U os):=by
 induction os with
 |nil=>exact fun h=>h
 |cons o os ih =>
  intro T U h
  refine ih (T:=opT T o) (U:=opT U o) ?_
  unfold opT
  exact Sim.it (sim_resize h _ _) (sim_do h _)
end
def noRp (T:Ter):Ter:={ T with rp:=[] }
theorem sim_anew {b:Nat} {T:Ter} (hm:T.most=b) (h1:1<=T.nx):Sim (T.nx - 1) (noRp (reset T)) (newT T.vis.L.length T.vis.cols b):=by
 have e:T.nx=1+(T.nx - 1):=by omega
 refine ⟨rfl,rfl,rfl,?_,hm,rfl,?_,rfl,rfl,rfl,rfl⟩
 ·show T.nx+T.vis.L.length=1+T.vis.L.length+(T.nx - 1)
  omega
 ·show Ai9 T.nx _ _=sSh (T.nx - 1) (Ai9 1 _ _)
  rw [<- Be0,<- e]
