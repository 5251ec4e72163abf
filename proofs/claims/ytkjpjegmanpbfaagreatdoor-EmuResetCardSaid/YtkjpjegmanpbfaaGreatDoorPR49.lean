/- Part 49 of the proof that the card of EmuReset holds. -/
import Derived.Test.YtkjpjegmanpbfaaGreatDoorPR47
import Derived.Test.YtkjpjegmanpbfaaGreatDoorPR48
import Derived.Laws.StructEq
set_option maxHeartbeats 16000000
set_option maxRecDepth 100000
namespace Go.Proofs.YtkjpjegmanpbfaaGreatDoor.Emu
open Go RowKit Com Rw Lns Scn
def escA:AcT:=⟨3,0,0,[],[],99,[]⟩
theorem Cn9 (T:Ter):doT T escA=reset T:=by
 unfold doT escape escA
 simp
section
variable {Z:Zn} {W w wr w':World} {d t d2 t2 n nm cm dd:Nat} {T T' U U':Ter} {am:Option Addr} {m:List OpA} {F:FuncId} {args:Array Value} {A:Ending->World->Prop}
theorem tz_esc (h:TZ Z W wr d t T) (hR:Au0 T escA):Calls Tryz.prog 9 #[.pointer (some ⟨d,0,none⟩),.agg #[.int .u8 3,.int .i32 0,.int .i32 0,.slice none 0 0,.slice none 0 0,.int .i32 99,.slice none 0 0]] wr fun e w'=>e=.returned (.int .i64 0)/\TZ Z W w' d t (reset T)/\Scn.Fr Z TT wr w' :=
 (Bw5 (x:=escA) h.tv h.ok ⟨(by decide:(Lit.int .u8 3).wf=true),(by decide:(Lit.int .i32 0).wf=true),(by decide:(Lit.int .i32 99).wf=true),fun n hn=>by simp [escA] at hn⟩ hR (Cn0 _ _) (Cg8 _ _ _)).mono fun _ _ ⟨he,h1,hf⟩=>by
  have ho:=(Cm2 h.ok escA).ok
  rw [Cn9] at h1 ho
  exact ⟨he,⟨h1,ho,An3 h.below h.out hf,h.out⟩,hf⟩
def escO:OpA:=⟨escA,⟨none,0,none,0,none,0⟩,false,0,0⟩
theorem rm_esc (h:Rm n T):Rm (n+1) (reset T):=by
 have h1:=h.op (o:=escO) rfl
 have e:opT T escO=doT T escA:=rfl
 rw [e,Cn9] at h1
 exact h1
theorem room_esc (h:Rm n T) (hn:n<=500):Au0 T escA:=h.room (o:=escO) hn rfl
theorem Bo.turns (h:Bo W w d t T d2 t2 U) (hc:∀ Z,TZ Z W w d t T->Calls Tryz.prog F args w fun e w'=>A e w'/\TZ Z W w' d t T'/\Scn.Fr Z TT w w'):Calls Tryz.prog F args w fun e w'=>A e w'/\Bo W w' d t T' d2 t2 U/\Rw.Fr 0 TT w w':=by
 obtain ⟨Z,h1,h2⟩:=h.left
 exact (hc Z h1).mono fun _ w' ⟨h3,h4,hf⟩=>⟨h3,h2 w' T' h4 hf,By4 hf⟩
theorem Bo.turns2 (h:Bo W w d t T d2 t2 U) (hc:∀ Z,TZ Z W w d2 t2 U->Calls Tryz.prog F args w fun e w'=>A e w'/\TZ Z W w' d2 t2 U'/\Scn.Fr Z TT w w'):Calls Tryz.prog F args w fun e w'=>A e w'/\Bo W w' d t T d2 t2 U'/\Rw.Fr 0 TT w w' :=
 (h.swap.turns hc).mono fun _ _ ⟨h1,h2,h3⟩=>⟨h1,h2.swap,h3⟩
theorem Bo.fst (h:Bo W w d t T d2 t2 U):∃ Z,TZ Z W w d t T:=by
 obtain ⟨Z,h1,_⟩:=h.left
 exact ⟨Z,h1⟩
theorem Bo.snd (h:Bo W w d t T d2 t2 U):∃ Z,TZ Z W w d2 t2 U:=by
 obtain ⟨Z,h1,_⟩:=h.right
 exact ⟨Z,h1⟩
theorem Bw0 (h:Ok T):Ok (noRp T):=⟨h.fit,h.fitm,h.rows,h.cols,h.row,h.col,h.sv,h.svm,h.tn,h.alt⟩
theorem rm_noRp (h:Rm n T):Rm n (noRp T):=⟨Bw0 h.ok,h.len,h.nx,h.jr,by show ([]:List Int).length<=_;simp,h.pr⟩
theorem Cf5 (h:TZ Z W w d t T):Calls Tryz.prog 16 #[.pointer (some ⟨d,0,none⟩)] w fun e w'=>(∃ v,e=.returned v/\Kys.Row w' 0 5 v T.rp)/\TZ Z W w' d t (noRp T)/\Scn.Fr Z TT w w' :=
 (Ba2 h.tv).mono fun _ _ ⟨he,h1,hf⟩=>⟨he,⟨h1,Bw0 h.ok,An3 h.below h.out hf,h.out⟩,hf⟩
theorem Cq9 (hR:Rm n T) (hW:Bh4 W am m) (hin:∀ o∈m,OpIn W o) (ht:m.all Ai6=true) (h5:n+m.length<=500) (hnm:m.length=nm) (h:TZ Z W w d t T):Calls Tryz.prog 20 #[.pointer (some ⟨d,0,none⟩),.slice am nm cm] w fun e w'=>e=.returned (.bool true)/\TZ Z W w' d t (runT T m)/\Scn.Fr Z TT w w' :=
 (Ck2 h hR hW hin ht h5 hnm).mono fun _ _ ⟨he,h1,_,hf⟩=>⟨he,h1,hf⟩
theorem Cf0 (h:TZ Z W w d t T):Calls Tryz.prog 13 #[.pointer (some ⟨d,0,none⟩)] w fun e w'=>e=.returned (.agg (Mds.mA T.m))/\Below w.heap.size w w':=tmodes_any h.tv
theorem tz_new {r c b:Nat} (h:TZ Z W w d t T) (h1:1<=r) (h2:r<=512) (h3:1<=c) (h4:c<=512) (hb:b<=10000):Calls Tryz.prog 18 #[.int .i64 r,.int .i64 c,.int .i64 b] w fun e w'=>∃ d2 t2,e=.returned (.tuple #[.pointer (some ⟨d2,0,none⟩),.int .i64 0])/\Bo W w' d t T d2 t2 (newT r c b)/\Below w.heap.size w w':=by
 obtain ⟨P,hP⟩:=h.tv.tm
 exact (Ch1 hP.tbl r c b h1 h2 h3 h4 hb).mono fun _ _ ⟨d2,t2,he,hk,hb⟩=>⟨d2,t2,he,Bo.made h hk,hb⟩
theorem sl_get {L:List Ln} {i:Nat} (h:i<(sl dd L).length):(sl dd L)[i]=sln dd (L[i]'(by rw [<- Ax4 (d:=dd)];exact h)):=by
 exact List.getElem_map (sln dd)
theorem Tld.rowS {cols g1 c1 g2 c2:Nat} {L:List Ln} {rs:List TRow} (h:Tld w n cols (sl dd L) g1 c1 g2 c2 rs) (hl:L.length=n) {i:Nat} (hi:i<n):∃ x,w.cell? ⟨g1,i,none⟩=some (.slice (some ⟨x,0,none⟩) cols cols)/\w.cell? ⟨g2,i,none⟩=some (.int .i64 ((L[i]'(by omega)).1+dd)) /\
  ∀ j (hj:j<(L[i]'(by omega)).2.length),j<cols->w.cell? ⟨x,j*6,none⟩=some (.int .i32 (((L[i]'(by omega)).2)[j]).r)/\w.cell? ⟨x,j*6+2,none⟩=some (.int .u8 (((L[i]'(by omega)).2)[j]).wide) /\
   w.cell? ⟨x,j*6+3,none⟩=some (.int .u32 (((L[i]'(by omega)).2)[j]).a.f)/\w.cell? ⟨x,j*6+4,none⟩=some (.int .u32 (((L[i]'(by omega)).2)[j]).a.b)/\w.cell? ⟨x,j*6+5,none⟩=some (.int .u16 (((L[i]'(by omega)).2)[j]).a.g) /\
   ∃ y cc,w.cell? ⟨x,j*6+1,none⟩=some (.slice y (((L[i]'(by omega)).2)[j]).m.length cc):=by
 obtain ⟨x,h1,h2,h3⟩:=h.row hi
 have e:∀ hq,(sl dd L)[i]'hq=sln dd (L[i]'(by omega)):=fun hq=>sl_get hq
 refine ⟨x,h1,?_,fun j hj hjc=>?_⟩
 ·rw [h2,e]
  rfl
 ·have h4:=h3 j hjc
  simp only [e] at h4
  exact h4
def Grd (F:FuncId) (d:Nat) (w:World) (n cols:Nat) (L:List Ln) (row col:Nat) (pn:Bool):Prop:=Calls Tryz.prog F #[.pointer (some ⟨d,0,none⟩)] w fun e w'=>∃ g1 c1 g2 c2 rs hd mn tp bt f b g,e=.returned (.agg #[.slice (some ⟨g1,0,none⟩) n c1,.slice (some ⟨g2,0,none⟩) n c2,.int .i64 row,.int .i64 col,.bool pn,.bool hd,.bool mn,.int .i64 tp,.int .i64 bt,.int .u32 f,.int .u32 b,.int .u16 g]) /\
  Tld w' n cols L g1 c1 g2 c2 rs/\Below w.heap.size w w'
theorem Cg7 (h:TZ Z W w d t T):Grd 12 d w T.vis.L.length T.vis.cols T.vis.L T.c.row T.c.col T.c.pend :=
 (Bc3 h).mono fun _ _ ⟨g1,c1,g2,c2,rs,he,h1,h2⟩=>⟨g1,c1,g2,c2,rs,_,_,_,_,_,_,_,he,h1,h2⟩
theorem Cj4 (h:TZ Z W w d t T):Calls Tryz.prog 14 #[.pointer (some ⟨d,0,none⟩)] w fun e w'=>∃ ba bc,e=.returned (.slice ba T.R.length bc)/\Below w.heap.size w w' :=
 (back_told h).mono fun _ _ ⟨ba,bc,_,he,_,_,h2⟩=>⟨ba,bc,he,h2⟩
structure RKit (W:World) (d t:Nat) (T:Ter) (b:Nat) (am:Option Addr) (nm cm:Nat) (T0:Ter) (n cols nx:Nat) (L0:List Ln) (U0 T1 U1:Ter) (dd n1 cols1 rn:Nat) (L1:List Ln) (row1 col1:Nat) (pn1:Bool) (rp1:List Int) (m1:Mds.Md):Prop where
 res:∀ Z wr,TZ Z W wr d t T->Calls Tryz.prog 9 #[.pointer (some ⟨d,0,none⟩),.agg #[.int .u8 3,.int .i32 0,.int .i32 0,.slice none 0 0,.slice none 0 0,.int .i32 99,.slice none 0 0]] wr fun e w'=>e=.returned (.int .i64 0)/\TZ Z W w' d t T0/\Scn.Fr Z TT wr w'
 grd:∀ Z wr,TZ Z W wr d t T0->∃ row col pn,Grd 12 d wr n cols L0 row col pn
 one0:1<=n
 len0:L0.length=n
 ids0:∀ h:0<L0.length,(L0[0]).1=(nx:Int)
 new:∀ Z wr,TZ Z W wr d t T0->Calls Tryz.prog 18 #[.int .i64 n,.int .i64 cols,.int .i64 b] wr fun e w'=>∃ d2 t2,e=.returned (.tuple #[.pointer (some ⟨d2,0,none⟩),.int .i64 0])/\Bo W w' d t T0 d2 t2 U0/\Below wr.heap.size wr w'
 bck:∀ d2 t2 wr,Bo W wr d t T0 d2 t2 U0->Calls Tryz.prog 14 #[.pointer (some ⟨d,0,none⟩)] wr fun e w'=>∃ ba bc,e=.returned (.slice ba 0 bc)/\Below wr.heap.size wr w'
 rep:∀ d2 t2 wr,Bo W wr d t T0 d2 t2 U0->Calls Tryz.prog 16 #[.pointer (some ⟨d,0,none⟩)] wr fun e w'=>(∃ v,e=.returned v)/\Bo W w' d t (noRp T0) d2 t2 U0/\Rw.Fr 0 TT wr w'
 do1:∀ d2 t2 wr,Bo W wr d t (noRp T0) d2 t2 U0->Calls Tryz.prog 20 #[.pointer (some ⟨d,0,none⟩),.slice am nm cm] wr fun e w'=>e=.returned (.bool true)/\Bo W w' d t T1 d2 t2 U0/\Rw.Fr 0 TT wr w'
 do2:∀ d2 t2 wr,Bo W wr d t T1 d2 t2 U0->Calls Tryz.prog 20 #[.pointer (some ⟨d2,0,none⟩),.slice am nm cm] wr fun e w'=>e=.returned (.bool true)/\Bo W w' d t T1 d2 t2 U1/\Rw.Fr 0 TT wr w'
 gr1:∀ d2 t2 wr,Bo W wr d t T1 d2 t2 U1->Grd 12 d wr n1 cols1 (sl dd L1) row1 col1 pn1
 gr2:∀ d2 t2 wr,Bo W wr d t T1 d2 t2 U1->Grd 12 d2 wr n1 cols1 L1 row1 col1 pn1
 len1:L1.length=n1
 le1:n1<=512
 le2:cols1<=512
 wid1:∀ p∈L1,p.2.length=cols1
 ids1:∀ p∈L1,1<=p.1/\p.1+dd<=2000000
 first:(nx:Int) - 1=dd
 dle:dd<=2000000
 bk1:∀ d2 t2 wr,Bo W wr d t T1 d2 t2 U1->Calls Tryz.prog 14 #[.pointer (some ⟨d,0,none⟩)] wr fun e w'=>∃ ba bc,e=.returned (.slice ba rn bc)/\Below wr.heap.size wr w'
 bk2:∀ d2 t2 wr,Bo W wr d t T1 d2 t2 U1->Calls Tryz.prog 14 #[.pointer (some ⟨d2,0,none⟩)] wr fun e w'=>∃ ba bc,e=.returned (.slice ba rn bc)/\Below wr.heap.size wr w'
 rq1:∀ d2 t2 wr,Bo W wr d t T1 d2 t2 U1->Calls Tryz.prog 16 #[.pointer (some ⟨d,0,none⟩)] wr fun e w'=>(∃ v,e=.returned v/\Kys.Row w' 0 5 v rp1)/\Bo W w' d t (noRp T1) d2 t2 U1/\Rw.Fr 0 TT wr w'
 rq2:∀ d2 t2 wr,Bo W wr d t (noRp T1) d2 t2 U1->Calls Tryz.prog 16 #[.pointer (some ⟨d2,0,none⟩)] wr fun e w'=>(∃ v,e=.returned v/\Kys.Row w' 0 5 v rp1)/\Bo W w' d t (noRp T1) d2 t2 (noRp U1)/\Only [t2] wr w'
 md1:∀ d2 t2 wr,Bo W wr d t (noRp T1) d2 t2 (noRp U1)->Calls Tryz.prog 13 #[.pointer (some ⟨d,0,none⟩)] wr fun e w'=>e=.returned (.agg (Mds.mA m1))/\Below wr.heap.size wr w'
 md2:∀ d2 t2 wr,Bo W wr d t (noRp T1) d2 t2 (noRp U1)->Calls Tryz.prog 13 #[.pointer (some ⟨d2,0,none⟩)] wr fun e w'=>e=.returned (.agg (Mds.mA m1))/\Below wr.heap.size wr w'
theorem only_repl (h:TZ Z W w d t T):Calls Tryz.prog 16 #[.pointer (some ⟨d,0,none⟩)] w fun e w'=>((∃ v,e=.returned v/\Kys.Row w' 0 5 v T.rp)/\Only [t] w w')/\TZ Z W w' d t (noRp T)/\Scn.Fr Z TT w w':=by
 have hm:=J0 (Ag9 h.tv)
 have c0:=h.tv.blk.cell 0 (v:=.pointer (some ⟨t,0,none⟩)) rfl
 obtain ⟨P,hT⟩:=h.tv.tm
 have c33:=hT.c33
 have f33:=hT.free 33
 obtain ⟨ao,c,e⟩:=hT.rshape
 have hrow:Kys.Row (w.setCell ⟨t,33,none⟩ (.slice none 0 0)) 0 5 P.rv T.rp:=Ac5 hT.rp (fun g hg=>(Only.setCell w ⟨t,33,none⟩ (.slice none 0 0)).block _ (Ah0 (Ac7 hT.rp g hg)) (Ad5 (Ac7 hT.rp g hg) (Block.typ hT.blk) (by decide)))
 rw [e] at c33 hrow
 have hk:=J0 (hT.took.2.2)
 have hend:Hid (TZ Z W (w.setCell ⟨t,33,none⟩ (.slice none 0 0)) d t (noRp T)):=J0 ⟨h.tv.turn hT.took.2.1.tm hT.took.2.2,Bw0 h.ok,An3 h.below h.out hT.took.2.2,h.out⟩
 have hon:=J0 (Only.setCell w ⟨t,33,none⟩ (.slice none 0 0))
 replace hrow:=J0 hrow
 generalize T.rp.length=n at c33 hrow
 clear h hT e
 go_enter Tryz.func16,Tryz.ntmps16
 go_wp2_with ((go_at_call 24;(with_reducible refine (hm.out).mono ?_);rintro e w1 ⟨rfl,rfl⟩))
 go_ret
 exact ⟨⟨⟨_,rfl,hrow.out⟩,hon.out⟩,hend.out,hk.out⟩
theorem ids_small (h:Ok T) (hn:T.nx<=1000000):∀ p∈T.vis.L,1<=p.1/\p.1<=1000000:=fun p hp=>by
 obtain ⟨h1,h2⟩:=h.fit.ids p hp
 have e:T.vis.nx=T.nx:=rfl
 rw [e] at h2
 omega
theorem reset_kit {b:Nat} (hR:Rm n T) (hn:n<=130) (hmo:T.most=b) (hb:b<=10000) (hW:Bh4 W am m) (hin:∀ o∈m,OpIn W o) (ht:m.all Ai6=true) (hnm:m.length=nm) (hnm5:nm<=120):∃ T0 n cols nx L0 U0 T1 U1 dd n1 cols1 rn L1 row1 col1 pn1 rp1 m1,RKit W d t T b am nm cm T0 n cols nx L0 U0 T1 U1 dd n1 cols1 rn L1 row1 col1 pn1 rp1 m1:=by
 have hF:=hR.ok.fit
 have h12:=hR.len
 have hnx1:1<=T.nx:=hF.pos
 have hnx2:=hR.nx
 have R0:=rm_esc hR
 have R0':=rm_noRp R0
 have S0:=sim_anew hmo hnx1
 have S1:=sim_run m S0
 have RU:Rm 0 (newT T.vis.L.length T.vis.cols b):=by
  have h1:(newT T.vis.L.length T.vis.cols b).vis.L.length=T.vis.L.length:=Ae4 _ _ _ _
  refine ⟨Cd9 _ _ b hF.len hF.len5 hF.c1 hF.c5,by omega,?_,J5 _,J5 _,J5 _⟩
  show 1+T.vis.L.length<=_
  omega
 have htm:∀ o∈m,Ai6 o=true:=fun o ho=>List.all_eq_true.1 ht o ho
 have R1:=R0'.run htm
 have RU1:=RU.run htm
 have hL0:(reset T).vis.L=Ac3 T.nx T.vis.cols T.vis.L.length zeroAt:=rfl
 have hl0:(reset T).vis.L.length=T.vis.L.length:=by rw [hL0];exact Ae4 _ _ _ _
 have hc0:(reset T).vis.cols=T.vis.cols:=rfl
 generalize hT1:runT (noRp (reset T)) m=T1 at *
 generalize hU1:runT (newT T.vis.L.length T.vis.cols b) m=U1 at *
 have hnx3:=R1.nx
 have hnx4:=RU1.nx
 refine ⟨reset T,T.vis.L.length,T.vis.cols,T.nx,(reset T).vis.L,newT T.vis.L.length T.vis.cols b,T1,U1,T.nx - 1,U1.vis.L.length,U1.vis.cols,U1.R.length,U1.vis.L,U1.c.row,U1.c.col,U1.c.pend,U1.rp,U1.m,?_⟩
 have eV:=Aj4 S1
 have eR:T1.R.length=U1.R.length:=by rw [S1.R];exact Ax4 _
 refine ⟨fun Z wr h=>tz_esc h (room_esc hR (by omega)),fun Z wr h=>?_,hF.len,hl0,fun h=>?_,fun Z wr h=>tz_new h hF.len hF.len5 hF.c1 hF.c5 hb,fun d2 t2 wr h=>?_,fun d2 t2 wr h=>?_,fun d2 t2 wr h=>?_,fun d2 t2 wr h=>?_,fun d2 t2 wr h=>?_,fun d2 t2 wr h=>?_,rfl,RU1.ok.fit.len5,RU1.ok.fit.c5,RU1.ok.fit.wid,fun p hp=>?_,by omega,by omega,fun d2 t2 wr h=>?_,fun d2 t2 wr h=>?_,fun d2 t2 wr h=>?_,fun d2 t2 wr h=>?_,fun d2 t2 wr h=>?_,fun d2 t2 wr h=>?_⟩
 ·have h1:=Cg7 h
  rw [hl0,hc0] at h1
  exact ⟨_,_,_,h1⟩
 ·have:(Ac3 T.nx T.vis.cols T.vis.L.length zeroAt)[0]?=some ((T.nx:Int)+(0:Nat),Ae6 T.vis.cols zeroAt):=by
   unfold Ac3
   rw [List.getElem?_map,List.getElem?_eq_getElem (by rw [List.length_range];exact hF.len)]
   simp
  have h2:(reset T).vis.L[0]?=_:=this
  rw [List.getElem?_eq_getElem h] at h2
  rw [Option.some.inj h2]
  simp
 ·obtain ⟨Z,h1⟩:=h.fst
  exact Cj4 h1
 ·exact h.turns fun Z h1=>(Cf5 h1).mono fun _ _ ⟨⟨v,he,_⟩,h2⟩=>⟨⟨v,he⟩,h2⟩
 ·have h1:=h.turns fun Z h1=>Cq9 (cm:=cm) R0' hW hin ht (by omega) hnm h1
  rw [hT1] at h1
  exact h1
 ·have h1:=h.turns2 fun Z h1=>Cq9 (cm:=cm) RU hW hin ht (by omega) hnm h1
  rw [hU1] at h1
  exact h1
 ·obtain ⟨Z,h1⟩:=h.fst
  have h2:=Cg7 h1
  rw [eV,S1.c,show (sS (T.nx - 1) U1.vis).L.length=U1.vis.L.length from Ax4 _] at h2
  exact h2
 ·obtain ⟨Z,h1⟩:=h.snd
  exact Cg7 h1
 ·obtain ⟨q1,q2⟩:=ids_small RU1.ok (by omega) p hp
  omega
 ·obtain ⟨Z,h1⟩:=h.fst
  have h2:=Cj4 h1
  rw [eR] at h2
  exact h2
 ·obtain ⟨Z,h1⟩:=h.snd
  exact Cj4 h1
 ·have h1:=h.turns fun Z h1=>Cf5 h1
  rw [S1.rp] at h1
  exact h1
 ·obtain ⟨Z,h1,h2⟩:=h.right
  exact (only_repl h1).mono fun _ w' ⟨⟨h3,h4⟩,h5,hf⟩=>⟨h3,h2 w' _ h5 hf,h4⟩
 ·obtain ⟨Z,h1⟩:=h.fst
  have h2:=Cf0 h1
  rw [show (noRp T1).m=U1.m from S1.m] at h2
  exact h2
 ·obtain ⟨Z,h1⟩:=h.snd
  have h2:=Cf0 h1
  exact h2
end
end Go.Proofs.YtkjpjegmanpbfaaGreatDoor.Emu
namespace Go.Proofs.YtkjpjegmanpbfaaGreatDoor.Mds
open Go RowKit Com
theorem rowM:46<Tryz.prog.types.size:=of_decide_eq_true (by kernel_rfl)
theorem keyM:Tryz.prog.keyType 46=true:=by kernel_rfl
theorem wideM:(match Tryz.prog.underlying 46 with|some (.array _ _)|some (.struct _)=>true|_=>false)=true:=by kernel_rfl
theorem cM:Tryz.prog.cellsOf 46=8:=by kernel_rfl
theorem lits_m (m:Md) (D:Nat):∃ l,Tryz.prog.keyLits (D+1+1) 46 (mA m).toList=some l:=by
 simp [Program.keyLits,mA,Tryz.underlying46,Tryz.underlying4,cM,cB]
theorem formed_m (m:Md):Value.formed Tryz.prog 46 (.agg (mA m))=true:=by
 simp [Value.formed,mA,Tryz.underlying46,cM]
theorem key_m (m:Md):∃ l,keyOf Tryz.prog 46 (.agg (mA m))=some l:=by
 obtain ⟨D,hD⟩:∃ D,Tryz.prog.types.size+1=D+1+1:=⟨Tryz.prog.types.size - 1,by have:=rowM;omega⟩
 have hf:=formed_m m
 obtain ⟨l,hl⟩:=lits_m m D
 rw [<- hD] at hl
 refine ⟨.string (keyBytes l),?_⟩
 unfold keyOf
 rw [Tryz.underlying46]
 dsimp only
 rw [keyM,hf,if_pos (by rfl)]
 have e:(Value.agg (mA m)).cells.toList=(mA m).toList:=rfl
 rw [e,hl]
 rfl
theorem equal_m (m:Md) (w:World):(Op.equalIn 10000 46 (.agg (mA m)) (.agg (mA m))).run Tryz.prog w=.ok true w:=by
 obtain ⟨l,hl⟩:=key_m m
 obtain ⟨r,h1,h2⟩:=run_equal_deep (P:=Tryz.prog) w (m:=2) (by omega) (k:=46) (by kernel_rfl) wideM hl hl
 rw [h2.2 rfl] at h1
 exact h1
theorem neq_m (m:Md) (w:World):(binOp .neq 46 (.agg (mA m)) (.agg (mA m))).run Tryz.prog w=.ok (.bool false) w:=by
 simp only [run_neq_struct,equal_m,Result.andThen_ok]
 rfl
theorem guard_m (m:Md) (x y:Operand) (w:World):(eqGuard .neq 46 x y (.agg (mA m)) (.agg (mA m))).run Tryz.prog w=.ok () w :=
 run_eqGuard_agg w .neq 46 x y _ _ Tryz.eqGuardType46
