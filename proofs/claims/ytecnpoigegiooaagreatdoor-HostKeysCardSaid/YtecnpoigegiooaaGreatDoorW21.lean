/- Part 21 of HostKeys. -/
import Derived.Test.YtecnpoigegiooaaGreatDoorW20
set_option maxHeartbeats 16000000
set_option maxRecDepth 100000
namespace Go.Proofs.YtecnpoigegiooaaGreatDoor.Kys
open Tryz
open Go RowKit Com Mds
def kA(k:Ky):Array Value:=#[.int .u8 k.kd,.int .i32 k.r,.int .i64 k.n,.int .u8 k.md]
theorem Cky(k:Ky):(prog.info? 25).map (·.size)=some (kA k).size:=by
 rw[show(kA k).size=4 from rfl]
 kernel_rfl
def KB(w:World)(g:Nat)(k:Ky):Prop:=Block w g 25 (kA k)
section
variable {w w':World}{g:Nat}{k:Ky}
theorem KB.blk(h:KB w g k):Block w g 25 (kA k):=h
theorem KB.made(w:World)(k:Ky):KB (w.alloc (.cells (kA k) 25)) w.heap.size k:=Block.made w _ _
theorem KB.only{L:List Nat}(h:KB w g k)(ho:A0 L w w')(hg:g∉L):KB w' g k:=Block.only h ho hg
theorem KB.below(h:KB w g k)(hb:Below w.heap.size w w'):KB w' g k:=h.only (A0.A1 hb []) (by simp)
theorem KB.c0(h:KB w g k):w.cell? ⟨g,0,none⟩=some (.int .u8 k.kd):=Block.cell h 0 rfl
theorem KB.c1(h:KB w g k):w.cell? ⟨g,1,none⟩=some (.int .i32 k.r):=Block.cell h 1 rfl
theorem KB.c2(h:KB w g k):w.cell? ⟨g,2,none⟩=some (.int .i64 k.n):=Block.cell h 2 rfl
theorem KB.c3(h:KB w g k):w.cell? ⟨g,3,none⟩=some (.int .u8 k.md):=Block.cell h 3 rfl
end
theorem Acj{o:Oper}{ops:Array Oper}{rest:List Oper}{a:Act}{w:World}{Q:Exit->Act->World->Prop}(hw:Region.wanted o (yielded ops a.tmps)=true)(x:Operand)(ho:o.op=.load 25 x){g:Nat}{k:Ky}(hx:a.eval x=.pointer (some ⟨g,0,none⟩))
  (hb:KB w g k) (h:wpList prog ops Q rest (a.put o.dst (.agg (kA k))) w):wpList prog ops Q (o::rest) a w :=
 Afq hw fun _ hK=>by
  unfold Oper.wp execOp
  simp only[ho,hx,Instr.loadAt,Instr.sureAddr,Sem.run_bind,Sem.run_pure,Result.andThen_ok,Apt hb.blk underlying25 rfl (Cky k)]
  exact hK _ _ h
theorem Bsw{o:Oper}{ops:Array Oper}{rest:List Oper}{a:Act}{w:World}{Q:Exit->Act->World->Prop}(hw:Region.wanted o (yielded ops a.tmps)=true)(x:Operand)(ho:o.op=.load 80 x){g:Nat}{m:Md}(hx:a.eval x=.pointer (some ⟨g,0,none⟩))
  (hb:MB w g m) (h:wpList prog ops Q rest (a.put o.dst (.agg (mA m))) w):wpList prog ops Q (o::rest) a w :=
 Afq hw fun _ hK=>by
  unfold Oper.wp execOp
  simp only[ho,hx,Instr.loadAt,Instr.sureAddr,Sem.run_bind,Sem.run_pure,Result.andThen_ok,Apt hb.blk underlying80 rfl (Aat m)]
  exact hK _ _ h
def Tup(v:Value)(w:World)(e:Ending)(w':World):Prop:=e=.returned v/\Below w.heap.size w w'
theorem Cca(r:Int):(r<0/\¬S4 r)\/(0<=r/\1114111<r/\¬S4 r)\/(0<=r/\r<55296/\S4 r)\/(55296<=r/\r<=57343/\¬S4 r)\/(57343<r/\r<=1114111/\S4 r):=by
 unfold S4
 omega
theorem Bkd(r:Int)(w:World):Calls prog 63 #[.int .i32 r] w fun e w'=>e=.returned (.bool (decide (S4 r)))/\w=w':=by
 rcases Cca r with⟨h1,e⟩|⟨h1,h2,e⟩|⟨h1,h2,e⟩|⟨h1,h2,e⟩|⟨h1,h2,e⟩
 all_goals
  replace e:=J0 e
  go_enter func63,ntmps63
  go_wp2
  go_ret
  first
   |exact⟨G1 (decide_eq_true e.out).symm,rfl⟩
   |exact⟨G1 (decide_eq_false e.out).symm,rfl⟩
   |exact⟨G1 (by simp[e.out];omega),rfl⟩
theorem Bke{r:Int}(h:S4 r)(w:World):Calls prog 63 #[.int .i32 r] w fun e w'=>e=.returned (.bool true)/\w=w':=by
 have:=Bkd r w
 rwa [decide_eq_true h]at this
theorem Bmx{r:Int}(h:¬S4 r)(w:World):Calls prog 63 #[.int .i32 r] w fun e w'=>e=.returned (.bool false)/\w=w':=by
 have:=Bkd r w
 rwa [decide_eq_false h]at this
theorem Cgd(k:Ky)(hk:k.Ok):(k.kd<1/\¬k.may)\/(1<=k.kd/\16<k.kd/\¬k.may)\/(1<=k.kd/\k.kd<=16/\7<k.md/\¬k.may)\/(k.kd=1/\k.md<=7)\/(k.kd=12/\k.md<=7/\k.r≠0/\¬k.may)\/(k.kd=12/\k.md<=7/\k.r=0/\k.n<1/\¬k.may) \/
  (k.kd=12/\k.md<=7/\k.r=0/\1<=k.n/\12<k.n/\¬k.may)\/(k.kd=12/\k.md<=7/\k.r=0/\1<=k.n/\k.n<=12/\k.may) \/
  (1<=k.kd/\k.kd<=16/\k.kd≠1/\k.kd≠12/\k.md<=7/\k.r≠0/\¬k.may)\/(1<=k.kd/\k.kd<=16/\k.kd≠1/\k.kd≠12/\k.md<=7/\k.r=0/\k.n≠0/\¬k.may)\/(1<=k.kd/\k.kd<=16/\k.kd≠1/\k.kd≠12/\k.md<=7/\k.r=0/\k.n=0/\k.may):=by
 have h0:=hk.kd
 by_cases a:k.kd<1
 ·exact .inl ⟨a,fun h=>by unfold Ky.may at h;omega⟩
 by_cases b:16<k.kd
 ·exact .inr (.inl ⟨by omega,b,fun h=>by unfold Ky.may at h;omega⟩)
 by_cases c:7<k.md
 ·exact .inr (.inr (.inl ⟨by omega,by omega,c,fun h=>by unfold Ky.may at h;omega⟩))
 by_cases d:k.kd=1
 ·exact .inr (.inr (.inr (.inl ⟨d,by omega⟩)))
 by_cases f:k.kd=12
 ·by_cases g:k.r=0
  ·by_cases i:k.n<1
   ·exact .inr (.inr (.inr (.inr (.inr (.inl ⟨f,by omega,g,i,fun h=>by unfold Ky.may at h;omega⟩)))))
   ·by_cases j:12<k.n
    ·exact .inr (.inr (.inr (.inr (.inr (.inr (.inl ⟨f,by omega,g,by omega,j,fun h=>by unfold Ky.may at h;omega⟩))))))
    ·exact .inr (.inr (.inr (.inr (.inr (.inr (.inr (.inl ⟨f,by omega,g,by omega,by omega,by omega,by omega,by omega,.inr (.inl ⟨f,g,by omega,by omega⟩)⟩)))))))
  ·exact .inr (.inr (.inr (.inr (.inl ⟨f,by omega,g,fun h=>by unfold Ky.may at h;omega⟩))))
 ·by_cases g:k.r=0
  ·by_cases i:k.n=0
   ·exact .inr (.inr (.inr (.inr (.inr (.inr (.inr (.inr (.inr (.inr (⟨by omega,by omega,d,f,by omega,g,i,by omega,by omega,by omega,.inr (.inr ⟨d,f,g,i⟩)⟩))))))))))
   ·exact .inr (.inr (.inr (.inr (.inr (.inr (.inr (.inr (.inr (.inl ⟨by omega,by omega,d,f,by omega,g,i,fun h=>by unfold Ky.may at h;omega⟩)))))))))
  ·exact .inr (.inr (.inr (.inr (.inr (.inr (.inr (.inr (.inl ⟨by omega,by omega,d,f,by omega,g,fun h=>by unfold Ky.may at h;omega⟩))))))))
theorem Alc(k:Ky)(hk:k.Ok)(w:World):Calls prog 42 #[.agg (kA k)] w (Tup (.bool (decide k.may)) w):=by
 have hb0:=J0 (A3 w (.cells (kA k) 25))
 have hd:=KB.made w k
 have hc0:=hd.c0
 have hc1:=hd.c1
 have hc2:=hd.c2
 have hc3:=hd.c3
 clear hd
 rcases Cgd k hk with⟨h1,e⟩|⟨h1,h2,e⟩|⟨h1,h2,h3,e⟩|⟨h1,h3⟩|⟨h1,h3,h4,e⟩|⟨h1,h3,h4,h5,e⟩|⟨h1,h3,h4,h5,h6,e⟩|⟨h1,h3,h4,h5,h6,e⟩|⟨h1,h2,h3,h4,h5,h6,e⟩|⟨h1,h2,h3,h4,h5,h6,h7,e⟩|⟨h1,h2,h3,h4,h5,h6,h7,e⟩
 case inr.inr.inr.inl =>
  have hE:Hid (k.may↔S4 k.r/\k.n=0):=by
   show _↔_
   unfold Ky.may
   constructor
   ·rintro⟨_,_,_,h⟩
    rcases h with h|h|h
    ·exact h.2
    ·omega
    ·exact absurd h1 h.1
   ·rintro⟨h4,h5⟩
    exact⟨by omega,by omega,h3,.inl ⟨h1,h4,h5⟩⟩
  rw[h1]at hc0
  clear h1 hk
  by_cases hr:S4 k.r
  ·have G4:=J0 (fun w'=>Bke hr w')
   by_cases hn:k.n=0
   ·have e:Hid (true=decide k.may):=(decide_eq_true (hE.out.2 ⟨hr,hn⟩)).symm
    rw[hn]at hc2
    clear hn hr hE
    generalize k.r=x1 at *
    generalize k.n=x2 at *
    generalize k.md=x3 at *
    go_enter func42,ntmps42
    go_wp2_with((go_at_call 63;(with_reducible refine(G4.out _).mono ?_);rintro e w' ⟨rfl,rfl⟩))
    go_ret
    exact⟨G1 e.out,hb0.out⟩
   ·have e:Hid (false=decide k.may):=(decide_eq_false fun h=>hn (hE.out.1 h).2).symm
    clear hr hE
    generalize k.r=x1 at *
    generalize k.n=x2 at *
    generalize k.md=x3 at *
    go_enter func42,ntmps42
    go_wp2_with((go_at_call 63;(with_reducible refine(G4.out _).mono ?_);rintro e w' ⟨rfl,rfl⟩))
    go_ret
    exact⟨G1 (Eq.trans (by simp;omega) e.out),hb0.out⟩
  ·have G4:=J0 (fun w'=>Bmx hr w')
   have e:Hid (false=decide k.may):=(decide_eq_false fun h=>hr (hE.out.1 h).1).symm
   clear hr hE
   generalize k.r=x1 at *
   generalize k.n=x2 at *
   generalize k.md=x3 at *
   go_enter func42,ntmps42
   go_wp2_with((go_at_call 63;(with_reducible refine(G4.out _).mono ?_);rintro e w' ⟨rfl,rfl⟩))
   go_ret
   exact⟨G1 e.out,hb0.out⟩
 all_goals
  replace e:=J0 e
  clear hk
  generalize k.kd=x0 at *
  generalize k.r=x1 at *
  generalize k.n=x2 at *
  generalize k.md=x3 at *
  try subst h1
  go_enter func42,ntmps42
  go_wp2_with fail
  go_ret
  first
   |exact⟨G1 (decide_eq_true e.out).symm,hb0.out⟩
   |exact⟨G1 (decide_eq_false e.out).symm,hb0.out⟩
   |exact⟨G1 (Eq.trans (b:=false) (by simp;omega) (decide_eq_false e.out).symm),hb0.out⟩
end Go.Proofs.YtecnpoigegiooaaGreatDoor.Kys
namespace Go.Proofs.YtecnpoigegiooaaGreatDoor.Kys
open Tryz
open Go RowKit Com
theorem Bjs(k:Ky)(hk:k.Ok)(w:World):Calls prog 64 #[.agg (kA k)] w (Tup (.int .i64 (k.md+1)) w):=by
 have hb0:=J0 (A3 w (.cells (kA k) 25))
 have hc3:=(KB.made w k).c3
 have hm:=hk.md
 clear hk
 generalize k.md=x3 at *
 obtain⟨hm0,hm1⟩:=hm
 go_enter func64,ntmps64
 go_wp2
 go_ret
 exact⟨rfl,hb0.out⟩
theorem Cfx(k:Ky)(hk:k.may):(k.kd=2/\N8 k=65)\/(k.kd=3/\N8 k=66)\/(k.kd=4/\N8 k=67)\/(k.kd=5/\N8 k=68)\/(k.kd=6/\N8 k=70)\/(k.kd=7/\N8 k=72) \/
  (k.kd=12/\k.n=1/\N8 k=80)\/(k.kd=12/\k.n=2/\N8 k=81)\/(k.kd=12/\k.n=3/\N8 k=82)\/(k.kd=12/\k.n=4/\N8 k=83)\/(k.kd=12/\4<k.n/\N8 k=0) \/
  ((k.kd≠2/\k.kd≠3/\k.kd≠4/\k.kd≠5/\k.kd≠6/\k.kd≠7/\k.kd≠12)/\N8 k=0):=by
 obtain⟨kd,r,n,md⟩:=k
 obtain⟨h1,h2,h3,h4⟩:=hk
 dsimp only at *
 by_cases a:kd=2
 ·subst a;exact .inl ⟨rfl,rfl⟩
 by_cases b:kd=3
 ·subst b;exact .inr (.inl ⟨rfl,rfl⟩)
 by_cases c:kd=4
 ·subst c;exact .inr (.inr (.inl ⟨rfl,rfl⟩))
 by_cases d:kd=5
 ·subst d;exact .inr (.inr (.inr (.inl ⟨rfl,rfl⟩)))
 by_cases e:kd=6
 ·subst e;exact .inr (.inr (.inr (.inr (.inl ⟨rfl,rfl⟩))))
 by_cases f:kd=7
 ·subst f;exact .inr (.inr (.inr (.inr (.inr (.inl ⟨rfl,rfl⟩)))))
 by_cases g:kd=12
 ·subst g
  rcases h4 with h4|h4|h4
  ·exact absurd h4.1 (by decide)
  ·obtain⟨_,_,h5,h6⟩:=h4
   rcases(show n=1\/n=2\/n=3\/n=4\/4<n by omega)with rfl|rfl|rfl|rfl|h7
   ·exact .inr (.inr (.inr (.inr (.inr (.inr (.inl ⟨rfl,rfl,rfl⟩))))))
   ·exact .inr (.inr (.inr (.inr (.inr (.inr (.inr (.inl ⟨rfl,rfl,rfl⟩)))))))
   ·exact .inr (.inr (.inr (.inr (.inr (.inr (.inr (.inr (.inl ⟨rfl,rfl,rfl⟩))))))))
   ·exact .inr (.inr (.inr (.inr (.inr (.inr (.inr (.inr (.inr (.inl ⟨rfl,rfl,rfl⟩)))))))))
   ·refine .inr (.inr (.inr (.inr (.inr (.inr (.inr (.inr (.inr (.inr (.inl ⟨rfl,h7,?_⟩))))))))))
    unfold N8
    simp
    omega
  ·exact absurd rfl h4.2.1
 ·refine .inr (.inr (.inr (.inr (.inr (.inr (.inr (.inr (.inr (.inr (.inr ⟨⟨a,b,c,d,e,f,g⟩,?_⟩))))))))))
  simp[N8,a,b,c,d,e,f,g]
theorem Azh(k:Ky)(hm:k.may)(w:World):Calls prog 43 #[.agg (kA k)] w (Tup (.int .u8 (N8 k)) w):=by
 have hb0:=J0 (A3 w (.cells (kA k) 25))
 have hc0:=(KB.made w k).c0
 have hc2:=(KB.made w k).c2
 rcases Cfx k hm with⟨h1,e⟩|⟨h1,e⟩|⟨h1,e⟩|⟨h1,e⟩|⟨h1,e⟩|⟨h1,e⟩|⟨h1,h2,e⟩|⟨h1,h2,e⟩|⟨h1,h2,e⟩|⟨h1,h2,e⟩|⟨h1,h2,e⟩|⟨⟨h1,h2,h3,h4,h5,h6,h7⟩,e⟩
 all_goals
  rw[e]
  clear hm e
  generalize k.kd=x0 at *
  generalize k.n=x2 at *
  try subst h1
  try subst h2
  go_enter func43,ntmps43
  go_wp2_with fail
  go_ret
  exact⟨rfl,hb0.out⟩
theorem Bjw(k:Ky)(hk:k.may):(k.kd=8/\I3 k=2)\/(k.kd=9/\I3 k=3)\/(k.kd=10/\I3 k=5)\/(k.kd=11/\I3 k=6) \/
  (k.kd=12/\k.n=5/\I3 k=15)\/(k.kd=12/\k.n=6/\I3 k=17)\/(k.kd=12/\k.n=7/\I3 k=18)\/(k.kd=12/\k.n=8/\I3 k=19)\/(k.kd=12/\k.n=9/\I3 k=20)\/(k.kd=12/\k.n=10/\I3 k=21)\/(k.kd=12/\k.n=11/\I3 k=23)\/(k.kd=12/\k.n=12/\I3 k=24) \/
  (k.kd=12/\k.n<=4/\I3 k=0)\/((k.kd≠8/\k.kd≠9/\k.kd≠10/\k.kd≠11/\k.kd≠12)/\I3 k=0):=by
 obtain⟨kd,r,n,md⟩:=k
 obtain⟨h1,h2,h3,h4⟩:=hk
 dsimp only at *
 by_cases a:kd=8
 ·subst a;exact .inl ⟨rfl,rfl⟩
 by_cases b:kd=9
 ·subst b;exact .inr (.inl ⟨rfl,rfl⟩)
 by_cases c:kd=10
 ·subst c;exact .inr (.inr (.inl ⟨rfl,rfl⟩))
 by_cases d:kd=11
 ·subst d;exact .inr (.inr (.inr (.inl ⟨rfl,rfl⟩)))
 by_cases g:kd=12
 ·subst g
  rcases h4 with h4|h4|h4
  ·exact absurd h4.1 (by decide)
  ·obtain⟨_,_,h5,h6⟩:=h4
   rcases(show n=5\/n=6\/n=7\/n=8\/n=9\/n=10\/n=11\/n=12\/n<=4 by omega)with rfl|rfl|rfl|rfl|rfl|rfl|rfl|rfl|h7
   ·exact .inr (.inr (.inr (.inr (.inl ⟨rfl,rfl,rfl⟩))))
   ·exact .inr (.inr (.inr (.inr (.inr (.inl ⟨rfl,rfl,rfl⟩)))))
   ·exact .inr (.inr (.inr (.inr (.inr (.inr (.inl ⟨rfl,rfl,rfl⟩))))))
   ·exact .inr (.inr (.inr (.inr (.inr (.inr (.inr (.inl ⟨rfl,rfl,rfl⟩)))))))
   ·exact .inr (.inr (.inr (.inr (.inr (.inr (.inr (.inr (.inl ⟨rfl,rfl,rfl⟩))))))))
   ·exact .inr (.inr (.inr (.inr (.inr (.inr (.inr (.inr (.inr (.inl ⟨rfl,rfl,rfl⟩)))))))))
   ·exact .inr (.inr (.inr (.inr (.inr (.inr (.inr (.inr (.inr (.inr (.inl ⟨rfl,rfl,rfl⟩))))))))))
   ·exact .inr (.inr (.inr (.inr (.inr (.inr (.inr (.inr (.inr (.inr (.inr (.inl ⟨rfl,rfl,rfl⟩)))))))))))
   ·refine .inr (.inr (.inr (.inr (.inr (.inr (.inr (.inr (.inr (.inr (.inr (.inr (.inl ⟨rfl,h7,?_⟩))))))))))))
    unfold I3
    simp
    omega
  ·exact absurd rfl h4.2.1
 ·refine .inr (.inr (.inr (.inr (.inr (.inr (.inr (.inr (.inr (.inr (.inr (.inr (.inr ⟨⟨a,b,c,d,g⟩,?_⟩))))))))))))
  simp[I3,a,b,c,d,g]
theorem Ael{P:Program}{ops:Array Oper}{rest:List Oper}{o:Oper}{a:Act}{w:World}{Q:Exit->Act->World->Prop}(hgd:o.guard=none){t:TypeId}{u j v:Value}(h:∀w,(Instr.index t u j).run P w=.ok v w)(x i:Operand)(ho:o.op=.index t x i)(hx:a.eval x=u)(hj:a.eval i=j)
  (hK:wpList P ops Q rest (a.put o.dst v) w):wpList P ops Q (o::rest) a w :=
 wpList_plain hgd fun _ hK'=>by
  unfold Oper.wp execOp
  simp only[ho,hx,hj,Sem.run_bind,h,Sem.run_pure,Result.andThen_ok]
  exact hK' _ _ hK
theorem at0(W:World):(Instr.index 154 (.agg #[.int .i64 15,.int .i64 17,.int .i64 18,.int .i64 19,.int .i64 20,.int .i64 21,.int .i64 23,.int .i64 24]) (.int .i64 0)).run prog W=.ok (.int .i64 15) W:=by kernel_rfl
theorem at1(W:World):(Instr.index 154 (.agg #[.int .i64 15,.int .i64 17,.int .i64 18,.int .i64 19,.int .i64 20,.int .i64 21,.int .i64 23,.int .i64 24]) (.int .i64 1)).run prog W=.ok (.int .i64 17) W:=by kernel_rfl
theorem at2(W:World):(Instr.index 154 (.agg #[.int .i64 15,.int .i64 17,.int .i64 18,.int .i64 19,.int .i64 20,.int .i64 21,.int .i64 23,.int .i64 24]) (.int .i64 2)).run prog W=.ok (.int .i64 18) W:=by kernel_rfl
theorem at3(W:World):(Instr.index 154 (.agg #[.int .i64 15,.int .i64 17,.int .i64 18,.int .i64 19,.int .i64 20,.int .i64 21,.int .i64 23,.int .i64 24]) (.int .i64 3)).run prog W=.ok (.int .i64 19) W:=by kernel_rfl
theorem at4(W:World):(Instr.index 154 (.agg #[.int .i64 15,.int .i64 17,.int .i64 18,.int .i64 19,.int .i64 20,.int .i64 21,.int .i64 23,.int .i64 24]) (.int .i64 4)).run prog W=.ok (.int .i64 20) W:=by kernel_rfl
theorem at5(W:World):(Instr.index 154 (.agg #[.int .i64 15,.int .i64 17,.int .i64 18,.int .i64 19,.int .i64 20,.int .i64 21,.int .i64 23,.int .i64 24]) (.int .i64 5)).run prog W=.ok (.int .i64 21) W:=by kernel_rfl
theorem at6(W:World):(Instr.index 154 (.agg #[.int .i64 15,.int .i64 17,.int .i64 18,.int .i64 19,.int .i64 20,.int .i64 21,.int .i64 23,.int .i64 24]) (.int .i64 6)).run prog W=.ok (.int .i64 23) W:=by kernel_rfl
theorem at7(W:World):(Instr.index 154 (.agg #[.int .i64 15,.int .i64 17,.int .i64 18,.int .i64 19,.int .i64 20,.int .i64 21,.int .i64 23,.int .i64 24]) (.int .i64 7)).run prog W=.ok (.int .i64 24) W:=by kernel_rfl
theorem Bgq(k:Ky)(hm:k.may)(w:World):Calls prog 45 #[.agg (kA k)] w (Tup (.int .i64 (I3 k)) w):=by
 have hb0:=J0 (A3 w (.cells (kA k) 25))
 have hc0:=(KB.made w k).c0
 have hc2:=(KB.made w k).c2
 rcases Bjw k hm with⟨h1,e⟩|⟨h1,e⟩|⟨h1,e⟩|⟨h1,e⟩|⟨h1,h2,e⟩|⟨h1,h2,e⟩|⟨h1,h2,e⟩|⟨h1,h2,e⟩|⟨h1,h2,e⟩|⟨h1,h2,e⟩|⟨h1,h2,e⟩|⟨h1,h2,e⟩|⟨h1,h2,e⟩|⟨⟨h1,h2,h3,h4,h5⟩,e⟩
 ·rw[e]
  clear hm e
  generalize k.kd=x0 at *
  generalize k.n=x2 at *
  subst h1
  go_enter func45,ntmps45
  go_wp2_with fail
  go_ret
  exact⟨rfl,hb0.out⟩
 ·rw[e]
  clear hm e
  generalize k.kd=x0 at *
  generalize k.n=x2 at *
  subst h1
  go_enter func45,ntmps45
  go_wp2_with fail
  go_ret
  exact⟨rfl,hb0.out⟩
 ·rw[e]
  clear hm e
  generalize k.kd=x0 at *
  generalize k.n=x2 at *
  subst h1
  go_enter func45,ntmps45
  go_wp2_with fail
  go_ret
  exact⟨rfl,hb0.out⟩
 ·rw[e]
  clear hm e
  generalize k.kd=x0 at *
  generalize k.n=x2 at *
  subst h1
  go_enter func45,ntmps45
  go_wp2_with fail
  go_ret
  exact⟨rfl,hb0.out⟩
 ·rw[e]
  clear hm e
  generalize k.kd=x0 at *
  generalize k.n=x2 at *
  subst h1
  subst h2
  go_enter func45,ntmps45
  go_wp2_with((with_reducible show wpList _ _ _ (⟨some 22,.index _ _ _,_,_,_,_⟩::_) _ _;go_must(refine Ael rfl at0 (.tmp 18) (.tmp 21) rfl rfl rfl ?_)))
  go_ret
  exact⟨rfl,hb0.out⟩
 ·rw[e]
  clear hm e
  generalize k.kd=x0 at *
  generalize k.n=x2 at *
  subst h1
  subst h2
  go_enter func45,ntmps45
  go_wp2_with((with_reducible show wpList _ _ _ (⟨some 22,.index _ _ _,_,_,_,_⟩::_) _ _;go_must(refine Ael rfl at1 (.tmp 18) (.tmp 21) rfl rfl rfl ?_)))
  go_ret
  exact⟨rfl,hb0.out⟩
 ·rw[e]
  clear hm e
  generalize k.kd=x0 at *
  generalize k.n=x2 at *
  subst h1
  subst h2
  go_enter func45,ntmps45
  go_wp2_with((with_reducible show wpList _ _ _ (⟨some 22,.index _ _ _,_,_,_,_⟩::_) _ _;go_must(refine Ael rfl at2 (.tmp 18) (.tmp 21) rfl rfl rfl ?_)))
  go_ret
  exact⟨rfl,hb0.out⟩
 ·rw[e]
  clear hm e
  generalize k.kd=x0 at *
  generalize k.n=x2 at *
  subst h1
  subst h2
  go_enter func45,ntmps45
  go_wp2_with((with_reducible show wpList _ _ _ (⟨some 22,.index _ _ _,_,_,_,_⟩::_) _ _;go_must(refine Ael rfl at3 (.tmp 18) (.tmp 21) rfl rfl rfl ?_)))
  go_ret
  exact⟨rfl,hb0.out⟩
 ·rw[e]
  clear hm e
  generalize k.kd=x0 at *
  generalize k.n=x2 at *
  subst h1
  subst h2
  go_enter func45,ntmps45
  go_wp2_with((with_reducible show wpList _ _ _ (⟨some 22,.index _ _ _,_,_,_,_⟩::_) _ _;go_must(refine Ael rfl at4 (.tmp 18) (.tmp 21) rfl rfl rfl ?_)))
  go_ret
  exact⟨rfl,hb0.out⟩
 ·rw[e]
  clear hm e
  generalize k.kd=x0 at *
  generalize k.n=x2 at *
  subst h1
  subst h2
  go_enter func45,ntmps45
  go_wp2_with((with_reducible show wpList _ _ _ (⟨some 22,.index _ _ _,_,_,_,_⟩::_) _ _;go_must(refine Ael rfl at5 (.tmp 18) (.tmp 21) rfl rfl rfl ?_)))
  go_ret
  exact⟨rfl,hb0.out⟩
 ·rw[e]
  clear hm e
  generalize k.kd=x0 at *
  generalize k.n=x2 at *
  subst h1
  subst h2
  go_enter func45,ntmps45
  go_wp2_with((with_reducible show wpList _ _ _ (⟨some 22,.index _ _ _,_,_,_,_⟩::_) _ _;go_must(refine Ael rfl at6 (.tmp 18) (.tmp 21) rfl rfl rfl ?_)))
  go_ret
  exact⟨rfl,hb0.out⟩
 ·rw[e]
  clear hm e
  generalize k.kd=x0 at *
  generalize k.n=x2 at *
  subst h1
  subst h2
  go_enter func45,ntmps45
  go_wp2_with((with_reducible show wpList _ _ _ (⟨some 22,.index _ _ _,_,_,_,_⟩::_) _ _;go_must(refine Ael rfl at7 (.tmp 18) (.tmp 21) rfl rfl rfl ?_)))
  go_ret
  exact⟨rfl,hb0.out⟩
 ·rw[e]
  clear hm e
  generalize k.kd=x0 at *
  generalize k.n=x2 at *
  subst h1
  go_enter func45,ntmps45
  go_wp2_with fail
  go_ret
  exact⟨rfl,hb0.out⟩
 ·rw[e]
  clear hm e
  generalize k.kd=x0 at *
  generalize k.n=x2 at *
  go_enter func45,ntmps45
  go_wp2_with fail
  go_ret
  exact⟨rfl,hb0.out⟩
theorem Btx(r:Int)(w:World):Calls prog 67 #[.int .i32 r] w fun e w'=>e=.returned (.int .u8 (128+r % 64))/\w=w':=by
 go_enter func67,ntmps67
 go_wp2
 go_ret
 exact⟨rfl,rfl⟩
theorem Aqo(w:World)(l:List Int)(hl:l.length<=16):Row (w.alloc (.cells (l.map (Value.int .u8)).toArray 5)) w.heap.size 5 (.slice (some ⟨w.heap.size,0,none⟩) l.length l.length) l :=
 Row.lit w _ _ l (J5 _) (by simp[maxLen];omega)
theorem Cea{r:Int}(h:¬(r<0\/1114111<r\/(55296<=r/\r<=57343))) :
  (0<=r/\r<128/\O5 r=[r])\/(128<=r/\r<2048/\O5 r=[192+r/64,128+r % 64])\/(2048<=r/\r<55296/\O5 r=[224+r/4096,128+r/64 % 64,128+r % 64])\/(57343<r/\r<65536/\O5 r=[224+r/4096,128+r/64 % 64,128+r % 64]) \/
  (65536<=r/\r<=1114111/\O5 r=[240+r/262144,128+r/4096 % 64,128+r/64 % 64,128+r % 64]):=by
 unfold O5
 rw[if_neg h]
 by_cases h1:r<128
 ·exact .inl ⟨by omega,h1,if_pos h1⟩
 ·rw[if_neg h1]
  by_cases h2:r<2048
  ·exact .inr (.inl ⟨by omega,h2,if_pos h2⟩)
  ·rw[if_neg h2]
   by_cases h3:r<65536
   ·rw[if_pos h3]
    by_cases h4:r<55296
    ·exact .inr (.inr (.inl ⟨by omega,h4,rfl⟩))
    ·exact .inr (.inr (.inr (.inl ⟨by omega,h3,rfl⟩)))
   ·rw[if_neg h3]
    exact .inr (.inr (.inr (.inr ⟨by omega,by omega,rfl⟩)))
theorem Bfd(r:Int)(h:¬(r<0\/1114111<r\/(55296<=r/\r<=57343)))(w:World):Calls prog 52 #[.int .i32 r] w (Put w.heap.size (O5 r) w):=by
 rcases Cea h with⟨h0,h1,e⟩|⟨h0,h1,e⟩|⟨h0,h1,e⟩|⟨h0,h1,e⟩|⟨h0,h1,e⟩
 all_goals
  replace e:=J0 e
  clear h
  go_enter func52,ntmps52
  go_wp2_with((go_at_call 67;refine(Btx _ _).mono ?_;rintro e w' ⟨rfl,rfl⟩))
  go_ret
  refine⟨_,rfl,?_,A3 _ _⟩
  have hl:=Aqo w (O5 r) (by have:=Aky r;omega)
  rw[e.out]at hl |-
  exact hl
theorem Bzj:¬((65533:Int)<0\/(1114111:Int)<65533\/((55296:Int)<=65533/\(65533:Int)<=57343)):=by omega
theorem Coj{r:Int}(h:r<0\/1114111<r\/(55296<=r/\r<=57343)):O5 r=[239,191,189]:=by unfold O5;exact if_pos h
theorem Ats(r:Int)(w:World):Calls prog 52 #[.int .i32 r] w (Put w.heap.size (O5 r) w):=by
 by_cases h:r<0\/1114111<r\/(55296<=r/\r<=57343)
 ·have hb:=Bfd 65533 Bzj w
  rw[show O5 65533=O5 r by rw[Coj h];rfl]at hb
  replace hb:=J0 hb
  rcases h with h|h|⟨h,h'⟩
  all_goals
   go_enter func52,ntmps52
   go_wp2_with((go_at_call 52;refine(hb.out).mono ?_;rintro e w1 ⟨v,rfl,ho,F0⟩))
   go_ret
   exact⟨v,rfl,ho,F0⟩
 ·exact Bfd r h w
