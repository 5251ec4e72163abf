/- Part 2 of HostKeys. -/
import Derived.Test.YtecnpoigegiooaaGreatDoorW01
import Derived.Deep.RegionLaw
set_option maxHeartbeats 16000000
set_option maxRecDepth 100000
namespace Go.Proofs.YtecnpoigegiooaaGreatDoor.Prs
open Tryz
open Go RowKit Com Par
theorem Crv:∃i,prog.info? 151=some i/\i.zero=some (.agg #[.int .u8 0,.int .i32 0,.int .i32 0,.slice none 0 0,.slice none 0 0,.int .i32 0,.slice none 0 0])/\i.size=7/\i.bytes=96:=by
 have h:(prog.info? 151).map (fun i=>(i.zero,i.size,i.bytes))=some (some (.agg #[.int .u8 0,.int .i32 0,.int .i32 0,.slice none 0 0,.slice none 0 0,.int .i32 0,.slice none 0 0]),7,96):=by kernel_rfl
 exact info_parts h
theorem Cep{w:World}{ok:Nat->Prop}{l:List Act}{css:List (List Value)}(h:U4 (X7 w ok) l css):∀u∈css.flatten,u.oneCell'=true:=by
 induction h with
 |nil=>intro u hu;cases hu
 |cons h _ ih =>
  intro u hu
  rw[List.flatten_cons]at hu
  rcases List.mem_append.1 hu with hu|hu
  ·exact h.one u hu
  ·exact ih u hu
theorem Chi(w:World)(ty:TypeId){B B2:Nat}{ok ok2:Nat->Prop}{x y:Value}{As Bs:List Act}(h:F4 w B ok x As)(g:F4 w B2 ok2 y Bs)(hx:∀b,x.ownBlock=some b->¬ok2 b)
  (hB:B<=w.heap.size) (hn:As.length+Bs.length<=1048576) :
  ∃z w',(Builtin.append_ #[148,148] ty #[x,y]).run prog w=.ok z w'/\F4 w' B (fun b=>ok b\/ok2 b) z (As++Bs)/\A0 x.ownBlock.toList w w'/\(z.ownBlock=x.ownBlock\/z.ownBlock=some w.heap.size):=by
 obtain⟨i,hi,hz,hs,hb⟩:=Crv
 obtain⟨css,h1,h2⟩:=h.ex
 obtain⟨dss,g1,g2⟩:=g.ex
 rcases hg3:g2.2 with⟨rfl,hl⟩|⟨gb,cap,cur,rfl,_,hh,_⟩
 ·have hb0:Bs=[]:=List.eq_nil_of_length_eq_zero hl
  subst hb0
  refine⟨x,w,?_,by rw[List.append_nil];exact h.mono (fun _ _ h=>.inl h),A0.refl _ _,.inl rfl⟩
  rcases h2.2 with⟨rfl,_⟩|⟨gx,cap,cur,rfl,_,_,hnc,_⟩
  ·simp[Builtin.append_,run_underlying underlying148,sizeOf,typeInfo,hi,Builtin.lenOf,Builtin.firstCells]
  ·simp[Builtin.append_,run_underlying underlying148,sizeOf,typeInfo,hi,Builtin.lenOf,Builtin.firstCells,hnc,storeCells]
 ·have E0:=Cep g1
  obtain⟨z,w',hr,k2,k3,_,k5⟩:=run_append_own_at (P:=prog) (w:=w) B 148 ty 151 i _ 7 96 underlying148 hi hz hs hb rfl (by omega) x As.length css.flatten h2
   ⟨gb,0,none⟩ Bs.length cap dss.flatten (by rw[Ceo g1 (fun _ _ h=>h.len)]) (World.ownsRow.cells g2 rfl) E0 (by simp[maxLen];omega) (by omega) hB
  have ho:=A0.grown k3
  have hzz:∀b,b<w.heap.size->z.ownBlock=some b->x.ownBlock=some b:=fun b hb hz=>by
   rcases k5 with e|e
   ·rw[<- e];exact hz
   ·rw[e]at hz;simp at hz;omega
  refine⟨z,w',hr,⟨css++dss,U4.app (h1.mono fun _ _ h=>?_) (g1.mono fun _ _ h=>?_),?_⟩,ho,k5⟩
  ·have h':X7 w (fun b=>(ok b/\x.ownBlock≠some b)/\b<w.heap.size) _ _:=h.mono (fun b hb hk=>⟨hk,hb⟩)
   exact(h'.only ho (fun b hb hk=>hk.1.2 (by simpa using hb))).mono (fun b _ hk=>⟨.inl hk.1.1,fun e=>hk.1.2 (hzz b hk.2 e)⟩)
  ·have h':X7 w (fun b=>(ok2 b/\x.ownBlock≠some b)/\b<w.heap.size) _ _:=h.mono (fun b hb hk=>⟨⟨hk.1,fun e=>hx b e hk.1⟩,hb⟩)
   exact(h'.only ho (fun b hb hk=>hk.1.2 (by simpa using hb))).mono (fun b _ hk=>⟨.inr hk.1.1,fun e=>hk.1.2 (hzz b hk.2 e)⟩)
  ·rw[List.flatten_append,List.length_append]
   exact k2
theorem Bnk{w:World}{o:Oper}{a:Go.Act}{K:Go.Act->World->Prop}{Q:Exit->Go.Act->World->Prop}(s t:Operand)
  (ho:o.op=.call { callee:=.builtin .append,args:=#[s,t],argTypes:=#[148,148] })
  {B B2:Nat} {ok ok2:Nat->Prop} {x y:Value} {As Bs:List Act} (hs:a.eval s=x) (ht:a.eval t=y) (h:F4 w B ok x As) (g:F4 w B2 ok2 y Bs) (hx:∀b,x.ownBlock=some b->¬ok2 b)
  (hB:B<=w.heap.size) (hn:As.length+Bs.length<=1048576)
  (hK:∀z w',F4 w' B (fun b=>ok b\/ok2 b) z (As++Bs)->A0 x.ownBlock.toList w w'->(z.ownBlock=x.ownBlock\/z.ownBlock=some w.heap.size)->K (a.put o.dst z) w'):o.wp prog a w K Q:=by
 obtain⟨z,w',hr,h2,h3,h4⟩:=Chi w o.type h g hx hB hn
 unfold Oper.wp execOp
 simp only[ho,resolve,invoke,builtin,Sem.run_bind,Sem.run_pure,Result.andThen_ok,List.map_toArray,List.map_cons,List.map_nil,hs,ht,hr]
 exact hK z w' h2 h3 h4
theorem Ayw{w:World}{ops:Array Oper}{rest:List Oper}{o:Oper}{a:Go.Act}{Q:Exit->Go.Act->World->Prop}(hgd:Region.wanted o (yielded ops a.tmps)=true)(s t:Operand)
  (ho:o.op=.call { callee:=.builtin .append,args:=#[s,t],argTypes:=#[148,148] })
  {B B2:Nat} {ok ok2:Nat->Prop} {x y:Value} {As Bs:List Act} (hs:a.eval s=x) (ht:a.eval t=y) (h:F4 w B ok x As) (g:F4 w B2 ok2 y Bs) (hx:∀b,x.ownBlock=some b->¬ok2 b)
  (hB:B<=w.heap.size) (hn:As.length+Bs.length<=1048576)
  (hK:∀z w',F4 w' B (fun b=>ok b\/ok2 b) z (As++Bs)->A0 x.ownBlock.toList w w'->(z.ownBlock=x.ownBlock\/z.ownBlock=some w.heap.size)->wpList prog ops Q rest (a.put o.dst z) w'):wpList prog ops Q (o::rest) a w :=
 Afq hgd fun _ hK'=>Bnk s t ho hs ht h g hx hB hn fun z w' h1 h2 h3=>hK' _ _ (hK z w' h1 h2 h3)
theorem Cck{w:World}{ops:Array Oper}{o:Oper}{a:Go.Act}{K:Go.Act->World->Prop}{Q:Exit->Go.Act->World->Prop}{F:Prop}(hgd:Region.wanted o (yielded ops a.tmps)=true)(s t:Operand)
  (ho:o.op=.call { callee:=.builtin .append,args:=#[s,t],argTypes:=#[148,148] })
  {B B2:Nat} {ok ok2:Nat->Prop} {x y:Value} {As Bs:List Act} (hs:a.eval s=x) (ht:a.eval t=y) (h:F4 w B ok x As) (g:F4 w B2 ok2 y Bs) (hx:∀b,x.ownBlock=some b->¬ok2 b)
  (hB:B<=w.heap.size) (hn:As.length+Bs.length<=1048576)
  (hK:∀z w',F4 w' B (fun b=>ok b\/ok2 b) z (As++Bs)->A0 x.ownBlock.toList w w'->(z.ownBlock=x.ownBlock\/z.ownBlock=some w.heap.size)->K (a.put o.dst z) w') :
  if Region.wanted o (yielded ops a.tmps)=true then Oper.wp prog o a w K Q else F:=by
 rw[if_pos hgd]
 exact Bnk s t ho hs ht h g hx hB hn hK
theorem Akm{P:Program}{ops:Array Oper}{rest:List Oper}{o:Oper}{a:Go.Act}{w:World}{Q:Exit->Go.Act->World->Prop}(hgd:o.guard=none)(ty:TypeId)(x y:Operand)(ho:o.op=.store ty x y)
  {g i:Nat} {t:TypeId} {cs:Array Value} (hb:Block w g t cs) (vs:Array Value) (hx:a.eval x=.pointer (some ⟨g,i,none⟩)) (hy:a.eval y=.agg vs) (hi:i+vs.size<=cs.size) (Y8:(P.info? ty).map (·.size)=some vs.size) (h1:vs.all (·.oneCell')=true)
  (h:∀w',Block w' g t (cs.toList.take i++(vs.toList++cs.toList.drop (i+vs.size))).toArray->A0 [g] w w'->wpList P ops Q rest (a.put o.dst undef) w'):wpList P ops Q (o::rest) a w :=
 wpList_plain hgd fun _ hK=>by
  have:=run_storeCells_at (P:=P) g i t vs.toList 0 cs w hb (by simpa using hi) (fun x hx=>(Array.all_eq_true_iff_forall_mem.1 h1) x (by simpa using hx))
  cases hq:P.info? ty with
  |none=>simp[hq]at Y8
  |some j =>
   have hs:j.size=vs.size:=by simpa[hq]using Y8
   have hc:(Value.agg vs).cells=vs:=rfl
   simp only[Nat.add_zero,Array.length_toList]at this
   unfold Oper.wp execOp
   simp[ho,hx,hy,Instr.storeAt,Instr.sureAddr,Sem.run_bind,Sem.run_pure,storeVar,sizeOf,typeInfo,hq,hc,hs,this]
   exact hK _ _ (h _ (setRow_heap w g cs _ t _ hb) (Adl w g _))
def Adk(q:Sq):List Value:=.int .i32 q.pr::(P8 q.num++[.int .i32 q.a,.int .i32 q.b,.int .i64 q.cnt,.bool q.many])
theorem Bmn(S:PS)(v:Value):F7 S v=[.int .u8 S.st]++Adk S.sq++[v]:=by
 unfold F7 Adk Aog
 simp
theorem Chr{q:Sq}(h:q.num.n.length<=32):(Adk q).length=39:=by
 unfold Adk
 simp[Ako h]
theorem Cls{S:PS}{v:Value}(hL:S.sq.num.n.length<=32):(F7 S v).take 1++(Adk U9++(F7 S v).drop 40)=F7 ⟨S.st,U9,S.text⟩ v:=by
 have h:=Chr hL
 have e:(F7 S v).drop 40=[v]:=by
  rw[Bmn,List.append_assoc]
  exact List.drop_left' h
 rw[e,Bmn]
 rfl
theorem Bgx{S:PS}{v:Value}{w:World}{d:Nat}(hL:S.sq.num.n.length<=32)(h:Block w d 115 ((F7 S v).toArray.toList.take 1++((Adk U9).toArray.toList++(F7 S v).toArray.toList.drop (1+(Adk U9).toArray.size))).toArray):D0 w d ⟨S.st,U9,S.text⟩ v:=by
 unfold D0
 rw[<- Cls hL]
 exact h
theorem Bkg{l:List Value}(h:l.length=41):1+(Adk U9).toArray.size<=l.toArray.size:=by
 have e:(Adk U9).length=39:=rfl
 rw[List.size_toArray,List.size_toArray,h,e]
 omega
theorem Bmy:(Adk U9).toArray.all (·.oneCell')=true:=by kernel_rfl
theorem Bqd:(prog.info? 113).map (·.size)=some (Adk U9).toArray.size:=by kernel_rfl
theorem Aug{S:PS}(h:S.st≠12)(s:Int):Abw S=[]/\R7 S s=⟨s,if s=1\/s=3\/s=7 then U9 else S.sq,S.text⟩:=by
 unfold Abw R7
 rw[if_neg h,if_neg h]
 exact⟨rfl,rfl⟩
theorem Bxz(S:PS)(v:Value)(hs:S.st≠12)(s:Int)(hq:¬(s=1\/s=3\/s=7))(B d:Nat)(w:World)(hd:C9 w B d v S) :
  Calls prog 85 #[.pointer (some ⟨d,0,none⟩),.int .u8 s] w (Fed w B d v (E4 S s)):=by
 have h0:=hd.blk.c0
 have f0:=hd.blk.free 0
 have hs':(S.st==12)=false:=by simpa using hs
 have q1:(s==1)=false:=by simp;omega
 have q3:(s==3)=false:=by simp;omega
 have q7:(s==7)=false:=by simp;omega
 have C4:=J0 (hd.blk.set (Awm S v s))
 have hd':=J0 hd
 have hE:Hid (E4 S s=([],⟨s,S.sq,S.text⟩)):=by show _=_;unfold E4;rw[(Aug hs s).1,(Aug hs s).2,if_neg hq]
 clear hd hq hs
 go_enter func85,ntmps85
 go_wp2
 go_ret
 rw[hE.out]
 have o:=A0.setCell w ⟨d,0,none⟩ (.int .u8 s)
 exact⟨_,v,rfl,⟨C4.out,hd'.out.own.only o (fun g hg hm=>hd'.out.apart (by simp at hm;rw[hg,hm])),hd'.out.low⟩,.inl rfl,F4.nil _ _ _,o.mono (by simp)⟩
theorem Cbb(S:PS)(v:Value)(hL:S.sq.num.n.length<=32)(hs:S.st≠12)(s:Int)(hq:s=1\/s=3\/s=7)(B d:Nat)(w:World)(hd:C9 w B d v S) :
  Calls prog 85 #[.pointer (some ⟨d,0,none⟩),.int .u8 s] w (Fed w B d v (E4 S s)):=by
 have h0:=hd.blk.c0
 have hs':(S.st==12)=false:=by simpa using hs
 have hd':=J0 hd
 have hb:=hd.blk.blk
 have hE:Hid (E4 S s=([],⟨s,U9,S.text⟩)):=by show _=_;unfold E4;rw[(Aug hs s).1,(Aug hs s).2,if_pos hq]
 have E1:=J0 (fun w h=>Bgx (w:=w) (d:=d) (v:=v) hL h)
 have hsz:=Bka (v:=v) hL
 clear hd hs
 rcases hq with rfl|rfl|rfl
 all_goals
  go_enter func85,ntmps85
  go_wp2_with(with_reducible refine J8 30 ?_;go_must(refine Akm rfl _ (.tmp 30) (.tmp 28) rfl hb (Adk U9).toArray rfl rfl (Bkg hsz) Bqd Bmy ?_);intro w1 hb1 ho1;replace hb1:=E1.out w1 hb1;have h10:=hb1.c0;have f10:=hb1.free 0)
  go_ret
  rw[hE.out]
  have o:=fun u=>ho1.trans (A0.setCell w1 ⟨d,0,none⟩ u)
  exact⟨_,v,rfl,⟨hb1.set (Awm _ v _),hd'.out.own.only (o _) (fun g hg hm=>hd'.out.apart (by simp at hm;rw[hg,hm])),hd'.out.low⟩,.inl rfl,F4.nil _ _ _,(o _).mono (by simp)⟩
theorem Cpn{w:World}{B:Nat}{e:TypeId}{v:Value}{l:List Int}(h:Own w B e .i32 v l):X7 w (fun g=>v.ownBlock=some g) (Aej l) [.int .u8 5,.int .i32 0,.int .i32 0,.slice none 0 0,.slice none 0 0,.int .i32 0,v]:=by
 obtain⟨ao,c,rfl,_,_,hn⟩:=Auj h
 exact⟨⟨none,0,none,0,ao,c,rfl,I2.nil _ _ _ _,I2.nil _ _ _ _,hn⟩,none,0,rfl,J5 _,by simp[maxLen]⟩
theorem Auk{w w':World}(h:A0 (Value.slice none 0 0).ownBlock.toList w w'):A0 [] w w':=by simpa[Value.ownBlock]using h
theorem Bju{p:Nat->Prop}:∀b,(Value.slice none 0 0).ownBlock=some b->p b:=fun _ h=>by cases h
theorem Bol{w:World}{B:Nat}{ok:Nat->Prop}{x:Value}{A:Act}(h:F4 w B ok x [A]):∃ao cap,x=.slice ao 1 cap:=by
 obtain⟨ao,cap,e,_⟩:=h.shape
 exact⟨ao,cap,e⟩
theorem Bml{w w1 w2:World}{B d:Nat}{v x:Value}{S S':PS}(hd:C9 w B d v S)(o1:A0 [] w w1)(hz:F4 w1 w.heap.size (fun b=>False\/v.ownBlock=some b) x [Aej S.text])(o2:A0 [d] w1 w2)
  (hb:D0 w2 d S' (.slice none 0 0)) (ht:S'.text=[]):Fed w B d v ([Aej S.text],S') (.returned x) w2:=by
 have hb1:=hd.blk.only o1 (by simp)
 have hap:=hd.apart
 have hax:=hz.Bhk hb1.blk (by decide)
 refine⟨x,.slice none 0 0,rfl,⟨hb,by rw[ht];exact Own.nil _ _ _ _,hd.low⟩,.inr (.inl rfl),?_,(o1.mono (by simp)).trans (o2.mono (by simp))⟩
 refine(hz.only o2 (fun g hg hk=>?_) (fun g hg hm=>?_)).mono (fun g _ hk=>?_)
 ·simp at hg
  subst hg
  exact hk.elim id hap
 ·simp at hm
  subst hm
  exact hax hg
 ·exact⟨.inr (hk.elim False.elim id),by simp[Value.ownBlock],fun e=>by subst e;exact hk.elim id hap⟩
theorem Cfw(S:PS)(v:Value)(hL:S.sq.num.n.length<=32)(hs:S.st=12)(s:Int)(B d:Nat)(w:World)(hd:C9 w B d v S) :
  Calls prog 85 #[.pointer (some ⟨d,0,none⟩),.int .u8 s] w (Fed w B d v (E4 S s)):=by
 have h0:=hd.blk.c0
 have h40:=hd.blk.txt hL
 rw[hs]at h0
 have Brh:=Cpn hd.own
 have hd':=J0 hd
 have E1:=J0 (fun w h=>Bgx (w:=w) (d:=d) (v:=.slice none 0 0) hL h)
 have C4:=J0 (Bnb hL v (.slice none 0 0))
 have hsz:=Bka (v:=.slice none 0 0) hL
 obtain⟨ao,c,rfl,_,_,_⟩:=hd.own.shape
 have hosc':=J0 Brh
 clear hd Brh
 by_cases hq:s=1\/s=3\/s=7
 ·have hE:Hid (E4 S s=([Aej S.text],⟨s,U9,[]⟩)):=by show _=_;unfold E4 Abw R7;rw[if_pos hs,if_pos hs,if_pos hq]
  rcases hq with rfl|rfl|rfl
  all_goals
   go_enter func85,ntmps85
   go_wp2_with (first
    |(with_reducible refine J6 18 ?_;go_must(refine Ayw (x:=.slice none 0 0) (ok2:=fun g=>(Value.slice ao S.text.length c).ownBlock=some g) rfl (.tmp 11) (.tmp 17) rfl rfl rfl (F4.nil _ w.heap.size (fun _=>False)) (Amw w w.heap.size (J5 _) _ _ _ hosc'.out) Bju (by simp) (by simp) ?_);go_must(intro z w1 hz ho1 hat;obtain⟨az,cz,rfl⟩:=Bol hz;have o1:A0 [] w w1:=(A0.alloc [] w _).trans (Auk ho1);have hb1:=hd'.out.blk.only o1 (by simp);have k40:=hb1.txt hL;have f40:=hb1.free 40;have k0:=hb1.c0;rw[hs]at k0;have f0:=hb1.free 0;have hs2:=hb1.set C4.out;have hb2:=hs2.blk))
    |(with_reducible refine J8 30 ?_;go_must(refine Akm rfl _ (.tmp 30) (.tmp 28) rfl hb2 (Adk U9).toArray rfl rfl (Bkg hsz) Bqd Bmy ?_);intro w3 hb3 ho3;replace hb3:=E1.out w3 hb3;have m0:=hb3.c0;have g0:=hb3.free 0))
   go_ret
   rw[hE.out]
   exact Bml hd'.out o1 hz ((A0.setCell w1 ⟨d,40,none⟩ _).trans (ho3.trans (A0.setCell w3 ⟨d,0,none⟩ _))) (hb3.set (Awm _ _ _)) rfl
 ·have hE:Hid (E4 S s=([Aej S.text],⟨s,S.sq,[]⟩)):=by show _=_;unfold E4 Abw R7;rw[if_pos hs,if_pos hs,if_neg hq]
  have q1:(s==1)=false:=by simp;omega
  have q3:(s==3)=false:=by simp;omega
  have q7:(s==7)=false:=by simp;omega
  clear hq E1 hsz
  go_enter func85,ntmps85
  go_wp2_with (first
   |(with_reducible refine J6 18 ?_;go_must(refine Ayw (x:=.slice none 0 0) (ok2:=fun g=>(Value.slice ao S.text.length c).ownBlock=some g) rfl (.tmp 11) (.tmp 17) rfl rfl rfl (F4.nil _ w.heap.size (fun _=>False)) (Amw w w.heap.size (J5 _) _ _ _ hosc'.out) Bju (by simp) (by simp) ?_);go_must(intro z w1 hz ho1 hat;obtain⟨az,cz,rfl⟩:=Bol hz;have o1:A0 [] w w1:=(A0.alloc [] w _).trans (Auk ho1);have hb1:=hd'.out.blk.only o1 (by simp);have k40:=hb1.txt hL;have f40:=hb1.free 40;have k0:=hb1.c0;rw[hs]at k0;have f0:=hb1.free 0;have hs2:=J0 (hb1.set C4.out);clear hb1)))
  go_ret
  rw[hE.out]
  exact Bml hd'.out o1 hz ((A0.setCell w1 ⟨d,40,none⟩ _).trans (A0.setCell _ ⟨d,0,none⟩ _)) (D0.set (S':=⟨s,S.sq,[]⟩) (S:=⟨S.st,S.sq,[]⟩) hs2.out (Awm ⟨S.st,S.sq,[]⟩ _ _)) rfl
theorem U8(S:PS)(v:Value)(hL:S.sq.num.n.length<=32)(s:Int)(B d:Nat)(w:World)(hd:C9 w B d v S) :
  Calls prog 85 #[.pointer (some ⟨d,0,none⟩),.int .u8 s] w (Fed w B d v (E4 S s)):=by
 by_cases hs:S.st=12
 ·exact Cfw S v hL hs s B d w hd
 ·by_cases hq:s=1\/s=3\/s=7
  ·exact Cbb S v hL hs s hq B d w hd
  ·exact Bxz S v hs s hq B d w hd
section
variable {w w1 w2 w3 w4:World}{B d:Nat}{v u x z:Value}{S S':PS}{As Bs:List Act}
theorem C9.G9(h:C9 w B d v S)(hb:D0 w1 d S' v)(ho:A0 [d] w w1)(ht:S'.text=S.text):C9 w1 B d v S' :=
 ⟨hb,by rw[ht];exact h.own.only ho (fun g hg hm=>h.apart (by simp at hm;rw[hg,hm])),h.low⟩
theorem Ada.after(h:Ada w1 B d v S' As x u w2)(ho:A0 [d] w w1):Ada w B d v S' As x u w2:=by
 have hs:=ho.size
 refine⟨h.par,?_,(h.M9.lower hs).mono (fun g _ hk=>⟨?_,hk.text,hk.block⟩),(ho.mono (by simp)).trans h.only⟩
 ·rcases h.Akj with e|e|⟨g,e,hg⟩
  ·exact .inl e
  ·exact .inr (.inl e)
  ·exact .inr (.inr ⟨g,e,by omega⟩)
 ·rcases hk.from_ with e|e
  ·exact .inl (by omega)
  ·exact .inr e
theorem Ada.app(h:Ada w B d v S' As x u w1)(o1:A0 [] w1 w3){ok2:Nat->Prop}(hok:∀g,ok2 g->w1.heap.size<=g)
  (hz:F4 w4 w.heap.size (fun b=>Bdn w.heap.size d v u b\/ok2 b) z (As++Bs)) (o2:A0 x.ownBlock.toList w3 w4):Ada w B d v S' (As++Bs) z u w4:=by
 have hs:=h.only.size
 have hdlt:=h.par.blk.lt
 have hul:=h.par.own.lt
 have hxl:=h.M9.row
 have hxd:=h.M9.Bhk h.par.blk.blk (by decide)
 have hxu:=h.M9.Bhl h.par.own (by decide)
 refine⟨(h.par.only o1 (by simp) (by simp)).only o2 (fun hm=>hxd (by simpa using hm)) (fun g hg hm=>hxu g (by simpa using hm) hg),h.Akj,hz.mono (fun g _ hk=>hk.elim id (fun hk=>?_)),?_⟩
 ·have:=hok g hk
  exact⟨.inl (by omega),fun e=>by have:=(hul g e).2;omega,by omega⟩
 ·exact(h.only.trans (o1.mono (by simp))).then o2 (fun k hk=>.inr (hxl k (by simpa using hk)).1)
theorem Ada.Cno(h:Ada w B d v S' As x u w1){ok2:Nat->Prop}(hok:∀g,ok2 g->w1.heap.size<=g):∀b,x.ownBlock=some b->¬ok2 b:=fun b hb hk=>by
 have:=(h.M9.row b hb).2
 have:=hok b hk
 omega
theorem Ada.shape(h:Ada w B d v S' As x u w1):∃ao n c,x=.slice ao n c:=by
 obtain⟨ao,c,e,_⟩:=h.M9.shape
 exact⟨ao,_,c,e⟩
theorem F4.slice{ok:Nat->Prop}(h:F4 w B ok x As):∃ao n c,x=.slice ao n c:=by
 obtain⟨ao,c,e,_⟩:=h.shape
 exact⟨ao,_,c,e⟩
theorem Bbh(hd:C9 w B d v S)(h:F4 w1 w.heap.size (w.heap.size<=·) x As)(hb:Below w.heap.size w w1):Ada w B d v S As x v w1:=by
 have hlt:=hd.blk.lt
 have hul:=hd.own.lt
 exact⟨hd.new hb,.inl rfl,h.mono (fun g _ hk=>⟨.inl hk,fun e=>by have:=(hul g e).2;omega,by omega⟩),A0.A1 hb _⟩
theorem Aku(hd:C9 w B d v S):Fed w B d v ([],S) (.returned (.slice none 0 0)) w :=
 ⟨_,v,rfl,Bbh hd (F4.nil _ _ _) (Below.refl _ _)⟩
end
theorem Bfg(S:PS)(v:Value)(hL:S.sq.num.n.length<=32)(r:Int)(B d:Nat)(w:World)(hd:C9 w B d v S) :
  Calls prog 84 #[.pointer (some ⟨d,0,none⟩),.int .i32 r] w (Fed w B d v (Akt S r)):=by
 have Awt:=J0 (U8 S v hL 0 B d w hd)
 have hlen:=Apr S
 go_enter func84,ntmps84
 go_wp2_with fail
 refine Awt.out.mono ?_
 rintro e w1 ⟨x,u,rfl,hf⟩
 simp only[E4]at hf
 obtain⟨ax,nx,cx,rfl⟩:=hf.shape
 go_wp2_with fail
 refine(Bjc r w1).mono ?_
 rintro e w2 ⟨rfl,hb2⟩
 have hf':=J0 hf
 clear Awt hf
 go_wp2_with(with_reducible refine J6 10 ?_;go_must(refine Ayw (x:=.slice ax nx cx) (ok2:=fun _=>False) rfl (.tmp 6) (.tmp 9) rfl rfl rfl (hf'.out.M9.only ((A0.A1 hb2 []).trans (A0.alloc [] w2 _)) (by simp) (by simp)) (Amw w2 w2.heap.size (J5 _) _ _ _ (Ban w2 _ 2 r 0 0)) (fun _ _ h=>h) (by have:=hf'.out.only.size;have:=hb2.size;simp;omega) (by simp;omega) ?_);go_must(intro z w4 hz ho4 hat;obtain⟨az,nz,cz,rfl⟩:=hz.slice))
 go_ret
 exact⟨_,u,rfl,hf'.out.app (Bs:=[Agd r]) ((A0.A1 hb2 []).trans (A0.alloc [] w2 _)) (ok2:=fun _=>False) (fun _ h=>h.elim) hz ho4⟩
theorem Bgf(S:PS)(v:Value)(hL:S.sq.num.n.length<=32)(hc:S.sq.cnt<=2)(kind r s:Int)(B d:Nat)(w:World)(hd:C9 w B d v S) :
  Calls prog 153 #[.pointer (some ⟨d,0,none⟩),.int .u8 kind,.int .i32 r,.int .u8 s] w (Fed w B d v (Ala S kind r s)):=by
 have Awt:=J0 (U8 S v hL s B d w.drew (hd.only (M1 [] w) (by simp) (by simp)))
 have hlen:=Apr S
 have hlen2:=Biw (R7 S s).sq kind r
 have hok:(R7 S s).sq.num.n.length<=32/\(R7 S s).sq.cnt<=2:=by
  unfold R7
  simp only
  split
  ·exact⟨by simp[U9,empty],by simp[U9]⟩
  ·exact⟨hL,hc⟩
 have Cri:=J0 (fun u w1 (h:D0 w1 d (R7 S s) u)=>Bvo (R7 S s) u hok.1 hok.2 kind r d w1 h)
 clear hok
 go_enter func153,ntmps153
 go_wp2_with fail
 go_region_held3 (fun _=>True) (exact trivial) (first
  |(go_at_call 85;refine Awt.out.mono ?_;rintro e w1 ⟨x,u,rfl,hf⟩;simp only[E4]at hf;obtain⟨ax,nx,cx,rfl⟩:=hf.shape;have hf':=J0 hf;clear hf)
  |(go_at_call 217;refine(Cri.out u _ hf'.out.par.blk).mono ?_;rintro e w2 ⟨y,rfl,hy,hb2⟩;obtain⟨ay,ny,cy,rfl⟩:=hy.slice;have hy':=J0 hy;clear hy)
  |(refine Cck (x:=.slice ax nx cx) (ok2:=(w1.heap.size<=·)) rfl (.tmp 11) (.tmp 17) rfl rfl rfl (hf'.out.M9.only (A0.A1 hb2 []) (by simp) (by simp)) hy'.out (hf'.out.Cno (fun _ h=>h)) (by have:=hf'.out.only.size;have:=hb2.size;omega) (by omega) ?_;intro z w4 hz ho4 hat;obtain⟨az,nz,cz,rfl⟩:=hz.slice))
 go_wp2
 go_ret
 exact⟨_,u,rfl,(hf'.out.app (Bs:=(R7 S s).sq.M9 kind r) (A0.A1 hb2 []) (ok2:=(w1.heap.size<=·)) (fun _ h=>h) hz ho4).after (M1 _ _)⟩
theorem take_len{S:PS}(h:S.sq.num.n.length<=32)(r:Int):(S.take r).sq.num.n.length<=32:=by
 show(S.sq.put r).num.n.length<=32
 rw[(Sq.Bco S.sq r).2]
 exact h
theorem Atr(S:PS)(v:Value)(d:Nat)(w:World)(hd:D0 w d S v) :
  Calls prog 154 #[.pointer (some ⟨d,0,none⟩)] w fun e w'=>e=.returned (.agg #[.int .u8 (U1 S.st),.int .u8 (Abr S.st),.int .u8 (Abn S.st),.int .u8 (Acb S.st),.int .u8 (Adc S.st)])/\Below w.heap.size w w':=by
 have h0:=hd.c0
 have hlt:=hd.lt
 clear hd
 generalize S.st=s at h0
 by_cases hs:s=7\/s=8\/s=9
 ·have hE:Hid (U1 s=8/\Abr s=9/\Abn s=11/\Acb s=10/\Adc s=6):=by
   have:Aip s=true:=by simpa[Aip]using hs
   unfold U1 Abr Abn Acb Adc
   rw[this]
   exact⟨rfl,rfl,rfl,rfl,rfl⟩
  rcases hs with rfl|rfl|rfl
  all_goals
   go_enter func154,ntmps154
   go_wp2
   obtain⟨e1,e2,e3,e4,e5⟩:=hE.out
   rw[e1,e2,e3,e4,e5]
   exact bodyPost_ret (v:=.agg #[.int .u8 8,.int .u8 9,.int .u8 11,.int .u8 10,.int .u8 6]) (by simp[results,results154,go_sem]) rfl ⟨rfl,A3 _ _⟩
 ·have hE:Hid (U1 s=4/\Abr s=5/\Abn s=6/\Acb s=0/\Adc s=4):=by
   have:¬Aip s=true:=by simpa[Aip]using hs
   unfold U1 Abr Abn Acb Adc
   rw[if_neg this,if_neg this,if_neg this,if_neg this,if_neg this]
   exact⟨rfl,rfl,rfl,rfl,rfl⟩
  have q7:(s==7)=false:=by simp;omega
  have q8:(s==8)=false:=by simp;omega
  have q9:(s==9)=false:=by simp;omega
  clear hs
  go_enter func154,ntmps154
  go_wp2
  obtain⟨e1,e2,e3,e4,e5⟩:=hE.out
  rw[e1,e2,e3,e4,e5]
  exact bodyPost_ret (v:=.agg #[.int .u8 4,.int .u8 5,.int .u8 6,.int .u8 0,.int .u8 4]) (by simp[results,results154,go_sem]) rfl ⟨rfl,A3 _ _⟩
theorem Bff(S:PS)(hS:S.Ok)(v:Value)(r:Int)(B d:Nat)(w:World)(hd:C9 w B d v S) :
  Calls prog 114 #[.pointer (some ⟨d,0,none⟩),.int .i32 r] w (Fed w B d v (Aem S r)):=by
 have hL:=hS.sq.num.len
 have hd':=J0 hd
 clear hd
 by_cases h:r<48
 ·have hE:Hid (Aem S r=E4 (S.take r) 2):=by show _=_;exact if_pos h
  go_enter func114,ntmps114
  go_wp2_with fail
  refine(Bfn S v hL hS.sq.cnt r d w hd'.out.blk).mono ?_
  rintro e w1 ⟨⟨y,rfl⟩,hb1,ho1⟩
  have hp:=J0 (hd'.out.G9 hb1 ho1 rfl)
  clear hb1
  go_wp2_with fail
  (refine(U8 (S.take r) v (take_len hL r) 2 B d w1 hp.out).mono ?_;rintro e w9 ⟨x,u,rfl,hf⟩;obtain⟨ax,nx,cx,rfl⟩:=hf.shape;replace hf:=J0 hf;go_wp2_with fail;go_ret;rw[hE.out];exact⟨_,u,rfl,hf.out.after (ho1)⟩)
 ·have hE:Hid (Aem S r=Ala S 3 r 0):=by show _=_;exact if_neg h
  go_enter func114,ntmps114
  go_wp2_with fail
  (refine(Bgf S v hL hS.sq.cnt 3 r 0 B d w hd'.out).mono ?_;rintro e w9 ⟨x,u,rfl,hf⟩;obtain⟨ax,nx,cx,rfl⟩:=hf.shape;replace hf:=J0 hf;go_wp2_with fail;go_ret;rw[hE.out];exact⟨_,u,rfl,hf.out.after (A0.refl _ _)⟩)
theorem Bxh(S:PS)(hS:S.Ok)(v:Value)(r:Int)(B d:Nat)(w:World)(hd:C9 w B d v S) :
  Calls prog 113 #[.pointer (some ⟨d,0,none⟩),.int .i32 r] w (Fed w B d v (Y5 S r)):=by
 have hL:=hS.sq.num.len
 have hd':=J0 hd
 clear hd
 by_cases h80:r=80
 ·have hE:Hid (Y5 S r=E4 S 7):=by show _=_;unfold Y5;rw[if_pos h80]
  subst h80
  go_enter func113,ntmps113
  go_wp2_with fail
  (refine(U8 S v hL 7 B d w hd'.out).mono ?_;rintro e w9 ⟨x,u,rfl,hf⟩;obtain⟨ax,nx,cx,rfl⟩:=hf.shape;replace hf:=J0 hf;go_wp2_with fail;go_ret;rw[hE.out];exact⟨_,u,rfl,hf.out.after (A0.refl _ _)⟩)
 by_cases h88:r=88\/r=94\/r=95
 ·have hE:Hid (Y5 S r=E4 S 13):=by show _=_;unfold Y5;rw[if_neg h80,if_pos h88]
  clear h80
  rcases h88 with rfl|rfl|rfl
  all_goals
   go_enter func113,ntmps113
   go_wp2_with fail
   (refine(U8 S v hL 13 B d w hd'.out).mono ?_;rintro e w9 ⟨x,u,rfl,hf⟩;obtain⟨ax,nx,cx,rfl⟩:=hf.shape;replace hf:=J0 hf;go_wp2_with fail;go_ret;rw[hE.out];exact⟨_,u,rfl,hf.out.after (A0.refl _ _)⟩)
 by_cases h91:r=91
 ·have hE:Hid (Y5 S r=E4 S 3):=by show _=_;unfold Y5;rw[if_neg h80,if_neg h88,if_pos h91]
  subst h91
  clear h80 h88
  go_enter func113,ntmps113
  go_wp2_with fail
  (refine(U8 S v hL 3 B d w hd'.out).mono ?_;rintro e w9 ⟨x,u,rfl,hf⟩;obtain⟨ax,nx,cx,rfl⟩:=hf.shape;replace hf:=J0 hf;go_wp2_with fail;go_ret;rw[hE.out];exact⟨_,u,rfl,hf.out.after (A0.refl _ _)⟩)
 by_cases h93:r=93
 ·have hE:Hid (Y5 S r=E4 S 12):=by show _=_;unfold Y5;rw[if_neg h80,if_neg h88,if_neg h91,if_pos h93]
  subst h93
  clear h80 h88 h91
  go_enter func113,ntmps113
  go_wp2_with fail
  (refine(U8 S v hL 12 B d w hd'.out).mono ?_;rintro e w9 ⟨x,u,rfl,hf⟩;obtain⟨ax,nx,cx,rfl⟩:=hf.shape;replace hf:=J0 hf;go_wp2_with fail;go_ret;rw[hE.out];exact⟨_,u,rfl,hf.out.after (A0.refl _ _)⟩)
 have hE:Hid (Y5 S r=Aem S r):=by show _=_;unfold Y5;rw[if_neg h80,if_neg h88,if_neg h91,if_neg h93]
 have q80:(r==80)=false:=by simpa using h80
 have q88:(r==88)=false:=by simp;omega
 have q94:(r==94)=false:=by simp;omega
 have q95:(r==95)=false:=by simp;omega
 have q91:(r==91)=false:=by simpa using h91
 have q93:(r==93)=false:=by simpa using h93
 clear h80 h88 h91 h93
 go_enter func113,ntmps113
 go_wp2_with fail
 (refine(Bff S hS v r B d w hd'.out).mono ?_;rintro e w9 ⟨x,u,rfl,hf⟩;obtain⟨ax,nx,cx,rfl⟩:=hf.shape;replace hf:=J0 hf;go_wp2_with fail;go_ret;rw[hE.out];exact⟨_,u,rfl,hf.out.after (A0.refl _ _)⟩)
theorem Bwo(S:PS)(hS:S.Ok)(v:Value)(r:Int)(B d:Nat)(w:World)(hd:C9 w B d v S) :
  Calls prog 118 #[.pointer (some ⟨d,0,none⟩),.int .i32 r] w (Fed w B d v (Akx S r)):=by
 have hL:=hS.sq.num.len
 have hd':=J0 hd
 clear hd
 by_cases h:r<64
 ·have hE:Hid (Akx S r=([],S)):=by show _=_;exact if_pos h
  go_enter func118,ntmps118
  go_wp2_with fail
  go_ret
  rw[hE.out]
  exact Aku hd'.out
 ·have hE:Hid (Akx S r=E4 S 0):=by show _=_;exact if_neg h
  go_enter func118,ntmps118
  go_wp2_with fail
  (refine(U8 S v hL 0 B d w hd'.out).mono ?_;rintro e w9 ⟨x,u,rfl,hf⟩;obtain⟨ax,nx,cx,rfl⟩:=hf.shape;replace hf:=J0 hf;go_wp2_with fail;go_ret;rw[hE.out];exact⟨_,u,rfl,hf.out.after (A0.refl _ _)⟩)
theorem Ayq(S:PS)(v:Value)(r:Int)(B d:Nat)(w:World)(hd:C9 w B d v S) :
  Calls prog 119 #[.pointer (some ⟨d,0,none⟩),.int .i32 r] w (Fed w B d v ([],S)):=by
 have hd':=J0 hd
 clear hd
 go_enter func119,ntmps119
 go_wp2_with fail
 go_ret
 exact Aku hd'.out
theorem Bfp(S:PS)(v:Value)(r:Int)(B d:Nat)(w:World)(hd:C9 w B d v S) :
  Calls prog 112 #[.pointer (some ⟨d,0,none⟩),.int .i32 r] w (Fed w B d v (Ank S r)):=by
 refine(Bxp r _ w).mono ?_
 rintro e w1 ⟨x,rfl,hx,hb⟩
 exact⟨x,v,rfl,Bbh hd hx hb⟩
