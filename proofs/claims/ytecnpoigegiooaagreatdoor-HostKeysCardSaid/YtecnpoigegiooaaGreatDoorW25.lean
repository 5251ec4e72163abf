/- Part 25 of HostKeys. -/
import Derived.Test.YtecnpoigegiooaaGreatDoorW24
import Derived.Laws.StructEq
import Derived.WalkArith
import Derived.StillTail
set_option maxHeartbeats 16000000
set_option maxRecDepth 100000
namespace Go.Proofs.YtecnpoigegiooaaGreatDoor.Hos
open Go.Proofs.Tryz
open Go Go.ChangeShapes Go.WideShapes Go.ChangeAt RowKit Go.Deep Com Emu
theorem cKy:prog.cellsOf 25=4:=by kernel_rfl
theorem Bpn{n:Int}(h:(Lit.int .u8 n).wf=true):0<=n/\n<=255:=by
 simp[Lit.wf,IntKind.min,IntKind.max,IntKind.signed,IntKind.bits]at h
 omega
theorem Cos{n:Int}(h:(Lit.int .i32 n).wf=true):-2147483648<=n/\n<=2147483647:=by
 simp[Lit.wf,IntKind.min,IntKind.max,IntKind.signed,IntKind.bits]at h
 omega
theorem Cot{n:Int}(h:(Lit.int .i64 n).wf=true):-9223372036854775808<=n/\n<=9223372036854775807:=by
 simp[Lit.wf,IntKind.min,IntKind.max,IntKind.signed,IntKind.bits]at h
 omega
section
variable {H:Type}{enc:TypeId×Value->H}{W:World}
theorem Cij{fuel:Nat}{cs:List Value}{x:DataW H×List MemPlace}(h:DataW.trod enc prog W 0 (fun _=>true) true fuel 25 cs=some x):∃k:Kys.Ky,cs=(Kys.kA k).toList/\k.Ok:=by
 obtain⟨xs,n,_,hx,hl,hlen,hf⟩:=DataW.trod_struct underlying25 h
 rw[cKy]at hl
 have f0:DataW.trod enc prog W 0 (fun _=>true) true n 5 ((cs.drop 0).take (prog.cellsOf 5))=xs[0]?:=hf 0 _ rfl
 have f1:DataW.trod enc prog W 0 (fun _=>true) true n 21 ((cs.drop 1).take (prog.cellsOf 21))=xs[1]?:=hf 1 _ rfl
 have f2:DataW.trod enc prog W 0 (fun _=>true) true n 3 ((cs.drop 2).take (prog.cellsOf 3))=xs[2]?:=hf 2 _ rfl
 have f3:DataW.trod enc prog W 0 (fun _=>true) true n 5 ((cs.drop 3).take (prog.cellsOf 5))=xs[3]?:=hf 3 _ rfl
 rw[cU8]at f0 f3
 rw[Bdq]at f1
 rw[Bqj]at f2
 match xs,hlen with
 |[y0,y1,y2,y3],_ =>
  match cs,hl with
  |[c0,c1,c2,c3],_ =>
   obtain⟨z0,rfl,w0⟩:=Awk underlying5 f0
   obtain⟨z1,rfl,w1⟩:=Awk underlying21 f1
   obtain⟨z2,rfl,w2⟩:=Awk underlying3 f2
   obtain⟨z3,rfl,w3⟩:=Awk underlying5 f3
   exact⟨⟨z0,z1,z2,z3⟩,rfl,⟨Bpn w0,Cos w1,Cot w2,Bpn w3⟩⟩
theorem Cgo{r:Reach}{b0:Nat}{v:Value}{d:DataW H}{p:List MemPlace}(hv:Value.okWide prog W r b0 25 v)(h:DataW.Trod enc prog W 0 (fun _=>true) true 25 v d p):∃k:Kys.Ky,v=.agg (Kys.kA k)/\k.Ok:=by
 obtain⟨cs,rfl,_⟩:=okWide_struct underlying25 hv
 obtain⟨fuel,hf⟩:=h
 obtain⟨k,hk,ok⟩:=Cij hf
 exact⟨k,by obtain⟨l⟩:=cs;simp only[Value.cells]at hk;subst hk;rfl,ok⟩
end
end Go.Proofs.YtecnpoigegiooaaGreatDoor.Hos
namespace Go.Proofs.YtecnpoigegiooaaGreatDoor.Mds
open Go.Proofs.Tryz
open Go RowKit Com
theorem Cuw:80<prog.types.size:=of_decide_eq_true (by kernel_rfl)
theorem Cup:prog.keyType 80=true:=by kernel_rfl
theorem Ctc:(match prog.underlying 80 with|some (.array _ _)|some (.struct _)=>true|_=>false)=true:=by kernel_rfl
theorem cM:prog.cellsOf 80=8:=by kernel_rfl
theorem Cpa(m:Md)(D:Nat):∃l,prog.keyLits (D+1+1) 80 (mA m).toList=some l:=by
 simp[Program.keyLits,mA,underlying80,underlying4,cM,cB]
theorem Cev(m:Md):Value.formed prog 80 (.agg (mA m))=true:=by
 simp[Value.formed,mA,underlying80,cM]
theorem Cry(m:Md):∃l,keyOf prog 80 (.agg (mA m))=some l:=by
 obtain⟨D,hD⟩:∃D,prog.types.size+1=D+1+1:=⟨prog.types.size-1,by have:=Cuw;omega⟩
 have hf:=Cev m
 obtain⟨l,hl⟩:=Cpa m D
 rw[<- hD]at hl
 refine⟨.string (keyBytes l),?_⟩
 unfold keyOf
 rw[underlying80]
 dsimp only
 rw[Cup,hf,if_pos (by rfl)]
 have e:(Value.agg (mA m)).cells.toList=(mA m).toList:=rfl
 rw[e,hl]
 rfl
theorem Cjn(m:Md)(w:World):(Op.equalIn 10000 80 (.agg (mA m)) (.agg (mA m))).run prog w=.ok true w:=by
 obtain⟨l,hl⟩:=Cry m
 obtain⟨r,h1,h2⟩:=run_equal_deep (P:=prog) w (m:=2) (by omega) (k:=80) (by kernel_rfl) Ctc hl hl
 rw[h2.2 rfl]at h1
 exact h1
end Go.Proofs.YtecnpoigegiooaaGreatDoor.Mds
namespace Go.Proofs.YtecnpoigegiooaaGreatDoor.Hos
open Go.Proofs.Tryz
open Go RowKit Com Emu
theorem Cus:prog.stoodInHeld 73=false:=by kernel_rfl
theorem Cjs:prog.underlying 73=some (.struct (prog.fieldsOf 73)):=by
 unfold Program.fieldsOf
 rw[underlying73]
theorem Afx{P:Program}{d:Nat}{xs ys:Array Value}{f:Field}{fs:List Field}{v:Value}{w:World}(h1:(part f.type xs f.offset).run P w=.ok v w)(h2:(part f.type ys f.offset).run P w=.ok v w)(h3:(Op.equalIn d f.type v v).run P w=.ok true w):(Op.eqFields d xs ys (f::fs)).run P w=(Op.eqFields d xs ys fs).run P w:=by
 simp only[Op.eqFields]
 split
 ·simp only[Sem.run_bind,h1,h2,h3,Result.andThen_ok,Bool.not_true,Bool.false_eq_true,if_false]
 ·rfl
theorem Arz{t:TypeId}{k:IntKind}(h:prog.underlying t=some (.int k))(n:Int)(w:World):(Op.equalIn 9999 t (.int k n) (.int k n)).run prog w=.ok true w:=by
 rw[run_equalIn_int (P:=prog) w 9998 t k k n n h,beq_self_eq_true]
theorem Ary(b:Bool)(w:World):(Op.equalIn 9999 4 (.bool b) (.bool b)).run prog w=.ok true w:=by
 rw[run_equalIn_bool' (P:=prog) w 9998 4 b b underlying4,beq_self_eq_true]
theorem Cjm(e:Ev)(w:World):(Op.equalIn 10000 73 (.agg (evA e)) (.agg (evA e))).run prog w=.ok true w:=by
 rw[run_equalIn_struct (P:=prog) w 9999 73 (evA e) (evA e) Cjs Cus]
 unfold Program.fieldsOf
 rw[underlying73]
 simp only
 rw[Afx (v:=.int .u8 e.k) (by kernel_rfl) (by kernel_rfl) (Arz underlying5 _ w)]
 rw[Afx (v:=.int .u64 e.ix) (by kernel_rfl) (by kernel_rfl) (Arz underlying58 _ w)]
 rw[Afx (v:=.int .i64 e.line) (by kernel_rfl) (by kernel_rfl) (Arz underlying3 _ w)]
 rw[Afx (v:=.int .i64 e.col) (by kernel_rfl) (by kernel_rfl) (Arz underlying3 _ w)]
 rw[Afx (v:=.bool e.wide) (by kernel_rfl) (by kernel_rfl) (Ary _ w)]
 rw[Afx (v:=.int .i32 e.r) (by kernel_rfl) (by kernel_rfl) (Arz underlying21 _ w)]
 rw[Afx (v:=.bool e.bl) (by kernel_rfl) (by kernel_rfl) (Ary _ w)]
 rw[Afx (v:=.bool e.la) (by kernel_rfl) (by kernel_rfl) (Ary _ w)]
 rw[Afx (v:=.bool e.fr) (by kernel_rfl) (by kernel_rfl) (Ary _ w)]
 rw[Afx (v:=.bool e.wr) (by kernel_rfl) (by kernel_rfl) (Ary _ w)]
 rfl
theorem Csd(e:Ev)(w:World):(binOp .neq 73 (.agg (evA e)) (.agg (evA e))).run prog w=.ok (.bool false) w:=by
 simp only[run_neq_struct,Cjm,Result.andThen_ok]
 rfl
theorem Ckf(e:Ev)(x y:Operand)(w:World):(eqGuard .neq 73 x y (.agg (evA e)) (.agg (evA e))).run prog w=.ok () w :=
 run_eqGuard_agg w .neq 73 x y _ _ Tryz.eqGuardType73
theorem Crc(m:Mds.Md)(w:World):(binOp .eql 80 (.agg (Mds.mA m)) (.agg (Mds.mA m))).run prog w=.ok (.bool true) w:=by
 simp only[run_eql_struct,Mds.Cjn,Result.andThen_ok]
theorem Cfa(m:Mds.Md)(x y:Operand)(w:World):(eqGuard .eql 80 x y (.agg (Mds.mA m)) (.agg (Mds.mA m))).run prog w=.ok () w :=
 run_eqGuard_agg w .eql 80 x y _ _ Tryz.eqGuardType80
end Go.Proofs.YtecnpoigegiooaaGreatDoor.Hos
namespace Go.Proofs.YtecnpoigegiooaaGreatDoor.Hos
open Go.Proofs.Tryz
open Go Com
def R32(x:Int):Prop:=0<=x/\x<=1114111
theorem R32.wf{x:Int}(h:R32 x):(Lit.int .i32 x).wf=true:=by
 obtain⟨h1,h2⟩:=h
 exact WalkArith.wf_i32 (by omega)
structure Aed(A:Prs.Act):Prop where
 kind:0<=A.kind/\A.kind<=9
 r:R32 A.R
 fin:R32 A.final
 inter:∀x∈A.inter,R32 x
 two:A.inter.length<=2
 par:∀x∈A.params,0<=x/\x<=65535
 few:A.params.length<=32
structure PSW(S:Prs.PS):Prop where
 ok:S.Ok
 a:R32 S.sq.a
 b:R32 S.sq.b
theorem r0:R32 0:=⟨by omega,by omega⟩
theorem Cmh:PSW Prs.start:=⟨Prs.Chy,r0,r0⟩
def Gd(x:Prs.Stp):Prop:=(R32 x.2.sq.a/\R32 x.2.sq.b)/\∀A∈x.1,Aed A
theorem Csg(t:List Int):Aed (Prs.Aej t):=⟨by simp[Prs.Aej],r0,r0,by simp[Prs.Aej],by simp[Prs.Aej],by simp[Prs.Aej],by simp[Prs.Aej]⟩
theorem Bnv{r:Int}(h:R32 r):Aed (Prs.Agd r):=⟨by simp[Prs.Agd],h,r0,by simp[Prs.Agd],by simp[Prs.Agd],by simp[Prs.Agd],by simp[Prs.Agd]⟩
theorem Cln{r:Int}(h:R32 r):Aed (Prs.Ajt r):=⟨by simp[Prs.Ajt],h,r0,by simp[Prs.Ajt],by simp[Prs.Ajt],by simp[Prs.Ajt],by simp[Prs.Ajt]⟩
theorem Bbn(S:Prs.PS):∀A∈Prs.Abw S,Aed A:=by
 unfold Prs.Abw
 split
 ·simpa using Csg _
 ·simp
theorem Aqn{S:Prs.PS}(ha:R32 S.sq.a)(hb:R32 S.sq.b)(s:Int):R32 (Prs.R7 S s).sq.a/\R32 (Prs.R7 S s).sq.b:=by
 unfold Prs.R7
 simp only
 split
 ·exact⟨r0,r0⟩
 ·exact⟨ha,hb⟩
theorem Bpz{q:Prs.Sq}(ha:R32 q.a)(hb:R32 q.b){r:Int}(hr:R32 r):R32 (q.put r).a/\R32 (q.put r).b:=by
 unfold Prs.Sq.put
 split
 ·exact⟨ha,hb⟩
 ·split
  ·exact⟨ha,hr⟩
  ·exact⟨hr,hb⟩
theorem Cnk{q:Prs.Sq}(hq:q.Ok)(ha:R32 q.a)(hb:R32 q.b){k r:Int}(hk:0<=k/\k<=9)(hr:R32 r):∀A∈q.M9 k r,Aed A:=by
 unfold Prs.Sq.M9
 split
 ·simp
 ·intro A hA
  simp only[List.mem_singleton]at hA
  subst hA
  refine⟨hk,r0,hr,fun x hx=>?_,?_,fun x hx=>⟨hq.num.lo x hx,hq.num.hi x hx⟩,hq.num.len⟩
  ·have:=List.mem_of_mem_take hx
   simp only[List.mem_cons,List.not_mem_nil,or_false]at this
   rcases this with rfl|rfl
   ·exact ha
   ·exact hb
  ·show([q.a,q.b].take q.cnt).length<=2
   rw[List.length_take]
   exact Nat.min_le_right _ _
section
variable {S:Prs.PS}{r:Int}
theorem Aga(ha:R32 S.sq.a)(hb:R32 S.sq.b)(s:Int):Gd (Prs.E4 S s):=⟨Aqn ha hb s,Bbn S⟩
theorem Boq(ha:R32 S.sq.a)(hb:R32 S.sq.b)(hr:R32 r)(s:Int):Gd (Prs.E4 (S.take r) s):=Aga (Bpz ha hb hr).1 (Bpz ha hb hr).2 s
theorem Bcq(ha:R32 S.sq.a)(hb:R32 S.sq.b){l:List Prs.Act}(hl:∀A∈l,Aed A):Gd (l,S):=⟨⟨ha,hb⟩,hl⟩
theorem Aqx(ha:R32 S.sq.a)(hb:R32 S.sq.b):Gd ([],S):=Bcq ha hb (by simp)
theorem Bgb (ha:R32 S.sq.a) (hb:R32 S.sq.b) (hr:R32 r):Gd (Prs.Akt S r):=⟨Aqn ha hb 0,fun A hA=>by
 rcases List.mem_append.1 hA with h|h
 ·exact Bbn S A h
 ·simp only[List.mem_singleton]at h
  subst h
  exact Bnv hr⟩
theorem Cfv(h:S.Ok){s:Int}:((Prs.R7 S s).sq).Ok:=by
 unfold Prs.R7
 simp only
 split
 ·exact Prs.Aza
 ·exact h.sq
theorem Bjd (h:S.Ok) (ha:R32 S.sq.a) (hb:R32 S.sq.b) (hr:R32 r) {k:Int} (hk:0<=k/\k<=9) (s:Int):Gd (Prs.Ala S k r s):=⟨Aqn ha hb s,fun A hA=>by
 rcases List.mem_append.1 hA with h1|h1
 ·exact Bbn S A h1
 ·exact Cnk (Cfv h) (Aqn ha hb s).1 (Aqn ha hb s).2 hk hr A h1⟩
theorem Bga(h:S.Ok)(ha:R32 S.sq.a)(hb:R32 S.sq.b)(hr:R32 r):Gd (Prs.Aem S r):=by
 unfold Prs.Aem
 split
 ·exact Boq ha hb hr 2
 ·exact Bjd h ha hb hr (by omega) 0
theorem Cjc(s:Int):0<=Prs.Adc s/\Prs.Adc s<=9:=by
 unfold Prs.Adc
 split<;>omega
theorem Bls(h:S.Ok)(ha:R32 S.sq.a)(hb:R32 S.sq.b)(hr:R32 r):Gd (Prs.Aau S r):=by
 unfold Prs.Aau
 split
 ·exact Boq ha hb hr _
 ·split
  ·exact Aga ha hb _
  ·exact Bjd h ha hb hr (Cjc _) _
theorem Bmo(h:S.Ok)(ha:R32 S.sq.a)(hb:R32 S.sq.b)(hr:R32 r):Gd (Prs.Aav S r):=by
 unfold Prs.Aav
 split
 ·exact Aga (S:=Prs.PS.num S _) (by exact ha) (by exact hb) _
 ·split
  ·exact Aga (S:=Prs.PS.num S _) (by exact ha) (by exact hb) _
  ·exact Bls h ha hb hr
theorem Cjl(h:S.Ok)(ha:R32 S.sq.a)(hb:R32 S.sq.b)(hr:R32 r):Gd (Prs.Afz S r):=by
 unfold Prs.Afz
 split
 ·exact Aga (S:=Prs.PS.L7 S _) (by exact ha) (by exact hb) _
 ·exact Bmo h ha hb hr
theorem Bpw(ha:R32 S.sq.a)(hb:R32 S.sq.b):Gd (Prs.Ach S r):=by
 refine⟨?_,by simp[Prs.Ach]⟩
 unfold Prs.Ach
 simp only
 split
 ·exact⟨ha,hb⟩
 ·exact⟨ha,hb⟩
theorem Bji(ha:R32 S.sq.a)(hb:R32 S.sq.b)(hr:R32 r):Gd (Prs.Ank S r):=Bcq ha hb (by simpa using Cln hr)
theorem Ced(h:S.Ok)(ha:R32 S.sq.a)(hb:R32 S.sq.b)(hr:R32 r):Gd (Prs.Y5 S r):=by
 unfold Prs.Y5
 repeat' split
 all_goals first|exact Aga ha hb _|exact Bga h ha hb hr
theorem Cqb(h:S.Ok)(ha:R32 S.sq.a)(hb:R32 S.sq.b)(hr:R32 r):Gd (Prs.I0 S r):=by
 unfold Prs.I0
 split
 ·exact Bji ha hb hr
 split
 ·exact Ced h ha hb hr
 split
 ·exact Bga h ha hb hr
 split
 ·exact Cjl h ha hb hr
 split
 ·exact Bmo h ha hb hr
 split
 ·exact Bls h ha hb hr
 split
 ·unfold Prs.Akx
  split
  ·exact Aqx ha hb
  ·exact Aga ha hb _
 split
 ·exact Bpw ha hb
 ·exact Aqx ha hb
theorem Cjq(h:S.Ok)(ha:R32 S.sq.a)(hb:R32 S.sq.b)(hr:R32 r):Gd (Prs.V9 S r):=by
 unfold Prs.V9
 split
 ·exact Bgb ha hb hr
 split
 ·exact Aga ha hb _
 split
 ·unfold Prs.Adq
  split
  ·exact Bcq ha hb (by simpa using Bnv hr)
  ·split
   ·exact Aga ha hb _
   ·exact Aqx ha hb
 split
 ·exact Cqb h ha hb hr
 split
 ·exact Aqx ha hb
 split
 ·unfold Prs.X6
  repeat' split
  all_goals first|exact Aga ha hb _|exact Bgb ha hb hr
 ·unfold Prs.Adv
  split
  ·exact Bji ha hb hr
  ·split
   ·exact Bpw ha hb
   ·exact Aqx ha hb
theorem Cpj(r:Int):R32 (Prs.Alq r):=by
 unfold Prs.Alq R32
 split<;>omega
theorem PSW.feed(h:PSW S)(r:Int):PSW (Prs.Q5 S r).2/\(∀A∈(Prs.Q5 S r).1,Aed A)/\(Prs.Q5 S r).1.length<=2:=by
 obtain⟨⟨g1,g2⟩,g3⟩:=Cjq h.ok h.a h.b (Cpj r)
 have g:=Prs.Cag h.ok r
 exact⟨⟨g.ok,g1,g2⟩,g3,g.few⟩
end
end Go.Proofs.YtecnpoigegiooaaGreatDoor.Hos
namespace Go.Proofs.YtecnpoigegiooaaGreatDoor.Eqt
open Go.Proofs.Tryz
open Go RowKit
section
variable {P:Program}{ops:Array Oper}{md:Region.Mode}{C:World->Prop}
def Ajy(P:Program)(md:Region.Mode)(ops:Array Oper)(C:World->Prop)(n:Nat)(L:Array Bool->Act->Prop):Nat->Array Bool->Act->Prop
 |0,listed,a=>L listed a
 |f+1,listed,a=>Region.ready md ops listed≠[]/\∀i∈Region.ready md ops listed,i<n/\qOp P ops C i (Ajy P md ops C n L f (listed.setIfInBounds i true)) a
theorem Bfa{n g:Nat}{L:Array Bool->Act->Prop}{Q':Exit->Act->World->Prop}(hL:∀listed a w,C w->L listed a->wpAny P md ops Q' g listed a w) :
  ∀(f:Nat) (listed:Array Bool) (a:Act) (w:World),C w->Ajy P md ops C n L f listed a->wpAny P md ops Q' (f+g) listed a w:=by
 intro f
 induction f with
 |zero=>intro listed a w hw h;rw[Nat.zero_add];exact hL _ _ _ hw h
 |succ f ih =>
  intro listed a w hw h
  rw[Nat.add_right_comm]
  exact⟨fun h0=>absurd h0 h.1,fun i hi=>wpOp_of_qOp hw (fun a' w' hw' h'=>ih _ a' w' hw' h') (h.2 i hi).2⟩
theorem Bva{n i:Nat}{oi:Oper}{v:Value}{L:Array Bool->Act->Prop}(hi:ops[i]?=some oi)(W3:∀(j:Nat) (o:Oper) cs b,ops[j]?=some o->o.op≠.select cs b)
  (hs:Region.sinkB md ops n=true) (hc:Region.chainB md ops n=true) (hin:i<n) (Bde:∀listed a,L listed a->∀j∈Region.ready md ops listed,n<=j) :
  ∀(f:Nat) (listed:Array Bool) (a:Act),HeadInv md ops n listed ->
   (∀j oj,ops[j]?=some oj->j≠i->listed.getD j true=false->(∀e∈oj.after,Region.binds md e=true->e.on≠i)->oi.apart ops oj=true) ->
   i∈Region.ready md ops listed->YieldsIn P ops C oi v a->Ajy P md ops C n L f (listed.setIfInBounds i true) (a.put oi.dst v)->Ajy P md ops C n L (f+1) listed a:=by
 intro f
 induction f with
 |zero =>
  intro listed a inv Acv hr hy H
  have hlt:∀j∈Region.ready md ops listed,j<n:=fun j hj=>Nat.lt_of_not_le fun h=>absurd hj (tail_waits hs hc (Nat.lt_of_le_of_lt h (by obtain⟨_,o,ho,_⟩:=mem_ready.1 hj;exact(Array.getElem?_eq_some_iff.1 ho).1)) inv _ i rfl hin (mem_ready.1 hr).1 j h)
  refine⟨fun h=>(by rw[h]at hr;cases hr),fun j hj=>⟨hlt j hj,?_⟩⟩
  by_cases hji:j=i
  ·subst hji;exact hy.qOp hi H
  ·exact absurd (Bde _ _ H j (ready_mono hj hji)) (Nat.not_le_of_lt (hlt j hj))
 |succ f ih =>
  intro listed a inv Acv hr hy H
  have hun:=(mem_ready.1 hr).1
  have hlt:∀j∈Region.ready md ops listed,j<n:=fun j hj=>Nat.lt_of_not_le fun h=>absurd hj (tail_waits hs hc (Nat.lt_of_le_of_lt h (by obtain⟨_,o,ho,_⟩:=mem_ready.1 hj;exact(Array.getElem?_eq_some_iff.1 ho).1)) inv _ i rfl hin hun j h)
  refine⟨fun h=>(by rw[h]at hr;cases hr),fun j hj=>⟨hlt j hj,?_⟩⟩
  by_cases hji:j=i
  ·subst hji;exact hy.qOp hi H
  ·have h1:=(H.2 j (ready_mono hj hji)).2
   obtain⟨Afk,oj,hoj,F2⟩:=mem_ready.1 hj
   have S3:∀e∈oj.after,Region.binds md e=true->e.on≠i:=fun e he hb heq=>by
    have h2:=F2 e he hb
    rw[heq,getD_both hun]at h2
    cases h2
   have h2:=qOp_put hoj (Acv j oj hoj hji Afk S3) (fun cs b=>W3 i oi cs b hi) (fun cs b=>W3 j oj cs b hoj) hy h1
   have hfree':∀k ok,ops[k]?=some ok->k≠i->(listed.setIfInBounds j true).getD k true=false->(∀e∈ok.after,Region.binds md e=true->e.on≠i)->oi.apart ops ok=true:=fun k ok hk hki hn hno=>by
    refine Acv k ok hk hki ?_ hno
    by_cases hjk:j=k
    ·exact hjk▸Afk
    ·rwa [getD_set_ne true hjk]at hn
   refine qOp_mono (fun a' h3=>ih (listed.setIfInBounds j true) a' (inv.set hj (hlt j hj)) hfree' (ready_mono hr (Ne.symm hji)) h3.1 ?_) h2
   rw[Array.setIfInBounds_comm _ _ hji]
   exact h3.2
theorem Cas{n g:Nat}{Lq:Act->Prop}(W3:Region.noSelect ops=true)(hs:Region.sinkB md ops n=true)(hc:Region.chainB md ops n=true) :
  ∀(l:List Oper) (k:Nat) (listed:Array Bool) (a:Act),(∀j,j<l.length->l[j]?=ops[k+j]?)->k+l.length=n->HeadInv md ops n listed->Region.lexHead md ops g l.length k listed=true->wpQuiet P ops C Lq l a ->
   Ajy P md ops C n (fun listed' a'=>Region.seqB md ops g n listed'=true/\Lq a') l.length listed a:=by
 intro l
 induction l with
 |nil =>
  intro k listed a hl hk inv hB h
  obtain rfl:k=n:=by simpa using hk
  exact⟨by simpa[Region.lexHead]using hB,h⟩
 |cons o l ih =>
  intro k listed a hl hk inv hB h
  have h0:ops[k]?=some o:=by simpa using(hl 0 (by simp)).symm
  simp only[List.length_cons,Region.lexHead,Bool.and_eq_true]at hB
  obtain⟨⟨hr,hf⟩,hB'⟩:=hB
  have hkn:k<n:=by simp only[List.length_cons]at hk;omega
  have hr':k∈Region.ready md ops listed:=by simpa using hr
  obtain⟨v,hy,hK⟩:=yieldsIn_of_qOp (P:=P) (C:=C) h0 (K:=wpQuiet P ops C Lq l) (by unfold qOp;simp only[h0];exact h)
  exact Bva h0 (Region.noSelect_spec W3) hs hc hkn (fun listed' a' hL=>seqB_ready hL.1) l.length listed a inv (Region.free_spec h0 hf) hr' hy
   (ih (k+1) _ _ (fun j hj=>by have:=hl (j+1) (by simp;omega);simpa[Nat.add_assoc,Nat.add_comm 1 j]using this) (by simp only[List.length_cons]at hk;omega) (inv.set hr' hkn) hB' hK)
theorem Bfv{id:Nat}{Q:Exit->Act->World->Prop}{a:Act}{w:World}{l:List Oper}(n:Nat)(hB:Region.lexTailB .any l.toArray n=true)(hm:P.follows .mixedOrders=true)(hC:C w.drew)
  (h:wpQuiet P l.toArray C (fun a'=>∀w',C w'->wpList P l.toArray Q (l.drop n) a' w') (l.take n) a):(Code.region id l.toArray true).wp P Q a w:=by
 simp only[Region.lexTailB,Bool.and_eq_true,decide_eq_true_eq]at hB
 obtain⟨⟨⟨⟨W3,hn⟩,hs⟩,hc⟩,Beb⟩:=hB
 have hn':n<l.length:=by simpa using hn
 have htl:(l.take n).length=n:=by simp;omega
 have hdl:(l.drop n).length=l.toArray.size-n:=by simp
 have inv0:HeadInv .any l.toArray n (Array.replicate l.toArray.size false) :=
  ⟨by simp,fun j oj _ hl=>(by rw[getD_replicate_false]at hl;cases hl),fun t _ ht=>getD_in (by simpa using ht) (getD_replicate_false _ _)⟩
 have H:=Cas (md:=.any) (g:=l.toArray.size - n) W3 hs hc (l.take n) 0 _ a (fun j hj=>by
  have hj':j<n:=by rw[htl]at hj;exact hj
  simp[hj']) (by simpa using htl) inv0 (by rw[htl];exact Beb) h
 refine wp_region_any hm ?_
 have:=Bfa (Q':=Q) (g:=l.toArray.size - n) (fun listed a' w' hw' hL=>by
  have h2:=wpAny_of_seq (md:=.any) (Q':=Q) (l.drop n) n listed a' w' (fun j=>by simp[List.getElem?_drop]) (by rw[hdl];exact hL.1) (hL.2 w' hw')
  rwa [hdl]at h2) _ _ _ _ hC H
 rw[htl,show n+(l.toArray.size-n)=l.toArray.size by omega]at this
 exact this
def Ext(w:World):Type:={ w':World // Below w.heap.size w w' }
instance (w:World):Nonempty (Ext w):=⟨⟨w,Below.refl _ _⟩⟩
def Ext.w{w:World}(k:Ext w):World:=k.1
theorem Ext.below{w:World}(k:Ext w):Below w.heap.size w k.w:=k.2
theorem H4{id:Nat}{Q:Exit->Act->World->Prop}{a:Act}{w:World}{l:List Oper}(n:Nat)(hB:Region.lexTailB .any l.toArray n=true)(hm:P.follows .mixedOrders=true)
  (h:wpQuiet P l.toArray (fun w'=>∃k:Ext w,w'=k.w) (fun a'=>∀w',(∃k:Ext w,w'=k.w)->wpList P l.toArray Q (l.drop n) a' w') (l.take n) a):(Code.region id l.toArray true).wp P Q a w :=
 Bfv n hB hm ⟨⟨w.drewN 1,below_drewN (Below.refl _ _) 1⟩,rfl⟩ h
theorem Aja{id:Nat}{Q:Exit->Act->World->Prop}{a:Act}{w:World}{l:List Oper}(hB:Region.lexB .any l.toArray=true)(hm:P.follows .mixedOrders=true)
  (h:wpQuiet P l.toArray (fun w'=>∃k:Ext w,w'=k.w) (fun a'=>∀w',(∃k:Ext w,w'=k.w)->Q .normal a' w') l a):(Code.region id l.toArray true).wp P Q a w :=
 wp_region_quiet (C:=fun w'=>∃k:Ext w,w'=k.w) hm hB ⟨⟨w.drewN 1,below_drewN (Below.refl _ _) 1⟩,rfl⟩ (by simpa using h)
theorem Arp{f:FuncId}{args:Array Value}{w:World}{k:Ext w}{v:Value}(h:Calls P f args k.w fun e w'=>e=.returned v/\Below k.w.heap.size k.w w'):Calls P f args k.w fun e w''=>e=.returned v/\∃k':Ext w,w''=k'.w :=
 h.mono fun _ w' ⟨he,hb⟩=>⟨he,⟨w',k.below.trans (hb.mono k.below.size)⟩,rfl⟩
theorem H7{f:FuncId}{args:Array Value}{w:World}{k:Ext w}{v:Value}(h:Calls P f args k.w fun e w'=>e=.returned v/\k.w=w'):Calls P f args k.w fun e w''=>e=.returned v/\∃k':Ext w,w''=k'.w :=
 h.mono fun _ _ ⟨he,hb⟩=>⟨he,k,hb.symm⟩
theorem Akp{f:FuncId}{args:Array Value}{w:World}{k:Ext w}{v:Value}(h:Calls P f args k.w fun e w'=>e=.returned v/\∃q,w'=k.w.drewN q):Calls P f args k.w fun e w''=>e=.returned v/\∃k':Ext w,w''=k'.w :=
 h.mono fun _ w' ⟨he,q,hb⟩=>⟨he,⟨w',hb▸below_drewN k.below q⟩,rfl⟩
theorem Bru{id:Nat}{Q:Exit->Act->World->Prop}{a:Act}{w:World}{l:List Oper}(n:Nat)(hB:Region.lexTailB .any l.toArray n=true)(hm:P.follows .mixedOrders=true)
  (h:wpQuiet P l.toArray (fun w'=>∃k,w'=w.drewN k) (fun a'=>∀w',(∃k,w'=w.drewN k)->wpList P l.toArray Q (l.drop n) a' w') (l.take n) a):(Code.region id l.toArray true).wp P Q a w :=
 Bfv n hB hm ⟨1,rfl⟩ h
end
end Go.Proofs.YtecnpoigegiooaaGreatDoor.Eqt
namespace Go.Proofs.YtecnpoigegiooaaGreatDoor.Emu
open Go.Proofs.Tryz
open Go RowKit Com Rw Lns Scn
section
variable {P:Program}
theorem Auc{ops:Array Oper}{rest:List Oper}{o:Oper}{a:Go.Act}{w:World}{Q:Exit->Go.Act->World->Prop}(hgd:o.guard=none)(x y:Operand)(ts:Array TypeId)
  (ho:o.op=.call { callee:=.builtin .max,args:=#[x,y],argTypes:=ts }) (m n z:Int) (hx:a.eval x=.int .i64 m) (hy:a.eval y=.int .i64 n) (hz:max m n=z) (h:wpList P ops Q rest (a.put o.dst (.int .i64 z)) w):wpList P ops Q (o::rest) a w :=
 wpList_plain hgd fun _ hK=>by
  have G4:(Builtin.max_ ts o.type #[.int .i64 m,.int .i64 n]).run P w=.ok (.int .i64 z) w:=by
   have e:(if n > m then n else m)=z:=by rw[<- hz];split<;>omega
   simp[Builtin.max_,Builtin.max2,e]
  unfold Oper.wp execOp
  simp only[ho,resolve,invoke,builtin,Sem.run_bind,Sem.run_pure,Result.andThen_ok,List.map_toArray,List.map_cons,List.map_nil,hx,hy,G4]
  exact hK _ _ h
theorem Aud{ops:Array Oper}{rest:List Oper}{o:Oper}{a:Go.Act}{w:World}{Q:Exit->Go.Act->World->Prop}(hgd:o.guard=none)(x y:Operand)(ts:Array TypeId)
  (ho:o.op=.call { callee:=.builtin .min,args:=#[x,y],argTypes:=ts }) (m n z:Int) (hx:a.eval x=.int .i64 m) (hy:a.eval y=.int .i64 n) (hz:min m n=z) (h:wpList P ops Q rest (a.put o.dst (.int .i64 z)) w):wpList P ops Q (o::rest) a w :=
 wpList_plain hgd fun _ hK=>by
  have G4:(Builtin.min_ ts o.type #[.int .i64 m,.int .i64 n]).run P w=.ok (.int .i64 z) w:=by
   have e:(if n<m then n else m)=z:=by rw[<- hz];split<;>omega
   simp[Builtin.min_,Builtin.min2,e]
  unfold Oper.wp execOp
  simp only[ho,resolve,invoke,builtin,Sem.run_bind,Sem.run_pure,Result.andThen_ok,List.map_toArray,List.map_cons,List.map_nil,hx,hy,G4]
  exact hK _ _ h
end
def Aik(v:Value)(w:World)(e:Ending)(w':World):Prop:=e=.returned v/\∃q,w'=w.drewN q
def Kept(Z:Zn)(w:World)(k:Nat):Prop:=k<w.heap.size/\(¬Z k\/∀t∈TT,¬Typ w k t)
def NA(Z:Zn)(w:World)(v:Value)(l:List Int):Prop:=∃ao cp,v=.slice ao l.length cp/\l.length<=cp/\cp<=maxLen/\Fits .i64 l/\I2 w (Kept Z w) .i64 ao l
section
variable {Z:Zn}{w w':World}{t:Nat}{T:Ter}{P:Pt}{v:Value}{l:List Int}
theorem Kept.fr{k:Nat}(h:Kept Z w k)(hf:Scn.Fr Z TT w w'):Kept Z w' k/\w'.heap[k]?=w.heap[k]?:=by
 have e:=hf.block k h.1 h.2
 refine⟨⟨Nat.lt_of_lt_of_le h.1 hf.size,h.2.imp id fun hn t ht hT=>hn t ht ?_⟩,e⟩
 obtain⟨cs,fz,hT⟩:=hT
 exact⟨cs,fz,e▸hT⟩
theorem NA.fr(h:NA Z w v l)(hf:Scn.Fr Z TT w w'):NA Z w' v l:=by
 obtain⟨ao,cp,h1,h2,h3,h4,h5⟩:=h
 refine⟨ao,cp,h1,h2,h3,h4,fun i x hx=>?_⟩
 obtain⟨ad,e,hk,hc⟩:=h5 i x hx
 exact⟨ad,e,(hk.fr hf).1,(World.cell?_of_block (w:=w) (by rw[Aa1];exact(hk.fr hf).2)).trans hc⟩
theorem NA.below(h:NA Z w v l)(hb:Below w.heap.size w w'):NA Z w' v l:=h.fr (Scn.Fr.A1 hb)
theorem Aqs(h:NA Z w v l)(i:Nat):Calls prog 241 #[v,.int .i64 i] w fun e w'=>e=.returned (.int .i64 (atN l i))/\w=w':=by
 obtain⟨ao,cp,rfl,h2,h3,h4,h5⟩:=h
 by_cases hlt:i<l.length
 ·obtain⟨ad,rfl,hk,hc⟩:=h5 i _ (List.getElem?_eq_getElem hlt)
  have he:atN l i=Abs l[i]:=by unfold atN;rw[List.getElem?_eq_getElem hlt]
  rw[he]
  clear h4 h5 hk he
  generalize l[i]=x at hc |-
  have hI:(i:Int)<(l.length:Int):=by omega
  have hN:¬(l.length:Int)<=(i:Int):=by omega
  have hD:decide ((l.length:Int)<=(i:Int))=false:=decide_eq_false hN
  generalize l.length=n at h2 hI hN hD hlt
  obtain⟨m1,hm1⟩:∃m1,min x 65535=m1:=⟨_,rfl⟩
  have hm2:max 0 m1=Abs x:=by rw[<- hm1];rfl
  replace hm1:=J0 hm1
  replace hm2:=J0 hm2
  generalize Abs x=y at hm2 |-
  go_enter func241,ntmps241
  go_wp2_with (first
   |(with_reducible refine J6 13 ?_;go_must(refine Aud rfl (.tmp 12) _ _ rfl x 65535 m1 rfl rfl hm1.out ?_))
   |(with_reducible refine J6 14 ?_;go_must(refine Auc rfl _ (.tmp 13) _ rfl 0 m1 y rfl rfl hm2.out ?_)))
  go_ret
  exact⟨rfl,rfl⟩
 ·have he:atN l i=0:=by unfold atN;rw[List.getElem?_eq_none (by omega)]
  rw[he]
  have hD:decide ((l.length:Int)<=(i:Int))=true:=decide_eq_true (by omega)
  have hI:(l.length:Int)<=(i:Int):=by omega
  generalize l.length=n at h2 hD hI
  clear h4 h5 he hlt
  go_enter func241,ntmps241
  go_wp2
  go_ret
  exact⟨rfl,rfl⟩
theorem Abl(h:NA Z w v l)(i:Nat):Calls prog 237 #[v,.int .i64 i] w fun e w'=>e=.returned (.int .i64 (A5 l i))/\w=w':=by
 have ha:=J0 (Aqs h i)
 have hm:Hid (max 1 (atN l i)=A5 l i):=J0 rfl
 generalize atN l i=x at ha hm
 generalize A5 l i=y at hm |-
 clear h
 go_enter func237,ntmps237
 go_wp2_with (first
  |(go_at_call 241;(with_reducible refine ha.out.mono ?_);rintro e w1 ⟨rfl,rfl⟩)
  |(with_reducible refine J6 8 ?_;go_must(refine Auc rfl _ (.tmp 7) _ rfl 1 x y rfl rfl hm.out ?_)))
 go_ret
 exact⟨rfl,rfl⟩
theorem Cdq(v:Int):0<=Abs v/\Abs v<=65535:=by unfold Abs;omega
theorem Awr(l:List Int)(i:Nat):0<=atN l i/\atN l i<=65535:=by
 unfold atN
 split
 ·exact Cdq _
 ·omega
theorem Ajd(l:List Int)(i:Nat):1<=A5 l i/\A5 l i<=65535:=by
 have:=Awr l i
 unfold A5
 omega
theorem Aeo(i:Int)(n:Nat)(h1:1<=n)(h5:n<=512)(w:World):Calls prog 228 #[.int .i64 i,.int .i64 n] w fun e w'=>e=.returned (.int .i64 (Acu i n))/\w=w':=by
 have hw:IntKind.i64.wrap ((n:Int)-1)=(n:Int)-1:=IntWalk.i64_in _ (by omega)
 obtain⟨m1,hm1⟩:∃m1,min i ((n:Int)-1)=m1:=⟨_,rfl⟩
 obtain⟨y,hy⟩:∃y,y=Acu i n:=⟨_,rfl⟩
 have hm2:max 0 m1=(y:Int):=by rw[hy,<- hm1];unfold Acu;omega
 rw[<- hy]
 replace hm1:=J0 hm1
 replace hm2:=J0 hm2
 replace hy:=J0 hy
 go_enter func228,ntmps228
 go_wp2_with (first
  |(with_reducible refine J6 8 ?_;go_must(refine Aud rfl (.tmp 5) (.tmp 7) _ rfl i ((n:Int)-1) m1 rfl rfl hm1.out ?_))
  |(with_reducible refine J6 9 ?_;go_must(refine Auc rfl _ (.tmp 8) _ rfl 0 m1 y rfl rfl hm2.out ?_)))
 go_ret
 exact⟨rfl,rfl⟩
end
structure Ok(T:Ter):Prop where
 fit:Fit T.vis
 U6:Fit T.Afo
 rows:T.main.L.length=T.vis.L.length
 cols:T.main.cols=T.vis.cols
 row:T.c.row<T.vis.L.length
 col:T.c.col<T.vis.cols
 sv:T.sh.sv.c.row<T.vis.L.length/\T.sh.sv.c.col<T.vis.cols
 svm:T.main.sv.c.row<T.main.L.length/\T.main.sv.c.col<T.main.cols
 tn:T.tn=T.vis.cols
 alt:T.other.isSome=T.m.a6
section
variable {Z Z1:Zn}{w w':World}{t:Nat}{T:Ter}{P:Pt}{v:Value}{l:List Int}
theorem I7(h:TMx Z w t T P):Calls prog 68 #[.pointer (some ⟨t,0,none⟩)] w fun e w'=>e=.returned (.pointer (some ⟨P.h T.other,0,none⟩))/\w=w':=by
 have c18:=h.c18
 have c19:=h.c19
 unfold Pt.h
 rcases ho:T.other with _|o
 ·rw[ho]at c19
  unfold Aiv at c19
  clear h ho
  go_enter func68,ntmps68
  go_wp2
  go_ret
  exact⟨rfl,rfl⟩
 ·rw[ho]at c19
  unfold Aiv at c19
  clear h ho
  go_enter func68,ntmps68
  go_wp2
  go_ret
  exact⟨rfl,rfl⟩
theorem Amx{x s:Nat}{S:Scr}(h:SC Z1 w x s S)(hl:1<=S.L.length):Calls prog 69 #[.pointer (some ⟨x,0,none⟩)] w (Aik (.tuple #[.int .i64 S.top,.int .i64 S.bot]) w):=by
 have hm:=J0 (Aeq h hl)
 obtain⟨_,_,_,_,c4,c5⟩:=h.cells
 generalize S.top=t at c4 |-
 generalize S.bot=b at c5 |-
 clear h
 go_enter func69,ntmps69
 go_wp2_with((go_at_call 97;(with_reducible refine(hm.out).mono ?_);rintro e w' ⟨rfl,rfl⟩))
 go_quiet (fail)
 go_wp2
 go_ret2
 exact⟨rfl,_,rfl⟩
theorem Bhh(h:TMx Z w t T P)(ok:Ok T)(n:Int)(hn:0<=n/\n<=65535):Calls prog 236 #[.pointer (some ⟨t,0,none⟩),.int .i64 n] w (Aik (.int .i64 (Ajv T n)) w):=by
 have c8:=h.c8
 have hs:=h.s0
 have hsh:=J0 (I7 h)
 obtain⟨Z1,hf⟩:=h.focus
 have hm:=Amx hf.sc ok.fit.len
 have h5:=ok.fit.G8
 have hr:=ok.row
 have hb:=ok.fit.bot
 have ht:=ok.fit.top
 unfold Ajv
 generalize P.h T.other=hh at hs hsh
 generalize P.x T.other=xx at hs hm
 generalize T.vis.bot=bot at hm hb ht
 generalize T.vis.top=top at hm ht |-
 generalize T.vis.L.length=rows at h5 hr hb
 generalize T.c.row=row at c8 hr |-
 replace hm:=J0 hm
 have hw:IntKind.i64.wrap ((row:Int)-n)=(row:Int)-n:=IntWalk.i64_in _ (by omega)
 clear h hf ok
 by_cases hc:top<=row
 ·rw[if_pos hc]
  have hd:decide ((top:Int)<=(row:Int))=true:=decide_eq_true (by omega)
  have hd2:decide (top<=row)=true:=decide_eq_true hc
  obtain⟨y,hy⟩:∃y,max (top:Int) ((row:Int)-n)=y:=⟨_,rfl⟩
  rw[hy]
  replace hy:=J0 hy
  go_enter func236,ntmps236
  go_wp2_with (first
   |(go_at_call 68;(with_reducible refine hsh.out.mono ?_);rintro e w1 ⟨rfl,rfl⟩)
   |(go_at_call 69;(with_reducible refine hm.out.mono ?_);rintro e w1 ⟨rfl,q,rfl⟩)
   |(with_reducible refine J6 31 ?_;go_must(refine Auc rfl (.tmp 23) (.tmp 30) _ rfl top ((row:Int)-n) y rfl rfl hy.out ?_)))
  go_ret
  exact⟨rfl,_,rfl⟩
 ·rw[if_neg hc]
  have hd:decide ((top:Int)<=(row:Int))=false:=decide_eq_false (by omega)
  have hd2:decide (top<=row)=false:=decide_eq_false hc
  go_enter func236,ntmps236
  go_wp2_with (first
   |(go_at_call 68;(with_reducible refine hsh.out.mono ?_);rintro e w1 ⟨rfl,rfl⟩)
   |(go_at_call 69;(with_reducible refine hm.out.mono ?_);rintro e w1 ⟨rfl,q,rfl⟩))
  go_ret
  exact⟨rfl,_,rfl⟩
end
def A7(Z:Zn)(w:World)(t:Nat)(T:Ter)(e:Ending)(w':World):Prop:=(∃v,e=.returned v)/\TM Z w' t T/\Scn.Fr Z TT w w'
section
variable {Z Z1:Zn}{w w':World}{t:Nat}{T:Ter}{P:Pt}{v:Value}{l:List Int}
theorem Aue(h:TMx Z w t T P)(ok:Ok T)(n:Int)(hn:0<=n/\n<=65535):Calls prog 238 #[.pointer (some ⟨t,0,none⟩),.int .i64 n] w (Aik (.int .i64 (below T n)) w):=by
 have c8:=h.c8
 have hs:=h.s0
 have hsh:=J0 (I7 h)
 obtain⟨Z1,hf⟩:=h.focus
 have hm:=Amx hf.sc ok.fit.len
 have h5:=ok.fit.G8
 have hr:=ok.row
 have hb:=ok.fit.bot
 have ht:=ok.fit.top
 unfold below
 generalize P.h T.other=hh at hs hsh
 generalize P.x T.other=xx at hs hm
 generalize T.vis.bot=bot at hm hb ht |-
 generalize T.vis.top=top at hm ht
 generalize T.vis.L.length=rows at h5 hr hb
 generalize T.c.row=row at c8 hr |-
 replace hm:=J0 hm
 have hw:IntKind.i64.wrap ((row:Int)+n)=(row:Int)+n:=IntWalk.i64_in _ (by omega)
 clear h hf ok
 by_cases hc:row<=bot
 ·rw[if_pos hc]
  have hd:decide ((row:Int)<=(bot:Int))=true:=decide_eq_true (by omega)
  have hd2:decide (row<=bot)=true:=decide_eq_true hc
  obtain⟨y,hy⟩:∃y,min (bot:Int) ((row:Int)+n)=y:=⟨_,rfl⟩
  rw[hy]
  replace hy:=J0 hy
  go_enter func238,ntmps238
  go_wp2_with (first
   |(go_at_call 68;(with_reducible refine hsh.out.mono ?_);rintro e w1 ⟨rfl,rfl⟩)
   |(go_at_call 69;(with_reducible refine hm.out.mono ?_);rintro e w1 ⟨rfl,q,rfl⟩)
   |(with_reducible refine J6 31 ?_;go_must(refine Aud rfl (.tmp 23) (.tmp 30) _ rfl bot ((row:Int)+n) y rfl rfl hy.out ?_)))
  go_ret
  exact⟨rfl,_,rfl⟩
 ·rw[if_neg hc]
  have hd:decide ((row:Int)<=(bot:Int))=false:=decide_eq_false (by omega)
  have hd2:decide (row<=bot)=false:=decide_eq_false hc
  go_enter func238,ntmps238
  go_wp2_with (first
   |(go_at_call 68;(with_reducible refine hsh.out.mono ?_);rintro e w1 ⟨rfl,rfl⟩)
   |(go_at_call 69;(with_reducible refine hm.out.mono ?_);rintro e w1 ⟨rfl,q,rfl⟩))
  go_ret
  exact⟨rfl,_,rfl⟩
theorem Atk(h:TMx Z w t T P)(ok:Ok T)(n:Int)(hn:0<=n/\n<=65535):Calls prog 239 #[.pointer (some ⟨t,0,none⟩),.int .i64 n] w (Aik (.int .i64 (N4 T n)) w):=by
 have c3:=h.c3
 have hs:=h.s0
 have hsh:=J0 (I7 h)
 obtain⟨Z1,hf⟩:=h.focus
 have hm:=Amx hf.sc ok.fit.len
 have h5:=ok.fit.G8
 have hb:=ok.fit.bot
 have ht:=ok.fit.top
 unfold N4
 generalize P.h T.other=hh at hs hsh
 generalize P.x T.other=xx at hs hm
 generalize T.vis.bot=bot at hm hb ht |-
 generalize T.vis.top=top at hm ht |-
 generalize T.vis.L.length=rows at h5 hb
 replace hm:=J0 hm
 have hw:IntKind.i64.wrap (n-1)=n-1:=IntWalk.i64_in _ (by omega)
 have hw2:IntKind.i64.wrap ((top:Int)+n)=(top:Int)+n:=IntWalk.i64_in _ (by omega)
 have hw3:IntKind.i64.wrap ((top:Int)+n-1)=(top:Int)+n-1:=IntWalk.i64_in _ (by omega)
 clear h hf ok
 generalize T.m.a3=ob at c3 |-
 cases ob
 ·simp only[Bool.false_eq_true,if_false]
  go_enter func239,ntmps239
  go_wp2
  go_ret
  exact⟨rfl,0,rfl⟩
 ·simp only[if_true]
  obtain⟨y,hy⟩:∃y,min (bot:Int) ((top:Int)+n-1)=y:=⟨_,rfl⟩
  rw[hy]
  replace hy:=J0 hy
  go_enter func239,ntmps239
  go_wp2_with (first
   |(go_at_call 68;(with_reducible refine hsh.out.mono ?_);rintro e w1 ⟨rfl,rfl⟩)
   |(go_at_call 69;(with_reducible refine hm.out.mono ?_);rintro e w1 ⟨rfl,q,rfl⟩)
   |(with_reducible refine J6 29 ?_;go_must(refine Aud rfl (.tmp 24) (.tmp 28) _ rfl bot ((top:Int)+n-1) y rfl rfl hy.out ?_)))
  go_ret
  exact⟨rfl,_,rfl⟩
theorem Bil(h:TMx Z w t T P)(fit:Fit T.vis)(row col:Int):Calls prog 171 #[.pointer (some ⟨t,0,none⟩),.int .i64 row,.int .i64 col] w fun e w'=>(∃v,e=.returned v)/\TMx Z w' t (place T row col) P/\Scn.Fr Z TT w w':=by
 have c8:=h.c8
 have c9:=h.c9
 have c10:=h.c10
 have f8:=h.free 8
 have f9:=h.free 9
 have f10:=h.free 10
 have hs:=h.s0
 have hsh:=J0 (I7 h)
 obtain⟨Z1,hf⟩:=h.focus
 have hro:=J0 (Adx hf.sc fit.len)
 have hco:=J0 (Aco hf.sc fit.len)
 have hh1:=J0 (Aeo row T.vis.L.length fit.len fit.G8 w)
 have hh2:=J0 (Aeo col T.vis.cols fit.c1 fit.c5 w)
 have A4:=fun(y x:Nat)=>h.G9 (m:=T.m) (c:=⟨y,x,false⟩) (p:=T.p) (n:=T.C5) (e:=T.last) (w':=((w.setCell ⟨t,8,none⟩ (.int .i64 y)).setCell ⟨t,9,none⟩ (.int .i64 x)).setCell ⟨t,10,none⟩ (.bool false))
  (((A0.setCell w ⟨t,8,none⟩ _).trans (A0.setCell _ ⟨t,9,none⟩ _)).trans (A0.setCell _ ⟨t,10,none⟩ _)) (((h.blk.set 8 _).set 9 _).set 10 _)
 unfold place
 replace A4:=J0 (A4 (Acu row T.vis.L.length) (Acu col T.vis.cols))
 generalize Acu row T.vis.L.length=y at hh1 A4 |-
 generalize Acu col T.vis.cols=x at hh2 A4 |-
 generalize P.h T.other=hh at hs hsh
 generalize P.x T.other=xx at hs hro hco
 generalize T.vis.L.length=rows at hro hh1
 generalize T.vis.cols=cols at hco hh2
 clear h hf fit
 go_enter func171,ntmps171
 go_wp2_with (first
  |(go_at_call 68;(with_reducible refine hsh.out.mono ?_);rintro e w1 ⟨rfl,rfl⟩)
  |(go_at_call 70;(with_reducible refine hro.out.mono ?_);rintro e w1 ⟨rfl,rfl⟩)
  |(go_at_call 124;(with_reducible refine hco.out.mono ?_);rintro e w1 ⟨rfl,rfl⟩)
  |(go_at_call 228;(with_reducible refine hh1.out.mono ?_);rintro e w1 ⟨rfl,rfl⟩)
  |(go_at_call 228;(with_reducible refine hh2.out.mono ?_);rintro e w1 ⟨rfl,rfl⟩))
 go_end0
 exact⟨⟨_,rfl⟩,A4.out⟩
theorem Ahg(h:TMx Z w t T P)(ok:Ok T)(row col:Int):Calls prog 171 #[.pointer (some ⟨t,0,none⟩),.int .i64 row,.int .i64 col] w fun e w'=>(∃v,e=.returned v)/\TMx Z w' t (place T row col) P/\Scn.Fr Z TT w w':=Bil h ok.fit row col
end
