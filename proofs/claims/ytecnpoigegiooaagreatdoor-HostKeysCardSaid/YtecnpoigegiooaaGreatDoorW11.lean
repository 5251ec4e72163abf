/- Part 11 of HostKeys. -/
import Derived.Test.YtecnpoigegiooaaGreatDoorW10
set_option maxHeartbeats 16000000
set_option maxRecDepth 100000
namespace Go.Proofs.YtecnpoigegiooaaGreatDoor.Scn
open Tryz
open Go RowKit Com Rw
section
variable {P:Program}
theorem Bku{z:Value}(hp:0<z.cells.size)(hz1:∀v∈z.cells.toList,v.oneCell'=true)(k:Nat):∀u∈(Builtin.zeroCells z.cells k).toList,u.oneCell'=true:=by
 intro u hu
 simp only[Builtin.zeroCells,Array.toList_map,List.mem_map]at hu
 obtain⟨j,_,rfl⟩:=hu
 have hlt:j % z.cells.size<z.cells.size:=Nat.mod_lt _ hp
 rw[getElem!_pos z.cells (j % z.cells.size) hlt]
 exact hz1 _ (by simp)
theorem Chm{t tI e:TypeId}{z:Value}{size:Nat}(E:Abu P t e z size)(hI:P.underlying tI=some (.int .i64))(hz1:∀v∈z.cells.toList,v.oneCell'=true)(w:World)(ty:TypeId)(B:Nat)(v:Value)(n:Nat)(xs:List Value)(h:w.ownsRow B e size v n xs)(k:Nat)(hB:B<=w.heap.size)(hx:n+k<=100000) :
  ∃v' w' J,(Builtin.append_ #[t,tI] ty #[v,.int .i64 k]).run P w=.ok v' w'/\J.length=k*size/\(∀u∈J,u.oneCell'=true)/\w'.ownsRow B e size v' (n+k) (xs++J)/\A0 v.ownBlock.toList w w'/\(v'.ownBlock=v.ownBlock\/v'.ownBlock=some w.heap.size):=by
 obtain⟨i,hi,hzr,hs,hb⟩:=E.info
 have Aal:=E.pos
 have hz:=E.cells
 have hk0:¬((k:Int)<0):=by omega
 have hwr:IntKind.i64.wrap (k:Int)=(k:Int):=IntWalk.i64_in _ (by omega)
 have hai:∀(y:Int) w,(asIntOf (.int .i64 y)).run P w=.ok (.i64,y) w:=fun _ _=>rfl
 have hw0:IntKind.i64.wrap 0=0:=IntWalk.i64_in _ (by omega)
 have hby:¬((281474976710656:Int)<(k:Int)*(i.bytes:Int)):=by
  have:k*i.bytes<=100000*100:=Nat.mul_le_mul (by omega) hb
  have h2:((k*i.bytes:Nat):Int)<=((100000*100:Nat):Int):=Int.ofNat_le.2 this
  rw[Int.natCast_mul]at h2
  omega
 have hzs:(Builtin.zeroCells z.cells k).toList.length=k*size:=by rw[Array.length_toList,size_zeroCells,hz]
 have hzl:=Bku (by omega) hz1 k
 have hlen:(xs++(Builtin.zeroCells z.cells k).toList).length=(n+k)*size:=by rw[List.length_append,h.1,hzs,Nat.add_mul]
 have hmx:n+k<=maxLen:=by unfold maxLen;omega
 have grown:∀(old:Nat),old<n+k->∀(L:List Nat),
   (w.drew.alloc (.cells (xs.toArray++Builtin.zeroCells z.cells k++Builtin.zeroCells z.cells (grownCap w (n+k) old e-(n+k))) e)).ownsRow B e size
    (.slice (some ⟨w.heap.size,0,none⟩) (n+k) (grownCap w (n+k) old e)) (n+k) (xs++(Builtin.zeroCells z.cells k).toList) /\
   A0 L w (w.drew.alloc (.cells (xs.toArray++Builtin.zeroCells z.cells k++Builtin.zeroCells z.cells (grownCap w (n+k) old e-(n+k))) e)):=by
  intro old ho L
  have hge:=grownCap_ge w (n+k) old e
  have hcm:grownCap w (n+k) old e<=maxLen:=grownCap_le_maxLen w (n+k) old e hmx
  refine⟨⟨hlen,.inr ⟨w.heap.size,_,_,rfl,hB,heap_alloc_new w.drew _,hge,hcm,?_,?_⟩⟩,⟨rfl,rfl,rfl,by simp,fun q hq _=>Below.heap_alloc w.drew _ _ (by simpa using hq)⟩⟩
  ·simp only[Array.size_append,List.size_toArray,size_zeroCells,hz,h.1,<- Nat.add_mul]
   congr 1
   omega
  ·simp only[Array.toList_append,List.append_assoc]
   rw[<- List.append_assoc,<- hlen]
   exact List.take_left
 have Bpc:∀cap,cap<n+k->¬(281474976710656<Builtin.nextslicecap (n+k) cap*i.bytes):=fun cap hc=>by
  have h1:(n+k)*i.bytes<=100000*100:=Nat.mul_le_mul (by omega) hb
  have:=growslice_fits (bytes:=i.bytes) hc (by omega)
  omega
 rcases h.2 with⟨rfl,rfl⟩|⟨g,cap,cur,rfl,hbg,hg,hnc,hcm,hcs,Crs⟩
 ·have hx0:xs=[]:=List.eq_nil_of_length_eq_zero (by simpa using h.1)
  subst hx0
  by_cases hm:k=0
  ·subst hm
   refine⟨.slice none 0 0,w,[],?_,by simp,by simp,World.ownsRow_nil w B e size,A0.refl _ _,.inl rfl⟩
   simp[Builtin.append_,run_underlying E.slice,run_underlying hI,sizeOf,typeInfo,hi,asInt,hai,hw0]
  ·have hgr:=grown 0 (by omega) (Value.slice none 0 0).ownBlock.toList
   have hf:=Bpc 0 (by omega)
   have h63:¬((9223372036854775807:Int)<(k:Int)):=by omega
   simp only[Nat.zero_add,List.nil_append,Array.empty_append]at hgr hf |-
   refine⟨_,_,_,?_,hzs,hzl,hgr.1,hgr.2,.inr rfl⟩
   have hne:¬k*size=0:=by rw[Nat.mul_eq_zero];omega
   simp[Builtin.append_,run_underlying E.slice,run_underlying hI,sizeOf,typeInfo,zeroValue,hi,hzr,asInt,hai,hwr,hk0,hby,hm,h63,hf,hs,hne,Question.forced,run_firstCells_none,newRow,grownCap]
 ·by_cases Acx:n+k<=cap
  ·have S0:n*size+(Builtin.zeroCells z.cells k).toList.length<=cur.size:=by rw[hzs,hcs,<- Nat.add_mul];exact Nat.mul_le_mul_right _ Acx
   have hst:=run_storeCells_at P g (n*size) e (Builtin.zeroCells z.cells k).toList 0 cur w hg (by simpa using S0) hzl
   simp only[Nat.add_zero]at hst
   have G4:(Builtin.append_ #[t,tI] ty #[.slice (some ⟨g,0,none⟩) n cap,.int .i64 k]).run P w=.ok (.slice (some ⟨g,0,none⟩) (n+k) cap) (w.setRow g (cur.toList.take (n*size)++(Builtin.zeroCells z.cells k).toList++cur.toList.drop (n*size+(Builtin.zeroCells z.cells k).toList.length)).toArray):=by
    by_cases hk:k*size=0
    ·have hz0:Builtin.zeroCells z.cells k=#[]:=by
      apply Array.eq_empty_of_size_eq_zero
      rw[size_zeroCells,hz,hk]
     rw[hz0]at hst |-
     simp[Builtin.append_,run_underlying E.slice,run_underlying hI,sizeOf,typeInfo,hi,asInt,hai,hwr,hk0,hby,hs,hk,Acx,Addr.add_lit]
     have hst':=hst
     simp at hst'
     simp[hst']
    ·simp[Builtin.append_,run_underlying E.slice,run_underlying hI,sizeOf,typeInfo,zeroValue,hi,hzr,asInt,hai,hwr,hk0,hby,hs,hk,Acx,Addr.add_lit,hst]
   refine⟨_,_,_,G4,hzs,hzl,⟨hlen,.inr ⟨g,cap,_,rfl,hbg,setRow_heap w g cur _ e _ hg,Acx,hcm,?_,?_⟩⟩,Adl w g _,.inl rfl⟩
   ·simp only[List.size_toArray,List.length_append,List.length_take,List.length_drop]
    rw[Array.length_toList]at S0 |-
    rw[Array.length_toList,hcs]at *
    omega
   ·rw[Crs,<- hlen]
    exact List.take_left
  ·have holds:∀j u,xs[j]?=some u->w.cell? ((⟨g,0,none⟩:Addr).add j)=some u:=h.cells (g:=g) rfl
   have hgr:=grown cap (by omega) (Value.slice (some ⟨g,0,none⟩) n cap).ownBlock.toList
   have hf:=Bpc cap (by omega)
   have h63:¬((9223372036854775807:Int)<(n:Int)+(k:Int)):=by omega
   have hfo:=run_firstCells_some (P:=P) w.drew size n ⟨g,0,none⟩ n cap xs h.1 (by simpa using holds)
   refine⟨_,_,_,?_,hzs,hzl,hgr.1,hgr.2,.inr rfl⟩
   by_cases hk:k*size=0
   ·exfalso
    have:k=0:=by rcases Nat.mul_eq_zero.1 hk with h|h<;>omega
    omega
   ·simp[Builtin.append_,run_underlying E.slice,run_underlying hI,sizeOf,typeInfo,zeroValue,hi,hzr,asInt,hai,hwr,hk0,hby,hs,hk,Acx,h63,hf,hfo,Question.forced,newRow,grownCap]
theorem Cnf{t tI e:TypeId}{z:Value}{size:Nat}(E:Abu P t e z size)(hI:P.underlying tI=some (.int .i64))(hz1:∀v∈z.cells.toList,v.oneCell'=true){w:World}{o:Oper}{a:Act}{K:Act->World->Prop}{Q:Exit->Act->World->Prop}(s x:Operand)
  (ho:o.op=.call { callee:=.builtin .append,args:=#[s,x],argTypes:=#[t,tI] })
  (B:Nat) (v:Value) (n:Nat) (xs:List Value) (k:Nat) (hs:a.eval s=v) (hxe:a.eval x=.int .i64 k) (h:w.ownsRow B e size v n xs) (hB:B<=w.heap.size) (hx:n+k<=100000)
  (hK:∀v' w' J,J.length=k*size->(∀u∈J,u.oneCell'=true)->w'.ownsRow B e size v' (n+k) (xs++J)->A0 v.ownBlock.toList w w'->(v'.ownBlock=v.ownBlock\/v'.ownBlock=some w.heap.size)->K (a.put o.dst v') w'):o.wp P a w K Q:=by
 obtain⟨v',w',J,hr,h2,h3,h4,h5,h6⟩:=Chm E hI hz1 w o.type B v n xs h k hB hx
 unfold Oper.wp execOp
 simp only[ho,resolve,invoke,builtin,Sem.run_bind,Sem.run_pure,Result.andThen_ok,List.map_toArray,List.map_cons,List.map_nil,hs,hxe,hr]
 exact hK v' w' J h2 h3 h4 h5 h6
theorem Ccm{t tI e:TypeId}{z:Value}{size:Nat}(E:Abu P t e z size)(hI:P.underlying tI=some (.int .i64))(hz1:∀v∈z.cells.toList,v.oneCell'=true){w:World}{ops:Array Oper}{o:Oper}{a:Act}{K:Act->World->Prop}{Q:Exit->Act->World->Prop}{F:Prop}(hw:Region.wanted o (yielded ops a.tmps)=true)(s x:Operand)
  (ho:o.op=.call { callee:=.builtin .append,args:=#[s,x],argTypes:=#[t,tI] })
  (B:Nat) (v:Value) (n:Nat) (xs:List Value) (k:Nat) (hs:a.eval s=v) (hxe:a.eval x=.int .i64 k) (h:w.ownsRow B e size v n xs) (hB:B<=w.heap.size) (hx:n+k<=100000)
  (hK:∀v' w' J,J.length=k*size->(∀u∈J,u.oneCell'=true)->w'.ownsRow B e size v' (n+k) (xs++J)->A0 v.ownBlock.toList w w'->(v'.ownBlock=v.ownBlock\/v'.ownBlock=some w.heap.size)->K (a.put o.dst v') w') :
  if Region.wanted o (yielded ops a.tmps)=true then Oper.wp P o a w K Q else F:=by
 rw[if_pos hw]
 exact Cnf E hI hz1 s x ho B v n xs k hs hxe h hB hx hK
theorem Cdc{t e:TypeId}{z:Value}{size:Nat}(E:Abu P t e z size)(hz1:∀v∈z.cells.toList,v.oneCell'=true){w:World}{o:Oper}{a:Act}{K:Act->World->Prop}{Q:Exit->Act->World->Prop}(x:Operand)
  (ho:o.op=.call { callee:=.builtin .clear,args:=#[x],argTypes:=#[t] }) (sp:Option Addr) (k c:Nat) (hx:a.eval x=.slice sp k c)
  (g off:Nat) (cur:List Value) (tt:TypeId) (hg:Block w g tt cur.toArray) (Aal:0<k->sp=some ⟨g,off,none⟩) (S0:off+k*size<=cur.length)
  (h:∀w' J,J.length=k*size->Hid (Block w' g tt (splice cur off J).toArray)->A0 [g] w w'->K (a.put o.dst (.tuple #[])) w'):o.wp P a w K Q:=by
 obtain⟨i,hi,hzr,hs,hb⟩:=E.info
 have hp:=E.pos
 have hz:=E.cells
 by_cases hk:k=0
 ·subst hk
  have G4:(Builtin.clear_ #[t] o.type #[.slice sp 0 c]).run P w=.ok (.tuple #[]) w:=by
   rcases sp with _|sp<;>simp[Builtin.clear_,run_underlying E.slice]
  unfold Oper.wp execOp
  simp only[ho,resolve,invoke,builtin,Sem.run_bind,Sem.run_pure,Result.andThen_ok,List.map_toArray,List.map_cons,List.map_nil,hx,G4]
  exact h w [] (by simp) (J0 (by simpa[splice]using hg)) (A0.refl _ _)
 ·obtain rfl:=Aal (by omega)
  have hzs:(Builtin.zeroCells z.cells k).toList.length=k*size:=by rw[Array.length_toList,size_zeroCells,hz]
  have hst:=run_storeCells_at P g off tt (Builtin.zeroCells z.cells k).toList 0 cur.toArray w hg (by simpa[hzs]using S0) (Bku (by omega) hz1 k)
  simp only[Nat.add_zero]at hst
  obtain⟨m,rfl⟩:∃m,k=m+1:=⟨k-1,by omega⟩
  have G4:(Builtin.clear_ #[t] o.type #[.slice (some ⟨g,off,none⟩) (m+1) c]).run P w=.ok (.tuple #[]) (w.setRow g (splice cur off (Builtin.zeroCells z.cells (m+1)).toList).toArray):=by
   simp[Builtin.clear_,run_underlying E.slice,zeroValue,typeInfo,hi,hzr,hst,splice]
  unfold Oper.wp execOp
  simp only[ho,resolve,invoke,builtin,Sem.run_bind,Sem.run_pure,Result.andThen_ok,List.map_toArray,List.map_cons,List.map_nil,hx,G4]
  exact h _ _ hzs (J0 (setRow_heap w g _ _ tt _ hg)) (Adl w g _)
theorem Bsv{t e:TypeId}{z:Value}{size:Nat}(E:Abu P t e z size)(hz1:∀v∈z.cells.toList,v.oneCell'=true){w:World}{o:Oper}{ops:Array Oper}{rest:List Oper}{a:Act}{Q:Exit->Act->World->Prop}(hgd:o.guard=none)(x:Operand)
  (ho:o.op=.call { callee:=.builtin .clear,args:=#[x],argTypes:=#[t] }) (sp:Option Addr) (k c:Nat) (hx:a.eval x=.slice sp k c)
  (g off:Nat) (cur:List Value) (tt:TypeId) (hg:Block w g tt cur.toArray) (Aal:0<k->sp=some ⟨g,off,none⟩) (S0:off+k*size<=cur.length)
  (h:∀w' J,J.length=k*size->Hid (Block w' g tt (splice cur off J).toArray)->A0 [g] w w'->wpList P ops Q rest (a.put o.dst (.tuple #[])) w'):wpList P ops Q (o::rest) a w :=
 wpList_plain hgd fun _ hK=>Cdc E hz1 x ho sp k c hx g off cur tt hg Aal S0 fun w' J h1 h2 h3=>hK _ _ (h w' J h1 h2 h3)
end
end Go.Proofs.YtecnpoigegiooaaGreatDoor.Scn
namespace Go.Proofs.YtecnpoigegiooaaGreatDoor.Scn
open Tryz
open Go RowKit Com Rw Lns
def PT:List TypeId:=[168,136,188,191,194]
def P0(ts:List TypeId):Prop:=∀t∈PT,t∉ts
abbrev Zn:=Nat->Prop
structure Fr(B:Zn)(ts:List TypeId)(w w':World):Prop where
 os:w'.os=w.os
 tape:w'.tape=w.tape
 output:w'.output=w.output
 size:w.heap.size<=w'.heap.size
 block:∀k,k<w.heap.size->(¬B k\/∀t∈ts,¬Typ w k t)->w'.heap[k]?=w.heap[k]?
theorem Fr.refl(B:Zn)(ts:List TypeId)(w:World):Fr B ts w w:=⟨rfl,rfl,rfl,J5 _,fun _ _ _=>rfl⟩
theorem Fr.trans{B:Zn}{ts:List TypeId}{a b c:World}(h:Fr B ts a b)(g:Fr B ts b c):Fr B ts a c :=
 ⟨g.os.trans h.os,g.tape.trans h.tape,g.output.trans h.output,Nat.le_trans h.size g.size,fun k hk hn=>by
  have e:=h.block k hk hn
  refine(g.block k (Nat.lt_of_lt_of_le hk h.size) (hn.imp id fun hn t ht hT=>hn t ht ?_)).trans e
  obtain⟨cs,fz,hT⟩:=hT
  exact⟨cs,fz,e▸hT⟩⟩
theorem Fr.mono{B:Zn}{ts ts':List TypeId}{a b:World}(h:Fr B ts a b)(hs:∀t∈ts,t∈ts'):Fr B ts' a b :=
 ⟨h.os,h.tape,h.output,h.size,fun k hk hn=>h.block k hk (hn.imp id fun hn t ht=>hn t (hs t ht))⟩
theorem Fr.Afp{B B':Zn}{ts:List TypeId}{a b:World}(h:Fr B ts a b)(hB:∀k,B k->B' k):Fr B' ts a b :=
 ⟨h.os,h.tape,h.output,h.size,fun k hk hn=>h.block k hk (hn.imp (fun hn hb=>hn (hB k hb)) id)⟩
theorem Fr.A1{B:Zn}{ts:List TypeId}{a b:World}(h:Below a.heap.size a b):Fr B ts a b:=⟨h.os,h.tape,h.output,h.size,fun k hk _=>h.block k hk⟩
theorem Fr.I9{B:Zn}{ts:List TypeId}{L:List Nat}{a b:World}(h:A0 L a b)(hL:∀k∈L,k<a.heap.size->B k/\∃t∈ts,Typ a k t):Fr B ts a b :=
 ⟨h.os,h.tape,h.output,h.size,fun k hk hn=>h.block k hk fun hm=>by
  obtain⟨h1,t,ht,hT⟩:=hL k hm hk
  rcases hn with hn|hn
  ·exact hn h1
  ·exact hn t ht hT⟩
theorem Block.fr{B:Zn}{ts:List TypeId}{a b:World}{g:Nat}{t:TypeId}{cs:Array Value}(h:Block a g t cs)(hf:Fr B ts a b)(ht:t∉ts\/¬B g):Block b g t cs :=
 (hf.block g h.lt (ht.symm.imp id fun ht t' ht' hT=>ht (by rw[Typ.inj (Block.typ h) hT];exact ht'))).trans h
theorem Bmm{B':Zn}{ts:List TypeId}{w w':World}{B:Nat}{e:TypeId}{s n:Nat}{v:Value}{xs:List Value}(h:w.ownsRow B e s v n xs)(hf:Fr B' ts w w')(ht:e∉ts):w'.ownsRow B e s v n xs:=by
 refine⟨h.1,?_⟩
 rcases h.2 with h2|⟨g,cap,cur,rfl,hg,hh,r⟩
 ·exact .inl h2
 ·exact .inr ⟨g,cap,cur,rfl,hg,(hf.block g (lt_of_block hh) (.inr fun t' ht' hT=>ht (by rw[Typ.inj (w:=w) ⟨cur,_,hh⟩ hT];exact ht'))).trans hh,r⟩
theorem Bmv{B':Zn}{ts:List TypeId}{w w':World}{e:En}(h:O4 0 w e)(hf:Fr B' ts w w')(hn:P0 ts):O4 0 w' e:=by
 obtain⟨h1,h2,h3,n,cap,tail,hx⟩:=h
 exact⟨h1,h2,h3,n,cap,tail,⟨Block.fr hx.ptr hf (.inl (hn _ (by simp[PT]))),Block.fr hx.row hf (.inl (hn _ (by simp[PT]))),hx.len,hx.le,hx.cap,hx.pos,hx.small⟩⟩
theorem Csy{B':Zn}{ts:List TypeId}{w w':World}{s nx most:Nat}{sv:Value}{R:List En}(h:SX 0 w s nx most sv R)(hf:Fr B' ts w w')(hn:P0 ts):SX 0 w' s nx most sv R:=by
 obtain⟨⟨o,P,h0,hR⟩,hg⟩:=h
 exact⟨⟨o,P,⟨Block.fr h0.blk hf (.inl (hn _ (by simp[PT]))),Bmm h0.own hf (hn _ (by simp[PT])),h0.le,h0.old,h0.olt,h0.most,h0.pos,h0.small,h0.lo⟩,hR⟩,fun e he=>Bmv (hg e he) hf hn⟩
structure LoX(B:Zn)(w:World)(x s:Nat)(sv lv:Value)(R:List En):Prop where
 x:B x
 s:B s
 l:∀g,lv.ownBlock=some g->B g
 p:∀g,sv.ownBlock=some g->B g
 r:∀e∈R,B e.d/\B e.g
 up:∀k,w.heap.size<=k->B k
theorem LoX.grow{B:Zn}{w w':World}{x s:Nat}{sv lv:Value}{R:List En}(h:LoX B w x s sv lv R)(hs:w.heap.size<=w'.heap.size):LoX B w' x s sv lv R :=
 ⟨h.x,h.s,h.l,h.p,h.r,fun k hk=>h.up k (Nat.le_trans hs hk)⟩
theorem LoX.lines{B:Zn}{w w':World}{x s:Nat}{sv lv lv':Value}{R:List En}(h:LoX B w x s sv lv R)(hs:w.heap.size<=w'.heap.size)(hl:lv'.ownBlock=lv.ownBlock\/∃g,lv'.ownBlock=some g/\w.heap.size<=g):LoX B w' x s sv lv' R :=
 ⟨h.x,h.s,fun g hg=>by
  rcases hl with hl|⟨g',hl,hge⟩
  ·exact h.l g (hl▸hg)
  ·rw[hl]at hg
   cases hg
   exact h.up _ hge,h.p,h.r,fun k hk=>h.up k (Nat.le_trans hs hk)⟩
theorem LoX.store{B:Zn}{w w':World}{x s:Nat}{sv sv' lv:Value}{R R':List En}(h:LoX B w x s sv lv R)(hs:w.heap.size<=w'.heap.size)(hl:sv'.ownBlock=sv.ownBlock\/∃g,sv'.ownBlock=some g/\w.heap.size<=g)(hr:∀e∈R',B e.d/\B e.g):LoX B w' x s sv' lv R' :=
 ⟨h.x,h.s,h.l,fun g hg=>by
  rcases hl with hl|⟨g',hl,hge⟩
  ·exact h.p g (hl▸hg)
  ·rw[hl]at hg
   cases hg
   exact h.up _ hge,hr,fun k hk=>h.up k (Nat.le_trans hs hk)⟩
structure LnX(B:Zn)(w:World)(x s nx most:Nat)(kp:Bool)(cols:Nat)(sv lv:Value)(top bot n:Nat)(xs:List Value)(R:List En):Prop where
 blk:Block w x 168 #[.pointer (some ⟨s,0,none⟩),.bool kp,.int .i64 cols,lv,.int .i64 top,.int .i64 bot]
 own:w.ownsRow 0 188 2 lv n xs
 st:SX 0 w s nx most sv R
 apart:∀g,lv.ownBlock=some g->sv.ownBlock≠some g
 lo:LoX B w x s sv lv R
 small:n<=1000
section
variable {B:Zn}{w w':World}{x s nx most cols top bot n:Nat}{kp:Bool}{sv lv:Value}{xs:List Value}{R:List En}{L:List Nat}
theorem LnX.cells(h:LnX B w x s nx most kp cols sv lv top bot n xs R):w.cell? ⟨x,0,none⟩=some (.pointer (some ⟨s,0,none⟩))/\w.cell? ⟨x,1,none⟩=some (.bool kp)/\w.cell? ⟨x,2,none⟩=some (.int .i64 cols)/\w.cell? ⟨x,3,none⟩=some lv/\w.cell? ⟨x,4,none⟩=some (.int .i64 top)/\w.cell? ⟨x,5,none⟩=some (.int .i64 bot) :=
 ⟨h.blk.cell 0 rfl,h.blk.cell 1 rfl,h.blk.cell 2 rfl,h.blk.cell 3 rfl,h.blk.cell 4 rfl,h.blk.cell 5 rfl⟩
theorem LnX.only(h:LnX B w x s nx most kp cols sv lv top bot n xs R)(ho:A0 L w w')(hx:x∉L)(hs:s∉L)(hl:∀g,lv.ownBlock=some g->g∉L)(hp:∀g,sv.ownBlock=some g->g∉L)(hr:∀e∈R,e.d∉L/\e.g∉L):LnX B w' x s nx most kp cols sv lv top bot n xs R :=
 ⟨h.blk.only ho hx,Aen h.own ho hl,h.st.only ho hs hp hr,h.apart,h.lo.grow ho.size,h.small⟩
theorem LnX.below(h:LnX B w x s nx most kp cols sv lv top bot n xs R)(hb:Below w.heap.size w w'):LnX B w' x s nx most kp cols sv lv top bot n xs R:=h.only (A0.A1 hb []) (by simp) (by simp) (by simp) (by simp) (by simp)
theorem LnX.fr{B':Zn}{ts:List TypeId}(h:LnX B w x s nx most kp cols sv lv top bot n xs R)(hf:Fr B' ts w w')(hn:P0 ts):LnX B w' x s nx most kp cols sv lv top bot n xs R :=
 ⟨Block.fr h.blk hf (.inl (hn _ (by simp[PT]))),Bmm h.own hf (hn _ (by simp[PT])),Csy h.st hf hn,h.apart,h.lo.grow hf.size,h.small⟩
theorem LnX.typ(h:LnX B w x s nx most kp cols sv lv top bot n xs R):Typ w x 168:=Block.typ h.blk
theorem LnX.Q2(h:LnX B w x s nx most kp cols sv lv top bot n xs R):∀g,lv.ownBlock=some g->B g/\g<w.heap.size/\Typ w g 188:=fun g hg=>⟨h.lo.l g hg,(World.ownsRow.lt h.own g hg).2,M4 h.own g hg⟩
theorem LnX.shape(h:LnX B w x s nx most kp cols sv lv top bot n xs R):∃ao c,lv=.slice ao n c/\n<=c/\c<=maxLen:=U0 h.own
theorem LnX.store(h:LnX B w x s nx most kp cols sv lv top bot n xs R)(ho:A0 (x::lv.ownBlock.toList) w w'):SX 0 w' s nx most sv R:=by
 have hno:∀ {k:Nat} {t:TypeId},Typ w k t->168≠t->188≠t->k∉x::lv.ownBlock.toList:=fun {k t} ht n1 n2 hm=>by
  rcases List.mem_cons.1 hm with rfl|hm
  ·exact n1 (Typ.inj h.typ ht)
  ·exact n2 (Typ.inj (h.Q2 k (by simpa using hm)).2.2 ht)
 refine h.st.only ho (hno h.st.typ (by decide) (by decide)) (fun g hg hm=>?_) (fun e he=>⟨hno (h.st.2 e he).typ.1 (by decide) (by decide),hno (h.st.2 e he).typ.2 (by decide) (by decide)⟩)
 rcases List.mem_cons.1 hm with rfl|hm
 ·exact absurd (Typ.inj h.typ (h.st.Aci g hg).2.2) (by decide)
 ·exact h.apart g (by simpa using hm) hg
theorem LnX.frame(h:LnX B w x s nx most kp cols sv lv top bot n xs R)(ho:A0 (x::lv.ownBlock.toList) w w'):Fr B PT w w' :=
 Fr.I9 ho fun k hk _=>by
  rcases List.mem_cons.1 hk with rfl|hm
  ·exact⟨h.lo.x,_,by simp[PT],h.typ⟩
  ·have:=h.Q2 k (by simpa using hm)
   exact⟨this.1,_,by simp[PT],this.2.2⟩
theorem LnX.G0(h:LnX B w x s nx most kp cols sv lv top bot n xs R){lv':Value}{n':Nat}{xs':List Value}{w1:World}(h1:w1.ownsRow 0 188 2 lv' n' xs')(ho:A0 lv.ownBlock.toList w w1)(hl:lv'.ownBlock=lv.ownBlock\/∃g,lv'.ownBlock=some g/\w.heap.size<=g)(hn:n'<=1000) :
  LnX B (w1.setCell ⟨x,3,none⟩ lv') x s nx most kp cols sv lv' top bot n' xs' R/\A0 (x::lv.ownBlock.toList) w (w1.setCell ⟨x,3,none⟩ lv'):=by
 have hxl:x∉lv.ownBlock.toList:=fun hm=>absurd (Typ.inj h.typ (h.Q2 x (by simpa using hm)).2.2) (by decide)
 have hb1:=h.blk.only ho hxl
 have ho2:A0 [x] w1 (w1.setCell ⟨x,3,none⟩ lv'):=A0.setCell w1 ⟨x,3,none⟩ _
 have hO:A0 (x::lv.ownBlock.toList) w (w1.setCell ⟨x,3,none⟩ lv'):=(ho.mono (by simp +contextual)).trans (ho2.mono (by simp))
 refine⟨⟨hb1.set 3 lv',Aen h1 ho2 (fun g hg=>V0 (M4 h1 g hg) (Block.typ hb1) (by decide)),h.store hO,?_,h.lo.lines hO.size hl,hn⟩,hO⟩
 intro g hg hs
 rcases hl with hl|⟨g',hl,hge⟩
 ·exact h.apart g (hl▸hg) hs
 ·have h2:=(h.st.Aci g hs).2.1
  rw[hl]at hg
  cases hg
  omega
end
theorem Afp:∀v∈(Value.agg #[.int .i64 0,.pointer none]).cells.toList,v.oneCell'=true:=by
 intro v hv
 simp only[Value.cells,List.mem_cons,List.not_mem_nil,or_false]at hv
 rcases hv with rfl|rfl<;>rfl
theorem Awh:(prog.info? 188).map (·.size)=some 2:=by kernel_rfl
def Aom(xs:List Value):Prop:=∀v∈xs,v.oneCell'=true
theorem Anh(f k e:Nat)(he:e=f+k)(h5:e<=100000)(w:World):Calls prog 102 #[.agg #[.int .i64 f,.int .i64 k]] w fun r w'=>r=.returned (.int .i64 e)/\Below w.heap.size w w':=by
 have hw:IntKind.i64.wrap ((f:Int)+(k:Int))=(e:Int):=by rw[he,Int.natCast_add];exact IntWalk.i64_in _ (by omega)
 have hb:=A3 w (.cells #[.int .i64 f,.int .i64 k] 171)
 clear he
 go_enter func102,ntmps102
 go_wp2
 go_ret
 exact⟨rfl,hb⟩
theorem Bzq{w:World}{g n cap f k m:Nat}{xs tail J:List Value}(hn:n=m+k)(hf:f+k<=n)(hc:n<=cap)(hcm:cap<=maxLen)(hx:xs.length=n*2)(hl:(xs++tail).length=cap*2)(hJ:J.length=k*2)
  (hb:Block w g 188 (splice (splice (xs++tail) (f*2) (xs.drop ((f+k)*2))) (m*2) J).toArray):w.ownsRow 0 188 2 (.slice (some ⟨g,0,none⟩) m cap) m (P7 xs (f*2) (k*2)):=by
 have hD:(xs.drop ((f+k)*2)).length=n*2-(f+k)*2:=by rw[List.length_drop,hx]
 have h1:(splice (xs++tail) (f*2) (xs.drop ((f+k)*2))).length=cap*2:=by rw[length_splice _ _ _ (by rw[hD,hl];omega),hl]
 have ho:(P7 xs (f*2) (k*2)).length=m*2:=by rw[Bay _ (by omega),hx];omega
 refine⟨ho,.inr ⟨g,cap,_,rfl,Nat.zero_le _,hb,by omega,hcm,?_,?_⟩⟩
 ·rw[List.size_toArray,length_splice _ _ _ (by rw[h1,hJ];omega),h1]
 ·show(splice (splice (xs++tail) (f*2) (xs.drop ((f+k)*2))) (m*2) J).take (m*2)=_
  have e1:(splice (splice (xs++tail) (f*2) (xs.drop ((f+k)*2))) (m*2) J).take (m*2)=(splice (xs++tail) (f*2) (xs.drop ((f+k)*2))).take (m*2):=by
   generalize splice (xs++tail) (f*2) (xs.drop ((f+k)*2))=Z at h1 |-
   unfold splice
   rw[List.take_append_of_le_length (by rw[List.length_take];omega),List.take_take,Nat.min_self]
  rw[e1]
  unfold splice P7
  rw[show(xs++tail).take (f*2)=xs.take (f*2)from List.take_append_of_le_length (by omega),<- List.append_assoc,List.take_append_of_le_length (by rw[List.length_append,List.length_take,hD];omega),List.take_of_length_le (by rw[List.length_append,List.length_take,hD];omega),Nat.add_mul]
theorem Bhc{P:Program}{ops:Array Oper}{o:Oper}{a:Go.Act}{w:World}{K:Go.Act->World->Prop}{Q:Exit->Go.Act->World->Prop}{E:Prop}(hgd:o.guard=none)(d x:Operand)(dT sT:TypeId)
  (ho:o.op=.call { callee:=.builtin .copy,args:=#[d,x],argTypes:=#[dT,sT] }) (elem:TypeId) (hu:P.underlying dT=some (.slice elem)) (hs:∃s,(P.info? elem).map (·.size)=some s)
  (dp sp:Option Addr) (dLen dCap sLen sCap:Nat) (hd:a.eval d=.slice dp dLen dCap) (hx:a.eval x=.slice sp sLen sCap) (hn:Nat.min sLen dLen=0)
  (h:K (a.put o.dst (goInt 0)) w) :
  if Region.wanted o (yielded ops a.tmps)=true then Oper.wp P o a w K Q else E:=by
 rw[if_pos (by simp[Region.wanted,hgd])]
 unfold Oper.wp
 have G4:=Biq (P:=P) w dT sT o.type elem dp sp dLen dCap sLen sCap hu hs hn
 simp[execOp,ho,resolve,invoke,builtin,hd,hx,G4,Result.andThen]
 exact h
theorem Bsu{P:Program}{ops:Array Oper}{rest:List Oper}{o:Oper}{a:Go.Act}{w:World}{Q:Exit->Go.Act->World->Prop}(hgd:o.guard=none)(x:Operand)(t e:TypeId)
  (ho:o.op=.call { callee:=.builtin .clear,args:=#[x],argTypes:=#[t] }) (hu:P.underlying t=some (.slice e)) (sp:Option Addr) (c:Nat) (hx:a.eval x=.slice sp 0 c) (h:wpList P ops Q rest (a.put o.dst (.tuple #[])) w):wpList P ops Q (o::rest) a w :=
 wpList_plain hgd fun _ hK=>by
  have G4:(Builtin.clear_ #[t] o.type #[.slice sp 0 c]).run P w=.ok (.tuple #[]) w:=by
   rcases sp with _|sp<;>simp[Builtin.clear_,run_underlying hu]
  unfold Oper.wp execOp
  simp only[ho,resolve,invoke,builtin,Sem.run_bind,Sem.run_pure,Result.andThen_ok,List.map_toArray,List.map_cons,List.map_nil,hx,G4]
  exact hK _ _ h
section
variable {B:Zn}{w w':World}{x s nx most cols top bot n:Nat}{kp:Bool}{sv lv:Value}{xs:List Value}{R:List En}{L:List Nat}
def Avz(B:Zn)(w:World)(x s nx most:Nat)(kp:Bool)(cols:Nat)(sv lv:Value)(top bot n:Nat)(P:List Value->Prop)(R:List En)(e:Ending)(w':World):Prop :=
 (∃v,e=.returned v)/\∃lv' xs',LnX B w' x s nx most kp cols sv lv' top bot n xs' R/\P xs'/\A0 (x::lv.ownBlock.toList) w w'
theorem Bsz(h:LnX B w x s nx most kp cols sv (.slice none 0 0) top bot 0 [] R):Calls prog 103 #[.pointer (some ⟨x,0,none⟩),.agg #[.int .i64 0,.int .i64 0]] w (Avz B w x s nx most kp cols sv (.slice none 0 0) top bot 0 (fun xs=>xs=[]) R):=by
 have hbn:=A3 w (.cells #[.int .i64 0,.int .i64 0] 171)
 have hws:∀w1,Below w.heap.size w w1->LnX B w1 x s nx most kp cols sv (.slice none 0 0) top bot 0 [] R:=fun w1 hb=>h.below hb
 have E3:∀w,Calls prog 102 #[.agg #[.int .i64 0,.int .i64 0]] w fun r w'=>r=.returned (.int .i64 0)/\Below w.heap.size w w':=fun w=>Anh 0 0 0 rfl (by omega) w
 have Bej:=h.blk.lt
 have hbx:=Block.made w 171 #[.int .i64 0,.int .i64 0]
 obtain⟨_,_,_,c3,_,_⟩:=(h.below hbn).cells
 obtain⟨bx,D2⟩:∃bx,bx=w.heap.size:=⟨_,rfl⟩
 rw[<- D2]at hbx
 replace E3:=J0 E3
 replace hws:=J0 hws
 replace hbn:=J0 hbn
 clear h
 go_enter func103,ntmps103
 go_wp2
 go_quiet (fail)
 go_wp2
 have hb0:=hbx.only (A0.drewN [] _ nq) (by simp)
 have hl0:=C7 hbn.out nq
 clear hbx c3
 generalize (w.alloc (.cells #[.int .i64 0,.int .i64 0] 171)).drewN nq=w0 at hb0 hl0 |-
 rw[<- D2]
 replace D2:=J0 D2
 have hS:=fun w' (hb:Below w0.heap.size w0 w')=>And.intro ((hb0.only (A0.A1 hb []) (by simp)).cell 0 rfl) (And.intro ((hb0.only (A0.A1 hb []) (by simp)).cell 1 rfl) (hws.out _ (A2 hl0 hb)).cells.2.2.2.1)
 have c0:=hS w0 (Below.refl _ _)
 have c1:=hS w0.drew (C7 (Below.refl _ _) 1)
 have hd0:Below w0.heap.size w0 w0.drew:=C7 (Below.refl _ _) 1
 replace hS:=J0 hS
 replace hl0:=J0 hl0
 replace hd0:=J0 hd0
 obtain⟨a0,a1,a2⟩:=c0
 clear hb0
 go_region_held3 (fun w'=>w'.cell? ⟨bx,0,none⟩=some (.int .i64 0)/\w'.cell? ⟨bx,1,none⟩=some (.int .i64 0)/\w'.cell? ⟨x,3,none⟩=some (.slice none 0 0))
  (first|exact⟨a0,a1,a2⟩|exact c1|exact hS.out _ hb2.out|go_keep)
  (first
   |(go_at_call 102;(with_reducible refine(E3.out _).mono ?_);rintro e w2 ⟨rfl,hb2'⟩;have hb2:=J0 (A2 hd0.out hb2'))
   |(refine Bhc rfl (.tmp 19) (.tmp 26) 132 132 rfl 188 underlying132 ⟨2,Awh⟩ _ _ _ _ _ _ rfl rfl (by rfl) ?_))
 have Axy:=hws.out _ (A2 hl0.out hb2.out)
 have c3:=Axy.cells.2.2.2.1
 have f3:=Axy.blk.free 3
 have A4:=J0 (Axy.G0 (lv':=.slice none 0 0) (n':=0) (xs':=[]) (World.ownsRow_nil _ _ _ _) (A0.refl _ _) (.inl rfl) (by omega))
 have hbf:=J0 (A2 hl0.out hb2.out)
 clear Axy E3 c1 a0 a1 a2
 go_wp2_with(with_reducible show wpList _ _ _ (⟨none,.call _,_,_,_,_⟩::_) _ _;go_must(refine Bsu rfl (.tmp 33) 132 188 rfl underlying132 none 0 rfl ?_))
 go_end0
 exact⟨⟨_,rfl⟩,_,[],A4.out.1,rfl,(A0.A1 hbf.out _).trans A4.out.2⟩
theorem Bta{g cap f k e m:Nat}{tail:List Value}(h:LnX B w x s nx most kp cols sv (.slice (some ⟨g,0,none⟩) n cap) top bot n xs R)(hbg:Block w g 188 (xs++tail).toArray)(hcl:(xs++tail).length=cap*2)(E0:Aom xs)(he:e=f+k)(hm:n=m+k)(hf:e<=n) :
  Calls prog 103 #[.pointer (some ⟨x,0,none⟩),.agg #[.int .i64 f,.int .i64 k]] w (Avz B w x s nx most kp cols sv (.slice (some ⟨g,0,none⟩) n cap) top bot m (fun xs'=>xs'=P7 xs (f*2) (k*2)) R):=by
 have hbn:=A3 w (.cells #[.int .i64 f,.int .i64 k] 171)
 have hn5:=h.small
 have Cto:n<=cap/\cap<=maxLen:=by
  obtain⟨_,c',ee,hle,hcm⟩:=h.shape
  simp only[Value.slice.injEq]at ee
  obtain⟨_,_,rfl⟩:=ee
  exact⟨hle,hcm⟩
 obtain⟨hle,hcm⟩:=Cto
 have hxl:=h.own.1
 have E3:=fun w=>Anh f k e he (by omega) w
 have hbx:=Block.made w 171 #[.int .i64 f,.int .i64 k]
 obtain⟨_,_,_,c3,_,_⟩:=(h.below hbn).cells
 have hws:∀w1,Below w.heap.size w w1->LnX B w1 x s nx most kp cols sv (.slice (some ⟨g,0,none⟩) n cap) top bot n xs R/\Block w1 g 188 (xs++tail).toArray:=fun w1 hb=>⟨h.below hb,hbg.only (A0.A1 hb []) (by simp)⟩
 have hxg:x≠g:=fun ee=>absurd (Typ.inj h.typ (ee▸(h.Q2 g rfl).2.2)) (by decide)
 have hglt:=hbg.lt
 obtain⟨bx,D2⟩:∃bx,bx=w.heap.size:=⟨_,rfl⟩
 rw[<- D2]at hbx
 have hwr:IntKind.i64.wrap ((n:Int)-(k:Int))=(m:Int):=by rw[hm,Int.natCast_add,Int.add_sub_cancel];exact IntWalk.i64_in _ (by omega)
 have hmn0:m<=n:=by omega
 have hm':=J0 hm
 have he':=J0 he
 clear hm he
 replace E3:=J0 E3
 replace hws:=J0 hws
 replace hbn:=J0 hbn
 clear h hbg
 go_enter func103,ntmps103
 go_wp2
 go_quiet (fail)
 go_wp2
 have hb0:=hbx.only (A0.drewN [] _ nq) (by simp)
 have hl0:=C7 hbn.out nq
 clear hbx c3
 generalize (w.alloc (.cells #[.int .i64 f,.int .i64 k] 171)).drewN nq=w0 at hb0 hl0 |-
 rw[<- D2]
 replace D2:=J0 D2
 have hm:=hm'.out
 have he:=he'.out
 have hd0:Below w0.heap.size w0 w0.drew:=C7 (Below.refl _ _) 1
 have hS:=fun w' (hb:Below w0.heap.size w0 w')=>And.intro ((hb0.only (A0.A1 hb []) (by simp)).cell 0 rfl) (And.intro ((hb0.only (A0.A1 hb []) (by simp)).cell 1 rfl) (hws.out _ (A2 hl0 hb)).1.cells.2.2.2.1)
 have hbG:=fun w' (hb:Below w0.heap.size w0 w')=>(hws.out _ (A2 hl0 hb)).2
 have P9:=fun w' (hb:Below w0.heap.size w0 w')=>(fun j v hj=>by
  rw[Addr.add_lit]
  refine(hbG w' hb).cell _ ?_
  rw[List.getElem?_drop]at hj
  have hlt:=(List.getElem?_eq_some_iff.1 hj).1
  rw[List.getElem?_toArray,List.getElem?_append_left hlt]
  exact hj:∀j v,(xs.drop (e*2))[j]?=some v->w'.cell? ((⟨g,e*2,none⟩:Addr).add j)=some v)
 have c0:=hS w0 (Below.refl _ _)
 have c1:=hS w0.drew hd0
 have Asl:bx≠g:=by have:=D2.out;omega
 have hKS:=fun w1 w' (hb:Below w0.heap.size w0 w1) (ho:A0 [g] w1 w')=>(⟨((hb0.only (A0.A1 hb []) (by simp)).only ho (by simpa using Asl)).cell 0 rfl,((hb0.only (A0.A1 hb []) (by simp)).only ho (by simpa using Asl)).cell 1 rfl,((hws.out _ (A2 hl0 hb)).1.blk.only ho (by simpa using hxg)).cell 3 rfl⟩:w'.cell? ⟨bx,0,none⟩=some (.int .i64 f)/\w'.cell? ⟨bx,1,none⟩=some (.int .i64 k)/\w'.cell? ⟨x,3,none⟩=some (.slice (some ⟨g,0,none⟩) n cap))
 have hX:(xs.drop (e*2)).length=(n-e)*2:=by rw[List.length_drop,hxl];omega
 have hone':∀v∈xs.drop (e*2),v.oneCell'=true:=fun v hv=>E0 v (List.mem_of_mem_drop hv)
 obtain⟨X,hXX⟩:∃X,X=xs.drop (e*2):=⟨_,rfl⟩
 obtain⟨cur,hcc⟩:∃cur,cur=xs++tail:=⟨_,rfl⟩
 rw[<- hXX]at P9 hX hone'
 rw[<- hcc]at hbG hcl
 have hfe:f<=e:=by omega
 have hkn:f<=n:=by omega
 have hmn:m<=n:=by omega
 have hk':k=n-m:=by omega
 have hfI:(f:Int)<=(n:Int):=by omega
 have heI:(e:Int)<=(n:Int):=by omega
 have hmI:(m:Int)<=(n:Int):=by omega
 have hfc:f<=cap:=by omega
 have hec:e<=cap:=by omega
 have hmc:m<=cap:=by omega
 obtain⟨ad1,Aef⟩:∃ad1,(if cap=f then(some ⟨g,0,none⟩:Option Addr)else some ⟨g,f*2,none⟩)=ad1:=⟨_,rfl⟩
 obtain⟨ad2,Agn⟩:∃ad2,(if cap=e then(some ⟨g,0,none⟩:Option Addr)else some ⟨g,e*2,none⟩)=ad2:=⟨_,rfl⟩
 obtain⟨ad3,Ctj⟩:∃ad3,(if cap=m then(some ⟨g,0,none⟩:Option Addr)else some ⟨g,m*2,none⟩)=ad3:=⟨_,rfl⟩
 have hd1:Hid (0<n-f->ad1=some ⟨g,f*2,none⟩):=J0 fun h0=>by rw[<- Aef];exact if_neg (by omega)
 have hd2:Hid (0<n-e->ad2=some ⟨g,e*2,none⟩):=J0 fun h0=>by rw[<- Agn];exact if_neg (by omega)
 have hd3:Hid (0<n-m->ad3=some ⟨g,m*2,none⟩):=J0 fun h0=>by rw[<- Ctj];exact if_neg (by omega)
 have S0:Hid (f*2+X.length<=cur.length):=J0 (by rw[hX,hcl];omega)
 have Crm:Hid (m*2+(n-m)*2<=cap*2):=J0 (by omega)
 have Bec:Hid (X.length=min (n-e) (n-f)*2):=J0 (by rw[hX];congr 1;omega)
 have hsl:Hid ((splice cur (f*2) X).length=cap*2):=J0 (by rw[length_splice _ _ _ (by rw[hX,hcl];omega),hcl])
 have C3:=fun(w1:World) (J:List Value) (hJ:J.length=(n-m)*2) (hb:Block w1 g 188 (splice (splice cur (f*2) X) (m*2) J).toArray)=>Bzq (w:=w1) (f:=f) (tail:=tail) (J:=J) hm (by omega) hle hcm hxl (by rw[<- hcc];exact hcl) (by rw[hk'];exact hJ) (by rw[<- he,<- hcc,<- hXX];exact hb)
 replace C3:=J0 C3
 replace hX:=J0 hX
 replace P9:=J0 P9
 replace hone':=J0 hone'
 replace hbG:=J0 hbG
 replace hKS:=J0 hKS
 replace hS:=J0 hS
 replace hl0:=J0 hl0
 replace hd0:=J0 hd0
 replace hXX:=J0 hXX
 replace hcc:=J0 hcc
 replace hm:=J0 hm
 replace hk':=J0 hk'
 replace he:=J0 he
 replace hxl:=J0 hxl
 replace hcl:=J0 hcl
 obtain⟨a0,a1,a2⟩:=c0
 clear hb0
 go_region_held3 (fun w'=>w'.cell? ⟨bx,0,none⟩=some (.int .i64 f)/\w'.cell? ⟨bx,1,none⟩=some (.int .i64 k)/\w'.cell? ⟨x,3,none⟩=some (.slice (some ⟨g,0,none⟩) n cap))
  (first|exact⟨a0,a1,a2⟩|exact c1|exact hS.out _ hb2.out|exact hKS.out _ _ hb2.out ho3|go_keep)
  (first
   |(go_at_call 102;(with_reducible refine(E3.out _).mono ?_);rintro e w2 ⟨rfl,hb2'⟩;have hb2:=J0 (A2 hd0.out hb2'))
   |(refine Atz rfl (.tmp 19) (.tmp 26) 132 132 rfl 188 2 underlying132 Awh _ _ _ _ _ _ rfl rfl g (f*2) cur 188 (hbG.out _ hb2.out) X Bec.out (fun h1 h2=>⟨hd1.out h2,_,hd2.out h1,P9.out _ hb2.out⟩) S0.out hone'.out ?_;intro w3 hb3 ho3))
 have Agq:=(hws.out _ hl0.out).1
 have Axs:A0 [g] w0 w3:=((A0.A1 hb2.out _).trans ho3)
 have c3:=(hKS.out _ _ hb2.out ho3).2.2
 have hb3':=hb3.out
 have hsl':=hsl.out
 have hbd:Hid (Block w3 x _ _):=J0 (Agq.blk.only Axs (by simpa using hxg))
 replace Agq:=J0 Agq
 replace Axs:=J0 Axs
 clear hKS hS P9 hbG E3 c1 a0 a1 a2 ho3 hb3 hfI heI hfc hec Aef Agn hd1 hd2 hwr
 go_wp2_with(with_reducible show wpList _ _ _ (⟨none,.call _,_,_,_,_⟩::_) _ _;go_must(refine Bsv Bcx Afp rfl (.tmp 33) rfl ad3 (n-m) (cap-m) rfl g (m*2) (splice cur (f*2) X) 188 hb3' hd3.out (by rw[hsl'];exact Crm.out) ?_);intro w4 J hJ hb4 ho4;have Bqu:=hbd.out.only ho4 (by simpa using hxg);have c4:=Bqu.cell 3 rfl;have f4:=Bqu.free 3)
 have C0:=C3.out _ J hJ hb4.out
 have A4:=J0 (Agq.out.G0 (lv':=.slice (some ⟨g,0,none⟩) m cap) (n':=m) C0 (Axs.out.trans ho4) (.inl rfl) (by omega))
 go_end0
 exact⟨⟨_,rfl⟩,_,_,A4.out.1,rfl,(A0.A1 hl0.out _).trans A4.out.2⟩
end
