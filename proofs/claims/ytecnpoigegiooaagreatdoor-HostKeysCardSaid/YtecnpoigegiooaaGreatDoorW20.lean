/- Part 20 of HostKeys. -/
import Derived.Lib.AppendStr
import Derived.Laws.IdiomStrings
import Derived.Lib.ItoaNum
import Derived.Test.YtecnpoigegiooaaGreatDoorW19
set_option maxHeartbeats 16000000
set_option maxRecDepth 100000
namespace Go.Proofs.YtecnpoigegiooaaGreatDoor.Kys
open Tryz
open Go RowKit Com
def Row(w:World)(B:Nat)(e:TypeId)(v:Value)(l:List Int):Prop :=
 (v=.slice none 0 0/\l=[]) \/
 ∃g cap cur fz,v=.slice (some ⟨g,0,none⟩) l.length cap/\B<=g/\w.heap[g]?=some (.cells cur e fz)/\(fz.1<fz.2->cur.size<=fz.1)/\l.length<=cap/\cap<=maxLen/\cur.size=cap/\cur.toList.take l.length=l.map (Value.int .u8)
section
variable {w w':World}{B B':Nat}{e:TypeId}{v:Value}{l:List Int}
theorem Row.nil(w:World)(B:Nat)(e:TypeId):Row w B e (.slice none 0 0) []:=.inl ⟨rfl,rfl⟩
theorem Row.own(h:Own w B e .u8 v l):Row w B e v l:=by
 rcases h.2 with⟨rfl,hn⟩|⟨g,cap,cur,rfl,hb,hg,h1,h2,h3,h4⟩
 ·exact .inl ⟨rfl,List.eq_nil_of_length_eq_zero hn⟩
 ·exact .inr ⟨g,cap,cur,(0,0),rfl,hb,hg,by simp,h1,h2,by simpa using h3,by simpa using h4⟩
theorem Row.lt(h:Row w B e v l):∀g,v.ownBlock=some g->B<=g/\g<w.heap.size:=by
 intro k hk
 rcases h with⟨rfl,_⟩|⟨g,cap,cur,fz,rfl,hb,hg,_⟩
 ·simp[Value.ownBlock]at hk
 ·simp[Value.ownBlock]at hk
  subst hk
  exact⟨hb,Ayj hg⟩
theorem Row.only{L:List Nat}(h:Row w B e v l)(ho:A0 L w w')(hn:∀g,v.ownBlock=some g->g∉L):Row w' B e v l:=by
 rcases h with h|⟨g,cap,cur,fz,rfl,hb,hg,r⟩
 ·exact .inl h
 ·exact .inr ⟨g,cap,cur,fz,rfl,hb,(ho.block g (Ayj hg) (hn g rfl)).trans hg,r⟩
theorem Row.below(h:Row w B e v l)(hb:Below w.heap.size w w'):Row w' B e v l:=h.only (A0.A1 hb []) (by simp)
theorem Row.alloc(h:Row w B e v l)(o:Obj):Row (w.alloc o) B e v l:=h.only (A0.alloc [] w o) (by simp)
theorem Row.lower(h:Row w B e v l)(hB:B'<=B):Row w B' e v l:=by
 rcases h with h|⟨g,cap,cur,fz,rfl,hb,r⟩
 ·exact .inl h
 ·exact .inr ⟨g,cap,cur,fz,rfl,by omega,r⟩
theorem Row.cells(h:Row w B e v l){g:Nat}(hg:v.ownBlock=some g){i:Nat}{x:Int}(hx:l[i]?=some x):w.cell? ⟨g,i,none⟩=some (.int .u8 x):=by
 rcases h with⟨rfl,_⟩|⟨k,cap,cur,fz,rfl,_,hh,_,_,_,_,ht⟩
 ·simp[Value.ownBlock]at hg
 ·simp[Value.ownBlock]at hg
  subst hg
  rw[cell_of_row w k i cur e fz hh]
  have h1:(cur.toList.take l.length)[i]?=some (.int .u8 x):=by rw[ht,List.getElem?_map,hx];rfl
  rw[List.getElem?_take]at h1
  split at h1
  ·simpa using h1
  ·cases h1
theorem Row.shape(h:Row w B e v l):∃ao cap,v=.slice ao l.length cap/\l.length<=cap/\cap<=maxLen/\A8 w w.heap.size .u8 ao l:=by
 have hc:=fun g (hg:v.ownBlock=some g)=>fun i x (hx:l[i]?=some x)=>h.cells hg hx
 rcases h with⟨rfl,rfl⟩|⟨g,cap,cur,fz,rfl,_,hh,_,hn,hm,_⟩
 ·exact⟨none,0,rfl,J5 _,by simp[maxLen],A8.nil _ _ _ _⟩
 ·refine⟨_,cap,rfl,hn,hm,fun i x hx=>⟨_,rfl,Ayj hh,?_⟩⟩
  rw[Addr.add_lit,Nat.zero_add]
  exact hc g rfl i x hx
theorem Row.apart(h:Row w B e v l){g:Nat}{t:TypeId}{cs:Array Value}(hb:Block w g t cs)(ht:e≠t):v.ownBlock≠some g:=by
 intro hv
 rcases h with⟨rfl,_⟩|⟨k,cap,cur,fz,rfl,_,hh,_⟩
 ·simp[Value.ownBlock]at hv
 ·simp[Value.ownBlock]at hv
  subst hv
  unfold Block at hb
  rw[hb]at hh
  simp only[Option.some.injEq,Obj.cells.injEq]at hh
  exact ht hh.2.1.symm
theorem Aaq{w0:World}(hb:Below B w0 w)(h:Row w B e v l)(hB:B<=w.heap.size)(ho:A0 v.ownBlock.toList w w'):Below B w0 w' :=
 hb.trans (ho.below hB fun k hk=>by
  have:v.ownBlock=some k:=by simpa using hk
  exact(h.lt k this).1)
theorem Row.lit(w:World)(B:Nat)(e:TypeId)(l:List Int)(hB:B<=w.heap.size)(hm:l.length<=maxLen) :
  Row (w.alloc (.cells (l.map (Value.int .u8)).toArray e)) B e (.slice (some ⟨w.heap.size,0,none⟩) l.length l.length) l:=Row.own (Own.lit w B e .u8 l hB hm)
end
theorem Auo(P:Program)(e:TypeId)(g:Nat)(fz:Nat×Nat):∀(vs:List Value) (w:World) (o i:Nat) (cur:Array Value),w.heap[g]?=some (.cells cur e fz)->(fz.1<fz.2->cur.size<=fz.1)->o+i+vs.length<=cur.size->(∀v∈vs,v.oneCell'=true) ->
  ∃w' cur',(storeCells ⟨g,o,none⟩ vs i).run P w=.ok () w'/\w'.heap[g]?=some (.cells cur' e fz)/\cur'.size=cur.size/\cur'.toList.take (o+i+vs.length)=cur.toList.take (o+i)++vs/\A0 [g] w w'
 |[],w,o,i,cur,hg,_,_,_=>⟨w,cur,rfl,hg,rfl,by simp,A0.refl _ _⟩
 |v::vs,w,o,i,cur,hg,hf,hl,h1=>by
  simp only[List.length_cons]at hl
  have hlt:o+i<cur.size:=by omega
  have hfr:w.frozen? ⟨g,o+i,none⟩=false:=by
   simp only[World.frozen?,hg,Bool.and_eq_false_iff,decide_eq_false_iff_not]
   omega
  have hs:(store ((⟨g,o,none⟩:Addr).add i) v).run P w=.ok () (w.setRow g (cur.setIfInBounds (o+i) v)):=by
   rw[Addr.add_lit,run_store P w _ v _ (h1 v (by simp)),cell_of_row w g (o+i) cur e fz hg]
   simp[hlt,hfr,setCell_eq_setRow w g (o+i) cur e fz v hg]
  obtain⟨w',cur',hr,hg',hs',ht',ho'⟩:=Auo P e g fz vs (w.setRow g (cur.setIfInBounds (o+i) v)) o (i+1) (cur.setIfInBounds (o+i) v) (setRow_heap w g cur _ e _ hg) (by simpa using hf) (by simp;omega) (fun x hx=>h1 x (by simp[hx]))
  refine⟨w',cur',?_,hg',by simpa using hs',?_,(Adl w g _).trans ho'⟩
  ·simp only[storeCells,Sem.run_bind,hs,Result.andThen_ok,hr]
  ·have e1:o+i+(v::vs).length=o+(i+1)+vs.length:=by simp;omega
   rw[e1,ht',Array.toList_setIfInBounds,show o+(i+1)=o+i+1 from rfl,List.take_succ_eq_append_getElem (by simpa using hlt),List.take_set_of_le (J5 _)]
   simp
theorem Chk{P:Program}{t e:TypeId}(E:Z4 P t e .u8 1)(w:World)(ty:TypeId)(B:Nat)(v:Value)(l m:List Int)(ao:Option Addr)(B' c:Nat)
  (h:Row w B e v l) (hm:A8 w B' .u8 ao m) (hB:B<=w.heap.size) (hn:l.length+m.length<=140737488355328) :
  ∃v' w',(Builtin.append_ #[t,t] ty #[v,.slice ao m.length c]).run P w=.ok v' w'/\Row w' B e v' (l++m)/\A0 v.ownBlock.toList w w':=by
 rcases h with⟨rfl,rfl⟩|⟨g,cap,cur,fz,rfl,hb,hg,hf,h1,h2,h3,h4⟩
 ·obtain⟨v',w',hr,h2,h3,_⟩:=Bbw E w ty B (.slice none 0 0) [] m ao B' c (Own.nil w B e .u8) hm hB (by simpa using hn) (by simp[maxLen];simp at hn;omega)
  exact⟨v',w',hr,Row.own h2,h3⟩
 ·obtain⟨i,hi,hz,hs,hby⟩:=E.info
  rcases ao with _|ad
  ·have hm0:m=[]:=by
    rcases m with _|⟨x,m⟩
    ·rfl
    ·obtain⟨ad,h',_⟩:=hm 0 x rfl
     cases h'
   subst hm0
   refine⟨_,w,?_,.inr ⟨g,cap,cur,fz,by rw[List.append_nil],hb,hg,hf,by simpa using h1,h2,h3,by simpa using h4⟩,A0.refl _ _⟩
   simp[Builtin.append_,run_underlying E.slice,sizeOf,typeInfo,hi,Builtin.lenOf,Builtin.firstCells,h1,storeCells]
  ·have Z0:∀j u,(m.map (Value.int .u8))[j]?=some u->w.cell? (ad.add j)=some u:=fun j u hu=>by
    rw[List.getElem?_map]at hu
    rcases hx':m[j]? with _|x
    ·rw[hx']at hu;cases hu
    ·rw[hx']at hu
     obtain⟨ad',e',_,hc⟩:=hm j x hx'
     cases e'
     cases hu
     exact hc
   by_cases Acx:l.length+m.length<=cap
   ·have hfc:=run_firstCells_some (P:=P) w i.size m.length ad m.length c (m.map (Value.int .u8)) (by simp[hs]) Z0
    obtain⟨w',cur',hr,hg',hs',ht',ho'⟩:=Auo P e g fz (m.map (Value.int .u8)) w l.length 0 cur hg hf (by simp;omega) (fun u hu=>by
     obtain⟨x,_,rfl⟩:=List.mem_map.1 hu
     rfl)
    rw[hs]at hfc
    refine⟨.slice (some ⟨g,0,none⟩) (l.length+m.length) cap,w',?_,.inr ⟨g,cap,cur',fz,by rw[List.length_append],hb,hg',by rw[hs'];exact hf,by simpa using Acx,h2,hs'.trans h3,?_⟩,ho'⟩
    ·simp[Builtin.append_,run_underlying E.slice,sizeOf,typeInfo,hi,Builtin.lenOf,Acx,hfc,Addr.add_lit,hs,hr]
    ·have:=ht'
     simp only[Nat.add_zero,List.length_map]at this
     rw[List.length_append,this,h4,List.map_append]
   ·have holds:∀j u,(l.map (Value.int .u8))[j]?=some u->w.cell? ((⟨g,0,none⟩:Addr).add j)=some u:=fun j u hu=>by
     rw[List.getElem?_map]at hu
     rcases hx':l[j]? with _|x
     ·rw[hx']at hu;cases hu
     ·rw[hx']at hu
      cases hu
      rw[Addr.add_lit,Nat.zero_add]
      exact(show Row w B e (.slice (some ⟨g,0,none⟩) l.length cap) l from .inr ⟨g,cap,cur,fz,rfl,hb,hg,hf,h1,h2,h3,h4⟩).cells rfl hx'
    have hr:=run_append_grow (P:=P) w t ty e i (.int .u8 0) E.slice hi hz ⟨g,0,none⟩ l.length cap (l.map (Value.int .u8)) (by simp[hs]) holds ad m.length c (m.map (Value.int .u8)) (by simp[hs]) Z0 (by omega) (by omega) (by rw[hby];exact growslice_fits (by omega) (by omega))
    have hge:=grownCap_ge w (l.length+m.length) cap e
    have hcm:=grownCap_le_maxLen w (l.length+m.length) cap e (by unfold maxLen;omega)
    have hz1:(Value.int IntKind.u8 0).cells.size=1:=rfl
    refine⟨_,_,hr,.inr ⟨w.heap.size,_,_,(0,0),by rw[List.length_append],hB,heap_alloc_new w.drew _,by simp,by simpa using hge,hcm,?_,?_⟩,⟨rfl,rfl,rfl,by simp,fun k hk _=>Below.heap_alloc _ _ _ (by simpa using hk)⟩⟩
    ·simp only[Array.size_append,List.size_toArray,List.length_map,size_zeroCells,hz1]
     omega
    ·have e1:(l++m).length=(l.map (Value.int .u8)++m.map (Value.int .u8)).length:=by simp
     rw[e1,List.map_append]
     simp only[Array.toList_append]
     exact List.take_left
theorem Abk{P:Program}{t e:TypeId}(E:Z4 P t e .u8 1){w:World}{ops:Array Oper}{rest:List Oper}{o:Oper}{a:Act}{Q:Exit->Act->World->Prop}(hgd:Region.wanted o (yielded ops a.tmps)=true)(s x:Operand)
  (ho:o.op=.call { callee:=.builtin .append,args:=#[s,x],argTypes:=#[t,t] })
  (B:Nat) (v:Value) (l m:List Int) (ao:Option Addr) (B' c:Nat) (hs:a.eval s=v) (hxe:a.eval x=.slice ao m.length c)
  (h:Row w B e v l) (hm:A8 w B' .u8 ao m) (hB:B<=w.heap.size) (hn:l.length+m.length<=140737488355328)
  (hK:∀v' w',Row w' B e v' (l++m)->A0 v.ownBlock.toList w w'->wpList P ops Q rest (a.put o.dst v') w'):wpList P ops Q (o::rest) a w :=
 Afq hgd fun _ hK'=>by
  obtain⟨v',w',hr,h2,h3⟩:=Chk E w o.type B v l m ao B' c h hm hB hn
  unfold Oper.wp execOp
  simp only[ho,resolve,invoke,builtin,Sem.run_bind,Sem.run_pure,Result.andThen_ok,List.map_toArray,List.map_cons,List.map_nil,hs,hxe,hr]
  exact hK' _ _ (hK v' w' h2 h3)
theorem Chl{P:Program}{t u e:TypeId}(E:Z4 P t e .u8 1)(hu:P.underlying u=some .string)(w:World)(ty:TypeId)(B:Nat)(v:Value)(l m:List Int)(s:ByteArray)(hsm:Lib.strCells s=m.map (Value.int .u8))
  (h:Row w B e v l) (hB:B<=w.heap.size) (hn:l.length+m.length<=140737488355328) :
  ∃v' w',(Builtin.append_ #[t,u] ty #[v,.string s]).run P w=.ok v' w'/\Row w' B e v' (l++m)/\A0 v.ownBlock.toList w w':=by
 have hss:s.size=m.length:=by
  have:=congrArg List.length hsm
  rwa [Lib.strCells_length,List.length_map]at this
 obtain⟨i,hi,hz,hs,hby⟩:=E.info
 rcases h with⟨rfl,rfl⟩|⟨g,cap,cur,fz,rfl,hb,hg,hf,h1,h2,h3,h4⟩
 ·obtain⟨v',w',hr,h2,h3,_⟩:=Lib.run_append_own_string (P:=P) w B t u ty e i E.slice hu hi hz hs hby (.slice none 0 0) 0 [] (World.ownsRow_nil _ _ _ _) s (by simp at hn;unfold maxLen;omega) (by simp at hn;omega) hB
  refine⟨v',w',hr,Row.own ?_,A0.grown h3⟩
  unfold Own
  rw[List.nil_append,Nat.zero_add,hsm,hss]at h2
  simpa using h2
 ·by_cases Acx:l.length+s.size<=cap
  ·have hfc:=Lib.run_firstCells_string (P:=P) w i.size s
   obtain⟨w',cur',hr,hg',hs',ht',ho'⟩:=Auo P e g fz (m.map (Value.int .u8)) w l.length 0 cur hg hf (by simp;omega) (fun u hu=>by
    obtain⟨x,_,rfl⟩:=List.mem_map.1 hu
    rfl)
   rw[<- hsm]at hr
   rw[hs]at hfc
   refine⟨.slice (some ⟨g,0,none⟩) (l.length+s.size) cap,w',?_,.inr ⟨g,cap,cur',fz,by rw[List.length_append,hss],hb,hg',by rw[hs'];exact hf,by simp;omega,h2,hs'.trans h3,?_⟩,ho'⟩
   ·simp[Builtin.append_,run_underlying E.slice,run_underlying hu,sizeOf,typeInfo,hi,Builtin.lenOf,Acx,hfc,Addr.add_lit,hs,hr]
   ·have:=ht'
    simp only[Nat.add_zero,List.length_map]at this
    rw[List.length_append,this,h4,List.map_append]
  ·have holds:∀j u,(l.map (Value.int .u8))[j]?=some u->w.cell? ((⟨g,0,none⟩:Addr).add j)=some u:=fun j u hu=>by
    rw[List.getElem?_map]at hu
    rcases hx':l[j]? with _|x
    ·rw[hx']at hu;cases hu
    ·rw[hx']at hu
     cases hu
     rw[Addr.add_lit,Nat.zero_add]
     exact(show Row w B e (.slice (some ⟨g,0,none⟩) l.length cap) l from .inr ⟨g,cap,cur,fz,rfl,hb,hg,hf,h1,h2,h3,h4⟩).cells rfl hx'
   have hr:=Lib.run_append_grow_string (P:=P) w t u ty e i (.int .u8 0) E.slice hu hi hz ⟨g,0,none⟩ l.length cap (l.map (Value.int .u8)) (by simp[hs]) holds s (by omega) (by omega) (by rw[hby];exact growslice_fits (by omega) (by omega))
   have hge:=grownCap_ge w (l.length+s.size) cap e
   have hcm:=grownCap_le_maxLen w (l.length+s.size) cap e (by unfold maxLen;omega)
   have hz1:(Value.int IntKind.u8 0).cells.size=1:=rfl
   refine⟨_,_,hr,.inr ⟨w.heap.size,_,_,(0,0),by rw[List.length_append,hss],hB,heap_alloc_new w.drew _,by simp,by simp;omega,hcm,?_,?_⟩,⟨rfl,rfl,rfl,by simp,fun k hk _=>Below.heap_alloc _ _ _ (by simpa using hk)⟩⟩
   ·simp only[Array.size_append,List.size_toArray,List.length_map,size_zeroCells,hz1,hsm]
    omega
   ·have e1:(l++m).length=(l.map (Value.int .u8)++m.map (Value.int .u8)).length:=by simp
    rw[e1,List.map_append,hsm]
    simp only[Array.toList_append]
    exact List.take_left
theorem Bvt{P:Program}{t u e:TypeId}(E:Z4 P t e .u8 1)(hu:P.underlying u=some .string){w:World}{ops:Array Oper}{rest:List Oper}{o:Oper}{a:Act}{Q:Exit->Act->World->Prop}(hgd:Region.wanted o (yielded ops a.tmps)=true)(s x:Operand)
  (ho:o.op=.call { callee:=.builtin .append,args:=#[s,x],argTypes:=#[t,u] })
  (B:Nat) (v:Value) (l m:List Int) (b:ByteArray) (hsm:Lib.strCells b=m.map (Value.int .u8)) (hs:a.eval s=v) (hxe:a.eval x=.string b)
  (h:Row w B e v l) (hB:B<=w.heap.size) (hn:l.length+m.length<=140737488355328)
  (hK:∀v' w',Row w' B e v' (l++m)->A0 v.ownBlock.toList w w'->wpList P ops Q rest (a.put o.dst v') w'):wpList P ops Q (o::rest) a w :=
 Afq hgd fun _ hK'=>by
  obtain⟨v',w',hr,h2,h3⟩:=Chl E hu w o.type B v l m b hsm h hB hn
  unfold Oper.wp execOp
  simp only[ho,resolve,invoke,builtin,Sem.run_bind,Sem.run_pure,Result.andThen_ok,List.map_toArray,List.map_cons,List.map_nil,hs,hxe,hr]
  exact hK' _ _ (hK v' w' h2 h3)
theorem Chh(w:World)(B:Nat)(e:TypeId)(b:ByteArray)(m:List Int)(hsm:Lib.strCells b=m.map (Value.int .u8))(cap:Nat)(hc:b.size<=cap)(hm:cap<=maxLen)(hB:B<=w.heap.size) :
  Row (w.drew.alloc (.cells (bytesRow b cap) e ((bytesRow b cap).size,(bytesRow b cap).size+1))) B e (.slice (some ⟨w.heap.size,0,none⟩) b.size cap) m:=by
 have hss:b.size=m.length:=by
  have:=congrArg List.length hsm
  rwa [Lib.strCells_length,List.length_map]at this
 have hsz:(bytesRow b cap).size=cap:=by
  have:b.data.size=b.size:=rfl
  unfold bytesRow
  simp only[Array.size_append,Array.size_map,Array.size_replicate]
  omega
 refine .inr ⟨w.heap.size,cap,bytesRow b cap,_,by rw[hss],hB,heap_alloc_new w.drew _,fun _=>J5 _,by omega,hm,hsz,?_⟩
 unfold bytesRow
 have e1:(b.data.map (fun b=>Value.int .u8 b.toNat)).toList=m.map (Value.int .u8):=by
  rw[<- hsm]
  simp[Lib.strCells]
 rw[Array.toList_append,e1]
 have e2:m.length=(m.map (Value.int .u8)).length:=by simp
 rw[e2]
 exact List.take_left
theorem Bua{P:Program}{src dst e:TypeId}(hs:P.underlying src=some .string)(hd:P.underlying dst=some (.slice e))(he:P.underlying e=some (.int .u8)){w:World}{ops:Array Oper}{rest:List Oper}{o:Oper}{a:Act}{Q:Exit->Act->World->Prop}(hgd:Region.wanted o (yielded ops a.tmps)=true)
  (x:Operand) (ho:o.op=.convert src dst x) (B:Nat) (b:ByteArray) (m:List Int) (hsm:Lib.strCells b=m.map (Value.int .u8)) (hxe:a.eval x=.string b) (hB:B<=w.heap.size) (hm:m.length<=140737488355328)
  (hK:∀v' w',Row w' B e v' m->Below w.heap.size w w'->wpList P ops Q rest (a.put o.dst v') w'):wpList P ops Q (o::rest) a w :=
 Afq hgd fun _ hK'=>by
  have hss:b.size=m.length:=by
   have:=congrArg List.length hsm
   rwa [Lib.strCells_length,List.length_map]at this
  have hr:=run_bytes_of_string (P:=P) w src dst e b hs hd he
  unfold Oper.wp execOp
  simp only[ho,hxe,Sem.run_bind,hr,Result.andThen_ok]
  refine hK' _ _ (hK _ _ (Chh w B e b m hsm _ ?_ ?_ hB) ⟨rfl,rfl,rfl,by simp,fun k hk=>Below.heap_alloc _ _ _ (by simpa using hk)⟩)
  ·exact grownCap_ge w b.size 0 e
  ·exact grownCap_le_maxLen w b.size 0 e (by unfold maxLen;omega)
end Go.Proofs.YtecnpoigegiooaaGreatDoor.Kys
namespace Go.Proofs.YtecnpoigegiooaaGreatDoor.Kys
open Tryz
def dgF(n:Int):List Int:=(Go.Lib.decDigits n.toNat).map fun b=>(b.toNat:Int)
theorem Afu{n:Nat}(h:n<10):dgF (n:Int)=[48+(n:Int)]:=by
 unfold dgF
 rw[Int.toNat_natCast,Go.Lib.decDigits,dif_pos h]
 simp only[List.map_cons,List.map_nil]
 congr 1
 rw[UInt8.toNat_ofNat_of_lt' (by simp[UInt8.size];omega)]
 omega
theorem Ann{n:Nat}(h:10<=n):dgF (n:Int)=dgF ((n/10:Nat):Int)++[48+((n % 10:Nat):Int)]:=by
 unfold dgF
 rw[Int.toNat_natCast,Int.toNat_natCast]
 conv=>lhs;rw[Go.Lib.decDigits,dif_neg (by omega)]
 rw[List.map_append]
 congr 1
 simp only[List.map_cons,List.map_nil]
 congr 1
 rw[UInt8.toNat_ofNat_of_lt' (by simp[UInt8.size];omega)]
 omega
def Aby:List Int->List Int
 |[]=>[]
 |n::t=>59::dgF n++Aby t
def S8:List Int->List Int
 |[]=>[]
 |n::t=>dgF n++Aby t
theorem Ccp(l:List Int)(x:Int):Aby (l++[x])=Aby l++(59::dgF x):=by
 induction l with
 |nil=>simp[Aby]
 |cons n t ih=>simp[Aby,ih]
theorem Cbl{l:List Int}(h:l≠[])(x:Int):S8 (l++[x])=S8 l++(59::dgF x):=by
 cases l with
 |nil=>exact absurd rfl h
 |cons n t=>simp[S8,Ccp]
def P2(b:List Int)(l:List Int)(f:Int):List Int:=b++S8 l++[f]
structure Ky where
 kd:Int
 r:Int
 n:Int
 md:Int
deriving DecidableEq
structure Ky.Ok(k:Ky):Prop where
 kd:0<=k.kd/\k.kd<=255
 r:-2147483648<=k.r/\k.r<=2147483647
 n:-9223372036854775808<=k.n/\k.n<=9223372036854775807
 md:0<=k.md/\k.md<=255
def S4(r:Int):Prop:=0<=r/\r<=1114111/\(r<55296\/57343<r)
instance (r:Int):Decidable (S4 r):=by unfold S4;infer_instance
def Ky.may(k:Ky):Prop :=
 1<=k.kd/\k.kd<=16/\k.md<=7/\(k.kd=1/\S4 k.r/\k.n=0\/k.kd=12/\k.r=0/\1<=k.n/\k.n<=12\/k.kd≠1/\k.kd≠12/\k.r=0/\k.n=0)
instance (k:Ky):Decidable k.may:=by unfold Ky.may;infer_instance
def N8(k:Ky):Int :=
 if k.kd=2 then 65 else if k.kd=3 then 66 else if k.kd=4 then 67 else if k.kd=5 then 68 else if k.kd=6 then 70 else if k.kd=7 then 72 else if k.kd=12/\k.n<=4 then 79+k.n else 0
def I3(k:Ky):Int :=
 if k.kd=8 then 2 else if k.kd=9 then 3 else if k.kd=10 then 5 else if k.kd=11 then 6 else if k.kd=12/\4<k.n then(if k.n=5 then 15 else if k.n<=10 then k.n+11 else k.n+12)else 0
def Ack(cur:Bool)(k:Ky)(f:Int):List Int :=
 if k.md≠0 then P2 [27,91] [1,k.md+1] f else if k.kd=12\/cur=true then P2 [27,79] [] f else P2 [27,91] [] f
def Ahe(k:Ky)(n:Int):List Int:=if k.md≠0 then P2 [27,91] [n,k.md+1] 126 else P2 [27,91] [n] 126
def O5(r:Int):List Int :=
 if r<0\/1114111<r\/(55296<=r/\r<=57343)then [239,191,189]
 else if r<128 then [r]
 else if r<2048 then [192+r/64,128+r % 64]
 else if r<65536 then [224+r/4096,128+r/64 % 64,128+r % 64]
 else [240+r/262144,128+r/4096 % 64,128+r/64 % 64,128+r % 64]
def V8(r:Int):List Int :=
 if 64<=r/\r<=95\/97<=r/\r<=122 then [r % 32]else if r=32 then [0]else if r=63 then [127]else O5 r
def X5(nl:Bool)(k:Ky):List Int :=
 if k.kd=13 then(if nl=true then [13,10]else [13])
 else if k.kd=14 then(if k.md % 2=1 then [27,91,90]else [9])
 else if k.kd=15 then(if k.md/4 % 2=1 then [8]else [127])
 else if k.kd=16 then [27]
 else if k.md/4 % 2=1 then V8 k.r else O5 k.r
def Aio(k:Ky)(b:List Int):List Int:=if k.md/2 % 2=1 then 27::b else b
def Aee(cur nl:Bool)(k:Ky):List Int :=
 if N8 k≠0 then Ack cur k (N8 k)else if I3 k≠0 then Ahe k (I3 k)else Aio k (X5 nl k)
theorem Aky(r:Int):1<=(O5 r).length/\(O5 r).length<=4:=by
 unfold O5
 split
 ·simp
 ·split
  ·simp
  ·split
   ·simp
   ·split<;>simp
def V6(r:Int):Prop:=r=9\/32<=r/\r<=126\/160<=r/\S4 r
instance (r:Int):Decidable (V6 r):=by unfold V6;infer_instance
def Q3(p:Bool)(r:Int):List Int :=
 if r=10 then(if p=true then []else [13])else if r=13 then [13]else if V6 r then O5 r else []
def Agr(r:Int):Bool:=decide (r=13)
def R6:Bool->List Int->List Int
 |_,[]=>[]
 |p,r::t=>Q3 p r++R6 (Agr r) t
def Adb:List Int:=[27,91,50,48,48,126]
def Alu:List Int:=[27,91,50,48,49,126]
def Aaw(on:Bool)(l:List Int):List Int:=if on=true then Adb++R6 false l++Alu else R6 false l
theorem Bbt(p:Bool)(r:Int):(Q3 p r).length<=4:=by
 unfold Q3
 have:=Aky r
 split
 ·split<;>simp
 ·split
  ·simp
  ·split
   ·omega
   ·simp
theorem Apk:∀(l:List Int) (p:Bool),(R6 p l).length<=4*l.length
 |[],_=>by simp[R6]
 |r::t,p=>by
  have:=Apk t (Agr r)
  have:=Bbt p r
  simp[R6]
  omega
def Aa5(l:List Int):Nat->Bool
 |0=>false
 |i+1=>Agr (l.getD i 0)
theorem Bgw:∀(l:List Int) (p:Bool) (x:Int),R6 p (l++[x])=R6 p l++Q3 (if l=[]then p else Agr (l.getLast?.getD 0)) x
 |[],p,x=>by simp[R6]
 |r::t,p,x=>by
  have:=Bgw t (Agr r) x
  simp only[List.cons_append,R6,this,List.append_assoc]
  congr 2
  rcases t with _|⟨y,t⟩
  ·simp
  ·simp[List.getLast?_cons_cons]
theorem Bgv{l:List Int}{i:Nat}(h:i<l.length):R6 false (l.take (i+1))=R6 false (l.take i)++Q3 (Aa5 l i) l[i]:=by
 rw[List.take_succ_eq_append_getElem h,Bgw]
 congr 2
 rcases i with _|i
 ·simp[Aa5]
 ·have hne:l.take (i+1)≠[]:=by
   intro e
   have:=congrArg List.length e
   rw[List.length_take,List.length_nil]at this
   omega
  rw[if_neg hne]
  have:(l.take (i+1)).getLast?=l[i]?:=by
   rw[List.getLast?_eq_getElem?,List.length_take,Nat.min_eq_left (by omega),List.getElem?_take]
   simp
  rw[this]
  simp[Aa5,List.getD]
end Go.Proofs.YtecnpoigegiooaaGreatDoor.Kys
namespace Go.Proofs.YtecnpoigegiooaaGreatDoor.Kys
open Tryz
open Go RowKit Go.Sort Com
theorem Y7:Z4 prog 22 5 .u8 1:=⟨underlying22,info_parts (by kernel_rfl)⟩
theorem Ajp{u:Nat}(h:u<18446744073709551616):(dgF (u:Int)).length=Lib.nDigits u/\Lib.nDigits u<=20:=by
 refine⟨by simp[dgF,Lib.decDigits_length],?_⟩
 by_cases h1:1<=u
 ·have:=Lib.numDigits_eq u h1 h
  split at this<;>omega
 ·rw[show u=0 by omega,Lib.nDigits_small (by omega)]
  omega
theorem Cdw(u:Nat):Lib.strCells ⟨(Lib.decDigits u).toArray⟩=(dgF (u:Int)).map (Value.int .u8):=by
 simp[Lib.strCells,dgF]
theorem Ccj(u:Nat)(h:u<100)(w:World):Calls prog 209 #[.int .i64 u] w fun e w'=>e=.returned (.string ⟨(Lib.decDigits u).toArray⟩)/\w'=w :=
 Any.internal_strconv_small { Bel with } u h w
theorem Abl(u:Nat)(h1:1<=u)(h2:u<18446744073709551616)(w:World)(Aam:Lib.TabIs prog w "internal/strconv.uint64pow10" .u64 Lib.pow10Tab) :
  Calls prog 210 #[.int .u64 u] w fun e w'=>e=.returned (.int .i64 (Lib.nDigits u))/\w'=w :=
 Any.internal_strconv_numDigits { Bel with } u h1 h2 w Aam
def Cqr(u:Nat)(w:World)(e:Ending)(w':World):Prop:=e=.returned (.tuple #[])/\Below w.heap.size w w'/\A8 w' (w.heap.size+1) .u8 (some ⟨w.heap.size,0,none⟩) (dgF (u:Int))
theorem Ckb(u:Nat)(Ame:u<18446744073709551616)(w:World) :
  Calls prog 211 #[.slice (some ⟨w.heap.size,0,none⟩) (Lib.nDigits u) 24,.int .u64 u] (w.alloc (.cells Lib.zeros24 248)) (Cqr u w):=by
 have hn:=(Ajp Ame).2
 have hH0:=Lib.holds_zero0 w 248 (Lib.nDigits u) (by omega)
 have Axo:=Any.internal_strconv_formatBase10 (P:=prog) (ρ:=ren) { Bel with } w.heap.size 0 24 u (Array.replicate (Lib.nDigits u) 0) (w.alloc (.cells Lib.zeros24 248)) hH0 (by rw[Array.size_replicate];exact Lib.lt_pow_nDigits u) Ame (by rw[Array.size_replicate];omega)
 rw[Array.size_replicate]at Axo
 refine Axo.mono ?_
 rintro e w' ⟨rfl,k,v',dk,rfl,hF⟩
 obtain⟨os,eo⟩:=Lib.fin_at w (.cells Lib.zeros24 248) dk k 0
 refine⟨rfl,?_,fun i x hx=>⟨_,rfl,by simp,?_⟩⟩
 ·rw[eo]
  exact Lib.below_grow w.heap.size w (J5 _) k os
 ·have hi:i<(Lib.decDigits u).length:=by
   have:=(List.getElem?_eq_some_iff.1 hx).1
   simpa[dgF]using this
  have hxe:x=((Lib.decDigits u)[i].toNat:Int):=by
   have h2:(dgF (u:Int))[i]?=some ((Lib.decDigits u)[i].toNat:Int):=by simp[dgF,hi]
   rw[h2]at hx
   exact(Option.some.inj hx).symm
  rw[hxe,Lib.row_is_numeral hF i hi,Lib.add_plain,World.cell?_drewN]
  exact cell?_putRow (fun(b:UInt8)=>Value.int .u8 (b.toNat:Int)) _ w.heap.size 0 _ dk hH0 (by rw[hF.size,Array.size_replicate]) i (by rw[hF.size];rw[Lib.decDigits_length]at hi;exact hi)
def Put(B:Nat)(l:List Int)(w:World)(e:Ending)(w':World):Prop:=∃v',e=.returned v'/\Row w' B 5 v' l/\Below B w w'
theorem Byt(B u:Nat)(hu:u<100)(sv:Value)(l:List Int)(w:World)(h:Row w B 5 sv l)(hB:B<=w.heap.size)(hn:l.length+20<=140737488355328) :
  Calls prog 146 #[sv,.int .u64 u,.int .i64 10] w (Put B (l++dgF (u:Int)) w):=by
 have hlen:=Ajp (u:=u) (by omega)
 go_enter func146,ntmps146
 go_wp2_with (first
  |(go_at_call 209;(with_reducible refine(Ccj u hu _).mono ?_);rintro e w' ⟨rfl,rfl⟩)
  |(at_builtin;refine Bvt Y7 underlying9 rfl _ _ rfl B sv l (dgF (u:Int)) _ (Cdw u) rfl rfl h hB (by omega) ?_;intro v' w1 h1 ho1))
 go_ret
 exact⟨v',rfl,h1,Aaq (Below.refl _ _) h hB ho1⟩
theorem Cil(B u:Nat)(hu:100<=u)(Ame:u<18446744073709551616)(sv:Value)(l:List Int)(w:World)(h:Row w B 5 sv l)(hB:B<=w.heap.size)(hn:l.length+20<=140737488355328)
  (Aam:Lib.TabIs prog w "internal/strconv.uint64pow10" .u64 Lib.pow10Tab) :
  Calls prog 146 #[sv,.int .u64 u,.int .i64 10] w (Put B (l++dgF (u:Int)) w):=by
 have hlen:=Ajp (u:=u) (by omega)
 have hd20:=hlen.2
 have hal:prog.arrayLen 248=24:=by kernel_rfl
 have hsl:∀W,(Instr.sliceAt 248 (.pointer (some ⟨w.heap.size,0,none⟩)) none (some (.int .i64 (Lib.nDigits u:Int))) none).run prog W=.ok (.slice (some ⟨w.heap.size,0,none⟩) (Lib.nDigits u) 24) W:=fun W=>by
  rw[run_sliceAt_array_h W 248 ⟨w.heap.size,0,none⟩ (by simp[Program.arrayLen,Program.elem,underlying248]) .i64 (Lib.nDigits u:Int) (by omega) (by rw[hal];omega)]
  go_simp
 have Cop:=fun w'=>Abl u (by omega) Ame w'
 have iu:(100:Int)<=(u:Int):=by omega
 have Axo:=J0 (Ckb u Ame w)
 have ht:=J0 (Lib.tabIs_alloc Aam (.cells Lib.zeros24 248))
 have hlen':=J0 hlen
 clear hal hlen Aam
 go_enter func146,ntmps146
 go_wp2_with (first
  |(go_at_call 210;refine(Cop _ ht.out).mono ?_;rintro e w' ⟨rfl,rfl⟩)
  |(go_at_call 211;refine Axo.out.mono ?_;rintro e w1 ⟨rfl,hb1,hn1⟩;have h1:=h.below hb1;have hb2:=J0 hb1;have hs1:=hb1.size;clear hb1)
  |(at_builtin;refine Abk Y7 rfl _ _ rfl B sv l (dgF (u:Int)) _ _ 24 rfl (by rw[hlen'.out.1];rfl) h1 hn1 (by omega) (by have:=hlen'.out.1;omega) ?_;intro v' w2 h2 ho2))
 go_ret
 exact⟨v',rfl,h2,Aaq (hb2.out.mono hB) h1 (by omega) ho2⟩
theorem Cik(B u:Nat)(Ame:u<18446744073709551616)(sv:Value)(l:List Int)(w:World)(h:Row w B 5 sv l)(hB:B<=w.heap.size)(hn:l.length+20<=140737488355328)
  (Aam:Lib.TabIs prog w "internal/strconv.uint64pow10" .u64 Lib.pow10Tab) :
  Calls prog 146 #[sv,.int .u64 u,.int .i64 10] w (Put B (l++dgF (u:Int)) w):=by
 by_cases hu:u<100
 ·exact Byt B u hu sv l w h hB hn
 ·exact Cil B u (by omega) Ame sv l w h hB hn Aam
theorem Caw(B u:Nat)(hu:u<=9223372036854775807)(sv:Value)(l:List Int)(w:World)(h:Row w B 5 sv l)(hB:B<=w.heap.size)(hn:l.length+20<=140737488355328)
  (Aam:Lib.TabIs prog w "internal/strconv.uint64pow10" .u64 Lib.pow10Tab) :
  Calls prog 96 #[sv,.int .i64 u,.int .i64 10] w (Put B (l++dgF (u:Int)) w):=by
 have hc:=J0 (Cik B u (by omega) sv l w h hB hn Aam)
 clear Aam
 go_enter func96,ntmps96
 go_wp2_with((go_at_call 146;(with_reducible refine(hc.out).mono ?_);rintro e w1 ⟨v1,rfl,h1,hb1⟩))
 go_ret
 exact⟨v1,rfl,h1,hb1⟩
theorem Bes(B u:Nat)(hu:u<=9223372036854775807)(sv:Value)(l:List Int)(w:World)(h:Row w B 5 sv l)(hB:B<=w.heap.size)(hn:l.length+20<=140737488355328)
  (Aam:Lib.TabIs prog w "internal/strconv.uint64pow10" .u64 Lib.pow10Tab) :
  Calls prog 66 #[sv,.int .i64 u,.int .i64 10] w (Put B (l++dgF (u:Int)) w):=by
 have hc:=J0 (Caw B u hu sv l w h hB hn Aam)
 clear Aam
 go_enter func66,ntmps66
 go_wp2_with((go_at_call 96;(with_reducible refine(hc.out).mono ?_);rintro e w1 ⟨v1,rfl,h1,hb1⟩))
 go_ret
 exact⟨v1,rfl,h1,hb1⟩
end Go.Proofs.YtecnpoigegiooaaGreatDoor.Kys
namespace Go.Proofs.YtecnpoigegiooaaGreatDoor.Kys
open Tryz
open Go RowKit Com
def Tab(w:World):Prop:=Lib.TabIs prog w "internal/strconv.uint64pow10" .u64 Lib.pow10Tab
theorem Tab.is{w:World}(h:Tab w):Lib.TabIs prog w "internal/strconv.uint64pow10" .u64 Lib.pow10Tab:=h
theorem Tab.below{w w':World}(h:Tab w)(hb:Below w.heap.size w w'):Tab w':=Lib.tabBelow_of_tabIs h.is w' hb
theorem Tab.alloc{w:World}(h:Tab w)(o:Obj):Tab (w.alloc o):=h.below (A3 w o)
def Anr(xs:List Int):Prop:=∀x∈xs,0<=x/\x<=9223372036854775807
theorem Boy{x:Int}(h:0<=x/\x<=9223372036854775807):(dgF x).length<=20:=by
 obtain⟨u,rfl⟩:∃u:Nat,x=u:=⟨x.toNat,by omega⟩
 have:=Ajp (u:=u) (by omega)
 omega
theorem Bnh:∀ {xs:List Int},Anr xs->(Aby xs).length<=21*xs.length
 |[],_=>by simp[Aby]
 |x::t,h=>by
  have h1:=Boy (h x (by simp))
  have h2:=Bnh (xs:=t) fun y hy=>h y (by simp[hy])
  simp[Aby]
  omega
theorem Clk{xs:List Int}(h:Anr xs):(S8 xs).length<=21*xs.length:=by
 rcases xs with _|⟨x,t⟩
 ·simp[S8]
 ·have h1:=Boy (h x (by simp))
  have h2:=Bnh (xs:=t) fun y hy=>h y (by simp[hy])
  simp[S8]
  omega
theorem Cgm{xs:List Int}(h:0<xs.length)(bs:List Int):bs++S8 (xs.take (0+1))=bs++S8 (xs.take 0)++dgF xs[0]:=by
 rw[List.take_succ_eq_append_getElem h]
 simp[S8,Aby]
theorem Clj{xs:List Int}{k:Nat}(hk:0<k)(h:k<xs.length)(bs:List Int):bs++S8 (xs.take (k+1))=bs++S8 (xs.take k)++[59]++dgF xs[k]:=by
 rw[List.take_succ_eq_append_getElem h,Cbl (by intro e;have:=congrArg List.length e;rw[List.length_take,List.length_nil]at this;omega)]
 simp
structure Bou(w:World)(bs xs:List Int)(k:Nat)(v:Value)(wr:World):Prop where
 row:Row wr w.heap.size 5 v (bs++S8 (xs.take k))
 below:Below w.heap.size w wr
theorem Ape(b:ByteArray)(bs:List Int)(hb:Lib.strCells b=bs.map (Value.int .u8))(hbl:bs.length<=1000)(f:Int)(xs:List Int)(hx:Anr xs)(hxl:xs.length<=1000)(ao:Option Addr)(c:Nat)(w:World)(hn:A8 w w.heap.size .i64 ao xs)(hT:Tab w) :
  Calls prog 50 #[.string b,.int .u8 f,.slice ao xs.length c] w (Put w.heap.size (P2 bs xs f) w):=by
 have hlen:=fun k=>Clk (xs:=xs.take k) fun y hy=>hx y (List.mem_of_mem_take hy)
 have hlen':∀k,(bs++S8 (xs.take k)).length<=22000:=fun k=>by
  have h1:=hlen k
  have h2:(xs.take k).length<=xs.length:=by rw[List.length_take];omega
  rw[List.length_append]
  omega
 replace hlen':=J0 hlen'
 clear hlen
 go_enter func50,ntmps50
 go_wp2_with((with_reducible show wpList _ _ _ (⟨some 11,.convert _ _ _,_,_,_,_⟩::_) _ _;go_must(refine Bua underlying9 underlying22 underlying5 rfl (.tmp 10) rfl w.heap.size b bs hb rfl (J5 _) (by omega) ?_);intro v0 w0 h0 hb0))
 have hst:Hid (Bou w bs xs 0 v0 w0):=⟨by simpa[S8]using h0,hb0⟩
 clear h0 hb0 hb
 go_loopw [7,14] (fun v i wr=>∃k:Nat,i=.int .i64 k/\k<=xs.length/\Hid (Bou w bs xs k v wr)) (fun _ i _=>xs.length-(intOf i).toNat)
 case atStart=>exact⟨0,rfl,by omega,hst⟩
 case round =>
  obtain⟨k,rfl,hk,hat⟩:=hrel
  have hsz:=hat.out.below.size
  by_cases hlt:k<xs.length
  ·obtain⟨ad,rfl,_,E7⟩:=(hn.below hat.out.below (J5 _)).at hlt
   obtain⟨u,hu⟩:∃u:Nat,xs[k]=(u:Int):=⟨xs[k].toNat,by have:=hx _ (List.getElem_mem hlt);omega⟩
   have hul:u<=9223372036854775807:=by have:=hx _ (List.getElem_mem hlt);omega
   have htr:=J0 (hT.below hat.out.below)
   have hL:=J0 (hlen'.out k)
   by_cases h0:k=0
   ·subst h0
    have Agf:=J0 (Cgm hlt bs)
    rw[hu]at Agf E7
    have Bob:wr.cell? ad=some (.int .i64 u):=by simpa[Addr.add]using E7
    clear hu hx hn hT E7
    go_wp2_with((go_at_call 66;refine(Bes w.heap.size u hul _ _ _ hat.out.row hsz (by have:=hL.out;omega) htr.out.is).mono ?_;rintro e w1 ⟨v1,rfl,h1,hb1⟩;replace h1:=J0 h1;replace hb1:=J0 hb1))
    go_roundw
    case rel=>exact⟨0+1,by go_num,by omega,⟨by rw[Agf.out];exact h1.out,hat.out.below.trans hb1.out⟩⟩
    case measure=>simp[intOf];omega
   ·have Agf:=J0 (Clj (by omega) hlt bs)
    rw[hu]at Agf E7
    have A6:=hat.out.row
    have F0:=J0 hat.out.below
    have hT':=J0 hT
    obtain⟨acc,O6⟩:∃acc,acc=bs++S8 (xs.take k):=⟨_,rfl⟩
    rw[<- O6]at A6 Agf hL
    clear hu hx hn hT hat O6 htr
    go_wp2_with (first
     |(at_builtin;refine Abk Y7 rfl (.tmp 21) (.tmp 22) rfl w.heap.size _ acc [59] _ _ 1 rfl rfl (A6.alloc _) (A8.one wr _ .u8 59) (by simp;omega) (by have:=hL.out;simp;omega) ?_;intro v2 w2 h2 ho2;have hb2:=J0 (Aaq (F0.out.trans ((Below.refl _ _).alloc hsz _)) (A6.alloc _) (by simp;omega) ho2);have hs2:=hb2.out.size;replace h2:=J0 h2;clear ho2)
     |(go_at_call 66;refine(Bes w.heap.size u hul _ _ _ h2.out hs2 (by have:=hL.out;simp;omega) (hT'.out.below hb2.out).is).mono ?_;rintro e w1 ⟨v1,rfl,h1,hb1⟩;replace h1:=J0 h1;replace hb1:=J0 hb1))
    go_roundw
    case rel=>exact⟨k+1,by go_num,by omega,⟨by rw[Agf.out];exact h1.out,hb2.out.trans hb1.out⟩⟩
    case measure=>simp[intOf];omega
  ·have hkl:xs.take k=xs:=List.take_of_length_le (by omega)
   have A6:=hat.out.row
   have F0:=J0 hat.out.below
   have hL:=hlen'.out k
   rw[hkl]at A6 hL
   replace hL:=J0 hL
   have hE:Hid (P2 bs xs f=bs++S8 xs++[f]):=rfl
   obtain⟨acc,O6⟩:∃acc,acc=bs++S8 xs:=⟨_,rfl⟩
   rw[<- O6]at A6 hL hE
   clear hkl hat hn hT O6
   go_wp2_with (first
     |(at_builtin;refine Abk Y7 rfl (.tmp 28) (.tmp 30) rfl w.heap.size _ acc [f] _ _ 1 rfl rfl (A6.alloc _) (A8.one wr _ .u8 f) (by simp;omega) (by have:=hL.out;simp;omega) ?_;intro v2 w2 h2 ho2;have hb2:=J0 (Aaq (F0.out.trans ((Below.refl _ _).alloc hsz _)) (A6.alloc _) (by simp;omega) ho2);replace h2:=J0 h2;clear ho2))
   go_ret
   exact⟨v2,rfl,by rw[hE.out];exact h2.out,hb2.out⟩
