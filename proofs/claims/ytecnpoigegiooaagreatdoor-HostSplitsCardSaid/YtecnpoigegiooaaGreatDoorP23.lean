/- Part 23 of HostSplits. -/
import Derived.Shelf.Strconv.Itoa0
import Derived.Shelf.Strconv.Itoa1
import Derived.Shelf.LaysM
import Derived.Shelf.Strconv.Itoa2
import Derived.Shelf.Strconv.AppendUint10
import Derived.Shelf.Strconv.AppendInt10
import Derived.Shelf.Strconv.AppendIntPublic10
import Derived.Test.YtecnpoigegiooaaGreatDoorProg
import Derived.Lib.AppendStr
import Derived.Laws.IdiomStrings
import Derived.Test.YtecnpoigegiooaaGreatDoorP05
import Derived.Lib.ItoaNum
set_option maxHeartbeats 16000000
set_option maxRecDepth 100000
namespace Go.Proofs.YtecnpoigegiooaaGreatDoor.Kys
open Go RowKit Go.Shelf
def ren:Go.Shelf.Ren:=⟨fun|176=>66|249=>96|288=>146|283=>209|284=>210|285=>211|286=>212|129=>259|317=>258|318=>260|319=>261|320=>262|337=>281|338=>270|n=>n,fun|37=>22|2=>2|3=>3|53=>58|4=>4|9=>9|171=>248|0=>0|173=>251|212=>274|51=>48|5=>5|20=>20|213=>275|46=>156|232=>309|233=>292|n=>n,fun|17=>2|18=>4|19=>3|n=>n⟩
theorem lays:Go.Proofs.LaysM.n176 Tryz.prog ren:={
 mixed:=by kernel_rfl
 f129:=Tryz.func259.trans (congrArg some (by kernel_rfl))
 f176:=Tryz.func66.trans (congrArg some (by kernel_rfl))
 f249:=Tryz.func96.trans (congrArg some (by kernel_rfl))
 f283:=Tryz.func209.trans (congrArg some (by kernel_rfl))
 f284:=Tryz.func210.trans (congrArg some (by kernel_rfl))
 f285:=Tryz.func211.trans (congrArg some (by kernel_rfl))
 f286:=Tryz.func212.trans (congrArg some (by kernel_rfl))
 f288:=Tryz.func146.trans (congrArg some (by kernel_rfl))
 f317:=Tryz.func258.trans (congrArg some (by kernel_rfl))
 f318:=Tryz.func260.trans (congrArg some (by kernel_rfl))
 f319:=Tryz.func261.trans (congrArg some (by kernel_rfl))
 f320:=Tryz.func262.trans (congrArg some (by kernel_rfl))
 f337:=Tryz.func281.trans (congrArg some (by kernel_rfl))
 f338:=Tryz.func270.trans (congrArg some (by kernel_rfl))
 t0:=Tryz.underlying0
 a0:=Tryz.isAgg0
 z0:=Tryz.sizeOf0
 v0:=Tryz.zeroValue0
 t2:=Tryz.underlying2
 a2:=Tryz.isAgg2
 z2:=Tryz.sizeOf2
 v2:=Tryz.zeroValue2
 t3:=Tryz.underlying3
 a3:=Tryz.isAgg3
 z3:=Tryz.sizeOf3
 v3:=Tryz.zeroValue3
 t4:=Tryz.underlying4
 a4:=Tryz.isAgg4
 z4:=Tryz.sizeOf4
 v4:=Tryz.zeroValue4
 t5:=Tryz.underlying5
 a5:=Tryz.isAgg5
 z5:=Tryz.sizeOf5
 v5:=Tryz.zeroValue5
 t9:=Tryz.underlying9
 a9:=Tryz.isAgg9
 z9:=Tryz.sizeOf9
 v9:=Tryz.zeroValue9
 t20:=Tryz.underlying20
 a20:=Tryz.isAgg20
 z20:=Tryz.sizeOf20
 v20:=Tryz.zeroValue20
 t37:=Tryz.underlying22
 a37:=Tryz.isAgg22
 z37:=Tryz.sizeOf22
 v37:=Tryz.zeroValue22
 t46:=Tryz.underlying156
 a46:=Tryz.isAgg156
 z46:=Tryz.sizeOf156
 v46:=Tryz.zeroValue156
 t51:=Tryz.underlying48
 a51:=Tryz.isAgg48
 z51:=Tryz.sizeOf48
 v51:=Tryz.zeroValue48
 t53:=Tryz.underlying58
 a53:=Tryz.isAgg58
 z53:=Tryz.sizeOf58
 v53:=Tryz.zeroValue58
 t171:=Tryz.underlying248
 a171:=Tryz.isAgg248
 z171:=Tryz.sizeOf248
 v171:=Tryz.zeroValue248
 t173:=Tryz.underlying251
 a173:=Tryz.isAgg251
 z173:=Tryz.sizeOf251
 v173:=Tryz.zeroValue251
 t212:=Tryz.underlying274
 a212:=Tryz.isAgg274
 z212:=Tryz.sizeOf274
 v212:=Tryz.zeroValue274
 t213:=Tryz.underlying275
 a213:=Tryz.isAgg275
 z213:=Tryz.sizeOf275
 t232:=Tryz.underlying309
 a232:=Tryz.isAgg309
 z232:=Tryz.sizeOf309
 v232:=Tryz.zeroValue309
 t233:=Tryz.underlying292
 a233:=Tryz.isAgg292
 z233:=Tryz.sizeOf292
 v233:=Tryz.zeroValue292
 g17:=by kernel_rfl
 g18:=by kernel_rfl
 g19:=by kernel_rfl
 i0:=by kernel_rfl
 i2:=by kernel_rfl
 i3:=by kernel_rfl
 i4:=by kernel_rfl
 i5:=by kernel_rfl
 i9:=by kernel_rfl
 i20:=by kernel_rfl
 i37:=by kernel_rfl
 i46:=by kernel_rfl
 i51:=by kernel_rfl
 i53:=by kernel_rfl
 i171:=by kernel_rfl
 i173:=by kernel_rfl
 i212:=by kernel_rfl
 i232:=by kernel_rfl
 i233:=by kernel_rfl
 m17:=by kernel_rfl
 m18:=by kernel_rfl
 m19:=by kernel_rfl }
end Go.Proofs.YtecnpoigegiooaaGreatDoor.Kys
namespace Go.Proofs.YtecnpoigegiooaaGreatDoor.Kys
open Go RowKit Com
def Row (w:World) (B:Nat) (e:TypeId) (v:Value) (l:List Int):Prop :=
 (v=.slice none 0 0/\l=[]) \/
 ∃g cap cur fz,v=.slice (some ⟨g,0,none⟩) l.length cap/\B<=g/\w.heap[g]?=some (.cells cur e fz)/\(fz.1<fz.2->cur.size<=fz.1)/\l.length<=cap/\cap<=maxLen/\cur.size=cap/\cur.toList.take l.length=l.map (Value.int .u8)
section
variable {w w':World}{B B':Nat}{e:TypeId}{v:Value}{l:List Int}
theorem Row.nil (w:World) (B:Nat) (e:TypeId):Row w B e (.slice none 0 0) []:=.inl ⟨rfl,rfl⟩
theorem Row.own (h:Own w B e .u8 v l):Row w B e v l:=by
 rcases h.2 with ⟨rfl,hn⟩|⟨g,cap,cur,rfl,hb,hg,h1,h2,h3,h4⟩
 ·exact .inl ⟨rfl,List.eq_nil_of_length_eq_zero hn⟩
 ·exact .inr ⟨g,cap,cur,(0,0),rfl,hb,hg,by simp,h1,h2,by simpa using h3,by simpa using h4⟩
theorem Row.lt (h:Row w B e v l):∀g,v.ownBlock=some g->B<=g/\g<w.heap.size:=by
 intro k hk
 rcases h with ⟨rfl,_⟩|⟨g,cap,cur,fz,rfl,hb,hg,_⟩
 ·simp[Value.ownBlock] at hk
 ·simp[Value.ownBlock] at hk
  subst hk
  exact⟨hb,Ap8 hg⟩
theorem Row.only {L:List Nat} (h:Row w B e v l) (ho:Only L w w') (hn:∀g,v.ownBlock=some g->g∉L):Row w' B e v l:=by
 rcases h with h|⟨g,cap,cur,fz,rfl,hb,hg,r⟩
 ·exact .inl h
 ·exact .inr ⟨g,cap,cur,fz,rfl,hb,(ho.block g (Ap8 hg) (hn g rfl)).trans hg,r⟩
theorem Row.below (h:Row w B e v l) (hb:Below w.heap.size w w'):Row w' B e v l:=h.only (Only.of_below hb []) (by simp)
theorem Row.alloc (h:Row w B e v l) (o:Obj):Row (w.alloc o) B e v l:=h.only (Only.alloc [] w o) (by simp)
theorem Row.lower (h:Row w B e v l) (hB:B'<=B):Row w B' e v l:=by
 rcases h with h|⟨g,cap,cur,fz,rfl,hb,r⟩
 ·exact .inl h
 ·exact .inr ⟨g,cap,cur,fz,rfl,by omega,r⟩
theorem Row.cells (h:Row w B e v l) {g:Nat} (hg:v.ownBlock=some g) {i:Nat} {x:Int} (hx:l[i]?=some x):w.cell? ⟨g,i,none⟩=some (.int .u8 x):=by
 rcases h with ⟨rfl,_⟩|⟨k,cap,cur,fz,rfl,_,hh,_,_,_,_,ht⟩
 ·simp[Value.ownBlock] at hg
 ·simp[Value.ownBlock] at hg
  subst hg
  rw[cell_of_row w k i cur e fz hh]
  have h1:(cur.toList.take l.length)[i]?=some (.int .u8 x):=by rw[ht,List.getElem?_map,hx];rfl
  rw[List.getElem?_take] at h1
  split at h1
  ·simpa using h1
  ·cases h1
theorem Row.shape (h:Row w B e v l):∃ao cap,v=.slice ao l.length cap/\l.length<=cap/\cap<=maxLen/\Nums w w.heap.size .u8 ao l:=by
 have hc:=fun g (hg:v.ownBlock=some g)=>fun i x (hx:l[i]?=some x)=>h.cells hg hx
 rcases h with ⟨rfl,rfl⟩|⟨g,cap,cur,fz,rfl,_,hh,_,hn,hm,_⟩
 ·exact⟨none,0,rfl,J5 _,by simp[maxLen],Nums.nil _ _ _ _⟩
 ·refine⟨_,cap,rfl,hn,hm,fun i x hx=>⟨_,rfl,Ap8 hh,?_⟩⟩
  rw[Addr.add_lit,Nat.zero_add]
  exact hc g rfl i x hx
theorem Row.apart (h:Row w B e v l) {g:Nat} {t:TypeId} {cs:Array Value} (hb:Block w g t cs) (ht:e≠t):v.ownBlock≠some g:=by
 intro hv
 rcases h with ⟨rfl,_⟩|⟨k,cap,cur,fz,rfl,_,hh,_⟩
 ·simp[Value.ownBlock] at hv
 ·simp[Value.ownBlock] at hv
  subst hv
  unfold Block at hb
  rw[hb] at hh
  simp only[Option.some.injEq,Obj.cells.injEq] at hh
  exact ht hh.2.1.symm
theorem Ay0 {w0:World} (hb:Below B w0 w) (h:Row w B e v l) (hB:B<=w.heap.size) (ho:Only v.ownBlock.toList w w'):Below B w0 w' :=
 hb.trans (ho.below hB fun k hk=>by
  have:v.ownBlock=some k:=by simpa using hk
  exact(h.lt k this).1)
end
theorem row_store (P:Program) (e:TypeId) (g:Nat) (fz:Nat×Nat):∀(vs:List Value) (w:World) (o i:Nat) (cur:Array Value),w.heap[g]?=some (.cells cur e fz)->(fz.1<fz.2->cur.size<=fz.1)->o+i+vs.length<=cur.size->(∀v∈vs,v.oneCell'=true) ->
  ∃w' cur',(storeCells ⟨g,o,none⟩ vs i).run P w=.ok () w'/\w'.heap[g]?=some (.cells cur' e fz)/\cur'.size=cur.size/\cur'.toList.take (o+i+vs.length)=cur.toList.take (o+i)++vs/\Only [g] w w'
 |[],w,o,i,cur,hg,_,_,_=>⟨w,cur,rfl,hg,rfl,by simp,Only.refl _ _⟩
 |v::vs,w,o,i,cur,hg,hf,hl,h1=>by
  simp only[List.length_cons] at hl
  have hlt:o+i<cur.size:=by omega
  have hfr:w.frozen? ⟨g,o+i,none⟩=false:=by
   simp only[World.frozen?,hg,Bool.and_eq_false_iff,decide_eq_false_iff_not]
   omega
  have hs:(store ((⟨g,o,none⟩:Addr).add i) v).run P w=.ok () (w.setRow g (cur.setIfInBounds (o+i) v)):=by
   rw[Addr.add_lit,run_store P w _ v _ (h1 v (by simp)),cell_of_row w g (o+i) cur e fz hg]
   simp[hlt,hfr,setCell_eq_setRow w g (o+i) cur e fz v hg]
  obtain⟨w',cur',hr,hg',hs',ht',ho'⟩:=row_store P e g fz vs (w.setRow g (cur.setIfInBounds (o+i) v)) o (i+1) (cur.setIfInBounds (o+i) v) (setRow_heap w g cur _ e _ hg) (by simpa using hf) (by simp;omega) (fun x hx=>h1 x (by simp[hx]))
  refine⟨w',cur',?_,hg',by simpa using hs',?_,(Ac7 w g _).trans ho'⟩
  ·simp only[storeCells,Sem.run_bind,hs,Result.andThen_ok,hr]
  ·have e1:o+i+(v::vs).length=o+(i+1)+vs.length:=by simp;omega
   rw[e1,ht',Array.toList_setIfInBounds,show o+(i+1)=o+i+1 from rfl,List.take_succ_eq_append_getElem (by simpa using hlt),List.take_set_of_le (J5 _)]
   simp
theorem run_appR {P:Program} {t e:TypeId} (E:Elem P t e .u8 1) (w:World) (ty:TypeId) (B:Nat) (v:Value) (l m:List Int) (ao:Option Addr) (B' c:Nat)
  (h:Row w B e v l) (hm:Nums w B' .u8 ao m) (hB:B<=w.heap.size) (hn:l.length+m.length<=140737488355328) :
  ∃v' w',(Builtin.append_ #[t,t] ty #[v,.slice ao m.length c]).run P w=.ok v' w'/\Row w' B e v' (l++m)/\Only v.ownBlock.toList w w':=by
 rcases h with ⟨rfl,rfl⟩|⟨g,cap,cur,fz,rfl,hb,hg,hf,h1,h2,h3,h4⟩
 ·obtain⟨v',w',hr,h2,h3,_⟩:=Bx6 E w ty B (.slice none 0 0) [] m ao B' c (Own.nil w B e .u8) hm hB (by simpa using hn) (by simp[maxLen];simp at hn;omega)
  exact⟨v',w',hr,Row.own h2,h3⟩
 ·obtain⟨i,hi,hz,hs,hby⟩:=E.info
  rcases ao with _|ad
  ·have hm0:m=[]:=by
    rcases m with _|⟨x,m⟩
    ·rfl
    ·obtain⟨ad,h',_⟩:=hm 0 x rfl
     cases h'
   subst hm0
   refine⟨_,w,?_,.inr ⟨g,cap,cur,fz,by rw[List.append_nil],hb,hg,hf,by simpa using h1,h2,h3,by simpa using h4⟩,Only.refl _ _⟩
   simp[Builtin.append_,run_underlying E.slice,sizeOf,typeInfo,hi,Builtin.lenOf,Builtin.firstCells,h1,storeCells]
  ·have hnews:∀j u,(m.map (Value.int .u8))[j]?=some u->w.cell? (ad.add j)=some u:=fun j u hu=>by
    rw[List.getElem?_map] at hu
    rcases hx':m[j]? with _|x
    ·rw[hx'] at hu;cases hu
    ·rw[hx'] at hu
     obtain⟨ad',e',_,hc⟩:=hm j x hx'
     cases e'
     cases hu
     exact hc
   by_cases hroom:l.length+m.length<=cap
   ·have hfc:=run_firstCells_some (P:=P) w i.size m.length ad m.length c (m.map (Value.int .u8)) (by simp[hs]) hnews
    obtain⟨w',cur',hr,hg',hs',ht',ho'⟩:=row_store P e g fz (m.map (Value.int .u8)) w l.length 0 cur hg hf (by simp;omega) (fun u hu=>by
     obtain⟨x,_,rfl⟩:=List.mem_map.1 hu
     rfl)
    rw[hs] at hfc
    refine⟨.slice (some ⟨g,0,none⟩) (l.length+m.length) cap,w',?_,.inr ⟨g,cap,cur',fz,by rw[List.length_append],hb,hg',by rw[hs'];exact hf,by simpa using hroom,h2,hs'.trans h3,?_⟩,ho'⟩
    ·simp[Builtin.append_,run_underlying E.slice,sizeOf,typeInfo,hi,Builtin.lenOf,hroom,hfc,Addr.add_lit,hs,hr]
    ·have:=ht'
     simp only[Nat.add_zero,List.length_map] at this
     rw[List.length_append,this,h4,List.map_append]
   ·have holds:∀j u,(l.map (Value.int .u8))[j]?=some u->w.cell? ((⟨g,0,none⟩:Addr).add j)=some u:=fun j u hu=>by
     rw[List.getElem?_map] at hu
     rcases hx':l[j]? with _|x
     ·rw[hx'] at hu;cases hu
     ·rw[hx'] at hu
      cases hu
      rw[Addr.add_lit,Nat.zero_add]
      exact(show Row w B e (.slice (some ⟨g,0,none⟩) l.length cap) l from .inr ⟨g,cap,cur,fz,rfl,hb,hg,hf,h1,h2,h3,h4⟩).cells rfl hx'
    have hr:=run_append_grow (P:=P) w t ty e i (.int .u8 0) E.slice hi hz ⟨g,0,none⟩ l.length cap (l.map (Value.int .u8)) (by simp[hs]) holds ad m.length c (m.map (Value.int .u8)) (by simp[hs]) hnews (by omega) (by omega) (by rw[hby];exact growslice_fits (by omega) (by omega))
    have hge:=grownCap_ge w (l.length+m.length) cap e
    have hcm:=grownCap_le_maxLen w (l.length+m.length) cap e (by unfold maxLen;omega)
    have hz1:(Value.int IntKind.u8 0).cells.size=1:=rfl
    refine⟨_,_,hr,.inr ⟨w.heap.size,_,_,(0,0),by rw[List.length_append],hB,heap_alloc_new w.drew _,by simp,by simpa using hge,hcm,?_,?_⟩,⟨rfl,rfl,rfl,by simp,fun k hk _=>Below.heap_alloc _ _ _ (by simpa using hk)⟩⟩
    ·simp only[Array.size_append,List.size_toArray,List.length_map,size_zeroCells,hz1]
     omega
    ·have e1:(l++m).length=(l.map (Value.int .u8)++m.map (Value.int .u8)).length:=by simp
     rw[e1,List.map_append]
     simp only[Array.toList_append]
     exact List.take_left
theorem Au7 {P:Program} {t e:TypeId} (E:Elem P t e .u8 1) {w:World} {ops:Array Oper} {rest:List Oper} {o:Oper} {a:Act} {Q:Exit->Act->World->Prop} (hgd:Region.wanted o (yielded ops a.tmps)=true) (s x:Operand)
  (ho:o.op=.call { callee:=.builtin .append,args:=#[s,x],argTypes:=#[t,t] })
  (B:Nat) (v:Value) (l m:List Int) (ao:Option Addr) (B' c:Nat) (hs:a.eval s=v) (hxe:a.eval x=.slice ao m.length c)
  (h:Row w B e v l) (hm:Nums w B' .u8 ao m) (hB:B<=w.heap.size) (hn:l.length+m.length<=140737488355328)
  (hK:∀v' w',Row w' B e v' (l++m)->Only v.ownBlock.toList w w'->wpList P ops Q rest (a.put o.dst v') w'):wpList P ops Q (o::rest) a w :=
 Ad1 hgd fun _ hK'=>by
  obtain⟨v',w',hr,h2,h3⟩:=run_appR E w o.type B v l m ao B' c h hm hB hn
  unfold Oper.wp execOp
  simp only[ho,resolve,invoke,builtin,Sem.run_bind,Sem.run_pure,Result.andThen_ok,List.map_toArray,List.map_cons,List.map_nil,hs,hxe,hr]
  exact hK' _ _ (hK v' w' h2 h3)
theorem run_appS {P:Program} {t u e:TypeId} (E:Elem P t e .u8 1) (hu:P.underlying u=some .string) (w:World) (ty:TypeId) (B:Nat) (v:Value) (l m:List Int) (s:ByteArray) (hsm:Lib.strCells s=m.map (Value.int .u8))
  (h:Row w B e v l) (hB:B<=w.heap.size) (hn:l.length+m.length<=140737488355328) :
  ∃v' w',(Builtin.append_ #[t,u] ty #[v,.string s]).run P w=.ok v' w'/\Row w' B e v' (l++m)/\Only v.ownBlock.toList w w':=by
 have hss:s.size=m.length:=by
  have:=congrArg List.length hsm
  rwa [Lib.strCells_length,List.length_map] at this
 obtain⟨i,hi,hz,hs,hby⟩:=E.info
 rcases h with ⟨rfl,rfl⟩|⟨g,cap,cur,fz,rfl,hb,hg,hf,h1,h2,h3,h4⟩
 ·obtain⟨v',w',hr,h2,h3,_⟩:=Lib.run_append_own_string (P:=P) w B t u ty e i E.slice hu hi hz hs hby (.slice none 0 0) 0 [] (World.ownsRow_nil _ _ _ _) s (by simp at hn;unfold maxLen;omega) (by simp at hn;omega) hB
  refine⟨v',w',hr,Row.own ?_,Only.grown h3⟩
  unfold Own
  rw[List.nil_append,Nat.zero_add,hsm,hss] at h2
  simpa using h2
 ·by_cases hroom:l.length+s.size<=cap
  ·have hfc:=Lib.run_firstCells_string (P:=P) w i.size s
   obtain⟨w',cur',hr,hg',hs',ht',ho'⟩:=row_store P e g fz (m.map (Value.int .u8)) w l.length 0 cur hg hf (by simp;omega) (fun u hu=>by
    obtain⟨x,_,rfl⟩:=List.mem_map.1 hu
    rfl)
   rw[<- hsm] at hr
   rw[hs] at hfc
   refine⟨.slice (some ⟨g,0,none⟩) (l.length+s.size) cap,w',?_,.inr ⟨g,cap,cur',fz,by rw[List.length_append,hss],hb,hg',by rw[hs'];exact hf,by simp;omega,h2,hs'.trans h3,?_⟩,ho'⟩
   ·simp[Builtin.append_,run_underlying E.slice,run_underlying hu,sizeOf,typeInfo,hi,Builtin.lenOf,hroom,hfc,Addr.add_lit,hs,hr]
   ·have:=ht'
    simp only[Nat.add_zero,List.length_map] at this
    rw[List.length_append,this,h4,List.map_append]
  ·have holds:∀j u,(l.map (Value.int .u8))[j]?=some u->w.cell? ((⟨g,0,none⟩:Addr).add j)=some u:=fun j u hu=>by
    rw[List.getElem?_map] at hu
    rcases hx':l[j]? with _|x
    ·rw[hx'] at hu;cases hu
    ·rw[hx'] at hu
     cases hu
     rw[Addr.add_lit,Nat.zero_add]
     exact(show Row w B e (.slice (some ⟨g,0,none⟩) l.length cap) l from .inr ⟨g,cap,cur,fz,rfl,hb,hg,hf,h1,h2,h3,h4⟩).cells rfl hx'
   have hr:=Lib.run_append_grow_string (P:=P) w t u ty e i (.int .u8 0) E.slice hu hi hz ⟨g,0,none⟩ l.length cap (l.map (Value.int .u8)) (by simp[hs]) holds s (by omega) (by omega) (by rw[hby];exact growslice_fits (by omega) (by omega))
   have hge:=grownCap_ge w (l.length+s.size) cap e
   have hcm:=grownCap_le_maxLen w (l.length+s.size) cap e (by unfold maxLen;omega)
   have hz1:(Value.int IntKind.u8 0).cells.size=1:=rfl
   refine⟨_,_,hr,.inr ⟨w.heap.size,_,_,(0,0),by rw[List.length_append,hss],hB,heap_alloc_new w.drew _,by simp,by simp;omega,hcm,?_,?_⟩,⟨rfl,rfl,rfl,by simp,fun k hk _=>Below.heap_alloc _ _ _ (by simpa using hk)⟩⟩
   ·simp only[Array.size_append,List.size_toArray,List.length_map,size_zeroCells,hz1,hsm]
    omega
   ·have e1:(l++m).length=(l.map (Value.int .u8)++m.map (Value.int .u8)).length:=by simp
    rw[e1,List.map_append,hsm]
    simp only[Array.toList_append]
    exact List.take_left
theorem wpList_appS {P:Program} {t u e:TypeId} (E:Elem P t e .u8 1) (hu:P.underlying u=some .string) {w:World} {ops:Array Oper} {rest:List Oper} {o:Oper} {a:Act} {Q:Exit->Act->World->Prop} (hgd:Region.wanted o (yielded ops a.tmps)=true) (s x:Operand)
  (ho:o.op=.call { callee:=.builtin .append,args:=#[s,x],argTypes:=#[t,u] })
  (B:Nat) (v:Value) (l m:List Int) (b:ByteArray) (hsm:Lib.strCells b=m.map (Value.int .u8)) (hs:a.eval s=v) (hxe:a.eval x=.string b)
  (h:Row w B e v l) (hB:B<=w.heap.size) (hn:l.length+m.length<=140737488355328)
  (hK:∀v' w',Row w' B e v' (l++m)->Only v.ownBlock.toList w w'->wpList P ops Q rest (a.put o.dst v') w'):wpList P ops Q (o::rest) a w :=
 Ad1 hgd fun _ hK'=>by
  obtain⟨v',w',hr,h2,h3⟩:=run_appS E hu w o.type B v l m b hsm h hB hn
  unfold Oper.wp execOp
  simp only[ho,resolve,invoke,builtin,Sem.run_bind,Sem.run_pure,Result.andThen_ok,List.map_toArray,List.map_cons,List.map_nil,hs,hxe,hr]
  exact hK' _ _ (hK v' w' h2 h3)
theorem row_made (w:World) (B:Nat) (e:TypeId) (b:ByteArray) (m:List Int) (hsm:Lib.strCells b=m.map (Value.int .u8)) (cap:Nat) (hc:b.size<=cap) (hm:cap<=maxLen) (hB:B<=w.heap.size) :
  Row (w.drew.alloc (.cells (bytesRow b cap) e ((bytesRow b cap).size,(bytesRow b cap).size+1))) B e (.slice (some ⟨w.heap.size,0,none⟩) b.size cap) m:=by
 have hss:b.size=m.length:=by
  have:=congrArg List.length hsm
  rwa [Lib.strCells_length,List.length_map] at this
 have hsz:(bytesRow b cap).size=cap:=by
  have:b.data.size=b.size:=rfl
  unfold bytesRow
  simp only[Array.size_append,Array.size_map,Array.size_replicate]
  omega
 refine .inr ⟨w.heap.size,cap,bytesRow b cap,_,by rw[hss],hB,heap_alloc_new w.drew _,fun _=>J5 _,by omega,hm,hsz,?_⟩
 unfold bytesRow
 have e1:(b.data.map (fun b=>Value.int .u8 b.toNat)).toList=m.map (Value.int .u8):=by
  rw[<- hsm]
  simp[Lib.strCells]
 rw[Array.toList_append,e1]
 have e2:m.length=(m.map (Value.int .u8)).length:=by simp
 rw[e2]
 exact List.take_left
theorem wpList_bytes {P:Program} {src dst e:TypeId} (hs:P.underlying src=some .string) (hd:P.underlying dst=some (.slice e)) (he:P.underlying e=some (.int .u8)) {w:World} {ops:Array Oper} {rest:List Oper} {o:Oper} {a:Act} {Q:Exit->Act->World->Prop} (hgd:Region.wanted o (yielded ops a.tmps)=true)
  (x:Operand) (ho:o.op=.convert src dst x) (B:Nat) (b:ByteArray) (m:List Int) (hsm:Lib.strCells b=m.map (Value.int .u8)) (hxe:a.eval x=.string b) (hB:B<=w.heap.size) (hm:m.length<=140737488355328)
  (hK:∀v' w',Row w' B e v' m->Below w.heap.size w w'->wpList P ops Q rest (a.put o.dst v') w'):wpList P ops Q (o::rest) a w :=
 Ad1 hgd fun _ hK'=>by
  have hss:b.size=m.length:=by
   have:=congrArg List.length hsm
   rwa [Lib.strCells_length,List.length_map] at this
  have hr:=run_bytes_of_string (P:=P) w src dst e b hs hd he
  unfold Oper.wp execOp
  simp only[ho,hxe,Sem.run_bind,hr,Result.andThen_ok]
  refine hK' _ _ (hK _ _ (row_made w B e b m hsm _ ?_ ?_ hB) ⟨rfl,rfl,rfl,by simp,fun k hk=>Below.heap_alloc _ _ _ (by simpa using hk)⟩)
  ·exact grownCap_ge w b.size 0 e
  ·exact grownCap_le_maxLen w b.size 0 e (by unfold maxLen;omega)
end Go.Proofs.YtecnpoigegiooaaGreatDoor.Kys
namespace Go.Proofs.YtecnpoigegiooaaGreatDoor.Kys
def dgF (n:Int):List Int:=(Go.Lib.decDigits n.toNat).map fun b=>(b.toNat:Int)
theorem dg_small {n:Nat} (h:n<10):dgF (n:Int)=[48+(n:Int)]:=by
 unfold dgF
 rw[Int.toNat_natCast,Go.Lib.decDigits,dif_pos h]
 simp only[List.map_cons,List.map_nil]
 congr 1
 rw[UInt8.toNat_ofNat_of_lt' (by simp[UInt8.size];omega)]
 omega
theorem dg_big {n:Nat} (h:10<=n):dgF (n:Int)=dgF ((n / 10:Nat):Int)++[48+((n % 10:Nat):Int)]:=by
 unfold dgF
 rw[Int.toNat_natCast,Int.toNat_natCast]
 conv=>lhs;rw[Go.Lib.decDigits,dif_neg (by omega)]
 rw[List.map_append]
 congr 1
 simp only[List.map_cons,List.map_nil]
 congr 1
 rw[UInt8.toNat_ofNat_of_lt' (by simp[UInt8.size];omega)]
 omega
def tailF:List Int->List Int
 |[]=>[]
 |n::t=>59::dgF n++tailF t
def numsF:List Int->List Int
 |[]=>[]
 |n::t=>dgF n++tailF t
theorem tail_snoc (l:List Int) (x:Int):tailF (l++[x])=tailF l++(59::dgF x):=by
 induction l with
 |nil=>simp[tailF]
 |cons n t ih=>simp[tailF,ih]
theorem nums_snoc {l:List Int} (h:l≠[]) (x:Int):numsF (l++[x])=numsF l++(59::dgF x):=by
 cases l with
 |nil=>exact absurd rfl h
 |cons n t=>simp[numsF,tail_snoc]
def ctlF (b:List Int) (l:List Int) (f:Int):List Int:=b++numsF l++[f]
structure Ky where
 kd:Int
 r:Int
 n:Int
 md:Int
deriving DecidableEq
structure Ky.Ok (k:Ky):Prop where
 kd:0<=k.kd/\k.kd<=255
 r:-2147483648<=k.r/\k.r<=2147483647
 n:-9223372036854775808<=k.n/\k.n<=9223372036854775807
 md:0<=k.md/\k.md<=255
def mayR (r:Int):Prop:=0<=r/\r<=1114111/\(r<55296\/57343<r)
instance (r:Int):Decidable (mayR r):=by unfold mayR;infer_instance
def Ky.may (k:Ky):Prop :=
 1<=k.kd/\k.kd<=16/\k.md<=7/\(k.kd=1/\mayR k.r/\k.n=0\/k.kd=12/\k.r=0/\1<=k.n/\k.n<=12\/k.kd≠1/\k.kd≠12/\k.r=0/\k.n=0)
instance (k:Ky):Decidable k.may:=by unfold Ky.may;infer_instance
def Cr0 (r:Int):Prop:=r=9\/32<=r/\r<=126\/160<=r/\mayR r
instance (r:Int):Decidable (Cr0 r):=by unfold Cr0;infer_instance
end Go.Proofs.YtecnpoigegiooaaGreatDoor.Kys
namespace Go.Proofs.YtecnpoigegiooaaGreatDoor.Kys
open Go RowKit Go.Sort Com
theorem elemB:Elem Tryz.prog 22 5 .u8 1:=⟨Tryz.underlying22,info_parts (by kernel_rfl)⟩
theorem dg_len {u:Nat} (h:u<18446744073709551616):(dgF (u:Int)).length=Lib.nDigits u/\Lib.nDigits u<=20:=by
 refine⟨by simp[dgF,Lib.decDigits_length],?_⟩
 by_cases h1:1<=u
 ·have:=Lib.numDigits_eq u h1 h
  split at this<;>omega
 ·rw[show u=0 by omega,Lib.nDigits_small (by omega)]
  omega
theorem dg_bytes (u:Nat):Lib.strCells ⟨(Lib.decDigits u).toArray⟩=(dgF (u:Int)).map (Value.int .u8):=by
 simp[Lib.strCells,dgF]
theorem small_any (u:Nat) (h:u<100) (w:World):Calls Tryz.prog 209 #[.int .i64 u] w fun e w'=>e=.returned (.string ⟨(Lib.decDigits u).toArray⟩)/\w'=w :=
 Any.internal_strconv_small { lays with } u h w
theorem Ad5 (u:Nat) (h1:1<=u) (h2:u<18446744073709551616) (w:World) (htab:Lib.TabIs Tryz.prog w "internal/strconv.uint64pow10" .u64 Lib.pow10Tab) :
  Calls Tryz.prog 210 #[.int .u64 u] w fun e w'=>e=.returned (.int .i64 (Lib.nDigits u))/\w'=w :=
 Any.internal_strconv_numDigits { lays with } u h1 h2 w htab
def FmtIs (u:Nat) (w:World) (e:Ending) (w':World):Prop:=e=.returned (.tuple #[])/\Below w.heap.size w w'/\Nums w' (w.heap.size+1) .u8 (some ⟨w.heap.size,0,none⟩) (dgF (u:Int))
theorem fmt_any (u:Nat) (hu64:u<18446744073709551616) (w:World) :
  Calls Tryz.prog 211 #[.slice (some ⟨w.heap.size,0,none⟩) (Lib.nDigits u) 24,.int .u64 u] (w.alloc (.cells Lib.zeros24 248)) (FmtIs u w):=by
 have hn:=(dg_len hu64).2
 have hH0:=Lib.holds_zero0 w 248 (Lib.nDigits u) (by omega)
 have hfmt:=Any.internal_strconv_formatBase10 (P:=Tryz.prog) (ρ:=ren) { lays with } w.heap.size 0 24 u (Array.replicate (Lib.nDigits u) 0) (w.alloc (.cells Lib.zeros24 248)) hH0 (by rw[Array.size_replicate];exact Lib.lt_pow_nDigits u) hu64 (by rw[Array.size_replicate];omega)
 rw[Array.size_replicate] at hfmt
 refine hfmt.mono ?_
 rintro e w' ⟨rfl,k,v',dk,rfl,hF⟩
 obtain⟨os,eo⟩:=Lib.fin_at w (.cells Lib.zeros24 248) dk k 0
 refine⟨rfl,?_,fun i x hx=>⟨_,rfl,by simp,?_⟩⟩
 ·rw[eo]
  exact Lib.below_grow w.heap.size w (J5 _) k os
 ·have hi:i<(Lib.decDigits u).length:=by
   have:=(List.getElem?_eq_some_iff.1 hx).1
   simpa[dgF] using this
  have hxe:x=((Lib.decDigits u)[i].toNat:Int):=by
   have h2:(dgF (u:Int))[i]?=some ((Lib.decDigits u)[i].toNat:Int):=by simp[dgF,hi]
   rw[h2] at hx
   exact(Option.some.inj hx).symm
  rw[hxe,Lib.row_is_numeral hF i hi,Lib.add_plain,World.cell?_drewN]
  exact cell?_putRow (fun (b:UInt8)=>Value.int .u8 (b.toNat:Int)) _ w.heap.size 0 _ dk hH0 (by rw[hF.size,Array.size_replicate]) i (by rw[hF.size];rw[Lib.decDigits_length] at hi;exact hi)
def Put (B:Nat) (l:List Int) (w:World) (e:Ending) (w':World):Prop:=∃v',e=.returned v'/\Row w' B 5 v' l/\Below B w w'
theorem uint_small (B u:Nat) (hu:u<100) (sv:Value) (l:List Int) (w:World) (h:Row w B 5 sv l) (hB:B<=w.heap.size) (hn:l.length+20<=140737488355328) :
  Calls Tryz.prog 146 #[sv,.int .u64 u,.int .i64 10] w (Put B (l++dgF (u:Int)) w):=by
 have hlen:=dg_len (u:=u) (by omega)
 go_enter Tryz.func146,Tryz.ntmps146
 go_wp2_with (first
  |(go_at_call 209;(with_reducible refine(small_any u hu _).mono ?_);rintro e w' ⟨rfl,rfl⟩)
  |(at_builtin;refine wpList_appS elemB Tryz.underlying9 rfl _ _ rfl B sv l (dgF (u:Int)) _ (dg_bytes u) rfl rfl h hB (by omega) ?_;intro v' w1 h1 ho1))
 go_ret
 exact⟨v',rfl,h1,Ay0 (Below.refl _ _) h hB ho1⟩
theorem uint_big (B u:Nat) (hu:100<=u) (hu64:u<18446744073709551616) (sv:Value) (l:List Int) (w:World) (h:Row w B 5 sv l) (hB:B<=w.heap.size) (hn:l.length+20<=140737488355328)
  (htab:Lib.TabIs Tryz.prog w "internal/strconv.uint64pow10" .u64 Lib.pow10Tab) :
  Calls Tryz.prog 146 #[sv,.int .u64 u,.int .i64 10] w (Put B (l++dgF (u:Int)) w):=by
 have hlen:=dg_len (u:=u) (by omega)
 have hd20:=hlen.2
 have hal:Tryz.prog.arrayLen 248=24:=by kernel_rfl
 have hsl:∀W,(Instr.sliceAt 248 (.pointer (some ⟨w.heap.size,0,none⟩)) none (some (.int .i64 (Lib.nDigits u:Int))) none).run Tryz.prog W=.ok (.slice (some ⟨w.heap.size,0,none⟩) (Lib.nDigits u) 24) W:=fun W=>by
  rw[run_sliceAt_array_h W 248 ⟨w.heap.size,0,none⟩ (by simp[Program.arrayLen,Program.elem,Tryz.underlying248]) .i64 (Lib.nDigits u:Int) (by omega) (by rw[hal];omega)]
  go_simp
 have hcount:=fun w'=>Ad5 u (by omega) hu64 w'
 have iu:(100:Int)<=(u:Int):=by omega
 have hfmt:=J0 (fmt_any u hu64 w)
 have ht:=J0 (Lib.tabIs_alloc htab (.cells Lib.zeros24 248))
 have hlen':=J0 hlen
 clear hal hlen htab
 go_enter Tryz.func146,Tryz.ntmps146
 go_wp2_with (first
  |(go_at_call 210;refine(hcount _ ht.out).mono ?_;rintro e w' ⟨rfl,rfl⟩)
  |(go_at_call 211;refine hfmt.out.mono ?_;rintro e w1 ⟨rfl,hb1,hn1⟩;have h1:=h.below hb1;have hb2:=J0 hb1;have hs1:=hb1.size;clear hb1)
  |(at_builtin;refine Au7 elemB rfl _ _ rfl B sv l (dgF (u:Int)) _ _ 24 rfl (by rw[hlen'.out.1];rfl) h1 hn1 (by omega) (by have:=hlen'.out.1;omega) ?_;intro v' w2 h2 ho2))
 go_ret
 exact⟨v',rfl,h2,Ay0 (hb2.out.mono hB) h1 (by omega) ho2⟩
theorem uint_any (B u:Nat) (hu64:u<18446744073709551616) (sv:Value) (l:List Int) (w:World) (h:Row w B 5 sv l) (hB:B<=w.heap.size) (hn:l.length+20<=140737488355328)
  (htab:Lib.TabIs Tryz.prog w "internal/strconv.uint64pow10" .u64 Lib.pow10Tab) :
  Calls Tryz.prog 146 #[sv,.int .u64 u,.int .i64 10] w (Put B (l++dgF (u:Int)) w):=by
 by_cases hu:u<100
 ·exact uint_small B u hu sv l w h hB hn
 ·exact uint_big B u (by omega) hu64 sv l w h hB hn htab
theorem inner_any (B u:Nat) (hu:u<=9223372036854775807) (sv:Value) (l:List Int) (w:World) (h:Row w B 5 sv l) (hB:B<=w.heap.size) (hn:l.length+20<=140737488355328)
  (htab:Lib.TabIs Tryz.prog w "internal/strconv.uint64pow10" .u64 Lib.pow10Tab) :
  Calls Tryz.prog 96 #[sv,.int .i64 u,.int .i64 10] w (Put B (l++dgF (u:Int)) w):=by
 have hc:=J0 (uint_any B u (by omega) sv l w h hB hn htab)
 clear htab
 go_enter Tryz.func96,Tryz.ntmps96
 go_wp2_with ((go_at_call 146;(with_reducible refine(hc.out).mono ?_);rintro e w1 ⟨v1,rfl,h1,hb1⟩))
 go_ret
 exact⟨v1,rfl,h1,hb1⟩
theorem Av1 (B u:Nat) (hu:u<=9223372036854775807) (sv:Value) (l:List Int) (w:World) (h:Row w B 5 sv l) (hB:B<=w.heap.size) (hn:l.length+20<=140737488355328)
  (htab:Lib.TabIs Tryz.prog w "internal/strconv.uint64pow10" .u64 Lib.pow10Tab) :
  Calls Tryz.prog 66 #[sv,.int .i64 u,.int .i64 10] w (Put B (l++dgF (u:Int)) w):=by
 have hc:=J0 (inner_any B u hu sv l w h hB hn htab)
 clear htab
 go_enter Tryz.func66,Tryz.ntmps66
 go_wp2_with ((go_at_call 96;(with_reducible refine(hc.out).mono ?_);rintro e w1 ⟨v1,rfl,h1,hb1⟩))
 go_ret
 exact⟨v1,rfl,h1,hb1⟩
end Go.Proofs.YtecnpoigegiooaaGreatDoor.Kys
namespace Go.Proofs.YtecnpoigegiooaaGreatDoor.Kys
open Go RowKit Com
def Tab (w:World):Prop:=Lib.TabIs Tryz.prog w "internal/strconv.uint64pow10" .u64 Lib.pow10Tab
theorem Tab.is {w:World} (h:Tab w):Lib.TabIs Tryz.prog w "internal/strconv.uint64pow10" .u64 Lib.pow10Tab:=h
theorem Tab.below {w w':World} (h:Tab w) (hb:Below w.heap.size w w'):Tab w':=Lib.tabBelow_of_tabIs h.is w' hb
theorem Tab.alloc {w:World} (h:Tab w) (o:Obj):Tab (w.alloc o):=h.below (Aa1 w o)
def Cf3 (xs:List Int):Prop:=∀x∈xs,0<=x/\x<=9223372036854775807
theorem Ct5 {x:Int} (h:0<=x/\x<=9223372036854775807):(dgF x).length<=20:=by
 obtain⟨u,rfl⟩:∃u:Nat,x=u:=⟨x.toNat,by omega⟩
 have:=dg_len (u:=u) (by omega)
 omega
theorem Cn7:∀ {xs:List Int},Cf3 xs->(tailF xs).length<=21*xs.length
 |[],_=>by simp[tailF]
 |x::t,h=>by
  have h1:=Ct5 (h x (by simp))
  have h2:=Cn7 (xs:=t) fun y hy=>h y (by simp[hy])
  simp[tailF]
  omega
theorem nums_le {xs:List Int} (h:Cf3 xs):(numsF xs).length<=21*xs.length:=by
 rcases xs with _|⟨x,t⟩
 ·simp[numsF]
 ·have h1:=Ct5 (h x (by simp))
  have h2:=Cn7 (xs:=t) fun y hy=>h y (by simp[hy])
  simp[numsF]
  omega
theorem nums_at0 {xs:List Int} (h:0<xs.length) (bs:List Int):bs++numsF (xs.take (0+1))=bs++numsF (xs.take 0)++dgF xs[0]:=by
 rw[List.take_succ_eq_append_getElem h]
 simp[numsF,tailF]
theorem nums_at {xs:List Int} {k:Nat} (hk:0<k) (h:k<xs.length) (bs:List Int):bs++numsF (xs.take (k+1))=bs++numsF (xs.take k)++[59]++dgF xs[k]:=by
 rw[List.take_succ_eq_append_getElem h,nums_snoc (by intro e;have:=congrArg List.length e;rw[List.length_take,List.length_nil] at this;omega)]
 simp
structure Ct0 (w:World) (bs xs:List Int) (k:Nat) (v:Value) (wr:World):Prop where
 row:Row wr w.heap.size 5 v (bs++numsF (xs.take k))
 below:Below w.heap.size w wr
theorem An5 (b:ByteArray) (bs:List Int) (hb:Lib.strCells b=bs.map (Value.int .u8)) (hbl:bs.length<=1000) (f:Int) (xs:List Int) (hx:Cf3 xs) (hxl:xs.length<=1000) (ao:Option Addr) (c:Nat) (w:World) (hn:Nums w w.heap.size .i64 ao xs) (hT:Tab w) :
  Calls Tryz.prog 50 #[.string b,.int .u8 f,.slice ao xs.length c] w (Put w.heap.size (ctlF bs xs f) w):=by
 have hlen:=fun k=>nums_le (xs:=xs.take k) fun y hy=>hx y (List.mem_of_mem_take hy)
 have hlen':∀k,(bs++numsF (xs.take k)).length<=22000:=fun k=>by
  have h1:=hlen k
  have h2:(xs.take k).length<=xs.length:=by rw[List.length_take];omega
  rw[List.length_append]
  omega
 replace hlen':=J0 hlen'
 clear hlen
 go_enter Tryz.func50,Tryz.ntmps50
 go_wp2_with ((with_reducible show wpList _ _ _ (⟨some 11,.convert _ _ _,_,_,_,_⟩::_) _ _;go_must (refine wpList_bytes Tryz.underlying9 Tryz.underlying22 Tryz.underlying5 rfl (.tmp 10) rfl w.heap.size b bs hb rfl (J5 _) (by omega) ?_);intro v0 w0 h0 hb0))
 have hst:Hid (Ct0 w bs xs 0 v0 w0):=⟨by simpa[numsF] using h0,hb0⟩
 clear h0 hb0 hb
 go_loopw [7,14] (fun v i wr=>∃k:Nat,i=.int .i64 k/\k<=xs.length/\Hid (Ct0 w bs xs k v wr)) (fun _ i _=>xs.length - (intOf i).toNat)
 case atStart=>exact⟨0,rfl,by omega,hst⟩
 case round =>
  obtain⟨k,rfl,hk,hat⟩:=hrel
  have hsz:=hat.out.below.size
  by_cases hlt:k<xs.length
  ·obtain⟨ad,rfl,_,hcell⟩:=(hn.below hat.out.below (J5 _)).at hlt
   obtain⟨u,hu⟩:∃u:Nat,xs[k]=(u:Int):=⟨xs[k].toNat,by have:=hx _ (List.getElem_mem hlt);omega⟩
   have hul:u<=9223372036854775807:=by have:=hx _ (List.getElem_mem hlt);omega
   have htr:=J0 (hT.below hat.out.below)
   have hL:=J0 (hlen'.out k)
   by_cases h0:k=0
   ·subst h0
    have hnext:=J0 (nums_at0 hlt bs)
    rw[hu] at hnext hcell
    have hcell0:wr.cell? ad=some (.int .i64 u):=by simpa[Addr.add] using hcell
    clear hu hx hn hT hcell
    go_wp2_with ((go_at_call 66;refine(Av1 w.heap.size u hul _ _ _ hat.out.row hsz (by have:=hL.out;omega) htr.out.is).mono ?_;rintro e w1 ⟨v1,rfl,h1,hb1⟩;replace h1:=J0 h1;replace hb1:=J0 hb1))
    go_roundw
    case rel=>exact⟨0+1,by go_num,by omega,⟨by rw[hnext.out];exact h1.out,hat.out.below.trans hb1.out⟩⟩
    case measure=>simp[intOf];omega
   ·have hnext:=J0 (nums_at (by omega) hlt bs)
    rw[hu] at hnext hcell
    have hrow:=hat.out.row
    have hbel:=J0 hat.out.below
    have hT':=J0 hT
    obtain⟨acc,hacc⟩:∃acc,acc=bs++numsF (xs.take k):=⟨_,rfl⟩
    rw[<- hacc] at hrow hnext hL
    clear hu hx hn hT hat hacc htr
    go_wp2_with (first
     |(at_builtin;refine Au7 elemB rfl (.tmp 21) (.tmp 22) rfl w.heap.size _ acc [59] _ _ 1 rfl rfl (hrow.alloc _) (Nums.one wr _ .u8 59) (by simp;omega) (by have:=hL.out;simp;omega) ?_;intro v2 w2 h2 ho2;have hb2:=J0 (Ay0 (hbel.out.trans ((Below.refl _ _).alloc hsz _)) (hrow.alloc _) (by simp;omega) ho2);have hs2:=hb2.out.size;replace h2:=J0 h2;clear ho2)
     |(go_at_call 66;refine(Av1 w.heap.size u hul _ _ _ h2.out hs2 (by have:=hL.out;simp;omega) (hT'.out.below hb2.out).is).mono ?_;rintro e w1 ⟨v1,rfl,h1,hb1⟩;replace h1:=J0 h1;replace hb1:=J0 hb1))
    go_roundw
    case rel=>exact⟨k+1,by go_num,by omega,⟨by rw[hnext.out];exact h1.out,hb2.out.trans hb1.out⟩⟩
    case measure=>simp[intOf];omega
  ·have hkl:xs.take k=xs:=List.take_of_length_le (by omega)
   have hrow:=hat.out.row
   have hbel:=J0 hat.out.below
   have hL:=hlen'.out k
   rw[hkl] at hrow hL
   replace hL:=J0 hL
   have hE:Hid (ctlF bs xs f=bs++numsF xs++[f]):=rfl
   obtain⟨acc,hacc⟩:∃acc,acc=bs++numsF xs:=⟨_,rfl⟩
   rw[<- hacc] at hrow hL hE
   clear hkl hat hn hT hacc
   go_wp2_with (first
     |(at_builtin;refine Au7 elemB rfl (.tmp 28) (.tmp 30) rfl w.heap.size _ acc [f] _ _ 1 rfl rfl (hrow.alloc _) (Nums.one wr _ .u8 f) (by simp;omega) (by have:=hL.out;simp;omega) ?_;intro v2 w2 h2 ho2;have hb2:=J0 (Ay0 (hbel.out.trans ((Below.refl _ _).alloc hsz _)) (hrow.alloc _) (by simp;omega) ho2);replace h2:=J0 h2;clear ho2))
   go_ret
   exact⟨v2,rfl,by rw[hE.out];exact h2.out,hb2.out⟩
