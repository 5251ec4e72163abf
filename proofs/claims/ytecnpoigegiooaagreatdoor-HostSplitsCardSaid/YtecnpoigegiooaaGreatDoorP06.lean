/- Part 6 of HostSplits. -/
import Derived.Test.YtecnpoigegiooaaGreatDoorP05
set_option maxHeartbeats 16000000
set_option maxRecDepth 100000
namespace Go.Proofs.YtecnpoigegiooaaGreatDoor.Rw
open Go RowKit Com
def fl {α:Type} (f:α->List Value) (l:List α):List Value:=(l.map f).flatten
section
variable {α:Type}{f:α->List Value}{s:Nat}
theorem fl_one (a:α):fl f [a]=f a:=by simp[fl]
theorem fl_app (l m:List α):fl f (l++m)=fl f l++fl f m:=by simp[fl]
theorem Ab8 (hs:∀a,(f a).length=s) (l:List α):(fl f l).length=l.length*s:=by
 unfold fl
 induction l with
 |nil=>simp
 |cons a l ih=>simp only[List.map_cons,List.flatten_cons,List.length_append,ih,hs,List.length_cons,Nat.add_mul];omega
theorem Bn6 (hs:∀a,(f a).length=s) (l:List α) (k:Nat) (hk:k<=l.length):(fl f l).take (k*s)=fl f (l.take k):=by
 have e:fl f l=fl f (l.take k)++fl f (l.drop k):=by rw[<- fl_app,List.take_append_drop]
 have hl:(fl f (l.take k)).length=k*s:=by rw[Ab8 hs,List.length_take,Nat.min_eq_left hk]
 rw[e,<- hl,List.take_left]
theorem Bn5 (hs:∀a,(f a).length=s) (l:List α) (k:Nat) (hk:k<=l.length):(fl f l).drop (k*s)=fl f (l.drop k):=by
 have e:fl f l=fl f (l.take k)++fl f (l.drop k):=by rw[<- fl_app,List.take_append_drop]
 have hl:(fl f (l.take k)).length=k*s:=by rw[Ab8 hs,List.length_take,Nat.min_eq_left hk]
 rw[e,<- hl,List.drop_left]
theorem Bn4 (hs:∀a,(f a).length=s) {l:List α} {i j:Nat} (hi:i<l.length) (hj:j<s):(fl f l)[i*s+j]?=(f l[i])[j]?:=by
 have e:fl f l=fl f (l.take i)++(f l[i]++fl f (l.drop (i+1))):=by
  rw[<- fl_one (f:=f) l[i],<- fl_app,<- fl_app,List.singleton_append,<- List.drop_eq_getElem_cons hi,List.take_append_drop]
 have hl:(fl f (l.take i)).length=i*s:=by rw[Ab8 hs,List.length_take,Nat.min_eq_left (by omega)]
 rw[e,List.getElem?_append_right (by omega),hl,Nat.add_sub_cancel_left,List.getElem?_append_left (by rw[hs];exact hj)]
theorem Ai8 (hs:∀a,(f a).length=s) (l cs:List α) (tail:List Value) (k:Nat) (hk:k+cs.length<=l.length):splice (fl f l++tail) (k*s) (fl f cs)=fl f (splice l k cs)++tail:=by
 have h1:=Bn6 hs l k (by omega)
 have h2:=Bn5 hs l (k+cs.length) hk
 have hl:=Ab8 hs l
 have hle:(k+cs.length)*s<=l.length*s:=Nat.mul_le_mul_right s hk
 have hke:k*s<=l.length*s:=Nat.mul_le_mul_right s (by omega)
 unfold splice
 rw[Ab8 hs cs,<- Nat.add_mul,List.take_append_of_le_length (by omega),List.drop_append_of_le_length (by omega),h1,h2,fl_app,fl_app]
 simp only[List.append_assoc]
end
theorem An3 {α:Type} (l:List α) (i:Nat) (a:α) (h:i<l.length):splice l i [a]=l.set i a:=by
 unfold splice
 rw[List.set_eq_take_append_cons_drop,if_pos h]
 rfl
def pad4 (m:List Int):List Int:=(m++[0,0,0,0]).take 4
def attV (a:At):List Value:=[.int .u32 a.f,.int .u32 a.b,.int .u16 a.g]
def cellC (c:Cel):List Value:=.int .i32 c.r::((pad4 c.m).map (Value.int .i32)++(.int .u8 c.m.length::.int .u8 c.wide::attV c.a))
theorem pad4_length (m:List Int):(pad4 m).length=4:=by simp[pad4]
theorem cellC_length (c:Cel):(cellC c).length=10:=by simp[cellC,pad4_length,attV]
theorem Av4 (c:Cel) (j:Nat):(cellC c)[5+j]?=(Value.int .u8 c.m.length::.int .u8 c.wide::attV c.a)[j]?:=by
 unfold cellC
 rw[show 5+j=(4+j)+1 by omega,List.getElem?_cons_succ,List.getElem?_append_right (by simp[pad4_length]),List.length_map,pad4_length]
 congr 1
 omega
theorem Ak6 (c:Cel):∀v∈cellC c,v.oneCell'=true:=by
 intro v hv
 simp only[cellC,attV,List.mem_cons,List.mem_append,List.mem_map,List.not_mem_nil,or_false] at hv
 rcases hv with rfl|⟨x,_,rfl⟩|rfl|rfl|rfl|rfl|rfl<;>rfl
theorem Be8 {α:Type} {f:α->List Value} (h:∀a,∀v∈f a,v.oneCell'=true) (l:List α):∀v∈fl f l,v.oneCell'=true:=by
 intro v hv
 simp only[fl,List.mem_flatten,List.mem_map] at hv
 obtain⟨_,⟨a,_,rfl⟩,hv⟩:=hv
 exact h a v hv
structure RowX (w:World) (d g n cap:Nat) (tail:List Value) (l:List Cel):Prop where
 ptr:Block w d 191 #[.slice (some ⟨g,0,none⟩) n cap]
 row:Block w g 194 (fl cellC l++tail).toArray
 len:l.length=n
 le:n<=cap
 cap:cap<=maxLen
 pos:0<n
 small:n<=512
section
variable {w w':World}{d g n cap:Nat}{tail:List Value}{l:List Cel}
theorem RowX.slice (h:RowX w d g n cap tail l):w.cell? ⟨d,0,none⟩=some (.slice (some ⟨g,0,none⟩) n cap):=h.ptr.cell 0 rfl
theorem RowX.at' (h:RowX w d g n cap tail l) {i j:Nat} (hi:i<l.length) (hj:j<10) {v:Value} (hv:(cellC l[i])[j]?=some v):w.cell? ⟨g,i*10+j,none⟩=some v:=by
 refine h.row.cell _ ?_
 have e:=Bn4 cellC_length hi hj
 have hlt:i*10+j<(fl cellC l).length:=by
  rw[Ab8 cellC_length]
  have:(i+1)*10<=l.length*10:=Nat.mul_le_mul_right _ hi
  omega
 simp only[List.getElem?_toArray]
 rw[List.getElem?_append_left hlt,e,hv]
theorem RowX.wide (h:RowX w d g n cap tail l) {i:Nat} (hi:i<l.length):w.cell? ⟨g,i*10+6,none⟩=some (.int .u8 l[i].wide):=h.at' hi (by omega) (Av4 _ 1)
theorem RowX.count (h:RowX w d g n cap tail l) {i:Nat} (hi:i<l.length):w.cell? ⟨g,i*10+5,none⟩=some (.int .u8 l[i].m.length):=h.at' hi (by omega) (Av4 _ 0)
theorem RowX.fg (h:RowX w d g n cap tail l) {i:Nat} (hi:i<l.length):w.cell? ⟨g,i*10+7,none⟩=some (.int .u32 l[i].a.f):=h.at' hi (by omega) (Av4 _ 2)
theorem RowX.bg (h:RowX w d g n cap tail l) {i:Nat} (hi:i<l.length):w.cell? ⟨g,i*10+8,none⟩=some (.int .u32 l[i].a.b):=h.at' hi (by omega) (Av4 _ 3)
theorem RowX.gg (h:RowX w d g n cap tail l) {i:Nat} (hi:i<l.length):w.cell? ⟨g,i*10+9,none⟩=some (.int .u16 l[i].a.g):=h.at' hi (by omega) (Av4 _ 4)
theorem RowX.ne (h:RowX w d g n cap tail l):d≠g:=Block.apart h.ptr h.row (by decide)
theorem RowX.kept {L:List Nat} (h:RowX w d g n cap tail l) (ho:Only L w w') (hd:d∉L) (hg:g∉L):RowX w' d g n cap tail l:=⟨h.ptr.only ho hd,h.row.only ho hg,h.len,h.le,h.cap,h.pos,h.small⟩
theorem RowX.below (h:RowX w d g n cap tail l) (hb:Below w.heap.size w w'):RowX w' d g n cap tail l:=h.kept (Only.of_below hb []) (by simp) (by simp)
theorem RowX.drawn (h:RowX w d g n cap tail l):RowX w.drew d g n cap tail l:=h.kept (Only.drewN [] w 1) (by simp) (by simp)
theorem RowX.turned {l':List Cel} (h:RowX w d g n cap tail l) (ho:Only [g] w w') (hr:Block w' g 194 (fl cellC l'++tail).toArray) (hl:l'.length=l.length):RowX w' d g n cap tail l' :=
 ⟨h.ptr.only ho (by simpa using h.ne),hr,hl.trans h.len,h.le,h.cap,h.pos,h.small⟩
end
def Typ (w:World) (k:Nat) (t:TypeId):Prop:=∃cs fz,w.heap[k]?=some (.cells cs t fz)
theorem Block.typ {w:World} {g:Nat} {t:TypeId} {cs:Array Value} (h:Block w g t cs):Typ w g t:=⟨cs,_,h⟩
theorem Typ.inj {w:World} {k:Nat} {t t':TypeId} (h:Typ w k t) (h':Typ w k t'):t=t':=by
 obtain⟨cs,fz,h⟩:=h
 obtain⟨cs',fz',h'⟩:=h'
 rw[h] at h'
 simp only[Option.some.injEq,Obj.cells.injEq] at h'
 exact h'.2.1
structure Fr (B:Nat) (ts:List TypeId) (w w':World):Prop where
 os:w'.os=w.os
 tape:w'.tape=w.tape
 output:w'.output=w.output
 size:w.heap.size<=w'.heap.size
 block:∀k,k<w.heap.size->(k<B\/∀t∈ts,¬Typ w k t)->w'.heap[k]?=w.heap[k]?
theorem Fr.of_below {B:Nat} {ts:List TypeId} {a b:World} (h:Below a.heap.size a b):Fr B ts a b:=⟨h.os,h.tape,h.output,h.size,fun k hk _=>h.block k hk⟩
theorem Fr.of_only {B:Nat} {ts:List TypeId} {L:List Nat} {a b:World} (h:Only L a b) (hL:∀k∈L,k<a.heap.size->B<=k/\∃t∈ts,Typ a k t):Fr B ts a b :=
 ⟨h.os,h.tape,h.output,h.size,fun k hk hn=>h.block k hk fun hm=>by
  obtain⟨h1,t,ht,hT⟩:=hL k hm hk
  rcases hn with hn|hn
  ·omega
  ·exact hn t ht hT⟩
theorem Block.fr {B:Nat} {ts:List TypeId} {a b:World} {g:Nat} {t:TypeId} {cs:Array Value} (h:Block a g t cs) (hf:Fr B ts a b) (ht:t∉ts\/g<B):Block b g t cs :=
 (hf.block g h.lt (ht.symm.imp id fun ht t' ht' hT=>ht (by rw[Typ.inj (Block.typ h) hT];exact ht'))).trans h
section
variable {P:Program}
theorem run_copyN (w:World) (dT sT ty elem:TypeId) (s g off dLen dCap sLen sCap:Nat) (ad:Addr) (cur:List Value) (t:TypeId) (cs:List Value) (hu:P.underlying dT=some (.slice elem)) (hs:(P.info? elem).map (·.size)=some s)
  (hg:Block w g t cur.toArray) (hn:cs.length=Nat.min sLen dLen*s) (hsrc:∀j v,cs[j]?=some v->w.cell? (ad.add j)=some v) (hfit:off+cs.length<=cur.length) (h1:∀v∈cs,v.oneCell'=true) :
  (Builtin.copy_ #[dT,sT] ty #[.slice (some ⟨g,off,none⟩) dLen dCap,.slice (some ad) sLen sCap]).run P w=.ok (goInt (Nat.min sLen dLen)) (w.setRow g (splice cur off cs).toArray):=by
 have hl:=run_loadCells_list (P:=P) w ad cs hsrc
 have hst:=run_storeCells_at P g off t cs 0 cur.toArray w hg (by simpa using hfit) h1
 cases hq:P.info? elem with
 |none=>simp[hq] at hs
 |some i =>
  have hi:i.size=s:=by simpa[hq] using hs
  simp only[Nat.add_zero] at hst
  simp[Builtin.copy_,run_underlying hu,Builtin.lenOf,Builtin.firstCells,sizeOf,typeInfo,hq,hi,<- hn,hl,hst,splice]
theorem Bv2 (w:World) (dT sT ty elem:TypeId) (dp sp:Option Addr) (dLen dCap sLen sCap:Nat) (hu:P.underlying dT=some (.slice elem)) (hs:∃s,(P.info? elem).map (·.size)=some s) (hn:Nat.min sLen dLen=0) :
  (Builtin.copy_ #[dT,sT] ty #[.slice dp dLen dCap,.slice sp sLen sCap]).run P w=.ok (goInt 0) w:=by
 obtain⟨s,hs⟩:=hs
 cases hq:P.info? elem with
 |none=>simp[hq] at hs
 |some i =>
  have hl:∀ad,(loadCells ad 0).run P w=.ok #[] w:=fun ad=>run_loadCells_list (P:=P) w ad [] (fun j v hj=>by simp at hj)
  rcases sp with _|sp<;>rcases dp with _|dp<;>simp[Builtin.copy_,run_underlying hu,Builtin.lenOf,Builtin.firstCells,sizeOf,typeInfo,hq,hn,hl,storeCells]
theorem Cd6 {o:Oper} {a:Act} {w:World} {K:Act->World->Prop} {Q:Exit->Act->World->Prop} (d x:Operand) (dT sT:TypeId)
  (ho:o.op=.call { callee:=.builtin .copy,args:=#[d,x],argTypes:=#[dT,sT] }) (elem:TypeId) (s:Nat) (hu:P.underlying dT=some (.slice elem)) (hs:(P.info? elem).map (·.size)=some s)
  (dp sp:Option Addr) (dLen dCap sLen sCap:Nat) (hd:a.eval d=.slice dp dLen dCap) (hx:a.eval x=.slice sp sLen sCap)
  (g off:Nat) (cur:List Value) (t:TypeId) (hg:Block w g t cur.toArray) (cs:List Value) (hn:cs.length=min sLen dLen*s)
  (hpos:0<sLen->0<dLen->dp=some ⟨g,off,none⟩/\∃ad,sp=some ad/\∀j v,cs[j]?=some v->w.cell? (ad.add j)=some v)
  (hfit:off+cs.length<=cur.length) (h1:∀v∈cs,v.oneCell'=true)
  (h:∀w',Hid (Block w' g t (splice cur off cs).toArray)->Only [g] w w'->K (a.put o.dst (goInt (min sLen dLen:Nat))) w'):o.wp P a w K Q:=by
 unfold Oper.wp
 change cs.length=Nat.min sLen dLen*s at hn
 change ∀w',Hid (Block w' g t (splice cur off cs).toArray)->Only [g] w w'->K (a.put o.dst (goInt (Nat.min sLen dLen))) w' at h
 by_cases h0:Nat.min sLen dLen=0
 ·have hrun:=Bv2 (P:=P) w dT sT o.type elem dp sp dLen dCap sLen sCap hu ⟨s,hs⟩ h0
  simp[execOp,ho,resolve,invoke,builtin,hd,hx,hrun,Result.andThen]
  rw[h0] at hn h
  obtain rfl:cs=[]:=List.eq_nil_of_length_eq_zero (by simpa using hn)
  exact h w (J0 (by simpa[splice] using hg)) (Only.refl _ _)
 ·obtain⟨rfl,ad,rfl,hsrc⟩:=hpos (Nat.pos_of_ne_zero fun e=>h0 (by rw[e];exact Nat.zero_min _)) (Nat.pos_of_ne_zero fun e=>h0 (by rw[e];exact Nat.min_zero _))
  have hrun:=run_copyN (P:=P) w dT sT o.type elem s g off dLen dCap sLen sCap ad cur t cs hu hs hg hn hsrc hfit h1
  simp only[execOp,ho,resolve,invoke,builtin,List.map_toArray,List.map_cons,List.map_nil,hd,hx,Sem.run_bind,hrun,Result.andThen_ok,Sem.run_pure]
  exact h _ (setRow_heap w g _ _ t _ hg) (Ac7 w g _)
theorem wpList_copyN {o:Oper} {ops:Array Oper} {rest:List Oper} {a:Act} {w:World} {Q:Exit->Act->World->Prop} (hgd:o.guard=none) (d x:Operand) (dT sT:TypeId)
  (ho:o.op=.call { callee:=.builtin .copy,args:=#[d,x],argTypes:=#[dT,sT] }) (elem:TypeId) (s:Nat) (hu:P.underlying dT=some (.slice elem)) (hs:(P.info? elem).map (·.size)=some s)
  (dp sp:Option Addr) (dLen dCap sLen sCap:Nat) (hd:a.eval d=.slice dp dLen dCap) (hx:a.eval x=.slice sp sLen sCap)
  (g off:Nat) (cur:List Value) (t:TypeId) (hg:Block w g t cur.toArray) (cs:List Value) (hn:cs.length=min sLen dLen*s)
  (hpos:0<sLen->0<dLen->dp=some ⟨g,off,none⟩/\∃ad,sp=some ad/\∀j v,cs[j]?=some v->w.cell? (ad.add j)=some v)
  (hfit:off+cs.length<=cur.length) (h1:∀v∈cs,v.oneCell'=true)
  (h:∀w',Hid (Block w' g t (splice cur off cs).toArray)->Only [g] w w'->wpList P ops Q rest (a.put o.dst (goInt (min sLen dLen:Nat))) w'):wpList P ops Q (o::rest) a w :=
 wpList_plain hgd fun _ hK=>Cd6 d x dT sT ho elem s hu hs dp sp dLen dCap sLen sCap hd hx g off cur t hg cs hn hpos hfit h1 fun w' h2 h3=>hK _ _ (h w' h2 h3)
theorem Ar9 {ops:Array Oper} {o:Oper} {a:Act} {w:World} {K:Act->World->Prop} {Q:Exit->Act->World->Prop} {E:Prop} (hgd:o.guard=none) (d x:Operand) (dT sT:TypeId)
  (ho:o.op=.call { callee:=.builtin .copy,args:=#[d,x],argTypes:=#[dT,sT] }) (elem:TypeId) (s:Nat) (hu:P.underlying dT=some (.slice elem)) (hs:(P.info? elem).map (·.size)=some s)
  (dp sp:Option Addr) (dLen dCap sLen sCap:Nat) (hd:a.eval d=.slice dp dLen dCap) (hx:a.eval x=.slice sp sLen sCap)
  (g off:Nat) (cur:List Value) (t:TypeId) (hg:Block w g t cur.toArray) (cs:List Value) (hn:cs.length=min sLen dLen*s)
  (hpos:0<sLen->0<dLen->dp=some ⟨g,off,none⟩/\∃ad,sp=some ad/\∀j v,cs[j]?=some v->w.cell? (ad.add j)=some v)
  (hfit:off+cs.length<=cur.length) (h1:∀v∈cs,v.oneCell'=true)
  (h:∀w',Hid (Block w' g t (splice cur off cs).toArray)->Only [g] w w'->K (a.put o.dst (goInt (min sLen dLen:Nat))) w') :
  if Region.wanted o (yielded ops a.tmps)=true then Oper.wp P o a w K Q else E:=by
 rw[if_pos (by simp[Region.wanted,hgd])]
 exact Cd6 d x dT sT ho elem s hu hs dp sp dLen dCap sLen sCap hd hx g off cur t hg cs hn hpos hfit h1 h
theorem run_loadVar_at (w:World) (ty:TypeId) (ad:Addr) (cs:List Value) (d:TypeDesc) (hc:∀j v,cs[j]?=some v->w.cell? (ad.add j)=some v)
  (hu:P.underlying ty=some d) (hd:(match d with|.struct _|.array _ _=>true|_=>false)=true) (hi:(P.info? ty).map (·.size)=some cs.length):(loadVar ty ad).run P w=.ok (.agg cs.toArray) w:=by
 have hl:=run_loadCells_list (P:=P) w ad cs hc
 have hagg:(isAgg ty).run P w=.ok true w:=by
  unfold isAgg
  rw[Sem.run_bind,run_underlying hu w]
  cases d<;>simp_all
 cases hq:P.info? ty with
 |none=>simp[hq] at hi
 |some i =>
  have hs:i.size=cs.length:=by simpa[hq] using hi
  simp[loadVar,Sem.run_bind,hagg,sizeOf,typeInfo,hq,hs,hl]
theorem wpList_loadAt {o:Oper} {ops:Array Oper} {rest:List Oper} {a:Act} {w:World} {Q:Exit->Act->World->Prop} (hw:Region.wanted o (yielded ops a.tmps)=true) (ty:TypeId) (x:Operand) (ho:o.op=.load ty x) (ad:Addr) (hx:a.eval x=.pointer (some ad))
  (cs:List Value) (d:TypeDesc) (hc:∀j v,cs[j]?=some v->w.cell? (ad.add j)=some v) (hu:P.underlying ty=some d) (hd:(match d with|.struct _|.array _ _=>true|_=>false)=true) (hi:(P.info? ty).map (·.size)=some cs.length)
  (h:wpList P ops Q rest (a.put o.dst (.agg cs.toArray)) w):wpList P ops Q (o::rest) a w :=
 Ad1 hw fun _ hK=>by
  unfold Oper.wp execOp
  simp only[ho,hx,Instr.loadAt,Instr.sureAddr,Sem.run_bind,Sem.run_pure,Result.andThen_ok,run_loadVar_at w ty ad cs d hc hu hd hi]
  exact hK _ _ h
theorem wp_storeN {o:Oper} {a:Act} {w:World} {K:Act->World->Prop} {Q:Exit->Act->World->Prop} (ty:TypeId) (x y:Operand) (ho:o.op=.store ty x y)
  {g i:Nat} {t:TypeId} {cur:List Value} (hb:Block w g t cur.toArray) (vs:List Value) (hx:a.eval x=.pointer (some ⟨g,i,none⟩)) (hy:a.eval y=.agg vs.toArray) (hi:i+vs.length<=cur.length) (hinfo:(P.info? ty).map (·.size)=some vs.length) (h1:∀v∈vs,v.oneCell'=true)
  (h:∀w',Hid (Block w' g t (splice cur i vs).toArray)->Only [g] w w'->K (a.put o.dst undef) w'):o.wp P a w K Q:=by
 have hrun:=run_storeCells_at P g i t vs 0 cur.toArray w hb (by simpa using hi) h1
 cases hq:P.info? ty with
 |none=>simp[hq] at hinfo
 |some j =>
  have hs:j.size=vs.length:=by simpa[hq] using hinfo
  have hc:(Value.agg vs.toArray).cells=vs.toArray:=rfl
  simp only[Nat.add_zero] at hrun
  unfold Oper.wp execOp
  simp[ho,hx,hy,Instr.storeAt,Instr.sureAddr,Sem.run_bind,Sem.run_pure,storeVar,sizeOf,typeInfo,hq,hc,hs,hrun]
  exact h _ (J0 (by simpa[splice,Block] using setRow_heap w g _ _ t _ hb)) (Ac7 w g _)
theorem Af7 {o:Oper} {ops:Array Oper} {rest:List Oper} {a:Act} {w:World} {Q:Exit->Act->World->Prop} (hgd:o.guard=none) (ty:TypeId) (x y:Operand) (ho:o.op=.store ty x y)
  {g i:Nat} {t:TypeId} {cur:List Value} (hb:Block w g t cur.toArray) (vs:List Value) (hx:a.eval x=.pointer (some ⟨g,i,none⟩)) (hy:a.eval y=.agg vs.toArray) (hi:i+vs.length<=cur.length) (hinfo:(P.info? ty).map (·.size)=some vs.length) (h1:∀v∈vs,v.oneCell'=true)
  (h:∀w',Hid (Block w' g t (splice cur i vs).toArray)->Only [g] w w'->wpList P ops Q rest (a.put o.dst undef) w'):wpList P ops Q (o::rest) a w :=
 wpList_plain hgd fun _ hK=>wp_storeN ty x y ho hb vs hx hy hi hinfo h1 fun w' h2 h3=>hK _ _ (h w' h2 h3)
end
theorem Ag5 {w:World} {d g n cap:Nat} {tail:List Value} {l:List Cel} (h:RowX w d g n cap tail l) :
  Calls Tryz.prog 99 #[.pointer (some ⟨d,0,none⟩)] w fun e w'=>e=.returned (.int .i64 n)/\w=w':=by
 have hc:=h.slice
 clear h
 go_enter Tryz.func99,Tryz.ntmps99
 go_wp2
 go_ret
 exact⟨rfl,rfl⟩
theorem Bf7 {w:World} {d g n cap:Nat} {tail:List Value} {l:List Cel} (h:RowX w d g n cap tail l) (i:Int) (h0:0<=i) (h1:i<n) :
  Calls Tryz.prog 219 #[.pointer (some ⟨d,0,none⟩),.int .i64 i] w fun e w'=>e=.returned (.bool true)/\w=w':=by
 have hl:=J0 (Ag5 h)
 clear h
 go_enter Tryz.func219,Tryz.ntmps219
 go_wp2_with ((go_at_call 99;refine(hl.out).mono ?_;rintro e w' ⟨rfl,rfl⟩))
 go_ret
 exact⟨rfl,rfl⟩
theorem Ca2 {w:World} {d g n cap:Nat} {tail:List Value} {l:List Cel} (h:RowX w d g n cap tail l) (i:Int) (h0:i<0\/(n:Int)<=i) :
  Calls Tryz.prog 219 #[.pointer (some ⟨d,0,none⟩),.int .i64 i] w fun e w'=>e=.returned (.bool false)/\w=w':=by
 have hl:=J0 (Ag5 h)
 clear h
 by_cases h1:i<0
 ·go_enter Tryz.func219,Tryz.ntmps219
  go_wp2_with ((go_at_call 99;refine(hl.out).mono ?_;rintro e w' ⟨rfl,rfl⟩))
  go_ret
  exact⟨rfl,rfl⟩
 ·have h2:decide (i<(n:Int))=false:=decide_eq_false (by omega)
  go_enter Tryz.func219,Tryz.ntmps219
  go_wp2_with ((go_at_call 99;refine(hl.out).mono ?_;rintro e w' ⟨rfl,rfl⟩))
  go_ret
  exact⟨rfl,rfl⟩
theorem mayCount_yes (n:Int) (h0:1<=n) (h1:n<=512) (w:World):Calls Tryz.prog 213 #[.int .i64 n] w fun e w'=>e=.returned (.bool true)/\w=w':=by
 go_enter Tryz.func213,Tryz.ntmps213
 go_wp2
 go_ret
 exact⟨rfl,rfl⟩
def An2 (x:Int):Bool:=decide (32<=x) && decide (x<=1114111) && (decide (x<55296) || decide (57343<x))
theorem Ar4 (x:Int) (w:World):Calls Tryz.prog 220 #[.int .i32 x] w fun e w'=>e=.returned (.bool (An2 x))/\w=w':=by
 obtain⟨b,hb⟩:∃b,b=An2 x:=⟨_,rfl⟩
 rw[<- hb]
 have hb':=J0 hb
 clear hb
 go_enter Tryz.func220,Tryz.ntmps220
 go_wp2
 all_goals
  go_ret
  exact⟨Ab6 (by rw[hb'.out,Bool.eq_iff_iff];simp[An2]<;>omega),rfl⟩
def Ab0 (i:Int) (most:Nat):Nat:=min i.toNat most
theorem Ah3 (i:Int) (most:Nat) (w:World):Calls Tryz.prog 215 #[.int .i64 i,.int .i64 most] w fun e w'=>e=.returned (.int .i64 (Ab0 i most))/\w=w':=by
 obtain⟨b,hb⟩:∃b,b=Ab0 i most:=⟨_,rfl⟩
 rw[<- hb]
 have hb':Hid (b=min i.toNat most):=hb
 clear hb
 go_enter Tryz.func215,Tryz.ntmps215
 go_wp2
 all_goals
  go_ret
  exact⟨Ab7 (by rw[hb'.out];omega),rfl⟩
theorem Br3 (a:At) (w:World):Calls Tryz.prog 263 #[.agg #[.int .u32 a.f,.int .u32 a.b,.int .u16 a.g]] w fun e w'=>e=.returned (.agg (cellC ⟨32,[],0,a⟩).toArray)/\Below w.heap.size w w':=by
 obtain⟨f,b,g⟩:=a
 go_enter Tryz.func263,Tryz.ntmps263
 go_wp2
 exact bodyPost_ret (v:=.agg (cellC ⟨32,[],0,⟨f,b,g⟩⟩).toArray) (by simp[results,Tryz.results263,go_sem,cellC,pad4,attV]) rfl ⟨rfl,(((Below.refl _ _).alloc (J5 _) _).alloc (by simp) _)⟩
theorem Bd7 {w:World} {d g n cap:Nat} {tail:List Value} {l:List Cel} (h:RowX w d g n cap tail l) (i:Nat) (hi:i<n) :
  Calls Tryz.prog 268 #[.pointer (some ⟨d,0,none⟩),.int .i64 i] w fun e w'=>e=.returned (.bool (decide (Alone l i)))/\w=w':=by
 have hle:=h.le
 have hcm:=h.cap
 unfold maxLen at hcm
 have hc:=h.slice
 have hil:i<l.length:=by rw[h.len];exact hi
 have hw:=h.wide hil
 have hW:=W_at hil
 generalize l[i].wide=x at hw hW
 have hW1:i+1<n->∃y,W l (i+1)=y/\w.cell? ⟨g,(i+1)*10+6,none⟩=some (.int .u8 y):=fun h1=>by
  have h2:i+1<l.length:=by rw[h.len];exact h1
  exact⟨_,W_at h2,h.wide h2⟩
 have hW2:n<=i+1->W l (i+1)=0:=fun h1=>Cf8 (by rw[h.len];exact h1)
 have hW0:0<i->∃y,W l (i - 1)=y/\w.cell? ⟨g,(i - 1)*10+6,none⟩=some (.int .u8 y):=fun h1=>by
  have h2:i - 1<l.length:=by omega
  exact⟨_,W_at h2,h.wide h2⟩
 have hyes:=J0 (fun j h0 h1=>Bf7 h j h0 h1)
 have hno:=J0 (fun j h0=>Ca2 h j h0)
 obtain⟨b,hb⟩:∃b,b=decide (Alone l i):=⟨_,rfl⟩
 rw[<- hb]
 replace hb:=J0 hb
 clear h hil
 by_cases h1:x=1
 ·subst h1
  by_cases h2:i+1<n
  ·obtain⟨y,hy,hcy⟩:=hW1 h2
   have hbb:b=(y != 2):=by rw[hb.out,Bool.eq_iff_iff,decide_eq_true_iff];unfold Alone;rw[hW,hy];simp
   replace hbb:=J0 hbb
   clear hW1 hW2 hW0 hb hW hy
   go_enter Tryz.func268,Tryz.ntmps268
   go_wp2_with ((go_at_call 219;refine(hyes.out _ (by omega) (by omega)).mono ?_;rintro e w' ⟨rfl,rfl⟩))
   go_ret
   exact⟨Ab6 hbb.out.symm,rfl⟩
  ·have hy:=hW2 (by omega)
   have hbb:b=true:=hb.out.trans (decide_eq_true (by unfold Alone;rw[hW,hy];simp))
   replace hbb:=J0 hbb
   clear hW1 hW2 hW0 hb hW hy
   go_enter Tryz.func268,Tryz.ntmps268
   go_wp2_with ((go_at_call 219;refine(hno.out _ (Or.inr (by omega))).mono ?_;rintro e w' ⟨rfl,rfl⟩))
   go_ret
   exact⟨Ab6 hbb.out.symm,rfl⟩
 have h1':(x == 1)=false:=by simpa using h1
 by_cases h2:x=2
 ·subst h2
  by_cases h3:0<i
  ·obtain⟨y,hy,hcy⟩:=hW0 h3
   have hbb:b=(y != 1):=by rw[hb.out,Bool.eq_iff_iff,decide_eq_true_iff];unfold Alone;rw[hW,hy];simp;omega
   replace hbb:=J0 hbb
   obtain⟨j,rfl⟩:∃j,i=j+1:=⟨i - 1,by omega⟩
   simp only[Nat.add_sub_cancel] at hcy
   clear hW1 hW2 hW0 hb hW hy
   go_enter Tryz.func268,Tryz.ntmps268
   go_wp2_with ((go_at_call 219;refine(hyes.out _ (by omega) (by omega)).mono ?_;rintro e w' ⟨rfl,rfl⟩))
   go_ret
   exact⟨Ab6 hbb.out.symm,rfl⟩
  ·obtain rfl:i=0:=by omega
   have hbb:b=true:=hb.out.trans (decide_eq_true (by unfold Alone;rw[hW];simp))
   replace hbb:=J0 hbb
   clear hW1 hW2 hW0 hb hW
   go_enter Tryz.func268,Tryz.ntmps268
   go_wp2_with ((go_at_call 219;refine(hno.out _ (Or.inl (by omega))).mono ?_;rintro e w' ⟨rfl,rfl⟩))
   go_ret
   exact⟨Ab6 hbb.out.symm,rfl⟩
 ·have h2':(x == 2)=false:=by simpa using h2
  have hbb:b=false:=hb.out.trans (decide_eq_false (by unfold Alone;rw[hW];simp[h1,h2]))
  replace hbb:=J0 hbb
  clear hW1 hW2 hW0 hb hW
  go_enter Tryz.func268,Tryz.ntmps268
  go_wp2
  go_ret
  exact⟨Ab6 hbb.out.symm,rfl⟩
theorem Co6:(Tryz.prog.info? 194).map (·.size)=some 10:=by kernel_rfl
theorem Ca4 (c:Cel):(Tryz.prog.info? 194).map (·.size)=some (cellC c).length:=by rw[cellC_length];exact Co6
theorem RowX.put {w w':World} {d g n cap:Nat} {tail:List Value} {l:List Cel} (h:RowX w d g n cap tail l) {i:Nat} (hi:i<l.length) (c:Cel) (hb:Block w' g 194 (splice (fl cellC l++tail) (i*10) (cellC c)).toArray) (ho:Only [g] w w') :
  RowX w' d g n cap tail (l.set i c):=by
 refine h.turned ho ?_ (by simp)
 have e:=Ai8 cellC_length l [c] tail i (by simp;omega)
 rw[fl_one,An3 l i c hi] at e
 rw[<- e]
 exact hb
theorem RowX.fits {w:World} {d g n cap:Nat} {tail:List Value} {l:List Cel} (h:RowX w d g n cap tail l) {i:Nat} (hi:i<n) (c:Cel):i*10+(cellC c).length<=(fl cellC l++tail).length:=by
 rw[List.length_append,Ab8 cellC_length,cellC_length,h.len]
 have:(i+1)*10<=n*10:=Nat.mul_le_mul_right _ hi
 omega
theorem RowX.storing {w:World} {d g n cap:Nat} {tail:List Value} {l:List Cel} (h:RowX w d g n cap tail l) {i:Nat} (hi:i<l.length) (c:Cel) :
  ∃w',(storeCells ⟨g,i*10,none⟩ (cellC c)).run Tryz.prog w=.ok () w'/\RowX w' d g n cap tail (l.set i c)/\Only [g] w w':=by
 have hrun:=run_storeCells_at Tryz.prog g (i*10) 194 (cellC c) 0 _ w h.row (by simpa using h.fits (by rw[<- h.len];exact hi) c) (Ak6 c)
 refine⟨_,hrun,?_,Ac7 w g _⟩
 exact h.put hi c (by simpa[splice,Block,cellC_length] using setRow_heap w g _ _ _ _ h.row) (Ac7 w g _)
def Bq6 (w:World) (d g n cap:Nat) (tail:List Value) (l:List Cel) (e:Ending) (w':World):Prop:=(∃v,e=.returned v)/\RowX w' d g n cap tail l/\Only [g] w w'
theorem Ca8 {w:World} {d g n cap:Nat} {tail:List Value} {l:List Cel} (h:RowX w d g n cap tail l) (lo hi:Nat) (h1:lo<=n) (h2:hi<=n) (h3:lo<=hi+2) :
  Calls Tryz.prog 227 #[.pointer (some ⟨d,0,none⟩),.int .i64 lo,.int .i64 hi] w (Bq6 w d g n cap tail (Ac8 l (lo - 1) (min (hi+1) n))):=by
 have hle:=h.le
 have hn:=h.pos
 have hn5:=h.small
 have hcm:=h.cap
 unfold maxLen at hcm
 have hc:=h.slice
 obtain⟨a,ha⟩:∃a,a=lo - 1:=⟨_,rfl⟩
 obtain⟨b,hb⟩:∃b,b=min (hi+1) n:=⟨_,rfl⟩
 rw[<- ha,<- hb]
 have ha':max ((lo:Int) - 1) 0=(a:Int):=by omega
 have hb':min ((hi:Int)+1) (n:Int)=(b:Int):=by omega
 have hab:a<=b:=by omega
 have hbn:b<=n:=by omega
 have hw0:=J0 h
 clear h hb ha
 go_enter Tryz.func227,Tryz.ntmps227
 have hmx:(if (lo:Int) - 1<0 then 0 else (lo:Int) - 1)=(a:Int):=by split<;>omega
 have hmn:(if (n:Int)<(hi:Int)+1 then (n:Int) else (hi:Int)+1)=(b:Int):=by split<;>omega
 go_wp2
 go_quiet (fail)
 clear hmx hmn ha' hb'
 go_wp2
 have hd0:∀q,RowX (w.drewN q) d g n cap tail l:=fun q=>hw0.out.kept (Only.drewN [] w q) (by simp) (by simp)
 replace hd0:=J0 hd0
 go_loopw [22] (fun i wr=>∃k:Nat,k<=b - a/\i=.int .i64 k/\Hid (RowX wr d g n cap tail (Ac8 l a (a+k))/\Only [g] w wr)) (fun i _=>(b - a) - (intOf i).toNat)
 case atStart=>exact⟨0,Nat.zero_le _,rfl,J0 ⟨by simpa[Bt8] using hd0.out _,Only.drewN _ _ _⟩⟩
 case round =>
  obtain⟨k,hk,rfl,hR⟩:=hrel
  obtain⟨hR,hO⟩:=hR.out
  by_cases hlt:k<b - a
  ·obtain⟨p,hp⟩:∃p,p=a+k:=⟨_,rfl⟩
   have hp':(a:Int)+(k:Int)=(p:Int):=by omega
   rw[<- hp] at hR
   have hpn:p<n:=by omega
   have hpl:p<l.length:=by rw[hw0.out.len];exact hpn
   have hall:=Bd7 hR p hpn
   have hA:=Ap2 l a p p
   have hsn:=mend_snoc l a p (by omega)
   have hcur:(Ac8 l a p)[p]?=some l[p]:=by rw[Ah5,List.getElem?_eq_getElem hpl];simp
   have hpm:p<(Ac8 l a p).length:=by rw[mendTo_length];exact hpl
   have hnx:a+(k+1)=p+1:=by omega
   by_cases hAl:Alone l p
   ·rw[decide_eq_true (hA.2 ⟨hAl,by omega⟩)] at hall
    rw[dif_pos ⟨hpl,hAl⟩] at hsn
    have hgc:(Ac8 l a p)[p]=l[p]:=by rw[List.getElem?_eq_getElem hpm] at hcur;exact Option.some.inj hcur
    have hS:=fun (w':World) (h:RowX w' d g n cap tail (Ac8 l a p))=>And.intro h.slice (And.intro (h.fg hpm) (And.intro (h.bg hpm) (h.gg hpm)))
    rw[hgc] at hS
    have hS':=fun (w':World) (h:RowX w' d g n cap tail ((Ac8 l a p).set p (Al3 l[p])))=>And.intro h.slice (And.intro (h.fg (i:=p) (by simpa using hpm)) (And.intro (h.bg (i:=p) (by simpa using hpm)) (h.gg (i:=p) (by simpa using hpm))))
    simp only[List.getElem_set_self] at hS'
    have hst:=fun (w1:World) (hR1:RowX w1 d g n cap tail (Ac8 l a p))=>hR1.storing hpm (Al3 l[p])
    rw[<- hsn] at hst hS'
    have hbl:=fun w=>Br3 l[p].a w
    have hCe:cellC (Al3 l[p])=cellC ⟨32,[],0,l[p].a⟩:=rfl
    rw[hCe] at hst
    have hae:(Al3 l[p]).a=l[p].a:=rfl
    rw[hae] at hS'
    have hC10:=cellC_length ⟨32,[],0,l[p].a⟩
    generalize cellC ⟨32,[],0,l[p].a⟩=C at hst hbl hC10
    generalize l[p].a=A at hS hS' hbl
    obtain⟨af,ab,ag⟩:=A
    simp only at hS hS' hbl
    generalize Ac8 l a p=lc at hR hall hst hpm hgc hcur hA hsn hS
    obtain⟨lc',hlc⟩:∃lc',lc'=Ac8 l a (p+1):=⟨_,rfl⟩
    rw[<- hlc] at hst hsn hS'
    replace hlc:=J0 hlc
    replace hall:=J0 hall
    replace hst:=J0 hst
    replace hbl:=J0 hbl
    replace hS:=J0 hS
    replace hS':=J0 hS'
    replace hnx:=J0 hnx
    replace hp:=J0 hp
    clear hgc hcur hA hsn hCe
    go_wp2_with ((go_at_call 268;refine(hall.out).mono ?_;rintro e w' ⟨rfl,rfl⟩))
    clear hall hd0
    go_region_held3 (fun w'=>w'.cell? ⟨d,0,none⟩=some (.slice (some ⟨g,0,none⟩) n cap)/\w'.cell? ⟨g,p*10+7,none⟩=some (.int .u32 af)/\w'.cell? ⟨g,p*10+8,none⟩=some (.int .u32 ab)/\w'.cell? ⟨g,p*10+9,none⟩=some (.int .u16 ag))
     (first|exact hS.out _ hR|exact hS.out _ hR.drawn|exact hS.out _ hR6|exact hS'.out _ hR7|go_keep)
     (first
      |(go_at_call 263;with_reducible refine(hbl.out _).mono ?_;rintro e1 w6 ⟨rfl,hb6'⟩;have hR6:RowX w6 d g n cap tail lc:=hR.drawn.below hb6';obtain⟨w7,hst7,hR7,ho7⟩:=hst.out w6 hR6))
    have hO6:Only [g] w w6:=hO.trans ((Only.drewN [g] wr 1).trans (Only.of_below hb6' [g]))
    replace hR7:=J0 hR7
    replace hO6:=J0 (hO6.trans ho7)
    clear hO hst7
    go_wp2
    go_roundw
    case rel=>exact⟨k+1,by omega,by go_num,J0 ⟨by rw[hnx.out,<- hlc.out];exact hR7.out,hO6.out⟩⟩
    case measure=>simp[intOf];omega
   ·rw[decide_eq_false (fun h=>hAl (hA.1 h).1)] at hall
    rw[dif_neg (fun h=>hAl h.2)] at hsn
    rw[<- hsn] at hR
    replace hall:=J0 hall
    replace hR:=J0 hR
    replace hO:=J0 hO
    replace hnx:=J0 hnx
    replace hp:=J0 hp
    clear hcur hA hsn hd0
    go_wp2_with ((go_at_call 268;refine(hall.out).mono ?_;rintro e w' ⟨rfl,rfl⟩))
    go_roundw
    case rel=>exact⟨k+1,by omega,by go_num,J0 ⟨by rw[hnx.out];exact hR.out,hO.out⟩⟩
    case measure=>simp[intOf];omega
  ·have hkb:a+k=b:=by omega
   rw[hkb] at hR
   replace hR:=J0 hR
   replace hO:=J0 hO
   clear hkb hd0
   go_wp2
   go_end0
   exact⟨⟨_,rfl⟩,hR.out,hO.out⟩
theorem Cm8 {w:World} {d g n cap:Nat} {tail:List Value} {l:List Cel} (h:RowX w d g n cap tail l) (col:Nat) (cs:List Cel) (hcs:col+cs.length<=n) (sp:Option Addr) (c2:Nat)
  (hsrc:0<cs.length->∃ad,sp=some ad/\∀j v,(fl cellC cs)[j]?=some v->w.cell? (ad.add j)=some v) :
  Calls Tryz.prog 216 #[.pointer (some ⟨d,0,none⟩),.int .i64 col,.slice sp cs.length c2] w (Bq6 w d g n cap tail (Ac8 (splice l col cs) (col - 1) (min (col+cs.length+1) n))):=by
 have hle:=h.le
 have hcm:=h.cap
 have hn5:=h.small
 unfold maxLen at hcm
 have hc:=h.slice
 have h1:=h.row
 obtain⟨m,hm⟩:∃m,m=cs.length:=⟨_,rfl⟩
 rw[<- hm] at hcs hsrc |-
 replace hm:=J0 hm
 replace h:=J0 h
 replace hsrc:=J0 hsrc
 have hcolc:col<=cap:=by omega
 have hX:(fl cellC cs).length=m*10:=by rw[Ab8 cellC_length,hm.out]
 have hcur:(fl cellC l++tail).length=n*10+tail.length:=by rw[List.length_append,Ab8 cellC_length,h.out.len]
 have hsp:=Ai8 cellC_length l cs tail col (by rw[h.out.len,<- hm.out];exact hcs)
 have hone:=Be8 Ak6 cs
 have hlen:(splice l col cs).length=l.length:=length_splice l col cs (by rw[h.out.len,<- hm.out];exact hcs)
 have hcs0:¬0<cs.length->m=0:=fun h0=>by have:=hm.out;omega
 have hrow:∀w1,Block w1 g 194 (splice (fl cellC l++tail) (col*10) (fl cellC cs)).toArray->Only [g] w w1->RowX w1 d g n cap tail (splice l col cs):=fun w1 hb ho=>h.out.turned ho (by rw[<- hsp];exact hb) hlen
 clear hsp hlen
 generalize splice l col cs=l2 at hrow |-
 have hsrc':0<m->∃ad,sp=some ad/\∀j v,(fl cellC cs)[j]?=some v->w.cell? (ad.add j)=some v:=fun h0=>hsrc.out h0
 obtain⟨X,hXX⟩:∃X,X=fl cellC cs:=⟨_,rfl⟩
 obtain⟨cur,hcc⟩:∃cur,cur=fl cellC l++tail:=⟨_,rfl⟩
 rw[<- hXX] at hX hone hrow hsrc'
 rw[<- hcc] at hcur hrow h1
 clear hXX hcc hcs0 hsrc
 replace hX:=J0 hX
 replace hcur:=J0 hcur
 replace hone:=J0 hone
 replace hrow:=J0 hrow
 replace hsrc':=J0 hsrc'
 replace h1:=J0 h1
 go_enter Tryz.func216,Tryz.ntmps216
 go_wp2_with (with_reducible refine J6 13 ?_;go_must (refine wpList_copyN rfl (.tmp 11) (.tmp 12) _ _ rfl 194 10 Tryz.underlying189 Co6 _ _ _ _ _ _ rfl rfl g (col*10) cur _ h1.out X ((by rw[hX.out,Nat.min_eq_left (by omega)])) (fun hp _=>⟨if_neg (by omega),hsrc'.out (by omega)⟩) (by rw[hX.out,hcur.out];omega) hone.out ?_);intro w1 hb1 ho1)
 all_goals
  have hR1:=hrow.out _ hb1.out ho1
  have hm1:=J0 (Ca8 hR1 col (col+m) (by omega) (by omega) (by omega))
  clear hb1 hR1
  go_wp2_with ((go_at_call 227;refine(hm1.out).mono ?_;rintro e w2 ⟨⟨v,rfl⟩,hR2,ho2⟩))
  go_end0
  exact⟨⟨_,rfl⟩,hR2,ho1.trans ho2⟩
theorem Bh8 {w:World} {d g n cap:Nat} {tail:List Value} {l:List Cel} (h:RowX w d g n cap tail l) (hwh:Aj0 l) (col:Nat) (cs:List Cel) (hcs:col+cs.length<=n) (sp:Option Addr) (c2:Nat)
  (hsrc:0<cs.length->∃ad,sp=some ad/\∀j v,(fl cellC cs)[j]?=some v->w.cell? (ad.add j)=some v) :
  Calls Tryz.prog 216 #[.pointer (some ⟨d,0,none⟩),.int .i64 col,.slice sp cs.length c2] w (Bq6 w d g n cap tail (setL l col cs)):=by
 have:=Cm8 h col cs hcs sp c2 hsrc
 have e:=setL_eq (cs:=cs) (col:=col) (by rw[h.len];exact hcs) hwh
 rw[h.len] at e
 rw[e] at this
 exact this
