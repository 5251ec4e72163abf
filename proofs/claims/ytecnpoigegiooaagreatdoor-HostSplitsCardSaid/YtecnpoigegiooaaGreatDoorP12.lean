/- Part 12 of HostSplits. -/
import Derived.Test.YtecnpoigegiooaaGreatDoorP11
set_option maxHeartbeats 16000000
set_option maxRecDepth 100000
namespace Go.Proofs.YtecnpoigegiooaaGreatDoor.Scn
open Go Rw Lns
abbrev Ln:=Int×List Cel
structure Scr where
 nx:Nat
 most:Nat
 kp:Bool
 cols:Nat
 top:Nat
 bot:Nat
 L:List Ln
 R:List Ln
def vw (L:List En):List Ln:=L.map fun e=>(e.id,e.l)
theorem Ay7 (L:List En):(vw L).length=L.length:=List.length_map _
def Ae9 (nx cols m:Nat) (a:At):List Ln:=(List.range m).map fun (j:Nat)=>((nx:Int)+(j:Int),Aj6 cols a)
theorem Af2 (nx cols m:Nat) (a:At):(Ae9 nx cols m a).length=m:=by simp[Ae9]
theorem freshS_succ (nx cols m:Nat) (a:At):Ae9 nx cols (m+1) a=Ae9 nx cols m a++[((nx:Int)+(m:Int),Aj6 cols a)]:=by simp[Ae9,List.range_succ]
section
variable {α β:Type}
def outA (A:List α) (f k:Nat):List α:=A.take f++A.drop (f+k)
def insA (A:List α) (i:Nat) (F:List α):List α:=A.take i++(F++A.drop i)
theorem Bp1 (A:List α) {f k:Nat} (h:f+k<=A.length):(outA A f k).length=A.length - k:=by simp[outA];omega
theorem insA_len (A:List α) (i:Nat) (F:List α):(insA A i F).length=A.length+F.length:=by simp[insA];omega
theorem outA_map (g:α->β) (A:List α) (f k:Nat):(outA A f k).map g=outA (A.map g) f k:=by simp[outA,List.map_take,List.map_drop]
theorem Cb6 {A:List α} {f k:Nat} {x:α} (h:x∈outA A f k):x∈A:=by
 rcases List.mem_append.1 h with h|h
 ·exact List.mem_of_mem_take h
 ·exact List.mem_of_mem_drop h
theorem outA_sub (A:List α) (f k:Nat):(outA A f k).Sublist A:=by
 have:A=A.take f++A.drop f:=(List.take_append_drop f A).symm
 conv=>rhs;rw[this]
 refine List.Sublist.append (List.Sublist.refl _) ?_
 rw[<- List.drop_drop]
 exact List.drop_sublist _ _
end
def Ax6 (most:Nat) (R ls:List Ln):List Ln:=ls.foldl (Ai5 most) R
theorem pushes_snoc (most:Nat) (R ls:List Ln) (x:Ln):Ax6 most R (ls++[x])=Ai5 most (Ax6 most R ls) x:=by simp[Ax6]
def chg (S:Scr) (f k i m:Nat) (a:At) (push:Bool):Scr :=
 { S with nx:=S.nx+m,L:=insA (outA S.L f k) i (Ae9 S.nx S.cols m a),R:=if push then Ax6 S.most S.R ((S.L.drop f).take k) else S.R }
def upS (S:Scr) (frm:Nat) (n:Int) (a:At) (push:Bool):Scr :=
 chg S frm (Ab0 n (S.bot+1 - frm)) (S.bot+1 - Ab0 n (S.bot+1 - frm)) (Ab0 n (S.bot+1 - frm)) a push
def Ag0 (S:Scr) (tq:Nat) (n:Int) (a:At):Scr :=
 chg S (S.bot+1 - Ab0 n (S.bot+1 - tq)) (Ab0 n (S.bot+1 - tq)) tq (Ab0 n (S.bot+1 - tq)) a false
def Co8 (S:Scr):Scr:={ S with top:=0,bot:=S.L.length - 1 }
def Ae0 (S:Scr) (i:Nat) (l:List Cel):Scr:={ S with L:=S.L.modify i fun p=>(p.1,l) }
structure Fit (S:Scr):Prop where
 len:1<=S.L.length
 len5:S.L.length<=512
 bot:S.bot<S.L.length
 top:S.top<=S.bot
 c1:1<=S.cols
 c5:S.cols<=512
 wid:∀p∈S.L,p.2.length=S.cols
 ids:∀p∈S.L,1<=p.1/\p.1<S.nx
 pos:1<=S.nx
def idAt (L:List Ln) (i:Int):Int:=if 0<=i/\i<L.length then ((L[i.toNat]?).map (·.1)).getD 0 else 0
theorem Ci2 {L:List Ln} {i:Nat} (h:i<L.length):idAt L i=L[i].1:=by
 unfold idAt
 rw[if_pos (by omega)]
 simp[h]
theorem Aq9 {nx cols m:Nat} {a:At} {p:Ln} (h:p∈Ae9 nx cols m a):p.2.length=cols/\(nx:Int)<=p.1/\p.1<(nx:Int)+(m:Int):=by
 obtain⟨j,hj,rfl⟩:=List.mem_map.1 h
 have:=List.mem_range.1 hj
 exact⟨freshL_len _ _,by show (nx:Int)<=(nx:Int)+(j:Int);omega,by show (nx:Int)+(j:Int)<_;omega⟩
theorem Ct3 {S:Scr} {f k i m:Nat} {a:At} {push:Bool}:(chg S f k i m a push).L=insA (outA S.L f k) i (Ae9 S.nx S.cols m a):=rfl
theorem Bm9 {S:Scr} {f k i m:Nat} {a:At} {push:Bool} (h:f+k<=S.L.length):(chg S f k i m a push).L.length=S.L.length - k+m:=by
 rw[Ct3,insA_len,Bp1 _ h,Af2]
theorem Cg6 {S:Scr} {f k i m:Nat} {a:At} {push:Bool} {p:Ln} (h:p∈(chg S f k i m a push).L):p∈S.L\/p∈Ae9 S.nx S.cols m a:=by
 rw[Ct3] at h
 rcases List.mem_append.1 h with h|h
 ·exact .inl (Cb6 (List.mem_of_mem_take h))
 ·rcases List.mem_append.1 h with h|h
  ·exact .inr h
  ·exact .inl (Cb6 (List.mem_of_mem_drop h))
theorem chg_wid {S:Scr} (hF:∀p∈S.L,p.2.length=S.cols) {f k i m:Nat} {a:At} {push:Bool}:∀p∈(chg S f k i m a push).L,p.2.length=S.cols:=fun p hp=>by
 rcases Cg6 hp with hp|hp
 ·exact hF p hp
 ·exact(Aq9 hp).1
theorem chg_ids {S:Scr} (hF:∀p∈S.L,1<=p.1/\p.1<S.nx) (hp1:1<=S.nx) {f k i m:Nat} {a:At} {push:Bool}:∀p∈(chg S f k i m a push).L,1<=p.1/\p.1<((S.nx+m:Nat):Int):=fun p hp=>by
 rcases Cg6 hp with hp|hp
 ·have:=hF p hp
  omega
 ·have:=Aq9 hp
  omega
theorem Al7 (n:Int) (m:Nat):Ab0 n m<=m:=Nat.min_le_right _ _
theorem Fit.chg {S:Scr} (h:Fit S) {f k i:Nat} (hf:f+k<=S.L.length) (a:At) (push:Bool):Fit (Scn.chg S f k i k a push):=by
 have hl:=Bm9 (S:=S) (i:=i) (m:=k) (a:=a) (push:=push) hf
 have h1:=h.bot
 have h2:=h.len
 have h3:=h.len5
 refine⟨by rw[hl];omega,by rw[hl];omega,?_,h.top,h.c1,h.c5,chg_wid h.wid,chg_ids h.ids h.pos,Nat.le_trans h.pos (Nat.le_add_right _ _)⟩
 rw[hl]
 show S.bot<_
 omega
theorem Fit.up {S:Scr} (h:Fit S) {frm:Nat} (hf:frm<=S.bot) (n:Int) (a:At) (push:Bool):Fit (upS S frm n a push) :=
 h.chg (by have:=Al7 n (S.bot+1 - frm);have:=h.bot;omega) a push
theorem Fit.down {S:Scr} (h:Fit S) {tq:Nat} (hf:tq<=S.bot) (n:Int) (a:At):Fit (Ag0 S tq n a) :=
 h.chg (by have:=Al7 n (S.bot+1 - tq);have:=h.bot;omega) a false
end Go.Proofs.YtecnpoigegiooaaGreatDoor.Scn
namespace Go.Proofs.YtecnpoigegiooaaGreatDoor.Scn
open Go RowKit Com Rw
section
variable {P:Program}
theorem Ce0 {z:Value} (hp:0<z.cells.size) (hz1:∀v∈z.cells.toList,v.oneCell'=true) (k:Nat):∀u∈(Builtin.zeroCells z.cells k).toList,u.oneCell'=true:=by
 intro u hu
 simp only[Builtin.zeroCells,Array.toList_map,List.mem_map] at hu
 obtain⟨j,_,rfl⟩:=hu
 have hlt:j % z.cells.size<z.cells.size:=Nat.mod_lt _ hp
 rw[getElem!_pos z.cells (j % z.cells.size) hlt]
 exact hz1 _ (by simp)
theorem run_appZ {t tI e:TypeId} {z:Value} {size:Nat} (E:As9 P t e z size) (hI:P.underlying tI=some (.int .i64)) (hz1:∀v∈z.cells.toList,v.oneCell'=true) (w:World) (ty:TypeId) (B:Nat) (v:Value) (n:Nat) (xs:List Value) (h:w.ownsRow B e size v n xs) (k:Nat) (hB:B<=w.heap.size) (hx:n+k<=100000) :
  ∃v' w' J,(Builtin.append_ #[t,tI] ty #[v,.int .i64 k]).run P w=.ok v' w'/\J.length=k*size/\(∀u∈J,u.oneCell'=true)/\w'.ownsRow B e size v' (n+k) (xs++J)/\Only v.ownBlock.toList w w'/\(v'.ownBlock=v.ownBlock\/v'.ownBlock=some w.heap.size):=by
 obtain⟨i,hi,hzr,hs,hb⟩:=E.info
 have hpos:=E.pos
 have hz:=E.cells
 have hk0:¬((k:Int)<0):=by omega
 have hwr:IntKind.i64.wrap (k:Int)=(k:Int):=IntWalk.i64_in _ (by omega)
 have hai:∀(y:Int) w,(asIntOf (.int .i64 y)).run P w=.ok (.i64,y) w:=fun _ _=>rfl
 have hw0:IntKind.i64.wrap 0=0:=IntWalk.i64_in _ (by omega)
 have hby:¬((281474976710656:Int)<(k:Int)*(i.bytes:Int)):=by
  have:k*i.bytes<=100000*100:=Nat.mul_le_mul (by omega) hb
  have h2:((k*i.bytes:Nat):Int)<=((100000*100:Nat):Int):=Int.ofNat_le.2 this
  rw[Int.natCast_mul] at h2
  omega
 have hzs:(Builtin.zeroCells z.cells k).toList.length=k*size:=by rw[Array.length_toList,size_zeroCells,hz]
 have hzl:=Ce0 (by omega) hz1 k
 have hlen:(xs++(Builtin.zeroCells z.cells k).toList).length=(n+k)*size:=by rw[List.length_append,h.1,hzs,Nat.add_mul]
 have hmx:n+k<=maxLen:=by unfold maxLen;omega
 have grown:∀(old:Nat),old<n+k->∀(L:List Nat),
   (w.drew.alloc (.cells (xs.toArray++Builtin.zeroCells z.cells k++Builtin.zeroCells z.cells (grownCap w (n+k) old e - (n+k))) e)).ownsRow B e size
    (.slice (some ⟨w.heap.size,0,none⟩) (n+k) (grownCap w (n+k) old e)) (n+k) (xs++(Builtin.zeroCells z.cells k).toList) /\
   Only L w (w.drew.alloc (.cells (xs.toArray++Builtin.zeroCells z.cells k++Builtin.zeroCells z.cells (grownCap w (n+k) old e - (n+k))) e)):=by
  intro old ho L
  have hge:=grownCap_ge w (n+k) old e
  have hcm:grownCap w (n+k) old e<=maxLen:=grownCap_le_maxLen w (n+k) old e hmx
  refine⟨⟨hlen,.inr ⟨w.heap.size,_,_,rfl,hB,heap_alloc_new w.drew _,hge,hcm,?_,?_⟩⟩,⟨rfl,rfl,rfl,by simp,fun q hq _=>Below.heap_alloc w.drew _ _ (by simpa using hq)⟩⟩
  ·simp only[Array.size_append,List.size_toArray,size_zeroCells,hz,h.1,<- Nat.add_mul]
   congr 1
   omega
  ·simp only[Array.toList_append,List.append_assoc]
   rw[<- List.append_assoc,<- hlen]
   exact List.take_left
 have hfits:∀cap,cap<n+k->¬(281474976710656<Builtin.nextslicecap (n+k) cap*i.bytes):=fun cap hc=>by
  have h1:(n+k)*i.bytes<=100000*100:=Nat.mul_le_mul (by omega) hb
  have:=growslice_fits (bytes:=i.bytes) hc (by omega)
  omega
 rcases h.2 with ⟨rfl,rfl⟩|⟨g,cap,cur,rfl,hbg,hg,hnc,hcm,hcs,htake⟩
 ·have hx0:xs=[]:=List.eq_nil_of_length_eq_zero (by simpa using h.1)
  subst hx0
  by_cases hm:k=0
  ·subst hm
   refine⟨.slice none 0 0,w,[],?_,by simp,by simp,World.ownsRow_nil w B e size,Only.refl _ _,.inl rfl⟩
   simp[Builtin.append_,run_underlying E.slice,run_underlying hI,sizeOf,typeInfo,hi,asInt,hai,hw0]
  ·have hgr:=grown 0 (by omega) (Value.slice none 0 0).ownBlock.toList
   have hf:=hfits 0 (by omega)
   have h63:¬((9223372036854775807:Int)<(k:Int)):=by omega
   simp only[Nat.zero_add,List.nil_append,Array.empty_append] at hgr hf |-
   refine⟨_,_,_,?_,hzs,hzl,hgr.1,hgr.2,.inr rfl⟩
   have hne:¬k*size=0:=by rw[Nat.mul_eq_zero];omega
   simp[Builtin.append_,run_underlying E.slice,run_underlying hI,sizeOf,typeInfo,zeroValue,hi,hzr,asInt,hai,hwr,hk0,hby,hm,h63,hf,hs,hne,Question.forced,run_firstCells_none,newRow,grownCap]
 ·by_cases hroom:n+k<=cap
  ·have hfit:n*size+(Builtin.zeroCells z.cells k).toList.length<=cur.size:=by rw[hzs,hcs,<- Nat.add_mul];exact Nat.mul_le_mul_right _ hroom
   have hst:=run_storeCells_at P g (n*size) e (Builtin.zeroCells z.cells k).toList 0 cur w hg (by simpa using hfit) hzl
   simp only[Nat.add_zero] at hst
   have hrun:(Builtin.append_ #[t,tI] ty #[.slice (some ⟨g,0,none⟩) n cap,.int .i64 k]).run P w=.ok (.slice (some ⟨g,0,none⟩) (n+k) cap) (w.setRow g (cur.toList.take (n*size)++(Builtin.zeroCells z.cells k).toList++cur.toList.drop (n*size+(Builtin.zeroCells z.cells k).toList.length)).toArray):=by
    by_cases hk:k*size=0
    ·have hz0:Builtin.zeroCells z.cells k=#[]:=by
      apply Array.eq_empty_of_size_eq_zero
      rw[size_zeroCells,hz,hk]
     rw[hz0] at hst |-
     simp[Builtin.append_,run_underlying E.slice,run_underlying hI,sizeOf,typeInfo,hi,asInt,hai,hwr,hk0,hby,hs,hk,hroom,Addr.add_lit]
     have hst':=hst
     simp at hst'
     simp[hst']
    ·simp[Builtin.append_,run_underlying E.slice,run_underlying hI,sizeOf,typeInfo,zeroValue,hi,hzr,asInt,hai,hwr,hk0,hby,hs,hk,hroom,Addr.add_lit,hst]
   refine⟨_,_,_,hrun,hzs,hzl,⟨hlen,.inr ⟨g,cap,_,rfl,hbg,setRow_heap w g cur _ e _ hg,hroom,hcm,?_,?_⟩⟩,Ac7 w g _,.inl rfl⟩
   ·simp only[List.size_toArray,List.length_append,List.length_take,List.length_drop]
    rw[Array.length_toList] at hfit |-
    rw[Array.length_toList,hcs] at *
    omega
   ·rw[htake,<- hlen]
    exact List.take_left
  ·have holds:∀j u,xs[j]?=some u->w.cell? ((⟨g,0,none⟩:Addr).add j)=some u:=h.cells (g:=g) rfl
   have hgr:=grown cap (by omega) (Value.slice (some ⟨g,0,none⟩) n cap).ownBlock.toList
   have hf:=hfits cap (by omega)
   have h63:¬((9223372036854775807:Int)<(n:Int)+(k:Int)):=by omega
   have hfo:=run_firstCells_some (P:=P) w.drew size n ⟨g,0,none⟩ n cap xs h.1 (by simpa using holds)
   refine⟨_,_,_,?_,hzs,hzl,hgr.1,hgr.2,.inr rfl⟩
   by_cases hk:k*size=0
   ·exfalso
    have:k=0:=by rcases Nat.mul_eq_zero.1 hk with h|h<;>omega
    omega
   ·simp[Builtin.append_,run_underlying E.slice,run_underlying hI,sizeOf,typeInfo,zeroValue,hi,hzr,asInt,hai,hwr,hk0,hby,hs,hk,hroom,h63,hf,hfo,Question.forced,newRow,grownCap]
theorem wp_appZ {t tI e:TypeId} {z:Value} {size:Nat} (E:As9 P t e z size) (hI:P.underlying tI=some (.int .i64)) (hz1:∀v∈z.cells.toList,v.oneCell'=true) {w:World} {o:Oper} {a:Act} {K:Act->World->Prop} {Q:Exit->Act->World->Prop} (s x:Operand)
  (ho:o.op=.call { callee:=.builtin .append,args:=#[s,x],argTypes:=#[t,tI] })
  (B:Nat) (v:Value) (n:Nat) (xs:List Value) (k:Nat) (hs:a.eval s=v) (hxe:a.eval x=.int .i64 k) (h:w.ownsRow B e size v n xs) (hB:B<=w.heap.size) (hx:n+k<=100000)
  (hK:∀v' w' J,J.length=k*size->(∀u∈J,u.oneCell'=true)->w'.ownsRow B e size v' (n+k) (xs++J)->Only v.ownBlock.toList w w'->(v'.ownBlock=v.ownBlock\/v'.ownBlock=some w.heap.size)->K (a.put o.dst v') w'):o.wp P a w K Q:=by
 obtain⟨v',w',J,hr,h2,h3,h4,h5,h6⟩:=run_appZ E hI hz1 w o.type B v n xs h k hB hx
 unfold Oper.wp execOp
 simp only[ho,resolve,invoke,builtin,Sem.run_bind,Sem.run_pure,Result.andThen_ok,List.map_toArray,List.map_cons,List.map_nil,hs,hxe,hr]
 exact hK v' w' J h2 h3 h4 h5 h6
theorem step_appZ {t tI e:TypeId} {z:Value} {size:Nat} (E:As9 P t e z size) (hI:P.underlying tI=some (.int .i64)) (hz1:∀v∈z.cells.toList,v.oneCell'=true) {w:World} {ops:Array Oper} {o:Oper} {a:Act} {K:Act->World->Prop} {Q:Exit->Act->World->Prop} {F:Prop} (hw:Region.wanted o (yielded ops a.tmps)=true) (s x:Operand)
  (ho:o.op=.call { callee:=.builtin .append,args:=#[s,x],argTypes:=#[t,tI] })
  (B:Nat) (v:Value) (n:Nat) (xs:List Value) (k:Nat) (hs:a.eval s=v) (hxe:a.eval x=.int .i64 k) (h:w.ownsRow B e size v n xs) (hB:B<=w.heap.size) (hx:n+k<=100000)
  (hK:∀v' w' J,J.length=k*size->(∀u∈J,u.oneCell'=true)->w'.ownsRow B e size v' (n+k) (xs++J)->Only v.ownBlock.toList w w'->(v'.ownBlock=v.ownBlock\/v'.ownBlock=some w.heap.size)->K (a.put o.dst v') w') :
  if Region.wanted o (yielded ops a.tmps)=true then Oper.wp P o a w K Q else F:=by
 rw[if_pos hw]
 exact wp_appZ E hI hz1 s x ho B v n xs k hs hxe h hB hx hK
theorem wp_clearN {t e:TypeId} {z:Value} {size:Nat} (E:As9 P t e z size) (hz1:∀v∈z.cells.toList,v.oneCell'=true) {w:World} {o:Oper} {a:Act} {K:Act->World->Prop} {Q:Exit->Act->World->Prop} (x:Operand)
  (ho:o.op=.call { callee:=.builtin .clear,args:=#[x],argTypes:=#[t] }) (sp:Option Addr) (k c:Nat) (hx:a.eval x=.slice sp k c)
  (g off:Nat) (cur:List Value) (tt:TypeId) (hg:Block w g tt cur.toArray) (hpos:0<k->sp=some ⟨g,off,none⟩) (hfit:off+k*size<=cur.length)
  (h:∀w' J,J.length=k*size->Hid (Block w' g tt (splice cur off J).toArray)->Only [g] w w'->K (a.put o.dst (.tuple #[])) w'):o.wp P a w K Q:=by
 obtain⟨i,hi,hzr,hs,hb⟩:=E.info
 have hp:=E.pos
 have hz:=E.cells
 by_cases hk:k=0
 ·subst hk
  have hrun:(Builtin.clear_ #[t] o.type #[.slice sp 0 c]).run P w=.ok (.tuple #[]) w:=by
   rcases sp with _|sp<;>simp[Builtin.clear_,run_underlying E.slice]
  unfold Oper.wp execOp
  simp only[ho,resolve,invoke,builtin,Sem.run_bind,Sem.run_pure,Result.andThen_ok,List.map_toArray,List.map_cons,List.map_nil,hx,hrun]
  exact h w [] (by simp) (J0 (by simpa[splice] using hg)) (Only.refl _ _)
 ·obtain rfl:=hpos (by omega)
  have hzs:(Builtin.zeroCells z.cells k).toList.length=k*size:=by rw[Array.length_toList,size_zeroCells,hz]
  have hst:=run_storeCells_at P g off tt (Builtin.zeroCells z.cells k).toList 0 cur.toArray w hg (by simpa[hzs] using hfit) (Ce0 (by omega) hz1 k)
  simp only[Nat.add_zero] at hst
  obtain⟨m,rfl⟩:∃m,k=m+1:=⟨k - 1,by omega⟩
  have hrun:(Builtin.clear_ #[t] o.type #[.slice (some ⟨g,off,none⟩) (m+1) c]).run P w=.ok (.tuple #[]) (w.setRow g (splice cur off (Builtin.zeroCells z.cells (m+1)).toList).toArray):=by
   simp[Builtin.clear_,run_underlying E.slice,zeroValue,typeInfo,hi,hzr,hst,splice]
  unfold Oper.wp execOp
  simp only[ho,resolve,invoke,builtin,Sem.run_bind,Sem.run_pure,Result.andThen_ok,List.map_toArray,List.map_cons,List.map_nil,hx,hrun]
  exact h _ _ hzs (J0 (setRow_heap w g _ _ tt _ hg)) (Ac7 w g _)
theorem wpList_clearN {t e:TypeId} {z:Value} {size:Nat} (E:As9 P t e z size) (hz1:∀v∈z.cells.toList,v.oneCell'=true) {w:World} {o:Oper} {ops:Array Oper} {rest:List Oper} {a:Act} {Q:Exit->Act->World->Prop} (hgd:o.guard=none) (x:Operand)
  (ho:o.op=.call { callee:=.builtin .clear,args:=#[x],argTypes:=#[t] }) (sp:Option Addr) (k c:Nat) (hx:a.eval x=.slice sp k c)
  (g off:Nat) (cur:List Value) (tt:TypeId) (hg:Block w g tt cur.toArray) (hpos:0<k->sp=some ⟨g,off,none⟩) (hfit:off+k*size<=cur.length)
  (h:∀w' J,J.length=k*size->Hid (Block w' g tt (splice cur off J).toArray)->Only [g] w w'->wpList P ops Q rest (a.put o.dst (.tuple #[])) w'):wpList P ops Q (o::rest) a w :=
 wpList_plain hgd fun _ hK=>wp_clearN E hz1 x ho sp k c hx g off cur tt hg hpos hfit fun w' J h1 h2 h3=>hK _ _ (h w' J h1 h2 h3)
end
end Go.Proofs.YtecnpoigegiooaaGreatDoor.Scn
namespace Go.Proofs.YtecnpoigegiooaaGreatDoor.Scn
open Go RowKit Com Rw Lns
def PT:List TypeId:=[168,136,188,191,194]
def NoPT (ts:List TypeId):Prop:=∀t∈PT,t∉ts
abbrev Zn:=Nat->Prop
structure Fr (B:Zn) (ts:List TypeId) (w w':World):Prop where
 os:w'.os=w.os
 tape:w'.tape=w.tape
 output:w'.output=w.output
 size:w.heap.size<=w'.heap.size
 block:∀k,k<w.heap.size->(¬B k\/∀t∈ts,¬Typ w k t)->w'.heap[k]?=w.heap[k]?
theorem Fr.refl (B:Zn) (ts:List TypeId) (w:World):Fr B ts w w:=⟨rfl,rfl,rfl,J5 _,fun _ _ _=>rfl⟩
theorem Fr.trans {B:Zn} {ts:List TypeId} {a b c:World} (h:Fr B ts a b) (g:Fr B ts b c):Fr B ts a c :=
 ⟨g.os.trans h.os,g.tape.trans h.tape,g.output.trans h.output,Nat.le_trans h.size g.size,fun k hk hn=>by
  have e:=h.block k hk hn
  refine(g.block k (Nat.lt_of_lt_of_le hk h.size) (hn.imp id fun hn t ht hT=>hn t ht ?_)).trans e
  obtain⟨cs,fz,hT⟩:=hT
  exact⟨cs,fz,e▸hT⟩⟩
theorem Fr.mono {B:Zn} {ts ts':List TypeId} {a b:World} (h:Fr B ts a b) (hs:∀t∈ts,t∈ts'):Fr B ts' a b :=
 ⟨h.os,h.tape,h.output,h.size,fun k hk hn=>h.block k hk (hn.imp id fun hn t ht=>hn t (hs t ht))⟩
theorem Fr.zone {B B':Zn} {ts:List TypeId} {a b:World} (h:Fr B ts a b) (hB:∀k,B k->B' k):Fr B' ts a b :=
 ⟨h.os,h.tape,h.output,h.size,fun k hk hn=>h.block k hk (hn.imp (fun hn hb=>hn (hB k hb)) id)⟩
theorem Fr.of_below {B:Zn} {ts:List TypeId} {a b:World} (h:Below a.heap.size a b):Fr B ts a b:=⟨h.os,h.tape,h.output,h.size,fun k hk _=>h.block k hk⟩
theorem Fr.of_only {B:Zn} {ts:List TypeId} {L:List Nat} {a b:World} (h:Only L a b) (hL:∀k∈L,k<a.heap.size->B k/\∃t∈ts,Typ a k t):Fr B ts a b :=
 ⟨h.os,h.tape,h.output,h.size,fun k hk hn=>h.block k hk fun hm=>by
  obtain⟨h1,t,ht,hT⟩:=hL k hm hk
  rcases hn with hn|hn
  ·exact hn h1
  ·exact hn t ht hT⟩
theorem Block.fr {B:Zn} {ts:List TypeId} {a b:World} {g:Nat} {t:TypeId} {cs:Array Value} (h:Block a g t cs) (hf:Fr B ts a b) (ht:t∉ts\/¬B g):Block b g t cs :=
 (hf.block g h.lt (ht.symm.imp id fun ht t' ht' hT=>ht (by rw[Typ.inj (Block.typ h) hT];exact ht'))).trans h
theorem Ck7 {B':Zn} {ts:List TypeId} {w w':World} {B:Nat} {e:TypeId} {s n:Nat} {v:Value} {xs:List Value} (h:w.ownsRow B e s v n xs) (hf:Fr B' ts w w') (ht:e∉ts):w'.ownsRow B e s v n xs:=by
 refine⟨h.1,?_⟩
 rcases h.2 with h2|⟨g,cap,cur,rfl,hg,hh,r⟩
 ·exact .inl h2
 ·exact .inr ⟨g,cap,cur,rfl,hg,(hf.block g (lt_of_block hh) (.inr fun t' ht' hT=>ht (by rw[Typ.inj (w:=w) ⟨cur,_,hh⟩ hT];exact ht'))).trans hh,r⟩
theorem Cm4 {B':Zn} {ts:List TypeId} {w w':World} {e:En} (h:RowG 0 w e) (hf:Fr B' ts w w') (hn:NoPT ts):RowG 0 w' e:=by
 obtain⟨h1,h2,h3,n,cap,tail,hx⟩:=h
 exact⟨h1,h2,h3,n,cap,tail,⟨Block.fr hx.ptr hf (.inl (hn _ (by simp[PT]))),Block.fr hx.row hf (.inl (hn _ (by simp[PT]))),hx.len,hx.le,hx.cap,hx.pos,hx.small⟩⟩
theorem sx_fr {B':Zn} {ts:List TypeId} {w w':World} {s nx most:Nat} {sv:Value} {R:List En} (h:SX 0 w s nx most sv R) (hf:Fr B' ts w w') (hn:NoPT ts):SX 0 w' s nx most sv R:=by
 obtain⟨⟨o,P,h0,hR⟩,hg⟩:=h
 exact⟨⟨o,P,⟨Block.fr h0.blk hf (.inl (hn _ (by simp[PT]))),Ck7 h0.own hf (hn _ (by simp[PT])),h0.le,h0.old,h0.olt,h0.most,h0.pos,h0.small,h0.lo⟩,hR⟩,fun e he=>Cm4 (hg e he) hf hn⟩
structure LoX (B:Zn) (w:World) (x s:Nat) (sv lv:Value) (R:List En):Prop where
 x:B x
 s:B s
 l:∀g,lv.ownBlock=some g->B g
 p:∀g,sv.ownBlock=some g->B g
 r:∀e∈R,B e.d/\B e.g
 up:∀k,w.heap.size<=k->B k
theorem LoX.grow {B:Zn} {w w':World} {x s:Nat} {sv lv:Value} {R:List En} (h:LoX B w x s sv lv R) (hs:w.heap.size<=w'.heap.size):LoX B w' x s sv lv R :=
 ⟨h.x,h.s,h.l,h.p,h.r,fun k hk=>h.up k (Nat.le_trans hs hk)⟩
theorem LoX.lines {B:Zn} {w w':World} {x s:Nat} {sv lv lv':Value} {R:List En} (h:LoX B w x s sv lv R) (hs:w.heap.size<=w'.heap.size) (hl:lv'.ownBlock=lv.ownBlock\/∃g,lv'.ownBlock=some g/\w.heap.size<=g):LoX B w' x s sv lv' R :=
 ⟨h.x,h.s,fun g hg=>by
  rcases hl with hl|⟨g',hl,hge⟩
  ·exact h.l g (hl▸hg)
  ·rw[hl] at hg
   cases hg
   exact h.up _ hge,h.p,h.r,fun k hk=>h.up k (Nat.le_trans hs hk)⟩
theorem LoX.store {B:Zn} {w w':World} {x s:Nat} {sv sv' lv:Value} {R R':List En} (h:LoX B w x s sv lv R) (hs:w.heap.size<=w'.heap.size) (hl:sv'.ownBlock=sv.ownBlock\/∃g,sv'.ownBlock=some g/\w.heap.size<=g) (hr:∀e∈R',B e.d/\B e.g):LoX B w' x s sv' lv R' :=
 ⟨h.x,h.s,h.l,fun g hg=>by
  rcases hl with hl|⟨g',hl,hge⟩
  ·exact h.p g (hl▸hg)
  ·rw[hl] at hg
   cases hg
   exact h.up _ hge,hr,fun k hk=>h.up k (Nat.le_trans hs hk)⟩
structure LnX (B:Zn) (w:World) (x s nx most:Nat) (kp:Bool) (cols:Nat) (sv lv:Value) (top bot n:Nat) (xs:List Value) (R:List En):Prop where
 blk:Block w x 168 #[.pointer (some ⟨s,0,none⟩),.bool kp,.int .i64 cols,lv,.int .i64 top,.int .i64 bot]
 own:w.ownsRow 0 188 2 lv n xs
 st:SX 0 w s nx most sv R
 apart:∀g,lv.ownBlock=some g->sv.ownBlock≠some g
 lo:LoX B w x s sv lv R
 small:n<=1000
section
variable {B:Zn}{w w':World}{x s nx most cols top bot n:Nat}{kp:Bool}{sv lv:Value}{xs:List Value}{R:List En}{L:List Nat}
theorem LnX.cells (h:LnX B w x s nx most kp cols sv lv top bot n xs R):w.cell? ⟨x,0,none⟩=some (.pointer (some ⟨s,0,none⟩))/\w.cell? ⟨x,1,none⟩=some (.bool kp)/\w.cell? ⟨x,2,none⟩=some (.int .i64 cols)/\w.cell? ⟨x,3,none⟩=some lv/\w.cell? ⟨x,4,none⟩=some (.int .i64 top)/\w.cell? ⟨x,5,none⟩=some (.int .i64 bot) :=
 ⟨h.blk.cell 0 rfl,h.blk.cell 1 rfl,h.blk.cell 2 rfl,h.blk.cell 3 rfl,h.blk.cell 4 rfl,h.blk.cell 5 rfl⟩
theorem LnX.only (h:LnX B w x s nx most kp cols sv lv top bot n xs R) (ho:Only L w w') (hx:x∉L) (hs:s∉L) (hl:∀g,lv.ownBlock=some g->g∉L) (hp:∀g,sv.ownBlock=some g->g∉L) (hr:∀e∈R,e.d∉L/\e.g∉L):LnX B w' x s nx most kp cols sv lv top bot n xs R :=
 ⟨h.blk.only ho hx,Af0 h.own ho hl,h.st.only ho hs hp hr,h.apart,h.lo.grow ho.size,h.small⟩
theorem LnX.below (h:LnX B w x s nx most kp cols sv lv top bot n xs R) (hb:Below w.heap.size w w'):LnX B w' x s nx most kp cols sv lv top bot n xs R:=h.only (Only.of_below hb []) (by simp) (by simp) (by simp) (by simp) (by simp)
theorem LnX.fr {B':Zn} {ts:List TypeId} (h:LnX B w x s nx most kp cols sv lv top bot n xs R) (hf:Fr B' ts w w') (hn:NoPT ts):LnX B w' x s nx most kp cols sv lv top bot n xs R :=
 ⟨Block.fr h.blk hf (.inl (hn _ (by simp[PT]))),Ck7 h.own hf (hn _ (by simp[PT])),sx_fr h.st hf hn,h.apart,h.lo.grow hf.size,h.small⟩
theorem LnX.typ (h:LnX B w x s nx most kp cols sv lv top bot n xs R):Typ w x 168:=Block.typ h.blk
theorem LnX.ltyp (h:LnX B w x s nx most kp cols sv lv top bot n xs R):∀g,lv.ownBlock=some g->B g/\g<w.heap.size/\Typ w g 188:=fun g hg=>⟨h.lo.l g hg,(World.ownsRow.lt h.own g hg).2,Ab9 h.own g hg⟩
theorem LnX.shape (h:LnX B w x s nx most kp cols sv lv top bot n xs R):∃ao c,lv=.slice ao n c/\n<=c/\c<=maxLen:=Ab3 h.own
theorem LnX.store (h:LnX B w x s nx most kp cols sv lv top bot n xs R) (ho:Only (x::lv.ownBlock.toList) w w'):SX 0 w' s nx most sv R:=by
 have hno:∀ {k:Nat} {t:TypeId},Typ w k t->168≠t->188≠t->k∉x::lv.ownBlock.toList:=fun {k t} ht n1 n2 hm=>by
  rcases List.mem_cons.1 hm with rfl|hm
  ·exact n1 (Typ.inj h.typ ht)
  ·exact n2 (Typ.inj (h.ltyp k (by simpa using hm)).2.2 ht)
 refine h.st.only ho (hno h.st.typ (by decide) (by decide)) (fun g hg hm=>?_) (fun e he=>⟨hno (h.st.2 e he).typ.1 (by decide) (by decide),hno (h.st.2 e he).typ.2 (by decide) (by decide)⟩)
 rcases List.mem_cons.1 hm with rfl|hm
 ·exact absurd (Typ.inj h.typ (h.st.ptyp g hg).2.2) (by decide)
 ·exact h.apart g (by simpa using hm) hg
theorem LnX.frame (h:LnX B w x s nx most kp cols sv lv top bot n xs R) (ho:Only (x::lv.ownBlock.toList) w w'):Fr B PT w w' :=
 Fr.of_only ho fun k hk _=>by
  rcases List.mem_cons.1 hk with rfl|hm
  ·exact⟨h.lo.x,_,by simp[PT],h.typ⟩
  ·have:=h.ltyp k (by simpa using hm)
   exact⟨this.1,_,by simp[PT],this.2.2⟩
theorem LnX.setL (h:LnX B w x s nx most kp cols sv lv top bot n xs R) {lv':Value} {n':Nat} {xs':List Value} {w1:World} (h1:w1.ownsRow 0 188 2 lv' n' xs') (ho:Only lv.ownBlock.toList w w1) (hl:lv'.ownBlock=lv.ownBlock\/∃g,lv'.ownBlock=some g/\w.heap.size<=g) (hn:n'<=1000) :
  LnX B (w1.setCell ⟨x,3,none⟩ lv') x s nx most kp cols sv lv' top bot n' xs' R/\Only (x::lv.ownBlock.toList) w (w1.setCell ⟨x,3,none⟩ lv'):=by
 have hxl:x∉lv.ownBlock.toList:=fun hm=>absurd (Typ.inj h.typ (h.ltyp x (by simpa using hm)).2.2) (by decide)
 have hb1:=h.blk.only ho hxl
 have ho2:Only [x] w1 (w1.setCell ⟨x,3,none⟩ lv'):=Only.setCell w1 ⟨x,3,none⟩ _
 have hO:Only (x::lv.ownBlock.toList) w (w1.setCell ⟨x,3,none⟩ lv'):=(ho.mono (by simp +contextual)).trans (ho2.mono (by simp))
 refine⟨⟨hb1.set 3 lv',Af0 h1 ho2 (fun g hg=>Ad9 (Ab9 h1 g hg) (Block.typ hb1) (by decide)),h.store hO,?_,h.lo.lines hO.size hl,hn⟩,hO⟩
 intro g hg hs
 rcases hl with hl|⟨g',hl,hge⟩
 ·exact h.apart g (hl▸hg) hs
 ·have h2:=(h.st.ptyp g hs).2.1
  rw[hl] at hg
  cases hg
  omega
end
