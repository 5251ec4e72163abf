/- Part 5 of the proof that the card of HostNone holds. -/
import Derived.Test.YtbafmljidapmgaaGreatDoorN04
import Derived.WalkSpells
set_option maxHeartbeats 16000000
set_option maxRecDepth 100000
namespace Go.Proofs.YtbafmljidapmgaaGreatDoor.Rw
open Go RowKit Com
def zp:Cel×Value:=(zeroCel,.slice none 0 0)
theorem info48z:(Tryz.prog.info? 94).map (fun i=>(i.zero,i.size,decide (i.bytes<=100)))=some (some (.agg (apiP zp).toArray),6,true):=by kernel_rfl
theorem make_api (n:Nat) (hn:n<=512) (w:World):(Instr.makeSlice 92 (.int .i64 (n:Int)) (.int .i64 (n:Int))).run Tryz.prog w=.ok (.slice (some ⟨w.heap.size,0,none⟩) n n) (w.alloc (.cells (fl apiP (List.replicate n zp)).toArray 94)):=by
 have h:=info48z
 cases hq:Tryz.prog.info? 94 with
 |none=>simp [hq] at h
 |some i =>
  simp only [hq,Option.map_some,Option.some.injEq,Prod.mk.injEq,decide_eq_true_eq] at h
  obtain ⟨hz,hs,hb⟩:=h
  have hm:i.bytes*n<=100*512:=Nat.mul_le_mul hb hn
  have:=Ax5 92 94 i _ Tryz.underlying92 hq hz .i64 .i64 n n (J5 _) (by omega) (by omega) w
  rw [this,hs]
  have e:(Value.agg (apiP zp).toArray).cells=(apiP zp).toArray:=rfl
  rw [e,Cg7 apiP 6 Af4 (by omega)]
theorem RowX.load {w:World} {d g n cap:Nat} {tail:List Value} {l:List Cel} (h:RowX w d g n cap tail l) {i:Nat} (hi:i<l.length):∀ j v,(cellC l[i])[j]?=some v->w.cell? ((⟨g,i*10,none⟩:Addr).add j)=some v:=by
 intro j v hj
 have hlt:=(List.getElem?_eq_some_iff.1 hj).1
 rw [cellC_length] at hlt
 rw [Addr.add_lit]
 exact h.at' hi hlt hj
structure CellsSt (w wr:World) (d g n cap:Nat) (tail:List Value) (l:List Cel) (g2 k:Nat) (ps:List (Cel×Value)):Prop where
 row:RowX wr d g n cap tail l
 got:Block wr g2 94 (fl apiP (ps++List.replicate (n - k) zp)).toArray
 comb:∀ p∈ps,Own wr w.heap.size 21 .i32 p.2 p.1.m
 map:ps.map (·.1)=l.take k
 below:Below w.heap.size w wr
theorem CellsSt.next {w wr w5 w6:World} {d g n cap:Nat} {tail:List Value} {l:List Cel} {g2 k:Nat} {ps:List (Cel×Value)} (h:CellsSt w wr d g n cap tail l g2 k ps) (hk:k<n) (hkl:k<l.length) (hg2:w.heap.size<=g2) (v:Value) (hb:Below wr.heap.size wr w5) (ho:Own w5 wr.heap.size 21 .i32 v l[k].m)
  (h6:Block w6 g2 94 (splice (fl apiP (ps++List.replicate (n - k) zp)) (k*6) (apiC l[k] v)).toArray) (ho6:Only [g2] w5 w6):CellsSt w w6 d g n cap tail l g2 (k+1) (ps++[(l[k],v)]):=by
 have hlp:ps.length=k:=by
  have:=congrArg List.length h.map
  simp at this
  omega
 have hfs:=Aj1 Af4 (ps++List.replicate (n - k) zp) [(l[k],v)] [] k (by simp;omega)
 rw [An2 _ _ _ (by simp;omega),List.append_nil,List.append_nil,fl_one] at hfs
 have hset:(ps++List.replicate (n - k) zp).set k (l[k],v)=(ps++[(l[k],v)])++List.replicate (n - (k+1)) zp:=by
  rw [List.set_append_right _ _ (by omega),hlp,Nat.sub_self,show n - k=(n - (k+1))+1 by omega,List.replicate_succ,J2,List.append_assoc]
  rfl
 rw [hset] at hfs
 have hg2w:Typ w5 g2 94:=Block.typ (h.got.only (Only.of_below hb []) (by simp))
 have hfr:Fr 0 [94] w5 w6:=Fr.of_only ho6 (fun k hk _=>⟨Nat.zero_le _,_,List.mem_singleton.2 rfl,by simp at hk;subst hk;exact hg2w⟩)
 have hne1:d≠g2:=Block.apart h.row.ptr h.got (by decide)
 have hne2:g≠g2:=Block.apart h.row.row h.got (by decide)
 refine ⟨(h.row.below hb).kept ho6 (by simpa using hne1) (by simpa using hne2),?_,?_,?_,?_⟩
 ·rw [<- hfs];exact h6
 ·intro p hp
  rcases List.mem_append.1 hp with hp|hp
  ·exact Own.fr (Own.fr (h.comb p hp) (Fr.of_below (B:=0) (ts:=[]) hb) (by simp)) hfr (by decide)
  ·simp at hp
   subst hp
   exact Own.fr (Own.lower ho h.below.size) hfr (by decide)
 ·rw [List.map_append,h.map,List.take_add_one,List.getElem?_eq_getElem hkl]
  rfl
 ·exact (Aa0 h.below hb).trans (ho6.below (by have:=h.below.size;have:=hb.size;omega) (by simpa using hg2))
def Bj8 (w:World) (n:Nat) (l:List Cel) (e:Ending) (w':World):Prop:=∃ g2 ps,e=.returned (.slice (some ⟨g2,0,none⟩) n n)/\Api w.heap.size w' (.slice (some ⟨g2,0,none⟩) n n) ps/\ps.map (·.1)=l/\Below w.heap.size w w'/\w.heap.size<=g2
theorem cells_any {w:World} {d g n cap:Nat} {tail:List Value} {l:List Cel} (h:RowX w d g n cap tail l) (h4:∀ c∈l,c.m.length<=4) :
  Calls Tryz.prog 181 #[.pointer (some ⟨d,0,none⟩)] w (Bj8 w n l):=by
 have hn:=h.pos
 have hn5:=h.small
 have hle:=h.le
 have hcm:=h.cap
 unfold maxLen at hcm
 have hn0:((n:Int) == 0)=false:=beq_eq_false_iff_ne.2 (by omega)
 have hlen:=J0 (Ah1 h)
 have hc:=h.slice
 have hmk:=make_api n hn5 w
 have hb0:=Block.made w 94 (fl apiP (List.replicate n zp)).toArray
 have hS0:CellsSt w (w.alloc (.cells (fl apiP (List.replicate n zp)).toArray 94)) d g n cap tail l w.heap.size 0 [] :=
  ⟨h.below (Aa1 _ _),by simpa using hb0,by simp,by simp,Aa1 _ _⟩
 have hs1:=hS0.row.slice
 have hll:=J0 h.len
 replace hS0:=J0 hS0
 clear h hb0
 go_enter Tryz.func181,Tryz.ntmps181
 go_wp2_with ((go_at_call 240;(with_reducible refine (hlen.out).mono ?_);rintro e w' ⟨rfl,rfl⟩))
 obtain ⟨g2,hg2⟩:∃ g2,g2=w.heap.size:=⟨_,rfl⟩
 have hge:w.heap.size<=g2:=by omega
 rw [<- hg2] at hS0 |-
 clear hmk hc hg2
 generalize w.alloc (.cells (fl apiP (List.replicate n zp)).toArray 94)=w0 at hS0 hs1 |-
 go_loopw [20] (fun i wr=>∃ (k:Nat) (ps:List (Cel×Value)),k<=n/\i=.int .i64 k/\Hid (CellsSt w wr d g n cap tail l g2 k ps)) (fun i _=>n - (intOf i).toNat)
 case atStart=>exact ⟨0,[],Nat.zero_le _,rfl,hS0⟩
 case round =>
  obtain ⟨k,ps,hk,rfl,hR⟩:=hrel
  have hR:=hR.out
  clear hS0 hs1
  by_cases hlt:k<n
  ·have hkl:k<l.length:=by rw [hll.out];exact hlt
   have hld:=hR.row.load hkl
   have hto:=fun w=>Bc3 l[k] (h4 _ (List.getElem_mem hkl)) w
   have hnx:=fun w5 w6 v hb ho h6 ho6=>hR.next (w5:=w5) (w6:=w6) hlt hkl hge v hb ho h6 ho6
   have hgot:=fun w5 (hb:Below wr.heap.size wr w5)=>hR.got.only (Only.of_below hb []) (by simp)
   have hgl:(fl apiP (ps++List.replicate (n - k) zp)).length=n*6:=by
    have hlp:ps.length=k:=by
     have:=congrArg List.length hR.map
     simp at this
     omega
    rw [Ab5 Af4];simp;omega
   have hC10:=cellC_length l[k]
   have hone:=Ak5 l[k]
   have hinf:=By6 l[k]
   have hmkb:=Block.made wr 304 (cellC zeroCel).toArray
   have hz:(cellC zeroCel).toArray=#[.int .i32 0,.int .i32 0,.int .i32 0,.int .i32 0,.int .i32 0,.int .u8 0,.int .u8 0,.int .u32 0,.int .u32 0,.int .u16 0]:=rfl
   rw [hz] at hmkb
   have hkk:k*6+6<=n*6:=by omega
   generalize l[k]=c at hld hto hnx hC10 hone hinf
   generalize hC:cellC c=C at hld hto hC10 hone hinf
   generalize fl apiP (ps++List.replicate (n - k) zp)=X at hgot hnx hgl
   replace hld:=J0 hld
   replace hto:=J0 hto
   replace hnx:=J0 hnx
   replace hgot:=J0 hgot
   replace hgl:=J0 hgl
   replace hC10:=J0 hC10
   replace hone:=J0 hone
   replace hinf:=J0 hinf
   replace hmkb:=J0 hmkb
   replace hC:=J0 hC
   clear hR hz h4
   go_wp2_with (first
    |(with_reducible show wpList _ _ _ (⟨some 24,.load _ (.tmp 23),_,_,_,_⟩::_) _ _;go_must (refine wpList_loadAt rfl 304 (.tmp 23) rfl ⟨g,k*10,none⟩ rfl C _ hld.out Tryz.underlying304 rfl hinf.out ?_))
    |(with_reducible show wpList _ _ _ (⟨none,.store _ (.tmp 5) _,_,_,_,_⟩::_) _ _;go_must (refine Ag1 rfl 304 (.tmp 5) (.tmp 24) rfl (g:=wr.heap.size) (i:=0) hmkb.out C rfl rfl (by rw [hC10.out];decide) (hinf.out) (hone.out) ?_);intro w1 hr1 ho1;have hb1:Block w1 wr.heap.size 304 C.toArray:=by have:=hr1.out;rw [show splice _ 0 C=C by unfold splice;rw [hC10.out];simp] at this;exact this)
    |(with_reducible show wpList _ _ _ (⟨some 27,.load _ (.tmp 5),_,_,_,_⟩::_) _ _;go_must (refine wpList_loadAt rfl 304 (.tmp 5) rfl ⟨wr.heap.size,0,none⟩ rfl C _ (fun j v hj=>by rw [Addr.add_lit,Nat.zero_add];exact hb1.cell j (by simpa using hj)) Tryz.underlying304 rfl hinf.out ?_)))
   have hb01:Below wr.heap.size wr w1:=(Aa1 wr _).trans (ho1.below (by simp) (by simp))
   refine (hto.out w1).mono ?_
   rintro e w2 ⟨v,rfl,hown,hb2⟩
   have hb02:=Aa0 hb01 hb2
   have hg2':=J0 (hgot.out _ hb02)
   have hone2:=J0 (Bb5 (c:=c) (Own.one hown))
   have hnx2:=J0 (fun w6 h6 ho6=>hnx.out w2 w6 v hb02 (Own.lower hown hb01.size) h6 ho6)
   clear hown hb2 hb1 hr1 ho1 hb01 hb02 hgot hnx hto hld
   obtain ⟨V,hV⟩:∃ V,V=apiC c v:=⟨_,rfl⟩
   have hV6:V.length=6:=by rw [hV];rfl
   rw [<- hV] at hone2 hnx2 |-
   have hinf2:Hid ((Tryz.prog.info? 94).map (·.size)=some V.length):=J0 (by rw [hV6];exact Cn2)
   replace hV:=J0 hV
   replace hV6:=J0 hV6
   go_wp2_with (first
    |(with_reducible show wpList _ _ _ (⟨none,.store _ (.tmp 29) _,_,_,_,_⟩::_) _ _;go_must (refine Ag1 rfl 94 (.tmp 29) (.tmp 28) rfl (g:=g2) (i:=k*6) hg2'.out V rfl rfl (by rw [hgl.out,hV6.out];exact hkk) (hinf2.out) (hone2.out) ?_);intro w6 hr6 ho6))
   replace hnx2:=J0 (hnx2.out _ hr6.out ho6)
   clear hr6 ho6 hg2' hone2
   go_roundw
   case rel=>exact ⟨k+1,ps++[(c,v)],by omega,by go_num,hnx2⟩
   case measure=>simp [intOf];omega
  ·obtain rfl:k=n:=by omega
   have hlp:ps.length=k:=by
    have:=congrArg List.length hR.map
    simp [hll.out] at this
    exact this
   have hres:Bj8 w k l (.returned (.slice (some ⟨g2,0,none⟩) k k)) wr:=by
    refine ⟨g2,ps,rfl,⟨⟨Ab5 Af4 ps,.inr ⟨g2,k,_,by rw [hlp],hge,hR.got,by omega,by unfold maxLen;omega,?_,?_⟩⟩,hR.comb⟩,?_,hR.below,hge⟩
    ·simp [Ab5 Af4,hlp]
    ·have e:(ps.length*6)=(fl apiP ps).length:=(Ab5 Af4 ps).symm
     rw [e,fl_app]
     simp
    ·rw [hR.map,List.take_of_length_le (by rw [hll.out];exact J5 _)]
   replace hres:=J0 hres
   clear hR hlp
   go_wp2
   go_ret
   exact hres.out
structure Ay1 (P:Program) (t e:TypeId) (z:Value) (size:Nat):Prop where
 slice:P.underlying t=some (.slice e)
 info:∃ i,P.info? e=some i/\i.zero=some z/\i.size=size/\i.bytes<=100
 cells:z.cells.size=size
 pos:0<size
section
variable {P:Program} {t e:TypeId} {z:Value} {size:Nat}
theorem Cl1 (E:Ay1 P t e z size) {w:World} {o:Oper} {a:Go.Act} {K:Go.Act->World->Prop} {Q:Exit->Go.Act->World->Prop} (s x:Operand)
  (ho:o.op=.call { callee:=.builtin .append,args:=#[s,x],argTypes:=#[t,t] })
  (B:Nat) (v:Value) (n:Nat) (xs:List Value) (ad:Addr) (m c:Nat) (news:List Value) (hs:a.eval s=v) (hxe:a.eval x=.slice (some ad) m c)
  (h:w.ownsRow B e size v n xs) (hl:news.length=m*size) (hnews:∀ j u,news[j]?=some u->w.cell? (ad.add j)=some u) (h1:∀ u∈news,u.oneCell'=true) (hB:B<=w.heap.size) (hx:n+m<=100000)
  (hK:∀ v' w',w'.ownsRow B e size v' (n+m) (xs++news)->Only v.ownBlock.toList w w'->(v'.ownBlock=v.ownBlock\/v'.ownBlock=some w.heap.size)->K (a.put o.dst v') w'):o.wp P a w K Q:=by
 obtain ⟨i,hi,hz,hsz,hb⟩:=E.info
 have hby:(n+m)*i.bytes<=100000*100:=Nat.mul_le_mul hx hb
 obtain ⟨v',w',hr,h2,h3,_,h5⟩:=run_append_own_at (P:=P) w B t o.type e i z size i.bytes E.slice hi hz hsz rfl E.cells E.pos v n xs h ad m c news hl hnews h1 (by unfold maxLen;omega) (by omega) hB
 unfold Oper.wp execOp
 simp only [ho,resolve,invoke,builtin,Sem.run_bind,Sem.run_pure,Result.andThen_ok,List.map_toArray,List.map_cons,List.map_nil,hs,hxe,hr]
 exact hK v' w' h2 (Only.grown h3) h5
theorem wpList_appN (E:Ay1 P t e z size) {w:World} {ops:Array Oper} {rest:List Oper} {o:Oper} {a:Go.Act} {Q:Exit->Go.Act->World->Prop} (hgd:Region.wanted o (yielded ops a.tmps)=true) (s x:Operand)
  (ho:o.op=.call { callee:=.builtin .append,args:=#[s,x],argTypes:=#[t,t] })
  (B:Nat) (v:Value) (n:Nat) (xs:List Value) (ad:Addr) (m c:Nat) (news:List Value) (hs:a.eval s=v) (hxe:a.eval x=.slice (some ad) m c)
  (h:w.ownsRow B e size v n xs) (hl:news.length=m*size) (hnews:∀ j u,news[j]?=some u->w.cell? (ad.add j)=some u) (h1:∀ u∈news,u.oneCell'=true) (hB:B<=w.heap.size) (hx:n+m<=100000)
  (hK:∀ v' w',w'.ownsRow B e size v' (n+m) (xs++news)->Only v.ownBlock.toList w w'->(v'.ownBlock=v.ownBlock\/v'.ownBlock=some w.heap.size)->wpList P ops Q rest (a.put o.dst v') w'):wpList P ops Q (o::rest) a w :=
 Ad6 hgd fun _ hK'=>Cl1 E s x ho B v n xs ad m c news hs hxe h hl hnews h1 hB hx fun v' w' h1 h2 h3=>hK' _ _ (hK v' w' h1 h2 h3)
end
theorem elemC:Ay1 Tryz.prog 299 304 (.agg (cellC zeroCel).toArray) 10:=by
 have h:(Tryz.prog.info? 304).map (fun i=>(i.zero,i.size,decide (i.bytes<=100)))=some (some (.agg (cellC zeroCel).toArray),10,true):=by kernel_rfl
 refine ⟨Tryz.underlying299,?_,rfl,by omega⟩
 cases hq:Tryz.prog.info? 304 with
 |none=>simp [hq] at h
 |some i =>
  simp only [hq,Option.map_some,Option.some.injEq,Prod.mk.injEq,decide_eq_true_eq] at h
  exact ⟨i,rfl,h.1,h.2.1,h.2.2⟩
theorem Ai1 {w:World} {B:Nat} {e:TypeId} {s n:Nat} {v:Value} {xs:List Value} (h:w.ownsRow B e s v n xs) (hn:0<n):∃ g cap tail,v=.slice (some ⟨g,0,none⟩) n cap/\B<=g/\Block w g e (xs++tail).toArray/\n<=cap/\cap<=maxLen:=by
 rcases h.2 with ⟨_,h0⟩|⟨g,cap,cur,rfl,hg,hh,hc,hm,_,ht⟩
 ·omega
 ·refine ⟨g,cap,cur.toList.drop (n*s),rfl,hg,?_,hc,hm⟩
  rw [<- ht,List.take_append_drop]
  exact hh
def CloneDone (w:World) (n:Nat) (l:List Cel) (e:Ending) (w':World):Prop:=∃ g cap tail,e=.returned (.slice (some ⟨g,0,none⟩) n cap)/\Block w' g 304 (fl cellC l++tail).toArray/\n<=cap/\cap<=maxLen/\Below w.heap.size w w'/\w.heap.size<=g
theorem clone_any {w:World} {d g n cap:Nat} {tail:List Value} {l:List Cel} (h:RowX w d g n cap tail l) :
  Calls Tryz.prog 422 #[.slice (some ⟨g,0,none⟩) n cap] w (CloneDone w n l):=by
 have hn:=h.pos
 have hn5:=h.small
 have hll:=h.len
 have hnil:∀ W,(binOp .eql 299 (.slice (some ⟨g,0,none⟩) n cap) (.slice none 0 0)).run Tryz.prog W=.ok (.bool false) W:=fun W=>Lib.run_eql_slice_nil W _ _ (some ⟨g,0,none⟩) n cap 0 0 Tryz.underlying299
 have hown:(w.alloc (.cells #[] 304)).ownsRow w.heap.size 304 10 (.slice (some ⟨w.heap.size,0,none⟩) 0 0) 0 []:=by
  have:=World.ownsRow_lit (e:=304) (base:=w.heap.size) (size:=10) w #[] 0 (J5 _) (by simp [maxLen]) (by simp)
  simpa using this
 have hnews:∀ j u,(fl cellC l)[j]?=some u->(w.alloc (.cells #[] 304)).cell? ((⟨g,0,none⟩:Addr).add j)=some u:=by
  intro j u hj
  have:=((h.below (Aa1 w (.cells #[] 304))).part 0 l.length (by omega)) j u
  rw [List.drop_zero,List.take_length] at this
  exact this hj
 have hlen:(fl cellC l).length=n*10:=by rw [Ab5 cellC_length,hll]
 have hone:=Bd8 Ak5 l
 replace hown:=J0 hown
 replace hnews:=J0 hnews
 replace hlen:=J0 hlen
 replace hone:=J0 hone
 clear h hll
 go_enter Tryz.func422,Tryz.ntmps422
 go_wp2_with (first
  |(with_reducible show wpList _ _ _ (⟨some 7,.call _,_,_,_,_⟩::_) _ _;go_must (refine wpList_appN elemC rfl (.tmp 5) (.tmp 6) rfl w.heap.size (.slice (some ⟨w.heap.size,0,none⟩) 0 0) 0 [] ⟨g,0,none⟩ n cap (fl cellC l) rfl rfl hown.out hlen.out hnews.out hone.out (by simp) (by omega) ?_);intro v2 w2 hown2 ho2 hat2))
 go_ret
 rw [Nat.zero_add,List.nil_append] at hown2
 obtain ⟨g2,cap2,tail2,rfl,hg2,hb2,hc2,hm2⟩:=Ai1 hown2 hn
 exact ⟨g2,cap2,tail2,rfl,hb2,hc2,hm2,((Below.refl _ _).alloc (J5 _) _).trans (ho2.below (by simp) (by simp [Value.ownBlock])),hg2⟩
def CopyDone (w:World) (n:Nat) (l:List Cel) (e:Ending) (w':World):Prop:=∃ d g cap tail,e=.returned (.pointer (some ⟨d,0,none⟩))/\RowX w' d g n cap tail l/\Below w.heap.size w w'/\w.heap.size<=d/\w.heap.size<=g
theorem copy_any {w:World} {d g n cap:Nat} {tail:List Value} {l:List Cel} (h:RowX w d g n cap tail l) :
  Calls Tryz.prog 399 #[.pointer (some ⟨d,0,none⟩)] w (CopyDone w n l):=by
 have hn:=h.pos
 have hn5:=h.small
 have hll:=J0 h.len
 have hn0:((n:Int) == 0)=false:=beq_eq_false_iff_ne.2 (by omega)
 have hlen:=J0 (Ah1 h)
 have hc:=h.slice
 have hcl:=J0 (clone_any h)
 clear h
 go_enter Tryz.func399,Tryz.ntmps399
 go_wp2_with (first
  |(go_at_call 240;(with_reducible refine (hlen.out).mono ?_);rintro e w' ⟨rfl,rfl⟩)
  |(go_at_call 422;(with_reducible refine (hcl.out).mono ?_);rintro e w1 ⟨g1,cap1,tail1,rfl,hb1,hle1,hm1,hbel1,hg1⟩))
 go_ret
 exact ⟨w1.heap.size,g1,cap1,tail1,rfl,⟨Block.made w1 _ _,hb1.alloc _,hll.out,hle1,hm1,hn,hn5⟩,hbel1.alloc hbel1.size _,hbel1.size,hg1⟩
theorem load_api {w:World} {g:Nat} {c:Cel} {v:Value} (h:Block w g 94 (apiC c v).toArray):(loadVar 94 ⟨g,0,none⟩).run Tryz.prog w=.ok (.agg (apiC c v).toArray) w :=
 run_loadVar_at w 94 ⟨g,0,none⟩ (apiC c v) _ (fun j u hj=>by rw [Addr.add_lit,Nat.zero_add];exact h.cell j (by simpa using hj)) Tryz.underlying94 rfl (Bf1 c v)
theorem Ao9 {fn:Func} {p q:Tmp} (h:fn.results=#[.cell p 94,.tmp q]) (tmps:Array Value) (w:World) (g:Nat) (c:Cel) (v:Value)
  (hp:tmps.getD p undef=.pointer (some ⟨g,0,none⟩)) (hg:Block w g 94 (apiC c v).toArray) :
  (results fn tmps).run Tryz.prog w=.ok (.tuple #[.agg (apiC c v).toArray,tmps.getD q undef]) w:=by
 have hp':tmps[p]?.getD undef=.pointer (some ⟨g,0,none⟩):=by simpa using hp
 simp [results,h,hp',asAddr,load_api hg]
def Cm3 (w:World) (x:Int) (e:Ending) (w':World):Prop:=e=.returned (.tuple #[.agg (apiC zeroCel (.slice none 0 0)).toArray,.int .i64 x])/\Below w.heap.size w w'
theorem Bp4 (w:World):Block (w.alloc (.cells #[.int .i32 0,.slice none 0 0,.int .u8 0,.int .u32 0,.int .u32 0,.int .u16 0] 94)) w.heap.size 94 (apiC zeroCel (.slice none 0 0)).toArray:=Block.made w _ _
theorem Bj4 {w1:World} {b:Nat} {c c':Cel} {v v':Value} (hr:Block w1 b 94 (splice (apiC c v) 0 (apiC c' v')).toArray):Block w1 b 94 (apiC c' v').toArray:=by
 simpa [splice,apiC,attV] using hr
theorem below_fresh {w w1:World} {o:Obj} (ho1:Only [w.heap.size] (w.alloc o) w1):Below w.heap.size w w1:=(Aa1 _ _).trans (ho1.below (by simp) (by simp))
section
variable {w:World} {d g n cap:Nat} {tail:List Value} {l:List Cel}
theorem cell_no (h:RowX w d g n cap tail l) (i:Int) (hi:i<0\/(n:Int)<=i):Calls Tryz.prog 307 #[.pointer (some ⟨d,0,none⟩),.int .i64 i] w (Cm3 w 6):=by
 have hb:=J0 (Bp4 w)
 have hn:=h.pos
 have hn0:((n:Int) == 0)=false:=beq_eq_false_iff_ne.2 (by omega)
 have h1:=h.below (Aa1 w (.cells #[.int .i32 0,.slice none 0 0,.int .u8 0,.int .u32 0,.int .u32 0,.int .u16 0] 94))
 have hl:=J0 (Ah1 h1)
 have hno:=J0 (Bx8 h1 i hi)
 clear h h1 hi
 go_enter Tryz.func307,Tryz.ntmps307
 go_wp2_with (first
  |(go_at_call 240;(with_reducible refine (hl.out).mono ?_);rintro e w' ⟨rfl,rfl⟩)
  |(go_at_call 362;(with_reducible refine (hno.out).mono ?_);rintro e w' ⟨rfl,rfl⟩)
  |(with_reducible show wpList _ _ _ (⟨none,.store _ (.tmp 4) _,_,_,_,_⟩::_) _ _;go_must (refine Ag1 rfl 94 (.tmp 4) (.tmp 16) rfl (g:=w.heap.size) (i:=0) hb.out (apiC zeroCel (.slice none 0 0)) rfl rfl (by decide) (Bf1 _ _) (Bb5 rfl) ?_);intro w1 hr1 ho1))
 exact bodyPost_ret (Ao9 rfl _ _ w.heap.size _ _ rfl (Bj4 hr1.out)) rfl ⟨rfl,below_fresh ho1⟩
def Cc8 (w:World) (c:Cel) (e:Ending) (w':World):Prop:=∃ v,e=.returned (.tuple #[.agg (apiC c v).toArray,.int .i64 0])/\Own w' w.heap.size 21 .i32 v c.m/\Below w.heap.size w w'
theorem cell_yes (h:RowX w d g n cap tail l) (h4:∀ c∈l,c.m.length<=4) (i:Nat) (hi:i<n) (hil:i<l.length):Calls Tryz.prog 307 #[.pointer (some ⟨d,0,none⟩),.int .i64 i] w (Cc8 w l[i]):=by
 have hb:=J0 (Bp4 w)
 have hn:=h.pos
 have hn5:=h.small
 have hle:=h.le
 have hcm:=h.cap
 unfold maxLen at hcm
 have hn0:((n:Int) == 0)=false:=beq_eq_false_iff_ne.2 (by omega)
 have h1:=h.below (Aa1 w (.cells #[.int .i32 0,.slice none 0 0,.int .u8 0,.int .u32 0,.int .u32 0,.int .u16 0] 94))
 have hl:=J0 (Ah1 h1)
 have hys:=J0 (Be8 h1 i (by omega) (by omega))
 have hsl:=h1.slice
 have hld:=h1.load hil
 have hto:=fun w=>Bc3 l[i] (h4 _ (List.getElem_mem hil)) w
 have hinf:=By6 l[i]
 generalize l[i]=c at hld hto hinf |-
 generalize cellC c=C at hld hto hinf
 replace hld:=J0 hld
 replace hto:=J0 hto
 replace hinf:=J0 hinf
 clear h h1 h4 hil
 go_enter Tryz.func307,Tryz.ntmps307
 go_wp2_with (first
  |(go_at_call 240;(with_reducible refine (hl.out).mono ?_);rintro e w' ⟨rfl,rfl⟩)
  |(go_at_call 362;(with_reducible refine (hys.out).mono ?_);rintro e w' ⟨rfl,rfl⟩)
  |(with_reducible show wpList _ _ _ (⟨some 23,.load _ (.tmp 22),_,_,_,_⟩::_) _ _;go_must (refine wpList_loadAt rfl 304 (.tmp 22) rfl ⟨g,i*10,none⟩ rfl C _ hld.out Tryz.underlying304 rfl hinf.out ?_)))
 refine (hto.out _).mono ?_
 rintro e w2 ⟨v,rfl,hown,hb2⟩
 have hb2':=J0 (hb.out.only (Only.of_below hb2 []) (by simp))
 have hone:=J0 (Bb5 (c:=c) (Own.one hown))
 go_wp2_with (first
  |(with_reducible show wpList _ _ _ (⟨none,.store _ (.tmp 4) _,_,_,_,_⟩::_) _ _;go_must (refine Ag1 rfl 94 (.tmp 4) (.tmp 24) rfl (g:=w.heap.size) (i:=0) hb2'.out (apiC c v) rfl rfl (by simp [apiC,attV]) (Bf1 _ _) (hone.out) ?_);intro w3 hr3 ho3))
 have hb3:=Bj4 hr3.out
 have hty:=fun g hg=>Own.typ hown (g:=g) hg
 have hown3:=hown.only ho3 (fun g hg hm=>by
  simp at hm;subst hm
  exact absurd (Typ.inj (hty _ hg) (Block.typ hb2'.out)) (by decide))
 have hbw:Below w.heap.size w w2:=Aa0 (Aa1 _ _) hb2
 exact bodyPost_ret (Ao9 rfl _ _ w.heap.size _ _ rfl hb3) rfl ⟨v,rfl,Own.lower hown3 (by simp),hbw.trans (ho3.below hbw.size (by simp))⟩
end
end Go.Proofs.YtbafmljidapmgaaGreatDoor.Rw
namespace Go.Proofs.YtbafmljidapmgaaGreatDoor.Com
open Go RowKit
section
variable {P:Program}
theorem run_loadVar_at (w:World) (ty:TypeId) (ad:Addr) (cs:List Value) (d:TypeDesc) (hc:∀ j v,cs[j]?=some v->w.cell? (ad.add j)=some v)
  (hu:P.underlying ty=some d) (hd:(match d with|.struct _|.array _ _=>true|_=>false)=true) (hi:(P.info? ty).map (·.size)=some cs.length):(loadVar ty ad).run P w=.ok (.agg cs.toArray) w:=by
 have hl:=run_loadCells_list (P:=P) w ad cs hc
 have hagg:(isAgg ty).run P w=.ok true w:=by
  unfold isAgg
  rw [Sem.run_bind,run_underlying hu w]
  cases d<;>simp_all
 cases hq:P.info? ty with
 |none=>simp [hq] at hi
 |some i =>
  have hs:i.size=cs.length:=by simpa [hq] using hi
  simp [loadVar,Sem.run_bind,hagg,sizeOf,typeInfo,hq,hs,hl]
end
end Go.Proofs.YtbafmljidapmgaaGreatDoor.Com
namespace Go.Proofs.YtbafmljidapmgaaGreatDoor.Lns
open Go RowKit Com Rw
structure En where
 id:Int
 d:Nat
 g:Nat
 dr:Nat
 l:List Cel
def Ab9 (e:En):List Value:=[.int .i64 e.id,.pointer (some ⟨e.d,0,none⟩)]
theorem Ab8 (e:En):(Ab9 e).length=2:=rfl
theorem Bq5 (e:En):∀ v∈Ab9 e,v.oneCell'=true:=by
 intro v hv
 simp only [Ab9,List.mem_cons,List.not_mem_nil,or_false] at hv
 rcases hv with rfl|rfl<;>rfl
theorem Ae1 {w:World} {k j:Nat} {t t':TypeId} (h:Typ w k t) (h':Typ w j t') (ht:t≠t'):k∉[j]:=by
 intro hm
 obtain rfl:k=j:=by simpa using hm
 exact ht (Typ.inj h h')
theorem Ab6 {w:World} {B:Nat} {e:TypeId} {s n:Nat} {v:Value} {xs:List Value} (h:w.ownsRow B e s v n xs):∀ g,v.ownBlock=some g->Typ w g e:=by
 intro g hg
 rcases h.2 with ⟨rfl,_⟩|⟨x,cap,cur,rfl,_,hh,_⟩
 ·cases hg
 ·obtain rfl:x=g:=by simpa [Value.ownBlock] using hg
  exact ⟨cur,_,hh⟩
theorem Bu7 {w:World} {k B:Nat} {t e:TypeId} {s n:Nat} {v:Value} {xs:List Value} (h:Typ w k t) (h':w.ownsRow B e s v n xs) (ht:t≠e):k∉v.ownBlock.toList:=by
 intro hm
 exact ht (Typ.inj h (Ab6 h' k (by simpa using hm)))
theorem Ag5 {w w':World} {L:List Nat} {B:Nat} {e:TypeId} {s n:Nat} {v:Value} {xs:List Value} (h:w.ownsRow B e s v n xs) (ho:Only L w w') (hn:∀ g,v.ownBlock=some g->g∉L):w'.ownsRow B e s v n xs:=by
 refine ⟨h.1,?_⟩
 rcases h.2 with h2|⟨g,cap,cur,rfl,hg,hh,r⟩
 ·exact .inl h2
 ·exact .inr ⟨g,cap,cur,rfl,hg,(ho.block g (lt_of_block hh) (hn g rfl)).trans hh,r⟩
theorem Ad0 {w:World} {B:Nat} {e:TypeId} {s n:Nat} {v:Value} {xs:List Value} (h:w.ownsRow B e s v n xs):∃ ao c,v=.slice ao n c/\n<=c/\c<=maxLen:=by
 rcases h.2 with ⟨rfl,h0⟩|⟨g,cap,cur,rfl,_,_,hc,hm,_⟩
 ·exact ⟨none,0,by rw [h0],by omega,by unfold maxLen;omega⟩
 ·exact ⟨_,cap,rfl,hc,hm⟩
theorem infoL:(Tryz.prog.info? 298).map (·.size)=some 2:=by kernel_rfl
theorem block2 {w:World} {g:Nat} {t:TypeId} {a b:Value} (h:Block w g t #[a,b]) (u v:Value):Block ((w.setCell ⟨g,0,none⟩ u).setCell ⟨g,1,none⟩ v) g t #[u,v]:=(h.set 0 u).set 1 v
theorem Bm4 {P:Program} {w:World} {g:Nat} {t ty:TypeId} {cs:Array Value} {d:TypeDesc} (h:Block w g t cs) (hu:P.underlying ty=some d) (hd:(match d with|.struct _|.array _ _=>true|_=>false)=true) (hi:(P.info? ty).map (·.size)=some cs.size):(loadVar ty ⟨g,0,none⟩).run P w=.ok (.agg cs) w :=
 Com.run_loadVar_at w ty ⟨g,0,none⟩ cs.toList _ (fun j u hj=>by rw [Addr.add_lit,Nat.zero_add];exact h.cell j (by simpa using hj)) hu hd (by simpa using hi)
theorem Ai7 {P:Program} {fn:Func} {p q:Tmp} {ty t:TypeId} {d:TypeDesc} (h:fn.results=#[.cell p ty,.tmp q]) (tmps:Array Value) (w:World) (g:Nat) (cs:Array Value)
  (hp:tmps.getD p undef=.pointer (some ⟨g,0,none⟩)) (hg:Block w g t cs) (hu:P.underlying ty=some d) (hd:(match d with|.struct _|.array _ _=>true|_=>false)=true) (hi:(P.info? ty).map (·.size)=some cs.size) :
  (results fn tmps).run P w=.ok (.tuple #[.agg cs,tmps.getD q undef]) w:=by
 have hp':tmps[p]?.getD undef=.pointer (some ⟨g,0,none⟩):=by simpa using hp
 simp [results,h,hp',asAddr,Bm4 hg hu hd hi]
def RowG (B:Nat) (w:World) (e:En):Prop:=Rw.Good e.l/\B<=e.d/\B<=e.g/\∃ n cap tail,RowX w e.d e.g n cap tail e.l
theorem RowG.typ {B:Nat} {w:World} {e:En} (h:RowG B w e):Typ w e.d 301/\Typ w e.g 304:=by
 obtain ⟨_,_,_,n,cap,tail,hx⟩:=h
 exact ⟨Block.typ hx.ptr,Block.typ hx.row⟩
theorem RowG.only {B:Nat} {w w':World} {e:En} {L:List Nat} (h:RowG B w e) (ho:Only L w w') (hd:e.d∉L) (hg:e.g∉L):RowG B w' e:=by
 obtain ⟨h1,h2,h3,n,cap,tail,hx⟩:=h
 exact ⟨h1,h2,h3,n,cap,tail,hx.kept ho hd hg⟩
theorem RowG.below {B:Nat} {w w':World} {e:En} (h:RowG B w e) (hb:Below w.heap.size w w'):RowG B w' e:=h.only (Only.of_below hb []) (by simp) (by simp)
structure SX0 (B:Nat) (w:World) (s nx most:Nat) (sv:Value) (o:Nat) (P:List En):Prop where
 blk:Block w s 203 #[.int .i64 nx,.int .i64 most,sv,.int .i64 o]
 own:w.ownsRow B 298 2 sv P.length (fl Ab9 P)
 le:P.length<=most
 old:P.length<most->o=0
 olt:o<P.length\/o=0
 most:most<=10000
 pos:0<nx
 small:nx<=10000000000
 lo:B<=s
def SX (B:Nat) (w:World) (s nx most:Nat) (sv:Value) (R:List En):Prop:=(∃ o P,SX0 B w s nx most sv o P/\lg P o=R)/\∀ e∈R,RowG B w e
section
variable {B:Nat} {w w':World} {s nx most o:Nat} {sv:Value} {P R:List En} {L:List Nat}
theorem SX0.cells (h:SX0 B w s nx most sv o P):w.cell? ⟨s,0,none⟩=some (.int .i64 nx)/\w.cell? ⟨s,1,none⟩=some (.int .i64 most)/\w.cell? ⟨s,2,none⟩=some sv/\w.cell? ⟨s,3,none⟩=some (.int .i64 o) :=
 ⟨h.blk.cell 0 rfl,h.blk.cell 1 rfl,h.blk.cell 2 rfl,h.blk.cell 3 rfl⟩
theorem SX0.only (h:SX0 B w s nx most sv o P) (ho:Only L w w') (hs:s∉L) (hp:∀ g,sv.ownBlock=some g->g∉L):SX0 B w' s nx most sv o P :=
 ⟨h.blk.only ho hs,Ag5 h.own ho hp,h.le,h.old,h.olt,h.most,h.pos,h.small,h.lo⟩
theorem SX.only (h:SX B w s nx most sv R) (ho:Only L w w') (hs:s∉L) (hp:∀ g,sv.ownBlock=some g->g∉L) (hr:∀ e∈R,e.d∉L/\e.g∉L):SX B w' s nx most sv R:=by
 obtain ⟨⟨o,P,h0,hR⟩,hg⟩:=h
 exact ⟨⟨o,P,h0.only ho hs hp,hR⟩,fun e he=>(hg e he).only ho (hr e he).1 (hr e he).2⟩
theorem SX.below (h:SX B w s nx most sv R) (hb:Below w.heap.size w w'):SX B w' s nx most sv R:=h.only (Only.of_below hb []) (by simp) (by simp) (by simp)
theorem SX.typ (h:SX B w s nx most sv R):Typ w s 203:=by
 obtain ⟨⟨o,P,h0,hR⟩,hg⟩:=h
 exact Block.typ h0.blk
theorem SX.ptyp (h:SX B w s nx most sv R):∀ g,sv.ownBlock=some g->B<=g/\g<w.heap.size/\Typ w g 298:=by
 obtain ⟨⟨o,P,h0,hR⟩,hg⟩:=h
 intro g hx
 have:=World.ownsRow.lt h0.own g hx
 exact ⟨this.1,this.2,Ab6 h0.own g hx⟩
theorem SX0.len (h:SX0 B w s nx most sv o P):∃ ao c,sv=.slice ao P.length c/\P.length<=c/\c<=maxLen:=Ad0 h.own
theorem SX0.place (h:SX0 B w s nx most sv o P) {i:Nat} (hi:i<P.length):∃ g c,sv=.slice (some ⟨g,0,none⟩) P.length c/\P.length<=c/\c<=maxLen/\w.cell? ⟨g,i*2,none⟩=some (.int .i64 P[i].id)/\w.cell? ⟨g,i*2+1,none⟩=some (.pointer (some ⟨P[i].d,0,none⟩)):=by
 obtain ⟨g,cap,tail,rfl,hg,hb,hc,hm⟩:=Ai1 h.own (by omega)
 have e0:=Bt7 Ab8 hi (show 0<2 by decide)
 have e1:=Bt7 Ab8 hi (show 1<2 by decide)
 have hl:i*2+1<(fl Ab9 P).length:=by rw [Ab5 Ab8];omega
 refine ⟨g,cap,rfl,hc,hm,hb.cell _ ?_,hb.cell _ ?_⟩
 ·rw [List.getElem?_toArray,List.getElem?_append_left (by omega)];exact e0
 ·rw [List.getElem?_toArray,List.getElem?_append_left hl];exact e1
theorem SX0.drew (h:SX0 B w s nx most sv o P) (q:Nat):SX0 B (w.drewN q) s nx most sv o P:=h.only (Only.drewN [] w q) (by simp) (by simp)
end
section
variable {B:Nat} {w w':World} {s nx most o:Nat} {sv:Value} {P R:List En}
theorem Bm6 (h:SX0 B w s nx most sv o P):Calls Tryz.prog 190 #[.pointer (some ⟨s,0,none⟩)] w fun e w'=>e=.returned (.bool true)/\w=w':=by
 obtain ⟨h0,_⟩:=h.cells
 have hp:=h.pos
 clear h
 go_enter Tryz.func190,Tryz.ntmps190
 go_wp2
 go_ret
 exact ⟨rfl,rfl⟩
theorem Ae8 (h:SX0 B w s nx most sv o P):Calls Tryz.prog 242 #[.pointer (some ⟨s,1,none⟩)] w fun e w'=>e=.returned (.int .i64 P.length)/\w=w':=by
 obtain ⟨_,_,h2,_⟩:=h.cells
 obtain ⟨ao,c,rfl,_⟩:=h.len
 generalize P.length=n at h2 |-
 clear h
 go_enter Tryz.func242,Tryz.ntmps242
 go_wp2
 go_ret
 exact ⟨rfl,rfl⟩
theorem Ag6 (h:SX0 B w s nx most sv o P) (i:Nat) (hi:i<=100000) (hn:0<P.length):Calls Tryz.prog 293 #[.pointer (some ⟨s,1,none⟩),.int .i64 i] w fun e w'=>e=.returned (.int .i64 ((o+i) % P.length:Nat))/\∃ q,w'=w.drewN q:=by
 obtain ⟨_,_,_,h3⟩:=h.cells
 have hc:=fun q=>Ae8 (h.drew q)
 have ho:=h.olt
 have hle:=Nat.le_trans h.le h.most
 have hne:((P.length:Int) == 0)=false:=beq_eq_false_iff_ne.2 (by omega)
 generalize P.length=n at hc ho hle hn hne |-
 obtain ⟨m,hm⟩:∃ m,m=(o+i) % n:=⟨_,rfl⟩
 rw [<- hm]
 replace hm:=J0 hm
 replace hc:=J0 hc
 clear h
 go_enter Tryz.func293,Tryz.ntmps293
 go_wp2
 go_quiet ((go_at_call 242;with_reducible exact Af2 (hc.out _)))
 go_wp2
 go_ret
 refine ⟨Ab4 ?_,_,rfl⟩
 rw [hm.out,Int.natCast_emod,Int.natCast_add]
end
