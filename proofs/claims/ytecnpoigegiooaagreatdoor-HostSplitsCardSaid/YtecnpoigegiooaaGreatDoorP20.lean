/- Part 20 of HostSplits. -/
import Derived.Orders
import Derived.Test.YtecnpoigegiooaaGreatDoorP19
import Derived.RegionTactic
import Derived.Test.YtecnpoigegiooaaGreatDoorP10
set_option maxHeartbeats 16000000
set_option maxRecDepth 100000
namespace Go.Proofs.YtecnpoigegiooaaGreatDoor.Mds
open Go RowKit Com
theorem Bs4 {l:Array Bool} {i:Nat} (h:i<l.size) (c d:Bool):l.getD i c=l.getD i d:=by
 simp[Array.getD,h]
theorem wpOp_insert {ops:Array Oper} {Q:Exit->Act->World->Prop} {i:Nat} {o:Oper} {a:Act} {w w':World} {K:Act->World->Prop} (ho:ops[i]?=some o) (hg:o.guard=none) (hd:o.dst=none) {T:TypeId} {m k v:Operand} (hop:o.op=.insert T m k v)
  (hrun:(Instr.mapUpdate T (a.eval m) (a.eval k) (a.eval v)).run Tryz.prog w=.ok () w') (hK:K a w'):wpOp Tryz.prog ops Q i K a w:=by
 unfold wpOp
 simp only[ho]
 rw[if_pos (by simp[Region.wanted,hg])]
 left
 unfold Oper.wp
 simp[execOp,hop,hrun,Result.andThen]
 show K (a.put o.dst undef) w'
 rw[hd]
 exact hK
theorem By3 {xs:Array Edge} {n:Nat} {all:List Nat} {tail:Nat->Bool} (h:(xs.all fun e=>decide (e.on<n) && !all.contains e.on && !tail e.on)=true):∀e∈xs,e.on<n/\e.on∉all/\tail e.on=false:=by
 intro e he
 have:=Array.all_eq_true_iff_forall_mem.1 h e he
 simpa[and_assoc] using this
theorem Cd4 {xs:Array Edge} {md:Region.Mode} {i:Nat} (h:(xs.any fun e=>Region.binds md e && e.on == i)=true):∃e∈xs,Region.binds md e=true/\e.on=i:=by
 obtain⟨e,he,hb⟩:=Array.any_eq_true'.1 h
 simp only[Bool.and_eq_true,beq_iff_eq] at hb
 exact⟨e,he,hb.1,hb.2⟩
theorem wpOp_makeMap {ops:Array Oper} {Q:Exit->Act->World->Prop} {i:Nat} {o:Oper} {a:Act} {w:World} {K:Act->World->Prop} {T:TypeId} (ho:ops[i]?=some o) (hg:o.guard=none) (hop:o.op=.makeMap T none)
  (hK:K (a.put o.dst (.map (some w.heap.size))) (w.alloc (.map #[] 0))):wpOp Tryz.prog ops Q i K a w:=by
 unfold wpOp
 simp only[ho]
 rw[if_pos (by simp[Region.wanted,hg])]
 left
 have hrun:=run_makeMap (P:=Tryz.prog) T w
 unfold Oper.wp
 simp[execOp,hop,hrun,Result.andThen]
 exact hK
theorem listed_eq {l:Array Bool} {n:Nat} {tail:Nat->Bool} (hs:l.size=n) (h:∀j,j<n->(l.getD j true=false↔tail j=true)):l=((List.range n).map fun j=>!tail j).toArray:=by
 subst hs
 apply Array.ext
 ·simp
 intro j h1 h2
 have:=h j h1
 rw[show l.getD j true=l[j] by simp[Array.getD,h1]] at this
 simp only[List.getElem_toArray,List.getElem_map,List.getElem_range]
 cases hl:l[j]<;>cases ht:tail j<;>simp_all
theorem inserts {ops:Array Oper} {Q:Exit->Act->World->Prop} {md:Region.Mode} {a:Act} {b:Nat} (ent:Nat->En) (all:List Nat) (tail:Nat->Bool)
  (hop:∀i∈all,∃o,ops[i]?=some o/\o.guard=none/\o.dst=none/\(o.after.all fun e=>decide (e.on<ops.size) && !all.contains e.on && !tail e.on)=true /\
   ∃m k v,o.op=.insert 303 m k v/\a.eval m=.map (some b)/\a.eval k=kv (ent i).p (ent i).n/\a.eval v=.func (.func (ent i).f) #[] #[])
  (hwait:∀j,tail j=true->∃o,ops[j]?=some o/\∀i∈all,(o.after.any fun e=>Region.binds md e && e.on == i)=true)
  (hw:∀i∈all,(Lit.int .i64 (ent i).n).wf=true) (hdis:∀i∈all,∀j∈all,(ent i).p=(ent j).p->(ent i).n=(ent j).n->i=j)
  (w0:World) (f:Nat)
  (hend:∀listed l w,listed.size=ops.size->(∀j,j<ops.size->(listed.getD j true=false↔tail j=true))->Mp w b l->(∀e,e∈l↔∃i∈all,e=ent i)->Only [b] w0 w->wpAny Tryz.prog md ops Q f listed a w) :
  ∀(n:Nat) (todo:List Nat) (l:List En) (w:World) (listed:Array Bool),todo.length=n->todo.Nodup->(∀i∈todo,i∈all)->listed.size=ops.size->(∀j,j<ops.size->(listed.getD j true=false↔j∈todo\/tail j=true)) ->
   Mp w b l->(∀e,e∈l↔∃i∈all,i∉todo/\e=ent i)->Only [b] w0 w->wpAny Tryz.prog md ops Q (n+f) listed a w:=by
 have hin:∀i∈all,i<ops.size:=fun i hi=>by
  obtain⟨o,ho,_⟩:=hop i hi
  exact(Array.getElem?_eq_some_iff.1 ho).1
 intro n
 induction n with
 |zero =>
  intro todo l w listed hn hnd hsub hsz hl hm hmem ho
  have h0:todo=[]:=List.eq_nil_of_length_eq_zero hn
  subst h0
  rw[Nat.zero_add]
  exact hend listed l w hsz (fun j hj=>by simpa using hl j hj) hm (fun e=>by simpa using hmem e) ho
 |succ n ih =>
  intro todo l w listed hn hnd hsub hsz hl hm hmem hon
  rw[Nat.add_right_comm]
  obtain⟨i0,hi0⟩:∃i0,i0∈todo:=by
   rcases todo with _|⟨x,r⟩
   ·simp at hn
   ·exact⟨x,List.mem_cons_self⟩
  have ready:∀i∈todo,i∈Region.ready md ops listed:=fun i hi=>by
   obtain⟨o,ho,_,_,haf,_⟩:=hop i (hsub i hi)
   refine mem_ready.2 ⟨(hl i (hin i (hsub i hi))).2 (.inl hi),o,ho,fun e he _=>?_⟩
   obtain⟨q1,q2,q3⟩:=By3 haf e he
   rw[Bs4 (by omega) false true]
   cases hc:listed.getD e.on true
   ·rcases(hl e.on q1).1 hc with h|h
    ·exact absurd (hsub _ h) q2
    ·rw[q3] at h
     cases h
   ·rfl
  refine⟨fun h0=>(by have:=ready i0 hi0;rw[h0] at this;simp at this),fun i hi=>?_⟩
  obtain⟨hun,o',ho',hall⟩:=mem_ready.1 hi
  have hlt:i<ops.size:=(Array.getElem?_eq_some_iff.1 ho').1
  rcases(hl i hlt).1 hun with hit|htl
  case inr =>
   obtain⟨o2,ho2,hw2⟩:=hwait i htl
   rw[ho'] at ho2
   cases ho2
   obtain⟨e,he,hb,hon2⟩:=Cd4 (hw2 i0 (hsub i0 hi0))
   have h1:=hall e he hb
   have h2:=(hl i0 (hin i0 (hsub i0 hi0))).2 (.inl hi0)
   rw[hon2,Bs4 (by have:=hin i0 (hsub i0 hi0);omega) false true,h2] at h1
   cases h1
  obtain⟨o,ho,hg,hd,haf,m,k,v,hopi,em,ek,ev⟩:=hop i (hsub i hit)
  have hfine:Fine l:=fun e he=>by
   obtain⟨j,hj,_,rfl⟩:=(hmem e).1 he
   exact hw j hj
  have hne:∀e∈l,¬(e.p=(ent i).p/\e.n=(ent i).n):=by
   rintro e he ⟨q1,q2⟩
   obtain⟨j,hj,hjt,rfl⟩:=(hmem e).1 he
   have:=hdis j hj i (hsub i hit) q1 q2
   subst this
   exact hjt hit
  obtain⟨w',hrun,hm',hon'⟩:=put_new hm hfine (ent i).p (ent i).n (hw i (hsub i hit)) (ent i).f hne
  refine wpOp_insert ho hg hd hopi (by rw[em,ek,ev];exact hrun) ?_
  refine ih (todo.erase i) (l++[⟨(ent i).p,(ent i).n,(ent i).f⟩]) w' (listed.setIfInBounds i true) (by rw[List.length_erase_of_mem hit];omega) (hnd.erase i) (fun j hj=>hsub j (List.mem_of_mem_erase hj)) (by simpa using hsz) ?_ hm' ?_ (hon.trans hon')
  ·intro j hj
   by_cases hji:i=j
   ·subst hji
    have ht:listed.size > i:=by omega
    have h1:(listed.setIfInBounds i true).getD i true=true:=by simp[ht]
    rw[h1]
    constructor
    ·intro h
     cases h
    ·rintro(h|h)
     ·exact absurd h (hnd.not_mem_erase)
     ·obtain⟨o2,ho2,hw2⟩:=hwait i h
      rw[ho] at ho2
      cases ho2
      obtain⟨e,he,hb,hon2⟩:=Cd4 (hw2 i (hsub i hit))
      exact absurd (hsub i hit) (hon2▸(By3 haf e he).2.1)
   ·rw[getD_set_ne true hji,hl j hj,List.mem_erase_of_ne (Ne.symm hji)]
  ·intro e
   rw[List.mem_append,hmem e,List.mem_singleton]
   constructor
   ·rintro(⟨j,hj,hjt,rfl⟩|rfl)
    ·exact⟨j,hj,fun h=>hjt (List.mem_of_mem_erase h),rfl⟩
    ·exact⟨i,hsub i hit,hnd.not_mem_erase,rfl⟩
   ·rintro⟨j,hj,hjt,rfl⟩
    by_cases hji:j=i
    ·subst hji
     exact .inr rfl
    ·exact .inl ⟨j,hj,fun h=>hjt ((List.mem_erase_of_ne hji).2 h),rfl⟩
def Cs4:Nat->Nat
 |0=>295
 |1=>296
 |2=>297
 |3=>298
 |4=>299
 |5=>300
 |6=>294
 |7=>301
 |_=>0
def tab:List En:=[⟨false,4,295⟩,⟨false,20,296⟩,⟨true,1,297⟩,⟨true,6,298⟩,⟨true,7,299⟩,⟨true,25,300⟩,⟨true,47,294⟩,⟨true,1047,294⟩,⟨true,1049,294⟩,⟨true,2004,301⟩]
def ent:Nat->En
 |2=>⟨false,4,295⟩
 |4=>⟨false,20,296⟩
 |6=>⟨true,1,297⟩
 |8=>⟨true,6,298⟩
 |10=>⟨true,7,299⟩
 |12=>⟨true,25,300⟩
 |15=>⟨true,47,294⟩
 |18=>⟨true,1047,294⟩
 |21=>⟨true,1049,294⟩
 |23=>⟨true,2004,301⟩
 |_=>⟨false,0,0⟩
def all:List Nat:=[2,4,6,8,10,12,15,18,21,23]
def tail (j:Nat):Bool:=j == 24 || j == 25
theorem tab_ent (e:En):(∃i∈all,e=ent i)↔e∈tab:=by
 have h:tab=all.map ent:=rfl
 rw[h,List.mem_map]
 exact⟨fun ⟨i,hi,he⟩=>⟨i,hi,he.symm⟩,fun ⟨i,hi,he⟩=>⟨i,hi,he.symm⟩⟩
theorem fineL (l:List En) (h:(l.all fun e=>(Lit.int .i64 e.n).wf)=true):Fine l:=fun e he=>List.all_eq_true.1 h e he
theorem fine_tab:Fine tab:=fineL _ (by decide)
theorem tab_at {p:Bool} {n:Int} {e:En} (he:e∈tab) (hp:e.p=p) (hn:e.n=n):spot p n<8/\e.f=Cs4 (spot p n):=by
 subst hp
 subst hn
 simp only[tab,List.mem_cons,List.not_mem_nil,or_false] at he
 rcases he with rfl|rfl|rfl|rfl|rfl|rfl|rfl|rfl|rfl|rfl
 all_goals exact⟨by decide,rfl⟩
theorem spot_tab {p:Bool} {n:Int} (h:∀e∈tab,¬(e.p=p/\e.n=n)):spot p n=8:=by
 simp only[tab,List.mem_cons,List.not_mem_nil,or_false,forall_eq_or_imp,forall_eq] at h
 obtain⟨h0,h1,h2,h3,h4,h5,h6,h7,h8,h9⟩:=h
 cases p
 all_goals
  unfold spot
  simp at *
 ·rw[if_neg (by omega),if_neg (by omega)]
 ·rw[if_neg (by omega),if_neg (by omega),if_neg (by omega),if_neg (by omega),if_neg (by omega),if_neg (by omega),if_neg (by omega),if_neg (by omega)]
def Bq7 (w:World) (b:Nat):Prop:=∃l,Mp w b l/\∀e,e∈l↔e∈tab
theorem Bk1 {w:World} {b:Nat} (h:Bq7 w b) (p:Bool) {n:Int} (hw:(Lit.int .i64 n).wf=true) :
  (spot p n=8/\(Instr.lookup 303 (.map (some b)) (kv p n) true).run Tryz.prog w=.ok (.tuple #[.nilFunc,.bool false]) w) \/
  (spot p n<8/\(Instr.lookup 303 (.map (some b)) (kv p n) true).run Tryz.prog w=.ok (.tuple #[.func (.func (Cs4 (spot p n))) #[] #[],.bool true]) w):=by
 obtain⟨l,hm,hl⟩:=h
 rcases Bo9 hm (fun e he=>fine_tab e ((hl e).1 he)) p hw with ⟨h1,h2⟩|⟨e,he,hp,hn,hr⟩
 ·exact .inl ⟨spot_tab fun e he=>h2 e ((hl e).2 he),h1⟩
 ·obtain⟨q1,q2⟩:=tab_at ((hl e).1 he) hp hn
  rw[q2] at hr
  exact .inr ⟨q1,hr⟩
theorem Af4 (w:World) :
  Calls Tryz.prog 291 #[] w fun e w'=>∃b,e=.returned (.map (some b))/\Bq7 w' b/\Below w.heap.size w w':=by
 go_enter Tryz.func291,Tryz.ntmps291
 go_wp2
 refine wp_region_any rfl ?_
 refine wpAny_take (i:=1) (oi:=⟨some 3,_,_,_,_,_⟩) (v:=.agg #[.bool false,.int .i64 4]) rfl (by kernel_rfl) (by kernel_rfl) (by kernel_rfl) (fun _ _ _ h=>h) (.inl ⟨by rfl,by intro w;go_simp⟩) ?_
 refine wpAny_take (i:=3) (oi:=⟨some 4,_,_,_,_,_⟩) (v:=.agg #[.bool false,.int .i64 20]) rfl (by kernel_rfl) (by kernel_rfl) (by kernel_rfl) (fun _ _ _ h=>h) (.inl ⟨by rfl,by intro w;go_simp⟩) ?_
 refine wpAny_take (i:=5) (oi:=⟨some 5,_,_,_,_,_⟩) (v:=.agg #[.bool true,.int .i64 1]) rfl (by kernel_rfl) (by kernel_rfl) (by kernel_rfl) (fun _ _ _ h=>h) (.inl ⟨by rfl,by intro w;go_simp⟩) ?_
 refine wpAny_take (i:=7) (oi:=⟨some 6,_,_,_,_,_⟩) (v:=.agg #[.bool true,.int .i64 6]) rfl (by kernel_rfl) (by kernel_rfl) (by kernel_rfl) (fun _ _ _ h=>h) (.inl ⟨by rfl,by intro w;go_simp⟩) ?_
 refine wpAny_take (i:=9) (oi:=⟨some 7,_,_,_,_,_⟩) (v:=.agg #[.bool true,.int .i64 7]) rfl (by kernel_rfl) (by kernel_rfl) (by kernel_rfl) (fun _ _ _ h=>h) (.inl ⟨by rfl,by intro w;go_simp⟩) ?_
 refine wpAny_take (i:=11) (oi:=⟨some 8,_,_,_,_,_⟩) (v:=.agg #[.bool true,.int .i64 25]) rfl (by kernel_rfl) (by kernel_rfl) (by kernel_rfl) (fun _ _ _ h=>h) (.inl ⟨by rfl,by intro w;go_simp⟩) ?_
 refine wpAny_take (i:=13) (oi:=⟨some 9,_,_,_,_,_⟩) (v:=.agg #[.bool true,.int .i64 47]) rfl (by kernel_rfl) (by kernel_rfl) (by kernel_rfl) (fun _ _ _ h=>h) (.inl ⟨by rfl,by intro w;go_simp⟩) ?_
 refine wpAny_take (i:=14) (oi:=⟨some 10,_,_,_,_,_⟩) (v:=.func (.func 294) #[] #[]) rfl (by kernel_rfl) (by kernel_rfl) (by kernel_rfl) (fun _ _ _ h=>h) (.inl ⟨by rfl,by intro w;go_simp⟩) ?_
 refine wpAny_take (i:=16) (oi:=⟨some 11,_,_,_,_,_⟩) (v:=.agg #[.bool true,.int .i64 1047]) rfl (by kernel_rfl) (by kernel_rfl) (by kernel_rfl) (fun _ _ _ h=>h) (.inl ⟨by rfl,by intro w;go_simp⟩) ?_
 refine wpAny_take (i:=17) (oi:=⟨some 12,_,_,_,_,_⟩) (v:=.func (.func 294) #[] #[]) rfl (by kernel_rfl) (by kernel_rfl) (by kernel_rfl) (fun _ _ _ h=>h) (.inl ⟨by rfl,by intro w;go_simp⟩) ?_
 refine wpAny_take (i:=19) (oi:=⟨some 13,_,_,_,_,_⟩) (v:=.agg #[.bool true,.int .i64 1049]) rfl (by kernel_rfl) (by kernel_rfl) (by kernel_rfl) (fun _ _ _ h=>h) (.inl ⟨by rfl,by intro w;go_simp⟩) ?_
 refine wpAny_take (i:=20) (oi:=⟨some 14,_,_,_,_,_⟩) (v:=.func (.func 294) #[] #[]) rfl (by kernel_rfl) (by kernel_rfl) (by kernel_rfl) (fun _ _ _ h=>h) (.inl ⟨by rfl,by intro w;go_simp⟩) ?_
 refine wpAny_take (i:=22) (oi:=⟨some 15,_,_,_,_,_⟩) (v:=.agg #[.bool true,.int .i64 2004]) rfl (by kernel_rfl) (by kernel_rfl) (by kernel_rfl) (fun _ _ _ h=>h) (.inl ⟨by rfl,by intro w;go_simp⟩) ?_
 refine wpAny_all (rs:=[0]) (by kernel_rfl) (by simp) ?_
 intro i hi
 obtain rfl:=List.mem_singleton.1 hi
 refine wpOp_makeMap (o:=⟨some 2,_,_,_,_,_⟩) rfl rfl rfl ?_
 refine inserts ent all tail ?_ ?_ (of_decide_eq_true (by kernel_rfl)) (of_decide_eq_true (by kernel_rfl)) (w.drew.alloc (.map #[] 0)) 2 ?_ 10 all [] _ _ rfl (of_decide_eq_true (by kernel_rfl)) (fun _ h=>h) (by kernel_rfl) (of_decide_eq_true (by kernel_rfl)) (Mp.made w.drew) ?_ (Only.refl _ _)
 ·intro i hi
  simp only[all,List.mem_cons,List.not_mem_nil,or_false] at hi
  rcases hi with rfl|rfl|rfl|rfl|rfl|rfl|rfl|rfl|rfl|rfl
  all_goals exact⟨_,rfl,rfl,rfl,by kernel_rfl,_,_,_,rfl,rfl,rfl,rfl⟩
 ·intro j hj
  simp only[tail,Bool.or_eq_true,beq_iff_eq] at hj
  rcases hj with rfl|rfl
  all_goals exact⟨_,rfl,of_decide_eq_true (by kernel_rfl)⟩
 ·intro listed l w1 hs hl hm hmem ho
  have hL:=listed_eq hs hl
  subst hL
  have hb:Below w.heap.size w w1:=((Aa4 (Below.refl w.heap.size w) 1).trans (Aa1 w.drew _)).trans (ho.below (by simp) (by simp))
  have hP:Bq7 w1 w.drew.heap.size:=⟨l,hm,fun e=>(hmem e).trans (tab_ent e)⟩
  refine wpAny_take (i:=24) (oi:=⟨some 16,_,_,_,_,_⟩) (v:=.map (some w.drew.heap.size)) rfl (by kernel_rfl) (by kernel_rfl) (by kernel_rfl) (fun _ _ _ h=>h) (.inl ⟨by rfl,by intro w;go_simp⟩) ?_
  refine wpAny_take (i:=25) (oi:=⟨some 0,_,_,_,_,_⟩) (v:=.map (some w.drew.heap.size)) rfl (by kernel_rfl) (by kernel_rfl) (by kernel_rfl) (fun _ _ _ h=>h) (.inl ⟨by rfl,by intro w;go_simp⟩) ?_
  refine wpAny_done (by kernel_rfl) ?_ _
  dsimp only [Act.put]
  go_wp2
  go_ret
  exact⟨_,rfl,hP,hb⟩
 ·intro e
  constructor
  ·intro h
   simp at h
  ·rintro⟨i,hi,h,_⟩
   exact absurd hi h
def mA (m:Md):Array Value:=#[.bool m.a0,.bool m.a1,.bool m.a2,.bool m.a3,.bool m.a4,.bool m.a5,.bool m.a6,.bool m.a7]
theorem Ao4 (m:Md):(mA m).size=8:=rfl
theorem mA_one (m:Md):(mA m).all (·.oneCell')=true:=by simp[mA,Value.oneCell']
theorem mA_info (m:Md):(Tryz.prog.info? 80).map (·.size)=some (mA m).size:=by
 rw[Ao4]
 kernel_rfl
theorem Bb6 (m:Md) {k:Nat} (hk:k<8) (b:Bool):((mA m).toList.take k++[Value.bool b]++(mA m).toList.drop (k+1)).toArray=mA (m.set k b):=by
 rcases small (Nat.le_of_lt hk) with rfl|rfl|rfl|rfl|rfl|rfl|rfl|rfl|rfl
 all_goals first|rfl|omega
theorem Al9:(Tryz.prog.info? 4).map (·.size)=some 1:=by kernel_rfl
theorem blk {w:World} {g:Nat} {t:TypeId} {cs:Array Value} (h:Block w g t cs):w.heap[g]?=some (.cells cs t (0,0)):=h
def MB (w:World) (g:Nat) (m:Md):Prop:=Block w g 80 (mA m)
theorem MB.of {w:World} {g:Nat} {m:Md} (h:Block w g 80 (mA m)):MB w g m:=h
theorem MB.blk {w:World} {g:Nat} {m:Md} (h:MB w g m):Block w g 80 (mA m):=h
theorem MB.made (w:World) (m:Md):MB (w.alloc (.cells (mA m) 80)) w.heap.size m:=Block.made w _ _
theorem MB.zero (w:World):MB (w.alloc (.cells #[.bool false,.bool false,.bool false,.bool false,.bool false,.bool false,.bool false,.bool false] 80)) w.heap.size none0:=Block.made w _ _
theorem MB.only {L:List Nat} {w w':World} {g:Nat} {m:Md} (h:MB w g m) (ho:Only L w w') (hg:g∉L):MB w' g m:=Block.only h ho hg
theorem MB.below {w w':World} {g:Nat} {m:Md} (h:MB w g m) (hb:Below w.heap.size w w'):MB w' g m:=h.only (Only.of_below hb []) (by simp)
theorem MB.alloc {w:World} {g:Nat} {m:Md} (h:MB w g m) (o:Obj):MB (w.alloc o) g m:=Block.alloc h o
theorem Bo8 {P:Program} {w:World} {g:Nat} {t ty:TypeId} {cs:Array Value} {d:TypeDesc} (h:Block w g t cs) (hu:P.underlying ty=some d) (hd:(match d with|.struct _|.array _ _=>true|_=>false)=true) (hi:(P.info? ty).map (·.size)=some cs.size):(loadVar ty ⟨g,0,none⟩).run P w=.ok (.agg cs) w :=
 Com.run_loadVar_at w ty ⟨g,0,none⟩ cs.toList _ (fun j u hj=>by rw[Addr.add_lit,Nat.zero_add];exact h.cell j (by simpa using hj)) hu hd (by simpa using hi)
theorem Af5 {P:Program} {fn:Func} {p q:Tmp} {ty t:TypeId} {d:TypeDesc} (h:fn.results=#[.cell p ty,.tmp q]) (tmps:Array Value) (w:World) (g:Nat) (cs:Array Value)
  (hp:tmps.getD p undef=.pointer (some ⟨g,0,none⟩)) (hg:Block w g t cs) (hu:P.underlying ty=some d) (hd:(match d with|.struct _|.array _ _=>true|_=>false)=true) (hi:(P.info? ty).map (·.size)=some cs.size) :
  (results fn tmps).run P w=.ok (.tuple #[.agg cs,tmps.getD q undef]) w:=by
 have hp':tmps[p]?.getD undef=.pointer (some ⟨g,0,none⟩):=by simpa using hp
 simp[results,h,hp',asAddr,Bo8 hg hu hd hi]
theorem end_m {fn:Func} {p:Tmp} (h:fn.results=#[.cell p 80]) {a:Act} {w1:World} {g:Nat} {m:Md} {post:Ending->World->Prop} (hp:a.tmps.getD p undef=.pointer (some ⟨g,0,none⟩)) (hd:a.defers=[])
  (hb:MB w1 g m) (hpost:post (.returned (.agg (mA m))) w1):bodyPost Tryz.prog fn post .ret a w1 :=
 bodyPost_ret (results_cell_row h _ _ _ _ _ _ _ hp (blk hb.blk) Tryz.underlying80 rfl (mA_info m)) hd hpost
theorem Av5 {fn:Func} {p q:Tmp} (h:fn.results=#[.cell p 80,.tmp q]) {a:Act} {w1:World} {g:Nat} {m:Md} {v:Value} {post:Ending->World->Prop} (hp:a.tmps.getD p undef=.pointer (some ⟨g,0,none⟩)) (hq:a.tmps.getD q undef=v) (hd:a.defers=[])
  (hb:MB w1 g m) (hpost:post (.returned (.tuple #[.agg (mA m),v])) w1):bodyPost Tryz.prog fn post .ret a w1:=by
 subst hq
 exact bodyPost_ret (Af5 h _ _ _ _ hp hb.blk Tryz.underlying80 rfl (mA_info m)) hd hpost
