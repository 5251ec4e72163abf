/- Part 13 of HostSplits. -/
import Derived.Test.YtecnpoigegiooaaGreatDoorP12
set_option maxHeartbeats 16000000
set_option maxRecDepth 100000
namespace Go.Proofs.YtecnpoigegiooaaGreatDoor.Scn
open Go RowKit Com Rw Lns
theorem zone:∀v∈(Value.agg #[.int .i64 0,.pointer none]).cells.toList,v.oneCell'=true:=by
 intro v hv
 simp only[Value.cells,List.mem_cons,List.not_mem_nil,or_false] at hv
 rcases hv with rfl|rfl<;>rfl
theorem infoL1:(Tryz.prog.info? 188).map (·.size)=some 2:=by kernel_rfl
def OneL (xs:List Value):Prop:=∀v∈xs,v.oneCell'=true
theorem Az4 (f k e:Nat) (he:e=f+k) (h5:e<=100000) (w:World):Calls Tryz.prog 102 #[.agg #[.int .i64 f,.int .i64 k]] w fun r w'=>r=.returned (.int .i64 e)/\Below w.heap.size w w':=by
 have hw:IntKind.i64.wrap ((f:Int)+(k:Int))=(e:Int):=by rw[he,Int.natCast_add];exact IntWalk.i64_in _ (by omega)
 have hb:=Aa1 w (.cells #[.int .i64 f,.int .i64 k] 171)
 clear he
 go_enter Tryz.func102,Tryz.ntmps102
 go_wp2
 go_ret
 exact⟨rfl,hb⟩
theorem close_own {w:World} {g n cap f k m:Nat} {xs tail J:List Value} (hn:n=m+k) (hf:f+k<=n) (hc:n<=cap) (hcm:cap<=maxLen) (hx:xs.length=n*2) (hl:(xs++tail).length=cap*2) (hJ:J.length=k*2)
  (hb:Block w g 188 (splice (splice (xs++tail) (f*2) (xs.drop ((f+k)*2))) (m*2) J).toArray):w.ownsRow 0 188 2 (.slice (some ⟨g,0,none⟩) m cap) m (outA xs (f*2) (k*2)):=by
 have hD:(xs.drop ((f+k)*2)).length=n*2 - (f+k)*2:=by rw[List.length_drop,hx]
 have h1:(splice (xs++tail) (f*2) (xs.drop ((f+k)*2))).length=cap*2:=by rw[length_splice _ _ _ (by rw[hD,hl];omega),hl]
 have ho:(outA xs (f*2) (k*2)).length=m*2:=by rw[Bp1 _ (by omega),hx];omega
 refine⟨ho,.inr ⟨g,cap,_,rfl,Nat.zero_le _,hb,by omega,hcm,?_,?_⟩⟩
 ·rw[List.size_toArray,length_splice _ _ _ (by rw[h1,hJ];omega),h1]
 ·show (splice (splice (xs++tail) (f*2) (xs.drop ((f+k)*2))) (m*2) J).take (m*2)=_
  have e1:(splice (splice (xs++tail) (f*2) (xs.drop ((f+k)*2))) (m*2) J).take (m*2)=(splice (xs++tail) (f*2) (xs.drop ((f+k)*2))).take (m*2):=by
   generalize splice (xs++tail) (f*2) (xs.drop ((f+k)*2))=Z at h1 |-
   unfold splice
   rw[List.take_append_of_le_length (by rw[List.length_take];omega),List.take_take,Nat.min_self]
  rw[e1]
  unfold splice outA
  rw[show (xs++tail).take (f*2)=xs.take (f*2) from List.take_append_of_le_length (by omega),<- List.append_assoc,List.take_append_of_le_length (by rw[List.length_append,List.length_take,hD];omega),List.take_of_length_le (by rw[List.length_append,List.length_take,hD];omega),Nat.add_mul]
theorem Bl3 {P:Program} {ops:Array Oper} {o:Oper} {a:Go.Act} {w:World} {K:Go.Act->World->Prop} {Q:Exit->Go.Act->World->Prop} {E:Prop} (hgd:o.guard=none) (d x:Operand) (dT sT:TypeId)
  (ho:o.op=.call { callee:=.builtin .copy,args:=#[d,x],argTypes:=#[dT,sT] }) (elem:TypeId) (hu:P.underlying dT=some (.slice elem)) (hs:∃s,(P.info? elem).map (·.size)=some s)
  (dp sp:Option Addr) (dLen dCap sLen sCap:Nat) (hd:a.eval d=.slice dp dLen dCap) (hx:a.eval x=.slice sp sLen sCap) (hn:Nat.min sLen dLen=0)
  (h:K (a.put o.dst (goInt 0)) w) :
  if Region.wanted o (yielded ops a.tmps)=true then Oper.wp P o a w K Q else E:=by
 rw[if_pos (by simp[Region.wanted,hgd])]
 unfold Oper.wp
 have hrun:=Bv2 (P:=P) w dT sT o.type elem dp sp dLen dCap sLen sCap hu hs hn
 simp[execOp,ho,resolve,invoke,builtin,hd,hx,hrun,Result.andThen]
 exact h
theorem wpList_clear0 {P:Program} {ops:Array Oper} {rest:List Oper} {o:Oper} {a:Go.Act} {w:World} {Q:Exit->Go.Act->World->Prop} (hgd:o.guard=none) (x:Operand) (t e:TypeId)
  (ho:o.op=.call { callee:=.builtin .clear,args:=#[x],argTypes:=#[t] }) (hu:P.underlying t=some (.slice e)) (sp:Option Addr) (c:Nat) (hx:a.eval x=.slice sp 0 c) (h:wpList P ops Q rest (a.put o.dst (.tuple #[])) w):wpList P ops Q (o::rest) a w :=
 wpList_plain hgd fun _ hK=>by
  have hrun:(Builtin.clear_ #[t] o.type #[.slice sp 0 c]).run P w=.ok (.tuple #[]) w:=by
   rcases sp with _|sp<;>simp[Builtin.clear_,run_underlying hu]
  unfold Oper.wp execOp
  simp only[ho,resolve,invoke,builtin,Sem.run_bind,Sem.run_pure,Result.andThen_ok,List.map_toArray,List.map_cons,List.map_nil,hx,hrun]
  exact hK _ _ h
section
variable {B:Zn}{w w':World}{x s nx most cols top bot n:Nat}{kp:Bool}{sv lv:Value}{xs:List Value}{R:List En}{L:List Nat}
def By1 (B:Zn) (w:World) (x s nx most:Nat) (kp:Bool) (cols:Nat) (sv lv:Value) (top bot n:Nat) (P:List Value->Prop) (R:List En) (e:Ending) (w':World):Prop :=
 (∃v,e=.returned v)/\∃lv' xs',LnX B w' x s nx most kp cols sv lv' top bot n xs' R/\P xs'/\Only (x::lv.ownBlock.toList) w w'
theorem closeUp_none (h:LnX B w x s nx most kp cols sv (.slice none 0 0) top bot 0 [] R):Calls Tryz.prog 103 #[.pointer (some ⟨x,0,none⟩),.agg #[.int .i64 0,.int .i64 0]] w (By1 B w x s nx most kp cols sv (.slice none 0 0) top bot 0 (fun xs=>xs=[]) R):=by
 have hbn:=Aa1 w (.cells #[.int .i64 0,.int .i64 0] 171)
 have hws:∀w1,Below w.heap.size w w1->LnX B w1 x s nx most kp cols sv (.slice none 0 0) top bot 0 [] R:=fun w1 hb=>h.below hb
 have hend:∀w,Calls Tryz.prog 102 #[.agg #[.int .i64 0,.int .i64 0]] w fun r w'=>r=.returned (.int .i64 0)/\Below w.heap.size w w':=fun w=>Az4 0 0 0 rfl (by omega) w
 have hxlt:=h.blk.lt
 have hbx:=Block.made w 171 #[.int .i64 0,.int .i64 0]
 obtain⟨_,_,_,c3,_,_⟩:=(h.below hbn).cells
 obtain⟨bx,hbxe⟩:∃bx,bx=w.heap.size:=⟨_,rfl⟩
 rw[<- hbxe] at hbx
 replace hend:=J0 hend
 replace hws:=J0 hws
 replace hbn:=J0 hbn
 clear h
 go_enter Tryz.func103,Tryz.ntmps103
 go_wp2
 go_quiet (fail)
 go_wp2
 have hb0:=hbx.only (Only.drewN [] _ nq) (by simp)
 have hl0:=Aa4 hbn.out nq
 clear hbx c3
 generalize (w.alloc (.cells #[.int .i64 0,.int .i64 0] 171)).drewN nq=w0 at hb0 hl0 |-
 rw[<- hbxe]
 replace hbxe:=J0 hbxe
 have hS:=fun w' (hb:Below w0.heap.size w0 w')=>And.intro ((hb0.only (Only.of_below hb []) (by simp)).cell 0 rfl) (And.intro ((hb0.only (Only.of_below hb []) (by simp)).cell 1 rfl) (hws.out _ (Aa0 hl0 hb)).cells.2.2.2.1)
 have c0:=hS w0 (Below.refl _ _)
 have c1:=hS w0.drew (Aa4 (Below.refl _ _) 1)
 have hd0:Below w0.heap.size w0 w0.drew:=Aa4 (Below.refl _ _) 1
 replace hS:=J0 hS
 replace hl0:=J0 hl0
 replace hd0:=J0 hd0
 obtain⟨a0,a1,a2⟩:=c0
 clear hb0
 go_region_held3 (fun w'=>w'.cell? ⟨bx,0,none⟩=some (.int .i64 0)/\w'.cell? ⟨bx,1,none⟩=some (.int .i64 0)/\w'.cell? ⟨x,3,none⟩=some (.slice none 0 0))
  (first|exact⟨a0,a1,a2⟩|exact c1|exact hS.out _ hb2.out|go_keep)
  (first
   |(go_at_call 102;(with_reducible refine(hend.out _).mono ?_);rintro e w2 ⟨rfl,hb2'⟩;have hb2:=J0 (Aa0 hd0.out hb2'))
   |(refine Bl3 rfl (.tmp 19) (.tmp 26) 132 132 rfl 188 Tryz.underlying132 ⟨2,infoL1⟩ _ _ _ _ _ _ rfl rfl (by rfl) ?_))
 have hws2:=hws.out _ (Aa0 hl0.out hb2.out)
 have c3:=hws2.cells.2.2.2.1
 have f3:=hws2.blk.free 3
 have hres:=J0 (hws2.setL (lv':=.slice none 0 0) (n':=0) (xs':=[]) (World.ownsRow_nil _ _ _ _) (Only.refl _ _) (.inl rfl) (by omega))
 have hbf:=J0 (Aa0 hl0.out hb2.out)
 clear hws2 hend c1 a0 a1 a2
 go_wp2_with (with_reducible show wpList _ _ _ (⟨none,.call _,_,_,_,_⟩::_) _ _;go_must (refine wpList_clear0 rfl (.tmp 33) 132 188 rfl Tryz.underlying132 none 0 rfl ?_))
 go_end0
 exact⟨⟨_,rfl⟩,_,[],hres.out.1,rfl,(Only.of_below hbf.out _).trans hres.out.2⟩
theorem closeUp_some {g cap f k e m:Nat} {tail:List Value} (h:LnX B w x s nx most kp cols sv (.slice (some ⟨g,0,none⟩) n cap) top bot n xs R) (hbg:Block w g 188 (xs++tail).toArray) (hcl:(xs++tail).length=cap*2) (hone:OneL xs) (he:e=f+k) (hm:n=m+k) (hf:e<=n) :
  Calls Tryz.prog 103 #[.pointer (some ⟨x,0,none⟩),.agg #[.int .i64 f,.int .i64 k]] w (By1 B w x s nx most kp cols sv (.slice (some ⟨g,0,none⟩) n cap) top bot m (fun xs'=>xs'=outA xs (f*2) (k*2)) R):=by
 have hbn:=Aa1 w (.cells #[.int .i64 f,.int .i64 k] 171)
 have hn5:=h.small
 have hcc0:n<=cap/\cap<=maxLen:=by
  obtain⟨_,c',ee,hle,hcm⟩:=h.shape
  simp only[Value.slice.injEq] at ee
  obtain⟨_,_,rfl⟩:=ee
  exact⟨hle,hcm⟩
 obtain⟨hle,hcm⟩:=hcc0
 have hxl:=h.own.1
 have hend:=fun w=>Az4 f k e he (by omega) w
 have hbx:=Block.made w 171 #[.int .i64 f,.int .i64 k]
 obtain⟨_,_,_,c3,_,_⟩:=(h.below hbn).cells
 have hws:∀w1,Below w.heap.size w w1->LnX B w1 x s nx most kp cols sv (.slice (some ⟨g,0,none⟩) n cap) top bot n xs R/\Block w1 g 188 (xs++tail).toArray:=fun w1 hb=>⟨h.below hb,hbg.only (Only.of_below hb []) (by simp)⟩
 have hxg:x≠g:=fun ee=>absurd (Typ.inj h.typ (ee▸(h.ltyp g rfl).2.2)) (by decide)
 have hglt:=hbg.lt
 obtain⟨bx,hbxe⟩:∃bx,bx=w.heap.size:=⟨_,rfl⟩
 rw[<- hbxe] at hbx
 have hwr:IntKind.i64.wrap ((n:Int) - (k:Int))=(m:Int):=by rw[hm,Int.natCast_add,Int.add_sub_cancel];exact IntWalk.i64_in _ (by omega)
 have hmn0:m<=n:=by omega
 have hm':=J0 hm
 have he':=J0 he
 clear hm he
 replace hend:=J0 hend
 replace hws:=J0 hws
 replace hbn:=J0 hbn
 clear h hbg
 go_enter Tryz.func103,Tryz.ntmps103
 go_wp2
 go_quiet (fail)
 go_wp2
 have hb0:=hbx.only (Only.drewN [] _ nq) (by simp)
 have hl0:=Aa4 hbn.out nq
 clear hbx c3
 generalize (w.alloc (.cells #[.int .i64 f,.int .i64 k] 171)).drewN nq=w0 at hb0 hl0 |-
 rw[<- hbxe]
 replace hbxe:=J0 hbxe
 have hm:=hm'.out
 have he:=he'.out
 have hd0:Below w0.heap.size w0 w0.drew:=Aa4 (Below.refl _ _) 1
 have hS:=fun w' (hb:Below w0.heap.size w0 w')=>And.intro ((hb0.only (Only.of_below hb []) (by simp)).cell 0 rfl) (And.intro ((hb0.only (Only.of_below hb []) (by simp)).cell 1 rfl) (hws.out _ (Aa0 hl0 hb)).1.cells.2.2.2.1)
 have hbG:=fun w' (hb:Below w0.heap.size w0 w')=>(hws.out _ (Aa0 hl0 hb)).2
 have hpart:=fun w' (hb:Below w0.heap.size w0 w')=>(fun j v hj=>by
  rw[Addr.add_lit]
  refine(hbG w' hb).cell _ ?_
  rw[List.getElem?_drop] at hj
  have hlt:=(List.getElem?_eq_some_iff.1 hj).1
  rw[List.getElem?_toArray,List.getElem?_append_left hlt]
  exact hj:∀j v,(xs.drop (e*2))[j]?=some v->w'.cell? ((⟨g,e*2,none⟩:Addr).add j)=some v)
 have c0:=hS w0 (Below.refl _ _)
 have c1:=hS w0.drew hd0
 have hbxg:bx≠g:=by have:=hbxe.out;omega
 have hKS:=fun w1 w' (hb:Below w0.heap.size w0 w1) (ho:Only [g] w1 w')=>(⟨((hb0.only (Only.of_below hb []) (by simp)).only ho (by simpa using hbxg)).cell 0 rfl,((hb0.only (Only.of_below hb []) (by simp)).only ho (by simpa using hbxg)).cell 1 rfl,((hws.out _ (Aa0 hl0 hb)).1.blk.only ho (by simpa using hxg)).cell 3 rfl⟩:w'.cell? ⟨bx,0,none⟩=some (.int .i64 f)/\w'.cell? ⟨bx,1,none⟩=some (.int .i64 k)/\w'.cell? ⟨x,3,none⟩=some (.slice (some ⟨g,0,none⟩) n cap))
 have hX:(xs.drop (e*2)).length=(n - e)*2:=by rw[List.length_drop,hxl];omega
 have hone':∀v∈xs.drop (e*2),v.oneCell'=true:=fun v hv=>hone v (List.mem_of_mem_drop hv)
 obtain⟨X,hXX⟩:∃X,X=xs.drop (e*2):=⟨_,rfl⟩
 obtain⟨cur,hcc⟩:∃cur,cur=xs++tail:=⟨_,rfl⟩
 rw[<- hXX] at hpart hX hone'
 rw[<- hcc] at hbG hcl
 have hfe:f<=e:=by omega
 have hkn:f<=n:=by omega
 have hmn:m<=n:=by omega
 have hk':k=n - m:=by omega
 have hfI:(f:Int)<=(n:Int):=by omega
 have heI:(e:Int)<=(n:Int):=by omega
 have hmI:(m:Int)<=(n:Int):=by omega
 have hfc:f<=cap:=by omega
 have hec:e<=cap:=by omega
 have hmc:m<=cap:=by omega
 obtain⟨ad1,had1⟩:∃ad1,(if cap=f then (some ⟨g,0,none⟩:Option Addr) else some ⟨g,f*2,none⟩)=ad1:=⟨_,rfl⟩
 obtain⟨ad2,had2⟩:∃ad2,(if cap=e then (some ⟨g,0,none⟩:Option Addr) else some ⟨g,e*2,none⟩)=ad2:=⟨_,rfl⟩
 obtain⟨ad3,had3⟩:∃ad3,(if cap=m then (some ⟨g,0,none⟩:Option Addr) else some ⟨g,m*2,none⟩)=ad3:=⟨_,rfl⟩
 have hd1:Hid (0<n - f->ad1=some ⟨g,f*2,none⟩):=J0 fun h0=>by rw[<- had1];exact if_neg (by omega)
 have hd2:Hid (0<n - e->ad2=some ⟨g,e*2,none⟩):=J0 fun h0=>by rw[<- had2];exact if_neg (by omega)
 have hd3:Hid (0<n - m->ad3=some ⟨g,m*2,none⟩):=J0 fun h0=>by rw[<- had3];exact if_neg (by omega)
 have hfit:Hid (f*2+X.length<=cur.length):=J0 (by rw[hX,hcl];omega)
 have hfit2:Hid (m*2+(n - m)*2<=cap*2):=J0 (by omega)
 have hmin:Hid (X.length=min (n - e) (n - f)*2):=J0 (by rw[hX];congr 1;omega)
 have hsl:Hid ((splice cur (f*2) X).length=cap*2):=J0 (by rw[length_splice _ _ _ (by rw[hX,hcl];omega),hcl])
 have hfin:=fun (w1:World) (J:List Value) (hJ:J.length=(n - m)*2) (hb:Block w1 g 188 (splice (splice cur (f*2) X) (m*2) J).toArray)=>close_own (w:=w1) (f:=f) (tail:=tail) (J:=J) hm (by omega) hle hcm hxl (by rw[<- hcc];exact hcl) (by rw[hk'];exact hJ) (by rw[<- he,<- hcc,<- hXX];exact hb)
 replace hfin:=J0 hfin
 replace hX:=J0 hX
 replace hpart:=J0 hpart
 replace hone':=J0 hone'
 replace hbG:=J0 hbG
 replace hKS:=J0 hKS
 replace hS:=J0 hS
 replace hl0:=J0 hl0
 replace hd0:=J0 hd0
 replace hXX:=J0 hXX
 replace hcc:=J0 hcc
 replace hm:=J0 hm
 replace hk':=J0 hk'
 replace he:=J0 he
 replace hxl:=J0 hxl
 replace hcl:=J0 hcl
 obtain⟨a0,a1,a2⟩:=c0
 clear hb0
 go_region_held3 (fun w'=>w'.cell? ⟨bx,0,none⟩=some (.int .i64 f)/\w'.cell? ⟨bx,1,none⟩=some (.int .i64 k)/\w'.cell? ⟨x,3,none⟩=some (.slice (some ⟨g,0,none⟩) n cap))
  (first|exact⟨a0,a1,a2⟩|exact c1|exact hS.out _ hb2.out|exact hKS.out _ _ hb2.out ho3|go_keep)
  (first
   |(go_at_call 102;(with_reducible refine(hend.out _).mono ?_);rintro e w2 ⟨rfl,hb2'⟩;have hb2:=J0 (Aa0 hd0.out hb2'))
   |(refine Ar9 rfl (.tmp 19) (.tmp 26) 132 132 rfl 188 2 Tryz.underlying132 infoL1 _ _ _ _ _ _ rfl rfl g (f*2) cur 188 (hbG.out _ hb2.out) X hmin.out (fun h1 h2=>⟨hd1.out h2,_,hd2.out h1,hpart.out _ hb2.out⟩) hfit.out hone'.out ?_;intro w3 hb3 ho3))
 have hws0:=(hws.out _ hl0.out).1
 have ho03:Only [g] w0 w3:=((Only.of_below hb2.out _).trans ho3)
 have c3:=(hKS.out _ _ hb2.out ho3).2.2
 have hb3':=hb3.out
 have hsl':=hsl.out
 have hbd:Hid (Block w3 x _ _):=J0 (hws0.blk.only ho03 (by simpa using hxg))
 replace hws0:=J0 hws0
 replace ho03:=J0 ho03
 clear hKS hS hpart hbG hend c1 a0 a1 a2 ho3 hb3 hfI heI hfc hec had1 had2 hd1 hd2 hwr
 go_wp2_with (with_reducible show wpList _ _ _ (⟨none,.call _,_,_,_,_⟩::_) _ _;go_must (refine wpList_clearN Cs3 zone rfl (.tmp 33) rfl ad3 (n - m) (cap - m) rfl g (m*2) (splice cur (f*2) X) 188 hb3' hd3.out (by rw[hsl'];exact hfit2.out) ?_);intro w4 J hJ hb4 ho4;have hbd4:=hbd.out.only ho4 (by simpa using hxg);have c4:=hbd4.cell 3 rfl;have f4:=hbd4.free 3)
 have hown:=hfin.out _ J hJ hb4.out
 have hres:=J0 (hws0.out.setL (lv':=.slice (some ⟨g,0,none⟩) m cap) (n':=m) hown (ho03.out.trans ho4) (.inl rfl) (by omega))
 go_end0
 exact⟨⟨_,rfl⟩,_,_,hres.out.1,rfl,(Only.of_below hl0.out _).trans hres.out.2⟩
end
section
variable {B:Zn}{w w':World}{x s nx most cols top bot n:Nat}{kp:Bool}{sv lv:Value}{xs:List Value}{R:List En}{L:List Nat}
theorem closeUp_any (h:LnX B w x s nx most kp cols sv lv top bot n xs R) (hone:OneL xs) (f k:Nat) (hf:f+k<=n) :
  Calls Tryz.prog 103 #[.pointer (some ⟨x,0,none⟩),.agg #[.int .i64 f,.int .i64 k]] w (By1 B w x s nx most kp cols sv lv top bot (n - k) (fun xs'=>xs'=outA xs (f*2) (k*2)) R):=by
 rcases h.own.2 with ⟨rfl,rfl⟩|⟨g,cap,cur,rfl,hg,hh,hc,hm,hs,ht⟩
 ·obtain rfl:f=0:=by omega
  obtain rfl:k=0:=by omega
  obtain rfl:xs=[]:=List.eq_nil_of_length_eq_zero (by simpa using h.own.1)
  exact closeUp_none h
 ·have hcur:xs++cur.toList.drop (n*2)=cur.toList:=by rw[<- ht,List.take_append_drop]
  exact closeUp_some (e:=f+k) (m:=n - k) (tail:=cur.toList.drop (n*2)) h (by rw[hcur];exact hh) (by rw[hcur];simpa using hs) hone rfl (by omega) hf
theorem LnX.turned (h:LnX B w x s nx most kp cols sv lv top bot n xs R) {xs':List Value} (h1:w'.ownsRow 0 188 2 lv n xs') (ho:Only lv.ownBlock.toList w w'):LnX B w' x s nx most kp cols sv lv top bot n xs' R:=by
 have hxl:x∉lv.ownBlock.toList:=fun hm=>absurd (Typ.inj h.typ (h.ltyp x (by simpa using hm)).2.2) (by decide)
 exact⟨h.blk.only ho hxl,h1,h.store (ho.mono (by simp +contextual)),h.apart,h.lo.grow ho.size,h.small⟩
theorem room_own {g cap f k e m:Nat} {J tail:List Value} (he:e=f+k) (hm:m=n+k) (hf:f<=n) (hc:m<=cap) (hcm:cap<=maxLen) (hx:xs.length=n*2) (hJ:J.length=k*2) (hl:(xs++J++tail).length=cap*2)
  (hb:Block w g 188 (splice (xs++J++tail) (e*2) (xs.drop (f*2))).toArray):w.ownsRow 0 188 2 (.slice (some ⟨g,0,none⟩) m cap) m (insA xs (f*2) (((xs++J).drop (f*2)).take (k*2))):=by
 have hD:(xs.drop (f*2)).length=n*2 - f*2:=by rw[List.length_drop,hx]
 have hxJ:(xs++J).length=m*2:=by rw[List.length_append,hx,hJ];omega
 have hJ2:(((xs++J).drop (f*2)).take (k*2)).length=k*2:=by rw[List.length_take,List.length_drop,hxJ];omega
 have ho:(insA xs (f*2) (((xs++J).drop (f*2)).take (k*2))).length=m*2:=by rw[insA_len,hx,hJ2];omega
 refine⟨ho,.inr ⟨g,cap,_,rfl,Nat.zero_le _,hb,hc,hcm,?_,?_⟩⟩
 ·rw[List.size_toArray,length_splice _ _ _ (by rw[hD,hl];omega),hl]
 ·show (splice (xs++J++tail) (e*2) (xs.drop (f*2))).take (m*2)=_
  unfold splice insA
  have e1:(xs++J++tail).take (e*2)=xs.take (f*2)++((xs++J).drop (f*2)).take (k*2):=by
   rw[List.take_append_of_le_length (by omega)]
   have:e*2=f*2+k*2:=by omega
   rw[this,List.take_add,List.take_append_of_le_length (by omega)]
  rw[e1,<- List.append_assoc,List.take_append_of_le_length (by rw[List.length_append,List.length_append,List.length_take,hJ2,hD];omega),List.take_of_length_le (by rw[List.length_append,List.length_append,List.length_take,hJ2,hD];omega),List.append_assoc]
def Room (xs:List Value) (f k:Nat) (xs':List Value):Prop:=∃J,J.length=k*2/\OneL J/\xs'=insA xs (f*2) J
theorem makeRoom_any (h:LnX B w x s nx most kp cols sv lv top bot n xs R) (hone:OneL xs) (f k:Nat) (hf:f<=n) (hk:n+k<=1000) :
  Calls Tryz.prog 104 #[.pointer (some ⟨x,0,none⟩),.agg #[.int .i64 f,.int .i64 k]] w (By1 B w x s nx most kp cols sv lv top bot (n+k) (Room xs f k) R):=by
 have hbn:=Aa1 w (.cells #[.int .i64 f,.int .i64 k] 171)
 have hxl:=h.own.1
 obtain⟨e,he⟩:∃e,e=f+k:=⟨_,rfl⟩
 obtain⟨m,hm⟩:∃m,m=n+k:=⟨_,rfl⟩
 have hend:=fun w=>Az4 f k e he (by omega) w
 have hbx:=Block.made w 171 #[.int .i64 f,.int .i64 k]
 have hws:∀w1,Below w.heap.size w w1->LnX B w1 x s nx most kp cols sv lv top bot n xs R:=fun w1 hb=>h.below hb
 have hlvlt:=fun g hg=>(h.ltyp g hg).2.1
 have hxlt:=h.blk.lt
 obtain⟨ao,c,hlv,_,_⟩:=h.shape
 obtain⟨bx,hbxe⟩:∃bx,bx=w.heap.size:=⟨_,rfl⟩
 replace hend:=J0 hend
 replace hws:=J0 hws
 replace he:=J0 he
 rw[<- hm]
 replace hm:=J0 hm
 clear h
 go_enter Tryz.func104,Tryz.ntmps104
 go_wp2
 generalize w.alloc (.cells #[.int .i64 f,.int .i64 k] 171)=w0 at hbx hbn |-
 rw[<- hbxe] at hbx |-
 have hbx2:=hbxe
 replace hbxe:=J0 hbxe
 have a1:=hbx.cell 1 rfl
 have hws0:=hws.out _ hbn
 have c3:=hws0.cells.2.2.2.1
 have hd0:Below w0.heap.size w0 w0.drew:=Aa4 (Below.refl _ _) 1
 have hws1:=hws0.below hd0
 have hown:=hws1.own
 have hbd:=hws1.blk
 have hxn:x∉lv.ownBlock.toList:=fun hm=>absurd (Typ.inj hws0.typ (hws0.ltyp x (by simpa using hm)).2.2) (by decide)
 have hfin:=fun lv' w2 J (hJ:J.length=k*2) (h2:w2.ownsRow 0 188 2 lv' m (xs++J)) (ho:Only lv.ownBlock.toList w0.drew w2) (ha:lv'.ownBlock=lv.ownBlock\/lv'.ownBlock=some w0.heap.size)=>hws1.setL (lv':=lv') h2 ho (ha.imp id fun e=>⟨_,e,J5 _⟩) (by rw[hm.out];exact hk)
 have hbxl:bx∉x::lv.ownBlock.toList:=by
  intro hm
  rcases List.mem_cons.1 hm with hm|hm
  ·omega
  ·have:=hlvlt bx (by simpa using hm);omega
 have hbx1:=hbx.only (Only.of_below hd0 []) (by simp)
 subst hlv
 replace hown:=J0 hown
 replace hbd:=J0 hbd
 replace hxn:=J0 hxn
 replace hfin:=J0 hfin
 replace hbxl:=J0 hbxl
 replace hbx1:=J0 hbx1
 have hsz:=J0 hbn.size
 replace hbn:=J0 hbn
 clear hbx2 hws0 hws1 hws hbx hlvlt
 go_region_law (first
  |(refine step_appZ Cs3 Tryz.underlying3 zone rfl (.tmp 8) (.tmp 10) rfl 0 (.slice ao n c) n xs k rfl rfl hown.out (Nat.zero_le _) (by omega) ?_;intro lv2 w2 J hJ hJ1 hown2 ho2 hat2;rw[<- hm.out] at hown2;have hbd2:=hbd.out.only ho2 hxn.out;have k2':=hbd2.cell 3 rfl;have f2:=hbd2.free 3;obtain⟨a2,c2,rfl,_⟩:=Ab3 hown2))
 all_goals
  have h3':=hfin.out _ _ J hJ hown2 ho2 hat2
  have hb3:=hbx1.out.only h3'.2 hbxl.out
  have hat3:=hat2
  have hO3:=(Only.of_below hbn.out (x::(Value.slice ao n c).ownBlock.toList)).trans ((Only.drewN _ _ 1).trans h3'.2)
  have h3:=h3'.1
  clear h3' hown2 ho2 hat2 hfin hbd2 k2' f2 hbxl hbx1 hxn hbd hown c3 a1 hbn
  generalize (w2.setCell ⟨x,3,none⟩ (.slice a2 m c2))=w3 at h3 hb3 hO3 |-
  have hd3:Below w3.heap.size w3 w3.drew:=Aa4 (Below.refl _ _) 1
  have hws:∀w',Below w3.heap.size w3 w'->LnX B w' x s nx most kp cols sv (.slice a2 m c2) top bot m (xs++J) R:=fun w' hb=>h3.below hb
  have hS:=fun w' (hb:Below w3.heap.size w3 w')=>And.intro ((hb3.only (Only.of_below hb []) (by simp)).cell 0 rfl) (And.intro ((hb3.only (Only.of_below hb []) (by simp)).cell 1 rfl) (hws _ hb).cells.2.2.2.1)
  have c0:=hS w3 (Below.refl _ _)
  have c1:=hS w3.drew hd3
  obtain⟨a0,a1,a2'⟩:=c0
  have hmo:=hm.out
  have heo:=he.out
  rcases h3.own.2 with ⟨e2,hm0⟩|⟨g,cap,cur0,e2,hgB,hh,hcap,hcapm,hcs,htk⟩
  ·simp only[Value.slice.injEq] at e2
   obtain⟨rfl,_,rfl⟩:=e2
   obtain rfl:n=0:=by omega
   obtain rfl:k=0:=by omega
   obtain rfl:f=0:=by omega
   obtain rfl:m=0:=by omega
   obtain rfl:e=0:=by omega
   clear hat3
   have hx0:xs=[]:=List.eq_nil_of_length_eq_zero (by simpa using hxl)
   have hJ0:J=[]:=List.eq_nil_of_length_eq_zero (by simpa using hJ)
   subst hx0
   subst hJ0
   have hend0:∀w,Calls Tryz.prog 102 #[.agg #[.int .i64 0,.int .i64 0]] w fun r w'=>r=.returned (.int .i64 0)/\Below w.heap.size w w':=hend.out
   replace hend0:=J0 hend0
   replace hS:=J0 hS
   replace hd3:=J0 hd3
   replace hws:=J0 hws
   replace hO3:=J0 hO3
   clear hb3 hmo heo hend h3 hm0
   go_wp2
   go_region_held3 (fun w'=>w'.cell? ⟨bx,0,none⟩=some (.int .i64 0)/\w'.cell? ⟨bx,1,none⟩=some (.int .i64 0)/\w'.cell? ⟨x,3,none⟩=some (.slice none 0 0))
    (first|exact⟨a0,a1,a2'⟩|exact c1|exact hS.out _ hb2.out|go_keep)
    (first
     |(go_at_call 102;(with_reducible refine(hend0.out _).mono ?_);rintro e w2 ⟨rfl,hb2'⟩;have hb2:=J0 (Aa0 hd3.out hb2'))
     |(refine Bl3 rfl (.tmp 20) (.tmp 27) 132 132 rfl 188 Tryz.underlying132 ⟨2,infoL1⟩ _ _ _ _ _ _ rfl rfl (by rfl) ?_))
   have hres:=J0 (And.intro (hws.out _ hb2.out) (hO3.out.trans (Only.of_below hb2.out _)))
   go_end0
   exact⟨⟨_,rfl⟩,_,[],hres.out.1,⟨[],rfl,by simp[OneL],rfl⟩,hres.out.2⟩
  ·have hcc:m=m/\c2=cap:=by simp only[Value.slice.injEq] at e2;exact⟨rfl,e2.2.2⟩
   obtain⟨_,rfl⟩:=hcc
   have hag:a2=some ⟨g,0,none⟩:=by simp only[Value.slice.injEq] at e2;exact e2.1
   subst hag
   clear e2
   have hgO:Hid (g∈x::(Value.slice ao n c).ownBlock.toList\/w.heap.size<=g):=J0 (by
    rcases hat3 with hat3|hat3
    ·refine .inl (List.mem_cons_of_mem _ ?_)
     rw[<- hat3]
     simp[Value.ownBlock]
    ·have:g=w0.heap.size:=by simpa[Value.ownBlock] using hat3
     exact .inr (by rw[this];exact hsz.out))
   clear hat3
   have hbg:Block w3 g 188 (xs++J++cur0.toList.drop (m*2)).toArray:=by
    have:xs++J++cur0.toList.drop (m*2)=cur0.toList:=by rw[<- htk,List.take_append_drop]
    rw[this];exact hh
   have hcl:(xs++J++cur0.toList.drop (m*2)).length=c2*2:=by
    have:xs++J++cur0.toList.drop (m*2)=cur0.toList:=by rw[<- htk,List.take_append_drop]
    rw[this];simpa using hcs
   clear hh hcs htk
   generalize cur0.toList.drop (m*2)=tail at hbg hcl
   have hxg:x≠g:=fun ee=>absurd (Typ.inj h3.typ (ee▸(h3.ltyp g rfl).2.2)) (by decide)
   have hbxg:bx≠g:=fun ee=>absurd (Typ.inj (Block.typ hb3) (ee▸(h3.ltyp g rfl).2.2)) (by decide)
   have hbG:=fun w' (hb:Below w3.heap.size w3 w')=>hbg.only (Only.of_below hb []) (by simp)
   have hxJ:(xs++J).length=m*2:=by rw[List.length_append,hxl,hJ];omega
   have hpart:=fun w' (hb:Below w3.heap.size w3 w')=>(fun j v hj=>by
    rw[Addr.add_lit]
    refine(hbG w' hb).cell _ ?_
    rw[List.getElem?_drop] at hj
    have hlt:=(List.getElem?_eq_some_iff.1 hj).1
    rw[List.getElem?_toArray,List.append_assoc,List.getElem?_append_left hlt]
    exact hj:∀j v,(xs.drop (f*2))[j]?=some v->w'.cell? ((⟨g,f*2,none⟩:Addr).add j)=some v)
   have hKS:=fun w1 w' (hb:Below w3.heap.size w3 w1) (ho:Only [g] w1 w')=>(⟨((hb3.only (Only.of_below hb []) (by simp)).only ho (by simpa using hbxg)).cell 0 rfl,((hb3.only (Only.of_below hb []) (by simp)).only ho (by simpa using hbxg)).cell 1 rfl,((hws _ hb).blk.only ho (by simpa using hxg)).cell 3 rfl⟩:w'.cell? ⟨bx,0,none⟩=some (.int .i64 f)/\w'.cell? ⟨bx,1,none⟩=some (.int .i64 k)/\w'.cell? ⟨x,3,none⟩=some (.slice (some ⟨g,0,none⟩) m c2))
   have hX:(xs.drop (f*2)).length=(n - f)*2:=by rw[List.length_drop,hxl];omega
   have hone':∀v∈xs.drop (f*2),v.oneCell'=true:=fun v hv=>hone v (List.mem_of_mem_drop hv)
   obtain⟨X,hXX⟩:∃X,X=xs.drop (f*2):=⟨_,rfl⟩
   obtain⟨cur,hcur⟩:∃cur,cur=xs++J++tail:=⟨_,rfl⟩
   rw[<- hXX] at hpart hX hone'
   rw[<- hcur] at hbG hcl
   have hfm:f<=m:=by omega
   have hem:e<=m:=by omega
   have hfI:(f:Int)<=(m:Int):=by omega
   have heI:(e:Int)<=(m:Int):=by omega
   have hfc:f<=c2:=by omega
   have hec:e<=c2:=by omega
   obtain⟨ad1,had1⟩:∃ad1,(if c2=f then (some ⟨g,0,none⟩:Option Addr) else some ⟨g,f*2,none⟩)=ad1:=⟨_,rfl⟩
   obtain⟨ad2,had2⟩:∃ad2,(if c2=e then (some ⟨g,0,none⟩:Option Addr) else some ⟨g,e*2,none⟩)=ad2:=⟨_,rfl⟩
   have hd1:Hid (0<m - f->ad1=some ⟨g,f*2,none⟩):=J0 fun h0=>by rw[<- had1];exact if_neg (by omega)
   have hd2:Hid (0<m - e->ad2=some ⟨g,e*2,none⟩):=J0 fun h0=>by rw[<- had2];exact if_neg (by omega)
   have hfit:Hid (e*2+X.length<=cur.length):=J0 (by rw[hX,hcl];omega)
   have hmin:Hid (X.length=min (m - f) (m - e)*2):=J0 (by rw[hX];congr 1;omega)
   have hfin:=fun (w1:World) (hb:Block w1 g 188 (splice cur (e*2) X).toArray)=>room_own (w:=w1) (f:=f) (J:=J) (tail:=tail) heo hmo hf hcap hcapm hxl hJ (by rw[<- hcur];exact hcl) (by rw[<- hcur,<- hXX];exact hb)
   have hturn:=fun w1 w4 (hb:Below w3.heap.size w3 w1) (ho:Only [g] w1 w4) (hb4:Block w4 g 188 (splice cur (e*2) X).toArray)=>(hws _ hb).turned (hfin w4 hb4) ho
   have hJJ:Room xs f k (insA xs (f*2) (((xs++J).drop (f*2)).take (k*2))):=⟨_,by rw[List.length_take,List.length_drop,hxJ];omega,fun v hv=>by
    rcases List.mem_append.1 (List.mem_of_mem_drop (List.mem_of_mem_take hv)) with hv|hv
    ·exact hone v hv
    ·exact hJ1 v hv,rfl⟩
   replace hfin:=J0 hfin
   replace hturn:=J0 hturn
   replace hJJ:=J0 hJJ
   replace hX:=J0 hX
   replace hpart:=J0 hpart
   replace hone':=J0 hone'
   replace hbG:=J0 hbG
   replace hKS:=J0 hKS
   replace hS:=J0 hS
   replace hd3:=J0 hd3
   replace hXX:=J0 hXX
   replace hcur:=J0 hcur
   replace hxl:=J0 hxl
   replace hcl:=J0 hcl
   replace hO3:=J0 hO3
   clear hb3 hmo heo h3 hws hbg hxJ hJ
   go_wp2
   go_region_held3 (fun w'=>w'.cell? ⟨bx,0,none⟩=some (.int .i64 f)/\w'.cell? ⟨bx,1,none⟩=some (.int .i64 k)/\w'.cell? ⟨x,3,none⟩=some (.slice (some ⟨g,0,none⟩) m c2))
    (first|exact⟨a0,a1,a2'⟩|exact c1|exact hS.out _ hb2.out|exact hKS.out _ _ hb2.out ho4|go_keep)
    (first
     |(go_at_call 102;(with_reducible refine(hend.out _).mono ?_);rintro e w2 ⟨rfl,hb2'⟩;have hb2:=J0 (Aa0 hd3.out hb2'))
     |(refine Ar9 rfl (.tmp 20) (.tmp 27) 132 132 rfl 188 2 Tryz.underlying132 infoL1 _ _ _ _ _ _ rfl rfl g (e*2) cur 188 (hbG.out _ hb2.out) X hmin.out (fun h1 h2=>⟨hd2.out h2,_,hd1.out h1,hpart.out _ hb2.out⟩) hfit.out hone'.out ?_;intro w4 hb4 ho4))
   have hres:=J0 (And.intro (hturn.out _ _ hb2.out ho4 hb4.out) (hO3.out.then ((Only.of_below hb2.out [g]).trans ho4) (fun q hq=>by
    obtain rfl:q=g:=by simpa using hq
    exact hgO.out)))
   go_end0
   exact⟨⟨_,rfl⟩,_,_,hres.out.1,hJJ.out,hres.out.2⟩
end
