/- Part 12 of HostKeys. -/
import Derived.Test.YtecnpoigegiooaaGreatDoorW11
set_option maxHeartbeats 16000000
set_option maxRecDepth 100000
namespace Go.Proofs.YtecnpoigegiooaaGreatDoor.Scn
open Tryz
open Go RowKit Com Rw Lns
section
variable {B:Zn}{w w':World}{x s nx most cols top bot n:Nat}{kp:Bool}{sv lv:Value}{xs:List Value}{R:List En}{L:List Nat}
theorem Buj(h:LnX B w x s nx most kp cols sv lv top bot n xs R)(E0:Aom xs)(f k:Nat)(hf:f+k<=n) :
  Calls prog 103 #[.pointer (some ⟨x,0,none⟩),.agg #[.int .i64 f,.int .i64 k]] w (Avz B w x s nx most kp cols sv lv top bot (n-k) (fun xs'=>xs'=P7 xs (f*2) (k*2)) R):=by
 rcases h.own.2 with⟨rfl,rfl⟩|⟨g,cap,cur,rfl,hg,hh,hc,hm,hs,ht⟩
 ·obtain rfl:f=0:=by omega
  obtain rfl:k=0:=by omega
  obtain rfl:xs=[]:=List.eq_nil_of_length_eq_zero (by simpa using h.own.1)
  exact Bsz h
 ·have G7:xs++cur.toList.drop (n*2)=cur.toList:=by rw[<- ht,List.take_append_drop]
  exact Bta (e:=f+k) (m:=n-k) (tail:=cur.toList.drop (n*2)) h (by rw[G7];exact hh) (by rw[G7];simpa using hs) E0 rfl (by omega) hf
theorem LnX.Aea(h:LnX B w x s nx most kp cols sv lv top bot n xs R){xs':List Value}(h1:w'.ownsRow 0 188 2 lv n xs')(ho:A0 lv.ownBlock.toList w w'):LnX B w' x s nx most kp cols sv lv top bot n xs' R:=by
 have hxl:x∉lv.ownBlock.toList:=fun hm=>absurd (Typ.inj h.typ (h.Q2 x (by simpa using hm)).2.2) (by decide)
 exact⟨h.blk.only ho hxl,h1,h.store (ho.mono (by simp +contextual)),h.apart,h.lo.grow ho.size,h.small⟩
theorem Chf{g cap f k e m:Nat}{J tail:List Value}(he:e=f+k)(hm:m=n+k)(hf:f<=n)(hc:m<=cap)(hcm:cap<=maxLen)(hx:xs.length=n*2)(hJ:J.length=k*2)(hl:(xs++J++tail).length=cap*2)
  (hb:Block w g 188 (splice (xs++J++tail) (e*2) (xs.drop (f*2))).toArray):w.ownsRow 0 188 2 (.slice (some ⟨g,0,none⟩) m cap) m (Z6 xs (f*2) (((xs++J).drop (f*2)).take (k*2))):=by
 have hD:(xs.drop (f*2)).length=n*2-f*2:=by rw[List.length_drop,hx]
 have hxJ:(xs++J).length=m*2:=by rw[List.length_append,hx,hJ];omega
 have hJ2:(((xs++J).drop (f*2)).take (k*2)).length=k*2:=by rw[List.length_take,List.length_drop,hxJ];omega
 have ho:(Z6 xs (f*2) (((xs++J).drop (f*2)).take (k*2))).length=m*2:=by rw[Bjm,hx,hJ2];omega
 refine⟨ho,.inr ⟨g,cap,_,rfl,Nat.zero_le _,hb,hc,hcm,?_,?_⟩⟩
 ·rw[List.size_toArray,length_splice _ _ _ (by rw[hD,hl];omega),hl]
 ·show(splice (xs++J++tail) (e*2) (xs.drop (f*2))).take (m*2)=_
  unfold splice Z6
  have e1:(xs++J++tail).take (e*2)=xs.take (f*2)++((xs++J).drop (f*2)).take (k*2):=by
   rw[List.take_append_of_le_length (by omega)]
   have:e*2=f*2+k*2:=by omega
   rw[this,List.take_add,List.take_append_of_le_length (by omega)]
  rw[e1,<- List.append_assoc,List.take_append_of_le_length (by rw[List.length_append,List.length_append,List.length_take,hJ2,hD];omega),List.take_of_length_le (by rw[List.length_append,List.length_append,List.length_take,hJ2,hD];omega),List.append_assoc]
def Room(xs:List Value)(f k:Nat)(xs':List Value):Prop:=∃J,J.length=k*2/\Aom J/\xs'=Z6 xs (f*2) J
theorem Bti(h:LnX B w x s nx most kp cols sv lv top bot n xs R)(E0:Aom xs)(f k:Nat)(hf:f<=n)(hk:n+k<=1000) :
  Calls prog 104 #[.pointer (some ⟨x,0,none⟩),.agg #[.int .i64 f,.int .i64 k]] w (Avz B w x s nx most kp cols sv lv top bot (n+k) (Room xs f k) R):=by
 have hbn:=A3 w (.cells #[.int .i64 f,.int .i64 k] 171)
 have hxl:=h.own.1
 obtain⟨e,he⟩:∃e,e=f+k:=⟨_,rfl⟩
 obtain⟨m,hm⟩:∃m,m=n+k:=⟨_,rfl⟩
 have E3:=fun w=>Anh f k e he (by omega) w
 have hbx:=Block.made w 171 #[.int .i64 f,.int .i64 k]
 have hws:∀w1,Below w.heap.size w w1->LnX B w1 x s nx most kp cols sv lv top bot n xs R:=fun w1 hb=>h.below hb
 have Bpf:=fun g hg=>(h.Q2 g hg).2.1
 have Bej:=h.blk.lt
 obtain⟨ao,c,hlv,_,_⟩:=h.shape
 obtain⟨bx,D2⟩:∃bx,bx=w.heap.size:=⟨_,rfl⟩
 replace E3:=J0 E3
 replace hws:=J0 hws
 replace he:=J0 he
 rw[<- hm]
 replace hm:=J0 hm
 clear h
 go_enter func104,ntmps104
 go_wp2
 generalize w.alloc (.cells #[.int .i64 f,.int .i64 k] 171)=w0 at hbx hbn |-
 rw[<- D2]at hbx |-
 have Aeg:=D2
 replace D2:=J0 D2
 have a1:=hbx.cell 1 rfl
 have Agq:=hws.out _ hbn
 have c3:=Agq.cells.2.2.2.1
 have hd0:Below w0.heap.size w0 w0.drew:=C7 (Below.refl _ _) 1
 have Axx:=Agq.below hd0
 have C0:=Axx.own
 have hbd:=Axx.blk
 have hxn:x∉lv.ownBlock.toList:=fun hm=>absurd (Typ.inj Agq.typ (Agq.Q2 x (by simpa using hm)).2.2) (by decide)
 have C3:=fun lv' w2 J (hJ:J.length=k*2) (h2:w2.ownsRow 0 188 2 lv' m (xs++J)) (ho:A0 lv.ownBlock.toList w0.drew w2) (ha:lv'.ownBlock=lv.ownBlock\/lv'.ownBlock=some w0.heap.size)=>Axx.G0 (lv':=lv') h2 ho (ha.imp id fun e=>⟨_,e,J5 _⟩) (by rw[hm.out];exact hk)
 have Ama:bx∉x::lv.ownBlock.toList:=by
  intro hm
  rcases List.mem_cons.1 hm with hm|hm
  ·omega
  ·have:=Bpf bx (by simpa using hm);omega
 have Aop:=hbx.only (A0.A1 hd0 []) (by simp)
 subst hlv
 replace C0:=J0 C0
 replace hbd:=J0 hbd
 replace hxn:=J0 hxn
 replace C3:=J0 C3
 replace Ama:=J0 Ama
 replace Aop:=J0 Aop
 have hsz:=J0 hbn.size
 replace hbn:=J0 hbn
 clear Aeg Agq Axx hws hbx Bpf
 go_region_law (first
  |(refine Ccm Bcx underlying3 Afp rfl (.tmp 8) (.tmp 10) rfl 0 (.slice ao n c) n xs k rfl rfl C0.out (Nat.zero_le _) (by omega) ?_;intro lv2 w2 J hJ hJ1 L4 ho2 Aak;rw[<- hm.out]at L4;have Bdw:=hbd.out.only ho2 hxn.out;have k2':=Bdw.cell 3 rfl;have f2:=Bdw.free 3;obtain⟨a2,c2,rfl,_⟩:=U0 L4))
 all_goals
  have h3':=C3.out _ _ J hJ L4 ho2 Aak
  have hb3:=Aop.out.only h3'.2 Ama.out
  have Aly:=Aak
  have hO3:=(A0.A1 hbn.out (x::(Value.slice ao n c).ownBlock.toList)).trans ((A0.drewN _ _ 1).trans h3'.2)
  have h3:=h3'.1
  clear h3' L4 ho2 Aak C3 Bdw k2' f2 Ama Aop hxn hbd C0 c3 a1 hbn
  generalize (w2.setCell ⟨x,3,none⟩ (.slice a2 m c2))=w3 at h3 hb3 hO3 |-
  have hd3:Below w3.heap.size w3 w3.drew:=C7 (Below.refl _ _) 1
  have hws:∀w',Below w3.heap.size w3 w'->LnX B w' x s nx most kp cols sv (.slice a2 m c2) top bot m (xs++J) R:=fun w' hb=>h3.below hb
  have hS:=fun w' (hb:Below w3.heap.size w3 w')=>And.intro ((hb3.only (A0.A1 hb []) (by simp)).cell 0 rfl) (And.intro ((hb3.only (A0.A1 hb []) (by simp)).cell 1 rfl) (hws _ hb).cells.2.2.2.1)
  have c0:=hS w3 (Below.refl _ _)
  have c1:=hS w3.drew hd3
  obtain⟨a0,a1,a2'⟩:=c0
  have hmo:=hm.out
  have heo:=he.out
  rcases h3.own.2 with⟨e2,hm0⟩|⟨g,cap,Acd,e2,hgB,hh,Afh,Crj,hcs,htk⟩
  ·simp only[Value.slice.injEq]at e2
   obtain⟨rfl,_,rfl⟩:=e2
   obtain rfl:n=0:=by omega
   obtain rfl:k=0:=by omega
   obtain rfl:f=0:=by omega
   obtain rfl:m=0:=by omega
   obtain rfl:e=0:=by omega
   clear Aly
   have hx0:xs=[]:=List.eq_nil_of_length_eq_zero (by simpa using hxl)
   have hJ0:J=[]:=List.eq_nil_of_length_eq_zero (by simpa using hJ)
   subst hx0
   subst hJ0
   have Bdf:∀w,Calls prog 102 #[.agg #[.int .i64 0,.int .i64 0]] w fun r w'=>r=.returned (.int .i64 0)/\Below w.heap.size w w':=E3.out
   replace Bdf:=J0 Bdf
   replace hS:=J0 hS
   replace hd3:=J0 hd3
   replace hws:=J0 hws
   replace hO3:=J0 hO3
   clear hb3 hmo heo E3 h3 hm0
   go_wp2
   go_region_held3 (fun w'=>w'.cell? ⟨bx,0,none⟩=some (.int .i64 0)/\w'.cell? ⟨bx,1,none⟩=some (.int .i64 0)/\w'.cell? ⟨x,3,none⟩=some (.slice none 0 0))
    (first|exact⟨a0,a1,a2'⟩|exact c1|exact hS.out _ hb2.out|go_keep)
    (first
     |(go_at_call 102;(with_reducible refine(Bdf.out _).mono ?_);rintro e w2 ⟨rfl,hb2'⟩;have hb2:=J0 (A2 hd3.out hb2'))
     |(refine Bhc rfl (.tmp 20) (.tmp 27) 132 132 rfl 188 underlying132 ⟨2,Awh⟩ _ _ _ _ _ _ rfl rfl (by rfl) ?_))
   have A4:=J0 (And.intro (hws.out _ hb2.out) (hO3.out.trans (A0.A1 hb2.out _)))
   go_end0
   exact⟨⟨_,rfl⟩,_,[],A4.out.1,⟨[],rfl,by simp[Aom],rfl⟩,A4.out.2⟩
  ·have hcc:m=m/\c2=cap:=by simp only[Value.slice.injEq]at e2;exact⟨rfl,e2.2.2⟩
   obtain⟨_,rfl⟩:=hcc
   have hag:a2=some ⟨g,0,none⟩:=by simp only[Value.slice.injEq]at e2;exact e2.1
   subst hag
   clear e2
   have hgO:Hid (g∈x::(Value.slice ao n c).ownBlock.toList\/w.heap.size<=g):=J0 (by
    rcases Aly with Aly|Aly
    ·refine .inl (List.mem_cons_of_mem _ ?_)
     rw[<- Aly]
     simp[Value.ownBlock]
    ·have:g=w0.heap.size:=by simpa[Value.ownBlock]using Aly
     exact .inr (by rw[this];exact hsz.out))
   clear Aly
   have hbg:Block w3 g 188 (xs++J++Acd.toList.drop (m*2)).toArray:=by
    have:xs++J++Acd.toList.drop (m*2)=Acd.toList:=by rw[<- htk,List.take_append_drop]
    rw[this];exact hh
   have hcl:(xs++J++Acd.toList.drop (m*2)).length=c2*2:=by
    have:xs++J++Acd.toList.drop (m*2)=Acd.toList:=by rw[<- htk,List.take_append_drop]
    rw[this];simpa using hcs
   clear hh hcs htk
   generalize Acd.toList.drop (m*2)=tail at hbg hcl
   have hxg:x≠g:=fun ee=>absurd (Typ.inj h3.typ (ee▸(h3.Q2 g rfl).2.2)) (by decide)
   have Asl:bx≠g:=fun ee=>absurd (Typ.inj (Block.typ hb3) (ee▸(h3.Q2 g rfl).2.2)) (by decide)
   have hbG:=fun w' (hb:Below w3.heap.size w3 w')=>hbg.only (A0.A1 hb []) (by simp)
   have hxJ:(xs++J).length=m*2:=by rw[List.length_append,hxl,hJ];omega
   have P9:=fun w' (hb:Below w3.heap.size w3 w')=>(fun j v hj=>by
    rw[Addr.add_lit]
    refine(hbG w' hb).cell _ ?_
    rw[List.getElem?_drop]at hj
    have hlt:=(List.getElem?_eq_some_iff.1 hj).1
    rw[List.getElem?_toArray,List.append_assoc,List.getElem?_append_left hlt]
    exact hj:∀j v,(xs.drop (f*2))[j]?=some v->w'.cell? ((⟨g,f*2,none⟩:Addr).add j)=some v)
   have hKS:=fun w1 w' (hb:Below w3.heap.size w3 w1) (ho:A0 [g] w1 w')=>(⟨((hb3.only (A0.A1 hb []) (by simp)).only ho (by simpa using Asl)).cell 0 rfl,((hb3.only (A0.A1 hb []) (by simp)).only ho (by simpa using Asl)).cell 1 rfl,((hws _ hb).blk.only ho (by simpa using hxg)).cell 3 rfl⟩:w'.cell? ⟨bx,0,none⟩=some (.int .i64 f)/\w'.cell? ⟨bx,1,none⟩=some (.int .i64 k)/\w'.cell? ⟨x,3,none⟩=some (.slice (some ⟨g,0,none⟩) m c2))
   have hX:(xs.drop (f*2)).length=(n-f)*2:=by rw[List.length_drop,hxl];omega
   have hone':∀v∈xs.drop (f*2),v.oneCell'=true:=fun v hv=>E0 v (List.mem_of_mem_drop hv)
   obtain⟨X,hXX⟩:∃X,X=xs.drop (f*2):=⟨_,rfl⟩
   obtain⟨cur,G7⟩:∃cur,cur=xs++J++tail:=⟨_,rfl⟩
   rw[<- hXX]at P9 hX hone'
   rw[<- G7]at hbG hcl
   have hfm:f<=m:=by omega
   have hem:e<=m:=by omega
   have hfI:(f:Int)<=(m:Int):=by omega
   have heI:(e:Int)<=(m:Int):=by omega
   have hfc:f<=c2:=by omega
   have hec:e<=c2:=by omega
   obtain⟨ad1,Aef⟩:∃ad1,(if c2=f then(some ⟨g,0,none⟩:Option Addr)else some ⟨g,f*2,none⟩)=ad1:=⟨_,rfl⟩
   obtain⟨ad2,Agn⟩:∃ad2,(if c2=e then(some ⟨g,0,none⟩:Option Addr)else some ⟨g,e*2,none⟩)=ad2:=⟨_,rfl⟩
   have hd1:Hid (0<m-f->ad1=some ⟨g,f*2,none⟩):=J0 fun h0=>by rw[<- Aef];exact if_neg (by omega)
   have hd2:Hid (0<m-e->ad2=some ⟨g,e*2,none⟩):=J0 fun h0=>by rw[<- Agn];exact if_neg (by omega)
   have S0:Hid (e*2+X.length<=cur.length):=J0 (by rw[hX,hcl];omega)
   have Bec:Hid (X.length=min (m-f) (m-e)*2):=J0 (by rw[hX];congr 1;omega)
   have C3:=fun(w1:World) (hb:Block w1 g 188 (splice cur (e*2) X).toArray)=>Chf (w:=w1) (f:=f) (J:=J) (tail:=tail) heo hmo hf Afh Crj hxl hJ (by rw[<- G7];exact hcl) (by rw[<- G7,<- hXX];exact hb)
   have Bdh:=fun w1 w4 (hb:Below w3.heap.size w3 w1) (ho:A0 [g] w1 w4) (hb4:Block w4 g 188 (splice cur (e*2) X).toArray)=>(hws _ hb).Aea (C3 w4 hb4) ho
   have hJJ:Room xs f k (Z6 xs (f*2) (((xs++J).drop (f*2)).take (k*2))):=⟨_,by rw[List.length_take,List.length_drop,hxJ];omega,fun v hv=>by
    rcases List.mem_append.1 (List.mem_of_mem_drop (List.mem_of_mem_take hv))with hv|hv
    ·exact E0 v hv
    ·exact hJ1 v hv,rfl⟩
   replace C3:=J0 C3
   replace Bdh:=J0 Bdh
   replace hJJ:=J0 hJJ
   replace hX:=J0 hX
   replace P9:=J0 P9
   replace hone':=J0 hone'
   replace hbG:=J0 hbG
   replace hKS:=J0 hKS
   replace hS:=J0 hS
   replace hd3:=J0 hd3
   replace hXX:=J0 hXX
   replace G7:=J0 G7
   replace hxl:=J0 hxl
   replace hcl:=J0 hcl
   replace hO3:=J0 hO3
   clear hb3 hmo heo h3 hws hbg hxJ hJ
   go_wp2
   go_region_held3 (fun w'=>w'.cell? ⟨bx,0,none⟩=some (.int .i64 f)/\w'.cell? ⟨bx,1,none⟩=some (.int .i64 k)/\w'.cell? ⟨x,3,none⟩=some (.slice (some ⟨g,0,none⟩) m c2))
    (first|exact⟨a0,a1,a2'⟩|exact c1|exact hS.out _ hb2.out|exact hKS.out _ _ hb2.out ho4|go_keep)
    (first
     |(go_at_call 102;(with_reducible refine(E3.out _).mono ?_);rintro e w2 ⟨rfl,hb2'⟩;have hb2:=J0 (A2 hd3.out hb2'))
     |(refine Atz rfl (.tmp 20) (.tmp 27) 132 132 rfl 188 2 underlying132 Awh _ _ _ _ _ _ rfl rfl g (e*2) cur 188 (hbG.out _ hb2.out) X Bec.out (fun h1 h2=>⟨hd2.out h2,_,hd1.out h1,P9.out _ hb2.out⟩) S0.out hone'.out ?_;intro w4 hb4 ho4))
   have A4:=J0 (And.intro (Bdh.out _ _ hb2.out ho4 hb4.out) (hO3.out.then ((A0.A1 hb2.out [g]).trans ho4) (fun q hq=>by
    obtain rfl:q=g:=by simpa using hq
    exact hgO.out)))
   go_end0
   exact⟨⟨_,rfl⟩,_,_,A4.out.1,hJJ.out,A4.out.2⟩
end
structure E2(B:Zn)(w:World)(x s nx most:Nat)(kp:Bool)(cols:Nat)(sv lv:Value)(top bot n:Nat)(xs:List Value)(L R:List En):Prop where
 ln:LnX B w x s nx most kp cols sv lv top bot n xs R
 rows:∀e∈L,O4 0 w e
 zr:∀e∈L,B e.d/\B e.g
 dd:((L++R).map En.d).Nodup
 gg:((L++R).map En.g).Nodup
theorem Adw{w:World}{e:En}(h:O4 0 w e):e.d<w.heap.size/\e.g<w.heap.size:=by
 obtain⟨_,_,_,n,cap,tail,hx⟩:=h
 exact⟨hx.ptr.lt,hx.row.lt⟩
theorem Aui{α:Type}(f:α->Nat){l m:List α}{N:Nat}(h:(l.map f).Nodup)(hl:∀e∈l,f e<N){x:α}(hx:N<=f x)(hp:List.Perm m (x::l)):(m.map f).Nodup:=by
 rw[(hp.map f).nodup_iff,List.map_cons,List.nodup_cons]
 refine⟨fun hm=>?_,h⟩
 obtain⟨e,he,e1⟩:=List.mem_map.1 hm
 have:=hl e he
 omega
section
variable {B:Zn}{w w':World}{x s nx most cols top bot n:Nat}{kp:Bool}{sv lv:Value}{xs:List Value}{L R:List En}
theorem E2.below(h:E2 B w x s nx most kp cols sv lv top bot n xs L R)(hb:Below w.heap.size w w'):E2 B w' x s nx most kp cols sv lv top bot n xs L R :=
 ⟨h.ln.below hb,fun e he=>(h.rows e he).below hb,h.zr,h.dd,h.gg⟩
theorem E2.fr{B':Zn}{ts:List TypeId}(h:E2 B w x s nx most kp cols sv lv top bot n xs L R)(hf:Fr B' ts w w')(hn:P0 ts):E2 B w' x s nx most kp cols sv lv top bot n xs L R :=
 ⟨h.ln.fr hf hn,fun e he=>Bmv (h.rows e he) hf hn,h.zr,h.dd,h.gg⟩
theorem E2.sub(h:E2 B w x s nx most kp cols sv lv top bot n xs L R){L':List En}(hs:L'.Sublist L):E2 B w x s nx most kp cols sv lv top bot n xs L' R :=
 ⟨h.ln,fun e he=>h.rows e (hs.subset he),fun e he=>h.zr e (hs.subset he),h.dd.sublist ((List.Sublist.append hs (List.Sublist.refl R)).map _),h.gg.sublist ((List.Sublist.append hs (List.Sublist.refl R)).map _)⟩
theorem E2.Cfn(h:E2 B w x s nx most kp cols sv lv top bot n xs L R)(ho:A0 (x::lv.ownBlock.toList) w w'):∀e∈L,O4 0 w' e:=by
 have hno:∀ {k:Nat} {t:TypeId},Typ w k t->168≠t->188≠t->k∉x::lv.ownBlock.toList:=fun {k t} ht n1 n2 hm=>by
  rcases List.mem_cons.1 hm with rfl|hm
  ·exact n1 (Typ.inj h.ln.typ ht)
  ·exact n2 (Typ.inj (h.ln.Q2 k (by simpa using hm)).2.2 ht)
 exact fun e he=>(h.rows e he).only ho (hno (h.rows e he).typ.1 (by decide) (by decide)) (hno (h.rows e he).typ.2 (by decide) (by decide))
theorem E2.ln'(h:E2 B w x s nx most kp cols sv lv top bot n xs L R){lv':Value}{n':Nat}{xs':List Value}{top' bot' cols':Nat}(h1:LnX B w' x s nx most kp cols' sv lv' top' bot' n' xs' R)(ho:A0 (x::lv.ownBlock.toList) w w'):E2 B w' x s nx most kp cols' sv lv' top' bot' n' xs' L R :=
 ⟨h1,h.Cfn ho,h.zr,h.dd,h.gg⟩
theorem E2.lts(h:E2 B w x s nx most kp cols sv lv top bot n xs L R):∀e∈L++R,e.d<w.heap.size/\e.g<w.heap.size:=fun e he=>by
 rcases List.mem_append.1 he with he|he
 ·exact Adw (h.rows e he)
 ·exact Adw (h.ln.st.2 e he)
theorem LnX.stored(h:LnX B w x s nx most kp cols sv lv top bot n xs R){nx':Nat}{sv':Value}{R':List En}{K:List Nat}(ho:A0 K w w')(hx:x∉K)(hl:∀g,lv.ownBlock=some g->g∉K)(h1:SX 0 w' s nx' most sv' R')(ha:sv'.ownBlock=sv.ownBlock\/∃g,sv'.ownBlock=some g/\w.heap.size<=g)(hr:∀e∈R',B e.d/\B e.g):LnX B w' x s nx' most kp cols sv' lv top bot n xs R':=by
 refine⟨h.blk.only ho hx,Aen h.own ho hl,h1,fun g hg hs=>?_,h.lo.store ho.size ha hr,h.small⟩
 rcases ha with ha|⟨g',ha,hge⟩
 ·exact h.apart g hg (ha▸hs)
 ·have:=(h.Q2 g hg).2.1
  rw[ha]at hs
  cases hs
  omega
theorem E2.push(h:E2 B w x s nx most kp cols sv lv top bot n xs L R){id:Int}{dr:Nat}{l:List Cel}{e:Ending}(hp:Bak 0 w s nx most sv R id dr l e w') :
  ∃sv' R',E2 B w' x s nx most kp cols sv' lv top bot n xs L R'/\vw R'=O2 most (vw R) (id,l)/\Fr B PT w w':=by
 obtain⟨sv',d,g,_,h1,hd,hg,ho,ha⟩:=hp
 have hno:∀ {k:Nat} {t:TypeId},Typ w k t->136≠t->188≠t->k∉s::sv.ownBlock.toList:=fun {k t} ht n1 n2 hm=>by
  rcases List.mem_cons.1 hm with rfl|hm
  ·exact n1 (Typ.inj h.ln.st.typ ht)
  ·exact n2 (Typ.inj (h.ln.st.Aci k (by simpa using hm)).2.2 ht)
 have hl:∀g,lv.ownBlock=some g->g∉s::sv.ownBlock.toList:=fun g hg hm=>by
  rcases List.mem_cons.1 hm with rfl|hm
  ·exact absurd (Typ.inj h.ln.st.typ (h.ln.Q2 g hg).2.2) (by decide)
  ·exact h.ln.apart g hg (by simpa using hm)
 have M3:∀(f:En->Nat),((L++R).map f).Nodup->w.heap.size<=f (En.mk id d g dr l)->(∀e∈L++R,f e<w.heap.size)->((L++O2 most R (En.mk id d g dr l)).map f).Nodup:=fun f hn hf hlt=>by
  have h2:((L++(R++[(En.mk id d g dr l)])).map f).Nodup:=Aui f hn hlt hf (by rw[<- List.append_assoc];exact List.perm_append_singleton _ _)
  refine h2.sublist ((List.Sublist.append (List.Sublist.refl L) ?_).map f)
  unfold O2
  split
  ·exact List.drop_sublist _ _
  ·exact List.Sublist.refl _
 refine⟨sv',O2 most R (En.mk id d g dr l),⟨h.ln.stored ho (hno h.ln.typ (by decide) (by decide)) hl h1 ha (fun e he=>(Bin he).elim (fun he=>h.ln.lo.r e he) (fun he=>by subst he;exact⟨h.ln.lo.up _ hd,h.ln.lo.up _ hg⟩)),fun e he=>(h.rows e he).only ho (hno (h.rows e he).typ.1 (by decide) (by decide)) (hno (h.rows e he).typ.2 (by decide) (by decide)),h.zr,M3 En.d h.dd hd (fun e he=>(h.lts e he).1),M3 En.g h.gg hg (fun e he=>(h.lts e he).2)⟩,?_,?_⟩
 ·unfold vw;exact Cbs _ _ _ _
 ·refine Fr.I9 ho fun k hk _=>?_
  rcases List.mem_cons.1 hk with rfl|hm
  ·exact⟨h.ln.lo.s,_,by simp[PT],h.ln.st.typ⟩
  ·have:=h.ln.st.Aci k (by simpa using hm)
   exact⟨h.ln.lo.p k (by simpa using hm),_,by simp[PT],this.2.2⟩
theorem E2.fresh(h:E2 B w x s nx most kp cols sv lv top bot n xs L R){d g:Nat}{l:List Cel}(h1:SX 0 w' s (nx+1) most sv R)(hr:O4 w.heap.size w' ⟨nx,d,g,0,l⟩)(ho:A0 [s] w w'){L':List En}(hp:List.Perm L' (⟨nx,d,g,0,l⟩::L)) :
  E2 B w' x s (nx+1) most kp cols sv lv top bot n xs L' R/\Fr B PT w w':=by
 have hno:∀ {k:Nat} {t:TypeId},Typ w k t->136≠t->k∉[s]:=fun {k t} ht n1 hm=>by
  obtain rfl:k=s:=by simpa using hm
  exact n1 (Typ.inj h.ln.st.typ ht)
 obtain⟨g1,g2,g3,g4⟩:=hr
 have hpp:List.Perm (L'++R) (⟨nx,d,g,0,l⟩::(L++R)):=hp.append_right R
 refine⟨⟨h.ln.stored ho (hno h.ln.typ (by decide)) (fun g hg=>hno (h.ln.Q2 g hg).2.2 (by decide)) h1 (.inl rfl) h.ln.lo.r,fun e he=>?_,fun e he=>?_,Aui En.d h.dd (fun e he=>(h.lts e he).1) g2 hpp,Aui En.g h.gg (fun e he=>(h.lts e he).2) g3 hpp⟩,?_⟩
 ·rcases List.mem_cons.1 (hp.subset he)with rfl|he
  ·exact⟨g1,Nat.zero_le _,Nat.zero_le _,g4⟩
  ·exact(h.rows e he).only ho (hno (h.rows e he).typ.1 (by decide)) (hno (h.rows e he).typ.2 (by decide))
 ·rcases List.mem_cons.1 (hp.subset he)with rfl|he
  ·exact⟨h.ln.lo.up _ g2,h.ln.lo.up _ g3⟩
  ·exact h.zr e he
 ·refine Fr.I9 ho fun k hk _=>?_
  obtain rfl:k=s:=by simpa using hk
  exact⟨h.ln.lo.s,_,by simp[PT],h.ln.st.typ⟩
theorem Cjx(A C:List En)(J:List Value)(e:En)(u v:Value){i:Nat}(hi:A.length=i):((fl E5 A++(u::v::J++fl E5 C)).set (i*2) (.int .i64 e.id)).set (i*2+1) (.pointer (some ⟨e.d,0,none⟩))=fl E5 (A++[e])++(J++fl E5 C):=by
 have hl:(fl E5 A).length=i*2:=by rw[Q4 Abj,hi]
 rw[List.set_append_right _ _ (by omega),hl,Nat.sub_self,List.cons_append,J2,List.set_append_right _ _ (by omega),hl,show i*2+1-i*2=1 by omega,List.cons_append,J3,J2,Z9,Acq]
 simp[E5]
theorem E2.place{g c:Nat}{A C:List En}{J:List Value}{u v:Value}{i:Nat}(h:E2 B w x s nx most kp cols sv (.slice (some ⟨g,0,none⟩) n c) top bot n (fl E5 A++(u::v::J++fl E5 C)) L R)(hi:A.length=i)(e:En) :
  E2 B ((w.setCell ⟨g,i*2,none⟩ (.int .i64 e.id)).setCell ⟨g,i*2+1,none⟩ (.pointer (some ⟨e.d,0,none⟩))) x s nx most kp cols sv (.slice (some ⟨g,0,none⟩) n c) top bot n (fl E5 (A++[e])++(J++fl E5 C)) L R /\
  A0 [g] w ((w.setCell ⟨g,i*2,none⟩ (.int .i64 e.id)).setCell ⟨g,i*2+1,none⟩ (.pointer (some ⟨e.d,0,none⟩))):=by
 obtain⟨o1,_⟩:=World.ownsRow.stored h.ln.own (i*2) (.int .i64 e.id)
 obtain⟨o2,_⟩:=World.ownsRow.stored o1 (i*2+1) (.pointer (some ⟨e.d,0,none⟩))
 rw[Cjx A C J e u v hi]at o2
 have ho:A0 [g] w ((w.setCell ⟨g,i*2,none⟩ (.int .i64 e.id)).setCell ⟨g,i*2+1,none⟩ (.pointer (some ⟨e.d,0,none⟩))):=(A0.setCell w ⟨g,i*2,none⟩ _).trans (A0.setCell _ ⟨g,i*2+1,none⟩ _)
 have h1:=h.ln.Aea o2 (by simpa[Value.ownBlock]using ho)
 exact⟨h.ln' h1 (ho.mono (by simp[Value.ownBlock])),ho⟩
end
section
variable {B:Zn}{w w':World}{x s nx most cols top bot n:Nat}{kp:Bool}{sv lv:Value}{xs:List Value}{L R:List En}
theorem Bxm(v:Value)(id:Int)(d:Nat)(w:World):Calls prog 77 #[v,.agg #[.int .i64 id,.pointer (some ⟨d,0,none⟩)]] w fun e w'=>(∃v,e=.returned v)/\Below w.heap.size w w':=by
 have hb:=A3 w (.cells #[.int .i64 id,.pointer (some ⟨d,0,none⟩)] 188)
 go_enter func77,ntmps77
 go_wp2
 go_end0
 exact⟨⟨_,rfl⟩,hb⟩
def Cdg(B:Zn)(w:World)(x s nx most:Nat)(kp:Bool)(cols:Nat)(lv:Value)(top bot n:Nat)(xs:List Value)(L R:List En)(id:Int)(l:List Cel)(e:Ending)(w':World):Prop :=
 (∃v,e=.returned v)/\∃sv' R',E2 B w' x s nx most kp cols sv' lv top bot n xs L R'/\vw R'=O2 most (vw R) (id,l)/\Fr B PT w w'
theorem Cfo(h:E2 B w x s nx most kp cols sv lv top bot n xs L R)(e0:En)(he:O4 0 w e0)(hid:1<=e0.id/\e0.id<nx):Calls prog 283 #[.pointer (some ⟨x,0,none⟩),.agg #[.int .i64 e0.id,.pointer (some ⟨e0.d,0,none⟩)]] w (Cdg B w x s nx most kp cols lv top bot n xs L R e0.id e0.l):=by
 have hbn:=A3 w (.cells #[.int .i64 e0.id,.pointer (some ⟨e0.d,0,none⟩)] 188)
 have hbx:=Block.made w 188 #[.int .i64 e0.id,.pointer (some ⟨e0.d,0,none⟩)]
 have hws:=fun w1 (hb:Below w.heap.size w w1)=>h.below hb
 have hwe:=fun w1 (hb:Below w.heap.size w w1)=>he.below hb
 have Bej:=h.ln.blk.lt
 have hslt:=h.ln.st.lt
 have Aou:=fun g hg=>(h.ln.st.Aci g hg).2.1
 obtain⟨bx,D2⟩:∃bx,bx=w.heap.size:=⟨_,rfl⟩
 obtain⟨id,d,g0,dr,l⟩:=e0
 simp only at hid hbn hbx |-
 replace hws:=J0 hws
 replace hwe:=J0 hwe
 replace hid:=J0 hid
 clear h he
 go_enter func283,ntmps283
 go_wp2
 generalize w.alloc (.cells #[.int .i64 id,.pointer (some ⟨d,0,none⟩)] 188)=w0 at hbx hbn |-
 rw[<- D2]at hbx |-
 have Ama:bx∉s::sv.ownBlock.toList:=fun hm=>by
  rcases List.mem_cons.1 hm with e|hm
  ·omega
  ·have:=Aou bx (by simpa using hm);omega
 replace D2:=J0 D2
 have hd0:Below w0.heap.size w0 w0.drew:=C7 (Below.refl _ _) 1
 have hS:=fun w' (hb:Below w0.heap.size w0 w')=>And.intro (hws.out _ (A2 hbn hb)).ln.cells.1 (And.intro ((hbx.only (A0.A1 hb []) (by simp)).cell 0 rfl) ((hbx.only (A0.A1 hb []) (by simp)).cell 1 rfl))
 obtain⟨a0,a1,a2⟩:=hS w0 (Below.refl _ _)
 have c1:=hS _ hd0
 have hpu:Calls prog 293 #[.pointer (some ⟨s,0,none⟩),.agg #[.int .i64 id,.pointer (some ⟨d,0,none⟩)]] w0.drew fun e w'=>(∃v,e=.returned v)/\(w'.cell? ⟨x,0,none⟩=some (.pointer (some ⟨s,0,none⟩))/\w'.cell? ⟨bx,0,none⟩=some (.int .i64 id)/\w'.cell? ⟨bx,1,none⟩=some (.pointer (some ⟨d,0,none⟩)))/\∃sv' R',E2 B w' x s nx most kp cols sv' lv top bot n xs L R'/\vw R'=O2 most (vw R) (id,l)/\Fr B PT w w':=by
  have hb1:=A2 hbn hd0
  have hm1:=hws.out _ hb1
  obtain⟨q1,q2,q3,q4,q5,q6,q7⟩:=hwe.out _ hb1
  refine(Cgw hm1.ln.st id hid.out dr q7 q1).mono fun e w' hp=>?_
  have hO:=hp
  obtain⟨_,_,_,he,_,_,_,hO,_⟩:=hO
  obtain⟨sv',R',m1,m2,m3⟩:=hm1.push hp
  have hb2:=((hbx.only (A0.A1 hd0 []) (by simp)).only hO Ama)
  exact⟨⟨_,he⟩,⟨m1.ln.cells.1,hb2.cell 0 rfl,hb2.cell 1 rfl⟩,sv',R',m1,m2,(Fr.A1 hb1).trans m3⟩
 replace hpu:=J0 hpu
 replace hS:=J0 hS
 clear hbx hbn Ama Aou
 go_region_held3 (fun w'=>w'.cell? ⟨x,0,none⟩=some (.pointer (some ⟨s,0,none⟩))/\w'.cell? ⟨bx,0,none⟩=some (.int .i64 id)/\w'.cell? ⟨bx,1,none⟩=some (.pointer (some ⟨d,0,none⟩)))
  (first|exact⟨a0,a1,a2⟩|exact c1|exact hz)
  (first
   |(go_at_call 293;(with_reducible refine hpu.out.mono ?_);rintro e w2 ⟨⟨v2,rfl⟩,hz,A4⟩))
 replace A4:=J0 A4
 go_end0
 exact⟨⟨_,rfl⟩,A4.out⟩
end
