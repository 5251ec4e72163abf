/- Part 14 of HostSplits. -/
import Derived.Test.YtecnpoigegiooaaGreatDoorP13
set_option maxHeartbeats 16000000
set_option maxRecDepth 100000
namespace Go.Proofs.YtecnpoigegiooaaGreatDoor.Scn
open Go RowKit Com Rw Lns
structure MidX (B:Zn) (w:World) (x s nx most:Nat) (kp:Bool) (cols:Nat) (sv lv:Value) (top bot n:Nat) (xs:List Value) (L R:List En):Prop where
 ln:LnX B w x s nx most kp cols sv lv top bot n xs R
 rows:∀e∈L,RowG 0 w e
 zr:∀e∈L,B e.d/\B e.g
 dd:((L++R).map En.d).Nodup
 gg:((L++R).map En.g).Nodup
theorem Aj3 {w:World} {e:En} (h:RowG 0 w e):e.d<w.heap.size/\e.g<w.heap.size:=by
 obtain⟨_,_,_,n,cap,tail,hx⟩:=h
 exact⟨hx.ptr.lt,hx.row.lt⟩
theorem Aw9 {α:Type} (f:α->Nat) {l m:List α} {N:Nat} (h:(l.map f).Nodup) (hl:∀e∈l,f e<N) {x:α} (hx:N<=f x) (hp:List.Perm m (x::l)):(m.map f).Nodup:=by
 rw[(hp.map f).nodup_iff,List.map_cons,List.nodup_cons]
 refine⟨fun hm=>?_,h⟩
 obtain⟨e,he,e1⟩:=List.mem_map.1 hm
 have:=hl e he
 omega
section
variable {B:Zn}{w w':World}{x s nx most cols top bot n:Nat}{kp:Bool}{sv lv:Value}{xs:List Value}{L R:List En}
theorem MidX.below (h:MidX B w x s nx most kp cols sv lv top bot n xs L R) (hb:Below w.heap.size w w'):MidX B w' x s nx most kp cols sv lv top bot n xs L R :=
 ⟨h.ln.below hb,fun e he=>(h.rows e he).below hb,h.zr,h.dd,h.gg⟩
theorem MidX.fr {B':Zn} {ts:List TypeId} (h:MidX B w x s nx most kp cols sv lv top bot n xs L R) (hf:Fr B' ts w w') (hn:NoPT ts):MidX B w' x s nx most kp cols sv lv top bot n xs L R :=
 ⟨h.ln.fr hf hn,fun e he=>Cm4 (h.rows e he) hf hn,h.zr,h.dd,h.gg⟩
theorem MidX.sub (h:MidX B w x s nx most kp cols sv lv top bot n xs L R) {L':List En} (hs:L'.Sublist L):MidX B w x s nx most kp cols sv lv top bot n xs L' R :=
 ⟨h.ln,fun e he=>h.rows e (hs.subset he),fun e he=>h.zr e (hs.subset he),h.dd.sublist ((List.Sublist.append hs (List.Sublist.refl R)).map _),h.gg.sublist ((List.Sublist.append hs (List.Sublist.refl R)).map _)⟩
theorem MidX.keepRows (h:MidX B w x s nx most kp cols sv lv top bot n xs L R) (ho:Only (x::lv.ownBlock.toList) w w'):∀e∈L,RowG 0 w' e:=by
 have hno:∀ {k:Nat} {t:TypeId},Typ w k t->168≠t->188≠t->k∉x::lv.ownBlock.toList:=fun {k t} ht n1 n2 hm=>by
  rcases List.mem_cons.1 hm with rfl|hm
  ·exact n1 (Typ.inj h.ln.typ ht)
  ·exact n2 (Typ.inj (h.ln.ltyp k (by simpa using hm)).2.2 ht)
 exact fun e he=>(h.rows e he).only ho (hno (h.rows e he).typ.1 (by decide) (by decide)) (hno (h.rows e he).typ.2 (by decide) (by decide))
theorem MidX.ln' (h:MidX B w x s nx most kp cols sv lv top bot n xs L R) {lv':Value} {n':Nat} {xs':List Value} {top' bot' cols':Nat} (h1:LnX B w' x s nx most kp cols' sv lv' top' bot' n' xs' R) (ho:Only (x::lv.ownBlock.toList) w w'):MidX B w' x s nx most kp cols' sv lv' top' bot' n' xs' L R :=
 ⟨h1,h.keepRows ho,h.zr,h.dd,h.gg⟩
theorem MidX.lts (h:MidX B w x s nx most kp cols sv lv top bot n xs L R):∀e∈L++R,e.d<w.heap.size/\e.g<w.heap.size:=fun e he=>by
 rcases List.mem_append.1 he with he|he
 ·exact Aj3 (h.rows e he)
 ·exact Aj3 (h.ln.st.2 e he)
theorem LnX.stored (h:LnX B w x s nx most kp cols sv lv top bot n xs R) {nx':Nat} {sv':Value} {R':List En} {K:List Nat} (ho:Only K w w') (hx:x∉K) (hl:∀g,lv.ownBlock=some g->g∉K) (h1:SX 0 w' s nx' most sv' R') (ha:sv'.ownBlock=sv.ownBlock\/∃g,sv'.ownBlock=some g/\w.heap.size<=g) (hr:∀e∈R',B e.d/\B e.g):LnX B w' x s nx' most kp cols sv' lv top bot n xs R':=by
 refine⟨h.blk.only ho hx,Af0 h.own ho hl,h1,fun g hg hs=>?_,h.lo.store ho.size ha hr,h.small⟩
 rcases ha with ha|⟨g',ha,hge⟩
 ·exact h.apart g hg (ha▸hs)
 ·have:=(h.ltyp g hg).2.1
  rw[ha] at hs
  cases hs
  omega
theorem MidX.push (h:MidX B w x s nx most kp cols sv lv top bot n xs L R) {id:Int} {dr:Nat} {l:List Cel} {e:Ending} (hp:Bm4 0 w s nx most sv R id dr l e w') :
  ∃sv' R',MidX B w' x s nx most kp cols sv' lv top bot n xs L R'/\vw R'=Ai5 most (vw R) (id,l)/\Fr B PT w w':=by
 obtain⟨sv',d,g,_,h1,hd,hg,ho,ha⟩:=hp
 have hno:∀ {k:Nat} {t:TypeId},Typ w k t->136≠t->188≠t->k∉s::sv.ownBlock.toList:=fun {k t} ht n1 n2 hm=>by
  rcases List.mem_cons.1 hm with rfl|hm
  ·exact n1 (Typ.inj h.ln.st.typ ht)
  ·exact n2 (Typ.inj (h.ln.st.ptyp k (by simpa using hm)).2.2 ht)
 have hl:∀g,lv.ownBlock=some g->g∉s::sv.ownBlock.toList:=fun g hg hm=>by
  rcases List.mem_cons.1 hm with rfl|hm
  ·exact absurd (Typ.inj h.ln.st.typ (h.ln.ltyp g hg).2.2) (by decide)
  ·exact h.ln.apart g hg (by simpa using hm)
 have hsub:∀(f:En->Nat),((L++R).map f).Nodup->w.heap.size<=f (En.mk id d g dr l)->(∀e∈L++R,f e<w.heap.size)->((L++Ai5 most R (En.mk id d g dr l)).map f).Nodup:=fun f hn hf hlt=>by
  have h2:((L++(R++[(En.mk id d g dr l)])).map f).Nodup:=Aw9 f hn hlt hf (by rw[<- List.append_assoc];exact List.perm_append_singleton _ _)
  refine h2.sublist ((List.Sublist.append (List.Sublist.refl L) ?_).map f)
  unfold Ai5
  split
  ·exact List.drop_sublist _ _
  ·exact List.Sublist.refl _
 refine⟨sv',Ai5 most R (En.mk id d g dr l),⟨h.ln.stored ho (hno h.ln.typ (by decide) (by decide)) hl h1 ha (fun e he=>(Bu9 he).elim (fun he=>h.ln.lo.r e he) (fun he=>by subst he;exact⟨h.ln.lo.up _ hd,h.ln.lo.up _ hg⟩)),fun e he=>(h.rows e he).only ho (hno (h.rows e he).typ.1 (by decide) (by decide)) (hno (h.rows e he).typ.2 (by decide) (by decide)),h.zr,hsub En.d h.dd hd (fun e he=>(h.lts e he).1),hsub En.g h.gg hg (fun e he=>(h.lts e he).2)⟩,?_,?_⟩
 ·unfold vw;exact pushL_map _ _ _ _
 ·refine Fr.of_only ho fun k hk _=>?_
  rcases List.mem_cons.1 hk with rfl|hm
  ·exact⟨h.ln.lo.s,_,by simp[PT],h.ln.st.typ⟩
  ·have:=h.ln.st.ptyp k (by simpa using hm)
   exact⟨h.ln.lo.p k (by simpa using hm),_,by simp[PT],this.2.2⟩
theorem MidX.fresh (h:MidX B w x s nx most kp cols sv lv top bot n xs L R) {d g:Nat} {l:List Cel} (h1:SX 0 w' s (nx+1) most sv R) (hr:RowG w.heap.size w' ⟨nx,d,g,0,l⟩) (ho:Only [s] w w') {L':List En} (hp:List.Perm L' (⟨nx,d,g,0,l⟩::L)) :
  MidX B w' x s (nx+1) most kp cols sv lv top bot n xs L' R/\Fr B PT w w':=by
 have hno:∀ {k:Nat} {t:TypeId},Typ w k t->136≠t->k∉[s]:=fun {k t} ht n1 hm=>by
  obtain rfl:k=s:=by simpa using hm
  exact n1 (Typ.inj h.ln.st.typ ht)
 obtain⟨g1,g2,g3,g4⟩:=hr
 have hpp:List.Perm (L'++R) (⟨nx,d,g,0,l⟩::(L++R)):=hp.append_right R
 refine⟨⟨h.ln.stored ho (hno h.ln.typ (by decide)) (fun g hg=>hno (h.ln.ltyp g hg).2.2 (by decide)) h1 (.inl rfl) h.ln.lo.r,fun e he=>?_,fun e he=>?_,Aw9 En.d h.dd (fun e he=>(h.lts e he).1) g2 hpp,Aw9 En.g h.gg (fun e he=>(h.lts e he).2) g3 hpp⟩,?_⟩
 ·rcases List.mem_cons.1 (hp.subset he) with rfl|he
  ·exact⟨g1,Nat.zero_le _,Nat.zero_le _,g4⟩
  ·exact(h.rows e he).only ho (hno (h.rows e he).typ.1 (by decide)) (hno (h.rows e he).typ.2 (by decide))
 ·rcases List.mem_cons.1 (hp.subset he) with rfl|he
  ·exact⟨h.ln.lo.up _ g2,h.ln.lo.up _ g3⟩
  ·exact h.zr e he
 ·refine Fr.of_only ho fun k hk _=>?_
  obtain rfl:k=s:=by simpa using hk
  exact⟨h.ln.lo.s,_,by simp[PT],h.ln.st.typ⟩
theorem fl_pair (A C:List En) (J:List Value) (e:En) (u v:Value) {i:Nat} (hi:A.length=i):((fl Ac3 A++(u::v::J++fl Ac3 C)).set (i*2) (.int .i64 e.id)).set (i*2+1) (.pointer (some ⟨e.d,0,none⟩))=fl Ac3 (A++[e])++(J++fl Ac3 C):=by
 have hl:(fl Ac3 A).length=i*2:=by rw[Ab8 Ac0,hi]
 rw[List.set_append_right _ _ (by omega),hl,Nat.sub_self,List.cons_append,J2,List.set_append_right _ _ (by omega),hl,show i*2+1 - i*2=1 by omega,List.cons_append,J3,J2,fl_app,fl_one]
 simp[Ac3]
theorem MidX.place {g c:Nat} {A C:List En} {J:List Value} {u v:Value} {i:Nat} (h:MidX B w x s nx most kp cols sv (.slice (some ⟨g,0,none⟩) n c) top bot n (fl Ac3 A++(u::v::J++fl Ac3 C)) L R) (hi:A.length=i) (e:En) :
  MidX B ((w.setCell ⟨g,i*2,none⟩ (.int .i64 e.id)).setCell ⟨g,i*2+1,none⟩ (.pointer (some ⟨e.d,0,none⟩))) x s nx most kp cols sv (.slice (some ⟨g,0,none⟩) n c) top bot n (fl Ac3 (A++[e])++(J++fl Ac3 C)) L R /\
  Only [g] w ((w.setCell ⟨g,i*2,none⟩ (.int .i64 e.id)).setCell ⟨g,i*2+1,none⟩ (.pointer (some ⟨e.d,0,none⟩))):=by
 obtain⟨o1,_⟩:=World.ownsRow.stored h.ln.own (i*2) (.int .i64 e.id)
 obtain⟨o2,_⟩:=World.ownsRow.stored o1 (i*2+1) (.pointer (some ⟨e.d,0,none⟩))
 rw[fl_pair A C J e u v hi] at o2
 have ho:Only [g] w ((w.setCell ⟨g,i*2,none⟩ (.int .i64 e.id)).setCell ⟨g,i*2+1,none⟩ (.pointer (some ⟨e.d,0,none⟩))):=(Only.setCell w ⟨g,i*2,none⟩ _).trans (Only.setCell _ ⟨g,i*2+1,none⟩ _)
 have h1:=h.ln.turned o2 (by simpa[Value.ownBlock] using ho)
 exact⟨h.ln' h1 (ho.mono (by simp[Value.ownBlock])),ho⟩
end
section
variable {B:Zn}{w w':World}{x s nx most cols top bot n:Nat}{kp:Bool}{sv lv:Value}{xs:List Value}{L R:List En}
theorem forget_any (v:Value) (id:Int) (d:Nat) (w:World):Calls Tryz.prog 77 #[v,.agg #[.int .i64 id,.pointer (some ⟨d,0,none⟩)]] w fun e w'=>(∃v,e=.returned v)/\Below w.heap.size w w':=by
 have hb:=Aa1 w (.cells #[.int .i64 id,.pointer (some ⟨d,0,none⟩)] 188)
 go_enter Tryz.func77,Tryz.ntmps77
 go_wp2
 go_end0
 exact⟨⟨_,rfl⟩,hb⟩
def KeepDone (B:Zn) (w:World) (x s nx most:Nat) (kp:Bool) (cols:Nat) (lv:Value) (top bot n:Nat) (xs:List Value) (L R:List En) (id:Int) (l:List Cel) (e:Ending) (w':World):Prop :=
 (∃v,e=.returned v)/\∃sv' R',MidX B w' x s nx most kp cols sv' lv top bot n xs L R'/\vw R'=Ai5 most (vw R) (id,l)/\Fr B PT w w'
theorem keep_any (h:MidX B w x s nx most kp cols sv lv top bot n xs L R) (e0:En) (he:RowG 0 w e0) (hid:1<=e0.id/\e0.id<nx):Calls Tryz.prog 283 #[.pointer (some ⟨x,0,none⟩),.agg #[.int .i64 e0.id,.pointer (some ⟨e0.d,0,none⟩)]] w (KeepDone B w x s nx most kp cols lv top bot n xs L R e0.id e0.l):=by
 have hbn:=Aa1 w (.cells #[.int .i64 e0.id,.pointer (some ⟨e0.d,0,none⟩)] 188)
 have hbx:=Block.made w 188 #[.int .i64 e0.id,.pointer (some ⟨e0.d,0,none⟩)]
 have hws:=fun w1 (hb:Below w.heap.size w w1)=>h.below hb
 have hwe:=fun w1 (hb:Below w.heap.size w w1)=>he.below hb
 have hxlt:=h.ln.blk.lt
 have hslt:=h.ln.st.lt
 have hplt:=fun g hg=>(h.ln.st.ptyp g hg).2.1
 obtain⟨bx,hbxe⟩:∃bx,bx=w.heap.size:=⟨_,rfl⟩
 obtain⟨id,d,g0,dr,l⟩:=e0
 simp only at hid hbn hbx |-
 replace hws:=J0 hws
 replace hwe:=J0 hwe
 replace hid:=J0 hid
 clear h he
 go_enter Tryz.func283,Tryz.ntmps283
 go_wp2
 generalize w.alloc (.cells #[.int .i64 id,.pointer (some ⟨d,0,none⟩)] 188)=w0 at hbx hbn |-
 rw[<- hbxe] at hbx |-
 have hbxl:bx∉s::sv.ownBlock.toList:=fun hm=>by
  rcases List.mem_cons.1 hm with e|hm
  ·omega
  ·have:=hplt bx (by simpa using hm);omega
 replace hbxe:=J0 hbxe
 have hd0:Below w0.heap.size w0 w0.drew:=Aa4 (Below.refl _ _) 1
 have hS:=fun w' (hb:Below w0.heap.size w0 w')=>And.intro (hws.out _ (Aa0 hbn hb)).ln.cells.1 (And.intro ((hbx.only (Only.of_below hb []) (by simp)).cell 0 rfl) ((hbx.only (Only.of_below hb []) (by simp)).cell 1 rfl))
 obtain⟨a0,a1,a2⟩:=hS w0 (Below.refl _ _)
 have c1:=hS _ hd0
 have hpu:Calls Tryz.prog 293 #[.pointer (some ⟨s,0,none⟩),.agg #[.int .i64 id,.pointer (some ⟨d,0,none⟩)]] w0.drew fun e w'=>(∃v,e=.returned v)/\(w'.cell? ⟨x,0,none⟩=some (.pointer (some ⟨s,0,none⟩))/\w'.cell? ⟨bx,0,none⟩=some (.int .i64 id)/\w'.cell? ⟨bx,1,none⟩=some (.pointer (some ⟨d,0,none⟩)))/\∃sv' R',MidX B w' x s nx most kp cols sv' lv top bot n xs L R'/\vw R'=Ai5 most (vw R) (id,l)/\Fr B PT w w':=by
  have hb1:=Aa0 hbn hd0
  have hm1:=hws.out _ hb1
  obtain⟨q1,q2,q3,q4,q5,q6,q7⟩:=hwe.out _ hb1
  refine(push_yes hm1.ln.st id hid.out dr q7 q1).mono fun e w' hp=>?_
  have hO:=hp
  obtain⟨_,_,_,he,_,_,_,hO,_⟩:=hO
  obtain⟨sv',R',m1,m2,m3⟩:=hm1.push hp
  have hb2:=((hbx.only (Only.of_below hd0 []) (by simp)).only hO hbxl)
  exact⟨⟨_,he⟩,⟨m1.ln.cells.1,hb2.cell 0 rfl,hb2.cell 1 rfl⟩,sv',R',m1,m2,(Fr.of_below hb1).trans m3⟩
 replace hpu:=J0 hpu
 replace hS:=J0 hS
 clear hbx hbn hbxl hplt
 go_region_held3 (fun w'=>w'.cell? ⟨x,0,none⟩=some (.pointer (some ⟨s,0,none⟩))/\w'.cell? ⟨bx,0,none⟩=some (.int .i64 id)/\w'.cell? ⟨bx,1,none⟩=some (.pointer (some ⟨d,0,none⟩)))
  (first|exact⟨a0,a1,a2⟩|exact c1|exact hz)
  (first
   |(go_at_call 293;(with_reducible refine hpu.out.mono ?_);rintro e w2 ⟨⟨v2,rfl⟩,hz,hres⟩))
 replace hres:=J0 hres
 go_end0
 exact⟨⟨_,rfl⟩,hres.out⟩
end
theorem fl_outA (L:List En) {f k:Nat} (h:f+k<=L.length):outA (fl Ac3 L) (f*2) (k*2)=fl Ac3 (outA L f k):=by
 unfold outA
 rw[Bn6 Ac0 _ _ (by omega),<- Nat.add_mul,Bn5 Ac0 _ _ h,fl_app]
theorem fl_insA (L:List En) {i:Nat} (h:i<=L.length) (J:List Value):insA (fl Ac3 L) (i*2) J=fl Ac3 (L.take i)++(J++fl Ac3 (L.drop i)):=by
 unfold insA
 rw[Bn6 Ac0 _ _ h,Bn5 Ac0 _ _ h]
theorem Cu3 (L:List En):OneL (fl Ac3 L):=Be8 Bt4 L
def ChgDone (B:Zn) (w:World) (x s nx most:Nat) (kp:Bool) (cols top bot:Nat) (vL vR:List Ln) (f k i m:Nat) (a:At) (push:Bool) (e:Ending) (w':World):Prop :=
 (∃v,e=.returned v)/\∃sv' lv' L' R',MidX B w' x s (nx+m) most kp cols sv' lv' top bot L'.length (fl Ac3 L') L' R'/\vw L'=insA (outA vL f k) i (Ae9 nx cols m a)/\vw R'=(if push then Ax6 most vR ((vL.drop f).take k) else vR)/\Fr B PT w w'
section
variable {B:Zn}{w w':World}{x s nx most cols top bot n:Nat}{kp:Bool}{sv lv:Value}{L R:List En}
theorem MidX.elem (h:MidX B w x s nx most kp cols sv lv top bot n (fl Ac3 L) L R) {i:Nat} (hn:n=L.length) (hi:i<L.length):∃g c,lv=.slice (some ⟨g,0,none⟩) n c/\w.cell? ⟨g,i*2,none⟩=some (.int .i64 L[i].id)/\w.cell? ⟨g,i*2+1,none⟩=some (.pointer (some ⟨L[i].d,0,none⟩))/\RowG 0 w L[i]:=by
 obtain⟨g,cap,tail,rfl,hg,hb,hc,hm⟩:=Ah6 h.ln.own (by omega)
 have e0:=Bn4 Ac0 hi (show 0<2 by decide)
 have e1:=Bn4 Ac0 hi (show 1<2 by decide)
 have hl:i*2+1<(fl Ac3 L).length:=by rw[Ab8 Ac0];omega
 refine⟨g,cap,rfl,hb.cell _ ?_,hb.cell _ ?_,h.rows _ (List.getElem_mem hi)⟩
 ·rw[List.getElem?_toArray,List.getElem?_append_left (by omega)];exact e0
 ·rw[List.getElem?_toArray,List.getElem?_append_left hl];exact e1
theorem fate_any {B:Zn} {w:World} {x s nx most cols top bot n:Nat} {kp:Bool} {sv lv:Value} {xs:List Value} {L R:List En} {p:Bool} {fn0:Nat} (hor:(p=false/\fn0=77)\/(p=true/\fn0=283)) (h:MidX B w x s nx most kp cols sv lv top bot n xs L R) (e0:En) (he:RowG 0 w e0) (hid:p=true->1<=e0.id/\e0.id<nx) :
  Calls Tryz.prog fn0 #[.pointer (some ⟨x,0,none⟩),.agg #[.int .i64 e0.id,.pointer (some ⟨e0.d,0,none⟩)]] w fun e w'=>(∃v,e=.returned v)/\∃sv' R',MidX B w' x s nx most kp cols sv' lv top bot n xs L R'/\vw R'=(if p then Ai5 most (vw R) (e0.id,e0.l) else vw R)/\Fr B PT w w':=by
 rcases hor with ⟨rfl,rfl⟩|⟨rfl,rfl⟩
 ·exact(forget_any _ _ _ w).mono fun e w' ⟨hv,hb⟩=>⟨hv,sv,R,h.below hb,rfl,Fr.of_below hb⟩
 ·exact keep_any h e0 he (hid rfl)
theorem change_any {p:Bool} {fn0:Nat} (hor:(p=false/\fn0=77)\/(p=true/\fn0=283)) (h:MidX B w x s nx most kp cols sv lv top bot L.length (fl Ac3 L) L R) (f k i m:Nat) (hf:f+k<=L.length) (hi:i<=L.length - k) (hm:L.length - k+m<=1000) (hnx:nx+m<=10000000000) (hc1:1<=cols) (hc5:cols<=512) (a:At) (hid:p=true->∀e∈L,1<=e.id/\e.id<nx) :
  Calls Tryz.prog 76 #[.pointer (some ⟨x,0,none⟩),.agg #[.int .i64 f,.int .i64 k],.agg #[.int .i64 i,.int .i64 m],.agg #[.int .u32 a.f,.int .u32 a.b,.int .u16 a.g],.func (.func fn0) #[.pointer (some ⟨x,0,none⟩)] #[]] w (ChgDone B w x s nx most kp cols top bot (vw L) (vw R) f k i m a p):=by
 have hLl:=h.ln.own.1
 obtain⟨fa,hfa⟩:∃fa,fa=Ae9 nx cols:=⟨_,rfl⟩
 obtain⟨af,ab,ag⟩:=a
 simp only
 have hfl:∀j,Ae9 nx cols (j+1) ⟨af,ab,ag⟩=_:=fun j=>freshS_succ nx cols j ⟨af,ab,ag⟩
 obtain⟨e,he⟩:∃e,e=f+k:=⟨_,rfl⟩
 have hend:=fun w=>Az4 f k e he (by have:=h.ln.small;omega) w
 have hb1:=Aa1 w (.cells #[.int .i64 f,.int .i64 k] 171)
 have hb2:=Aa0 hb1 (Aa1 (w.alloc (.cells #[.int .i64 f,.int .i64 k] 171)) (.cells #[.int .i64 i,.int .i64 m] 171))
 have hb3:=Aa0 hb2 (Aa1 ((w.alloc (.cells #[.int .i64 f,.int .i64 k] 171)).alloc (.cells #[.int .i64 i,.int .i64 m] 171)) (.cells #[.int .u32 af,.int .u32 ab,.int .u16 ag] 51))
 have k6:=((Block.made w 171 #[.int .i64 f,.int .i64 k]).alloc (.cells #[.int .i64 i,.int .i64 m] 171)).alloc (.cells #[.int .u32 af,.int .u32 ab,.int .u16 ag] 51)
 have k7:=(Block.made (w.alloc (.cells #[.int .i64 f,.int .i64 k] 171)) 171 #[.int .i64 i,.int .i64 m]).alloc (.cells #[.int .u32 af,.int .u32 ab,.int .u16 ag] 51)
 have k8:=Block.made ((w.alloc (.cells #[.int .i64 f,.int .i64 k] 171)).alloc (.cells #[.int .i64 i,.int .i64 m] 171)) 51 #[.int .u32 af,.int .u32 ab,.int .u16 ag]
 simp only[World.size_alloc] at k7 k8
 have hM:=h.below hb3
 have hLs:=h.ln.small
 obtain⟨ao,c,hlv,hnc,hcm⟩:=h.ln.shape
 have hxlt:=h.ln.blk.lt
 obtain⟨b6,hb6⟩:∃b6,b6=w.heap.size:=⟨_,rfl⟩
 obtain⟨b7,hb7⟩:∃b7,b7=w.heap.size+1:=⟨_,rfl⟩
 obtain⟨b8,hb8⟩:∃b8,b8=w.heap.size+1+1:=⟨_,rfl⟩
 obtain⟨n,hn⟩:∃n,n=L.length:=⟨_,rfl⟩
 rw[<- hn] at hM hf hi hm hLl hLs hlv hnc
 rw[<- hb6] at k6
 rw[<- hb7] at k7
 rw[<- hb8] at k8
 replace hn:=J0 hn
 replace he:=J0 he
 replace hend:=J0 hend
 replace hfl:=J0 hfl
 replace hLl:=J0 hLl
 replace hfa:=J0 hfa
 replace hid:=J0 hid
 clear h hb1 hb2
 go_enter Tryz.func76,Tryz.ntmps76
 go_wp2
 generalize ((w.alloc (.cells #[.int .i64 f,.int .i64 k] 171)).alloc (.cells #[.int .i64 i,.int .i64 m] 171)).alloc (.cells #[.int .u32 af,.int .u32 ab,.int .u16 ag] 51)=w0 at k6 k7 k8 hb3 hM |-
 rw[<- hb8,<- hb7,<- hb6]
 replace hb6:=J0 hb6
 replace hb7:=J0 hb7
 replace hb8:=J0 hb8
 have hbox:∀w',Fr B PT w0 w'->Block w' b6 171 #[.int .i64 f,.int .i64 k]/\Block w' b7 171 #[.int .i64 i,.int .i64 m]/\Block w' b8 51 #[.int .u32 af,.int .u32 ab,.int .u16 ag]  :=fun _ hf=>⟨Block.fr k6 hf (.inl (by decide)),Block.fr k7 hf (.inl (by decide)),Block.fr k8 hf (.inl (by decide))⟩
 have hd0:Below w0.heap.size w0 w0.drew:=Aa4 (Below.refl _ _) 1
 have hS:=fun w' (hb:Below w0.heap.size w0 w')=>And.intro (hM.below hb).ln.cells.2.2.2.1 (And.intro ((hbox _ (Fr.of_below hb)).1.cell 0 rfl) ((hbox _ (Fr.of_below hb)).1.cell 1 rfl))
 have c0:=hS w0 (Below.refl _ _)
 have c1:=hS _ hd0
 rw[hlv] at c0 c1 hS
 obtain⟨a0,a1,a2⟩:=c0
 have heo:=he.out
 have hfe:f<=e:=by omega
 have hen:e<=n:=by omega
 have hec:e<=c:=by omega
 have hfI:(f:Int)<=(e:Int):=by omega
 have heI:(e:Int)<=(c:Int):=by omega
 have hek:e - f=k:=by omega
 obtain⟨ad,had⟩:∃ad,(if c=f then ao else Option.map (fun x=>x.add (f*2)) ao)=ad:=⟨_,rfl⟩
 have hd1:Hid (∀g,ao=some ⟨g,0,none⟩->0<k->ad=some ⟨g,f*2,none⟩):=J0 fun g hg h0=>by
  rw[<- had,if_neg (by omega),hg]
  simp[Addr.add_lit]
 replace hbox:=J0 hbox
 replace hS:=J0 hS
 replace hM:=J0 hM
 replace hlv:=J0 hlv
 clear k6 k7 k8 heo
 go_region_held3 (fun w'=>w'.cell? ⟨x,3,none⟩=some (.slice ao n c)/\w'.cell? ⟨b6,0,none⟩=some (.int .i64 f)/\w'.cell? ⟨b6,1,none⟩=some (.int .i64 k))
  (first|exact⟨a0,a1,a2⟩|exact c1|exact hS.out _ hb2.out)
  (first
   |(go_at_call 102;(with_reducible refine(hend.out _).mono ?_);rintro r w2 ⟨rfl,hb2'⟩;have hb2:=J0 (Aa0 hd0 hb2')))
 have hM2:=hM.out.below hb2.out
 have hf2:Fr B PT w0 w2:=Fr.of_below hb2.out
 replace hM2:=J0 hM2
 replace hf2:=J0 hf2
 clear c1 a0 a1 a2 hS hend hfI heI hd0 had hec
 go_wp2
 go_loopw [23] (fun iv wr=>∃j:Nat,j<=k/\iv=.int .i64 j/\Hid (∃sv' R',MidX B wr x s nx most kp cols sv' lv top bot n (fl Ac3 L) L R'/\vw R'=(if p then Ax6 most (vw R) (((vw L).drop f).take j) else vw R)/\Fr B PT w0 wr)) (fun iv _=>k - (intOf iv).toNat)
 case atStart=>exact⟨0,Nat.zero_le _,rfl,J0 ⟨sv,R,hM2.out,by cases p<;>simp[Ax6],hf2.out⟩⟩
 case round =>
  obtain⟨j,hj,rfl,hR⟩:=hrel
  obtain⟨sv',R',hMr,hvR,hfr⟩:=hR.out
  by_cases hlt:j<k
  ·have hjI:(j:Int)<(k:Int):=by omega
   have hfj:f+j<L.length:=by have:=hn.out;omega
   obtain⟨g,c',e1,q0,q1,hrow⟩:=hMr.elem hn.out hfj
   rw[hlv.out] at e1
   simp only[Value.slice.injEq] at e1
   obtain⟨rfl,_,rfl⟩:=e1
   obtain rfl:=hd1.out g rfl (by omega)
   rw[Nat.add_mul] at q0 q1
   have hid0:=fun hp=>hid.out hp _ (List.getElem_mem hfj)
   have hstep:((vw L).drop f).take (j+1)=((vw L).drop f).take j++[((L[f+j]).id,(L[f+j]).l)]:=by
    rw[List.take_add_one,List.getElem?_drop]
    congr 1
    simp[vw,hfj]
   generalize L[f+j]=e0 at q0 q1 hrow hstep hid0
   have hbw:Below wr.heap.size wr (wr.alloc (.cells #[.int .i64 e0.id,.pointer (some ⟨e0.d,0,none⟩)] 188)):=Aa1 wr _
   have hke:=fate_any hor (hMr.below hbw) e0 (hrow.below hbw) hid0
   replace hke:=J0 hke
   replace hvR:=J0 hvR
   have hfr':=J0 hfr
   replace hstep:=J0 hstep
   replace hbw:=J0 hbw
   clear hMr hfr hrow hR
   have hnx2:=J0 (fun w3 sv3 R3 (hM3:MidX B w3 x s nx most kp cols sv3 lv top bot n (fl Ac3 L) L R3) (hv3:vw R3=(if p then Ai5 most (vw R') (e0.id,e0.l) else vw R')) (hf3:Fr B PT (wr.alloc (.cells #[.int .i64 e0.id,.pointer (some ⟨e0.d,0,none⟩)] 188)) w3)=>(⟨sv3,R3,hM3,by
    rw[hv3,hvR.out,hstep.out]
    cases p
    ·rfl
    ·exact(pushes_snoc _ _ _ _).symm,hfr'.out.trans ((Fr.of_below hbw.out).trans hf3)⟩:∃sv' R',MidX B w3 x s nx most kp cols sv' lv top bot n (fl Ac3 L) L R'/\vw R'=(if p then Ax6 most (vw R) (((vw L).drop f).take (j+1)) else vw R)/\Fr B PT w0 w3))
   rcases hor with ⟨rfl,rfl⟩|⟨rfl,rfl⟩
   all_goals
    go_wp2_with (first
     |(go_at_call 77;(with_reducible refine hke.out.mono ?_);rintro r w3 ⟨⟨v3,rfl⟩,sv3,R3,hM3,hv3,hf3⟩)
     |(go_at_call 283;(with_reducible refine hke.out.mono ?_);rintro r w3 ⟨⟨v3,rfl⟩,sv3,R3,hM3,hv3,hf3⟩))
    have hres:=J0 (hnx2.out _ _ _ hM3 hv3 hf3)
    clear hM3 hv3 hf3
    go_roundw
    case rel=>exact⟨j+1,by omega,by go_num,hres⟩
    case measure=>simp[intOf];omega
  ·obtain rfl:j=k:=by omega
   obtain⟨q6,q7,q8⟩:=hbox.out _ hfr
   have s0:=q6.cell 0 rfl
   have s1:=q6.cell 1 rfl
   have hcu:=closeUp_any hMr.ln (Cu3 L) f j (by omega)
   have hx0:=fl_outA L (f:=f) (k:=j) (by have:=hn.out;omega)
   rw[hx0] at hcu
   have hAl:(outA L f j).length=n - j:=by rw[Bp1 _ (by have:=hn.out;omega),hn.out]
   have hMs:=hMr.sub (outA_sub L f j)
   have hvA:vw (outA L f j)=outA (vw L) f j:=outA_map _ _ _ _
   generalize outA L f j=A at hcu hAl hMs hvA
   obtain⟨n1,hn1⟩:∃n1,n1=n - j:=⟨_,rfl⟩
   rw[<- hn1] at hcu hAl hm hi
   replace hcu:=J0 hcu
   replace hMs:=J0 hMs
   replace hfr:=J0 hfr
   replace hn1:=J0 hn1
   clear hMr hR q6 q7 q8 hM2 hf2
   go_wp2_with (first
    |(go_at_call 103;(with_reducible refine hcu.out.mono ?_);rintro r w4 ⟨⟨v4,rfl⟩,lv4,xs4,hL4,rfl,hO4⟩;have hM4:=hMs.out.ln' hL4 hO4;have hf4:=hfr.out.trans (hMs.out.ln.frame hO4);have t0:=(hbox.out _ hf4).2.1.cell 0 rfl;have t1:=(hbox.out _ hf4).2.1.cell 1 rfl;have hmr:=makeRoom_any hL4 (Cu3 A) i m hi hm)
    |(go_at_call 104;(with_reducible refine hmr.mono ?_);rintro r w5 ⟨⟨v5,rfl⟩,lv5,xs5,hL5,hx5,hO5⟩;have hM5:=hM4.ln' hL5 hO5;have hf5:=hf4.trans (hM4.ln.frame hO5);have u1:=(hbox.out _ hf5).2.1.cell 1 rfl))
   obtain⟨J,hJl,hJ1,rfl⟩:=hx5
   rw[fl_insA A (by omega)] at hM5
   obtain⟨N,hN⟩:∃N,N=n1+m:=⟨_,rfl⟩
   rw[<- hN] at hM5
   obtain⟨ao5,c5,hlv5,hnc5,_⟩:=hM5.ln.shape
   have hAp:List.Perm A (A.take i++A.drop i):=by rw[List.take_append_drop]
   have hTl:(A.take i).length=i:=by rw[List.length_take];omega
   replace hM5:=J0 (hM5.sub (L':=A.take i++A.drop i) (by rw[List.take_append_drop];exact List.Sublist.refl _))
   replace hf5:=J0 hf5
   replace hlv5:=J0 hlv5
   replace hAl:=J0 hAl
   replace hTl:=J0 hTl
   have hNx:=J0 hN
   clear hN
   clear hL4 hO4 hM4 hf4 t0 t1 hmr hL5 hO5 hcu hMs s0 s1 u1 hAp hlt
   have u1:=(hbox.out _ hf5.out).2.1.cell 1 rfl
   go_loopw [39] (fun iv wr=>∃jj:Nat,jj<=m/\iv=.int .i64 jj/\Hid (∃F J',F.length=jj/\J'.length=(m - jj)*2/\MidX B wr x s (nx+jj) most kp cols sv' lv5 top bot N (fl Ac3 (A.take i++F)++(J'++fl Ac3 (A.drop i))) (A.take i++(F++A.drop i)) R'/\vw F=Ae9 nx cols jj ⟨af,ab,ag⟩/\Fr B PT w0 wr)) (fun iv _=>m - (intOf iv).toNat)
   case atStart=>exact⟨0,Nat.zero_le _,rfl,J0 ⟨[],J,rfl,hJl,by simpa using hM5.out,rfl,hf5.out⟩⟩
   case round =>
    obtain⟨jj,hjj,rfl,hR2⟩:=hrel
    obtain⟨F,J',hFl,hJ',hMr,hvF,hfr2⟩:=hR2.out
    by_cases hlt:jj<m
    ·have hjI:(jj:Int)<(m:Int):=by omega
     have hNo:=hNx.out
     obtain⟨q6,q7,q8⟩:=hbox.out _ hfr2
     obtain⟨g,c',tail,e1,hgB,hbg,_,_⟩:=Ah6 hMr.ln.own (by omega)
     rw[hlv5.out] at e1
     simp only[Value.slice.injEq] at e1
     obtain⟨rfl,_,rfl⟩:=e1
     obtain⟨u,v,J2,rfl⟩:∃u v J2,J'=u::v::J2:=by
      match J',hJ' with
      |[],hJ'=>simp at hJ';omega
      |[_],hJ'=>simp at hJ';omega
      |u::v::J2,_=>exact⟨u,v,J2,rfl⟩
     have hJ2:J2.length=(m - (jj+1))*2:=by simp at hJ';omega
     have hAF:(A.take i++F).length=i+jj:=by rw[List.length_append,hTl.out,hFl]
     have hdr:Below wr.heap.size wr wr.drew:=Aa4 (Below.refl _ _) 1
     have hMd:=hMr.below hdr
     obtain⟨y,hy⟩:∃y,y=nx+jj:=⟨_,rfl⟩
     rw[<- hy] at hMd
     have hfrs1:=fresh_yes hMd.ln.st (by omega) cols hc1 hc5 ⟨af,ab,ag⟩
     simp only at hfrs1
     have hwr1:IntKind.i64.wrap ((i:Int)+(jj:Int))=(i:Int)+(jj:Int):=IntWalk.i64_in _ (by omega)
     have hw0:(0:Int)<=(i:Int)+(jj:Int):=by omega
     have hw1:(i:Int)+(jj:Int)<(N:Int):=by omega
     have hw2:((i:Int)+(jj:Int)).toNat=i+jj:=by omega
     have hNI:i+jj<N:=by omega
     have hS2:∀w' nx' sv'' xs'' R'',LnX B w' x s nx' most kp cols sv'' (.slice (some ⟨g,0,none⟩) N c5) top bot N xs'' R''->Fr B PT w0 w'->w'.cell? ⟨x,0,none⟩=some (.pointer (some ⟨s,0,none⟩))/\w'.cell? ⟨x,2,none⟩=some (.int .i64 cols)/\w'.cell? ⟨x,3,none⟩=some (.slice (some ⟨g,0,none⟩) N c5)/\w'.cell? ⟨b7,0,none⟩=some (.int .i64 i)/\w'.cell? ⟨b8,0,none⟩=some (.int .u32 af)/\w'.cell? ⟨b8,1,none⟩=some (.int .u32 ab)/\w'.cell? ⟨b8,2,none⟩=some (.int .u16 ag) :=
      fun w' nx' sv'' xs'' R'' hm' hf'=>⟨hm'.cells.1,hm'.cells.2.2.1,hm'.cells.2.2.2.1,(hbox.out _ hf').2.1.cell 0 rfl,(hbox.out _ hf').2.2.cell 0 rfl,(hbox.out _ hf').2.2.cell 1 rfl,(hbox.out _ hf').2.2.cell 2 rfl⟩
     rw[hlv5.out] at hMr hMd
     obtain⟨a0,a1,a2,a3,a4,a5,a6⟩:=hS2 _ _ _ _ _ hMr.ln hfr2
     have c1:=hS2 _ _ _ _ _ hMd.ln (hfr2.trans (Fr.of_below hdr))
     have hafter:=fun w6 d g6 (h1:SX 0 w6 s (y+1) most sv' R') (hrow6:RowG wr.drew.heap.size w6 (En.mk y d g6 0 (Aj6 cols ⟨af,ab,ag⟩))) (ho6:Only [s] wr.drew w6)=>(by
      have hpm:List.Perm (A.take i++((F++[En.mk y d g6 0 (Aj6 cols ⟨af,ab,ag⟩)])++A.drop i)) (En.mk y d g6 0 (Aj6 cols ⟨af,ab,ag⟩)::(A.take i++(F++A.drop i))):=by
       rw[List.append_assoc F,List.singleton_append,<- List.append_assoc (A.take i),<- List.append_assoc (A.take i)]
       exact List.perm_middle
      obtain⟨hM6,hf6⟩:=hMd.fresh h1 hrow6 ho6 hpm
      obtain⟨hM7,hO7⟩:=hM6.place hAF (En.mk y d g6 0 (Aj6 cols ⟨af,ab,ag⟩))
      have hfa:=(hfr2.trans (Fr.of_below hdr)).trans hf6
      have hf7:=hfa.trans (hM6.ln.frame (hO7.mono (by simp[Value.ownBlock])))
      obtain⟨g',cap',tail',e1',_,hbg',_,_⟩:=Ah6 hM6.ln.own (by omega)
      simp only[Value.slice.injEq,Option.some.injEq,Addr.mk.injEq] at e1'
      obtain⟨⟨rfl,_⟩,_⟩:=e1'
      have hfl0:(fl Ac3 (A.take i++F)).length=(i+jj)*2:=by rw[Ab8 Ac0,hAF]
      refine⟨hS2 _ _ _ _ _ hM6.ln hfa,⟨hbg'.cell _ ?_,hbg'.cell _ ?_,World.ownsRow.frozenAt hM6.ln.own _,World.ownsRow.frozenAt hM6.ln.own _⟩,hS2 _ _ _ _ _ hM7.ln hf7,J0 ⟨F++[En.mk y d g6 0 (Aj6 cols ⟨af,ab,ag⟩)],J2,by simp[hFl],hJ2,?_,?_,hf7⟩⟩
      ·rw[List.getElem?_toArray,List.append_assoc,List.getElem?_append_right (by omega),hfl0,Nat.sub_self];rfl
      ·rw[List.getElem?_toArray,List.append_assoc,List.getElem?_append_right (by omega),hfl0,show (i+jj)*2+1 - (i+jj)*2=1 by omega];rfl
      ·rw[show nx+(jj+1)=y+1 by omega]
       rw[List.append_assoc (A.take i) F] at hM7
       exact hM7
      ·rw[show vw (F++[En.mk y d g6 0 (Aj6 cols ⟨af,ab,ag⟩)])=vw F++[((y:Int),Aj6 cols ⟨af,ab,ag⟩)] by simp[vw],hvF,hfl.out,hy,Int.natCast_add] :
      (w6.cell? ⟨x,0,none⟩=some (.pointer (some ⟨s,0,none⟩))/\w6.cell? ⟨x,2,none⟩=some (.int .i64 cols)/\w6.cell? ⟨x,3,none⟩=some (.slice (some ⟨g,0,none⟩) N c5)/\w6.cell? ⟨b7,0,none⟩=some (.int .i64 i)/\w6.cell? ⟨b8,0,none⟩=some (.int .u32 af)/\w6.cell? ⟨b8,1,none⟩=some (.int .u32 ab)/\w6.cell? ⟨b8,2,none⟩=some (.int .u16 ag)) /\
      (w6.cell? ⟨g,(i+jj)*2,none⟩=some u/\w6.cell? ⟨g,(i+jj)*2+1,none⟩=some v/\w6.frozen? ⟨g,(i+jj)*2,none⟩=false/\w6.frozen? ⟨g,(i+jj)*2+1,none⟩=false) /\
      (((w6.setCell ⟨g,(i+jj)*2,none⟩ (.int .i64 y)).setCell ⟨g,(i+jj)*2+1,none⟩ (.pointer (some ⟨d,0,none⟩))).cell? ⟨x,0,none⟩=some (.pointer (some ⟨s,0,none⟩))/\((w6.setCell ⟨g,(i+jj)*2,none⟩ (.int .i64 y)).setCell ⟨g,(i+jj)*2+1,none⟩ (.pointer (some ⟨d,0,none⟩))).cell? ⟨x,2,none⟩=some (.int .i64 cols)/\((w6.setCell ⟨g,(i+jj)*2,none⟩ (.int .i64 y)).setCell ⟨g,(i+jj)*2+1,none⟩ (.pointer (some ⟨d,0,none⟩))).cell? ⟨x,3,none⟩=some (.slice (some ⟨g,0,none⟩) N c5)/\((w6.setCell ⟨g,(i+jj)*2,none⟩ (.int .i64 y)).setCell ⟨g,(i+jj)*2+1,none⟩ (.pointer (some ⟨d,0,none⟩))).cell? ⟨b7,0,none⟩=some (.int .i64 i)/\((w6.setCell ⟨g,(i+jj)*2,none⟩ (.int .i64 y)).setCell ⟨g,(i+jj)*2+1,none⟩ (.pointer (some ⟨d,0,none⟩))).cell? ⟨b8,0,none⟩=some (.int .u32 af)/\((w6.setCell ⟨g,(i+jj)*2,none⟩ (.int .i64 y)).setCell ⟨g,(i+jj)*2+1,none⟩ (.pointer (some ⟨d,0,none⟩))).cell? ⟨b8,1,none⟩=some (.int .u32 ab)/\((w6.setCell ⟨g,(i+jj)*2,none⟩ (.int .i64 y)).setCell ⟨g,(i+jj)*2+1,none⟩ (.pointer (some ⟨d,0,none⟩))).cell? ⟨b8,2,none⟩=some (.int .u16 ag)) /\
      Hid (∃F J',F.length=jj+1/\J'.length=(m - (jj+1))*2/\MidX B ((w6.setCell ⟨g,(i+jj)*2,none⟩ (.int .i64 y)).setCell ⟨g,(i+jj)*2+1,none⟩ (.pointer (some ⟨d,0,none⟩))) x s (nx+(jj+1)) most kp cols sv' (.slice (some ⟨g,0,none⟩) N c5) top bot N (fl Ac3 (A.take i++F)++(J'++fl Ac3 (A.drop i))) (A.take i++(F++A.drop i)) R'/\vw F=Ae9 nx cols (jj+1) ⟨af,ab,ag⟩/\Fr B PT w0 ((w6.setCell ⟨g,(i+jj)*2,none⟩ (.int .i64 y)).setCell ⟨g,(i+jj)*2+1,none⟩ (.pointer (some ⟨d,0,none⟩)))))
     have hu1:=(hbox.out _ hfr2).2.1.cell 0 rfl
     replace hafter:=J0 hafter
     replace hfrs1:=J0 hfrs1
     replace hy:=J0 hy
     clear hNo hMr hMd hbg hS2 hR2 hvF hFl hAF hJ2 hJ' hu1 hfr2 u1 hdr
     go_wp2
     go_region_held3 (fun w'=>w'.cell? ⟨x,0,none⟩=some (.pointer (some ⟨s,0,none⟩))/\w'.cell? ⟨x,2,none⟩=some (.int .i64 cols)/\w'.cell? ⟨x,3,none⟩=some (.slice (some ⟨g,0,none⟩) N c5)/\w'.cell? ⟨b7,0,none⟩=some (.int .i64 i)/\w'.cell? ⟨b8,0,none⟩=some (.int .u32 af)/\w'.cell? ⟨b8,1,none⟩=some (.int .u32 ab)/\w'.cell? ⟨b8,2,none⟩=some (.int .u16 ag))
      (first|exact⟨a0,a1,a2,a3,a4,a5,a6⟩|exact c1|exact hz|exact hzz)
      (first
       |(go_at_call 105;(with_reducible refine hfrs1.out.mono ?_);rintro r w6 ⟨d,g6,rfl,h16,hr6,ho6⟩;obtain⟨hz,⟨p0,p1,f0,f1⟩,hzz,hres⟩:=hafter.out w6 d g6 h16 hr6 ho6))
     clear h16 hr6 ho6 p0 p1 f0 f1 hz hzz c1 hafter hfrs1 a0 a1 a2 a3 a4 a5 a6 hwr1 hw0 hw1 hw2 hNI
     go_wp2
     go_roundw
     case rel=>exact⟨jj+1,by omega,by go_num,by rw[hlv5.out];exact hres⟩
     case measure=>simp[intOf];omega
    ·obtain rfl:jj=m:=by omega
     have hNo:=hNx.out
     have hJ0:J'=[]:=List.eq_nil_of_length_eq_zero (by omega)
     subst hJ0
     have hvI:vw (A.take i++(F++A.drop i))=insA (outA (vw L) f j) i (Ae9 nx cols jj ⟨af,ab,ag⟩):=by
      rw[<- hvA,<- hvF]
      simp[vw,insA,List.map_take,List.map_drop]
     have hlen:(A.take i++(F++A.drop i)).length=N:=by
      rw[List.length_append,List.length_append,hTl.out,hFl,List.length_drop,hAl.out];omega
     rw[List.nil_append,<- fl_app,List.append_assoc,<- hlen] at hMr
     have hres:=J0 (⟨sv',lv5,_,R',hMr,hvI,hvR,(Fr.of_below hb3).trans hfr2⟩:∃sv' lv' L' R'',MidX B wr x s (nx+jj) most kp cols sv' lv' top bot L'.length (fl Ac3 L') L' R''/\vw L'=insA (outA (vw L) f j) i (Ae9 nx cols jj ⟨af,ab,ag⟩)/\vw R''=(if p then Ax6 most (vw R) (((vw L).drop f).take j) else vw R)/\Fr B PT w wr)
     clear hNo hMr hvF hvI hfr2 hR2
     go_wp2
     go_end0
     exact⟨⟨_,rfl⟩,hres.out⟩
end
