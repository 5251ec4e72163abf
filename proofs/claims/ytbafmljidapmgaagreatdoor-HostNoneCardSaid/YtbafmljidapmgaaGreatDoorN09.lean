/- Part 9 of the proof that the card of HostNone holds. -/
import Derived.Test.YtbafmljidapmgaaGreatDoorN08
set_option maxHeartbeats 16000000
set_option maxRecDepth 100000
namespace Go.Proofs.YtbafmljidapmgaaGreatDoor.Scn
open Go RowKit Com Rw Lns
structure MidX (B:Zn) (w:World) (x s nx most:Nat) (kp:Bool) (cols:Nat) (sv lv:Value) (top bot n:Nat) (xs:List Value) (L R:List En):Prop where
 ln:LnX B w x s nx most kp cols sv lv top bot n xs R
 rows:∀ e∈L,RowG 0 w e
 zr:∀ e∈L,B e.d/\B e.g
 dd:((L++R).map En.d).Nodup
 gg:((L++R).map En.g).Nodup
theorem Aj8 {w:World} {e:En} (h:RowG 0 w e):e.d<w.heap.size/\e.g<w.heap.size:=by
 obtain ⟨_,_,_,n,cap,tail,hx⟩:=h
 exact ⟨hx.ptr.lt,hx.row.lt⟩
theorem Aw3 {α:Type} (f:α->Nat) {l m:List α} {N:Nat} (h:(l.map f).Nodup) (hl:∀ e∈l,f e<N) {x:α} (hx:N<=f x) (hp:List.Perm m (x::l)):(m.map f).Nodup:=by
 rw [(hp.map f).nodup_iff,List.map_cons,List.nodup_cons]
 refine ⟨fun hm=>?_,h⟩
 obtain ⟨e,he,e1⟩:=List.mem_map.1 hm
 have:=hl e he
 omega
section
variable {B:Zn} {w w':World} {x s nx most cols top bot n:Nat} {kp:Bool} {sv lv:Value} {xs:List Value} {L R:List En}
theorem MidX.below (h:MidX B w x s nx most kp cols sv lv top bot n xs L R) (hb:Below w.heap.size w w'):MidX B w' x s nx most kp cols sv lv top bot n xs L R :=
 ⟨h.ln.below hb,fun e he=>(h.rows e he).below hb,h.zr,h.dd,h.gg⟩
theorem MidX.fr {B':Zn} {ts:List TypeId} (h:MidX B w x s nx most kp cols sv lv top bot n xs L R) (hf:Fr B' ts w w') (hn:NoPT ts):MidX B w' x s nx most kp cols sv lv top bot n xs L R :=
 ⟨h.ln.fr hf hn,fun e he=>Cj4 (h.rows e he) hf hn,h.zr,h.dd,h.gg⟩
theorem MidX.sub (h:MidX B w x s nx most kp cols sv lv top bot n xs L R) {L':List En} (hs:L'.Sublist L):MidX B w x s nx most kp cols sv lv top bot n xs L' R :=
 ⟨h.ln,fun e he=>h.rows e (hs.subset he),fun e he=>h.zr e (hs.subset he),h.dd.sublist ((List.Sublist.append hs (List.Sublist.refl R)).map _),h.gg.sublist ((List.Sublist.append hs (List.Sublist.refl R)).map _)⟩
theorem MidX.keepRows (h:MidX B w x s nx most kp cols sv lv top bot n xs L R) (ho:Only (x::lv.ownBlock.toList) w w'):∀ e∈L,RowG 0 w' e:=by
 have hno:∀ {k:Nat} {t:TypeId},Typ w k t->259≠t->298≠t->k∉x::lv.ownBlock.toList:=fun {k t} ht n1 n2 hm=>by
  rcases List.mem_cons.1 hm with rfl|hm
  ·exact n1 (Typ.inj h.ln.typ ht)
  ·exact n2 (Typ.inj (h.ln.ltyp k (by simpa using hm)).2.2 ht)
 exact fun e he=>(h.rows e he).only ho (hno (h.rows e he).typ.1 (by decide) (by decide)) (hno (h.rows e he).typ.2 (by decide) (by decide))
theorem MidX.ln' (h:MidX B w x s nx most kp cols sv lv top bot n xs L R) {lv':Value} {n':Nat} {xs':List Value} {top' bot' cols':Nat} (h1:LnX B w' x s nx most kp cols' sv lv' top' bot' n' xs' R) (ho:Only (x::lv.ownBlock.toList) w w'):MidX B w' x s nx most kp cols' sv lv' top' bot' n' xs' L R :=
 ⟨h1,h.keepRows ho,h.zr,h.dd,h.gg⟩
theorem MidX.lts (h:MidX B w x s nx most kp cols sv lv top bot n xs L R):∀ e∈L++R,e.d<w.heap.size/\e.g<w.heap.size:=fun e he=>by
 rcases List.mem_append.1 he with he|he
 ·exact Aj8 (h.rows e he)
 ·exact Aj8 (h.ln.st.2 e he)
theorem LnX.stored (h:LnX B w x s nx most kp cols sv lv top bot n xs R) {nx':Nat} {sv':Value} {R':List En} {K:List Nat} (ho:Only K w w') (hx:x∉K) (hl:∀ g,lv.ownBlock=some g->g∉K) (h1:SX 0 w' s nx' most sv' R') (ha:sv'.ownBlock=sv.ownBlock\/∃ g,sv'.ownBlock=some g/\w.heap.size<=g) (hr:∀ e∈R',B e.d/\B e.g):LnX B w' x s nx' most kp cols sv' lv top bot n xs R':=by
 refine ⟨h.blk.only ho hx,Ag5 h.own ho hl,h1,fun g hg hs=>?_,h.lo.store ho.size ha hr,h.small⟩
 rcases ha with ha|⟨g',ha,hge⟩
 ·exact h.apart g hg (ha▸hs)
 ·have:=(h.ltyp g hg).2.1
  rw [ha] at hs
  cases hs
  omega
theorem MidX.push (h:MidX B w x s nx most kp cols sv lv top bot n xs L R) {id:Int} {dr:Nat} {l:List Cel} {e:Ending} (hp:Bk3 0 w s nx most sv R id dr l e w') :
  ∃ sv' R',MidX B w' x s nx most kp cols sv' lv top bot n xs L R'/\vw R'=Aj7 most (vw R) (id,l)/\Fr B PT w w':=by
 obtain ⟨sv',d,g,_,h1,hd,hg,ho,ha⟩:=hp
 have hno:∀ {k:Nat} {t:TypeId},Typ w k t->203≠t->298≠t->k∉s::sv.ownBlock.toList:=fun {k t} ht n1 n2 hm=>by
  rcases List.mem_cons.1 hm with rfl|hm
  ·exact n1 (Typ.inj h.ln.st.typ ht)
  ·exact n2 (Typ.inj (h.ln.st.ptyp k (by simpa using hm)).2.2 ht)
 have hl:∀ g,lv.ownBlock=some g->g∉s::sv.ownBlock.toList:=fun g hg hm=>by
  rcases List.mem_cons.1 hm with rfl|hm
  ·exact absurd (Typ.inj h.ln.st.typ (h.ln.ltyp g hg).2.2) (by decide)
  ·exact h.ln.apart g hg (by simpa using hm)
 have hsub:∀ (f:En->Nat),((L++R).map f).Nodup->w.heap.size<=f (En.mk id d g dr l)->(∀ e∈L++R,f e<w.heap.size)->((L++Aj7 most R (En.mk id d g dr l)).map f).Nodup:=fun f hn hf hlt=>by
  have h2:((L++(R++[(En.mk id d g dr l)])).map f).Nodup:=Aw3 f hn hlt hf (by rw [<- List.append_assoc];exact List.perm_append_singleton _ _)
  refine h2.sublist ((List.Sublist.append (List.Sublist.refl L) ?_).map f)
  unfold Aj7
  split
  ·exact List.drop_sublist _ _
  ·exact List.Sublist.refl _
 refine ⟨sv',Aj7 most R (En.mk id d g dr l),⟨h.ln.stored ho (hno h.ln.typ (by decide) (by decide)) hl h1 ha (fun e he=>(Bs0 he).elim (fun he=>h.ln.lo.r e he) (fun he=>by subst he;exact ⟨h.ln.lo.up _ hd,h.ln.lo.up _ hg⟩)),fun e he=>(h.rows e he).only ho (hno (h.rows e he).typ.1 (by decide) (by decide)) (hno (h.rows e he).typ.2 (by decide) (by decide)),h.zr,hsub En.d h.dd hd (fun e he=>(h.lts e he).1),hsub En.g h.gg hg (fun e he=>(h.lts e he).2)⟩,?_,?_⟩
 ·unfold vw;exact pushL_map _ _ _ _
 ·refine Fr.of_only ho fun k hk _=>?_
  rcases List.mem_cons.1 hk with rfl|hm
  ·exact ⟨h.ln.lo.s,_,by simp [PT],h.ln.st.typ⟩
  ·have:=h.ln.st.ptyp k (by simpa using hm)
   exact ⟨h.ln.lo.p k (by simpa using hm),_,by simp [PT],this.2.2⟩
theorem MidX.fresh (h:MidX B w x s nx most kp cols sv lv top bot n xs L R) {d g:Nat} {l:List Cel} (h1:SX 0 w' s (nx+1) most sv R) (hr:RowG w.heap.size w' ⟨nx,d,g,0,l⟩) (ho:Only [s] w w') {L':List En} (hp:List.Perm L' (⟨nx,d,g,0,l⟩::L)) :
  MidX B w' x s (nx+1) most kp cols sv lv top bot n xs L' R/\Fr B PT w w':=by
 have hno:∀ {k:Nat} {t:TypeId},Typ w k t->203≠t->k∉[s]:=fun {k t} ht n1 hm=>by
  obtain rfl:k=s:=by simpa using hm
  exact n1 (Typ.inj h.ln.st.typ ht)
 obtain ⟨g1,g2,g3,g4⟩:=hr
 have hpp:List.Perm (L'++R) (⟨nx,d,g,0,l⟩::(L++R)):=hp.append_right R
 refine ⟨⟨h.ln.stored ho (hno h.ln.typ (by decide)) (fun g hg=>hno (h.ln.ltyp g hg).2.2 (by decide)) h1 (.inl rfl) h.ln.lo.r,fun e he=>?_,fun e he=>?_,Aw3 En.d h.dd (fun e he=>(h.lts e he).1) g2 hpp,Aw3 En.g h.gg (fun e he=>(h.lts e he).2) g3 hpp⟩,?_⟩
 ·rcases List.mem_cons.1 (hp.subset he) with rfl|he
  ·exact ⟨g1,Nat.zero_le _,Nat.zero_le _,g4⟩
  ·exact (h.rows e he).only ho (hno (h.rows e he).typ.1 (by decide)) (hno (h.rows e he).typ.2 (by decide))
 ·rcases List.mem_cons.1 (hp.subset he) with rfl|he
  ·exact ⟨h.ln.lo.up _ g2,h.ln.lo.up _ g3⟩
  ·exact h.zr e he
 ·refine Fr.of_only ho fun k hk _=>?_
  obtain rfl:k=s:=by simpa using hk
  exact ⟨h.ln.lo.s,_,by simp [PT],h.ln.st.typ⟩
theorem fl_pair (A C:List En) (J:List Value) (e:En) (u v:Value) {i:Nat} (hi:A.length=i):((fl Ab9 A++(u::v::J++fl Ab9 C)).set (i*2) (.int .i64 e.id)).set (i*2+1) (.pointer (some ⟨e.d,0,none⟩))=fl Ab9 (A++[e])++(J++fl Ab9 C):=by
 have hl:(fl Ab9 A).length=i*2:=by rw [Ab5 Ab8,hi]
 rw [List.set_append_right _ _ (by omega),hl,Nat.sub_self,List.cons_append,J2,List.set_append_right _ _ (by omega),hl,show i*2+1 - i*2=1 by omega,List.cons_append,J3,J2,fl_app,fl_one]
 simp [Ab9]
theorem MidX.place {g c:Nat} {A C:List En} {J:List Value} {u v:Value} {i:Nat} (h:MidX B w x s nx most kp cols sv (.slice (some ⟨g,0,none⟩) n c) top bot n (fl Ab9 A++(u::v::J++fl Ab9 C)) L R) (hi:A.length=i) (e:En) :
  MidX B ((w.setCell ⟨g,i*2,none⟩ (.int .i64 e.id)).setCell ⟨g,i*2+1,none⟩ (.pointer (some ⟨e.d,0,none⟩))) x s nx most kp cols sv (.slice (some ⟨g,0,none⟩) n c) top bot n (fl Ab9 (A++[e])++(J++fl Ab9 C)) L R /\
  Only [g] w ((w.setCell ⟨g,i*2,none⟩ (.int .i64 e.id)).setCell ⟨g,i*2+1,none⟩ (.pointer (some ⟨e.d,0,none⟩))):=by
 obtain ⟨o1,_⟩:=World.ownsRow.stored h.ln.own (i*2) (.int .i64 e.id)
 obtain ⟨o2,_⟩:=World.ownsRow.stored o1 (i*2+1) (.pointer (some ⟨e.d,0,none⟩))
 rw [fl_pair A C J e u v hi] at o2
 have ho:Only [g] w ((w.setCell ⟨g,i*2,none⟩ (.int .i64 e.id)).setCell ⟨g,i*2+1,none⟩ (.pointer (some ⟨e.d,0,none⟩))):=(Only.setCell w ⟨g,i*2,none⟩ _).trans (Only.setCell _ ⟨g,i*2+1,none⟩ _)
 have h1:=h.ln.turned o2 (by simpa [Value.ownBlock] using ho)
 exact ⟨h.ln' h1 (ho.mono (by simp [Value.ownBlock])),ho⟩
end
section
variable {B:Zn} {w w':World} {x s nx most cols top bot n:Nat} {kp:Bool} {sv lv:Value} {xs:List Value} {L R:List En}
theorem forget_any (v:Value) (id:Int) (d:Nat) (w:World):Calls Tryz.prog 188 #[v,.agg #[.int .i64 id,.pointer (some ⟨d,0,none⟩)]] w fun e w'=>(∃ v,e=.returned v)/\Below w.heap.size w w':=by
 have hb:=Aa1 w (.cells #[.int .i64 id,.pointer (some ⟨d,0,none⟩)] 298)
 go_enter Tryz.func188,Tryz.ntmps188
 go_wp2
 go_end0
 exact ⟨⟨_,rfl⟩,hb⟩
def KeepDone (B:Zn) (w:World) (x s nx most:Nat) (kp:Bool) (cols:Nat) (lv:Value) (top bot n:Nat) (xs:List Value) (L R:List En) (id:Int) (l:List Cel) (e:Ending) (w':World):Prop :=
 (∃ v,e=.returned v)/\∃ sv' R',MidX B w' x s nx most kp cols sv' lv top bot n xs L R'/\vw R'=Aj7 most (vw R) (id,l)/\Fr B PT w w'
theorem keep_any (h:MidX B w x s nx most kp cols sv lv top bot n xs L R) (e0:En) (he:RowG 0 w e0) (hid:1<=e0.id/\e0.id<nx):Calls Tryz.prog 286 #[.pointer (some ⟨x,0,none⟩),.agg #[.int .i64 e0.id,.pointer (some ⟨e0.d,0,none⟩)]] w (KeepDone B w x s nx most kp cols lv top bot n xs L R e0.id e0.l):=by
 have hbn:=Aa1 w (.cells #[.int .i64 e0.id,.pointer (some ⟨e0.d,0,none⟩)] 298)
 have hbx:=Block.made w 298 #[.int .i64 e0.id,.pointer (some ⟨e0.d,0,none⟩)]
 have hws:=fun w1 (hb:Below w.heap.size w w1)=>h.below hb
 have hwe:=fun w1 (hb:Below w.heap.size w w1)=>he.below hb
 have hxlt:=h.ln.blk.lt
 have hslt:=h.ln.st.lt
 have hplt:=fun g hg=>(h.ln.st.ptyp g hg).2.1
 obtain ⟨bx,hbxe⟩:∃ bx,bx=w.heap.size:=⟨_,rfl⟩
 obtain ⟨id,d,g0,dr,l⟩:=e0
 simp only at hid hbn hbx |-
 replace hws:=J0 hws
 replace hwe:=J0 hwe
 replace hid:=J0 hid
 clear h he
 go_enter Tryz.func286,Tryz.ntmps286
 go_wp2
 generalize w.alloc (.cells #[.int .i64 id,.pointer (some ⟨d,0,none⟩)] 298)=w0 at hbx hbn |-
 rw [<- hbxe] at hbx |-
 have hbxl:bx∉s::sv.ownBlock.toList:=fun hm=>by
  rcases List.mem_cons.1 hm with e|hm
  ·omega
  ·have:=hplt bx (by simpa using hm);omega
 replace hbxe:=J0 hbxe
 have hd0:Below w0.heap.size w0 w0.drew:=Aa5 (Below.refl _ _) 1
 have hS:=fun w' (hb:Below w0.heap.size w0 w')=>And.intro (hws.out _ (Aa0 hbn hb)).ln.cells.1 (And.intro ((hbx.only (Only.of_below hb []) (by simp)).cell 0 rfl) ((hbx.only (Only.of_below hb []) (by simp)).cell 1 rfl))
 obtain ⟨a0,a1,a2⟩:=hS w0 (Below.refl _ _)
 have c1:=hS _ hd0
 have hpu:Calls Tryz.prog 350 #[.pointer (some ⟨s,0,none⟩),.agg #[.int .i64 id,.pointer (some ⟨d,0,none⟩)]] w0.drew fun e w'=>(∃ v,e=.returned v)/\(w'.cell? ⟨x,0,none⟩=some (.pointer (some ⟨s,0,none⟩))/\w'.cell? ⟨bx,0,none⟩=some (.int .i64 id)/\w'.cell? ⟨bx,1,none⟩=some (.pointer (some ⟨d,0,none⟩)))/\∃ sv' R',MidX B w' x s nx most kp cols sv' lv top bot n xs L R'/\vw R'=Aj7 most (vw R) (id,l)/\Fr B PT w w':=by
  have hb1:=Aa0 hbn hd0
  have hm1:=hws.out _ hb1
  obtain ⟨q1,q2,q3,q4,q5,q6,q7⟩:=hwe.out _ hb1
  refine (push_yes hm1.ln.st id hid.out dr q7 q1).mono fun e w' hp=>?_
  have hO:=hp
  obtain ⟨_,_,_,he,_,_,_,hO,_⟩:=hO
  obtain ⟨sv',R',m1,m2,m3⟩:=hm1.push hp
  have hb2:=((hbx.only (Only.of_below hd0 []) (by simp)).only hO hbxl)
  exact ⟨⟨_,he⟩,⟨m1.ln.cells.1,hb2.cell 0 rfl,hb2.cell 1 rfl⟩,sv',R',m1,m2,(Fr.of_below hb1).trans m3⟩
 replace hpu:=J0 hpu
 replace hS:=J0 hS
 clear hbx hbn hbxl hplt
 go_region_held3 (fun w'=>w'.cell? ⟨x,0,none⟩=some (.pointer (some ⟨s,0,none⟩))/\w'.cell? ⟨bx,0,none⟩=some (.int .i64 id)/\w'.cell? ⟨bx,1,none⟩=some (.pointer (some ⟨d,0,none⟩)))
  (first|exact ⟨a0,a1,a2⟩|exact c1|exact hz)
  (first
   |(go_at_call 350;(with_reducible refine hpu.out.mono ?_);rintro e w2 ⟨⟨v2,rfl⟩,hz,hres⟩))
 replace hres:=J0 hres
 go_end0
 exact ⟨⟨_,rfl⟩,hres.out⟩
end
