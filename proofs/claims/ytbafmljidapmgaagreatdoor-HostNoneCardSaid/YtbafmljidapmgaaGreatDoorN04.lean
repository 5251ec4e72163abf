/- Part 4 of the proof that the card of HostNone holds. -/
import Derived.Test.YtbafmljidapmgaaGreatDoorN03
set_option maxHeartbeats 16000000
set_option maxRecDepth 100000
namespace Go.Proofs.YtbafmljidapmgaaGreatDoor.Rw
open Go RowKit Com
def Aj5 (c:Cel) (x:Int):Cel:=⟨c.r,c.m++[x],c.wide,c.a⟩
theorem pad4_add {m:List Int} (h:m.length<4) (x:Int):pad4 (m++[x])=(pad4 m).set m.length x:=by
 unfold pad4
 match m,h with
 |[],_=>rfl
 |[_],_=>rfl
 |[_,_],_=>rfl
 |[_,_,_],_=>rfl
theorem cellC_add {c:Cel} (h:c.m.length<4) (x:Int):cellC (Aj5 c x)=((cellC c).set (1+c.m.length) (.int .i32 x)).set 5 (.int .u8 ((c.m.length:Int)+1)):=by
 obtain ⟨r,m,wd,a⟩:=c
 simp only at h
 unfold cellC Aj5
 simp only [pad4_add h]
 match m,h with
 |[],_=>rfl
 |[_],_=>rfl
 |[_,_],_=>rfl
 |[_,_,_],_=>rfl
theorem Bj2 {α:Type} (cur vs:List α) (off i:Nat) (v:α) (h:off+vs.length<=cur.length) (hi:i<vs.length):splice cur off (vs.set i v)=(splice cur off vs).set (off+i) v:=by
 unfold splice
 rw [List.set_append_right _ _ (by simp;omega),List.length_take,Nat.min_eq_left (by omega),Nat.add_sub_cancel_left,List.set_append_left _ _ hi,List.length_set]
theorem RowX.marked {w:World} {d g n cap:Nat} {tail:List Value} {l:List Cel} (h:RowX w d g n cap tail l) {i:Nat} (hi:i<l.length) (hm:l[i].m.length<4) (x:Int) :
  fl cellC (l.set i (Aj5 l[i] x))++tail=((Rw.fl cellC l++tail).set (i*10+(1+l[i].m.length)) (.int .i32 x)).set (i*10+5) (.int .u8 ((l[i].m.length:Int)+1)):=by
 have hfit:=h.fits (i:=i) (by rw [<- h.len];exact hi) l[i]
 have e1:=Aj1 cellC_length l [Aj5 l[i] x] tail i (by simp;omega)
 have e0:=Aj1 cellC_length l [l[i]] tail i (by simp;omega)
 rw [fl_one,An2 _ _ _ hi] at e1 e0
 rw [List.set_getElem_self] at e0
 rw [<- e1,cellC_add hm,Bj2 _ _ _ _ _ (by simpa using hfit) (by simp [cellC_length]),Bj2 _ _ _ _ _ hfit (by rw [cellC_length];omega),e0]
theorem cellC_mark (c:Cel) {k:Nat} (hk:k<4):∃ v,(cellC c)[1+k]?=some (.int .i32 v):=by
 unfold cellC
 rw [show 1+k=k+1 by omega,List.getElem?_cons_succ,List.getElem?_append_left (by simp [pad4_length];omega),List.getElem?_map,List.getElem?_eq_getElem (by rw [pad4_length];exact hk)]
 exact ⟨_,rfl⟩
section
variable {w:World} {d g n cap:Nat} {tail:List Value} {l:List Cel}
theorem cjoin_full (h:RowX w d g n cap tail l) {i:Nat} (hi:i<l.length) (hm:l[i].m.length=4) (x:Int) :
  Calls Tryz.prog 364 #[.pointer (some ⟨g,i*10,none⟩),.int .i32 x] w fun e w'=>e=.returned (.int .i64 8)/\w=w':=by
 have hc:=h.count hi
 rw [hm] at hc
 clear h
 go_enter Tryz.func364,Tryz.ntmps364
 go_wp2
 go_ret
 exact ⟨rfl,rfl⟩
theorem cjoin_add (h:RowX w d g n cap tail l) {i:Nat} (hi:i<l.length) (hm:l[i].m.length<4) (x:Int) :
  Calls Tryz.prog 364 #[.pointer (some ⟨g,i*10,none⟩),.int .i32 x] w (Au4 w d g n cap tail (l.set i (Aj5 l[i] x)) (.int .i64 0)):=by
 have hc:=h.count hi
 have hmk:=h.marked hi hm x
 have hR:=h.row
 obtain ⟨v0,hv0⟩:=cellC_mark l[i] hm
 have hcell:=h.at' hi (by omega) hv0
 have hfr:=fun j=>h.row.free j
 have hb1:=(h.row.set (i*10+(1+l[i].m.length)) (.int .i32 x)).set (i*10+5) (.int .u8 ((l[i].m.length:Int)+1))
 rw [J1,J1,<- hmk] at hb1
 have ho:Only [g] w ((w.setCell ⟨g,i*10+(1+l[i].m.length),none⟩ (.int .i32 x)).setCell ⟨g,i*10+5,none⟩ (.int .u8 ((l[i].m.length:Int)+1))):=by
  have o1:Only [g] w (w.setCell ⟨g,i*10+(1+l[i].m.length),none⟩ (.int .i32 x)):=Only.setCell w ⟨g,i*10+(1+l[i].m.length),none⟩ _
  exact o1.trans (Only.setCell _ ⟨g,i*10+5,none⟩ _)
 have hres:=h.turned ho hb1 (by simp)
 replace hres:=J0 (And.intro hres ho)
 clear hmk hR hb1 ho hv0
 generalize l.set i (Aj5 l[i] x)=l2 at hres |-
 generalize l[i].m.length=k at hc hm hcell hres
 have hk4:((k:Int) == 4)=false:=beq_eq_false_iff_ne.2 (by omega)
 have hfr1:=hfr (i*10+1+k)
 rw [<- Nat.add_assoc] at hcell
 have hk3:(k:Int)<4:=by omega
 have hne:i*10+5≠i*10+1+k:=by omega
 rw [show i*10+(1+k)=i*10+1+k by omega] at hres
 have hfr2:=hfr (i*10+5)
 clear h hfr
 go_enter Tryz.func364,Tryz.ntmps364
 go_wp2
 go_region
 go_wp2
 go_ret
 exact ⟨rfl,hres.out.1.drawn,hres.out.2.trans (Only.drewN _ _ 1)⟩
def Ap6 (l:List Cel) (i:Nat):Nat:=if W l i=2 then i - 1 else i
theorem Bq3 {l:List Cel} {i:Nat} (h:i<l.length):Ap6 l i<l.length:=by unfold Ap6;split<;>omega
def Bl9 (l:List Cel) (i:Nat) (x:Int):List Cel:=match l[Ap6 l i]? with
 |some c=>if c.m.length<4 then l.set (Ap6 l i) (Aj5 c x) else l
 |none=>l
def Cc3 (l:List Cel) (i:Nat):Int:=match l[Ap6 l i]? with
 |some c=>if c.m.length<4 then 0 else 8
 |none=>8
theorem join_no (h:RowX w d g n cap tail l) (col x:Int) (hno:An1 x=false\/col<0\/(n:Int)<=col) :
  Calls Tryz.prog 308 #[.pointer (some ⟨d,0,none⟩),.int .i64 col,.int .i32 x] w fun e w'=>e=.returned (.int .i64 2)/\w=w':=by
 have hn:=h.pos
 have hn0:((n:Int) == 0)=false:=beq_eq_false_iff_ne.2 (by omega)
 have hlen:=J0 (Ah1 h)
 have hnot:=J0 (fun j h0=>Bx8 h j h0)
 have hmp:=Ar4 x
 by_cases h1:An1 x=false
 ·rw [h1] at hmp
  replace hmp:=J0 hmp
  clear h hno h1
  go_enter Tryz.func308,Tryz.ntmps308
  go_wp2_with (first|(go_at_call 240;(with_reducible refine (hlen.out).mono ?_);rintro e w' ⟨rfl,rfl⟩)|(go_at_call 363;(with_reducible refine (hmp.out _).mono ?_);rintro e w' ⟨rfl,rfl⟩))
  go_ret
  exact ⟨rfl,rfl⟩
 ·have h1:An1 x=true:=by simpa using h1
  have h2:col<0\/(n:Int)<=col:=by
   rcases hno with hh|hh
   ·simp [h1] at hh
   ·exact hh
  rw [h1] at hmp
  replace hmp:=J0 hmp
  replace h2:=J0 h2
  clear h hno h1
  go_enter Tryz.func308,Tryz.ntmps308
  go_wp2_with (first|(go_at_call 240;(with_reducible refine (hlen.out).mono ?_);rintro e w' ⟨rfl,rfl⟩)|(go_at_call 363;(with_reducible refine (hmp.out _).mono ?_);rintro e w' ⟨rfl,rfl⟩)|(go_at_call 362;(with_reducible refine (hnot.out _ h2.out).mono ?_);rintro e w' ⟨rfl,rfl⟩))
  go_ret
  exact ⟨rfl,rfl⟩
theorem join_yes (h:RowX w d g n cap tail l) (hwh:Aj4 l) (h4:∀ c∈l,c.m.length<=4) (col:Nat) (x:Int) (hx:An1 x=true) (hcol:col<n) :
  Calls Tryz.prog 308 #[.pointer (some ⟨d,0,none⟩),.int .i64 col,.int .i32 x] w (Au4 w d g n cap tail (Bl9 l col x) (.int .i64 (Cc3 l col))):=by
 have hn:=h.pos
 have hn5:=h.small
 have hle:=h.le
 have hcm:=h.cap
 unfold maxLen at hcm
 have hn0:((n:Int) == 0)=false:=beq_eq_false_iff_ne.2 (by omega)
 have hlen:=J0 (Ah1 h)
 have hyes:=J0 (fun j h0 h1=>Be8 h j h0 h1)
 have hmp:=Ar4 x
 rw [hx] at hmp
 replace hmp:=J0 hmp
 have hcl:col<l.length:=by rw [h.len];exact hcol
 have hjl:=Bq3 hcl
 have hc:=h.slice
 have hwd:=h.wide hcl
 have hWc:=W_at hcl
 have hcall:Calls Tryz.prog 364 #[.pointer (some ⟨g,Ap6 l col*10,none⟩),.int .i32 x] w (Au4 w d g n cap tail (Bl9 l col x) (.int .i64 (Cc3 l col))):=by
  unfold Bl9 Cc3
  rw [List.getElem?_eq_getElem hjl]
  simp only
  by_cases hm:l[Ap6 l col].m.length<4
  ·rw [if_pos hm,if_pos hm]
   exact cjoin_add h hjl hm x
  ·rw [if_neg hm,if_neg hm]
   refine (cjoin_full h hjl ?_ x).mono fun e w' ⟨he,hw⟩=>⟨he,hw▸h,hw▸Only.refl _ _⟩
   have:=h4 _ (List.getElem_mem hjl)
   omega
 generalize Bl9 l col x=l2 at hcall |-
 generalize Cc3 l col=v2 at hcall |-
 replace hcall:=J0 hcall
 by_cases h2:W l col=2
 ·have hpos:col≠0:=fun e=>(Ag7 l).1 hwh |>.1 (by rw [<- e];exact h2)
  rw [h2] at hWc
  rw [<- hWc] at hwd
  have hj:Ap6 l col=col - 1:=if_pos h2
  rw [hj] at hcall
  obtain ⟨c,rfl⟩:∃ c,col=c+1:=⟨col - 1,by omega⟩
  rw [Nat.add_sub_cancel] at hcall
  clear h hj hWc h2 hcl hjl h4 hwh hx
  go_enter Tryz.func308,Tryz.ntmps308
  go_wp2_with (first
   |(go_at_call 240;(with_reducible refine (hlen.out).mono ?_);rintro e w' ⟨rfl,rfl⟩)
   |(go_at_call 363;(with_reducible refine (hmp.out _).mono ?_);rintro e w' ⟨rfl,rfl⟩)
   |(go_at_call 362;(with_reducible refine (hyes.out _ (by omega) (by omega)).mono ?_);rintro e w' ⟨rfl,rfl⟩)
   |(go_at_call 364;(with_reducible refine (hcall.out).mono ?_);rintro e w1 ⟨rfl,hR1,ho1⟩))
  go_ret
  exact ⟨rfl,hR1,ho1⟩
 ·have hj:Ap6 l col=col:=if_neg h2
  rw [hj] at hcall
  have hne:(l[col].wide == 2)=false:=by rw [<- hWc];simpa using h2
  generalize l[col].wide=wd at hwd hne
  clear h hj hWc h2 hcl hjl h4 hwh hx
  go_enter Tryz.func308,Tryz.ntmps308
  go_wp2_with (first
   |(go_at_call 240;(with_reducible refine (hlen.out).mono ?_);rintro e w' ⟨rfl,rfl⟩)
   |(go_at_call 363;(with_reducible refine (hmp.out _).mono ?_);rintro e w' ⟨rfl,rfl⟩)
   |(go_at_call 362;(with_reducible refine (hyes.out _ (by omega) (by omega)).mono ?_);rintro e w' ⟨rfl,rfl⟩)
   |(go_at_call 364;(with_reducible refine (hcall.out).mono ?_);rintro e w1 ⟨rfl,hR1,ho1⟩))
  go_ret
  exact ⟨rfl,hR1,ho1⟩
end
end Go.Proofs.YtbafmljidapmgaaGreatDoor.Rw
namespace Go.Proofs.YtbafmljidapmgaaGreatDoor.Rw
open Go
def Cc4 (l:List Cel) (col x:Int) (wide:Bool) (a:At):Prop:=An1 x=true/\0<=col/\col+((cellsPut x wide a).length:Int)<=l.length
instance (l:List Cel) (col x:Int) (wide:Bool) (a:At):Decidable (Cc4 l col x wide a):=by unfold Cc4;infer_instance
def putL (l:List Cel) (col x:Int) (wide:Bool) (a:At):List Cel:=if Cc4 l col x wide a then setL l col.toNat (cellsPut x wide a) else l
def putV (l:List Cel) (col x:Int) (wide:Bool) (a:At):Int:=if Cc4 l col x wide a then 0 else 2
def Cc2 (l:List Cel) (col x:Int):Prop:=An1 x=true/\0<=col/\col<l.length
instance (l:List Cel) (col x:Int):Decidable (Cc2 l col x):=by unfold Cc2;infer_instance
def joiL (l:List Cel) (col x:Int):List Cel:=if Cc2 l col x then Bl9 l col.toNat x else l
def joiV (l:List Cel) (col x:Int):Int:=if Cc2 l col x then Cc3 l col.toNat else 2
def eraL (l:List Cel) (lo hi:Int) (a:At):List Cel:=Av1 l (Ab1 lo l.length) (Ab1 hi l.length) a
def inL (l:List Cel) (col k:Int) (a:At):List Cel:=insL l (Ab1 col l.length) (Ab1 k (l.length - Ab1 col l.length)) a
def deL (l:List Cel) (col k:Int) (a:At):List Cel:=delL l (Ab1 col l.length) (Ab1 k (l.length - Ab1 col l.length)) a
theorem Bu2 (i:Int) (n:Nat):Ab1 i n<=n:=Nat.min_le_right _ _
theorem Bu1 (c k:Int) (n:Nat):Ab1 c n+Ab1 k (n - Ab1 c n)<=n:=by
 have:=Bu2 c n
 have:=Bu2 k (n - Ab1 c n)
 omega
structure Bk0 (P:Cel->Prop):Prop where
 bl:∀ c,P c->P (Al1 c)
 cl:∀ a,P (clr a)
 jn:∀ c x,P c->c.wide≠2->c.m.length<4->P (Aj5 c x)
theorem Bv9 {P:Cel->Prop} (hP:Bk0 P) {l:List Cel} (h:∀ c∈l,P c):∀ c∈Ah9 l,P c:=by
 intro c hc
 obtain ⟨i,hi⟩:=List.getElem?_of_mem hc
 rw [mendAll_at] at hi
 cases hq:l[i]? with
 |none=>simp [hq] at hi
 |some z =>
  rw [hq] at hi
  simp only [Option.map_some,Option.some.injEq] at hi
  have hz:=h z (List.mem_of_getElem? hq)
  subst hi
  split
  ·exact hP.bl _ hz
  ·exact hz
theorem all_splice {P:Cel->Prop} {l cs:List Cel} {col:Nat} (h:∀ c∈l,P c) (h2:∀ c∈cs,P c):∀ c∈splice l col cs,P c:=by
 intro c hc
 unfold splice at hc
 rcases List.mem_append.1 hc with hc|hc
 ·exact h c (List.mem_of_mem_take hc)
 ·rcases List.mem_append.1 hc with hc|hc
  ·exact h2 c hc
  ·exact h c (List.mem_of_mem_drop hc)
theorem Bc6 {P:Cel->Prop} (hP:Bk0 P) (n:Nat) (a:At):∀ c∈List.replicate n (clr a),P c:=fun c hc=>by rw [(List.mem_replicate.1 hc).2];exact hP.cl a
theorem Bt3 {P:Cel->Prop} (hP:Bk0 P) {l cs:List Cel} {col:Nat} (h:∀ c∈l,P c) (h2:∀ c∈cs,P c):∀ c∈setL l col cs,P c:=Bv9 hP (all_splice h h2)
theorem all_put {P:Cel->Prop} (hP:Bk0 P) {l:List Cel} {col x:Int} {wide:Bool} {a:At} (h:∀ c∈l,P c) (h2:An1 x=true->∀ c∈cellsPut x wide a,P c):∀ c∈putL l col x wide a,P c:=by
 unfold putL
 split
 ·next hk=>exact Bt3 hP h (h2 hk.1)
 ·exact h
theorem all_era {P:Cel->Prop} (hP:Bk0 P) {l:List Cel} {lo hi:Int} {a:At} (h:∀ c∈l,P c):∀ c∈eraL l lo hi a,P c:=by
 unfold eraL Av1
 split
 ·exact Bt3 hP h (Bc6 hP _ _)
 ·exact h
theorem all_in {P:Cel->Prop} (hP:Bk0 P) {l:List Cel} {col k:Int} {a:At} (h:∀ c∈l,P c):∀ c∈inL l col k a,P c:=by
 unfold inL insL
 refine Bv9 hP fun c hc=>?_
 unfold insX at hc
 rcases List.mem_append.1 hc with hc|hc
 ·exact h c (List.mem_of_mem_take hc)
 ·rcases List.mem_append.1 hc with hc|hc
  ·exact Bc6 hP _ _ c hc
  ·exact h c (List.mem_of_mem_drop (List.mem_of_mem_take hc))
theorem all_de {P:Cel->Prop} (hP:Bk0 P) {l:List Cel} {col k:Int} {a:At} (h:∀ c∈l,P c):∀ c∈deL l col k a,P c:=by
 unfold deL delL
 intro c hc
 unfold delX at hc
 have hs:=Bt3 hP (col:=Ab1 col l.length) h (Bc6 hP (Ab1 k (l.length - Ab1 col l.length)) a)
 rcases List.mem_append.1 hc with hc|hc
 ·exact hs c (List.mem_of_mem_take hc)
 ·rcases List.mem_append.1 hc with hc|hc
  ·exact hs c (List.mem_of_mem_drop hc)
  ·exact Bc6 hP _ _ c hc
theorem joinAt_wide {l:List Cel} (hw:Aj4 l) {i:Nat} (hi:i<l.length):W l (Ap6 l i)≠2:=by
 rw [Ag7] at hw
 unfold Ap6
 split
 ·next h2 =>
  rcases i with _|i
  ·exact absurd h2 hw.1
  ·rw [Nat.add_sub_cancel,(hw.2 i).2 h2];decide
 ·assumption
theorem Az3 {l:List Cel} (hw:Aj4 l) (col x:Int):joiL l col x=l\/∃ (j:Nat) (hj:j<l.length),l[j].wide≠2/\l[j].m.length<4/\joiL l col x=l.set j (Aj5 l[j] x):=by
 unfold joiL
 split
 ·next hk =>
  obtain ⟨_,h0,h1⟩:=hk
  have hi:col.toNat<l.length:=by omega
  have hj:=Bq3 hi
  have hne:=joinAt_wide hw hi
  unfold Bl9
  rw [List.getElem?_eq_getElem hj]
  simp only
  split
  ·next h4=>exact .inr ⟨_,hj,by rwa [W_at hj] at hne,h4,rfl⟩
  ·exact .inl rfl
 ·exact .inl rfl
theorem all_joi {P:Cel->Prop} (hP:Bk0 P) {l:List Cel} (hw:Aj4 l) {col x:Int} (h:∀ c∈l,P c):∀ c∈joiL l col x,P c:=by
 rcases Az3 hw col x with e|⟨j,hj,h2,h4,e⟩
 ·rw [e];exact h
 ·rw [e]
  intro c hc
  rcases List.mem_or_eq_of_mem_set hc with hc|rfl
  ·exact h c hc
  ·exact hP.jn _ _ (h _ (List.getElem_mem hj)) h2 h4
def Pairs (l:List Cel):Prop:=∀ (i:Nat) (c c':Cel),l[i]?=some c->l[i+1]?=some c'->c.wide=1->c'.wide=2->c'.a=c.a
theorem Pairs.take {l:List Cel} (h:Pairs l) (k:Nat):Pairs (l.take k):=fun i c c' h1 h2=>by
 rw [List.getElem?_take] at h1 h2
 split at h1
 ·split at h2
  ·exact h i c c' h1 h2
  ·cases h2
 ·cases h1
theorem Pairs.drop {l:List Cel} (h:Pairs l) (k:Nat):Pairs (l.drop k):=fun i c c' h1 h2=>by
 rw [List.getElem?_drop] at h1 h2
 exact h (k+i) c c' h1 (by rw [<- h2];congr 1)
theorem Pairs.app {l l':List Cel} (h:Pairs l) (h':Pairs l') (hb:∀ c c',l[l.length - 1]?=some c->l'[0]?=some c'->0<l.length->c.wide=1->c'.wide=2->c'.a=c.a):Pairs (l++l'):=fun i c c' h1 h2=>by
 rcases Nat.lt_or_ge (i+1) l.length with hi|hi
 ·rw [List.getElem?_append_left (by omega)] at h1
  rw [List.getElem?_append_left hi] at h2
  exact h i c c' h1 h2
 ·rw [List.getElem?_append_right hi] at h2
  rcases Nat.lt_or_ge i l.length with hi2|hi2
  ·rw [List.getElem?_append_left hi2] at h1
   obtain rfl:i=l.length - 1:=by omega
   exact hb c c' h1 (by rw [<- h2];congr 1;omega) (by omega)
  ·rw [List.getElem?_append_right hi2] at h1
   exact h' (i - l.length) c c' h1 (by rw [<- h2];congr 1;omega)
theorem Bi4 {l:List Cel} (h:∀ c∈l,c.wide=0):Pairs l:=fun i c c' h1 _ h3=>by
 have:=h c (List.mem_of_getElem? h1)
 omega
theorem Aw7 (n:Nat) (a:At):Pairs (List.replicate n (clr a)):=Bi4 (fun c hc=>by rw [(List.mem_replicate.1 hc).2];rfl)
theorem pairs_put (x:Int) (wide:Bool) (a:At):Pairs (cellsPut x wide a):=by
 cases wide
 ·exact Bi4 (by simp [cellsPut])
 ·intro i c c' h1 h2 _ _
  rcases i with _|i
  ·simp [cellsPut] at h1 h2
   rw [<- h1,<- h2]
  ·simp [cellsPut] at h2
theorem Pairs.mend {l:List Cel} (h:Pairs l):Pairs (Ah9 l):=fun i c c' h1 h2 hw1 hw2=>by
 rw [mendAll_at] at h1 h2
 cases hq:l[i]? with
 |none=>simp [hq] at h1
 |some z =>
  cases hq':l[i+1]? with
  |none=>simp [hq'] at h2
  |some z' =>
   rw [hq] at h1
   rw [hq'] at h2
   simp only [Option.map_some,Option.some.injEq] at h1 h2
   split at h1
   ·subst h1;simp [Al1] at hw1
   ·split at h2
    ·subst h2;simp [Al1] at hw2
    ·subst h1 h2
     exact h i z z' hq hq' hw1 hw2
theorem Pairs.spl {l cs:List Cel} {col:Nat} (h:Pairs l) (hc:Pairs cs) (h0:0<cs.length) (h1:W cs 0≠2) (h2:W cs (cs.length - 1)≠1):Pairs (splice l col cs):=by
 unfold splice
 refine (h.take col).app (hc.app (h.drop _) fun c c' e1 e2 _ w1 _=>?_) fun c c' e1 e2 _ _ w2=>?_
 ·exact absurd (by unfold W;rw [e1];exact w1) h2
 ·rw [List.getElem?_append_left h0] at e2
  exact absurd (by unfold W;rw [e2];exact w2) h1
theorem Pairs.set {l cs:List Cel} {col:Nat} (h:Pairs l) (hc:Pairs cs) (h0:0<cs.length) (h1:W cs 0≠2) (h2:W cs (cs.length - 1)≠1):Pairs (setL l col cs):=(h.spl hc h0 h1 h2).mend
theorem Cd7 (n:Nat) (a:At) (i:Nat):W (List.replicate n (clr a)) i=0:=Bk5 (fun c hc=>by rw [(List.mem_replicate.1 hc).2];rfl) i
theorem Pairs.setClr {l:List Cel} {col:Nat} (h:Pairs l) (hw:Aj4 l) (n:Nat) (a:At):Pairs (setL l col (List.replicate n (clr a))):=by
 rcases Nat.eq_zero_or_pos n with rfl|hn
 ·rw [List.replicate_zero,Ca8 hw];exact h
 ·exact h.set (Aw7 _ _) (by simpa using hn) (by rw [Cd7];decide) (by rw [Cd7];decide)
structure Cp0 (c:Cel):Prop where
 four:c.m.length<=4
 wide:c.wide=0\/c.wide=1\/c.wide=2
 rune:c.wide≠2->An1 c.r=true
 none:c.wide=2->c.r=0/\c.m=[]
structure Good (l:List Cel):Prop where
 whole:Aj4 l
 cell:∀ c∈l,Cp0 c
 pairs:Pairs l
theorem Ar1:Bk0 Cp0:=⟨fun c _=>⟨by simp [Al1],.inl rfl,fun _=>rfl,fun h=>by simp [Al1] at h⟩,fun a=>⟨by simp [clr],.inl rfl,fun _=>rfl,fun h=>by simp [clr] at h⟩,fun c x h h2 h4=>⟨by simp [Aj5];omega,h.wide,h.rune,fun e=>absurd e h2⟩⟩
theorem ok_put {x:Int} (hx:An1 x=true) (wide:Bool) (a:At):∀ c∈cellsPut x wide a,Cp0 c:=by
 cases wide
 ·intro c hc
  obtain rfl:c=⟨x,[],0,a⟩:=by simpa [cellsPut] using hc
  exact ⟨by simp,.inl rfl,fun _=>hx,fun h=>by simp at h⟩
 ·intro c hc
  rcases (by simpa [cellsPut] using hc:c=⟨x,[],1,a⟩\/c=⟨0,[],2,a⟩) with rfl|rfl
  ·exact ⟨by simp,.inr (.inl rfl),fun _=>hx,fun h=>by simp at h⟩
  ·exact ⟨by simp,.inr (.inr rfl),fun h=>by simp at h,fun _=>⟨rfl,rfl⟩⟩
theorem Good.put {l:List Cel} (h:Good l) (col x:Int) (wide:Bool) (a:At):Good (putL l col x wide a):=by
 refine ⟨?_,all_put Ar1 h.cell (fun hx=>ok_put hx wide a),?_⟩
 ·unfold putL;split
  ·exact As0 _ _ _
  ·exact h.whole
 ·unfold putL;split
  ·refine h.pairs.set (pairs_put _ _ _) ?_ ?_ ?_<;>cases wide<;>simp [cellsPut,W]
  ·exact h.pairs
theorem Good.joi {l:List Cel} (h:Good l) (col x:Int):Good (joiL l col x):=by
 refine ⟨?_,all_joi Ar1 h.whole h.cell,?_⟩
 ·rcases Az3 h.whole col x with e|⟨j,hj,h2,h4,e⟩
  ·rw [e];exact h.whole
  ·rw [e]
   have hW:∀ i,W (l.set j (Aj5 l[j] x)) i=W l i:=fun i=>by
    unfold W
    rw [List.getElem?_set]
    by_cases hji:j=i
    ·subst hji
     rw [if_pos rfl,if_pos hj,List.getElem?_eq_getElem hj]
     rfl
    ·rw [if_neg hji]
   have:=h.whole
   rw [Ag7] at this |-
   simp only [hW]
   exact this
 ·rcases Az3 h.whole col x with e|⟨j,hj,h2,h4,e⟩
  ·rw [e];exact h.pairs
  ·rw [e]
   have hA:∀ (i:Nat) (c:Cel),(l.set j (Aj5 l[j] x))[i]?=some c->∃ z:Cel,l[i]?=some z/\z.wide=c.wide/\z.a=c.a:=fun i c hi=>by
    rw [List.getElem?_set] at hi
    by_cases hji:j=i
    ·subst hji
     rw [if_pos rfl,if_pos hj] at hi
     simp only [Option.some.injEq] at hi
     exact ⟨_,List.getElem?_eq_getElem hj,by rw [<- hi];rfl,by rw [<- hi];rfl⟩
    ·rw [if_neg hji] at hi
     exact ⟨_,hi,rfl,rfl⟩
   intro i c c' h1 h3 w1 w2
   obtain ⟨z,hz,a1,a2⟩:=hA i c h1
   obtain ⟨z',hz',b1,b2⟩:=hA (i+1) c' h3
   rw [<- a2,<- b2]
   exact h.pairs i z z' hz hz' (a1.trans w1) (b1.trans w2)
theorem Good.era {l:List Cel} (h:Good l) (lo hi:Int) (a:At):Good (eraL l lo hi a):=by
 refine ⟨?_,all_era Ar1 h.cell,?_⟩
 ·unfold eraL Av1;split
  ·exact As0 _ _ _
  ·exact h.whole
 ·unfold eraL Av1;split
  ·exact h.pairs.setClr h.whole _ _
  ·exact h.pairs
theorem Good.ins {l:List Cel} (h:Good l) (col k:Int) (a:At):Good (inL l col k a):=by
 refine ⟨Ax9 _,all_in Ar1 h.cell,?_⟩
 unfold inL insL
 refine Pairs.mend ?_
 generalize Ab1 k (l.length - Ab1 col l.length)=n
 generalize Ab1 col l.length=c0
 rcases Nat.eq_zero_or_pos n with rfl|hn
 ·unfold insX
  rw [List.replicate_zero,List.nil_append,Nat.sub_zero,List.take_of_length_le (l:=l.drop c0) (by rw [List.length_drop];exact J5 _),List.take_append_drop]
  exact h.pairs
 ·unfold insX
  refine (h.pairs.take c0).app ((Aw7 _ _).app ((h.pairs.drop _).take _) fun c c' e1 e2 _ w1 _=>?_) fun c c' e1 e2 _ _ w2=>?_
  ·have:=Cd7 n a ((List.replicate n (clr a)).length - 1)
   unfold W at this
   rw [e1] at this
   simp only at this
   omega
  ·rw [List.getElem?_append_left (by simpa using hn)] at e2
   have:=Cd7 n a 0
   unfold W at this
   rw [e2] at this
   simp only at this
   omega
theorem Good.del {l:List Cel} (h:Good l) (col k:Int) (a:At):Good (deL l col k a):=by
 have hin:=Bu1 col k l.length
 refine ⟨?_,all_de Ar1 h.cell,?_⟩
 ·exact Bj5 a hin h.whole
 ·unfold deL delL
  generalize Ab1 k (l.length - Ab1 col l.length)=n at hin
  generalize Ab1 col l.length=c0 at hin
  have hs:=h.pairs.setClr (col:=c0) h.whole n a
  have hws:=As0 l (List.replicate n (clr a)) c0
  unfold delX
  rcases Nat.eq_zero_or_pos n with rfl|hn
  ·rw [List.replicate_zero,List.append_nil,Nat.add_zero,List.take_append_drop]
   rw [List.replicate_zero] at hs
   exact hs
  ·have h0:=Bo1 a hin (J5 c0) (by omega)
   refine (hs.take c0).app ((hs.drop _).app (Aw7 _ _) fun c c' e1 e2 _ _ w2=>?_) fun c c' e1 e2 hp w1 _=>?_
   ·have:=Cd7 n a 0
    unfold W at this
    rw [e2] at this
    simp only at this
    omega
   ·have hlen:((setL l c0 (List.replicate n (clr a))).take c0).length=c0:=by
     rw [List.length_take,Ah2 (by simpa using hin)]
     omega
    rw [hlen] at e1 hp
    rw [List.getElem?_take,if_pos (by omega)] at e1
    rw [Ag7] at hws
    have h1:W (setL l c0 (List.replicate n (clr a))) (c0 - 1)=1:=by unfold W;rw [e1];exact w1
    have h2:=(hws.2 (c0 - 1)).1 h1
    rw [show c0 - 1+1=c0 by omega,h0] at h2
    omega
theorem Bx2 (n:Nat):Good (List.replicate n (clr zeroAt)):=⟨whole_clr _ _,Bc6 Ar1 _ _,Aw7 _ _⟩
theorem joiL_len (l:List Cel) (col x:Int):(joiL l col x).length=l.length:=by
 unfold joiL;split
 ·unfold Bl9
  split
  ·split
   ·simp
   ·rfl
  ·rfl
 ·rfl
theorem Av0 (l:List Cel) (lo hi:Int) (a:At):(eraL l lo hi a).length=l.length:=by
 have:=Bu2 hi l.length
 unfold eraL Av1;split
 ·exact Ah2 (by simp;omega)
 ·rfl
theorem Bf0 (l:List Cel) (col k:Int) (a:At):(inL l col k a).length=l.length:=by
 unfold inL insL
 rw [mendAll_length]
 exact At0 a (Bu1 col k l.length)
theorem Ce4 (l:List Cel) (col k:Int) (a:At):(deL l col k a).length=l.length:=delX_length a (Bu1 col k l.length)
end Go.Proofs.YtbafmljidapmgaaGreatDoor.Rw
namespace Go.Proofs.YtbafmljidapmgaaGreatDoor.Rw
open Go RowKit Com
def apiC (c:Cel) (v:Value):List Value:=.int .i32 c.r::v::.int .u8 c.wide::attV c.a
def apiP (p:Cel×Value):List Value:=apiC p.1 p.2
theorem Af4 (p:Cel×Value):(apiP p).length=6:=rfl
theorem Own.one {w:World} {B:Nat} {e:TypeId} {k:IntKind} {v:Value} {l:List Int} (h:Own w B e k v l):v.oneCell'=true:=by
 obtain ⟨ao,c,rfl,_⟩:=h.shape
 rfl
theorem Own.typ {w:World} {B:Nat} {e:TypeId} {k:IntKind} {v:Value} {l:List Int} (h:Own w B e k v l) {g:Nat} (hg:v.ownBlock=some g):Typ w g e:=by
 rcases h.2 with ⟨rfl,_⟩|⟨x,cap,cur,rfl,_,hh,_⟩
 ·cases hg
 ·obtain rfl:x=g:=by simpa [Value.ownBlock] using hg
  exact ⟨cur,_,hh⟩
theorem Own.fr {B B':Nat} {ts:List TypeId} {w w':World} {e:TypeId} {k:IntKind} {v:Value} {l:List Int} (h:Own w B e k v l) (hf:Fr B' ts w w') (he:e∉ts):Own w' B e k v l:=by
 have hty:=fun g hg=>Own.typ h (g:=g) hg
 have hlt:=fun g hg=>(h.lt g hg).2
 refine ⟨h.1,?_⟩
 rcases h.2 with h2|⟨g,cap,cur,rfl,hg,hh,r⟩
 ·exact .inl h2
 ·refine .inr ⟨g,cap,cur,rfl,hg,(hf.block g (hlt g rfl) (.inr fun t ht hT=>he ?_)).trans hh,r⟩
  rw [Typ.inj (hty g rfl) hT]
  exact ht
structure Api (B:Nat) (w:World) (v:Value) (ps:List (Cel×Value)):Prop where
 own:w.ownsRow B 94 6 v ps.length (fl apiP ps)
 comb:∀ p∈ps,Own w B 21 .i32 p.2 p.1.m
theorem An0 {B B':Nat} {ts:List TypeId} {w w':World} {e:TypeId} {s n:Nat} {v:Value} {xs:List Value} (h:w.ownsRow B e s v n xs) (hf:Fr B' ts w w') (he:e∉ts):w'.ownsRow B e s v n xs:=by
 have hlt:=World.ownsRow.lt h
 refine ⟨h.1,?_⟩
 rcases h.2 with h2|⟨g,cap,cur,rfl,hg,hh,r⟩
 ·exact .inl h2
 ·refine .inr ⟨g,cap,cur,rfl,hg,(hf.block g (hlt g rfl).2 (.inr fun t ht hT=>he ?_)).trans hh,r⟩
  rw [Typ.inj (⟨cur,_,hh⟩:Typ w g e) hT]
  exact ht
theorem Api.fr {B B':Nat} {ts:List TypeId} {w w':World} {v:Value} {ps:List (Cel×Value)} (h:Api B w v ps) (hf:Fr B' ts w w') (h1:94∉ts) (h2:21∉ts):Api B w' v ps:=⟨An0 h.own hf h1,fun p hp=>Own.fr (h.comb p hp) hf h2⟩
theorem Api.below {B:Nat} {w w':World} {v:Value} {ps:List (Cel×Value)} (h:Api B w v ps) (hb:Below w.heap.size w w'):Api B w' v ps:=h.fr (Fr.of_below (B:=0) (ts:=[]) hb) (by simp) (by simp)
theorem Api.lower {B B':Nat} {w:World} {v:Value} {ps:List (Cel×Value)} (h:Api B w v ps) (hB:B'<=B):Api B' w v ps:=⟨by
 refine ⟨h.own.1,?_⟩
 rcases h.own.2 with h2|⟨g,cap,cur,e,hg,r⟩
 ·exact .inl h2
 ·exact .inr ⟨g,cap,cur,e,Nat.le_trans hB hg,r⟩,fun p hp=>(h.comb p hp).lower hB⟩
theorem elemI:Elem Tryz.prog 35 21 .i32 4:=by
 have h:(Tryz.prog.info? 21).map (fun i=>(i.zero,i.size,i.bytes))=some (some (.int .i32 0),1,4):=by kernel_rfl
 obtain ⟨i,h0,h1,h2,h3⟩:=info_parts h
 exact ⟨Tryz.underlying35,i,h0,h1,h2,h3⟩
theorem Cn2:(Tryz.prog.info? 94).map (·.size)=some 6:=by kernel_rfl
theorem Bf1 (c:Cel) (v:Value):(Tryz.prog.info? 94).map (·.size)=some (apiC c v).length:=Cn2
theorem Bb5 {c:Cel} {v:Value} (h:v.oneCell'=true):∀ u∈apiC c v,u.oneCell'=true:=by
 intro u hu
 simp only [apiC,attV,List.mem_cons,List.not_mem_nil,or_false] at hu
 rcases hu with rfl|rfl|rfl|rfl|rfl|rfl
 ·rfl
 ·exact h
 ·rfl
 ·rfl
 ·rfl
 ·rfl
theorem marks_slice (k:Nat) (hk:k<=4) (bx:Nat) (w:World) :
  (Instr.sliceAt 302 (.pointer (some ⟨bx,1,none⟩)) none (some (.int .u8 k)) none).run Tryz.prog w=.ok (.slice (some ⟨bx,1,none⟩) k 4) w:=by
 have ht:Tryz.prog.underlying 302=some (.array (Tryz.prog.arrayLen 302) (Tryz.prog.elem 302)):=by kernel_rfl
 have hl:Tryz.prog.arrayLen 302=4:=by kernel_rfl
 have hi:(Tryz.prog.info? (Tryz.prog.elem 302)).map (·.size)=some 1:=by kernel_rfl
 rw [run_sliceAt_array_h w _ ⟨bx,1,none⟩ ht .u8 k (by omega) (by rw [hl];omega)]
 cases hq:Tryz.prog.info? (Tryz.prog.elem 302) with
 |none=>simp [hq] at hi
 |some j =>
  have hs:j.size=1:=by simpa [hq] using hi
  simp [sizeOf,typeInfo,hq,hs,slicedAt,hl,Addr.add]
theorem wpList_appk {P:Program} {t e:TypeId} {k:IntKind} {bytes:Nat} (E:Elem P t e k bytes) {w:World} {ops:Array Oper} {rest:List Oper} {o:Oper} {a:Go.Act} {Q:Exit->Go.Act->World->Prop} (hgd:Region.wanted o (yielded ops a.tmps)=true) (s x:Operand)
  (ho:o.op=.call { callee:=.builtin .append,args:=#[s,x],argTypes:=#[t,t] })
  (B:Nat) (v:Value) (l m:List Int) (n:Nat) (hn':n=m.length) (ao:Option Addr) (B' c:Nat) (hs:a.eval s=v) (hxe:a.eval x=.slice ao n c)
  (h:Own w B e k v l) (hm:Nums w B' k ao m) (hB:B<=w.heap.size) (hn:(l.length+n)*bytes<=140737488355328) (hx:l.length+n<=maxLen)
  (hK:∀ v' w',Own w' B e k v' (l++m)->Only v.ownBlock.toList w w'->(v'.ownBlock=v.ownBlock\/v'.ownBlock=some w.heap.size)->wpList P ops Q rest (a.put o.dst v') w'):wpList P ops Q (o::rest) a w:=by
 subst hn'
 exact Ai8 E hgd s x ho B v l m ao B' c hs hxe h hm hB hn hx hK
def ToldC (w:World) (c:Cel) (e:Ending) (w':World):Prop:=∃ v,e=.returned (.agg (apiC c v).toArray)/\Own w' w.heap.size 21 .i32 v c.m/\Below w.heap.size w w'
theorem Bc3 (c:Cel) (hm:c.m.length<=4) (w:World):Calls Tryz.prog 241 #[.agg (cellC c).toArray] w (ToldC w c):=by
 obtain ⟨r,m,wd,⟨af,ab,ag⟩⟩:=c
 simp only at hm
 obtain ⟨p0,p1,p2,p3,hp⟩:∃ p0 p1 p2 p3,pad4 m=[p0,p1,p2,p3]:=by
  match m,hm with
  |[],_=>exact ⟨_,_,_,_,rfl⟩
  |[_],_=>exact ⟨_,_,_,_,rfl⟩
  |[_,_],_=>exact ⟨_,_,_,_,rfl⟩
  |[_,_,_],_=>exact ⟨_,_,_,_,rfl⟩
  |[_,_,_,_],_=>exact ⟨_,_,_,_,rfl⟩
 have hmi:∀ (i:Nat) (x:Int),m[i]?=some x->[p0,p1,p2,p3][i]?=some x:=by
  intro i x hx
  rw [<- hp,pad4,List.getElem?_take,if_pos (by have:=(List.getElem?_eq_some_iff.1 hx).1;omega),List.getElem?_append_left (List.getElem?_eq_some_iff.1 hx).1]
  exact hx
 have hC:(cellC ⟨r,m,wd,⟨af,ab,ag⟩⟩).toArray=#[.int .i32 r,.int .i32 p0,.int .i32 p1,.int .i32 p2,.int .i32 p3,.int .u8 m.length,.int .u8 wd,.int .u32 af,.int .u32 ab,.int .u16 ag]:=by simp [cellC,hp,attV]
 rw [hC]
 have hbx:=Block.made w 304 #[.int .i32 r,.int .i32 p0,.int .i32 p1,.int .i32 p2,.int .i32 p3,.int .u8 m.length,.int .u8 wd,.int .u32 af,.int .u32 ab,.int .u16 ag]
 have hnums:∀ W,Block W w.heap.size 304 #[.int .i32 r,.int .i32 p0,.int .i32 p1,.int .i32 p2,.int .i32 p3,.int .u8 m.length,.int .u8 wd,.int .u32 af,.int .u32 ab,.int .u16 ag]->Nums W W.heap.size .i32 (some ⟨w.heap.size,1,none⟩) m:=by
  intro W hW i x hx
  refine ⟨_,rfl,hW.lt,?_⟩
  rw [Addr.add_lit]
  refine hW.cell _ ?_
  have:=hmi i x hx
  match i,this with
  |0,h=>simp at h;simp [h]
  |1,h=>simp at h;simp [h]
  |2,h=>simp at h;simp [h]
  |3,h=>simp at h;simp [h]
 have hsl:=fun W=>marks_slice m.length hm w.heap.size W
 have hb1:=hbx.alloc (.cells #[.int .i32 0,.slice none 0 0,.int .u8 0,.int .u32 0,.int .u32 0,.int .u16 0] 94)
 have hr1:Block ((w.alloc (.cells #[.int .i32 r,.int .i32 p0,.int .i32 p1,.int .i32 p2,.int .i32 p3,.int .u8 m.length,.int .u8 wd,.int .u32 af,.int .u32 ab,.int .u16 ag] 304)).alloc (.cells #[.int .i32 0,.slice none 0 0,.int .u8 0,.int .u32 0,.int .u32 0,.int .u16 0] 94)) (w.heap.size+1) 94 #[.int .i32 0,.slice none 0 0,.int .u8 0,.int .u32 0,.int .u32 0,.int .u16 0]:=by
  have:=Block.made (w.alloc (.cells #[.int .i32 r,.int .i32 p0,.int .i32 p1,.int .i32 p2,.int .i32 p3,.int .u8 m.length,.int .u8 wd,.int .u32 af,.int .u32 ab,.int .u16 ag] 304)) 94 #[.int .i32 0,.slice none 0 0,.int .u8 0,.int .u32 0,.int .u32 0,.int .u16 0]
  simpa using this
 have hbel:Below w.heap.size w ((w.alloc (.cells #[.int .i32 r,.int .i32 p0,.int .i32 p1,.int .i32 p2,.int .i32 p3,.int .u8 m.length,.int .u8 wd,.int .u32 af,.int .u32 ab,.int .u16 ag] 304)).alloc (.cells #[.int .i32 0,.slice none 0 0,.int .u8 0,.int .u32 0,.int .u32 0,.int .u16 0] 94)):=((Below.refl _ _).alloc (J5 _) _).alloc (by simp) _
 obtain ⟨k,hk⟩:∃ k,k=m.length:=⟨_,rfl⟩
 rw [<- hk] at hsl hm
 have hkk:=J0 hk
 replace hnums:=J0 hnums
 clear hp hmi hC hbx
 rw [<- hk] at hnums hb1 hr1 hbel |-
 clear hk
 replace hb1:=J0 hb1
 replace hr1:=J0 hr1
 replace hbel:=J0 hbel
 go_enter Tryz.func241,Tryz.ntmps241
 go_wp2_with (first
  |(with_reducible show wpList _ _ _ (⟨some 8,.call _,_,_,_,_⟩::_) _ _;go_must (refine wpList_appk elemI rfl (.const (.slice none 0 0)) (.tmp 7) rfl w.heap.size (.slice none 0 0) [] m k hkk.out (some ⟨w.heap.size,1,none⟩) (w.heap.size+2) 4 rfl rfl (Own.nil _ _ _ _) (by simpa using hnums.out _ hb1.out) (by simp;omega) (by simp;omega) (by simp [maxLen];omega) ?_);intro v2 w2 hown2 ho2 hat2;obtain ⟨a2,n2,c2,rfl⟩:=Bf7 hown2;have ho2':=Aw6 ho2;have hbx2:=hb1.out.only ho2' (by simp);have hr2:=hr1.out.only ho2' (by simp);have f0:=hbx2.cell 0 rfl;have f6:=hbx2.cell 6 rfl;have f7:=hbx2.cell 7 rfl;have f8:=hbx2.cell 8 rfl;have f9:=hbx2.cell 9 rfl)
  |(with_reducible show wpList _ _ _ (⟨none,.store _ (.tmp 2) _,_,_,_,_⟩::_) _ _;go_must (refine Ag1 rfl 94 (.tmp 2) (.tmp 16) rfl (g:=(w.heap.size+1)) (i:=0) hr2 (apiC ⟨r,m,wd,⟨af,ab,ag⟩⟩ (.slice a2 n2 c2)) rfl rfl (by simp [apiC,attV]) (Bf1 _ _) (Bb5 rfl) ?_);intro w3 hr3 ho3))
 have hn1:w.heap.size+1∉(Value.slice a2 n2 c2).ownBlock.toList:=fun hm=>by
  have:=Own.typ hown2 (by simpa using hm)
  exact absurd (Typ.inj this (Block.typ hr2)) (by decide)
 have hown3:=hown2.only ho3 (fun g hg hm=>hn1 (by simp at hm;subst hm;rw [hg];simp))
 rw [List.nil_append] at hown3
 have hb3:Block w3 (w.heap.size+1) 94 (apiC ⟨r,m,wd,⟨af,ab,ag⟩⟩ (.slice a2 n2 c2)).toArray:=by
  have:=hr3.out
  simpa [splice,apiC,attV] using this
 have hbel2:Below w.heap.size w w2:=hbel.out.trans (ho2'.nil.mono (by simp;omega))
 exact bodyPost_ret (v:=.agg (apiC ⟨r,m,wd,⟨af,ab,ag⟩⟩ (.slice a2 n2 c2)).toArray) (results_cell_row rfl _ _ (w.heap.size+1) 94 _ (0,0) _ rfl hb3 Tryz.underlying94 rfl (Bf1 _ _)) rfl ⟨_,rfl,Own.lower hown3 (by simp),hbel2.trans (ho3.below hbel2.size (by simp))⟩
