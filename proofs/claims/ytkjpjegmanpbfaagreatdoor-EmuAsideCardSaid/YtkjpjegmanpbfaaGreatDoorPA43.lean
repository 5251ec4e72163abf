/- Part 43 of the proof that the card of EmuAside holds. -/
import Derived.Test.YtkjpjegmanpbfaaGreatDoorPA42
set_option maxHeartbeats 16000000
set_option maxRecDepth 100000
namespace Go.Proofs.YtkjpjegmanpbfaaGreatDoor.Emu
open Go RowKit Com Rw Lns Scn
abbrev Az8:=Int×TRow
def As8 (p:Az8):List Value:=[.int .i64 p.1,.slice (some ⟨p.2.1,0,none⟩) p.2.2.length p.2.2.length]
theorem Ap2 (p:Az8):(As8 p).length=2:=rfl
theorem heldV_one (p:Az8):∀ v∈As8 p,v.oneCell'=true:=by
 intro v hv
 simp only [As8,List.mem_cons,List.not_mem_nil,or_false] at hv
 rcases hv with rfl|rfl<;>rfl
theorem elemHd:Au2 Tryz.prog 48 69 (.agg #[.int .i64 0,.slice none 0 0]) 2:=by
 have h:(Tryz.prog.info? 69).map (fun i=>(i.zero,i.size,decide (i.bytes<=100)))=some (some (.agg #[.int .i64 0,.slice none 0 0]),2,true):=by kernel_rfl
 refine ⟨Tryz.underlying48,?_,rfl,by omega⟩
 cases hq:Tryz.prog.info? 69 with
 |none=>simp [hq] at h
 |some i =>
  simp only [hq,Option.map_some,Option.some.injEq,Prod.mk.injEq,decide_eq_true_eq] at h
  exact ⟨i,rfl,h.1,h.2.1,h.2.2⟩
structure BackT (B:Nat) (w:World) (v:Value) (hs:List Az8):Prop where
 rows:w.ownsRow B 69 2 v hs.length (fl As8 hs)
 apis:∀ p∈hs,Api B w (.slice (some ⟨p.2.1,0,none⟩) p.2.2.length p.2.2.length) p.2.2
def lnOf (p:Az8):Ln:=(p.1,p.2.2.map (·.1))
section
variable {B:Nat} {w w' wa w2 wc:World} {v v2:Value} {hs:List Az8} {k:Nat} {R:List Ln}
theorem BackT.fr {B':Nat} {ts:List TypeId} (h:BackT B w v hs) (hf:Rw.Fr B' ts w w') (h1:69∉ts) (h3:64∉ts) (h4:21∉ts):BackT B w' v hs :=
 ⟨Ai6 h.rows hf h1,fun p hp=>(h.apis p hp).fr hf h3 h4⟩
theorem BackT.below (h:BackT B w v hs) (hb:Below w.heap.size w w'):BackT B w' v hs:=h.fr (Rw.Fr.of_below (B:=0) (ts:=[]) hb) (by simp) (by simp) (by simp)
structure BkSt (w wr:World) (R:List Ln) (k:Nat) (v:Value) (hs:List Az8):Prop where
 below:Below w.heap.size w wr
 back:BackT w.heap.size wr v hs
 len:hs.length=k
 got:hs.map lnOf=R.take k
theorem BkSt.on (h:BkSt w wa R k v hs) (hb:Below wa.heap.size wa w2):BkSt w w2 R k v hs:=⟨Aa0 h.below hb,h.back.below hb,h.len,h.got⟩
theorem BkSt.more (h:BkSt w wa R k v hs) {g2:Nat} {ps:List (Cel×Value)} (hk:k<R.length) (hbc:Below wa.heap.size wa wc) (hA:Api w.heap.size wc (.slice (some ⟨g2,0,none⟩) ps.length ps.length) ps) (hm:ps.map (·.1)=R[k].2)
  (hown:w2.ownsRow w.heap.size 69 2 v2 (k+1) (fl As8 hs++As8 (R[k].1,g2,ps))) (ho:Only v.ownBlock.toList wc w2):BkSt w w2 R (k+1) v2 (hs++[(R[k].1,g2,ps)]):=by
 have hc:=h.on hbc
 have ht:∀ g,v.ownBlock=some g->Typ wc g 69:=Ab8 hc.back.rows
 have hf:Rw.Fr 0 [69] wc w2:=Rw.Fr.of_only ho fun k hk _=>⟨Nat.zero_le _,_,by simp,ht k (by simpa using hk)⟩
 have hlow:∀ g,v.ownBlock=some g->w.heap.size<=g:=fun g hg=>(World.ownsRow.lt hc.back.rows g hg).1
 have hbl:Below w.heap.size w w2:=hc.below.trans (ho.below hc.below.size fun k hk=>hlow k (by simpa using hk))
 refine ⟨hbl,⟨?_,fun p hp=>?_⟩,by simp [h.len],?_⟩
 ·have e:(hs++[(R[k].1,g2,ps)]).length=k+1:=by simp [h.len]
  rw [e,fl_app,fl_one]
  exact hown
 ·rcases List.mem_append.1 hp with hp|hp
  ·exact (hc.back.apis p hp).fr hf (by decide) (by decide)
  ·obtain rfl:p=(R[k].1,g2,ps):=by simpa using hp
   exact hA.fr hf (by decide) (by decide)
 ·rw [List.map_append,h.got,Be8 hk]
  have e:lnOf (R[k].1,g2,ps)=R[k]:=by
   unfold lnOf
   simp only [hm]
  simp [e]
end
section
variable {Z Z1:Zn} {w w':World} {d t x s b:Nat} {T:Ter} {P:Pt} {S:Scr}
theorem TMx.stoR (h:TMx Z w t T P):∃ sv R,Sto Z w P.s T.nx T.most sv R/\vw R=T.R:=by
 have hs:=h.scr
 unfold Scrs at hs
 split at hs
 ·obtain ⟨sv,lv,L,R,h1,_,h3⟩:=hs
  exact ⟨sv,R,By4 h1,h3⟩
 ·obtain ⟨sv,R,l1,L1,l2,L2,h1,_,h3,_⟩:=hs
  exact ⟨sv,R,By4 h1,h3⟩
theorem sx_small {B s nx most:Nat} {sv:Value} {R:List En} (h:SX B w s nx most sv R):R.length<=10000:=by
 obtain ⟨⟨o,P,h0,rfl⟩,_⟩:=h
 rw [Bw3]
 exact Nat.le_trans h0.le h0.most
theorem new_held (w6:World) (id:Int) (g2:Nat) (ps:List (Cel×Value)):∀ j u,(As8 (id,g2,ps))[j]?=some u->((w6.alloc (.cells #[.int .i64 id,.slice (some ⟨g2,0,none⟩) ps.length ps.length] 69)).alloc (.cells #[.int .i64 id,.slice (some ⟨g2,0,none⟩) ps.length ps.length] 69)).cell? ((⟨w6.heap.size+1,0,none⟩:Addr).add j)=some u:=fun j u hj=>by
 have h:=Block.made (w6.alloc (.cells #[.int .i64 id,.slice (some ⟨g2,0,none⟩) ps.length ps.length] 69)) 69 #[.int .i64 id,.slice (some ⟨g2,0,none⟩) ps.length ps.length]
 rw [World.size_alloc] at h
 rw [Addr.add_lit,Nat.zero_add]
 exact h.cell j (by simpa [As8] using hj)
def Bh7 (w:World) (R:List Ln) (e:Ending) (w':World):Prop:=∃ v hs,e=.returned v/\BackT w.heap.size w' v hs/\hs.map lnOf=R/\Below w.heap.size w w'
def AtLn (w:World) (l:Ln) (e:Ending) (w':World):Prop:=∃ g2 ps,e=.returned (.tuple #[.agg #[.int .i64 l.1,.slice (some ⟨g2,0,none⟩) ps.length ps.length],.int .i64 0])/\Api w.heap.size w' (.slice (some ⟨g2,0,none⟩) ps.length ps.length) ps/\ps.map (·.1)=l.2/\Below w.heap.size w w'
theorem at_ln {B nx most:Nat} {sv:Value} {R:List En} (h:SX B w s nx most sv R) (k:Nat) (hk:k<(vw R).length):Calls Tryz.prog 48 #[.pointer (some ⟨s,0,none⟩),.int .i64 k] w (AtLn w (vw R)[k]):=by
 have hk':k<R.length:=by rwa [Ao5] at hk
 refine (at_yes h k hk').mono ?_
 rintro e w' ⟨g2,ps,rfl,hA,hm,hb,_⟩
 have e1:(vw R)[k]=(R[k].id,R[k].l):=by simp [vw]
 have e2:R[k].l.length=ps.length:=by rw [<- hm,List.length_map]
 rw [e1]
 rw [e2] at hA |-
 exact ⟨g2,ps,rfl,hA,hm,hb⟩
theorem back_any (h:TMx Z w t T P):Calls Tryz.prog 29 #[.pointer (some ⟨t,0,none⟩)] w (Bh7 w T.R):=by
 obtain ⟨sv,R,hs,hR⟩:=h.stoR
 have hl5:=sx_small hs.st
 have hlen:=J0 (slen_any hs.st)
 have hat:=J0 (fun w1 (hb:Below w.heap.size w w1) k hk=>at_ln (hs.st.below hb) k hk)
 have hst:=J0 (fun w1 (hb:Below w.heap.size w w1)=>(h.below hb).c17)
 have c17:=h.c17
 rw [<- Ao5,hR] at hl5
 rw [<- Ao5] at hlen
 rw [hR] at hlen hat
 have hgoal:Hid (∀ v hs w1,BkSt w w1 T.R T.R.length v hs->Bh7 w T.R (.returned v) w1):=J0 fun v hs w1 g=>⟨v,hs,rfl,g.back,by rw [g.got,List.take_length],g.below⟩
 have hst0:Hid (BkSt w w T.R 0 (.slice none 0 0) []):=J0 ⟨Below.refl _ _,⟨World.ownsRow_nil _ _ _ _,fun p hp=>(by cases hp)⟩,rfl,rfl⟩
 generalize T.R=L at *
 generalize hn:L.length=n at hl5 hlen hgoal
 replace hn:=J0 hn
 generalize P.s=s at *
 clear h hs hR
 go_enter Tryz.func29,Tryz.ntmps29
 go_wp2_with ((go_at_call 47;(with_reducible refine (hlen.out).mono ?_);rintro e w1 ⟨rfl,rfl⟩))
 clear hlen c17
 go_loopw [3,12] (fun v i wr=>∃ (k:Nat) (hs:List Az8),k<=n/\i=.int .i64 k/\Hid (BkSt w wr L k v hs)) (fun _ i _=>n - (intOf i).toNat)
 case atStart=>exact ⟨0,[],Nat.zero_le _,rfl,hst0⟩
 case round =>
  obtain ⟨k,hs,hk,rfl,hR⟩:=hrel
  clear hst0
  by_cases hlt:k<n
  ·have hkL:k<L.length:=by rw [hn.out];exact hlt
   have hkI:(k:Int)<(n:Int):=by omega
   have hbr:=J0 (fun w2 (hb:Below wr.heap.size wr w2)=>Aa0 hR.out.below hb)
   have hown0:=hR.out.back.rows
   rw [hR.out.len] at hown0
   replace hown0:=J0 hown0
   have c17:=hst.out _ hR.out.below
   obtain ⟨av,cvp,hvs,_,_⟩:=Ac0 hown0.out
   subst hvs
   go_wp2_with (first
    |(go_at_call 48;(with_reducible refine (hat.out _ hR.out.below k hkL).mono ?_);rintro e w6 ⟨g2,ps,rfl,hA,hmap,hb6⟩);(have hbz:=J0 (hb6.trans ((Aa1 w6 (.cells #[.int .i64 L[k].1,.slice (some ⟨g2,0,none⟩) ps.length ps.length] 69)).mono hb6.size));have hbz2:=J0 (Aa0 hbz.out (Aa1 _ (.cells #[.int .i64 L[k].1,.slice (some ⟨g2,0,none⟩) ps.length ps.length] 69)));have hownA:=J0 (Ac8 hown0.out (Only.of_below hbz2.out []) (by simp)))
    |(with_reducible show wpList _ _ _ (⟨some 27,.call _,_,_,_,_⟩::_) _ _;go_must (refine Au0 elemHd rfl (.tmp 24) (.tmp 26) rfl w.heap.size (.slice av k cvp) k (fl As8 hs) ⟨w6.heap.size+1,0,none⟩ 1 1 (As8 (L[k].1,g2,ps)) rfl rfl hownA.out rfl (new_held w6 L[k].1 g2 ps) (heldV_one _) (hbr.out _ hbz2.out).size (by omega) ?_);intro v2 w7 hown2 ho2 _))
   have hA3:=((hA.lower (B':=w.heap.size) hR.out.below.size).below (Aa1 w6 (.cells #[.int .i64 L[k].1,.slice (some ⟨g2,0,none⟩) ps.length ps.length] 69))).below (Aa1 _ (.cells #[.int .i64 L[k].1,.slice (some ⟨g2,0,none⟩) ps.length ps.length] 69))
   have hR2:=J0 (hR.out.more hkL hbz2.out hA3 hmap hown2 ho2)
   clear hown2 ho2 hown0 hA3 hownA hbz hbz2
   go_roundw
   case rel=>exact ⟨k+1,_,by omega,by go_num,hR2⟩
   case measure=>simp [intOf];omega
  ·obtain rfl:k=n:=by omega
   have hres:=J0 (hgoal.out _ _ _ hR.out)
   clear hgoal hR
   go_wp2
   go_ret
   exact hres.out
end
section
variable {Z:Zn} {w w':World} {d t:Nat} {T:Ter} {P:Pt} {B:Nat} {cv iv:Value} {rs:List TRow}
theorem GridT.lower {B':Nat} (h:GridT B w T cv iv rs) (hB:B'<=B):GridT B' w T cv iv rs:=⟨h.rws.lower hB,h.len,h.got⟩
theorem GridT.fr {B':Nat} {ts:List TypeId} (h:GridT B w T cv iv rs) (hf:Rw.Fr B' ts w w') (h1:62∉ts) (h2:3∉ts) (h3:64∉ts) (h4:21∉ts):GridT B w' T cv iv rs:=⟨h.rws.fr hf h1 h2 h3 h4,h.len,h.got⟩
theorem GridT.below (h:GridT B w T cv iv rs) (hb:Below w.heap.size w w'):GridT B w' T cv iv rs:=⟨h.rws.below hb,h.len,h.got⟩
theorem GridT.one (h:GridT B w T cv iv rs):(Ah6 cv iv (gridG T)).all (·.oneCell')=true:=by
 obtain ⟨a,c,rfl,_⟩:=Ac0 h.rws.rows
 obtain ⟨a2,c2,rfl,_⟩:=h.rws.ids.shape
 simp [Ah6,gridG,Value.oneCell']
theorem gridA_info (cv iv:Value) (T:Ter):(Tryz.prog.info? 43).map (·.size)=some (Ah6 cv iv (gridG T)).size:=by kernel_rfl
theorem Bq8 (h:TV Z w d t T) (ok:Ok T):Calls Tryz.prog 12 #[.pointer (some ⟨d,0,none⟩)] w (Bh9 w T):=by
 have hbn:=Aa1 w (.cells #[.slice none 0 0,.slice none 0 0,.int .i64 0,.int .i64 0,.bool false,.bool false,.bool false,.int .i64 0,.int .i64 0,.int .u32 0,.int .u32 0,.int .u16 0] 43)
 have hbx:=Block.made w 43 #[.slice none 0 0,.slice none 0 0,.int .i64 0,.int .i64 0,.bool false,.bool false,.bool false,.int .i64 0,.int .i64 0,.int .u32 0,.int .u32 0,.int .u16 0]
 have hlt:=hbx.lt
 replace h:=h.below hbn
 generalize hw0:w.alloc (.cells #[.slice none 0 0,.slice none 0 0,.int .i64 0,.int .i64 0,.bool false,.bool false,.bool false,.int .i64 0,.int .i64 0,.int .u32 0,.int .u32 0,.int .u16 0] 43)=w0 at h hbn hbx hlt
 have hm:=J0 (Ah3 h)
 have cd:=h.blk.cell 0 (v:=.pointer (some ⟨t,0,none⟩)) rfl
 obtain ⟨P,hT⟩:=h.tm
 have hg:=J0 (grid_any hT ok)
 have hbx1:=J0 (fun w1 (hb:Below w0.heap.size w0 w1)=>(Block.only hbx (Only.of_below hb []) (by simp):Block w1 w.heap.size 43 _))
 clear h hT ok
 go_enter Tryz.func12,Tryz.ntmps12
 go_wp2_with (first
  |(go_at_call 24;(with_reducible refine (hm.out).mono ?_);rintro e w1 ⟨rfl,rfl⟩)
  |(go_at_call 28;(with_reducible refine (hg.out).mono ?_);rintro e w1 ⟨cv,iv,rs,rfl,hG,hb1⟩);have hbx2:=hbx1.out _ hb1;have hone:=hG.one;have hinf:=gridA_info cv iv T
  |(with_reducible show wpList _ _ _ (⟨none,.store _ (.tmp 2) _,_,_,_,_⟩::_) _ _;go_must (refine Aa5 rfl _ (.tmp 2) (.tmp 11) rfl hbx2 (Ah6 cv iv (gridG T)) rfl rfl hinf (Bf6 hinf) hone ?_);intro w8 hb8 ho8))
 have hfr:Rw.Fr 0 [43] w1 w8:=Rw.Fr.of_only ho8 fun k hk _=>by
  obtain rfl:k=w.heap.size:=by simpa using hk
  exact ⟨Nat.zero_le _,_,by simp,Block.typ hbx2⟩
 have hb2:Below w.heap.size w w1:=Aa0 hbn hb1
 exact bodyPost_ret (results_cell_row rfl _ _ _ _ _ _ _ rfl hb8 Tryz.underlying43 rfl hinf) rfl ⟨cv,iv,rs,rfl,(hG.lower (by omega)).fr hfr (by decide) (by decide) (by decide) (by decide),hb2.trans (ho8.below hb2.size fun k hk=>by obtain rfl:k=w.heap.size:=(by simpa using hk);exact J5 _)⟩
theorem tback_any (h:TV Z w d t T):Calls Tryz.prog 14 #[.pointer (some ⟨d,0,none⟩)] w (Bh7 w T.R):=by
 have hm:=J0 (Ah3 h)
 have cd:=h.blk.cell 0 (v:=.pointer (some ⟨t,0,none⟩)) rfl
 obtain ⟨P,hT⟩:=h.tm
 have hg:=J0 (back_any hT)
 generalize T.R=R at hg |-
 clear h hT
 go_enter Tryz.func14,Tryz.ntmps14
 go_wp2_with (first
  |(go_at_call 24;(with_reducible refine (hm.out).mono ?_);rintro e w1 ⟨rfl,rfl⟩)
  |(go_at_call 29;(with_reducible refine (hg.out).mono ?_);rintro e w1 ⟨v,hs,rfl,hB,hL,hb1⟩))
 have hres:Bh7 w R (.returned v) w1:=⟨v,hs,rfl,hB,hL,hb1⟩
 obtain ⟨av,cvp,rfl,_⟩:=Ac0 hB.rows
 replace hres:=J0 hres
 clear hB hL
 go_wp2
 go_ret
 exact hres.out
end
def Ak6 (s:ByteArray):List Int:=s.data.toList.map fun b=>(b.toNat:Int)
theorem charsT_len (s:ByteArray):(Ak6 s).length=s.size:=by
 unfold Ak6
 rw [List.length_map,Array.length_toList]
 rfl
theorem charsT_at (s:ByteArray) {k:Nat} (h:k<s.size):(Ak6 s)[k]?=some ((s[k]'h).toNat:Int):=by
 have h':k<s.data.toList.length:=h
 unfold Ak6
 rw [List.getElem?_map,List.getElem?_eq_getElem h']
 rfl
theorem charsT_take (s:ByteArray) {k:Nat} (h:k<s.size):(Ak6 s).take (k+1)=(Ak6 s).take k++[((s[k]'h).toNat:Int)]:=by
 rw [List.take_add_one,charsT_at s h]
 rfl
def prV (r:Int):List Value:=[.int .u8 1,.int .i32 r,.int .i32 0,.slice none 0 0,.slice none 0 0,.int .i32 0,.slice none 0 0]
theorem prV_length (r:Int):(prV r).length=7:=rfl
theorem prV_one (r:Int):∀ v∈prV r,v.oneCell'=true:=by
 intro v hv
 simp only [prV,List.mem_cons,List.not_mem_nil,or_false] at hv
 rcases hv with rfl|rfl|rfl|rfl|rfl|rfl|rfl<;>rfl
theorem elemAc:Au2 Tryz.prog 72 25 (.agg #[.int .u8 0,.int .i32 0,.int .i32 0,.slice none 0 0,.slice none 0 0,.int .i32 0,.slice none 0 0]) 7:=by
 have h:(Tryz.prog.info? 25).map (fun i=>(i.zero,i.size,decide (i.bytes<=100)))=some (some (.agg #[.int .u8 0,.int .i32 0,.int .i32 0,.slice none 0 0,.slice none 0 0,.int .i32 0,.slice none 0 0]),7,true):=by kernel_rfl
 refine ⟨Tryz.underlying72,?_,rfl,by omega⟩
 cases hq:Tryz.prog.info? 25 with
 |none=>simp [hq] at h
 |some i =>
  simp only [hq,Option.map_some,Option.some.injEq,Prod.mk.injEq,decide_eq_true_eq] at h
  exact ⟨i,rfl,h.1,h.2.1,h.2.2⟩
structure TxSt (w wr:World) (b:Nat) (s:ByteArray) (k:Nat) (v:Value):Prop where
 it:wr.heap[b]?=some (.stringIter s k)
 rows:wr.ownsRow w.heap.size 25 7 v k (fl prV ((Ak6 s).take k))
 below:Below w.heap.size w wr
 hb:w.heap.size<=b
def Ci0 (w:World) (s:ByteArray) (e:Ending) (w':World):Prop:=∃ v,e=.returned v/\w'.ownsRow w.heap.size 25 7 v s.size (fl prV (Ak6 s))/\Below w.heap.size w w'
theorem TxSt.more {w wr w1 w2:World} {b k:Nat} {s:ByteArray} {v v2:Value} (h:TxSt w wr b s k v) (hk:k<s.size) (hit1:w1.heap[b]?=some (.stringIter s (k+1))) (ho1:Only [b] wr w1) {o:Obj}
  (hown:w2.ownsRow w.heap.size 25 7 v2 (k+1) (fl prV ((Ak6 s).take k)++prV ((s[k]'hk).toNat:Int))) (ho:Only v.ownBlock.toList (w1.alloc o) w2):TxSt w w2 b s (k+1) v2:=by
 have hlt:=Ah4 hit1
 have hbl1:Below w.heap.size w w1:=h.below.trans (ho1.below h.below.size fun g hg=>by obtain rfl:g=b:=(by simpa using hg);exact h.hb)
 have hbl2:Below w.heap.size w (w1.alloc o):=hbl1.trans ((Aa1 w1 o).mono hbl1.size)
 have hit2:(w1.alloc o).heap[b]?=some (.stringIter s (k+1)):=((Aa1 w1 o).block b hlt).trans hit1
 have hlow:∀ g,v.ownBlock=some g->w.heap.size<=g:=fun g hg=>(World.ownsRow.lt h.rows g hg).1
 have hne:b∉v.ownBlock.toList:=fun hm=>by
  obtain ⟨cs,fz,e⟩:=Ab8 h.rows b (by simpa using hm)
  have:=h.it
  rw [e] at this
  cases this
 refine ⟨(ho.block b (Ah4 hit2) hne).trans hit2,?_,hbl2.trans (ho.below hbl2.size fun g hg=>hlow g (by simpa using hg)),h.hb⟩
 rw [charsT_take s hk,fl_app,fl_one]
 exact hown
theorem Bz0 (s:ByteArray) (hs:∀ k (h:k<s.size),(s[k]'h).toNat<128) (hl:s.size<=1000) (w:World):Calls Tryz.prog 22 #[.string s] w (Ci0 w s):=by
 go_enter Tryz.func22,Tryz.ntmps22
 go_wp2_with fail
 have hat:TxSt w (w.alloc (.stringIter s 0)) w.heap.size s 0 (.slice none 0 0):=⟨heap_alloc_new w _,World.ownsRow_nil _ _ _ _,Aa1 w _,J5 _⟩
 generalize w.heap.size=b at hat |-
 change TxSt w (w.iter s 0) b s 0 (.slice none 0 0) at hat
 generalize w.iter s 0=w0 at hat |-
 replace hs:=J0 hs
 go_loopw [3] (fun sv wr=>∃ (k:Nat) (v:Value),k<=s.size/\v=sv/\TxSt w wr b s k v) (fun _ w=>s.size - w.iterPos b)
 case atStart=>exact ⟨0,_,Nat.zero_le _,rfl,hat⟩
 case round =>
  clear hat
  obtain ⟨k,v,hk,rfl,hat⟩:=hrel
  have hpos:wr.iterPos b=k:=by simp [World.iterPos,hat.it]
  by_cases hlt:k<s.size
  ·obtain ⟨w1,hnx,hit1,ho1⟩:=next_step (P:=Tryz.prog) hat.it hlt (hs.out k hlt)
   have hmore:=J0 (fun w2 v2 o=>hat.more (w2:=w2) (v2:=v2) (o:=o) hlt hit1 ho1)
   have hbl1:Below w.heap.size w w1:=hat.below.trans (ho1.below hat.below.size fun g hg=>by obtain rfl:g=b:=(by simpa using hg);exact hat.hb)
   have hne:b∉v.ownBlock.toList:=fun hm=>by
    obtain ⟨cs,fz,e⟩:=Ab8 hat.rows b (by simpa using hm)
    have:=hat.it
    rw [e] at this
    cases this
   have hown1:=Ac8 hat.rows ho1 (fun g hg=>by intro hm;obtain rfl:g=b:=(by simpa using hm);exact hne (by simpa using hg))
   obtain ⟨av,cvp,hvs,_,_⟩:=Ac0 hat.rows
   subst hvs
   generalize ((s[k]'hlt).toNat:Int)=c at hnx hmore
   have hownA:=J0 (Ac8 hown1 (Only.of_below (Aa1 w1 (.cells #[.int .u8 1,.int .i32 c,.int .i32 0,.slice none 0 0,.slice none 0 0,.int .i32 0,.slice none 0 0] 25)) []) (by simp))
   have hBs:=Nat.le_trans hbl1.size (Aa1 w1 (.cells #[.int .u8 1,.int .i32 c,.int .i32 0,.slice none 0 0,.slice none 0 0,.int .i32 0,.slice none 0 0] 25)).size
   replace hpos:=J0 hpos
   clear hat hit1 ho1 hown1 hbl1 hne
   go_wp2_with ((with_reducible show wpList _ _ _ (⟨some 15,.call _,_,_,_,_⟩::_) _ _;go_must (refine Au0 elemAc rfl (.tmp 11) (.tmp 14) rfl w.heap.size (.slice av k cvp) k (fl prV ((Ak6 s).take k)) ⟨w1.heap.size,0,none⟩ 1 1 (prV c) rfl rfl hownA.out rfl (fun j u hj=>by rw [Addr.add_lit,Nat.zero_add];exact (Block.made w1 25 #[.int .u8 1,.int .i32 c,.int .i32 0,.slice none 0 0,.slice none 0 0,.int .i32 0,.slice none 0 0]).cell j (by simpa [prV] using hj)) (prV_one _) hBs (by omega) ?_);intro v2 w7 hown2 ho2 _))
   have hat2:=hmore.out _ _ _ hown2 ho2
   have hpos3:w7.iterPos b=k+1:=by simp [World.iterPos,hat2.it]
   replace hat2:=J0 hat2
   clear hown2 ho2 hownA hnx hBs hmore
   go_roundw
   case rel=>exact ⟨k+1,_,by omega,rfl,hat2.out⟩
   case measure=>rw [hpos3,hpos.out];omega
  ·have hnx:=next_end (P:=Tryz.prog) hat.it hlt
   obtain rfl:k=s.size:=by omega
   have e:(Ak6 s).take s.size=Ak6 s:=List.take_of_length_le (by rw [charsT_len];exact J5 _)
   obtain ⟨av,cvp,hvs,_,_⟩:=Ac0 hat.rows
   subst hvs
   have hres:Ci0 w s (.returned (.slice av s.size cvp)) wr:=⟨_,rfl,e▸hat.rows,hat.below⟩
   replace hres:=J0 hres
   clear hat e hpos
   go_wp2_with fail
   go_ret
   exact hres.out
section
variable {w w':World} {pa ia ta:Option Addr} {pn pc im ic tn tc:Nat} {k r pr f:Int}
theorem csi_any (f:Int) (a:Option Addr) (n c:Nat) (w:World):Calls Tryz.prog 23 #[.int .i32 f,.slice a n c] w fun e w'=>e=.returned (.agg #[.int .u8 4,.int .i32 0,.int .i32 0,.slice a n c,.slice none 0 0,.int .i32 f,.slice none 0 0])/\Below w.heap.size w w':=by
 have hbn:=Aa1 w (.cells #[.int .u8 0,.int .i32 0,.int .i32 0,.slice none 0 0,.slice none 0 0,.int .i32 0,.slice none 0 0] 25)
 have hbx:=Block.made w 25 #[.int .u8 0,.int .i32 0,.int .i32 0,.slice none 0 0,.slice none 0 0,.int .i32 0,.slice none 0 0]
 have hinf:(Tryz.prog.info? 25).map (·.size)=some (#[.int .u8 4,.int .i32 0,.int .i32 0,.slice a n c,.slice none 0 0,.int .i32 f,.slice none 0 0]:Array Value).size:=by kernel_rfl
 go_enter Tryz.func23,Tryz.ntmps23
 go_wp2_with ((with_reducible show wpList _ _ _ (⟨none,.store _ (.tmp 4) _,_,_,_,_⟩::_) _ _;go_must (refine Aa5 rfl _ (.tmp 4) (.tmp 7) rfl hbx #[.int .u8 4,.int .i32 0,.int .i32 0,.slice a n c,.slice none 0 0,.int .i32 f,.slice none 0 0] rfl rfl hinf rfl (by simp [Value.oneCell']) ?_);intro w8 hb8 ho8))
 exact bodyPost_ret (results_cell_row rfl _ _ _ _ _ _ _ rfl hb8 Tryz.underlying25 rfl hinf) rfl ⟨rfl,hbn.trans (ho8.below hbn.size (by simp))⟩
def Bc5 (pn im tn:Nat):Bool:=decide (40<pn) || (decide (10<im) || decide (2000<tn))
theorem great_any (w:World):Calls Tryz.prog 7 #[.agg #[.int .u8 k,.int .i32 r,.int .i32 pr,.slice pa pn pc,.slice ia im ic,.int .i32 f,.slice ta tn tc]] w fun e w'=>e=.returned (.bool (Bc5 pn im tn))/\Below w.heap.size w w':=by
 have hbn:=Aa1 w (.cells #[.int .u8 k,.int .i32 r,.int .i32 pr,.slice pa pn pc,.slice ia im ic,.int .i32 f,.slice ta tn tc] 25)
 unfold Bc5
 by_cases h1:40<pn
 ·have d1:decide ((40:Int)<(pn:Int))=true:=decide_eq_true (by omega)
  rw [decide_eq_true h1]
  go_enter Tryz.func7,Tryz.ntmps7
  go_wp2
  go_ret
  exact ⟨rfl,hbn⟩
 have d1:decide ((40:Int)<(pn:Int))=false:=decide_eq_false (by omega)
 rw [decide_eq_false h1]
 by_cases h2:10<im
 ·have d2:decide ((10:Int)<(im:Int))=true:=decide_eq_true (by omega)
  rw [decide_eq_true h2]
  go_enter Tryz.func7,Tryz.ntmps7
  go_wp2
  go_ret
  exact ⟨rfl,hbn⟩
 have d2:decide ((10:Int)<(im:Int))=false:=decide_eq_false (by omega)
 rw [decide_eq_false h2]
 by_cases h3:2000<tn
 ·have d3:decide ((2000:Int)<(tn:Int))=true:=decide_eq_true (by omega)
  rw [decide_eq_true h3]
  go_enter Tryz.func7,Tryz.ntmps7
  go_wp2
  go_ret
  exact ⟨rfl,hbn⟩
 have d3:decide ((2000:Int)<(tn:Int))=false:=decide_eq_false (by omega)
 rw [decide_eq_false h3]
 go_enter Tryz.func7,Tryz.ntmps7
 go_wp2
 go_ret
 exact ⟨rfl,hbn⟩
end
