/- Part 44 of the proof that the card of HostNone holds. -/
import Derived.Test.YtbafmljidapmgaaGreatDoorN43
set_option maxHeartbeats 16000000
set_option maxRecDepth 100000
namespace Go.Proofs.YtbafmljidapmgaaGreatDoor.Prs
open Go RowKit Com Par
section
variable {w w1 w2 w3 w4:World} {B d:Nat} {v u x z:Value} {S S':PS} {As Bs:List Act}
theorem ParIn.turn (h:ParIn w B d v S) (hb:PBlk w1 d S' v) (ho:Only [d] w w1) (ht:S'.text=S.text):ParIn w1 B d v S' :=
 ⟨hb,by rw [ht];exact h.own.only ho (fun g hg hm=>h.apart (by simp at hm;rw [hg,hm])),h.low⟩
theorem FedU.after (h:FedU w1 B d v S' As x u w2) (ho:Only [d] w w1):FedU w B d v S' As x u w2:=by
 have hs:=ho.size
 refine ⟨h.par,?_,(h.acts.lower hs).mono (fun g _ hk=>⟨?_,hk.text,hk.block⟩),(ho.mono (by simp)).trans h.only⟩
 ·rcases h.lies with e|e|⟨g,e,hg⟩
  ·exact .inl e
  ·exact .inr (.inl e)
  ·exact .inr (.inr ⟨g,e,by omega⟩)
 ·rcases hk.from_ with e|e
  ·exact .inl (by omega)
  ·exact .inr e
theorem FedU.app (h:FedU w B d v S' As x u w1) (o1:Only [] w1 w3) {ok2:Nat->Prop} (hok:∀ g,ok2 g->w1.heap.size<=g)
  (hz:ActsIn w4 w.heap.size (fun b=>Mine w.heap.size d v u b\/ok2 b) z (As++Bs)) (o2:Only x.ownBlock.toList w3 w4):FedU w B d v S' (As++Bs) z u w4:=by
 have hs:=h.only.size
 have hdlt:=h.par.blk.lt
 have hul:=h.par.own.lt
 have hxl:=h.acts.row
 have hxd:=h.acts.apart_blk h.par.blk.blk (by decide)
 have hxu:=h.acts.apart_row h.par.own (by decide)
 refine ⟨(h.par.only o1 (by simp) (by simp)).only o2 (fun hm=>hxd (by simpa using hm)) (fun g hg hm=>hxu g (by simpa using hm) hg),h.lies,hz.mono (fun g _ hk=>hk.elim id (fun hk=>?_)),?_⟩
 ·have:=hok g hk
  exact ⟨.inl (by omega),fun e=>by have:=(hul g e).2;omega,by omega⟩
 ·exact (h.only.trans (o1.mono (by simp))).then o2 (fun k hk=>.inr (hxl k (by simpa using hk)).1)
theorem FedU.apartx (h:FedU w B d v S' As x u w1) {ok2:Nat->Prop} (hok:∀ g,ok2 g->w1.heap.size<=g):∀ b,x.ownBlock=some b->¬ ok2 b:=fun b hb hk=>by
 have:=(h.acts.row b hb).2
 have:=hok b hk
 omega
theorem FedU.shape (h:FedU w B d v S' As x u w1):∃ ao n c,x=.slice ao n c:=by
 obtain ⟨ao,c,e,_⟩:=h.acts.shape
 exact ⟨ao,_,c,e⟩
theorem ActsIn.slice {ok:Nat->Prop} (h:ActsIn w B ok x As):∃ ao n c,x=.slice ao n c:=by
 obtain ⟨ao,c,e,_⟩:=h.shape
 exact ⟨ao,_,c,e⟩
theorem Bt6 (hd:ParIn w B d v S) (h:ActsIn w1 w.heap.size (w.heap.size<=·) x As) (hb:Below w.heap.size w w1):FedU w B d v S As x v w1:=by
 have hlt:=hd.blk.lt
 have hul:=hd.own.lt
 exact ⟨hd.new hb,.inl rfl,h.mono (fun g _ hk=>⟨.inl hk,fun e=>by have:=(hul g e).2;omega,by omega⟩),Only.of_below hb _⟩
theorem An6 (hd:ParIn w B d v S):Fed w B d v ([],S) (.returned (.slice none 0 0)) w :=
 ⟨_,v,rfl,Bt6 hd (ActsIn.nil _ _ _) (Below.refl _ _)⟩
end
theorem Ba2 (S:PS) (v:Value) (hL:S.sq.num.n.length<=32) (r:Int) (B d:Nat) (w:World) (hd:ParIn w B d v S) :
  Calls Tryz.prog 195 #[.pointer (some ⟨d,0,none⟩),.int .i32 r] w (Fed w B d v (execLeadF S r)):=by
 have hlead:=J0 (Ac5 S v hL 0 B d w hd)
 have hlen:=Av9 S
 go_enter Tryz.func195,Tryz.ntmps195
 go_wp2_with fail
 refine hlead.out.mono ?_
 rintro e w1 ⟨x,u,rfl,hf⟩
 simp only [leadF] at hf
 obtain ⟨ax,nx,cx,rfl⟩:=hf.shape
 go_wp2_with fail
 refine (Bw5 r w1).mono ?_
 rintro e w2 ⟨rfl,hb2⟩
 have hf':=J0 hf
 clear hlead hf
 go_wp2_with (with_reducible show wpList _ _ _ (⟨some 10,.call _,_,_,_,_⟩::_) _ _;go_must (refine Au1 (x:=.slice ax nx cx) (ok2:=fun _=>False) rfl (.tmp 6) (.tmp 9) rfl rfl rfl (hf'.out.acts.only ((Only.of_below hb2 []).trans (Only.alloc [] w2 _)) (by simp) (by simp)) (Am8 w2 w2.heap.size (J5 _) _ _ _ (Bk6 w2 _ 2 r 0 0)) (fun _ _ h=>h) (by have:=hf'.out.only.size;have:=hb2.size;simp;omega) (by simp;omega) ?_);go_must (intro z w4 hz ho4 hat;obtain ⟨az,nz,cz,rfl⟩:=hz.slice))
 go_ret
 exact ⟨_,u,rfl,hf'.out.app (Bs:=[execA r]) ((Only.of_below hb2 []).trans (Only.alloc [] w2 _)) (ok2:=fun _=>False) (fun _ h=>h.elim) hz ho4⟩
theorem Bh8 (S:PS) (v:Value) (hL:S.sq.num.n.length<=32) (hc:S.sq.cnt<=2) (kind r s:Int) (B d:Nat) (w:World) (hd:ParIn w B d v S) :
  Calls Tryz.prog 299 #[.pointer (some ⟨d,0,none⟩),.int .u8 kind,.int .i32 r,.int .u8 s] w (Fed w B d v (finishF S kind r s)):=by
 have hlead:=J0 (Ac5 S v hL s B d w.drew (hd.only (Ab2 [] w) (by simp) (by simp)))
 have hlen:=Av9 S
 have hlen2:=Bv7 (leadS S s).sq kind r
 have hok:(leadS S s).sq.num.n.length<=32/\(leadS S s).sq.cnt<=2:=by
  unfold leadS
  simp only
  split
  ·exact ⟨by simp [emptySq,empty],by simp [emptySq]⟩
  ·exact ⟨hL,hc⟩
 have hacts:=J0 (fun u w1 (h:PBlk w1 d (leadS S s) u)=>seqActs_any (leadS S s) u hok.1 hok.2 kind r d w1 h)
 clear hok
 go_enter Tryz.func299,Tryz.ntmps299
 go_wp2_with fail
 go_region_held3 (fun _=>True) (exact trivial) (first
  |(go_at_call 196;refine hlead.out.mono ?_;rintro e w1 ⟨x,u,rfl,hf⟩;simp only [leadF] at hf;obtain ⟨ax,nx,cx,rfl⟩:=hf.shape;have hf':=J0 hf;clear hf)
  |(go_at_call 360;refine (hacts.out u _ hf'.out.par.blk).mono ?_;rintro e w2 ⟨y,rfl,hy,hb2⟩;obtain ⟨ay,ny,cy,rfl⟩:=hy.slice;have hy':=J0 hy;clear hy)
  |(refine step_acts (x:=.slice ax nx cx) (ok2:=(w1.heap.size<=·)) rfl (.tmp 11) (.tmp 17) rfl rfl rfl (hf'.out.acts.only (Only.of_below hb2 []) (by simp) (by simp)) hy'.out (hf'.out.apartx (fun _ h=>h)) (by have:=hf'.out.only.size;have:=hb2.size;omega) (by omega) ?_;intro z w4 hz ho4 hat;obtain ⟨az,nz,cz,rfl⟩:=hz.slice))
 go_wp2
 go_ret
 exact ⟨_,u,rfl,(hf'.out.app (Bs:=(leadS S s).sq.acts kind r) (Only.of_below hb2 []) (ok2:=(w1.heap.size<=·)) (fun _ h=>h) hz ho4).after (Ab2 _ _)⟩
theorem take_len {S:PS} (h:S.sq.num.n.length<=32) (r:Int):(S.take r).sq.num.n.length<=32:=by
 show (S.sq.put r).num.n.length<=32
 rw [(Sq.put_pr S.sq r).2]
 exact h
theorem Aq4 (S:PS) (v:Value) (d:Nat) (w:World) (hd:PBlk w d S v) :
  Calls Tryz.prog 300 #[.pointer (some ⟨d,0,none⟩)] w fun e w'=>e=.returned (.agg #[.int .u8 (Ag3 S.st),.int .u8 (Al2 S.st),.int .u8 (Ah7 S.st),.int .u8 (cEnd S.st),.int .u8 (cAct S.st)])/\Below w.heap.size w w':=by
 have h0:=hd.c0
 have hlt:=hd.lt
 clear hd
 generalize S.st=s at h0
 by_cases hs:s=7\/s=8\/s=9
 ·have hE:Hid (Ag3 s=8/\Al2 s=9/\Ah7 s=11/\cEnd s=10/\cAct s=6):=by
   have:dcsB s=true:=by simpa [dcsB] using hs
   unfold Ag3 Al2 Ah7 cEnd cAct
   rw [this]
   exact ⟨rfl,rfl,rfl,rfl,rfl⟩
  rcases hs with rfl|rfl|rfl
  all_goals
   go_enter Tryz.func300,Tryz.ntmps300
   go_wp2
   obtain ⟨e1,e2,e3,e4,e5⟩:=hE.out
   rw [e1,e2,e3,e4,e5]
   exact bodyPost_ret (v:=.agg #[.int .u8 8,.int .u8 9,.int .u8 11,.int .u8 10,.int .u8 6]) (by simp [results,Tryz.results300,go_sem]) rfl ⟨rfl,Aa1 _ _⟩
 ·have hE:Hid (Ag3 s=4/\Al2 s=5/\Ah7 s=6/\cEnd s=0/\cAct s=4):=by
   have:¬ dcsB s=true:=by simpa [dcsB] using hs
   unfold Ag3 Al2 Ah7 cEnd cAct
   rw [if_neg this,if_neg this,if_neg this,if_neg this,if_neg this]
   exact ⟨rfl,rfl,rfl,rfl,rfl⟩
  have q7:(s == 7)=false:=by simp;omega
  have q8:(s == 8)=false:=by simp;omega
  have q9:(s == 9)=false:=by simp;omega
  clear hs
  go_enter Tryz.func300,Tryz.ntmps300
  go_wp2
  obtain ⟨e1,e2,e3,e4,e5⟩:=hE.out
  rw [e1,e2,e3,e4,e5]
  exact bodyPost_ret (v:=.agg #[.int .u8 4,.int .u8 5,.int .u8 6,.int .u8 0,.int .u8 4]) (by simp [results,Tryz.results300,go_sem]) rfl ⟨rfl,Aa1 _ _⟩
theorem Ba1 (S:PS) (hS:S.Ok) (v:Value) (r:Int) (B d:Nat) (w:World) (hd:ParIn w B d v S) :
  Calls Tryz.prog 257 #[.pointer (some ⟨d,0,none⟩),.int .i32 r] w (Fed w B d v (escInterF S r)):=by
 have hL:=hS.sq.num.len
 have hd':=J0 hd
 clear hd
 by_cases h:r<48
 ·have hE:Hid (escInterF S r=leadF (S.take r) 2):=by show _=_;exact if_pos h
  go_enter Tryz.func257,Tryz.ntmps257
  go_wp2_with fail
  refine (Bd4 S v hL hS.sq.cnt r d w hd'.out.blk).mono ?_
  rintro e w1 ⟨⟨y,rfl⟩,hb1,ho1⟩
  have hp:=J0 (hd'.out.turn hb1 ho1 rfl)
  clear hb1
  go_wp2_with fail
  (refine (Ac5 (S.take r) v (take_len hL r) 2 B d w1 hp.out).mono ?_;rintro e w9 ⟨x,u,rfl,hf⟩;obtain ⟨ax,nx,cx,rfl⟩:=hf.shape;replace hf:=J0 hf;go_wp2_with fail;go_ret;rw [hE.out];exact ⟨_,u,rfl,hf.out.after (ho1)⟩)
 ·have hE:Hid (escInterF S r=finishF S 3 r 0):=by show _=_;exact if_neg h
  go_enter Tryz.func257,Tryz.ntmps257
  go_wp2_with fail
  (refine (Bh8 S v hL hS.sq.cnt 3 r 0 B d w hd'.out).mono ?_;rintro e w9 ⟨x,u,rfl,hf⟩;obtain ⟨ax,nx,cx,rfl⟩:=hf.shape;replace hf:=J0 hf;go_wp2_with fail;go_ret;rw [hE.out];exact ⟨_,u,rfl,hf.out.after (Only.refl _ _)⟩)
theorem escape_any (S:PS) (hS:S.Ok) (v:Value) (r:Int) (B d:Nat) (w:World) (hd:ParIn w B d v S) :
  Calls Tryz.prog 256 #[.pointer (some ⟨d,0,none⟩),.int .i32 r] w (Fed w B d v (escapeF S r)):=by
 have hL:=hS.sq.num.len
 have hd':=J0 hd
 clear hd
 by_cases h80:r=80
 ·have hE:Hid (escapeF S r=leadF S 7):=by show _=_;unfold escapeF;rw [if_pos h80]
  subst h80
  go_enter Tryz.func256,Tryz.ntmps256
  go_wp2_with fail
  (refine (Ac5 S v hL 7 B d w hd'.out).mono ?_;rintro e w9 ⟨x,u,rfl,hf⟩;obtain ⟨ax,nx,cx,rfl⟩:=hf.shape;replace hf:=J0 hf;go_wp2_with fail;go_ret;rw [hE.out];exact ⟨_,u,rfl,hf.out.after (Only.refl _ _)⟩)
 by_cases h88:r=88\/r=94\/r=95
 ·have hE:Hid (escapeF S r=leadF S 13):=by show _=_;unfold escapeF;rw [if_neg h80,if_pos h88]
  clear h80
  rcases h88 with rfl|rfl|rfl
  all_goals
   go_enter Tryz.func256,Tryz.ntmps256
   go_wp2_with fail
   (refine (Ac5 S v hL 13 B d w hd'.out).mono ?_;rintro e w9 ⟨x,u,rfl,hf⟩;obtain ⟨ax,nx,cx,rfl⟩:=hf.shape;replace hf:=J0 hf;go_wp2_with fail;go_ret;rw [hE.out];exact ⟨_,u,rfl,hf.out.after (Only.refl _ _)⟩)
 by_cases h91:r=91
 ·have hE:Hid (escapeF S r=leadF S 3):=by show _=_;unfold escapeF;rw [if_neg h80,if_neg h88,if_pos h91]
  subst h91
  clear h80 h88
  go_enter Tryz.func256,Tryz.ntmps256
  go_wp2_with fail
  (refine (Ac5 S v hL 3 B d w hd'.out).mono ?_;rintro e w9 ⟨x,u,rfl,hf⟩;obtain ⟨ax,nx,cx,rfl⟩:=hf.shape;replace hf:=J0 hf;go_wp2_with fail;go_ret;rw [hE.out];exact ⟨_,u,rfl,hf.out.after (Only.refl _ _)⟩)
 by_cases h93:r=93
 ·have hE:Hid (escapeF S r=leadF S 12):=by show _=_;unfold escapeF;rw [if_neg h80,if_neg h88,if_neg h91,if_pos h93]
  subst h93
  clear h80 h88 h91
  go_enter Tryz.func256,Tryz.ntmps256
  go_wp2_with fail
  (refine (Ac5 S v hL 12 B d w hd'.out).mono ?_;rintro e w9 ⟨x,u,rfl,hf⟩;obtain ⟨ax,nx,cx,rfl⟩:=hf.shape;replace hf:=J0 hf;go_wp2_with fail;go_ret;rw [hE.out];exact ⟨_,u,rfl,hf.out.after (Only.refl _ _)⟩)
 have hE:Hid (escapeF S r=escInterF S r):=by show _=_;unfold escapeF;rw [if_neg h80,if_neg h88,if_neg h91,if_neg h93]
 have q80:(r == 80)=false:=by simpa using h80
 have q88:(r == 88)=false:=by simp;omega
 have q94:(r == 94)=false:=by simp;omega
 have q95:(r == 95)=false:=by simp;omega
 have q91:(r == 91)=false:=by simpa using h91
 have q93:(r == 93)=false:=by simpa using h93
 clear h80 h88 h91 h93
 go_enter Tryz.func256,Tryz.ntmps256
 go_wp2_with fail
 (refine (Ba1 S hS v r B d w hd'.out).mono ?_;rintro e w9 ⟨x,u,rfl,hf⟩;obtain ⟨ax,nx,cx,rfl⟩:=hf.shape;replace hf:=J0 hf;go_wp2_with fail;go_ret;rw [hE.out];exact ⟨_,u,rfl,hf.out.after (Only.refl _ _)⟩)
theorem csiIgn_any (S:PS) (hS:S.Ok) (v:Value) (r:Int) (B d:Nat) (w:World) (hd:ParIn w B d v S) :
  Calls Tryz.prog 261 #[.pointer (some ⟨d,0,none⟩),.int .i32 r] w (Fed w B d v (csiIgnF S r)):=by
 have hL:=hS.sq.num.len
 have hd':=J0 hd
 clear hd
 by_cases h:r<64
 ·have hE:Hid (csiIgnF S r=([],S)):=by show _=_;exact if_pos h
  go_enter Tryz.func261,Tryz.ntmps261
  go_wp2_with fail
  go_ret
  rw [hE.out]
  exact An6 hd'.out
 ·have hE:Hid (csiIgnF S r=leadF S 0):=by show _=_;exact if_neg h
  go_enter Tryz.func261,Tryz.ntmps261
  go_wp2_with fail
  (refine (Ac5 S v hL 0 B d w hd'.out).mono ?_;rintro e w9 ⟨x,u,rfl,hf⟩;obtain ⟨ax,nx,cx,rfl⟩:=hf.shape;replace hf:=J0 hf;go_wp2_with fail;go_ret;rw [hE.out];exact ⟨_,u,rfl,hf.out.after (Only.refl _ _)⟩)
theorem At3 (S:PS) (v:Value) (r:Int) (B d:Nat) (w:World) (hd:ParIn w B d v S) :
  Calls Tryz.prog 262 #[.pointer (some ⟨d,0,none⟩),.int .i32 r] w (Fed w B d v ([],S)):=by
 have hd':=J0 hd
 clear hd
 go_enter Tryz.func262,Tryz.ntmps262
 go_wp2_with fail
 go_ret
 exact An6 hd'.out
theorem Be2 (S:PS) (v:Value) (r:Int) (B d:Nat) (w:World) (hd:ParIn w B d v S) :
  Calls Tryz.prog 255 #[.pointer (some ⟨d,0,none⟩),.int .i32 r] w (Fed w B d v (groundF S r)):=by
 refine (ground_any r _ w).mono ?_
 rintro e w1 ⟨x,rfl,hx,hb⟩
 exact ⟨x,v,rfl,Bt6 hd hx hb⟩
theorem interF_lo {S:PS} {r:Int} (h:r<48):interF S r=leadF (S.take r) (Al2 S.st):=if_pos h
theorem interF_mid {S:PS} {r:Int} (h:¬ r<48) (h2:r<64):interF S r=leadF S (Ah7 S.st):=by unfold interF;rw [if_neg h,if_pos h2]
theorem interF_hi {S:PS} {r:Int} (h:¬ r<48) (h2:¬ r<64):interF S r=finishF S (cAct S.st) r (cEnd S.st):=by unfold interF;rw [if_neg h,if_neg h2]
theorem Av7 (S:PS) (hS:S.Ok) (v:Value) (r:Int) (B d:Nat) (w:World) (hd:ParIn w B d v S) :
  Calls Tryz.prog 260 #[.pointer (some ⟨d,0,none⟩),.int .i32 r] w (Fed w B d v (interF S r)):=by
 have hL:=hS.sq.num.len
 have hd':=J0 hd
 have hcourse:=J0 (Aq4 S v d w hd.blk)
 clear hd
 by_cases h:r<48
 ·have hE:=J0 (interF_lo (S:=S) h)
  go_enter Tryz.func260,Tryz.ntmps260
  go_wp2_with fail
  refine hcourse.out.mono ?_
  rintro e w1 ⟨rfl,hb1⟩
  have hp1:=hd'.out.new (hb1)
  have o1:=Only.of_below hb1 [d]
  generalize Ag3 S.st=x0
  generalize Al2 S.st=x1 at hE |-
  generalize Ah7 S.st=x2
  generalize cEnd S.st=x3
  generalize cAct S.st=x4
  have hc:=Block.made w1 331 #[.int .u8 x0,.int .u8 x1,.int .u8 x2,.int .u8 x3,.int .u8 x4]
  have hlt:=hp1.blk.lt
  have hp2:=hp1.new (Aa1 w1 (.cells #[.int .u8 x0,.int .u8 x1,.int .u8 x2,.int .u8 x3,.int .u8 x4] 331))
  have o2:=o1.trans (Only.alloc [d] w1 (.cells #[.int .u8 x0,.int .u8 x1,.int .u8 x2,.int .u8 x3,.int .u8 x4] 331))
  replace hc:=J0 hc
  replace hp2:=J0 hp2
  replace o2:=J0 o2
  obtain ⟨cb,hcb⟩:∃ cb,cb=w1.heap.size:=⟨_,rfl⟩
  rw [<- hcb] at hc hlt
  clear hp1 hb1 o1
  go_wp2_with fail
  refine (Bd4 S v hL hS.sq.cnt r d _ hp2.out.blk).mono ?_
  rintro e w3 ⟨⟨y,rfl⟩,hb3,ho3⟩
  have hp3:=J0 (hp2.out.turn hb3 ho3 rfl)
  have hc3:=hc.out.only ho3 (by simp;omega)
  rw [hcb] at hc3
  have k1:=hc3.cell 1 rfl
  have o3:=J0 (o2.out.trans ho3)
  clear hb3 ho3 hc3
  go_wp2_with fail
  (refine (Ac5 (S.take r) v (take_len hL r) x1 B d w3 hp3.out).mono ?_;rintro e w9 ⟨x,u,rfl,hf⟩;obtain ⟨ax,nx,cx,rfl⟩:=hf.shape;replace hf:=J0 hf;go_wp2_with fail;go_ret;rw [hE.out];exact ⟨_,u,rfl,hf.out.after (o3.out)⟩)
 by_cases h2:r<64
 ·have hE:=J0 (interF_mid (S:=S) h h2)
  go_enter Tryz.func260,Tryz.ntmps260
  go_wp2_with fail
  refine hcourse.out.mono ?_
  rintro e w1 ⟨rfl,hb1⟩
  have hp1:=hd'.out.new (hb1)
  have o1:=Only.of_below hb1 [d]
  generalize Ag3 S.st=x0
  generalize Al2 S.st=x1
  generalize Ah7 S.st=x2 at hE |-
  generalize cEnd S.st=x3
  generalize cAct S.st=x4
  have hc:=Block.made w1 331 #[.int .u8 x0,.int .u8 x1,.int .u8 x2,.int .u8 x3,.int .u8 x4]
  have k2:=hc.cell 2 rfl
  have k3:=hc.cell 3 rfl
  have k4:=hc.cell 4 rfl
  have hp2:=hp1.new (Aa1 w1 (.cells #[.int .u8 x0,.int .u8 x1,.int .u8 x2,.int .u8 x3,.int .u8 x4] 331))
  have o2:=o1.trans (Only.alloc [d] w1 (.cells #[.int .u8 x0,.int .u8 x1,.int .u8 x2,.int .u8 x3,.int .u8 x4] 331))
  replace hp2:=J0 hp2
  replace o2:=J0 o2
  clear hp1 hb1 o1 hc
  go_wp2_with fail
  (refine (Ac5 S v hL x2 B d _ hp2.out).mono ?_;rintro e w9 ⟨x,u,rfl,hf⟩;obtain ⟨ax,nx,cx,rfl⟩:=hf.shape;replace hf:=J0 hf;go_wp2_with fail;go_ret;rw [hE.out];exact ⟨_,u,rfl,hf.out.after (o2.out)⟩)
 ·have hE:=J0 (interF_hi (S:=S) h h2)
  go_enter Tryz.func260,Tryz.ntmps260
  go_wp2_with fail
  refine hcourse.out.mono ?_
  rintro e w1 ⟨rfl,hb1⟩
  have hp1:=hd'.out.new (hb1)
  have o1:=Only.of_below hb1 [d]
  generalize Ag3 S.st=x0
  generalize Al2 S.st=x1
  generalize Ah7 S.st=x2
  generalize cEnd S.st=x3 at hE |-
  generalize cAct S.st=x4 at hE |-
  have hc:=Block.made w1 331 #[.int .u8 x0,.int .u8 x1,.int .u8 x2,.int .u8 x3,.int .u8 x4]
  have k2:=hc.cell 2 rfl
  have k3:=hc.cell 3 rfl
  have k4:=hc.cell 4 rfl
  have hp2:=hp1.new (Aa1 w1 (.cells #[.int .u8 x0,.int .u8 x1,.int .u8 x2,.int .u8 x3,.int .u8 x4] 331))
  have o2:=o1.trans (Only.alloc [d] w1 (.cells #[.int .u8 x0,.int .u8 x1,.int .u8 x2,.int .u8 x3,.int .u8 x4] 331))
  replace hp2:=J0 hp2
  replace o2:=J0 o2
  clear hp1 hb1 o1 hc
  go_wp2_with fail
  (refine (Bh8 S v hL hS.sq.cnt x4 r x3 B d _ hp2.out).mono ?_;rintro e w9 ⟨x,u,rfl,hf⟩;obtain ⟨ax,nx,cx,rfl⟩:=hf.shape;replace hf:=J0 hf;go_wp2_with fail;go_ret;rw [hE.out];exact ⟨_,u,rfl,hf.out.after (o2.out)⟩)
theorem Ce9 (x0 x1 x2 x3 x4:Int) (w:World):(Instr.field 331 (.agg #[.int .u8 x0,.int .u8 x1,.int .u8 x2,.int .u8 x3,.int .u8 x4]) 0).run Tryz.prog w=.ok (.int .u8 x0) w:=by
 kernel_rfl
theorem paramF_dig {S:PS} {r:Int} (h:48<=r/\r<=57):paramF S r=leadF (S.num (Az9 S.sq.num (r - 48))) (Ag3 S.st):=if_pos h
theorem paramF_next {S:PS}:paramF S 59=leadF (S.num (nextF S.sq.num)) (Ag3 S.st):=by unfold paramF;rw [if_neg (by omega),if_pos rfl]
theorem paramF_else {S:PS} {r:Int} (h:¬ (48<=r/\r<=57)) (h2:¬ r=59):paramF S r=interF S r:=by unfold paramF;rw [if_neg h,if_neg h2]
theorem Aw9 (S:PS) (hS:S.Ok) (v:Value) (r:Int) (B d:Nat) (w:World) (hd:ParIn w B d v S) :
  Calls Tryz.prog 259 #[.pointer (some ⟨d,0,none⟩),.int .i32 r] w (Fed w B d v (paramF S r)):=by
 have hL:=hS.sq.num.len
 have hd':=J0 hd
 clear hd
 by_cases h:48<=r/\r<=57
 ·have hE:=J0 (paramF_dig (S:=S) h)
  have hok:=Bw2 hS.sq.num (r - 48)
  obtain ⟨h48,h57⟩:=h
  go_enter Tryz.func259,Tryz.ntmps259
  go_wp2_with fail
  refine (digit_any S v hS.sq.num (r - 48) (by omega) (by omega) d w hd'.out.blk).mono ?_
  rintro e w1 ⟨⟨y,rfl⟩,hb1,ho1⟩
  have hp1:=J0 (hd'.out.turn hb1 ho1 rfl)
  have hcourse:=J0 (Aq4 _ v d w1 hb1)
  clear hb1
  generalize hS1:S.num (Az9 S.sq.num (r - 48))=S1 at hp1 hcourse hE
  have e1:S1.st=S.st:=by rw [<- hS1];rfl
  have hL1:S1.sq.num.n.length<=32:=by rw [<- hS1];exact hok.len
  rw [e1] at hcourse
  clear hS1 e1
  go_wp2_with fail
  refine hcourse.out.mono ?_
  rintro e w2 ⟨rfl,hb2⟩
  have hp2:=J0 (hp1.out.new hb2)
  have o2:=J0 (ho1.trans (Only.of_below hb2 [d]))
  have hfd:=Ce9
  generalize Ag3 S.st=x0 at hE |-
  clear hb2 ho1
  go_wp2_with fail
  (refine (Ac5 S1 v hL1 x0 B d w2 hp2.out).mono ?_;rintro e w9 ⟨x,u,rfl,hf⟩;obtain ⟨ax,nx,cx,rfl⟩:=hf.shape;replace hf:=J0 hf;go_wp2_with fail;go_ret;rw [hE.out];exact ⟨_,u,rfl,hf.out.after (o2.out)⟩)
 by_cases h59:r=59
 ·subst h59
  have hE:=J0 (paramF_next (S:=S))
  have hok:=Ch7 hS.sq.num
  clear h
  go_enter Tryz.func259,Tryz.ntmps259
  go_wp2_with fail
  refine (next_any S v hL d w hd'.out.blk).mono ?_
  rintro e w1 ⟨⟨y,rfl⟩,hb1,ho1⟩
  have hp1:=J0 (hd'.out.turn hb1 ho1 rfl)
  have hcourse:=J0 (Aq4 _ v d w1 hb1)
  clear hb1
  generalize hS1:S.num (nextF S.sq.num)=S1 at hp1 hcourse hE
  have e1:S1.st=S.st:=by rw [<- hS1];rfl
  have hL1:S1.sq.num.n.length<=32:=by rw [<- hS1];exact hok.len
  rw [e1] at hcourse
  clear hS1 e1
  go_wp2_with fail
  refine hcourse.out.mono ?_
  rintro e w2 ⟨rfl,hb2⟩
  have hp2:=J0 (hp1.out.new hb2)
  have o2:=J0 (ho1.trans (Only.of_below hb2 [d]))
  have hfd:=Ce9
  generalize Ag3 S.st=x0 at hE |-
  clear hb2 ho1
  go_wp2_with fail
  (refine (Ac5 S1 v hL1 x0 B d w2 hp2.out).mono ?_;rintro e w9 ⟨x,u,rfl,hf⟩;obtain ⟨ax,nx,cx,rfl⟩:=hf.shape;replace hf:=J0 hf;go_wp2_with fail;go_ret;rw [hE.out];exact ⟨_,u,rfl,hf.out.after (o2.out)⟩)
 ·have hE:=J0 (paramF_else (S:=S) h h59)
  have q59:(r == 59)=false:=by simpa using h59
  clear h59
  by_cases h48:48<=r
  ·have h57:¬ r<=57:=by omega
   clear h
   go_enter Tryz.func259,Tryz.ntmps259
   go_wp2_with fail
   (refine (Av7 S hS v r B d w hd'.out).mono ?_;rintro e w9 ⟨x,u,rfl,hf⟩;obtain ⟨ax,nx,cx,rfl⟩:=hf.shape;replace hf:=J0 hf;go_wp2_with fail;go_ret;rw [hE.out];exact ⟨_,u,rfl,hf.out.after (Only.refl _ _)⟩)
  ·clear h
   go_enter Tryz.func259,Tryz.ntmps259
   go_wp2_with fail
   (refine (Av7 S hS v r B d w hd'.out).mono ?_;rintro e w9 ⟨x,u,rfl,hf⟩;obtain ⟨ax,nx,cx,rfl⟩:=hf.shape;replace hf:=J0 hf;go_wp2_with fail;go_ret;rw [hE.out];exact ⟨_,u,rfl,hf.out.after (Only.refl _ _)⟩)
theorem Bp0 (S:PS) (hS:S.Ok) (v:Value) (r:Int) (B d:Nat) (w:World) (hd:ParIn w B d v S) :
  Calls Tryz.prog 258 #[.pointer (some ⟨d,0,none⟩),.int .i32 r] w (Fed w B d v (entryF S r)):=by
 have hL:=hS.sq.num.len
 have hd':=J0 hd
 have h1:=hd.blk.c1
 have f1:=hd.blk.free 1
 have hset:=J0 (hd.blk.set (set_pr S v r))
 clear hd
 by_cases h:60<=r/\r<64
 ·have hE:Hid (entryF S r=leadF (S.priv r) (Ag3 S.st)):=by show _=_;exact if_pos h
  obtain ⟨h60,h64⟩:=h
  have ho1:=Only.setCell w ⟨d,1,none⟩ (.int .i32 r)
  have hp1:=J0 (hd'.out.turn hset.out ho1 rfl)
  have hcourse:=J0 (Aq4 _ v d _ hset.out)
  have ho1':=J0 ho1
  clear ho1 hset
  generalize hS1:S.priv r=S1 at hp1 hcourse hE
  have e1:S1.st=S.st:=by rw [<- hS1];rfl
  have hL1:S1.sq.num.n.length<=32:=by rw [<- hS1];exact hL
  rw [e1] at hcourse
  clear hS1 e1
  go_enter Tryz.func258,Tryz.ntmps258
  go_wp2_with fail
  refine hcourse.out.mono ?_
  rintro e w2 ⟨rfl,hb2⟩
  have hp2:=J0 (hp1.out.new hb2)
  have o2:=J0 (ho1'.out.trans (Only.of_below hb2 [d]))
  have hfd:=Ce9
  generalize Ag3 S.st=x0 at hE |-
  clear hb2
  go_wp2_with fail
  (refine (Ac5 S1 v hL1 x0 B d w2 hp2.out).mono ?_;rintro e w9 ⟨x,u,rfl,hf⟩;obtain ⟨ax,nx,cx,rfl⟩:=hf.shape;replace hf:=J0 hf;go_wp2_with fail;go_ret;rw [hE.out];exact ⟨_,u,rfl,hf.out.after (o2.out)⟩)
 ·have hE:Hid (entryF S r=paramF S r):=by show _=_;exact if_neg h
  clear hset
  by_cases h60:60<=r
  ·have h64:¬ r<64:=by omega
   clear h
   go_enter Tryz.func258,Tryz.ntmps258
   go_wp2_with fail
   (refine (Aw9 S hS v r B d w hd'.out).mono ?_;rintro e w9 ⟨x,u,rfl,hf⟩;obtain ⟨ax,nx,cx,rfl⟩:=hf.shape;replace hf:=J0 hf;go_wp2_with fail;go_ret;rw [hE.out];exact ⟨_,u,rfl,hf.out.after (Only.refl _ _)⟩)
  ·clear h
   go_enter Tryz.func258,Tryz.ntmps258
   go_wp2_with fail
   (refine (Aw9 S hS v r B d w hd'.out).mono ?_;rintro e w9 ⟨x,u,rfl,hf⟩;obtain ⟨ax,nx,cx,rfl⟩:=hf.shape;replace hf:=J0 hf;go_wp2_with fail;go_ret;rw [hE.out];exact ⟨_,u,rfl,hf.out.after (Only.refl _ _)⟩)
theorem osc_full {S:PS} (h:¬ S.text.length<1024) (r:Int):oscF S r=([],S):=by unfold oscF;rw [if_neg h]
theorem osc_more {S:PS} (h:S.text.length<1024) (r:Int):oscF S r=([],⟨S.st,S.sq,S.text++[r]⟩):=by unfold oscF;rw [if_pos h]
theorem Bf7 {w:World} {B:Nat} {e:TypeId} {k:IntKind} {v:Value} {l:List Int} (h:Own w B e k v l):∃ ao n c,v=.slice ao n c:=by
 obtain ⟨ao,c,e,_⟩:=h.shape
 exact ⟨ao,_,c,e⟩
theorem osc_put {w w1 w2:World} {B d:Nat} {v u:Value} {S:PS} {r:Int} {o:Obj} (hL:S.sq.num.n.length<=32) (hd:ParIn w B d v S) (hown:Own w1 B 21 .i32 u (S.text++[r])) (ho:Only v.ownBlock.toList (w.alloc o) w1)
  (hat:u.ownBlock=v.ownBlock\/u.ownBlock=some (w.alloc o).heap.size) (hw:w2=w1.setCell ⟨d,40,none⟩ u):FedU w B d v ⟨S.st,S.sq,S.text++[r]⟩ [] (.slice none 0 0) u w2:=by
 subst hw
 have hap:=hd.apart
 have hlt:=hd.blk.lt
 have hud:u.ownBlock≠some d:=by
  rcases hat with e|e
  ·rw [e];exact hap
  ·rw [e];simp;omega
 have hb:PBlk w1 d S v:=(hd.blk.only (Only.alloc [] w o) (by simp)).only ho (fun hm=>hap (by simpa using hm))
 have o2:=Only.setCell w1 ⟨d,40,none⟩ u
 refine ⟨⟨PBlk.set (S:=⟨S.st,S.sq,S.text++[r]⟩) (S':=⟨S.st,S.sq,S.text++[r]⟩) hb (Cj9 hL v u),hown.only o2 (fun g hg hm=>hud (by simp at hm;rw [hg,hm])),hd.low⟩,?_,ActsIn.nil _ _ _,?_⟩
 ·rcases hat with e|e
  ·exact .inl e
  ·exact .inr (.inr ⟨_,e,by simp⟩)
 ·exact ((Only.alloc _ w o).trans (ho.mono (fun k hk=>List.mem_cons_of_mem _ hk))).trans (o2.mono (by simp))
theorem Ci2 (S:PS) (hS:S.Ok) (v:Value) (r:Int) (B d:Nat) (w:World) (hd:ParIn w B d v S) (hB:B<=w.heap.size) :
  Calls Tryz.prog 263 #[.pointer (some ⟨d,0,none⟩),.int .i32 r] w (Fed w B d v (oscF S r)):=by
 have hL:=hS.sq.num.len
 have h40:=hd.blk.txt hL
 have hlt:=hd.blk.lt
 by_cases h:S.text.length<1024
 ·have hE:=J0 (osc_more h r)
  have hown:=hd.own
  have hput:=J0 (fun w1 w2 u o=>osc_put (w1:=w1) (w2:=w2) (u:=u) (r:=r) (o:=o) hL hd)
  have hkeep:=J0 (fun w1 o (ho:Only v.ownBlock.toList (w.alloc o) w1)=>(hd.blk.only (Only.alloc [] w o) (by simp)).only ho (fun hm=>hd.apart (by simpa using hm)))
  obtain ⟨ao,c,rfl,_,_,_⟩:=hown.shape
  clear hd
  generalize hT:S.text=T at *
  replace hT:=J0 hT
  go_enter Tryz.func263,Tryz.ntmps263
  go_wp2_with (with_reducible show wpList _ _ _ (⟨some 18,.call _,_,_,_,_⟩::_) _ _;go_must (refine Ai8 Bt5 rfl (.tmp 15) (.tmp 17) rfl B (.slice ao T.length c) T [r] _ (w.heap.size+1) 1 rfl rfl (hown.alloc _) (Nums.one _ _ _ _) (by simp;omega) (by simp;omega) (by simp [maxLen];omega) ?_);go_must (intro u w1 hown1 ho1 hat1;obtain ⟨a1,n1,c1,rfl⟩:=Bf7 hown1;have hb1:=hkeep.out w1 _ ho1;have k40:=hb1.txt hL;have f40:=hb1.free 40;have hf:=J0 (hput.out w1 _ _ _ hown1 ho1 hat1 rfl);clear hb1 hown1 ho1 hat1))
  go_ret
  rw [hE.out]
  exact ⟨_,_,rfl,hf.out⟩
 ·have hE:=J0 (osc_full h r)
  have hd':=J0 hd
  obtain ⟨ao,c,rfl,_,_,_⟩:=hd.own.shape
  clear hd
  go_enter Tryz.func263,Tryz.ntmps263
  go_wp2_with fail
  go_ret
  rw [hE.out]
  exact An6 hd'.out
theorem controlF_exec {S:PS} (h:0<=S.st/\S.st<=6) (r:Int):controlF S r=([execA r],S):=if_pos h
theorem An4 (S:PS) (hS:S.Ok) (v:Value) (r:Int) (B d:Nat) (w:World) (hd:ParIn w B d v S) :
  Calls Tryz.prog 197 #[.pointer (some ⟨d,0,none⟩),.int .i32 r] w (Fed w B d v (controlF S r)):=by
 have hL:=hS.sq.num.len
 have h0:=hd.blk.c0
 have hd':=J0 hd
 clear hd
 obtain ⟨hs0,hs1⟩:=hS.st
 by_cases h:S.st<=6
 ·have hE:=J0 (controlF_exec ⟨hs0,h⟩ r)
  generalize S.st=s at h0 hs0 hs1 h
  rcases (by omega:s=0\/s=1\/s=2\/s=3\/s=4\/s=5\/s=6) with rfl|rfl|rfl|rfl|rfl|rfl|rfl
  all_goals
   clear hs0 hs1 h
   go_enter Tryz.func197,Tryz.ntmps197
   go_wp2_with fail
   refine (Bw5 r w).mono ?_
   rintro e w1 ⟨rfl,hb1⟩
   go_wp2_with fail
   go_ret
   rw [hE.out]
   exact ⟨_,v,rfl,Bt6 hd'.out (Am8 w1 w.heap.size hb1.size _ _ _ (Bk6 w1 _ 2 r 0 0)) (Aa0 hb1 (Aa1 _ _))⟩
 ·have q:∀ k:Int,0<=k->k<=6->(S.st == k)=false:=fun k _ _=>by simp;omega
  have q0:=q 0 (by omega) (by omega)
  have q1:=q 1 (by omega) (by omega)
  have q2:=q 2 (by omega) (by omega)
  have q3:=q 3 (by omega) (by omega)
  have q4:=q 4 (by omega) (by omega)
  have q5:=q 5 (by omega) (by omega)
  have q6:=q 6 (by omega) (by omega)
  clear q
  by_cases h12:S.st=12
  ·by_cases h7:r=7
   ·have hE:Hid (controlF S r=leadF S 0):=by show _=_;unfold controlF;rw [if_neg (by omega),if_pos ⟨h12,h7⟩]
    rw [h12] at h0
    subst h7
    clear h hs0 hs1 h12 q0 q1 q2 q3 q4 q5 q6
    go_enter Tryz.func197,Tryz.ntmps197
    go_wp2_with fail
    (refine (Ac5 S v hL 0 B d w hd'.out).mono ?_;rintro e w9 ⟨x,u,rfl,hf⟩;obtain ⟨ax,nx,cx,rfl⟩:=hf.shape;replace hf:=J0 hf;go_wp2_with fail;go_ret;rw [hE.out];exact ⟨_,u,rfl,hf.out.after (Only.refl _ _)⟩)
   ·have hE:Hid (controlF S r=([],S)):=by show _=_;unfold controlF;rw [if_neg (by omega),if_neg (fun h=>h7 h.2)]
    have h7':(r == 7)=false:=by simpa using h7
    rw [h12] at h0
    clear h hs0 hs1 h12 h7 q0 q1 q2 q3 q4 q5 q6
    go_enter Tryz.func197,Tryz.ntmps197
    go_wp2_with fail
    go_ret
    rw [hE.out]
    exact An6 hd'.out
  ·have hE:Hid (controlF S r=([],S)):=by show _=_;unfold controlF;rw [if_neg (by omega),if_neg (fun h=>h12 h.1)]
   have q12:(S.st == 12)=false:=by simpa using h12
   clear h hs0 hs1 h12
   go_enter Tryz.func197,Tryz.ntmps197
   go_wp2_with fail
   go_ret
   rw [hE.out]
   exact An6 hd'.out
theorem Ay3 (S:PS) (hS:S.Ok) (v:Value) (r:Int) (B d:Nat) (w:World) (hd:ParIn w B d v S) (hB:B<=w.heap.size) :
  Calls Tryz.prog 200 #[.pointer (some ⟨d,0,none⟩),.int .i32 r] w (Fed w B d v (beyondF S r)):=by
 have h0:=hd.blk.c0
 have hd':=J0 hd
 clear hd
 by_cases hs0:S.st=0
 ·have hE:Hid (beyondF S r=groundF S r):=by show _=_;exact if_pos hs0
  rw [hs0] at h0
  go_enter Tryz.func200,Tryz.ntmps200
  go_wp2_with fail
  (refine (Be2 S v r B d w hd'.out).mono ?_;rintro e w9 ⟨x,u,rfl,hf⟩;obtain ⟨ax,nx,cx,rfl⟩:=hf.shape;replace hf:=J0 hf;go_wp2_with fail;go_ret;rw [hE.out];exact ⟨_,u,rfl,hf.out.after (Only.refl _ _)⟩)
 by_cases hs12:S.st=12
 ·have hE:Hid (beyondF S r=oscF S r):=by show _=_;unfold beyondF;rw [if_neg hs0,if_pos hs12]
  rw [hs12] at h0
  go_enter Tryz.func200,Tryz.ntmps200
  go_wp2_with fail
  (refine (Ci2 S hS v r B d w hd'.out hB).mono ?_;rintro e w9 ⟨x,u,rfl,hf⟩;obtain ⟨ax,nx,cx,rfl⟩:=hf.shape;replace hf:=J0 hf;go_wp2_with fail;go_ret;rw [hE.out];exact ⟨_,u,rfl,hf.out.after (Only.refl _ _)⟩)
 ·have hE:Hid (beyondF S r=([],S)):=by show _=_;unfold beyondF;rw [if_neg hs0,if_neg hs12]
  have q0:(S.st == 0)=false:=by simpa using hs0
  have q12:(S.st == 12)=false:=by simpa using hs12
  clear hs0 hs12
  go_enter Tryz.func200,Tryz.ntmps200
  go_wp2_with fail
  go_ret
  rw [hE.out]
  exact An6 hd'.out
theorem upper_any (S:PS) (hS:S.Ok) (v:Value) (r:Int) (B d:Nat) (w:World) (hd:ParIn w B d v S) :
  Calls Tryz.prog 199 #[.pointer (some ⟨d,0,none⟩),.int .i32 r] w (Fed w B d v (upperF S r)):=by
 have hL:=hS.sq.num.len
 have hd':=J0 hd
 clear hd
 by_cases h144:r=144
 ·have hE:Hid (upperF S r=leadF S 7):=by show _=_;unfold upperF;rw [if_pos h144]
  subst h144
  go_enter Tryz.func199,Tryz.ntmps199
  go_wp2_with fail
  (refine (Ac5 S v hL 7 B d w hd'.out).mono ?_;rintro e w9 ⟨x,u,rfl,hf⟩;obtain ⟨ax,nx,cx,rfl⟩:=hf.shape;replace hf:=J0 hf;go_wp2_with fail;go_ret;rw [hE.out];exact ⟨_,u,rfl,hf.out.after (Only.refl _ _)⟩)
 by_cases h152:r=152\/r=158\/r=159
 ·have hE:Hid (upperF S r=leadF S 13):=by show _=_;unfold upperF;rw [if_neg h144,if_pos h152]
  clear h144
  rcases h152 with rfl|rfl|rfl
  all_goals
   go_enter Tryz.func199,Tryz.ntmps199
   go_wp2_with fail
   (refine (Ac5 S v hL 13 B d w hd'.out).mono ?_;rintro e w9 ⟨x,u,rfl,hf⟩;obtain ⟨ax,nx,cx,rfl⟩:=hf.shape;replace hf:=J0 hf;go_wp2_with fail;go_ret;rw [hE.out];exact ⟨_,u,rfl,hf.out.after (Only.refl _ _)⟩)
 by_cases h155:r=155
 ·have hE:Hid (upperF S r=leadF S 3):=by show _=_;unfold upperF;rw [if_neg h144,if_neg h152,if_pos h155]
  subst h155
  clear h144 h152
  go_enter Tryz.func199,Tryz.ntmps199
  go_wp2_with fail
  (refine (Ac5 S v hL 3 B d w hd'.out).mono ?_;rintro e w9 ⟨x,u,rfl,hf⟩;obtain ⟨ax,nx,cx,rfl⟩:=hf.shape;replace hf:=J0 hf;go_wp2_with fail;go_ret;rw [hE.out];exact ⟨_,u,rfl,hf.out.after (Only.refl _ _)⟩)
 by_cases h156:r=156
 ·have hE:Hid (upperF S r=leadF S 0):=by show _=_;unfold upperF;rw [if_neg h144,if_neg h152,if_neg h155,if_pos h156]
  subst h156
  clear h144 h152 h155
  go_enter Tryz.func199,Tryz.ntmps199
  go_wp2_with fail
  (refine (Ac5 S v hL 0 B d w hd'.out).mono ?_;rintro e w9 ⟨x,u,rfl,hf⟩;obtain ⟨ax,nx,cx,rfl⟩:=hf.shape;replace hf:=J0 hf;go_wp2_with fail;go_ret;rw [hE.out];exact ⟨_,u,rfl,hf.out.after (Only.refl _ _)⟩)
 by_cases h157:r=157
 ·have hE:Hid (upperF S r=leadF S 12):=by show _=_;unfold upperF;rw [if_neg h144,if_neg h152,if_neg h155,if_neg h156,if_pos h157]
  subst h157
  clear h144 h152 h155 h156
  go_enter Tryz.func199,Tryz.ntmps199
  go_wp2_with fail
  (refine (Ac5 S v hL 12 B d w hd'.out).mono ?_;rintro e w9 ⟨x,u,rfl,hf⟩;obtain ⟨ax,nx,cx,rfl⟩:=hf.shape;replace hf:=J0 hf;go_wp2_with fail;go_ret;rw [hE.out];exact ⟨_,u,rfl,hf.out.after (Only.refl _ _)⟩)
 have hE:Hid (upperF S r=execLeadF S r):=by show _=_;unfold upperF;rw [if_neg h144,if_neg h152,if_neg h155,if_neg h156,if_neg h157]
 have q144:(r == 144)=false:=by simpa using h144
 have q152:(r == 152)=false:=by simp;omega
 have q158:(r == 158)=false:=by simp;omega
 have q159:(r == 159)=false:=by simp;omega
 have q155:(r == 155)=false:=by simpa using h155
 have q156:(r == 156)=false:=by simpa using h156
 have q157:(r == 157)=false:=by simpa using h157
 clear h144 h152 h155 h156 h157
 go_enter Tryz.func199,Tryz.ntmps199
 go_wp2_with fail
 (refine (Ba2 S v hL r B d w hd'.out).mono ?_;rintro e w9 ⟨x,u,rfl,hf⟩;obtain ⟨ax,nx,cx,rfl⟩:=hf.shape;replace hf:=J0 hf;go_wp2_with fail;go_ret;rw [hE.out];exact ⟨_,u,rfl,hf.out.after (Only.refl _ _)⟩)
