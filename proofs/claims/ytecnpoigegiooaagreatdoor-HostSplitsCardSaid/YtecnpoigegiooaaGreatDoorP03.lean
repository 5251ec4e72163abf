/- Part 3 of HostSplits. -/
import Derived.Test.YtecnpoigegiooaaGreatDoorP02
import Derived.Laws.EntriesVeiled
set_option maxHeartbeats 16000000
set_option maxRecDepth 100000
namespace Go.Proofs.YtecnpoigegiooaaGreatDoor.Prs
open Go RowKit Com Par
theorem interF_lo {S:PS} {r:Int} (h:r<48):interF S r=leadF (S.take r) (Al4 S.st):=if_pos h
theorem interF_mid {S:PS} {r:Int} (h:¬r<48) (h2:r<64):interF S r=leadF S (Ah2 S.st):=by unfold interF;rw[if_neg h,if_pos h2]
theorem interF_hi {S:PS} {r:Int} (h:¬r<48) (h2:¬r<64):interF S r=finishF S (cAct S.st) r (cEnd S.st):=by unfold interF;rw[if_neg h,if_neg h2]
theorem Aw3 (S:PS) (hS:S.Ok) (v:Value) (r:Int) (B d:Nat) (w:World) (hd:ParIn w B d v S) :
  Calls Tryz.prog 117 #[.pointer (some ⟨d,0,none⟩),.int .i32 r] w (Fed w B d v (interF S r)):=by
 have hL:=hS.sq.num.len
 have hd':=J0 hd
 have hcourse:=J0 (Aq7 S v d w hd.blk)
 clear hd
 by_cases h:r<48
 ·have hE:=J0 (interF_lo (S:=S) h)
  go_enter Tryz.func117,Tryz.ntmps117
  go_wp2_with fail
  refine hcourse.out.mono ?_
  rintro e w1 ⟨rfl,hb1⟩
  have hp1:=hd'.out.new (hb1)
  have o1:=Only.of_below hb1 [d]
  generalize Af9 S.st=x0
  generalize Al4 S.st=x1 at hE |-
  generalize Ah2 S.st=x2
  generalize cEnd S.st=x3
  generalize cAct S.st=x4
  have hc:=Block.made w1 223 #[.int .u8 x0,.int .u8 x1,.int .u8 x2,.int .u8 x3,.int .u8 x4]
  have hlt:=hp1.blk.lt
  have hp2:=hp1.new (Aa1 w1 (.cells #[.int .u8 x0,.int .u8 x1,.int .u8 x2,.int .u8 x3,.int .u8 x4] 223))
  have o2:=o1.trans (Only.alloc [d] w1 (.cells #[.int .u8 x0,.int .u8 x1,.int .u8 x2,.int .u8 x3,.int .u8 x4] 223))
  replace hc:=J0 hc
  replace hp2:=J0 hp2
  replace o2:=J0 o2
  obtain⟨cb,hcb⟩:∃cb,cb=w1.heap.size:=⟨_,rfl⟩
  rw[<- hcb] at hc hlt
  clear hp1 hb1 o1
  go_wp2_with fail
  refine(Be4 S v hL hS.sq.cnt r d _ hp2.out.blk).mono ?_
  rintro e w3 ⟨⟨y,rfl⟩,hb3,ho3⟩
  have hp3:=J0 (hp2.out.turn hb3 ho3 rfl)
  have hc3:=hc.out.only ho3 (by simp;omega)
  rw[hcb] at hc3
  have k1:=hc3.cell 1 rfl
  have o3:=J0 (o2.out.trans ho3)
  clear hb3 ho3 hc3
  go_wp2_with fail
  (refine(Ac6 (S.take r) v (take_len hL r) x1 B d w3 hp3.out).mono ?_;rintro e w9 ⟨x,u,rfl,hf⟩;obtain⟨ax,nx,cx,rfl⟩:=hf.shape;replace hf:=J0 hf;go_wp2_with fail;go_ret;rw[hE.out];exact⟨_,u,rfl,hf.out.after (o3.out)⟩)
 by_cases h2:r<64
 ·have hE:=J0 (interF_mid (S:=S) h h2)
  go_enter Tryz.func117,Tryz.ntmps117
  go_wp2_with fail
  refine hcourse.out.mono ?_
  rintro e w1 ⟨rfl,hb1⟩
  have hp1:=hd'.out.new (hb1)
  have o1:=Only.of_below hb1 [d]
  generalize Af9 S.st=x0
  generalize Al4 S.st=x1
  generalize Ah2 S.st=x2 at hE |-
  generalize cEnd S.st=x3
  generalize cAct S.st=x4
  have hc:=Block.made w1 223 #[.int .u8 x0,.int .u8 x1,.int .u8 x2,.int .u8 x3,.int .u8 x4]
  have k2:=hc.cell 2 rfl
  have k3:=hc.cell 3 rfl
  have k4:=hc.cell 4 rfl
  have hp2:=hp1.new (Aa1 w1 (.cells #[.int .u8 x0,.int .u8 x1,.int .u8 x2,.int .u8 x3,.int .u8 x4] 223))
  have o2:=o1.trans (Only.alloc [d] w1 (.cells #[.int .u8 x0,.int .u8 x1,.int .u8 x2,.int .u8 x3,.int .u8 x4] 223))
  replace hp2:=J0 hp2
  replace o2:=J0 o2
  clear hp1 hb1 o1 hc
  go_wp2_with fail
  (refine(Ac6 S v hL x2 B d _ hp2.out).mono ?_;rintro e w9 ⟨x,u,rfl,hf⟩;obtain⟨ax,nx,cx,rfl⟩:=hf.shape;replace hf:=J0 hf;go_wp2_with fail;go_ret;rw[hE.out];exact⟨_,u,rfl,hf.out.after (o2.out)⟩)
 ·have hE:=J0 (interF_hi (S:=S) h h2)
  go_enter Tryz.func117,Tryz.ntmps117
  go_wp2_with fail
  refine hcourse.out.mono ?_
  rintro e w1 ⟨rfl,hb1⟩
  have hp1:=hd'.out.new (hb1)
  have o1:=Only.of_below hb1 [d]
  generalize Af9 S.st=x0
  generalize Al4 S.st=x1
  generalize Ah2 S.st=x2
  generalize cEnd S.st=x3 at hE |-
  generalize cAct S.st=x4 at hE |-
  have hc:=Block.made w1 223 #[.int .u8 x0,.int .u8 x1,.int .u8 x2,.int .u8 x3,.int .u8 x4]
  have k2:=hc.cell 2 rfl
  have k3:=hc.cell 3 rfl
  have k4:=hc.cell 4 rfl
  have hp2:=hp1.new (Aa1 w1 (.cells #[.int .u8 x0,.int .u8 x1,.int .u8 x2,.int .u8 x3,.int .u8 x4] 223))
  have o2:=o1.trans (Only.alloc [d] w1 (.cells #[.int .u8 x0,.int .u8 x1,.int .u8 x2,.int .u8 x3,.int .u8 x4] 223))
  replace hp2:=J0 hp2
  replace o2:=J0 o2
  clear hp1 hb1 o1 hc
  go_wp2_with fail
  (refine(Bj4 S v hL hS.sq.cnt x4 r x3 B d _ hp2.out).mono ?_;rintro e w9 ⟨x,u,rfl,hf⟩;obtain⟨ax,nx,cx,rfl⟩:=hf.shape;replace hf:=J0 hf;go_wp2_with fail;go_ret;rw[hE.out];exact⟨_,u,rfl,hf.out.after (o2.out)⟩)
theorem Ch6 (x0 x1 x2 x3 x4:Int) (w:World):(Instr.field 223 (.agg #[.int .u8 x0,.int .u8 x1,.int .u8 x2,.int .u8 x3,.int .u8 x4]) 0).run Tryz.prog w=.ok (.int .u8 x0) w:=by
 kernel_rfl
theorem paramF_dig {S:PS} {r:Int} (h:48<=r/\r<=57):paramF S r=leadF (S.num (Bb2 S.sq.num (r - 48))) (Af9 S.st):=if_pos h
theorem paramF_next {S:PS}:paramF S 59=leadF (S.num (nextF S.sq.num)) (Af9 S.st):=by unfold paramF;rw[if_neg (by omega),if_pos rfl]
theorem paramF_else {S:PS} {r:Int} (h:¬(48<=r/\r<=57)) (h2:¬r=59):paramF S r=interF S r:=by unfold paramF;rw[if_neg h,if_neg h2]
theorem Ax5 (S:PS) (hS:S.Ok) (v:Value) (r:Int) (B d:Nat) (w:World) (hd:ParIn w B d v S) :
  Calls Tryz.prog 116 #[.pointer (some ⟨d,0,none⟩),.int .i32 r] w (Fed w B d v (paramF S r)):=by
 have hL:=hS.sq.num.len
 have hd':=J0 hd
 clear hd
 by_cases h:48<=r/\r<=57
 ·have hE:=J0 (paramF_dig (S:=S) h)
  have hok:=By8 hS.sq.num (r - 48)
  obtain⟨h48,h57⟩:=h
  go_enter Tryz.func116,Tryz.ntmps116
  go_wp2_with fail
  refine(digit_any S v hS.sq.num (r - 48) (by omega) (by omega) d w hd'.out.blk).mono ?_
  rintro e w1 ⟨⟨y,rfl⟩,hb1,ho1⟩
  have hp1:=J0 (hd'.out.turn hb1 ho1 rfl)
  have hcourse:=J0 (Aq7 _ v d w1 hb1)
  clear hb1
  generalize hS1:S.num (Bb2 S.sq.num (r - 48))=S1 at hp1 hcourse hE
  have e1:S1.st=S.st:=by rw[<- hS1];rfl
  have hL1:S1.sq.num.n.length<=32:=by rw[<- hS1];exact hok.len
  rw[e1] at hcourse
  clear hS1 e1
  go_wp2_with fail
  refine hcourse.out.mono ?_
  rintro e w2 ⟨rfl,hb2⟩
  have hp2:=J0 (hp1.out.new hb2)
  have o2:=J0 (ho1.trans (Only.of_below hb2 [d]))
  have hfd:=Ch6
  generalize Af9 S.st=x0 at hE |-
  clear hb2 ho1
  go_wp2_with fail
  (refine(Ac6 S1 v hL1 x0 B d w2 hp2.out).mono ?_;rintro e w9 ⟨x,u,rfl,hf⟩;obtain⟨ax,nx,cx,rfl⟩:=hf.shape;replace hf:=J0 hf;go_wp2_with fail;go_ret;rw[hE.out];exact⟨_,u,rfl,hf.out.after (o2.out)⟩)
 by_cases h59:r=59
 ·subst h59
  have hE:=J0 (paramF_next (S:=S))
  have hok:=Ck1 hS.sq.num
  clear h
  go_enter Tryz.func116,Tryz.ntmps116
  go_wp2_with fail
  refine(next_any S v hL d w hd'.out.blk).mono ?_
  rintro e w1 ⟨⟨y,rfl⟩,hb1,ho1⟩
  have hp1:=J0 (hd'.out.turn hb1 ho1 rfl)
  have hcourse:=J0 (Aq7 _ v d w1 hb1)
  clear hb1
  generalize hS1:S.num (nextF S.sq.num)=S1 at hp1 hcourse hE
  have e1:S1.st=S.st:=by rw[<- hS1];rfl
  have hL1:S1.sq.num.n.length<=32:=by rw[<- hS1];exact hok.len
  rw[e1] at hcourse
  clear hS1 e1
  go_wp2_with fail
  refine hcourse.out.mono ?_
  rintro e w2 ⟨rfl,hb2⟩
  have hp2:=J0 (hp1.out.new hb2)
  have o2:=J0 (ho1.trans (Only.of_below hb2 [d]))
  have hfd:=Ch6
  generalize Af9 S.st=x0 at hE |-
  clear hb2 ho1
  go_wp2_with fail
  (refine(Ac6 S1 v hL1 x0 B d w2 hp2.out).mono ?_;rintro e w9 ⟨x,u,rfl,hf⟩;obtain⟨ax,nx,cx,rfl⟩:=hf.shape;replace hf:=J0 hf;go_wp2_with fail;go_ret;rw[hE.out];exact⟨_,u,rfl,hf.out.after (o2.out)⟩)
 ·have hE:=J0 (paramF_else (S:=S) h h59)
  have q59:(r == 59)=false:=by simpa using h59
  clear h59
  by_cases h48:48<=r
  ·have h57:¬r<=57:=by omega
   clear h
   go_enter Tryz.func116,Tryz.ntmps116
   go_wp2_with fail
   (refine(Aw3 S hS v r B d w hd'.out).mono ?_;rintro e w9 ⟨x,u,rfl,hf⟩;obtain⟨ax,nx,cx,rfl⟩:=hf.shape;replace hf:=J0 hf;go_wp2_with fail;go_ret;rw[hE.out];exact⟨_,u,rfl,hf.out.after (Only.refl _ _)⟩)
  ·clear h
   go_enter Tryz.func116,Tryz.ntmps116
   go_wp2_with fail
   (refine(Aw3 S hS v r B d w hd'.out).mono ?_;rintro e w9 ⟨x,u,rfl,hf⟩;obtain⟨ax,nx,cx,rfl⟩:=hf.shape;replace hf:=J0 hf;go_wp2_with fail;go_ret;rw[hE.out];exact⟨_,u,rfl,hf.out.after (Only.refl _ _)⟩)
theorem Br9 (S:PS) (hS:S.Ok) (v:Value) (r:Int) (B d:Nat) (w:World) (hd:ParIn w B d v S) :
  Calls Tryz.prog 115 #[.pointer (some ⟨d,0,none⟩),.int .i32 r] w (Fed w B d v (entryF S r)):=by
 have hL:=hS.sq.num.len
 have hd':=J0 hd
 have h1:=hd.blk.c1
 have f1:=hd.blk.free 1
 have hset:=J0 (hd.blk.set (set_pr S v r))
 clear hd
 by_cases h:60<=r/\r<64
 ·have hE:Hid (entryF S r=leadF (S.priv r) (Af9 S.st)):=by show _=_;exact if_pos h
  obtain⟨h60,h64⟩:=h
  have ho1:=Only.setCell w ⟨d,1,none⟩ (.int .i32 r)
  have hp1:=J0 (hd'.out.turn hset.out ho1 rfl)
  have hcourse:=J0 (Aq7 _ v d _ hset.out)
  have ho1':=J0 ho1
  clear ho1 hset
  generalize hS1:S.priv r=S1 at hp1 hcourse hE
  have e1:S1.st=S.st:=by rw[<- hS1];rfl
  have hL1:S1.sq.num.n.length<=32:=by rw[<- hS1];exact hL
  rw[e1] at hcourse
  clear hS1 e1
  go_enter Tryz.func115,Tryz.ntmps115
  go_wp2_with fail
  refine hcourse.out.mono ?_
  rintro e w2 ⟨rfl,hb2⟩
  have hp2:=J0 (hp1.out.new hb2)
  have o2:=J0 (ho1'.out.trans (Only.of_below hb2 [d]))
  have hfd:=Ch6
  generalize Af9 S.st=x0 at hE |-
  clear hb2
  go_wp2_with fail
  (refine(Ac6 S1 v hL1 x0 B d w2 hp2.out).mono ?_;rintro e w9 ⟨x,u,rfl,hf⟩;obtain⟨ax,nx,cx,rfl⟩:=hf.shape;replace hf:=J0 hf;go_wp2_with fail;go_ret;rw[hE.out];exact⟨_,u,rfl,hf.out.after (o2.out)⟩)
 ·have hE:Hid (entryF S r=paramF S r):=by show _=_;exact if_neg h
  clear hset
  by_cases h60:60<=r
  ·have h64:¬r<64:=by omega
   clear h
   go_enter Tryz.func115,Tryz.ntmps115
   go_wp2_with fail
   (refine(Ax5 S hS v r B d w hd'.out).mono ?_;rintro e w9 ⟨x,u,rfl,hf⟩;obtain⟨ax,nx,cx,rfl⟩:=hf.shape;replace hf:=J0 hf;go_wp2_with fail;go_ret;rw[hE.out];exact⟨_,u,rfl,hf.out.after (Only.refl _ _)⟩)
  ·clear h
   go_enter Tryz.func115,Tryz.ntmps115
   go_wp2_with fail
   (refine(Ax5 S hS v r B d w hd'.out).mono ?_;rintro e w9 ⟨x,u,rfl,hf⟩;obtain⟨ax,nx,cx,rfl⟩:=hf.shape;replace hf:=J0 hf;go_wp2_with fail;go_ret;rw[hE.out];exact⟨_,u,rfl,hf.out.after (Only.refl _ _)⟩)
theorem osc_full {S:PS} (h:¬S.text.length<1024) (r:Int):oscF S r=([],S):=by unfold oscF;rw[if_neg h]
theorem osc_more {S:PS} (h:S.text.length<1024) (r:Int):oscF S r=([],⟨S.st,S.sq,S.text++[r]⟩):=by unfold oscF;rw[if_pos h]
theorem Bg6 {w:World} {B:Nat} {e:TypeId} {k:IntKind} {v:Value} {l:List Int} (h:Own w B e k v l):∃ao n c,v=.slice ao n c:=by
 obtain⟨ao,c,e,_⟩:=h.shape
 exact⟨ao,_,c,e⟩
theorem osc_put {w w1 w2:World} {B d:Nat} {v u:Value} {S:PS} {r:Int} {o:Obj} (hL:S.sq.num.n.length<=32) (hd:ParIn w B d v S) (hown:Own w1 B 21 .i32 u (S.text++[r])) (ho:Only v.ownBlock.toList (w.alloc o) w1)
  (hat:u.ownBlock=v.ownBlock\/u.ownBlock=some (w.alloc o).heap.size) (hw:w2=w1.setCell ⟨d,40,none⟩ u):FedU w B d v ⟨S.st,S.sq,S.text++[r]⟩ [] (.slice none 0 0) u w2:=by
 subst hw
 have hap:=hd.apart
 have hlt:=hd.blk.lt
 have hud:u.ownBlock≠some d:=by
  rcases hat with e|e
  ·rw[e];exact hap
  ·rw[e];simp;omega
 have hb:PBlk w1 d S v:=(hd.blk.only (Only.alloc [] w o) (by simp)).only ho (fun hm=>hap (by simpa using hm))
 have o2:=Only.setCell w1 ⟨d,40,none⟩ u
 refine⟨⟨PBlk.set (S:=⟨S.st,S.sq,S.text++[r]⟩) (S':=⟨S.st,S.sq,S.text++[r]⟩) hb (Cm9 hL v u),hown.only o2 (fun g hg hm=>hud (by simp at hm;rw[hg,hm])),hd.low⟩,?_,ActsIn.nil _ _ _,?_⟩
 ·rcases hat with e|e
  ·exact .inl e
  ·exact .inr (.inr ⟨_,e,by simp⟩)
 ·exact((Only.alloc _ w o).trans (ho.mono (fun k hk=>List.mem_cons_of_mem _ hk))).trans (o2.mono (by simp))
theorem Ck5 (S:PS) (hS:S.Ok) (v:Value) (r:Int) (B d:Nat) (w:World) (hd:ParIn w B d v S) (hB:B<=w.heap.size) :
  Calls Tryz.prog 120 #[.pointer (some ⟨d,0,none⟩),.int .i32 r] w (Fed w B d v (oscF S r)):=by
 have hL:=hS.sq.num.len
 have h40:=hd.blk.txt hL
 have hlt:=hd.blk.lt
 by_cases h:S.text.length<1024
 ·have hE:=J0 (osc_more h r)
  have hown:=hd.own
  have hput:=J0 (fun w1 w2 u o=>osc_put (w1:=w1) (w2:=w2) (u:=u) (r:=r) (o:=o) hL hd)
  have hkeep:=J0 (fun w1 o (ho:Only v.ownBlock.toList (w.alloc o) w1)=>(hd.blk.only (Only.alloc [] w o) (by simp)).only ho (fun hm=>hd.apart (by simpa using hm)))
  obtain⟨ao,c,rfl,_,_,_⟩:=hown.shape
  clear hd
  generalize hT:S.text=T at *
  replace hT:=J0 hT
  go_enter Tryz.func120,Tryz.ntmps120
  go_wp2_with (with_reducible refine J6 18 ?_;go_must (refine Ai7 Bw0 rfl (.tmp 15) (.tmp 17) rfl B (.slice ao T.length c) T [r] _ (w.heap.size+1) 1 rfl rfl (hown.alloc _) (Nums.one _ _ _ _) (by simp;omega) (by simp;omega) (by simp[maxLen];omega) ?_);go_must (intro u w1 hown1 ho1 hat1;obtain⟨a1,n1,c1,rfl⟩:=Bg6 hown1;have hb1:=hkeep.out w1 _ ho1;have k40:=hb1.txt hL;have f40:=hb1.free 40;have hf:=J0 (hput.out w1 _ _ _ hown1 ho1 hat1 rfl);clear hb1 hown1 ho1 hat1))
  go_ret
  rw[hE.out]
  exact⟨_,_,rfl,hf.out⟩
 ·have hE:=J0 (osc_full h r)
  have hd':=J0 hd
  obtain⟨ao,c,rfl,_,_,_⟩:=hd.own.shape
  clear hd
  go_enter Tryz.func120,Tryz.ntmps120
  go_wp2_with fail
  go_ret
  rw[hE.out]
  exact An8 hd'.out
theorem controlF_exec {S:PS} (h:0<=S.st/\S.st<=6) (r:Int):controlF S r=([execA r],S):=if_pos h
theorem An5 (S:PS) (hS:S.Ok) (v:Value) (r:Int) (B d:Nat) (w:World) (hd:ParIn w B d v S) :
  Calls Tryz.prog 86 #[.pointer (some ⟨d,0,none⟩),.int .i32 r] w (Fed w B d v (controlF S r)):=by
 have hL:=hS.sq.num.len
 have h0:=hd.blk.c0
 have hd':=J0 hd
 clear hd
 obtain⟨hs0,hs1⟩:=hS.st
 by_cases h:S.st<=6
 ·have hE:=J0 (controlF_exec ⟨hs0,h⟩ r)
  generalize S.st=s at h0 hs0 hs1 h
  rcases(by omega:s=0\/s=1\/s=2\/s=3\/s=4\/s=5\/s=6) with rfl|rfl|rfl|rfl|rfl|rfl|rfl
  all_goals
   clear hs0 hs1 h
   go_enter Tryz.func86,Tryz.ntmps86
   go_wp2_with fail
   refine(Bz0 r w).mono ?_
   rintro e w1 ⟨rfl,hb1⟩
   go_wp2_with fail
   go_ret
   rw[hE.out]
   exact⟨_,v,rfl,Bw1 hd'.out (An0 w1 w.heap.size hb1.size _ _ _ (Bm7 w1 _ 2 r 0 0)) (Aa0 hb1 (Aa1 _ _))⟩
 ·have q:∀k:Int,0<=k->k<=6->(S.st == k)=false:=fun k _ _=>by simp;omega
  have q0:=q 0 (by omega) (by omega)
  have q1:=q 1 (by omega) (by omega)
  have q2:=q 2 (by omega) (by omega)
  have q3:=q 3 (by omega) (by omega)
  have q4:=q 4 (by omega) (by omega)
  have q5:=q 5 (by omega) (by omega)
  have q6:=q 6 (by omega) (by omega)
  clear q
  by_cases h12:S.st=12
  ·by_cases h7:r=7
   ·have hE:Hid (controlF S r=leadF S 0):=by show _=_;unfold controlF;rw[if_neg (by omega),if_pos ⟨h12,h7⟩]
    rw[h12] at h0
    subst h7
    clear h hs0 hs1 h12 q0 q1 q2 q3 q4 q5 q6
    go_enter Tryz.func86,Tryz.ntmps86
    go_wp2_with fail
    (refine(Ac6 S v hL 0 B d w hd'.out).mono ?_;rintro e w9 ⟨x,u,rfl,hf⟩;obtain⟨ax,nx,cx,rfl⟩:=hf.shape;replace hf:=J0 hf;go_wp2_with fail;go_ret;rw[hE.out];exact⟨_,u,rfl,hf.out.after (Only.refl _ _)⟩)
   ·have hE:Hid (controlF S r=([],S)):=by show _=_;unfold controlF;rw[if_neg (by omega),if_neg (fun h=>h7 h.2)]
    have h7':(r == 7)=false:=by simpa using h7
    rw[h12] at h0
    clear h hs0 hs1 h12 h7 q0 q1 q2 q3 q4 q5 q6
    go_enter Tryz.func86,Tryz.ntmps86
    go_wp2_with fail
    go_ret
    rw[hE.out]
    exact An8 hd'.out
  ·have hE:Hid (controlF S r=([],S)):=by show _=_;unfold controlF;rw[if_neg (by omega),if_neg (fun h=>h12 h.1)]
   have q12:(S.st == 12)=false:=by simpa using h12
   clear h hs0 hs1 h12
   go_enter Tryz.func86,Tryz.ntmps86
   go_wp2_with fail
   go_ret
   rw[hE.out]
   exact An8 hd'.out
theorem Az2 (S:PS) (hS:S.Ok) (v:Value) (r:Int) (B d:Nat) (w:World) (hd:ParIn w B d v S) (hB:B<=w.heap.size) :
  Calls Tryz.prog 89 #[.pointer (some ⟨d,0,none⟩),.int .i32 r] w (Fed w B d v (beyondF S r)):=by
 have h0:=hd.blk.c0
 have hd':=J0 hd
 clear hd
 by_cases hs0:S.st=0
 ·have hE:Hid (beyondF S r=groundF S r):=by show _=_;exact if_pos hs0
  rw[hs0] at h0
  go_enter Tryz.func89,Tryz.ntmps89
  go_wp2_with fail
  (refine(Bf1 S v r B d w hd'.out).mono ?_;rintro e w9 ⟨x,u,rfl,hf⟩;obtain⟨ax,nx,cx,rfl⟩:=hf.shape;replace hf:=J0 hf;go_wp2_with fail;go_ret;rw[hE.out];exact⟨_,u,rfl,hf.out.after (Only.refl _ _)⟩)
 by_cases hs12:S.st=12
 ·have hE:Hid (beyondF S r=oscF S r):=by show _=_;unfold beyondF;rw[if_neg hs0,if_pos hs12]
  rw[hs12] at h0
  go_enter Tryz.func89,Tryz.ntmps89
  go_wp2_with fail
  (refine(Ck5 S hS v r B d w hd'.out hB).mono ?_;rintro e w9 ⟨x,u,rfl,hf⟩;obtain⟨ax,nx,cx,rfl⟩:=hf.shape;replace hf:=J0 hf;go_wp2_with fail;go_ret;rw[hE.out];exact⟨_,u,rfl,hf.out.after (Only.refl _ _)⟩)
 ·have hE:Hid (beyondF S r=([],S)):=by show _=_;unfold beyondF;rw[if_neg hs0,if_neg hs12]
  have q0:(S.st == 0)=false:=by simpa using hs0
  have q12:(S.st == 12)=false:=by simpa using hs12
  clear hs0 hs12
  go_enter Tryz.func89,Tryz.ntmps89
  go_wp2_with fail
  go_ret
  rw[hE.out]
  exact An8 hd'.out
theorem upper_any (S:PS) (hS:S.Ok) (v:Value) (r:Int) (B d:Nat) (w:World) (hd:ParIn w B d v S) :
  Calls Tryz.prog 88 #[.pointer (some ⟨d,0,none⟩),.int .i32 r] w (Fed w B d v (upperF S r)):=by
 have hL:=hS.sq.num.len
 have hd':=J0 hd
 clear hd
 by_cases h144:r=144
 ·have hE:Hid (upperF S r=leadF S 7):=by show _=_;unfold upperF;rw[if_pos h144]
  subst h144
  go_enter Tryz.func88,Tryz.ntmps88
  go_wp2_with fail
  (refine(Ac6 S v hL 7 B d w hd'.out).mono ?_;rintro e w9 ⟨x,u,rfl,hf⟩;obtain⟨ax,nx,cx,rfl⟩:=hf.shape;replace hf:=J0 hf;go_wp2_with fail;go_ret;rw[hE.out];exact⟨_,u,rfl,hf.out.after (Only.refl _ _)⟩)
 by_cases h152:r=152\/r=158\/r=159
 ·have hE:Hid (upperF S r=leadF S 13):=by show _=_;unfold upperF;rw[if_neg h144,if_pos h152]
  clear h144
  rcases h152 with rfl|rfl|rfl
  all_goals
   go_enter Tryz.func88,Tryz.ntmps88
   go_wp2_with fail
   (refine(Ac6 S v hL 13 B d w hd'.out).mono ?_;rintro e w9 ⟨x,u,rfl,hf⟩;obtain⟨ax,nx,cx,rfl⟩:=hf.shape;replace hf:=J0 hf;go_wp2_with fail;go_ret;rw[hE.out];exact⟨_,u,rfl,hf.out.after (Only.refl _ _)⟩)
 by_cases h155:r=155
 ·have hE:Hid (upperF S r=leadF S 3):=by show _=_;unfold upperF;rw[if_neg h144,if_neg h152,if_pos h155]
  subst h155
  clear h144 h152
  go_enter Tryz.func88,Tryz.ntmps88
  go_wp2_with fail
  (refine(Ac6 S v hL 3 B d w hd'.out).mono ?_;rintro e w9 ⟨x,u,rfl,hf⟩;obtain⟨ax,nx,cx,rfl⟩:=hf.shape;replace hf:=J0 hf;go_wp2_with fail;go_ret;rw[hE.out];exact⟨_,u,rfl,hf.out.after (Only.refl _ _)⟩)
 by_cases h156:r=156
 ·have hE:Hid (upperF S r=leadF S 0):=by show _=_;unfold upperF;rw[if_neg h144,if_neg h152,if_neg h155,if_pos h156]
  subst h156
  clear h144 h152 h155
  go_enter Tryz.func88,Tryz.ntmps88
  go_wp2_with fail
  (refine(Ac6 S v hL 0 B d w hd'.out).mono ?_;rintro e w9 ⟨x,u,rfl,hf⟩;obtain⟨ax,nx,cx,rfl⟩:=hf.shape;replace hf:=J0 hf;go_wp2_with fail;go_ret;rw[hE.out];exact⟨_,u,rfl,hf.out.after (Only.refl _ _)⟩)
 by_cases h157:r=157
 ·have hE:Hid (upperF S r=leadF S 12):=by show _=_;unfold upperF;rw[if_neg h144,if_neg h152,if_neg h155,if_neg h156,if_pos h157]
  subst h157
  clear h144 h152 h155 h156
  go_enter Tryz.func88,Tryz.ntmps88
  go_wp2_with fail
  (refine(Ac6 S v hL 12 B d w hd'.out).mono ?_;rintro e w9 ⟨x,u,rfl,hf⟩;obtain⟨ax,nx,cx,rfl⟩:=hf.shape;replace hf:=J0 hf;go_wp2_with fail;go_ret;rw[hE.out];exact⟨_,u,rfl,hf.out.after (Only.refl _ _)⟩)
 have hE:Hid (upperF S r=execLeadF S r):=by show _=_;unfold upperF;rw[if_neg h144,if_neg h152,if_neg h155,if_neg h156,if_neg h157]
 have q144:(r == 144)=false:=by simpa using h144
 have q152:(r == 152)=false:=by simp;omega
 have q158:(r == 158)=false:=by simp;omega
 have q159:(r == 159)=false:=by simp;omega
 have q155:(r == 155)=false:=by simpa using h155
 have q156:(r == 156)=false:=by simpa using h156
 have q157:(r == 157)=false:=by simpa using h157
 clear h144 h152 h155 h156 h157
 go_enter Tryz.func88,Tryz.ntmps88
 go_wp2_with fail
 (refine(Bb5 S v hL r B d w hd'.out).mono ?_;rintro e w9 ⟨x,u,rfl,hf⟩;obtain⟨ax,nx,cx,rfl⟩:=hf.shape;replace hf:=J0 hf;go_wp2_with fail;go_ret;rw[hE.out];exact⟨_,u,rfl,hf.out.after (Only.refl _ _)⟩)
def An4:Value:=.agg #[.func (.func 112) #[] #[],.func (.func 113) #[] #[],.func (.func 114) #[] #[],.func (.func 115) #[] #[],.func (.func 116) #[] #[],.func (.func 117) #[] #[],.func (.func 118) #[] #[],.func (.func 115) #[] #[],.func (.func 116) #[] #[],.func (.func 117) #[] #[],.func (.func 119) #[] #[],.func (.func 119) #[] #[],.func (.func 120) #[] #[],.func (.func 119) #[] #[]]
theorem Ah8 (w:World) :
  Calls Tryz.prog 87 #[] w fun e w'=>e=.returned An4/\Below w.heap.size w w':=by
 go_enter Tryz.func87,Tryz.ntmps87
 go_wp2
 exact bodyPost_ret (v:=An4) (by simp[results,Tryz.results87,go_sem,An4]) rfl ⟨rfl,Aa1 _ _⟩
def Ae7 (s:Int) (n:Nat):Prop:=∀w,(Instr.index 181 An4 (.int .u8 s)).run Tryz.prog w=.ok (.func (.func n) #[] #[]) w
theorem stepAt0:Ae7 0 112:=fun _=>by kernel_rfl
theorem stepAt1:Ae7 1 113:=fun _=>by kernel_rfl
theorem stepAt2:Ae7 2 114:=fun _=>by kernel_rfl
theorem stepAt3:Ae7 3 115:=fun _=>by kernel_rfl
theorem stepAt4:Ae7 4 116:=fun _=>by kernel_rfl
theorem stepAt5:Ae7 5 117:=fun _=>by kernel_rfl
theorem stepAt6:Ae7 6 118:=fun _=>by kernel_rfl
theorem stepAt7:Ae7 7 115:=fun _=>by kernel_rfl
theorem stepAt8:Ae7 8 116:=fun _=>by kernel_rfl
theorem stepAt9:Ae7 9 117:=fun _=>by kernel_rfl
theorem stepAt10:Ae7 10 119:=fun _=>by kernel_rfl
theorem stepAt11:Ae7 11 119:=fun _=>by kernel_rfl
theorem stepAt12:Ae7 12 120:=fun _=>by kernel_rfl
theorem stepAt13:Ae7 13 119:=fun _=>by kernel_rfl
structure Mid (r:Int):Prop where
 a:¬r<0
 b:¬1114111<r
 c:(r == 24)=false
 d:(r == 26)=false
 e:(r == 27)=false
 f:¬r<32
 g:r<127
theorem mid_of {r:Int} (h0:32<=r) (h1:r<127):Mid r:=⟨by omega,by omega,by simp;omega,by simp;omega,by simp;omega,by omega,h1⟩
theorem feed_ground (S:PS) (v:Value) (r:Int) (hr:Mid r) (B d:Nat) (w:World) (hd:ParIn w B d v S) (X:Stp) (hix:Ae7 S.st 112)
  (hcon:∀w1,w.heap.size<=w1.heap.size->ParIn w1 B d v S->Calls Tryz.prog 112 #[.pointer (some ⟨d,0,none⟩),.int .i32 r] w1 (Fed w1 B d v X)) :
  Calls Tryz.prog 59 #[.pointer (some ⟨d,0,none⟩),.int .i32 r] w (Fed w B d v X):=by
 have h0:=hd.blk.c0
 have hk:=J0 (fun w' (h:ParIn w' B d v S)=>h.blk.c0)
 have hdr:=J0 (hd.only (Ab2 [] w) (by simp) (by simp))
 obtain⟨ra,rb,rc,rd,re,rf,rg⟩:=hr
 replace hcon:=J0 hcon
 have hiy:∀w,(Instr.index 181 An4 (.int .u8 S.st)).run Tryz.prog w=.ok (.func (.func 112) #[] #[]) w:=hix
 clear hd hix
 generalize S.st=k at h0 hk hiy
 go_enter Tryz.func59,Tryz.ntmps59
 go_wp2_with fail
 go_region_with (first
  |(go_at_call 87;refine(Ah8 _).mono ?_;rintro e w1 ⟨rfl,hb1⟩;have k1:=hk.out _ (hdr.out.new hb1))
  |(go_at_call 112;refine(hcon.out _ hb1.size (hdr.out.new hb1)).mono ?_;rintro e w9 ⟨x,u,rfl,hf⟩;obtain⟨ax,nx,cx,rfl⟩:=hf.shape;replace hf:=J0 hf))
 all_goals go_wp2
 all_goals go_ret
 all_goals exact⟨_,u,rfl,(hf.out.after (Only.of_below hb1 [d])).after (Ab2 _ _)⟩
theorem feed_escape (S:PS) (v:Value) (r:Int) (hr:Mid r) (B d:Nat) (w:World) (hd:ParIn w B d v S) (X:Stp) (hix:Ae7 S.st 113)
  (hcon:∀w1,w.heap.size<=w1.heap.size->ParIn w1 B d v S->Calls Tryz.prog 113 #[.pointer (some ⟨d,0,none⟩),.int .i32 r] w1 (Fed w1 B d v X)) :
  Calls Tryz.prog 59 #[.pointer (some ⟨d,0,none⟩),.int .i32 r] w (Fed w B d v X):=by
 have h0:=hd.blk.c0
 have hk:=J0 (fun w' (h:ParIn w' B d v S)=>h.blk.c0)
 have hdr:=J0 (hd.only (Ab2 [] w) (by simp) (by simp))
 obtain⟨ra,rb,rc,rd,re,rf,rg⟩:=hr
 replace hcon:=J0 hcon
 have hiy:∀w,(Instr.index 181 An4 (.int .u8 S.st)).run Tryz.prog w=.ok (.func (.func 113) #[] #[]) w:=hix
 clear hd hix
 generalize S.st=k at h0 hk hiy
 go_enter Tryz.func59,Tryz.ntmps59
 go_wp2_with fail
 go_region_with (first
  |(go_at_call 87;refine(Ah8 _).mono ?_;rintro e w1 ⟨rfl,hb1⟩;have k1:=hk.out _ (hdr.out.new hb1))
  |(go_at_call 113;refine(hcon.out _ hb1.size (hdr.out.new hb1)).mono ?_;rintro e w9 ⟨x,u,rfl,hf⟩;obtain⟨ax,nx,cx,rfl⟩:=hf.shape;replace hf:=J0 hf))
 all_goals go_wp2
 all_goals go_ret
 all_goals exact⟨_,u,rfl,(hf.out.after (Only.of_below hb1 [d])).after (Ab2 _ _)⟩
theorem feed_escapeInter (S:PS) (v:Value) (r:Int) (hr:Mid r) (B d:Nat) (w:World) (hd:ParIn w B d v S) (X:Stp) (hix:Ae7 S.st 114)
  (hcon:∀w1,w.heap.size<=w1.heap.size->ParIn w1 B d v S->Calls Tryz.prog 114 #[.pointer (some ⟨d,0,none⟩),.int .i32 r] w1 (Fed w1 B d v X)) :
  Calls Tryz.prog 59 #[.pointer (some ⟨d,0,none⟩),.int .i32 r] w (Fed w B d v X):=by
 have h0:=hd.blk.c0
 have hk:=J0 (fun w' (h:ParIn w' B d v S)=>h.blk.c0)
 have hdr:=J0 (hd.only (Ab2 [] w) (by simp) (by simp))
 obtain⟨ra,rb,rc,rd,re,rf,rg⟩:=hr
 replace hcon:=J0 hcon
 have hiy:∀w,(Instr.index 181 An4 (.int .u8 S.st)).run Tryz.prog w=.ok (.func (.func 114) #[] #[]) w:=hix
 clear hd hix
 generalize S.st=k at h0 hk hiy
 go_enter Tryz.func59,Tryz.ntmps59
 go_wp2_with fail
 go_region_with (first
  |(go_at_call 87;refine(Ah8 _).mono ?_;rintro e w1 ⟨rfl,hb1⟩;have k1:=hk.out _ (hdr.out.new hb1))
  |(go_at_call 114;refine(hcon.out _ hb1.size (hdr.out.new hb1)).mono ?_;rintro e w9 ⟨x,u,rfl,hf⟩;obtain⟨ax,nx,cx,rfl⟩:=hf.shape;replace hf:=J0 hf))
 all_goals go_wp2
 all_goals go_ret
 all_goals exact⟨_,u,rfl,(hf.out.after (Only.of_below hb1 [d])).after (Ab2 _ _)⟩
theorem Bj1 (S:PS) (v:Value) (r:Int) (hr:Mid r) (B d:Nat) (w:World) (hd:ParIn w B d v S) (X:Stp) (hix:Ae7 S.st 115)
  (hcon:∀w1,w.heap.size<=w1.heap.size->ParIn w1 B d v S->Calls Tryz.prog 115 #[.pointer (some ⟨d,0,none⟩),.int .i32 r] w1 (Fed w1 B d v X)) :
  Calls Tryz.prog 59 #[.pointer (some ⟨d,0,none⟩),.int .i32 r] w (Fed w B d v X):=by
 have h0:=hd.blk.c0
 have hk:=J0 (fun w' (h:ParIn w' B d v S)=>h.blk.c0)
 have hdr:=J0 (hd.only (Ab2 [] w) (by simp) (by simp))
 obtain⟨ra,rb,rc,rd,re,rf,rg⟩:=hr
 replace hcon:=J0 hcon
 have hiy:∀w,(Instr.index 181 An4 (.int .u8 S.st)).run Tryz.prog w=.ok (.func (.func 115) #[] #[]) w:=hix
 clear hd hix
 generalize S.st=k at h0 hk hiy
 go_enter Tryz.func59,Tryz.ntmps59
 go_wp2_with fail
 go_region_with (first
  |(go_at_call 87;refine(Ah8 _).mono ?_;rintro e w1 ⟨rfl,hb1⟩;have k1:=hk.out _ (hdr.out.new hb1))
  |(go_at_call 115;refine(hcon.out _ hb1.size (hdr.out.new hb1)).mono ?_;rintro e w9 ⟨x,u,rfl,hf⟩;obtain⟨ax,nx,cx,rfl⟩:=hf.shape;replace hf:=J0 hf))
 all_goals go_wp2
 all_goals go_ret
 all_goals exact⟨_,u,rfl,(hf.out.after (Only.of_below hb1 [d])).after (Ab2 _ _)⟩
theorem Bj3 (S:PS) (v:Value) (r:Int) (hr:Mid r) (B d:Nat) (w:World) (hd:ParIn w B d v S) (X:Stp) (hix:Ae7 S.st 116)
  (hcon:∀w1,w.heap.size<=w1.heap.size->ParIn w1 B d v S->Calls Tryz.prog 116 #[.pointer (some ⟨d,0,none⟩),.int .i32 r] w1 (Fed w1 B d v X)) :
  Calls Tryz.prog 59 #[.pointer (some ⟨d,0,none⟩),.int .i32 r] w (Fed w B d v X):=by
 have h0:=hd.blk.c0
 have hk:=J0 (fun w' (h:ParIn w' B d v S)=>h.blk.c0)
 have hdr:=J0 (hd.only (Ab2 [] w) (by simp) (by simp))
 obtain⟨ra,rb,rc,rd,re,rf,rg⟩:=hr
 replace hcon:=J0 hcon
 have hiy:∀w,(Instr.index 181 An4 (.int .u8 S.st)).run Tryz.prog w=.ok (.func (.func 116) #[] #[]) w:=hix
 clear hd hix
 generalize S.st=k at h0 hk hiy
 go_enter Tryz.func59,Tryz.ntmps59
 go_wp2_with fail
 go_region_with (first
  |(go_at_call 87;refine(Ah8 _).mono ?_;rintro e w1 ⟨rfl,hb1⟩;have k1:=hk.out _ (hdr.out.new hb1))
  |(go_at_call 116;refine(hcon.out _ hb1.size (hdr.out.new hb1)).mono ?_;rintro e w9 ⟨x,u,rfl,hf⟩;obtain⟨ax,nx,cx,rfl⟩:=hf.shape;replace hf:=J0 hf))
 all_goals go_wp2
 all_goals go_ret
 all_goals exact⟨_,u,rfl,(hf.out.after (Only.of_below hb1 [d])).after (Ab2 _ _)⟩
theorem Bj2 (S:PS) (v:Value) (r:Int) (hr:Mid r) (B d:Nat) (w:World) (hd:ParIn w B d v S) (X:Stp) (hix:Ae7 S.st 117)
  (hcon:∀w1,w.heap.size<=w1.heap.size->ParIn w1 B d v S->Calls Tryz.prog 117 #[.pointer (some ⟨d,0,none⟩),.int .i32 r] w1 (Fed w1 B d v X)) :
  Calls Tryz.prog 59 #[.pointer (some ⟨d,0,none⟩),.int .i32 r] w (Fed w B d v X):=by
 have h0:=hd.blk.c0
 have hk:=J0 (fun w' (h:ParIn w' B d v S)=>h.blk.c0)
 have hdr:=J0 (hd.only (Ab2 [] w) (by simp) (by simp))
 obtain⟨ra,rb,rc,rd,re,rf,rg⟩:=hr
 replace hcon:=J0 hcon
 have hiy:∀w,(Instr.index 181 An4 (.int .u8 S.st)).run Tryz.prog w=.ok (.func (.func 117) #[] #[]) w:=hix
 clear hd hix
 generalize S.st=k at h0 hk hiy
 go_enter Tryz.func59,Tryz.ntmps59
 go_wp2_with fail
 go_region_with (first
  |(go_at_call 87;refine(Ah8 _).mono ?_;rintro e w1 ⟨rfl,hb1⟩;have k1:=hk.out _ (hdr.out.new hb1))
  |(go_at_call 117;refine(hcon.out _ hb1.size (hdr.out.new hb1)).mono ?_;rintro e w9 ⟨x,u,rfl,hf⟩;obtain⟨ax,nx,cx,rfl⟩:=hf.shape;replace hf:=J0 hf))
 all_goals go_wp2
 all_goals go_ret
 all_goals exact⟨_,u,rfl,(hf.out.after (Only.of_below hb1 [d])).after (Ab2 _ _)⟩
