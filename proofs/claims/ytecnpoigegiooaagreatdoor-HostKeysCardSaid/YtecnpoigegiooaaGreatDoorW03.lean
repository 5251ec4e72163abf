/- Part 3 of HostKeys. -/
import Derived.Test.YtecnpoigegiooaaGreatDoorW02
import Derived.Laws.EntriesVeiled
set_option maxHeartbeats 16000000
set_option maxRecDepth 100000
namespace Go.Proofs.YtecnpoigegiooaaGreatDoor.Prs
open Tryz
open Go RowKit Com Par
theorem Cay{S:PS}{r:Int}(h:r<48):Aau S r=E4 (S.take r) (Abr S.st):=if_pos h
theorem Bxw{S:PS}{r:Int}(h:¬r<48)(h2:r<64):Aau S r=E4 S (Abn S.st):=by unfold Aau;rw[if_neg h,if_pos h2]
theorem Cax{S:PS}{r:Int}(h:¬r<48)(h2:¬r<64):Aau S r=Ala S (Adc S.st) r (Acb S.st):=by unfold Aau;rw[if_neg h,if_neg h2]
theorem Auf(S:PS)(hS:S.Ok)(v:Value)(r:Int)(B d:Nat)(w:World)(hd:C9 w B d v S) :
  Calls prog 117 #[.pointer (some ⟨d,0,none⟩),.int .i32 r] w (Fed w B d v (Aau S r)):=by
 have hL:=hS.sq.num.len
 have hd':=J0 hd
 have Aar:=J0 (Atr S v d w hd.blk)
 clear hd
 by_cases h:r<48
 ·have hE:=J0 (Cay (S:=S) h)
  go_enter func117,ntmps117
  go_wp2_with fail
  refine Aar.out.mono ?_
  rintro e w1 ⟨rfl,hb1⟩
  have hp1:=hd'.out.new (hb1)
  have o1:=A0.A1 hb1 [d]
  generalize U1 S.st=x0
  generalize Abr S.st=x1 at hE |-
  generalize Abn S.st=x2
  generalize Acb S.st=x3
  generalize Adc S.st=x4
  have hc:=Block.made w1 223 #[.int .u8 x0,.int .u8 x1,.int .u8 x2,.int .u8 x3,.int .u8 x4]
  have hlt:=hp1.blk.lt
  have hp2:=hp1.new (A3 w1 (.cells #[.int .u8 x0,.int .u8 x1,.int .u8 x2,.int .u8 x3,.int .u8 x4] 223))
  have o2:=o1.trans (A0.alloc [d] w1 (.cells #[.int .u8 x0,.int .u8 x1,.int .u8 x2,.int .u8 x3,.int .u8 x4] 223))
  replace hc:=J0 hc
  replace hp2:=J0 hp2
  replace o2:=J0 o2
  obtain⟨cb,hcb⟩:∃cb,cb=w1.heap.size:=⟨_,rfl⟩
  rw[<- hcb]at hc hlt
  clear hp1 hb1 o1
  go_wp2_with fail
  refine(Bfn S v hL hS.sq.cnt r d _ hp2.out.blk).mono ?_
  rintro e w3 ⟨⟨y,rfl⟩,hb3,ho3⟩
  have hp3:=J0 (hp2.out.G9 hb3 ho3 rfl)
  have hc3:=hc.out.only ho3 (by simp;omega)
  rw[hcb]at hc3
  have k1:=hc3.cell 1 rfl
  have o3:=J0 (o2.out.trans ho3)
  clear hb3 ho3 hc3
  go_wp2_with fail
  (refine(U8 (S.take r) v (take_len hL r) x1 B d w3 hp3.out).mono ?_;rintro e w9 ⟨x,u,rfl,hf⟩;obtain⟨ax,nx,cx,rfl⟩:=hf.shape;replace hf:=J0 hf;go_wp2_with fail;go_ret;rw[hE.out];exact⟨_,u,rfl,hf.out.after (o3.out)⟩)
 by_cases h2:r<64
 ·have hE:=J0 (Bxw (S:=S) h h2)
  go_enter func117,ntmps117
  go_wp2_with fail
  refine Aar.out.mono ?_
  rintro e w1 ⟨rfl,hb1⟩
  have hp1:=hd'.out.new (hb1)
  have o1:=A0.A1 hb1 [d]
  generalize U1 S.st=x0
  generalize Abr S.st=x1
  generalize Abn S.st=x2 at hE |-
  generalize Acb S.st=x3
  generalize Adc S.st=x4
  have hc:=Block.made w1 223 #[.int .u8 x0,.int .u8 x1,.int .u8 x2,.int .u8 x3,.int .u8 x4]
  have k2:=hc.cell 2 rfl
  have k3:=hc.cell 3 rfl
  have k4:=hc.cell 4 rfl
  have hp2:=hp1.new (A3 w1 (.cells #[.int .u8 x0,.int .u8 x1,.int .u8 x2,.int .u8 x3,.int .u8 x4] 223))
  have o2:=o1.trans (A0.alloc [d] w1 (.cells #[.int .u8 x0,.int .u8 x1,.int .u8 x2,.int .u8 x3,.int .u8 x4] 223))
  replace hp2:=J0 hp2
  replace o2:=J0 o2
  clear hp1 hb1 o1 hc
  go_wp2_with fail
  (refine(U8 S v hL x2 B d _ hp2.out).mono ?_;rintro e w9 ⟨x,u,rfl,hf⟩;obtain⟨ax,nx,cx,rfl⟩:=hf.shape;replace hf:=J0 hf;go_wp2_with fail;go_ret;rw[hE.out];exact⟨_,u,rfl,hf.out.after (o2.out)⟩)
 ·have hE:=J0 (Cax (S:=S) h h2)
  go_enter func117,ntmps117
  go_wp2_with fail
  refine Aar.out.mono ?_
  rintro e w1 ⟨rfl,hb1⟩
  have hp1:=hd'.out.new (hb1)
  have o1:=A0.A1 hb1 [d]
  generalize U1 S.st=x0
  generalize Abr S.st=x1
  generalize Abn S.st=x2
  generalize Acb S.st=x3 at hE |-
  generalize Adc S.st=x4 at hE |-
  have hc:=Block.made w1 223 #[.int .u8 x0,.int .u8 x1,.int .u8 x2,.int .u8 x3,.int .u8 x4]
  have k2:=hc.cell 2 rfl
  have k3:=hc.cell 3 rfl
  have k4:=hc.cell 4 rfl
  have hp2:=hp1.new (A3 w1 (.cells #[.int .u8 x0,.int .u8 x1,.int .u8 x2,.int .u8 x3,.int .u8 x4] 223))
  have o2:=o1.trans (A0.alloc [d] w1 (.cells #[.int .u8 x0,.int .u8 x1,.int .u8 x2,.int .u8 x3,.int .u8 x4] 223))
  replace hp2:=J0 hp2
  replace o2:=J0 o2
  clear hp1 hb1 o1 hc
  go_wp2_with fail
  (refine(Bgf S v hL hS.sq.cnt x4 r x3 B d _ hp2.out).mono ?_;rintro e w9 ⟨x,u,rfl,hf⟩;obtain⟨ax,nx,cx,rfl⟩:=hf.shape;replace hf:=J0 hf;go_wp2_with fail;go_ret;rw[hE.out];exact⟨_,u,rfl,hf.out.after (o2.out)⟩)
theorem Bch(x0 x1 x2 x3 x4:Int)(w:World):(Instr.field 223 (.agg #[.int .u8 x0,.int .u8 x1,.int .u8 x2,.int .u8 x3,.int .u8 x4]) 0).run prog w=.ok (.int .u8 x0) w:=by
 kernel_rfl
theorem Bye{S:PS}{r:Int}(h:48<=r/\r<=57):Aav S r=E4 (S.num (Ajq S.sq.num (r-48))) (U1 S.st):=if_pos h
theorem Bvi{S:PS}:Aav S 59=E4 (S.num (X8 S.sq.num)) (U1 S.st):=by unfold Aav;rw[if_neg (by omega),if_pos rfl]
theorem Bvh{S:PS}{r:Int}(h:¬(48<=r/\r<=57))(h2:¬r=59):Aav S r=Aau S r:=by unfold Aav;rw[if_neg h,if_neg h2]
theorem Aum(S:PS)(hS:S.Ok)(v:Value)(r:Int)(B d:Nat)(w:World)(hd:C9 w B d v S) :
  Calls prog 116 #[.pointer (some ⟨d,0,none⟩),.int .i32 r] w (Fed w B d v (Aav S r)):=by
 have hL:=hS.sq.num.len
 have hd':=J0 hd
 clear hd
 by_cases h:48<=r/\r<=57
 ·have hE:=J0 (Bye (S:=S) h)
  have hok:=Bja hS.sq.num (r-48)
  obtain⟨h48,h57⟩:=h
  go_enter func116,ntmps116
  go_wp2_with fail
  refine(Bzt S v hS.sq.num (r-48) (by omega) (by omega) d w hd'.out.blk).mono ?_
  rintro e w1 ⟨⟨y,rfl⟩,hb1,ho1⟩
  have hp1:=J0 (hd'.out.G9 hb1 ho1 rfl)
  have Aar:=J0 (Atr _ v d w1 hb1)
  clear hb1
  generalize hS1:S.num (Ajq S.sq.num (r-48))=S1 at hp1 Aar hE
  have e1:S1.st=S.st:=by rw[<- hS1];rfl
  have hL1:S1.sq.num.n.length<=32:=by rw[<- hS1];exact hok.len
  rw[e1]at Aar
  clear hS1 e1
  go_wp2_with fail
  refine Aar.out.mono ?_
  rintro e w2 ⟨rfl,hb2⟩
  have hp2:=J0 (hp1.out.new hb2)
  have o2:=J0 (ho1.trans (A0.A1 hb2 [d]))
  have hfd:=Bch
  generalize U1 S.st=x0 at hE |-
  clear hb2 ho1
  go_wp2_with fail
  (refine(U8 S1 v hL1 x0 B d w2 hp2.out).mono ?_;rintro e w9 ⟨x,u,rfl,hf⟩;obtain⟨ax,nx,cx,rfl⟩:=hf.shape;replace hf:=J0 hf;go_wp2_with fail;go_ret;rw[hE.out];exact⟨_,u,rfl,hf.out.after (o2.out)⟩)
 by_cases h59:r=59
 ·subst h59
  have hE:=J0 (Bvi (S:=S))
  have hok:=Bmf hS.sq.num
  clear h
  go_enter func116,ntmps116
  go_wp2_with fail
  refine(Anf S v hL d w hd'.out.blk).mono ?_
  rintro e w1 ⟨⟨y,rfl⟩,hb1,ho1⟩
  have hp1:=J0 (hd'.out.G9 hb1 ho1 rfl)
  have Aar:=J0 (Atr _ v d w1 hb1)
  clear hb1
  generalize hS1:S.num (X8 S.sq.num)=S1 at hp1 Aar hE
  have e1:S1.st=S.st:=by rw[<- hS1];rfl
  have hL1:S1.sq.num.n.length<=32:=by rw[<- hS1];exact hok.len
  rw[e1]at Aar
  clear hS1 e1
  go_wp2_with fail
  refine Aar.out.mono ?_
  rintro e w2 ⟨rfl,hb2⟩
  have hp2:=J0 (hp1.out.new hb2)
  have o2:=J0 (ho1.trans (A0.A1 hb2 [d]))
  have hfd:=Bch
  generalize U1 S.st=x0 at hE |-
  clear hb2 ho1
  go_wp2_with fail
  (refine(U8 S1 v hL1 x0 B d w2 hp2.out).mono ?_;rintro e w9 ⟨x,u,rfl,hf⟩;obtain⟨ax,nx,cx,rfl⟩:=hf.shape;replace hf:=J0 hf;go_wp2_with fail;go_ret;rw[hE.out];exact⟨_,u,rfl,hf.out.after (o2.out)⟩)
 ·have hE:=J0 (Bvh (S:=S) h h59)
  have q59:(r==59)=false:=by simpa using h59
  clear h59
  by_cases h48:48<=r
  ·have h57:¬r<=57:=by omega
   clear h
   go_enter func116,ntmps116
   go_wp2_with fail
   (refine(Auf S hS v r B d w hd'.out).mono ?_;rintro e w9 ⟨x,u,rfl,hf⟩;obtain⟨ax,nx,cx,rfl⟩:=hf.shape;replace hf:=J0 hf;go_wp2_with fail;go_ret;rw[hE.out];exact⟨_,u,rfl,hf.out.after (A0.refl _ _)⟩)
  ·clear h
   go_enter func116,ntmps116
   go_wp2_with fail
   (refine(Auf S hS v r B d w hd'.out).mono ?_;rintro e w9 ⟨x,u,rfl,hf⟩;obtain⟨ax,nx,cx,rfl⟩:=hf.shape;replace hf:=J0 hf;go_wp2_with fail;go_ret;rw[hE.out];exact⟨_,u,rfl,hf.out.after (A0.refl _ _)⟩)
theorem Bhq(S:PS)(hS:S.Ok)(v:Value)(r:Int)(B d:Nat)(w:World)(hd:C9 w B d v S) :
  Calls prog 115 #[.pointer (some ⟨d,0,none⟩),.int .i32 r] w (Fed w B d v (Afz S r)):=by
 have hL:=hS.sq.num.len
 have hd':=J0 hd
 have h1:=hd.blk.c1
 have f1:=hd.blk.free 1
 have C4:=J0 (hd.blk.set (Cpw S v r))
 clear hd
 by_cases h:60<=r/\r<64
 ·have hE:Hid (Afz S r=E4 (S.L7 r) (U1 S.st)):=by show _=_;exact if_pos h
  obtain⟨h60,h64⟩:=h
  have ho1:=A0.setCell w ⟨d,1,none⟩ (.int .i32 r)
  have hp1:=J0 (hd'.out.G9 C4.out ho1 rfl)
  have Aar:=J0 (Atr _ v d _ C4.out)
  have ho1':=J0 ho1
  clear ho1 C4
  generalize hS1:S.L7 r=S1 at hp1 Aar hE
  have e1:S1.st=S.st:=by rw[<- hS1];rfl
  have hL1:S1.sq.num.n.length<=32:=by rw[<- hS1];exact hL
  rw[e1]at Aar
  clear hS1 e1
  go_enter func115,ntmps115
  go_wp2_with fail
  refine Aar.out.mono ?_
  rintro e w2 ⟨rfl,hb2⟩
  have hp2:=J0 (hp1.out.new hb2)
  have o2:=J0 (ho1'.out.trans (A0.A1 hb2 [d]))
  have hfd:=Bch
  generalize U1 S.st=x0 at hE |-
  clear hb2
  go_wp2_with fail
  (refine(U8 S1 v hL1 x0 B d w2 hp2.out).mono ?_;rintro e w9 ⟨x,u,rfl,hf⟩;obtain⟨ax,nx,cx,rfl⟩:=hf.shape;replace hf:=J0 hf;go_wp2_with fail;go_ret;rw[hE.out];exact⟨_,u,rfl,hf.out.after (o2.out)⟩)
 ·have hE:Hid (Afz S r=Aav S r):=by show _=_;exact if_neg h
  clear C4
  by_cases h60:60<=r
  ·have h64:¬r<64:=by omega
   clear h
   go_enter func115,ntmps115
   go_wp2_with fail
   (refine(Aum S hS v r B d w hd'.out).mono ?_;rintro e w9 ⟨x,u,rfl,hf⟩;obtain⟨ax,nx,cx,rfl⟩:=hf.shape;replace hf:=J0 hf;go_wp2_with fail;go_ret;rw[hE.out];exact⟨_,u,rfl,hf.out.after (A0.refl _ _)⟩)
  ·clear h
   go_enter func115,ntmps115
   go_wp2_with fail
   (refine(Aum S hS v r B d w hd'.out).mono ?_;rintro e w9 ⟨x,u,rfl,hf⟩;obtain⟨ax,nx,cx,rfl⟩:=hf.shape;replace hf:=J0 hf;go_wp2_with fail;go_ret;rw[hE.out];exact⟨_,u,rfl,hf.out.after (A0.refl _ _)⟩)
theorem Cgp{S:PS}(h:¬S.text.length<1024)(r:Int):Ach S r=([],S):=by unfold Ach;rw[if_neg h]
theorem Cgq{S:PS}(h:S.text.length<1024)(r:Int):Ach S r=([],⟨S.st,S.sq,S.text++[r]⟩):=by unfold Ach;rw[if_pos h]
theorem Bab{w:World}{B:Nat}{e:TypeId}{k:IntKind}{v:Value}{l:List Int}(h:Own w B e k v l):∃ao n c,v=.slice ao n c:=by
 obtain⟨ao,c,e,_⟩:=h.shape
 exact⟨ao,_,c,e⟩
theorem Clm{w w1 w2:World}{B d:Nat}{v u:Value}{S:PS}{r:Int}{o:Obj}(hL:S.sq.num.n.length<=32)(hd:C9 w B d v S)(C0:Own w1 B 21 .i32 u (S.text++[r]))(ho:A0 v.ownBlock.toList (w.alloc o) w1)
  (hat:u.ownBlock=v.ownBlock\/u.ownBlock=some (w.alloc o).heap.size) (hw:w2=w1.setCell ⟨d,40,none⟩ u):Ada w B d v ⟨S.st,S.sq,S.text++[r]⟩ [] (.slice none 0 0) u w2:=by
 subst hw
 have hap:=hd.apart
 have hlt:=hd.blk.lt
 have hud:u.ownBlock≠some d:=by
  rcases hat with e|e
  ·rw[e];exact hap
  ·rw[e];simp;omega
 have hb:D0 w1 d S v:=(hd.blk.only (A0.alloc [] w o) (by simp)).only ho (fun hm=>hap (by simpa using hm))
 have o2:=A0.setCell w1 ⟨d,40,none⟩ u
 refine⟨⟨D0.set (S:=⟨S.st,S.sq,S.text++[r]⟩) (S':=⟨S.st,S.sq,S.text++[r]⟩) hb (Bnb hL v u),C0.only o2 (fun g hg hm=>hud (by simp at hm;rw[hg,hm])),hd.low⟩,?_,F4.nil _ _ _,?_⟩
 ·rcases hat with e|e
  ·exact .inl e
  ·exact .inr (.inr ⟨_,e,by simp⟩)
 ·exact((A0.alloc _ w o).trans (ho.mono (fun k hk=>List.mem_cons_of_mem _ hk))).trans (o2.mono (by simp))
theorem Bmk(S:PS)(hS:S.Ok)(v:Value)(r:Int)(B d:Nat)(w:World)(hd:C9 w B d v S)(hB:B<=w.heap.size) :
  Calls prog 120 #[.pointer (some ⟨d,0,none⟩),.int .i32 r] w (Fed w B d v (Ach S r)):=by
 have hL:=hS.sq.num.len
 have h40:=hd.blk.txt hL
 have hlt:=hd.blk.lt
 by_cases h:S.text.length<1024
 ·have hE:=J0 (Cgq h r)
  have C0:=hd.own
  have E1:=J0 (fun w1 w2 u o=>Clm (w1:=w1) (w2:=w2) (u:=u) (r:=r) (o:=o) hL hd)
  have Y9:=J0 (fun w1 o (ho:A0 v.ownBlock.toList (w.alloc o) w1)=>(hd.blk.only (A0.alloc [] w o) (by simp)).only ho (fun hm=>hd.apart (by simpa using hm)))
  obtain⟨ao,c,rfl,_,_,_⟩:=C0.shape
  clear hd
  generalize hT:S.text=T at *
  replace hT:=J0 hT
  go_enter func120,ntmps120
  go_wp2_with(with_reducible refine J6 18 ?_;go_must(refine Akq Alm rfl (.tmp 15) (.tmp 17) rfl B (.slice ao T.length c) T [r] _ (w.heap.size+1) 1 rfl rfl (C0.alloc _) (A8.one _ _ _ _) (by simp;omega) (by simp;omega) (by simp[maxLen];omega) ?_);go_must(intro u w1 Aah ho1 Ago;obtain⟨a1,n1,c1,rfl⟩:=Bab Aah;have hb1:=Y9.out w1 _ ho1;have k40:=hb1.txt hL;have f40:=hb1.free 40;have hf:=J0 (E1.out w1 _ _ _ Aah ho1 Ago rfl);clear hb1 Aah ho1 Ago))
  go_ret
  rw[hE.out]
  exact⟨_,_,rfl,hf.out⟩
 ·have hE:=J0 (Cgp h r)
  have hd':=J0 hd
  obtain⟨ao,c,rfl,_,_,_⟩:=hd.own.shape
  clear hd
  go_enter func120,ntmps120
  go_wp2_with fail
  go_ret
  rw[hE.out]
  exact Aku hd'.out
theorem Bsl{S:PS}(h:0<=S.st/\S.st<=6)(r:Int):Adq S r=([Agd r],S):=if_pos h
theorem Ape(S:PS)(hS:S.Ok)(v:Value)(r:Int)(B d:Nat)(w:World)(hd:C9 w B d v S) :
  Calls prog 86 #[.pointer (some ⟨d,0,none⟩),.int .i32 r] w (Fed w B d v (Adq S r)):=by
 have hL:=hS.sq.num.len
 have h0:=hd.blk.c0
 have hd':=J0 hd
 clear hd
 obtain⟨hs0,hs1⟩:=hS.st
 by_cases h:S.st<=6
 ·have hE:=J0 (Bsl ⟨hs0,h⟩ r)
  generalize S.st=s at h0 hs0 hs1 h
  rcases(by omega:s=0\/s=1\/s=2\/s=3\/s=4\/s=5\/s=6)with rfl|rfl|rfl|rfl|rfl|rfl|rfl
  all_goals
   clear hs0 hs1 h
   go_enter func86,ntmps86
   go_wp2_with fail
   refine(Bjc r w).mono ?_
   rintro e w1 ⟨rfl,hb1⟩
   go_wp2_with fail
   go_ret
   rw[hE.out]
   exact⟨_,v,rfl,Bbh hd'.out (Amw w1 w.heap.size hb1.size _ _ _ (Ban w1 _ 2 r 0 0)) (A2 hb1 (A3 _ _))⟩
 ·have q:∀k:Int,0<=k->k<=6->(S.st==k)=false:=fun k _ _=>by simp;omega
  have q0:=q 0 (by omega) (by omega)
  have q1:=q 1 (by omega) (by omega)
  have q2:=q 2 (by omega) (by omega)
  have q3:=q 3 (by omega) (by omega)
  have q4:=q 4 (by omega) (by omega)
  have q5:=q 5 (by omega) (by omega)
  have q6:=q 6 (by omega) (by omega)
  clear q
  by_cases h12:S.st=12
  ·by_cases h7:r=7
   ·have hE:Hid (Adq S r=E4 S 0):=by show _=_;unfold Adq;rw[if_neg (by omega),if_pos ⟨h12,h7⟩]
    rw[h12]at h0
    subst h7
    clear h hs0 hs1 h12 q0 q1 q2 q3 q4 q5 q6
    go_enter func86,ntmps86
    go_wp2_with fail
    (refine(U8 S v hL 0 B d w hd'.out).mono ?_;rintro e w9 ⟨x,u,rfl,hf⟩;obtain⟨ax,nx,cx,rfl⟩:=hf.shape;replace hf:=J0 hf;go_wp2_with fail;go_ret;rw[hE.out];exact⟨_,u,rfl,hf.out.after (A0.refl _ _)⟩)
   ·have hE:Hid (Adq S r=([],S)):=by show _=_;unfold Adq;rw[if_neg (by omega),if_neg (fun h=>h7 h.2)]
    have h7':(r==7)=false:=by simpa using h7
    rw[h12]at h0
    clear h hs0 hs1 h12 h7 q0 q1 q2 q3 q4 q5 q6
    go_enter func86,ntmps86
    go_wp2_with fail
    go_ret
    rw[hE.out]
    exact Aku hd'.out
  ·have hE:Hid (Adq S r=([],S)):=by show _=_;unfold Adq;rw[if_neg (by omega),if_neg (fun h=>h12 h.1)]
   have q12:(S.st==12)=false:=by simpa using h12
   clear h hs0 hs1 h12
   go_enter func86,ntmps86
   go_wp2_with fail
   go_ret
   rw[hE.out]
   exact Aku hd'.out
theorem Ayx(S:PS)(hS:S.Ok)(v:Value)(r:Int)(B d:Nat)(w:World)(hd:C9 w B d v S)(hB:B<=w.heap.size) :
  Calls prog 89 #[.pointer (some ⟨d,0,none⟩),.int .i32 r] w (Fed w B d v (Adv S r)):=by
 have h0:=hd.blk.c0
 have hd':=J0 hd
 clear hd
 by_cases hs0:S.st=0
 ·have hE:Hid (Adv S r=Ank S r):=by show _=_;exact if_pos hs0
  rw[hs0]at h0
  go_enter func89,ntmps89
  go_wp2_with fail
  (refine(Bfp S v r B d w hd'.out).mono ?_;rintro e w9 ⟨x,u,rfl,hf⟩;obtain⟨ax,nx,cx,rfl⟩:=hf.shape;replace hf:=J0 hf;go_wp2_with fail;go_ret;rw[hE.out];exact⟨_,u,rfl,hf.out.after (A0.refl _ _)⟩)
 by_cases Ast:S.st=12
 ·have hE:Hid (Adv S r=Ach S r):=by show _=_;unfold Adv;rw[if_neg hs0,if_pos Ast]
  rw[Ast]at h0
  go_enter func89,ntmps89
  go_wp2_with fail
  (refine(Bmk S hS v r B d w hd'.out hB).mono ?_;rintro e w9 ⟨x,u,rfl,hf⟩;obtain⟨ax,nx,cx,rfl⟩:=hf.shape;replace hf:=J0 hf;go_wp2_with fail;go_ret;rw[hE.out];exact⟨_,u,rfl,hf.out.after (A0.refl _ _)⟩)
 ·have hE:Hid (Adv S r=([],S)):=by show _=_;unfold Adv;rw[if_neg hs0,if_neg Ast]
  have q0:(S.st==0)=false:=by simpa using hs0
  have q12:(S.st==12)=false:=by simpa using Ast
  clear hs0 Ast
  go_enter func89,ntmps89
  go_wp2_with fail
  go_ret
  rw[hE.out]
  exact Aku hd'.out
theorem Cda(S:PS)(hS:S.Ok)(v:Value)(r:Int)(B d:Nat)(w:World)(hd:C9 w B d v S) :
  Calls prog 88 #[.pointer (some ⟨d,0,none⟩),.int .i32 r] w (Fed w B d v (X6 S r)):=by
 have hL:=hS.sq.num.len
 have hd':=J0 hd
 clear hd
 by_cases Adf:r=144
 ·have hE:Hid (X6 S r=E4 S 7):=by show _=_;unfold X6;rw[if_pos Adf]
  subst Adf
  go_enter func88,ntmps88
  go_wp2_with fail
  (refine(U8 S v hL 7 B d w hd'.out).mono ?_;rintro e w9 ⟨x,u,rfl,hf⟩;obtain⟨ax,nx,cx,rfl⟩:=hf.shape;replace hf:=J0 hf;go_wp2_with fail;go_ret;rw[hE.out];exact⟨_,u,rfl,hf.out.after (A0.refl _ _)⟩)
 by_cases Agm:r=152\/r=158\/r=159
 ·have hE:Hid (X6 S r=E4 S 13):=by show _=_;unfold X6;rw[if_neg Adf,if_pos Agm]
  clear Adf
  rcases Agm with rfl|rfl|rfl
  all_goals
   go_enter func88,ntmps88
   go_wp2_with fail
   (refine(U8 S v hL 13 B d w hd'.out).mono ?_;rintro e w9 ⟨x,u,rfl,hf⟩;obtain⟨ax,nx,cx,rfl⟩:=hf.shape;replace hf:=J0 hf;go_wp2_with fail;go_ret;rw[hE.out];exact⟨_,u,rfl,hf.out.after (A0.refl _ _)⟩)
 by_cases Aiq:r=155
 ·have hE:Hid (X6 S r=E4 S 3):=by show _=_;unfold X6;rw[if_neg Adf,if_neg Agm,if_pos Aiq]
  subst Aiq
  clear Adf Agm
  go_enter func88,ntmps88
  go_wp2_with fail
  (refine(U8 S v hL 3 B d w hd'.out).mono ?_;rintro e w9 ⟨x,u,rfl,hf⟩;obtain⟨ax,nx,cx,rfl⟩:=hf.shape;replace hf:=J0 hf;go_wp2_with fail;go_ret;rw[hE.out];exact⟨_,u,rfl,hf.out.after (A0.refl _ _)⟩)
 by_cases Alx:r=156
 ·have hE:Hid (X6 S r=E4 S 0):=by show _=_;unfold X6;rw[if_neg Adf,if_neg Agm,if_neg Aiq,if_pos Alx]
  subst Alx
  clear Adf Agm Aiq
  go_enter func88,ntmps88
  go_wp2_with fail
  (refine(U8 S v hL 0 B d w hd'.out).mono ?_;rintro e w9 ⟨x,u,rfl,hf⟩;obtain⟨ax,nx,cx,rfl⟩:=hf.shape;replace hf:=J0 hf;go_wp2_with fail;go_ret;rw[hE.out];exact⟨_,u,rfl,hf.out.after (A0.refl _ _)⟩)
 by_cases Asd:r=157
 ·have hE:Hid (X6 S r=E4 S 12):=by show _=_;unfold X6;rw[if_neg Adf,if_neg Agm,if_neg Aiq,if_neg Alx,if_pos Asd]
  subst Asd
  clear Adf Agm Aiq Alx
  go_enter func88,ntmps88
  go_wp2_with fail
  (refine(U8 S v hL 12 B d w hd'.out).mono ?_;rintro e w9 ⟨x,u,rfl,hf⟩;obtain⟨ax,nx,cx,rfl⟩:=hf.shape;replace hf:=J0 hf;go_wp2_with fail;go_ret;rw[hE.out];exact⟨_,u,rfl,hf.out.after (A0.refl _ _)⟩)
 have hE:Hid (X6 S r=Akt S r):=by show _=_;unfold X6;rw[if_neg Adf,if_neg Agm,if_neg Aiq,if_neg Alx,if_neg Asd]
 have q144:(r==144)=false:=by simpa using Adf
 have q152:(r==152)=false:=by simp;omega
 have q158:(r==158)=false:=by simp;omega
 have q159:(r==159)=false:=by simp;omega
 have q155:(r==155)=false:=by simpa using Aiq
 have q156:(r==156)=false:=by simpa using Alx
 have q157:(r==157)=false:=by simpa using Asd
 clear Adf Agm Aiq Alx Asd
 go_enter func88,ntmps88
 go_wp2_with fail
 (refine(Bfg S v hL r B d w hd'.out).mono ?_;rintro e w9 ⟨x,u,rfl,hf⟩;obtain⟨ax,nx,cx,rfl⟩:=hf.shape;replace hf:=J0 hf;go_wp2_with fail;go_ret;rw[hE.out];exact⟨_,u,rfl,hf.out.after (A0.refl _ _)⟩)
def Acr:Value:=.agg #[.func (.func 112) #[] #[],.func (.func 113) #[] #[],.func (.func 114) #[] #[],.func (.func 115) #[] #[],.func (.func 116) #[] #[],.func (.func 117) #[] #[],.func (.func 118) #[] #[],.func (.func 115) #[] #[],.func (.func 116) #[] #[],.func (.func 117) #[] #[],.func (.func 119) #[] #[],.func (.func 119) #[] #[],.func (.func 120) #[] #[],.func (.func 119) #[] #[]]
theorem Ahh(w:World) :
  Calls prog 87 #[] w fun e w'=>e=.returned Acr/\Below w.heap.size w w':=by
 go_enter func87,ntmps87
 go_wp2
 exact bodyPost_ret (v:=Acr) (by simp[results,results87,go_sem,Acr]) rfl ⟨rfl,A3 _ _⟩
def R4(s:Int)(n:Nat):Prop:=∀w,(Instr.index 181 Acr (.int .u8 s)).run prog w=.ok (.func (.func n) #[] #[]) w
theorem Cmi:R4 0 112:=fun _=>by kernel_rfl
theorem Cmj:R4 1 113:=fun _=>by kernel_rfl
theorem Cmk:R4 2 114:=fun _=>by kernel_rfl
theorem Cml:R4 3 115:=fun _=>by kernel_rfl
theorem Cmm:R4 4 116:=fun _=>by kernel_rfl
theorem Cmn:R4 5 117:=fun _=>by kernel_rfl
theorem Cmo:R4 6 118:=fun _=>by kernel_rfl
theorem Cmp:R4 7 115:=fun _=>by kernel_rfl
theorem Cmq:R4 8 116:=fun _=>by kernel_rfl
theorem Cmr:R4 9 117:=fun _=>by kernel_rfl
theorem Chz:R4 10 119:=fun _=>by kernel_rfl
theorem Cia:R4 11 119:=fun _=>by kernel_rfl
theorem Cib:R4 12 120:=fun _=>by kernel_rfl
theorem Cic:R4 13 119:=fun _=>by kernel_rfl
structure Mid(r:Int):Prop where
 a:¬r<0
 b:¬1114111<r
 c:(r==24)=false
 d:(r==26)=false
 e:(r==27)=false
 f:¬r<32
 g:r<127
theorem Cpd{r:Int}(h0:32<=r)(h1:r<127):Mid r:=⟨by omega,by omega,by simp;omega,by simp;omega,by simp;omega,by omega,h1⟩
theorem Bur(S:PS)(v:Value)(r:Int)(hr:Mid r)(B d:Nat)(w:World)(hd:C9 w B d v S)(X:Stp)(hix:R4 S.st 112)
  (C6:∀w1,w.heap.size<=w1.heap.size->C9 w1 B d v S->Calls prog 112 #[.pointer (some ⟨d,0,none⟩),.int .i32 r] w1 (Fed w1 B d v X)) :
  Calls prog 59 #[.pointer (some ⟨d,0,none⟩),.int .i32 r] w (Fed w B d v X):=by
 have h0:=hd.blk.c0
 have hk:=J0 (fun w' (h:C9 w' B d v S)=>h.blk.c0)
 have hdr:=J0 (hd.only (M1 [] w) (by simp) (by simp))
 obtain⟨ra,rb,rc,rd,re,rf,rg⟩:=hr
 replace C6:=J0 C6
 have hiy:∀w,(Instr.index 181 Acr (.int .u8 S.st)).run prog w=.ok (.func (.func 112) #[] #[]) w:=hix
 clear hd hix
 generalize S.st=k at h0 hk hiy
 go_enter func59,ntmps59
 go_wp2_with fail
 go_region_with (first
  |(go_at_call 87;refine(Ahh _).mono ?_;rintro e w1 ⟨rfl,hb1⟩;have k1:=hk.out _ (hdr.out.new hb1))
  |(go_at_call 112;refine(C6.out _ hb1.size (hdr.out.new hb1)).mono ?_;rintro e w9 ⟨x,u,rfl,hf⟩;obtain⟨ax,nx,cx,rfl⟩:=hf.shape;replace hf:=J0 hf))
 all_goals go_wp2
 all_goals go_ret
 all_goals exact⟨_,u,rfl,(hf.out.after (A0.A1 hb1 [d])).after (M1 _ _)⟩
theorem Buq(S:PS)(v:Value)(r:Int)(hr:Mid r)(B d:Nat)(w:World)(hd:C9 w B d v S)(X:Stp)(hix:R4 S.st 113)
  (C6:∀w1,w.heap.size<=w1.heap.size->C9 w1 B d v S->Calls prog 113 #[.pointer (some ⟨d,0,none⟩),.int .i32 r] w1 (Fed w1 B d v X)) :
  Calls prog 59 #[.pointer (some ⟨d,0,none⟩),.int .i32 r] w (Fed w B d v X):=by
 have h0:=hd.blk.c0
 have hk:=J0 (fun w' (h:C9 w' B d v S)=>h.blk.c0)
 have hdr:=J0 (hd.only (M1 [] w) (by simp) (by simp))
 obtain⟨ra,rb,rc,rd,re,rf,rg⟩:=hr
 replace C6:=J0 C6
 have hiy:∀w,(Instr.index 181 Acr (.int .u8 S.st)).run prog w=.ok (.func (.func 113) #[] #[]) w:=hix
 clear hd hix
 generalize S.st=k at h0 hk hiy
 go_enter func59,ntmps59
 go_wp2_with fail
 go_region_with (first
  |(go_at_call 87;refine(Ahh _).mono ?_;rintro e w1 ⟨rfl,hb1⟩;have k1:=hk.out _ (hdr.out.new hb1))
  |(go_at_call 113;refine(C6.out _ hb1.size (hdr.out.new hb1)).mono ?_;rintro e w9 ⟨x,u,rfl,hf⟩;obtain⟨ax,nx,cx,rfl⟩:=hf.shape;replace hf:=J0 hf))
 all_goals go_wp2
 all_goals go_ret
 all_goals exact⟨_,u,rfl,(hf.out.after (A0.A1 hb1 [d])).after (M1 _ _)⟩
theorem Brw(S:PS)(v:Value)(r:Int)(hr:Mid r)(B d:Nat)(w:World)(hd:C9 w B d v S)(X:Stp)(hix:R4 S.st 114)
  (C6:∀w1,w.heap.size<=w1.heap.size->C9 w1 B d v S->Calls prog 114 #[.pointer (some ⟨d,0,none⟩),.int .i32 r] w1 (Fed w1 B d v X)) :
  Calls prog 59 #[.pointer (some ⟨d,0,none⟩),.int .i32 r] w (Fed w B d v X):=by
 have h0:=hd.blk.c0
 have hk:=J0 (fun w' (h:C9 w' B d v S)=>h.blk.c0)
 have hdr:=J0 (hd.only (M1 [] w) (by simp) (by simp))
 obtain⟨ra,rb,rc,rd,re,rf,rg⟩:=hr
 replace C6:=J0 C6
 have hiy:∀w,(Instr.index 181 Acr (.int .u8 S.st)).run prog w=.ok (.func (.func 114) #[] #[]) w:=hix
 clear hd hix
 generalize S.st=k at h0 hk hiy
 go_enter func59,ntmps59
 go_wp2_with fail
 go_region_with (first
  |(go_at_call 87;refine(Ahh _).mono ?_;rintro e w1 ⟨rfl,hb1⟩;have k1:=hk.out _ (hdr.out.new hb1))
  |(go_at_call 114;refine(C6.out _ hb1.size (hdr.out.new hb1)).mono ?_;rintro e w9 ⟨x,u,rfl,hf⟩;obtain⟨ax,nx,cx,rfl⟩:=hf.shape;replace hf:=J0 hf))
 all_goals go_wp2
 all_goals go_ret
 all_goals exact⟨_,u,rfl,(hf.out.after (A0.A1 hb1 [d])).after (M1 _ _)⟩
theorem Bgc(S:PS)(v:Value)(r:Int)(hr:Mid r)(B d:Nat)(w:World)(hd:C9 w B d v S)(X:Stp)(hix:R4 S.st 115)
  (C6:∀w1,w.heap.size<=w1.heap.size->C9 w1 B d v S->Calls prog 115 #[.pointer (some ⟨d,0,none⟩),.int .i32 r] w1 (Fed w1 B d v X)) :
  Calls prog 59 #[.pointer (some ⟨d,0,none⟩),.int .i32 r] w (Fed w B d v X):=by
 have h0:=hd.blk.c0
 have hk:=J0 (fun w' (h:C9 w' B d v S)=>h.blk.c0)
 have hdr:=J0 (hd.only (M1 [] w) (by simp) (by simp))
 obtain⟨ra,rb,rc,rd,re,rf,rg⟩:=hr
 replace C6:=J0 C6
 have hiy:∀w,(Instr.index 181 Acr (.int .u8 S.st)).run prog w=.ok (.func (.func 115) #[] #[]) w:=hix
 clear hd hix
 generalize S.st=k at h0 hk hiy
 go_enter func59,ntmps59
 go_wp2_with fail
 go_region_with (first
  |(go_at_call 87;refine(Ahh _).mono ?_;rintro e w1 ⟨rfl,hb1⟩;have k1:=hk.out _ (hdr.out.new hb1))
  |(go_at_call 115;refine(C6.out _ hb1.size (hdr.out.new hb1)).mono ?_;rintro e w9 ⟨x,u,rfl,hf⟩;obtain⟨ax,nx,cx,rfl⟩:=hf.shape;replace hf:=J0 hf))
 all_goals go_wp2
 all_goals go_ret
 all_goals exact⟨_,u,rfl,(hf.out.after (A0.A1 hb1 [d])).after (M1 _ _)⟩
theorem Bge(S:PS)(v:Value)(r:Int)(hr:Mid r)(B d:Nat)(w:World)(hd:C9 w B d v S)(X:Stp)(hix:R4 S.st 116)
  (C6:∀w1,w.heap.size<=w1.heap.size->C9 w1 B d v S->Calls prog 116 #[.pointer (some ⟨d,0,none⟩),.int .i32 r] w1 (Fed w1 B d v X)) :
  Calls prog 59 #[.pointer (some ⟨d,0,none⟩),.int .i32 r] w (Fed w B d v X):=by
 have h0:=hd.blk.c0
 have hk:=J0 (fun w' (h:C9 w' B d v S)=>h.blk.c0)
 have hdr:=J0 (hd.only (M1 [] w) (by simp) (by simp))
 obtain⟨ra,rb,rc,rd,re,rf,rg⟩:=hr
 replace C6:=J0 C6
 have hiy:∀w,(Instr.index 181 Acr (.int .u8 S.st)).run prog w=.ok (.func (.func 116) #[] #[]) w:=hix
 clear hd hix
 generalize S.st=k at h0 hk hiy
 go_enter func59,ntmps59
 go_wp2_with fail
 go_region_with (first
  |(go_at_call 87;refine(Ahh _).mono ?_;rintro e w1 ⟨rfl,hb1⟩;have k1:=hk.out _ (hdr.out.new hb1))
  |(go_at_call 116;refine(C6.out _ hb1.size (hdr.out.new hb1)).mono ?_;rintro e w9 ⟨x,u,rfl,hf⟩;obtain⟨ax,nx,cx,rfl⟩:=hf.shape;replace hf:=J0 hf))
 all_goals go_wp2
 all_goals go_ret
 all_goals exact⟨_,u,rfl,(hf.out.after (A0.A1 hb1 [d])).after (M1 _ _)⟩
theorem Bgd(S:PS)(v:Value)(r:Int)(hr:Mid r)(B d:Nat)(w:World)(hd:C9 w B d v S)(X:Stp)(hix:R4 S.st 117)
  (C6:∀w1,w.heap.size<=w1.heap.size->C9 w1 B d v S->Calls prog 117 #[.pointer (some ⟨d,0,none⟩),.int .i32 r] w1 (Fed w1 B d v X)) :
  Calls prog 59 #[.pointer (some ⟨d,0,none⟩),.int .i32 r] w (Fed w B d v X):=by
 have h0:=hd.blk.c0
 have hk:=J0 (fun w' (h:C9 w' B d v S)=>h.blk.c0)
 have hdr:=J0 (hd.only (M1 [] w) (by simp) (by simp))
 obtain⟨ra,rb,rc,rd,re,rf,rg⟩:=hr
 replace C6:=J0 C6
 have hiy:∀w,(Instr.index 181 Acr (.int .u8 S.st)).run prog w=.ok (.func (.func 117) #[] #[]) w:=hix
 clear hd hix
 generalize S.st=k at h0 hk hiy
 go_enter func59,ntmps59
 go_wp2_with fail
 go_region_with (first
  |(go_at_call 87;refine(Ahh _).mono ?_;rintro e w1 ⟨rfl,hb1⟩;have k1:=hk.out _ (hdr.out.new hb1))
  |(go_at_call 117;refine(C6.out _ hb1.size (hdr.out.new hb1)).mono ?_;rintro e w9 ⟨x,u,rfl,hf⟩;obtain⟨ax,nx,cx,rfl⟩:=hf.shape;replace hf:=J0 hf))
 all_goals go_wp2
 all_goals go_ret
 all_goals exact⟨_,u,rfl,(hf.out.after (A0.A1 hb1 [d])).after (M1 _ _)⟩
theorem Bse(S:PS)(v:Value)(r:Int)(hr:Mid r)(B d:Nat)(w:World)(hd:C9 w B d v S)(X:Stp)(hix:R4 S.st 118)
  (C6:∀w1,w.heap.size<=w1.heap.size->C9 w1 B d v S->Calls prog 118 #[.pointer (some ⟨d,0,none⟩),.int .i32 r] w1 (Fed w1 B d v X)) :
  Calls prog 59 #[.pointer (some ⟨d,0,none⟩),.int .i32 r] w (Fed w B d v X):=by
 have h0:=hd.blk.c0
 have hk:=J0 (fun w' (h:C9 w' B d v S)=>h.blk.c0)
 have hdr:=J0 (hd.only (M1 [] w) (by simp) (by simp))
 obtain⟨ra,rb,rc,rd,re,rf,rg⟩:=hr
 replace C6:=J0 C6
 have hiy:∀w,(Instr.index 181 Acr (.int .u8 S.st)).run prog w=.ok (.func (.func 118) #[] #[]) w:=hix
 clear hd hix
 generalize S.st=k at h0 hk hiy
 go_enter func59,ntmps59
 go_wp2_with fail
 go_region_with (first
  |(go_at_call 87;refine(Ahh _).mono ?_;rintro e w1 ⟨rfl,hb1⟩;have k1:=hk.out _ (hdr.out.new hb1))
  |(go_at_call 118;refine(C6.out _ hb1.size (hdr.out.new hb1)).mono ?_;rintro e w9 ⟨x,u,rfl,hf⟩;obtain⟨ax,nx,cx,rfl⟩:=hf.shape;replace hf:=J0 hf))
 all_goals go_wp2
 all_goals go_ret
 all_goals exact⟨_,u,rfl,(hf.out.after (A0.A1 hb1 [d])).after (M1 _ _)⟩
theorem Ayh(S:PS)(v:Value)(r:Int)(hr:Mid r)(B d:Nat)(w:World)(hd:C9 w B d v S)(X:Stp)(hix:R4 S.st 119)
  (C6:∀w1,w.heap.size<=w1.heap.size->C9 w1 B d v S->Calls prog 119 #[.pointer (some ⟨d,0,none⟩),.int .i32 r] w1 (Fed w1 B d v X)) :
  Calls prog 59 #[.pointer (some ⟨d,0,none⟩),.int .i32 r] w (Fed w B d v X):=by
 have h0:=hd.blk.c0
 have hk:=J0 (fun w' (h:C9 w' B d v S)=>h.blk.c0)
 have hdr:=J0 (hd.only (M1 [] w) (by simp) (by simp))
 obtain⟨ra,rb,rc,rd,re,rf,rg⟩:=hr
 replace C6:=J0 C6
 have hiy:∀w,(Instr.index 181 Acr (.int .u8 S.st)).run prog w=.ok (.func (.func 119) #[] #[]) w:=hix
 clear hd hix
 generalize S.st=k at h0 hk hiy
 go_enter func59,ntmps59
 go_wp2_with fail
 go_region_with (first
  |(go_at_call 87;refine(Ahh _).mono ?_;rintro e w1 ⟨rfl,hb1⟩;have k1:=hk.out _ (hdr.out.new hb1))
  |(go_at_call 119;refine(C6.out _ hb1.size (hdr.out.new hb1)).mono ?_;rintro e w9 ⟨x,u,rfl,hf⟩;obtain⟨ax,nx,cx,rfl⟩:=hf.shape;replace hf:=J0 hf))
 all_goals go_wp2
 all_goals go_ret
 all_goals exact⟨_,u,rfl,(hf.out.after (A0.A1 hb1 [d])).after (M1 _ _)⟩
theorem Ceg(S:PS)(v:Value)(r:Int)(hr:Mid r)(B d:Nat)(w:World)(hd:C9 w B d v S)(X:Stp)(hix:R4 S.st 120)
  (C6:∀w1,w.heap.size<=w1.heap.size->C9 w1 B d v S->Calls prog 120 #[.pointer (some ⟨d,0,none⟩),.int .i32 r] w1 (Fed w1 B d v X)) :
  Calls prog 59 #[.pointer (some ⟨d,0,none⟩),.int .i32 r] w (Fed w B d v X):=by
 have h0:=hd.blk.c0
 have hk:=J0 (fun w' (h:C9 w' B d v S)=>h.blk.c0)
 have hdr:=J0 (hd.only (M1 [] w) (by simp) (by simp))
 obtain⟨ra,rb,rc,rd,re,rf,rg⟩:=hr
 replace C6:=J0 C6
 have hiy:∀w,(Instr.index 181 Acr (.int .u8 S.st)).run prog w=.ok (.func (.func 120) #[] #[]) w:=hix
 clear hd hix
 generalize S.st=k at h0 hk hiy
 go_enter func59,ntmps59
 go_wp2_with fail
 go_region_with (first
  |(go_at_call 87;refine(Ahh _).mono ?_;rintro e w1 ⟨rfl,hb1⟩;have k1:=hk.out _ (hdr.out.new hb1))
  |(go_at_call 120;refine(C6.out _ hb1.size (hdr.out.new hb1)).mono ?_;rintro e w9 ⟨x,u,rfl,hf⟩;obtain⟨ax,nx,cx,rfl⟩:=hf.shape;replace hf:=J0 hf))
 all_goals go_wp2
 all_goals go_ret
 all_goals exact⟨_,u,rfl,(hf.out.after (A0.A1 hb1 [d])).after (M1 _ _)⟩
