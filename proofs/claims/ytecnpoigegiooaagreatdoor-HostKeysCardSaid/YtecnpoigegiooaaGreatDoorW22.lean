/- Part 22 of HostKeys. -/
import Derived.Test.YtecnpoigegiooaaGreatDoorW21
set_option maxHeartbeats 16000000
set_option maxRecDepth 100000
namespace Go.Proofs.YtecnpoigegiooaaGreatDoor.Kys
open Tryz
open Go RowKit Com Mds
theorem Aeu{w w1:World}{l:List Int}{e:Ending}{w':World}(hb:Below w.heap.size w w1)(h:Put w1.heap.size l w1 e w'):Put w.heap.size l w e w':=by
 obtain⟨v,he,hr,hb1⟩:=h
 exact⟨v,he,hr.lower hb.size,A2 hb hb1⟩
theorem Ahy:Lib.strCells { data:=#[27,91] }=([27,91]:List Int).map (Value.int .u8):=rfl
theorem Bqf:Lib.strCells { data:=#[27,79] }=([27,79]:List Int).map (Value.int .u8):=rfl
theorem Cqz:Lib.strCells { data:=#[27,91,63] }=([27,91,63]:List Int).map (Value.int .u8):=rfl
theorem Axg(b:ByteArray)(bs:List Int)(hb:Lib.strCells b=bs.map (Value.int .u8))(hbl:bs.length<=1000)(f:Int)(w:World)(hT:Tab w):Calls prog 50 #[.string b,.int .u8 f,.slice none 0 0] w (Put w.heap.size (P2 bs [] f) w) :=
 Ape b bs hb hbl f [] (by simp[Anr]) (by simp) none 0 w (A8.nil _ _ _ _) hT
theorem Axh(b:ByteArray)(bs:List Int)(hb:Lib.strCells b=bs.map (Value.int .u8))(hbl:bs.length<=1000)(f:Int)(w:World)(hT:Tab w){x:Int}(hx:0<=x/\x<=9223372036854775807) :
  Calls prog 50 #[.string b,.int .u8 f,.slice (some ⟨w.heap.size,0,none⟩) 1 1] (w.alloc (.cells #[.int .i64 x] 3)) (Put w.heap.size (P2 bs [x] f) w) :=
 (Ape b bs hb hbl f [x] (by simp[Anr];exact hx) (by simp) _ 1 _ ((A8.lit w 3 .i64 [x]).more (by simp)) (hT.alloc _)).mono fun _ _ h=>Aeu (A3 _ _) h
theorem Axi(b:ByteArray)(bs:List Int)(hb:Lib.strCells b=bs.map (Value.int .u8))(hbl:bs.length<=1000)(f:Int)(w:World)(hT:Tab w){x y:Int}(hx:0<=x/\x<=9223372036854775807)(hy:0<=y/\y<=9223372036854775807) :
  Calls prog 50 #[.string b,.int .u8 f,.slice (some ⟨w.heap.size,0,none⟩) 2 2] (w.alloc (.cells #[.int .i64 x,.int .i64 y] 3)) (Put w.heap.size (P2 bs [x,y] f) w) :=
 (Ape b bs hb hbl f [x,y] (by simp[Anr];exact⟨hx,hy⟩) (by simp) _ 2 _ ((A8.lit w 3 .i64 [x,y]).more (by simp)) (hT.alloc _)).mono fun _ _ h=>Aeu (A3 _ _) h
theorem Amz(w:World)(m:Md)(k:Ky):Below w.heap.size w ((w.alloc (.cells (mA m) 80)).alloc (.cells (kA k) 25)):=A2 (A3 w _) (A3 _ _)
theorem Aai(w:World)(m:Md)(k:Ky):MB ((w.alloc (.cells (mA m) 80)).alloc (.cells (kA k) 25)) w.heap.size m:=(MB.made w m).alloc _
theorem Aoi(w:World)(m:Md)(k:Ky):KB ((w.alloc (.cells (mA m) 80)).alloc (.cells (kA k) 25)) (w.heap.size+1) k:=by
 have:=KB.made (w.alloc (.cells (mA m) 80)) k
 simpa using this
theorem Btg(m:Md)(k:Ky)(hk:k.Ok)(f:Int)(w:World)(hT:Tab w):Calls prog 44 #[.agg (mA m),.agg (kA k),.int .u8 f] w (Put w.heap.size (Ack m.a2 k f) w):=by
 have hb0:=J0 (Amz w m k)
 have hm:=J0 (Aai w m k)
 have hd:=J0 (Aoi w m k)
 have hc0:=hd.out.c0
 have hc3:=hd.out.c3
 have hm2:=hm.out.cell (k:=2) (by omega)
 rw[show m.get 2=m.a2 from rfl]at hm2
 have Aln:=J0 (fun w'=>Bjs k hk w')
 have hmd:=hk.md
 by_cases h3:k.md=0
 ·by_cases h0:k.kd=12
  ·have e:=J0 (show Ack m.a2 k f=P2 [27,79] [] f by simp[Ack,h3,h0])
   rw[h3]at hc3
   rw[h0]at hc0
   have hc:=J0 (Axg _ _ Bqf (by simp) f _ (hT.below hb0.out))
   clear h3 h0 hk hmd hT Aln
   go_enter func44,ntmps44
   go_wp2_with((go_at_call 50;(with_reducible refine(hc.out).mono ?_);rintro e w1 ⟨v1,rfl,h1,hb1⟩))
   go_ret
   rw[e.out]
   exact Aeu hb0.out ⟨_,rfl,h1,hb1⟩
  ·by_cases G7:m.a2=true
   ·have e:=J0 (show Ack m.a2 k f=P2 [27,79] [] f by simp[Ack,h3,G7])
    rw[h3]at hc3
    rw[G7]at hm2
    have hc:=J0 (Axg _ _ Bqf (by simp) f _ (hT.below hb0.out))
    clear h3 hk hmd hT Aln G7
    generalize k.kd=x0 at *
    go_enter func44,ntmps44
    go_wp2_with((go_at_call 50;(with_reducible refine(hc.out).mono ?_);rintro e w1 ⟨v1,rfl,h1,hb1⟩))
    go_ret
    rw[e.out]
    exact Aeu hb0.out ⟨_,rfl,h1,hb1⟩
   ·have hcur':m.a2=false:=by simpa using G7
    have e:=J0 (show Ack m.a2 k f=P2 [27,91] [] f by simp[Ack,h3,h0,hcur'])
    rw[h3]at hc3
    rw[hcur']at hm2
    have hc:=J0 (Axg _ _ Ahy (by simp) f _ (hT.below hb0.out))
    clear h3 hk hmd hT Aln G7 hcur'
    generalize k.kd=x0 at *
    go_enter func44,ntmps44
    go_wp2_with((go_at_call 50;(with_reducible refine(hc.out).mono ?_);rintro e w1 ⟨v1,rfl,h1,hb1⟩))
    go_ret
    rw[e.out]
    exact Aeu hb0.out ⟨_,rfl,h1,hb1⟩
 ·have e:=J0 (show Ack m.a2 k f=P2 [27,91] [1,k.md+1] f by simp[Ack,h3])
  have hy:0<=k.md+1/\k.md+1<=9223372036854775807:=by omega
  have hc:=J0 (fun w' hT'=>Axi _ _ Ahy (by simp) f w' hT' (x:=1) (by omega) hy)
  have hT2:=J0 (hT.below hb0.out)
  clear hk hmd hT hy
  generalize k.md=x3 at *
  go_enter func44,ntmps44
  go_wp2_with (first
   |(with_reducible refine J9 12 4 ?_;go_must(refine Acj rfl (.tmp 4) rfl rfl hd.out ?_))
   |(go_at_call 64;(with_reducible refine(Aln.out _).mono ?_);rintro e w1 ⟨rfl,hb1⟩;have hT3:=J0 (hT2.out.below hb1);have hb2:=J0 (A2 hb0.out hb1);clear hb1 hT2)
   |(go_at_call 50;(with_reducible refine(hc.out _ hT3.out).mono ?_);rintro e w2 ⟨v2,rfl,h2,hb3⟩))
  go_ret
  rw[e.out]
  exact Aeu hb2.out ⟨_,rfl,h2,hb3⟩
theorem Apc(k:Ky)(hk:k.Ok)(n:Int)(hn:0<=n/\n<=9223372036854775807)(w:World)(hT:Tab w):Calls prog 46 #[.agg (kA k),.int .i64 n] w (Put w.heap.size (Ahe k n) w):=by
 have hb0:=J0 (A3 w (.cells (kA k) 25))
 have hd:=J0 (KB.made w k)
 have hc3:=hd.out.c3
 have Aln:=J0 (fun w'=>Bjs k hk w')
 have hmd:=hk.md
 have hT2:=J0 (hT.below hb0.out)
 by_cases h3:k.md=0
 ·have e:=J0 (show Ahe k n=P2 [27,91] [n] 126 by simp[Ahe,h3])
  rw[h3]at hc3
  have hc:=(Axh _ _ Ahy (by simp) 126 _ hT2.out (x:=n) hn).mono fun _ _ h=>Aeu hb0.out h
  rw[show(w.alloc (.cells (kA k) 25)).heap.size=w.heap.size+1 by simp]at hc
  replace hc:=J0 hc
  clear h3 hk hmd hT Aln hn
  go_enter func46,ntmps46
  go_wp2_with((go_at_call 50;(with_reducible refine(hc.out).mono ?_);rintro e w1 ⟨v1,rfl,h1,hb1⟩))
  go_ret
  rw[e.out]
  exact⟨_,rfl,h1,hb1⟩
 ·have e:=J0 (show Ahe k n=P2 [27,91] [n,k.md+1] 126 by simp[Ahe,h3])
  have hy:0<=k.md+1/\k.md+1<=9223372036854775807:=by omega
  have hc:=J0 (fun w' hT'=>Axi _ _ Ahy (by simp) 126 w' hT' (x:=n) hn hy)
  clear hk hmd hT hy hn
  generalize k.md=x3 at *
  go_enter func46,ntmps46
  go_wp2_with (first
   |(with_reducible refine J9 9 2 ?_;go_must(refine Acj rfl (.tmp 2) rfl rfl hd.out ?_))
   |(go_at_call 64;(with_reducible refine(Aln.out _).mono ?_);rintro e w1 ⟨rfl,hb1⟩;have hT3:=J0 (hT2.out.below hb1);have hb2:=J0 (A2 hb0.out hb1);clear hb1 hT2)
   |(go_at_call 50;(with_reducible refine(hc.out _ hT3.out).mono ?_);rintro e w2 ⟨v2,rfl,h2,hb3⟩))
  go_ret
  rw[e.out]
  exact Aeu hb2.out ⟨_,rfl,h2,hb3⟩
theorem Bhi{x:Int}(h:0<=x/\x<=7):bits .and .u8 x 1=x % 2/\bits .and .u8 x 2=x/2 % 2*2/\bits .and .u8 x 4=x/4 % 2*4:=by
 have key:∀n:Fin 8,bits .and .u8 (n.val:Int) 1=(n.val:Int) % 2/\bits .and .u8 (n.val:Int) 2=(n.val:Int)/2 % 2*2/\bits .and .u8 (n.val:Int) 4=(n.val:Int)/4 % 2*4:=by decide
 have:=key ⟨x.toNat,by omega⟩
 rwa [show((x.toNat:Nat):Int)=x by omega]at this
theorem Bno{x:Int}(h:0<=x/\x<=127):bits .and .i32 x 31=x % 32:=by
 have key:∀n:Fin 128,bits .and .i32 (n.val:Int) 31=(n.val:Int) % 32:=by decide
 have:=key ⟨x.toNat,by omega⟩
 rwa [show((x.toNat:Nat):Int)=x by omega]at this
theorem Bzs(r:Int):(64<=r/\r<=95/\V8 r=[r % 32])\/(97<=r/\r<=122/\V8 r=[r % 32])\/(r=32/\V8 r=[0])\/(r=63/\V8 r=[127])\/((r<64/\r≠32/\r≠63)/\V8 r=O5 r)\/(r=96/\V8 r=O5 r)\/(122<r/\V8 r=O5 r):=by
 by_cases a:64<=r/\r<=95
 ·exact .inl ⟨a.1,a.2,by simp[V8,a]⟩
 by_cases b:97<=r/\r<=122
 ·exact .inr (.inl ⟨b.1,b.2,by simp[V8,b]⟩)
 have hno:¬(64<=r/\r<=95\/97<=r/\r<=122):=fun h=>h.elim a b
 by_cases c:r=32
 ·exact .inr (.inr (.inl ⟨c,by unfold V8;rw[if_neg hno,if_pos c]⟩))
 by_cases d:r=63
 ·exact .inr (.inr (.inr (.inl ⟨d,by unfold V8;rw[if_neg hno,if_neg c,if_pos d]⟩)))
 have he:V8 r=O5 r:=by unfold V8;rw[if_neg hno,if_neg c,if_neg d]
 by_cases f:r<64
 ·exact .inr (.inr (.inr (.inr (.inl ⟨⟨f,c,d⟩,he⟩))))
 by_cases g:r=96
 ·exact .inr (.inr (.inr (.inr (.inr (.inl ⟨g,he⟩)))))
 ·exact .inr (.inr (.inr (.inr (.inr (.inr ⟨by omega,he⟩)))))
theorem Cdu(r:Int)(w:World):Calls prog 65 #[.int .i32 r] w (Put w.heap.size (V8 r) w):=by
 rcases Bzs r with⟨h1,h2,e⟩|⟨h1,h2,e⟩|⟨h1,e⟩|⟨h1,e⟩|⟨⟨h1,h2,h3⟩,e⟩|⟨h1,e⟩|⟨h1,e⟩
 ·have ha:=Bno (x:=r) (by omega)
  rw[e]
  clear e
  go_enter func65,ntmps65
  go_wp2_with fail
  go_ret
  exact⟨_,rfl,Aqo w [r % 32] (by simp),A3 _ _⟩
 ·have ha:=Bno (x:=r) (by omega)
  rw[e]
  clear e
  go_enter func65,ntmps65
  go_wp2_with fail
  go_ret
  exact⟨_,rfl,Aqo w [r % 32] (by simp),A3 _ _⟩
 ·rw[e]
  clear e
  subst h1
  go_enter func65,ntmps65
  go_wp2_with fail
  go_ret
  exact⟨_,rfl,Aqo w [0] (by simp),A3 _ _⟩
 ·rw[e]
  clear e
  subst h1
  go_enter func65,ntmps65
  go_wp2_with fail
  go_ret
  exact⟨_,rfl,Aqo w [127] (by simp),A3 _ _⟩
 all_goals
  rw[e]
  clear e
  try subst h1
  have hc:=J0 (fun(x:Int) w'=>Ats x w')
  go_enter func65,ntmps65
  go_wp2_with((go_at_call 52;(with_reducible refine(hc.out _ _).mono ?_);rintro e w1 ⟨v1,rfl,h1,hb1⟩))
  go_ret
  exact⟨_,rfl,h1,hb1⟩
theorem Bys(k:Ky)(nl:Bool):(k.kd=13/\nl=true/\X5 nl k=[13,10])\/(k.kd=13/\nl=false/\X5 nl k=[13])\/(k.kd=14/\k.md % 2=1/\X5 nl k=[27,91,90])\/(k.kd=14/\k.md % 2=0/\X5 nl k=[9]) \/
  (k.kd=15/\k.md/4 % 2=1/\X5 nl k=[8])\/(k.kd=15/\k.md/4 % 2=0/\X5 nl k=[127])\/(k.kd=16/\X5 nl k=[27]) \/
  ((k.kd≠13/\k.kd≠14/\k.kd≠15/\k.kd≠16)/\k.md/4 % 2=1/\X5 nl k=V8 k.r)\/((k.kd≠13/\k.kd≠14/\k.kd≠15/\k.kd≠16)/\k.md/4 % 2=0/\X5 nl k=O5 k.r):=by
 unfold X5
 by_cases a:k.kd=13
 ·rw[if_pos a]
  rcases nl with _|_
  ·exact .inr (.inl ⟨a,rfl,rfl⟩)
  ·exact .inl ⟨a,rfl,rfl⟩
 rw[if_neg a]
 by_cases b:k.kd=14
 ·rw[if_pos b]
  by_cases c:k.md % 2=1
  ·exact .inr (.inr (.inl ⟨b,c,if_pos c⟩))
  ·exact .inr (.inr (.inr (.inl ⟨b,by omega,if_neg c⟩)))
 rw[if_neg b]
 by_cases d:k.kd=15
 ·rw[if_pos d]
  by_cases c:k.md/4 % 2=1
  ·exact .inr (.inr (.inr (.inr (.inl ⟨d,c,if_pos c⟩))))
  ·exact .inr (.inr (.inr (.inr (.inr (.inl ⟨d,by omega,if_neg c⟩)))))
 rw[if_neg d]
 by_cases f:k.kd=16
 ·rw[if_pos f]
  exact .inr (.inr (.inr (.inr (.inr (.inr (.inl ⟨f,rfl⟩))))))
 rw[if_neg f]
 by_cases c:k.md/4 % 2=1
 ·exact .inr (.inr (.inr (.inr (.inr (.inr (.inr (.inl ⟨⟨a,b,d,f⟩,c,if_pos c⟩)))))))
 ·exact .inr (.inr (.inr (.inr (.inr (.inr (.inr (.inr ⟨⟨a,b,d,f⟩,by omega,if_neg c⟩)))))))
theorem Cgb{w w2:World}(hb:Below w.heap.size w w2)(l:List Int)(hl:l.length<=16):Put w.heap.size l w (.returned (.slice (some ⟨w2.heap.size,0,none⟩) l.length l.length)) (w2.alloc (.cells (l.map (Value.int .u8)).toArray 5)) :=
 ⟨_,rfl,Row.lit w2 _ _ l hb.size (by simp[maxLen];omega),A2 hb (A3 _ _)⟩
theorem Ccy(m:Md)(k:Ky)(hk:0<=k.md/\k.md<=7)(w:World)(hT:Tab w):Calls prog 48 #[.agg (mA m),.agg (kA k)] w (Put w.heap.size (X5 m.a1 k) w):=by
 have hb0:=J0 (Amz w m k)
 have hsz:((w.alloc (.cells (mA m) 80)).alloc (.cells (kA k) 25)).heap.size=w.heap.size+1+1:=by simp
 have hd:=Aoi w m k
 have hc0:=hd.c0
 have hc1:=hd.c1
 have hc3:=hd.c3
 have hm1:=(Aai w m k).cell (k:=1) (by omega)
 rw[show m.get 1=m.a1 from rfl]at hm1
 have ha:=Bhi hk
 have hT2:=hT.below hb0.out
 have Ais:=fun l hl=>Cgb hb0.out l hl
 rw[hsz]at Ais
 replace Ais:=J0 Ais
 have hz:=J0 ((Axg _ _ Ahy (by simp) 90 _ hT2).mono fun _ _ h=>Aeu hb0.out h)
 have hen:=J0 ((Ats k.r ((w.alloc (.cells (mA m) 80)).alloc (.cells (kA k) 25))).mono fun _ _ h=>Aeu hb0.out h)
 have hct:=J0 ((Cdu k.r ((w.alloc (.cells (mA m) 80)).alloc (.cells (kA k) 25))).mono fun _ _ h=>Aeu hb0.out h)
 clear hd hT hT2 hsz
 rcases Bys k m.a1 with⟨h1,h2,e⟩|⟨h1,h2,e⟩|⟨h1,h2,e⟩|⟨h1,h2,e⟩|⟨h1,h2,e⟩|⟨h1,h2,e⟩|⟨h1,e⟩|⟨⟨h1,h3,h4,h5⟩,h2,e⟩|⟨⟨h1,h3,h4,h5⟩,h2,e⟩
 ·rw[e]
  rw[h1]at hc0
  rw[h2]at hm1
  clear e h1 h2 ha hk
  go_enter func48,ntmps48
  go_wp2_with fail
  go_ret
  exact Ais.out [13,10] (by simp)
 ·rw[e]
  rw[h1]at hc0
  rw[h2]at hm1
  clear e h1 h2 ha hk
  go_enter func48,ntmps48
  go_wp2_with fail
  go_ret
  exact Ais.out [13] (by simp)
 ·rw[e]
  rw[h1]at hc0
  obtain⟨ha,_,_⟩:=ha
  rw[h2]at ha
  clear e h1 h2 hk
  generalize k.md=x3 at *
  go_enter func48,ntmps48
  go_wp2_with((go_at_call 50;(with_reducible refine(hz.out).mono ?_);rintro e w1 ⟨v1,rfl,h1,hb1⟩))
  go_ret
  exact⟨_,rfl,h1,hb1⟩
 ·rw[e]
  rw[h1]at hc0
  obtain⟨ha,_,_⟩:=ha
  rw[h2]at ha
  clear e h1 h2 hk
  generalize k.md=x3 at *
  go_enter func48,ntmps48
  go_wp2_with fail
  go_ret
  exact Ais.out [9] (by simp)
 ·rw[e]
  rw[h1]at hc0
  obtain⟨_,_,ha⟩:=ha
  rw[h2]at ha
  clear e h1 h2 hk
  generalize k.md=x3 at *
  go_enter func48,ntmps48
  go_wp2_with fail
  go_ret
  exact Ais.out [8] (by simp)
 ·rw[e]
  rw[h1]at hc0
  obtain⟨_,_,ha⟩:=ha
  rw[h2]at ha
  clear e h1 h2 hk
  generalize k.md=x3 at *
  go_enter func48,ntmps48
  go_wp2_with fail
  go_ret
  exact Ais.out [127] (by simp)
 ·rw[e]
  rw[h1]at hc0
  clear e h1 hk ha
  go_enter func48,ntmps48
  go_wp2_with fail
  go_ret
  exact Ais.out [27] (by simp)
 ·rw[e]
  obtain⟨_,_,ha⟩:=ha
  rw[h2]at ha
  clear e h2 hk
  generalize k.md=x3 at *
  generalize k.kd=x0 at *
  generalize k.r=x1 at *
  go_enter func48,ntmps48
  go_wp2_with((go_at_call 65;(with_reducible refine(hct.out).mono ?_);rintro e w1 ⟨v1,rfl,h1,hb1⟩))
  go_ret
  exact⟨_,rfl,h1,hb1⟩
 ·rw[e]
  obtain⟨_,_,ha⟩:=ha
  rw[h2]at ha
  clear e h2 hk
  generalize k.md=x3 at *
  generalize k.kd=x0 at *
  generalize k.r=x1 at *
  go_enter func48,ntmps48
  go_wp2_with((go_at_call 52;(with_reducible refine(hen.out).mono ?_);rintro e w1 ⟨v1,rfl,h1,hb1⟩))
  go_ret
  exact⟨_,rfl,h1,hb1⟩
theorem Ciw(k:Ky)(hk:0<=k.md/\k.md<=7)(B:Nat)(v:Value)(l:List Int)(hl:l.length<=1000)(w:World)(h:Row w B 5 v l)(hB:B<=w.heap.size):Calls prog 47 #[.agg (kA k),v] w (Put B (Aio k l) w):=by
 have hb0:=J0 (A3 w (.cells (kA k) 25))
 have hc3:=(KB.made w k).c3
 have ha:=(Bhi hk).2.1
 have hr:=h.alloc (.cells (kA k) 25)
 have hlr:=Row.lit (w.alloc (.cells (kA k) 25)) w.heap.size 5 [27] (by simp) (by simp[maxLen])
 rw[show(w.alloc (.cells (kA k) 25)).heap.size=w.heap.size+1 by simp]at hlr
 replace hlr:=J0 hlr
 obtain⟨ao,c,rfl,_,_,hn⟩:=h.shape
 have hn2:=hn.below hb0.out (J5 _)
 clear hn
 by_cases h2:k.md/2 % 2=1
 ·have e:=J0 (show Aio k l=[27]++l by simp[Aio,h2])
  rw[h2]at ha
  clear h2 hk
  generalize k.md=x3 at *
  go_enter func47,ntmps47
  go_wp2_with((at_builtin;refine Abk Y7 rfl (.tmp 10) (.tmp 11) rfl w.heap.size _ [27] l ao w.heap.size c rfl rfl hlr.out (hn2.alloc (by simp) _) (by simp;omega) (by simp;omega) ?_;intro v2 w2 h2 ho2;have hb2:=J0 (Aaq (A2 hb0.out (A3 _ _)) hlr.out (by simp;omega) ho2);replace h2:=J0 h2;clear ho2))
  go_ret
  rw[e.out]
  exact⟨_,rfl,h2.out.lower hB,hb2.out.mono hB⟩
 ·have e:=J0 (show Aio k l=l by simp[Aio,h2])
  rw[show k.md/2 % 2*2=0 by omega]at ha
  clear h2 hk
  generalize k.md=x3 at *
  go_enter func47,ntmps47
  go_wp2_with fail
  go_ret
  rw[e.out]
  exact⟨_,rfl,hr,hb0.out.mono hB⟩
def Awp(l:List Int)(w:World)(e:Ending)(w':World):Prop:=∃v,e=.returned (.tuple #[v,.int .i64 0])/\Row w' w.heap.size 5 v l/\Below w.heap.size w w'
def Cqs(w:World)(e:Ending)(w':World):Prop:=e=.returned (.tuple #[.slice none 0 0,.int .i64 2])/\Below w.heap.size w w'
theorem Bjo{k:Ky}(hk:k.Ok)(hm:k.may):0<=k.md/\k.md<=7:=⟨hk.md.1,hm.2.2.1⟩
theorem Coy{k:Ky}(h:N8 k≠0)(m:Md):Aee m.a2 m.a1 k=Ack m.a2 k (N8 k):=if_pos h
theorem Cpl{k:Ky}(h:N8 k=0)(hn:I3 k≠0)(m:Md):Aee m.a2 m.a1 k=Ahe k (I3 k):=by
 unfold Aee
 rw[if_neg (by rw[h];decide),if_pos hn]
theorem Cqf{k:Ky}(h:N8 k=0)(hn:I3 k=0)(m:Md):Aee m.a2 m.a1 k=Aio k (X5 m.a1 k):=by
 unfold Aee
 rw[if_neg (by rw[h];decide),if_neg (by rw[hn];decide)]
theorem Cpk{k:Ky}(hm:k.may):0<=I3 k/\I3 k<=9223372036854775807:=by
 rcases Bjw k hm with⟨_,e⟩|⟨_,e⟩|⟨_,e⟩|⟨_,e⟩|⟨_,_,e⟩|⟨_,_,e⟩|⟨_,_,e⟩|⟨_,_,e⟩|⟨_,_,e⟩|⟨_,_,e⟩|⟨_,_,e⟩|⟨_,_,e⟩|⟨_,_,e⟩|⟨_,e⟩<;>omega
theorem Ccz(nl:Bool)(k:Ky):(X5 nl k).length<=4:=by
 have h1:=Aky k.r
 have h2:(V8 k.r).length<=4:=by
  unfold V8
  split
  ·simp
  ·split
   ·simp
   ·split
    ·simp
    ·omega
 unfold X5
 split
 ·split<;>simp
 ·split
  ·split<;>simp
  ·split
   ·split<;>simp
   ·split
    ·simp
    ·split<;>omega
theorem Bzx(m:Md)(k:Ky)(hk:k.Ok)(hn:¬k.may)(w:World):Calls prog 28 #[.agg (mA m),.agg (kA k)] w (Cqs w):=by
 have hb0:=J0 (Amz w m k)
 have hm0:=J0 (Aai w m k)
 have hd0:=J0 (Aoi w m k)
 have W2:=fun w'=>Alc k hk w'
 rw[decide_eq_false hn]at W2
 replace W2:=J0 W2
 clear hk hn
 go_enter func28,ntmps28
 go_wp2_with (first
  |(with_reducible refine J9 8 3 ?_;go_must(refine Acj rfl (.tmp 3) rfl rfl hd0.out ?_))
  |(go_at_call 42;(with_reducible refine(W2.out _).mono ?_);rintro e w1 ⟨rfl,hc1⟩;have hd1:=J0 (hd0.out.below hc1);have hm1:=J0 (hm0.out.below hc1);have hb1:=J0 (A2 hb0.out hc1);clear hc1 hd0 hm0 hb0))
 go_ret2
 exact⟨rfl,hb1.out⟩
theorem Bwu(m:Md)(k:Ky)(hk:k.Ok)(hm:k.may)(h0:N8 k≠0)(w:World)(hT:Tab w):Calls prog 28 #[.agg (mA m),.agg (kA k)] w (Awp (Aee m.a2 m.a1 k) w):=by
 rw[Coy h0 m]
 have hb0:=J0 (Amz w m k)
 have hm0:=J0 (Aai w m k)
 have hd0:=J0 (Aoi w m k)
 have W2:=fun w'=>Alc k hk w'
 rw[decide_eq_true hm]at W2
 replace W2:=J0 W2
 have Adg:=fun w'=>Azh k hm w'
 have E1:=fun w' hT'=>Btg m k hk (N8 k) w' hT'
 generalize Ack m.a2 k (N8 k)=out at *
 generalize N8 k=x at *
 replace E1:=J0 E1
 replace Adg:=J0 Adg
 replace hT:=J0 hT
 clear hk hm
 go_enter func28,ntmps28
 go_wp2_with (first
  |(with_reducible refine J9 8 3 ?_;go_must(refine Acj rfl (.tmp 3) rfl rfl hd0.out ?_))
  |(go_at_call 42;(with_reducible refine(W2.out _).mono ?_);rintro e w1 ⟨rfl,hc1⟩;have hd1:=J0 (hd0.out.below hc1);have hm1:=J0 (hm0.out.below hc1);have hb1:=J0 (A2 hb0.out hc1);clear hc1 hd0 hm0 hb0)
  |(with_reducible refine J9 11 3 ?_;go_must(refine Acj rfl (.tmp 3) rfl rfl hd1.out ?_))
  |(go_at_call 43;(with_reducible refine(Adg.out _).mono ?_);rintro e w2 ⟨rfl,hc2⟩;have hd2:=J0 (hd1.out.below hc2);have hm2:=J0 (hm1.out.below hc2);have hb2:=J0 (A2 hb1.out hc2);clear hc2 hd1 hm1 hb1)
  |(with_reducible refine J9 15 2 ?_;go_must(refine Bsw rfl (.tmp 2) rfl rfl hm2.out ?_))
  |(with_reducible refine J9 16 3 ?_;go_must(refine Acj rfl (.tmp 3) rfl rfl hd2.out ?_))
  |(go_at_call 44;(with_reducible refine(E1.out _ (hT.out.below hb2.out)).mono ?_);rintro e w3 ⟨v,rfl,hr,hc3⟩))
 go_ret2
 exact⟨v,rfl,hr.lower hb2.out.size,A2 hb2.out hc3⟩
theorem Bwv(m:Md)(k:Ky)(hk:k.Ok)(hm:k.may)(h0:N8 k=0)(hn:I3 k≠0)(w:World)(hT:Tab w):Calls prog 28 #[.agg (mA m),.agg (kA k)] w (Awp (Aee m.a2 m.a1 k) w):=by
 rw[Cpl h0 hn m]
 have hb0:=J0 (Amz w m k)
 have hm0:=J0 (Aai w m k)
 have hd0:=J0 (Aoi w m k)
 have W2:=fun w'=>Alc k hk w'
 rw[decide_eq_true hm]at W2
 replace W2:=J0 W2
 have Adg:=fun w'=>Azh k hm w'
 rw[h0]at Adg
 have Acg:=fun w'=>Bgq k hm w'
 have E1:=fun w' hT'=>Apc k hk (I3 k) (Cpk hm) w' hT'
 generalize Ahe k (I3 k)=out at *
 generalize I3 k=x at *
 replace E1:=J0 E1
 replace Acg:=J0 Acg
 replace Adg:=J0 Adg
 replace hT:=J0 hT
 clear hk hm h0
 go_enter func28,ntmps28
 go_wp2_with (first
  |(with_reducible refine J9 8 3 ?_;go_must(refine Acj rfl (.tmp 3) rfl rfl hd0.out ?_))
  |(go_at_call 42;(with_reducible refine(W2.out _).mono ?_);rintro e w1 ⟨rfl,hc1⟩;have hd1:=J0 (hd0.out.below hc1);have hm1:=J0 (hm0.out.below hc1);have hb1:=J0 (A2 hb0.out hc1);clear hc1 hd0 hm0 hb0)
  |(with_reducible refine J9 11 3 ?_;go_must(refine Acj rfl (.tmp 3) rfl rfl hd1.out ?_))
  |(go_at_call 43;(with_reducible refine(Adg.out _).mono ?_);rintro e w2 ⟨rfl,hc2⟩;have hd2:=J0 (hd1.out.below hc2);have hm2:=J0 (hm1.out.below hc2);have hb2:=J0 (A2 hb1.out hc2);clear hc2 hd1 hm1 hb1)
  |(with_reducible refine J9 19 3 ?_;go_must(refine Acj rfl (.tmp 3) rfl rfl hd2.out ?_))
  |(go_at_call 45;(with_reducible refine(Acg.out _).mono ?_);rintro e w3 ⟨rfl,hc3⟩;have hd3:=J0 (hd2.out.below hc3);have hm3:=J0 (hm2.out.below hc3);have hb3:=J0 (A2 hb2.out hc3);clear hc3 hd2 hm2 hb2)
  |(with_reducible refine J9 23 3 ?_;go_must(refine Acj rfl (.tmp 3) rfl rfl hd3.out ?_))
  |(go_at_call 46;(with_reducible refine(E1.out _ (hT.out.below hb3.out)).mono ?_);rintro e w4 ⟨v,rfl,hr,hc4⟩))
 go_ret2
 exact⟨v,rfl,hr.lower hb3.out.size,A2 hb3.out hc4⟩
theorem Bcv{w:World}{g g':Nat}{a0 a1 a2 a3 a4 a5 a6 a7:Bool}{x0 x1 x2 x3:Int}(h:MB w g ⟨a0,a1,a2,a3,a4,a5,a6,a7⟩)(h':KB w g' ⟨x0,x1,x2,x3⟩) :
  w.cell? ⟨g,0,none⟩=some (.bool a0)/\w.cell? ⟨g,1,none⟩=some (.bool a1)/\w.cell? ⟨g,2,none⟩=some (.bool a2)/\w.cell? ⟨g,3,none⟩=some (.bool a3)/\w.cell? ⟨g,4,none⟩=some (.bool a4)/\w.cell? ⟨g,5,none⟩=some (.bool a5)/\w.cell? ⟨g,6,none⟩=some (.bool a6)/\w.cell? ⟨g,7,none⟩=some (.bool a7) /\
  w.cell? ⟨g',0,none⟩=some (.int .u8 x0)/\w.cell? ⟨g',1,none⟩=some (.int .i32 x1)/\w.cell? ⟨g',2,none⟩=some (.int .i64 x2)/\w.cell? ⟨g',3,none⟩=some (.int .u8 x3) :=
 ⟨h.cell (k:=0) (by omega),h.cell (k:=1) (by omega),h.cell (k:=2) (by omega),h.cell (k:=3) (by omega),h.cell (k:=4) (by omega),h.cell (k:=5) (by omega),h.cell (k:=6) (by omega),h.cell (k:=7) (by omega),h'.c0,h'.c1,h'.c2,h'.c3⟩
theorem Clc{w:World}{g:Nat}{m:Md}(h:MB w g m):MB w.drew g m:=h
theorem KB.drew{w:World}{g:Nat}{k:Ky}(h:KB w g k):KB w.drew g k:=h
theorem Bwb{w w':World}{B:Nat}(h:Below B w w'):Below B w w'.drew:=below_drewN h 1
theorem Bww(m:Md)(k:Ky)(hk:k.Ok)(hm:k.may)(h0:N8 k=0)(hn:I3 k=0)(w:World)(hT:Tab w):Calls prog 28 #[.agg (mA m),.agg (kA k)] w (Awp (Aee m.a2 m.a1 k) w):=by
 rw[Cqf h0 hn m]
 have hb0:=J0 (Amz w m k)
 have hm0:=J0 (Aai w m k)
 have hd0:=J0 (Aoi w m k)
 have W2:=fun w'=>Alc k hk w'
 rw[decide_eq_true hm]at W2
 replace W2:=J0 W2
 have Adg:=fun w'=>Azh k hm w'
 rw[h0]at Adg
 have Acg:=fun w'=>Bgq k hm w'
 rw[hn]at Acg
 have E1:=fun w' hT'=>Ccy m k (Bjo hk hm) w' hT'
 have halt:=fun B v (w':World) h hB=>Ciw k (Bjo hk hm) B v (X5 m.a1 k) (by have:=Ccz m.a1 k;omega) w' h hB
 obtain⟨l,hl⟩:∃l,l=X5 m.a1 k:=⟨_,rfl⟩
 rw[<- hl]at E1 halt
 rw[<- hl]
 obtain⟨out,Akh⟩:∃out,out=Aio k l:=⟨_,rfl⟩
 rw[<- Akh]at halt
 rw[<- Akh]
 clear hl Akh
 obtain⟨a0,a1,a2,a3,a4,a5,a6,a7⟩:=m
 obtain⟨x0,x1,x2,x3⟩:=k
 replace E1:=J0 (show ∀w',Tab w'->Calls prog 48 #[.agg #[.bool a0,.bool a1,.bool a2,.bool a3,.bool a4,.bool a5,.bool a6,.bool a7],.agg #[.int .u8 x0,.int .i32 x1,.int .i64 x2,.int .u8 x3]] w' (Put w'.heap.size l w')from E1)
 replace halt:=J0 (show ∀B v (w':World),Row w' B 5 v l->B<=w'.heap.size->Calls prog 47 #[.agg #[.int .u8 x0,.int .i32 x1,.int .i64 x2,.int .u8 x3],v] w' (Put B out w')from halt)
 replace Acg:=J0 Acg
 replace Adg:=J0 Adg
 replace hT:=J0 hT
 clear hk hm h0 hn
 go_enter func28,ntmps28
 go_wp2_with (first
  |(with_reducible refine J9 8 3 ?_;go_must(refine Acj rfl (.tmp 3) rfl rfl hd0.out ?_))
  |(go_at_call 42;(with_reducible refine(W2.out _).mono ?_);rintro e w1 ⟨rfl,hc1⟩;have hd1:=J0 (hd0.out.below hc1);have hm1:=J0 (hm0.out.below hc1);have hb1:=J0 (A2 hb0.out hc1);clear hc1 hd0 hm0 hb0)
  |(with_reducible refine J9 11 3 ?_;go_must(refine Acj rfl (.tmp 3) rfl rfl hd1.out ?_))
  |(go_at_call 43;(with_reducible refine(Adg.out _).mono ?_);rintro e w2 ⟨rfl,hc2⟩;have hd2:=J0 (hd1.out.below hc2);have hm2:=J0 (hm1.out.below hc2);have hb2:=J0 (A2 hb1.out hc2);clear hc2 hd1 hm1 hb1)
  |(with_reducible refine J9 19 3 ?_;go_must(refine Acj rfl (.tmp 3) rfl rfl hd2.out ?_))
  |(go_at_call 45;(with_reducible refine(Acg.out _).mono ?_);rintro e w3 ⟨rfl,hc3⟩;have hd3:=J0 (hd2.out.below hc3);have hm3:=J0 (hm2.out.below hc3);have hb3:=J0 (A2 hb2.out hc3);clear hc3 hd2 hm2 hb2))
 have hd4:=J0 hd3.out.drew
 have hm4:=J0 (Clc hm3.out)
 have hb4:=J0 (Bwb hb3.out)
 have hT4:=J0 (hT.out.below hb4.out)
 have hs4:=hb4.out.size
 clear hd3 hm3 hb3
 go_region_held3 (fun w'=>w'.cell? ⟨w.heap.size,0,none⟩=some (.bool a0)/\w'.cell? ⟨w.heap.size,1,none⟩=some (.bool a1)/\w'.cell? ⟨w.heap.size,2,none⟩=some (.bool a2)/\w'.cell? ⟨w.heap.size,3,none⟩=some (.bool a3)/\w'.cell? ⟨w.heap.size,4,none⟩=some (.bool a4)/\w'.cell? ⟨w.heap.size,5,none⟩=some (.bool a5)/\w'.cell? ⟨w.heap.size,6,none⟩=some (.bool a6)/\w'.cell? ⟨w.heap.size,7,none⟩=some (.bool a7)/\w'.cell? ⟨w.heap.size+1,0,none⟩=some (.int .u8 x0)/\w'.cell? ⟨w.heap.size+1,1,none⟩=some (.int .i32 x1)/\w'.cell? ⟨w.heap.size+1,2,none⟩=some (.int .i64 x2)/\w'.cell? ⟨w.heap.size+1,3,none⟩=some (.int .u8 x3))
  (first|exact Bcv hm4.out hd4.out|exact Bcv hm5.out hd5.out|exact Bcv hm6.out hd6.out)
  (first
   |(go_at_call 48;refine(E1.out _ hT4.out).mono ?_;rintro e w5 ⟨v5,rfl,hr5,hc5⟩;have hd5:=J0 (hd4.out.below hc5);have hm5:=J0 (hm4.out.below hc5);have hb5:=J0 (A2 hb4.out hc5);have hg5:=hc5.size)
   |(go_at_call 47;refine(halt.out _ v5 _ hr5 hg5).mono ?_;rintro e w6 ⟨v6,rfl,hr6,hc6⟩;have hd6:=J0 (hd4.out.below (hc5.trans hc6));have hm6:=J0 (hm4.out.below (hc5.trans hc6));have hb6:=J0 (A2 hb4.out (hc5.trans hc6))))
 go_wp2
 go_ret2
 exact⟨v6,rfl,hr6.lower hs4,hb6.out⟩
theorem Bwx(m:Md)(k:Ky)(hk:k.Ok)(hm:k.may)(w:World)(hT:Tab w):Calls prog 28 #[.agg (mA m),.agg (kA k)] w (Awp (Aee m.a2 m.a1 k) w):=by
 by_cases h0:N8 k=0
 ·by_cases hn:I3 k=0
  ·exact Bww m k hk hm h0 hn w hT
  ·exact Bwv m k hk hm h0 hn w hT
 ·exact Bwu m k hk hm h0 w hT
theorem Bns{n:Nat}(h:10<=n)(h1:n<100):dgF (n:Int)=[48+((n/10:Nat):Int),48+((n % 10:Nat):Int)]:=by
 rw[Ann h,Afu (by omega)]
 rfl
def k1:List Int:=[27,91,65]
def k2:List Int:=[27,79,65]
def k3:List Int:=[3]
def k4:List Int:=[27,91,49,53,126]
theorem Cmy{w:World}{ao:Option Addr}{l:List Int}(h:A8 w w.heap.size .u8 ao l)(c:Nat):(convert 22 9 (.slice ao l.length c)).run prog w=.ok (.string (strOfNums l)) w :=
 Chn h underlying22 underlying5 underlying9 c
theorem Azw{P:Program}{md:Region.Mode}{ops:Array Oper}{Q:Exit->Act->World->Prop}{S S':World->Prop}(h:∀w,S' w->S w):∀(fuel:Nat) (listed:Array Bool) (a:Act) (w:World),wpAnyH P md ops Q S' fuel listed a w->wpAnyH P md ops Q S fuel listed a w
 |0,_,_,_,H=>H
 |fuel+1,_,_,_,H=>⟨H.1,fun i hi=>wpOp_mono (fun a' w' h'=>⟨h _ h'.1,Azw h fuel _ a' w' h'.2⟩) (H.2 i hi)⟩
theorem Cbn(r:Int):(¬S4 r/\¬V6 r)\/(S4 r/\r=9/\V6 r)\/(S4 r/\r<32/\r≠9/\¬V6 r)\/(S4 r/\32<=r/\r<127/\V6 r)\/(S4 r/\127<=r/\r<=159/\¬V6 r)\/(S4 r/\159<r/\V6 r):=by
 by_cases h:S4 r
 ·by_cases a:r=9
  ·exact .inr (.inl ⟨h,a,.inl a⟩)
  by_cases b:r<32
  ·exact .inr (.inr (.inl ⟨h,b,a,by unfold V6;omega⟩))
  by_cases c:r<127
  ·exact .inr (.inr (.inr (.inl ⟨h,by omega,c,.inr (.inl ⟨by omega,by omega⟩)⟩)))
  by_cases d:r<=159
  ·exact .inr (.inr (.inr (.inr (.inl ⟨h,by omega,d,by unfold V6;omega⟩))))
  ·exact .inr (.inr (.inr (.inr (.inr ⟨h,by omega,.inr (.inr ⟨by omega,h⟩)⟩))))
 ·refine .inl ⟨h,?_⟩
  unfold V6
  unfold S4 at *
  omega
theorem Bgt(r:Int)(w:World):Calls prog 51 #[.int .i32 r] w fun e w'=>e=.returned (.bool (decide (V6 r)))/\w=w':=by
 rcases Cbn r with⟨h,e⟩|⟨h,h1,e⟩|⟨h,h1,h2,e⟩|⟨h,h1,h2,e⟩|⟨h,h1,h2,e⟩|⟨h,h1,e⟩
 ·have G4:=J0 (fun w'=>Bmx h w')
  rw[decide_eq_false e]
  clear h e
  go_enter func51,ntmps51
  go_wp2_with((go_at_call 63;(with_reducible refine(G4.out _).mono ?_);rintro e w' ⟨rfl,rfl⟩))
  go_ret
  exact⟨rfl,rfl⟩
 all_goals
  try subst h1
  have G4:=J0 (fun w'=>Bke h w')
  first|rw[decide_eq_false e]|rw[decide_eq_true e]
  clear h e
  go_enter func51,ntmps51
  go_wp2_with((go_at_call 63;(with_reducible refine(G4.out _).mono ?_);rintro e w' ⟨rfl,rfl⟩))
  go_ret
  first
   |exact⟨rfl,rfl⟩
   |exact⟨G1 (by simp;omega),rfl⟩
theorem Bgu{r:Int}(h:V6 r)(w:World):Calls prog 51 #[.int .i32 r] w fun e w'=>e=.returned (.bool true)/\w=w':=by
 have:=Bgt r w
 rwa [decide_eq_true h]at this
theorem Bik{r:Int}(h:¬V6 r)(w:World):Calls prog 51 #[.int .i32 r] w fun e w'=>e=.returned (.bool false)/\w=w':=by
 have:=Bgt r w
 rwa [decide_eq_false h]at this
theorem Bmi(x:Bool)(h:x=false):Q3 x 10=[13]:=by subst h;rfl
theorem Bmj(x:Bool)(h:x=true):Q3 x 10=[]:=by subst h;rfl
theorem Bpv{r:Int}(x:Bool)(h1:r≠10)(h2:r≠13)(h:V6 r):Q3 x r=O5 r:=by unfold Q3;rw[if_neg h1,if_neg h2,if_pos h]
theorem Bpu{r:Int}(x:Bool)(h1:r≠10)(h2:r≠13)(h:¬V6 r):Q3 x r=[]:=by unfold Q3;rw[if_neg h1,if_neg h2,if_neg h]
def pre(on:Bool):List Int:=if on=true then Adb else []
theorem Cnz:P2 [27,91] [200] 126=Adb:=by
 show [27,91]++(dgF 200++[])++[126]=Adb
 rw[show(200:Int)=((200:Nat):Int)from rfl,Ann (by omega),Ann (n:=200/10) (by omega),Afu (by omega)]
 rfl
theorem Coa:P2 [27,91] [201] 126=Alu:=by
 show [27,91]++(dgF 201++[])++[126]=Alu
 rw[show(201:Int)=((201:Nat):Int)from rfl,Ann (by omega),Ann (n:=201/10) (by omega),Afu (by omega)]
 rfl
structure All(w:World)(m:Md)(pr text:List Int)(k:Nat)(v:Value)(wr:World):Prop where
 row:Row wr w.heap.size 5 v (pr++R6 false (text.take k))
 below:Below w.heap.size w wr
 box:MB wr w.heap.size m
theorem Bmp{on:Bool}{text:List Int}(h:text.length<=100000000)(k:Nat):(pre on++R6 false (text.take k)).length<=500000000:=by
 have h1:=Apk (text.take k) false
 have h2:(text.take k).length<=text.length:=by rw[List.length_take];omega
 have h3:(pre on).length<=6:=by cases on<;>simp[pre,Adb]
 rw[List.length_append]
 omega
theorem Auz{w wr:World}{m:Md}{pr text:List Int}{k:Nat}{v:Value}(h:All w m pr text k v wr)(hk:k<text.length)(e:Q3 (Aa5 text k) text[k]=[]):All w m pr text (k+1) v wr :=
 ⟨by rw[Bgv hk,e,List.append_nil];exact h.row,h.below,h.box⟩
theorem Ajj{w w1:World}{m:Md}{pr text:List Int}{k:Nat}{v1:Value}(hk:k<text.length){acc x:List Int}(ha:acc=pr++R6 false (text.take k))(e:Q3 (Aa5 text k) text[k]=x)
  (h1:Row w1 w.heap.size 5 v1 (acc++x)) (hb:Below w.heap.size w w1) (hm:MB w1 w.heap.size m):All w m pr text (k+1) v1 w1 :=
 ⟨by rw[Bgv hk,e,<- List.append_assoc,<- ha];exact h1,hb,hm⟩
theorem Ajn{w w':World}{B g:Nat}{v:Value}{l:List Int}{m:Md}(hm:MB w g m)(h:Row w B 5 v l)(ho:A0 v.ownBlock.toList w w'):MB w' g m :=
 hm.only ho (by
  intro hc
  exact h.apart hm.blk (by decide) (by simpa using hc))
def mx(r:Int):Int:=if r<1 then 1 else r
theorem Bps{r:Int}(h:r<=9223372036854775807):0<=mx r/\mx r<=9223372036854775807:=by
 unfold mx
 split<;>omega
def Afg(r c:Int):List Int:=P2 [27,91] [mx r,mx c] 82
theorem Bwp(r c:Int)(hr:r<=9223372036854775807)(hc:c<=9223372036854775807)(w:World)(hT:Tab w):Calls prog 255 #[.int .i64 r,.int .i64 c] w (Put w.heap.size (Afg r c) w):=by
 have hx:=Bps hr
 have hy:=Bps hc
 have C6:=Axi _ _ Ahy (by simp) 82 w hT hx hy
 have hE:=J0 (show Afg r c=P2 [27,91] [mx r,mx c] 82 from rfl)
 by_cases h1:r<1
 ·have e1:mx r=1:=if_pos h1
  rw[e1]at C6 hE
  by_cases h2:c<1
  ·have e2:mx c=1:=if_pos h2
   rw[e2]at C6 hE
   have m1:max r 1=1:=by omega
   have m2:max c 1=1:=by omega
   clear hx hy e1 e2 hT hr hc
   replace C6:=J0 C6
   go_enter func255,ntmps255
   go_wp2_with((go_at_call 50;(with_reducible refine(C6.out).mono ?_);rintro e w1 ⟨v1,rfl,hr1,hb1⟩))
   go_ret
   rw[hE.out]
   exact⟨_,rfl,hr1,hb1⟩
  ·have e2:mx c=c:=if_neg h2
   rw[e2]at C6 hE
   have m1:max r 1=1:=by omega
   have m2:max c 1=c:=by omega
   clear hx hy e1 e2 hT hr hc
   replace C6:=J0 C6
   go_enter func255,ntmps255
   go_wp2_with((go_at_call 50;(with_reducible refine(C6.out).mono ?_);rintro e w1 ⟨v1,rfl,hr1,hb1⟩))
   go_ret
   rw[hE.out]
   exact⟨_,rfl,hr1,hb1⟩
 ·have e1:mx r=r:=if_neg h1
  rw[e1]at C6 hE
  by_cases h2:c<1
  ·have e2:mx c=1:=if_pos h2
   rw[e2]at C6 hE
   have m1:max r 1=r:=by omega
   have m2:max c 1=1:=by omega
   clear hx hy e1 e2 hT hr hc
   replace C6:=J0 C6
   go_enter func255,ntmps255
   go_wp2_with((go_at_call 50;(with_reducible refine(C6.out).mono ?_);rintro e w1 ⟨v1,rfl,hr1,hb1⟩))
   go_ret
   rw[hE.out]
   exact⟨_,rfl,hr1,hb1⟩
  ·have e2:mx c=c:=if_neg h2
   rw[e2]at C6 hE
   have m1:max r 1=r:=by omega
   have m2:max c 1=c:=by omega
   clear hx hy e1 e2 hT hr hc
   replace C6:=J0 C6
   go_enter func255,ntmps255
   go_wp2_with((go_at_call 50;(with_reducible refine(C6.out).mono ?_);rintro e w1 ⟨v1,rfl,hr1,hb1⟩))
   go_ret
   rw[hE.out]
   exact⟨_,rfl,hr1,hb1⟩
def Amg:List Int:=[27,91,48,110]
def Alw:List Int:=[27,91,63,54,50,59,50,50,99]
theorem Cqa:P2 [27,91] [0] 110=Amg:=by
 show [27,91]++(dgF ((0:Nat):Int)++[])++[110]=Amg
 rw[Afu (by omega)]
 rfl
theorem Coc:P2 [27,91,63] [62,22] 99=Alw:=by
 show [27,91,63]++(dgF ((62:Nat):Int)++(59::(dgF ((22:Nat):Int)++[])))++[99]=Alw
 rw[Bns (by omega) (by omega),Bns (by omega) (by omega)]
 rfl
theorem Byq(w:World)(hT:Tab w):Calls prog 254 #[] w (Put w.heap.size Amg w):=by
 have C6:=Axh _ _ Ahy (by simp) 110 w hT (x:=0) (by omega)
 rw[Cqa]at C6
 replace C6:=J0 C6
 clear hT
 go_enter func254,ntmps254
 go_wp2_with((go_at_call 50;(with_reducible refine(C6.out).mono ?_);rintro e w1 ⟨v1,rfl,hr1,hb1⟩))
 go_ret
 exact⟨_,rfl,hr1,hb1⟩
theorem Ayz(w:World)(hT:Tab w):Calls prog 256 #[] w (Put w.heap.size Alw w):=by
 have C6:=Axi _ _ Cqz (by simp) 99 w hT (x:=62) (y:=22) (by omega) (by omega)
 rw[Coc]at C6
 replace C6:=J0 C6
 clear hT
 go_enter func256,ntmps256
 go_wp2_with((go_at_call 50;(with_reducible refine(C6.out).mono ?_);rintro e w1 ⟨v1,rfl,hr1,hb1⟩))
 go_ret
 exact⟨_,rfl,hr1,hb1⟩
