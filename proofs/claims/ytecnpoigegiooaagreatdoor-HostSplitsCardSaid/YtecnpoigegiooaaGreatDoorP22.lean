/- Part 22 of HostSplits. -/
import Derived.StillTailTactics
import Derived.Test.YtecnpoigegiooaaGreatDoorP21
import Derived.ProofKit
import Derived.OpenShut
import Derived.ShutString
import Derived.ChangeOld
set_option maxHeartbeats 16000000
set_option maxRecDepth 100000
namespace Go.Proofs.YtecnpoigegiooaaGreatDoor.Sgr
open Go RowKit Com
def allB (l:List Int):Bool:=l.all isB
theorem isB_yes {n:Int} (h0:¬n<0) (h1:¬255<n):isB n=true:=by simp only[isB,decide_eq_true_eq];omega
theorem Cq4 {n:Int} (h:n<0\/255<n):isB n=false:=by simp only[isB,decide_eq_false_iff_not];omega
theorem all_drop {l:List Int} {k:Nat} (h:k<l.length):allB (l.drop k)=(isB l[k] && allB (l.drop (k+1))):=by
 unfold allB
 rw[List.drop_eq_getElem_cons h,List.all_cons]
theorem Bb0 (l:List Int) (ao:Option Addr) (c B:Nat) (hl:l.length<=9223372036854775807) (w:World) (hn:Nums w B .i64 ao l) :
  Calls Tryz.prog 284 #[.slice ao l.length c] w fun e w'=>e=.returned (.bool (allB l))/\w=w':=by
 go_enter Tryz.func284,Tryz.ntmps284
 go_wp2
 go_loop [7] (fun i=>∃k:Nat,k<=l.length/\i=.int .i64 k/\Hid (allB l=allB (l.drop k))) (fun i=>l.length - (intOf i).toNat)
 case atStart=>exact⟨0,by omega,rfl,J0 (by simp)⟩
 case round =>
  obtain⟨k,hk,rfl,hs⟩:=hrel
  by_cases hlt:k<l.length
  ·obtain⟨ad,rfl,_,hc⟩:=hn.at hlt
   have hE:=J0 (all_drop hlt)
   clear hn
   generalize l[k]=x at hc hE
   by_cases h0:x<0
   ·have hF:=J0 (Cq4 (.inl h0))
    go_wp2
    go_ret
    exact⟨Ab6 (by rw[hs.out,hE.out,hF.out];rfl),rfl⟩
   by_cases h1:255<x
   ·have hF:=J0 (Cq4 (.inr h1))
    go_wp2
    go_ret
    exact⟨Ab6 (by rw[hs.out,hE.out,hF.out];rfl),rfl⟩
   ·have hF:=J0 (isB_yes h0 h1)
    go_wp2
    go_round
    case rel=>exact⟨k+1,by omega,by go_num,J0 (by rw[hs.out,hE.out,hF.out];rfl)⟩
    case measure=>simp[intOf];omega
  ·have hE:Hid (allB (l.drop k)=true):=by show _=_;rw[List.drop_of_length_le (by omega)];rfl
   go_wp2
   go_ret
   exact⟨Ab6 (by rw[hs.out,hE.out]),rfl⟩
def AIn (w:World) (d:Nat) (a:At):Prop:=Block w d 51 #[.int .u32 a.f,.int .u32 a.b,.int .u16 a.g]
section
variable {w w':World}{d:Nat}{a:At}
theorem AIn.blk (h:AIn w d a):Block w d 51 #[.int .u32 a.f,.int .u32 a.b,.int .u16 a.g]:=h
theorem AIn.c0 (h:AIn w d a):w.cell? ⟨d,0,none⟩=some (.int .u32 a.f):=Block.cell h 0 rfl
theorem AIn.c1 (h:AIn w d a):w.cell? ⟨d,1,none⟩=some (.int .u32 a.b):=Block.cell h 1 rfl
theorem AIn.c2 (h:AIn w d a):w.cell? ⟨d,2,none⟩=some (.int .u16 a.g):=Block.cell h 2 rfl
theorem AIn.free (h:AIn w d a) (i:Nat):w.frozen? ⟨d,i,none⟩=false:=Block.free h i
theorem AIn.only {L:List Nat} (h:AIn w d a) (ho:Only L w w') (hn:d∉L):AIn w' d a:=Block.only h ho hn
theorem AIn.new (h:AIn w d a) (hb:Below w.heap.size w w'):AIn w' d a:=h.only (Only.of_below hb []) (by simp)
theorem AIn.made (w:World) (a:At):AIn (w.alloc (.cells #[.int .u32 a.f,.int .u32 a.b,.int .u16 a.g] 51)) w.heap.size a:=Block.made _ _ _
end
theorem sizeA:(Tryz.prog.info? 51).map (·.size)=some 3:=by kernel_rfl
theorem Cr4:(Tryz.prog.info? 48).map (·.size)=some 1:=by kernel_rfl
structure Alo (w0 w:World) (d r:Nat) (a:At):Prop where
 att:AIn w d a
 res:AIn w r zero
 low:w0.heap.size<=d/\w0.heap.size<=r
 ne:d≠r
 below:Below w0.heap.size w0 w
section
variable {w0 w w':World}{d r:Nat}{a a':At}
theorem Alo.new (h:Alo w0 w d r a) (hb:Below w.heap.size w w'):Alo w0 w' d r a:=⟨h.att.new hb,h.res.new hb,h.low,h.ne,Aa0 h.below hb⟩
theorem Alo.turn (h:Alo w0 w d r a) (hd:AIn w' d a') (ho:Only [d] w w'):Alo w0 w' d r a':=⟨hd,h.res.only ho (by simp;exact fun e=>h.ne e.symm),h.low,h.ne,Ag3 h.below ho h.low.1⟩
theorem Alo.drew (h:Alo w0 w d r a):Alo w0 w.drew d r a:=h.new (Aa4 (Below.refl _ _) 1)
theorem Alo.made (w:World) (a:At):Alo w ((w.alloc (.cells #[.int .u32 a.f,.int .u32 a.b,.int .u16 a.g] 51)).alloc (.cells #[.int .u32 0,.int .u32 0,.int .u16 0] 51)) w.heap.size (w.heap.size+1) a:=by
 have h1:=AIn.made w a
 have h2:=AIn.made (w.alloc (.cells #[.int .u32 a.f,.int .u32 a.b,.int .u16 a.g] 51)) zero
 rw[World.size_alloc] at h2
 exact⟨h1.new (Aa1 _ _),h2,⟨by omega,by omega⟩,by omega,Aa0 (Aa1 _ _) (Aa1 _ _)⟩
theorem Alo.set0 {f b g:Int} (h:Alo w0 w d r ⟨f,b,g⟩) (x:Int):Alo w0 (w.setCell ⟨d,0,none⟩ (.int .u32 x)) d r ⟨x,b,g⟩:=h.turn (Block.set h.att.blk 0 _) (Only.setCell w ⟨d,0,none⟩ _)
theorem Alo.set1 {f b g:Int} (h:Alo w0 w d r ⟨f,b,g⟩) (x:Int):Alo w0 (w.setCell ⟨d,1,none⟩ (.int .u32 x)) d r ⟨f,x,g⟩:=h.turn (Block.set h.att.blk 1 _) (Only.setCell w ⟨d,1,none⟩ _)
theorem Alo.set2 {f b g:Int} (h:Alo w0 w d r ⟨f,b,g⟩) (x:Int):Alo w0 (w.setCell ⟨d,2,none⟩ (.int .u16 x)) d r ⟨f,b,x⟩:=h.turn (Block.set h.att.blk 2 _) (Only.setCell w ⟨d,2,none⟩ _)
end
theorem Bd7 (a:At) (n:Int) (hn:n<=9223372036854775807) (w:World) (T:Tab w) :
  Calls Tryz.prog 275 #[.agg #[.int .u32 a.f,.int .u32 a.b,.int .u16 a.g],.int .i64 n] w fun e w'=>e=.returned (.agg #[.int .u32 (oneF a n).f,.int .u32 (oneF a n).b,.int .u16 (oneF a n).g])/\Below w.heap.size w w':=by
 obtain⟨f,b,g⟩:=a
 have hmade:=J0 (Alo.made w ⟨f,b,g⟩)
 by_cases h0:n=0
 ·subst h0
  go_enter Tryz.func275,Tryz.ntmps275
  go_wp2_with (with_reducible refine J8 4 ?_;go_must (refine Aa3 rfl _ (.tmp 4) (.tmp 7) rfl hmade.out.res.blk _ rfl rfl (by simpa using sizeA) (by simp) (by simp[Value.oneCell']) ?_);intro w2 hr2 ho2)
  have r0:=AIn.c0 (a:=zero) hr2;have r1:=AIn.c1 (a:=zero) hr2;have r2:=AIn.c2 (a:=zero) hr2
  simp only[zero] at r0 r1 r2
  exact bodyPost_ret (v:=.agg #[.int .u32 0,.int .u32 0,.int .u16 0]) (by simp[results,Tryz.results275,go_sem,r0,r1,r2]) rfl ⟨rfl,Ag3 hmade.out.below ho2 hmade.out.low.2⟩
 have hE:Hid (oneF ⟨f,b,g⟩ n=⟨Ai0 30 82 39 f n,Ai0 40 92 49 b n,orF (notF g (endF n)) (Bc4 n)⟩):=by show _=_;unfold oneF;rw[if_neg h0]
 have h0':(n == 0)=false:=by simpa using h0
 have hend:=J0 (fun w' (hb:Below w.heap.size w w')=>ended_any n hn w' (T.below hb))
 have hflag:=J0 (fun w' (hb:Below w.heap.size w w')=>Bz2 n w' (T.below hb))
 clear h0 T
 go_enter Tryz.func275,Tryz.ntmps275
 go_wp2
 replace hmade:=hmade.out
 obtain⟨r,hr⟩:∃r,r=w.heap.size+1:=⟨_,rfl⟩
 rw[<- hr] at hmade |-
 obtain⟨d,hd⟩:∃d,d=w.heap.size:=⟨_,rfl⟩
 have hbelow:=J0 hmade.drew.below
 have h2:=hmade
 rw[<- hd] at h2 |-
 generalize ((w.alloc (.cells #[.int .u32 f,.int .u32 b,.int .u16 g] 51)).alloc (.cells #[.int .u32 0,.int .u32 0,.int .u16 0] 51))=w1 at h2 hbelow |-
 have h2':=J0 h2
 have c2:=h2.att.c2
 have hf2:=h2.att.free 2
 have he1:=hend.out _ hbelow.out
 have he2:=hflag.out _ hbelow.out
 clear hmade hr hd h2
 go_cut [] from 8 to 16 (fun wx=>Alo w wx d r ⟨f,b,orF (notF g (endF n)) (Bc4 n)⟩)
 case first =>
  go_region_with (first
   |(go_at_call 286;refine(he1).mono ?_;rintro e w' ⟨rfl,rfl⟩)
   |(go_at_call 287;refine(he2).mono ?_;rintro e w' ⟨rfl,rfl⟩))
  all_goals
   go_wp2
   go_meet
   exact(h2'.out.set2 _).drew
 case rest =>
  clear he1 he2 hend hflag c2 hf2 hbelow h2' hn
  generalize hG:orF (notF g (endF n)) (Bc4 n)=G at hcut
  replace hG:=J0 hG
  go_wp2_with fail
  have h3:=J0 hcut
  have c3:=hcut.att.c0
  have hf3:=hcut.att.free 0
  have hk3:=J0 (fun w' (hb:Below wc.drew.heap.size wc.drew w')=>(hcut.drew.new hb))
  clear hcut
  go_cut [] from 17 to 22 (fun wx=>Alo w wx d r ⟨Ai0 30 82 39 f n,b,G⟩)
  case first =>
   go_region_with (first
    |(go_at_call 288;refine(foreground_any _).mono ?_;rintro e w4 ⟨rfl,hb4⟩;have k4:=(hk3.out _ hb4).att.c0;have kf4:=(hk3.out _ hb4).att.free 0)
    |(go_at_call 289;refine(Bu0 30 82 38 39 f n (by omega) (by omega) _).mono ?_;rintro e w5 ⟨rfl,hb5⟩;have k5:=((hk3.out _ hb4).new hb5).att.c0;have kf5:=((hk3.out _ hb4).new hb5).att.free 0))
   all_goals
    go_wp2
    go_meet
    exact((hk3.out _ hb4).new hb5).set0 _
  case rest =>
   clear h3 c3 hf3 hk3
   go_wp2_with fail
   have c4:=hcut.att.c1
   have hf4:=hcut.att.free 1
   have hk4:=J0 (fun w' (hb:Below wc.drew.heap.size wc.drew w')=>(hcut.drew.new hb))
   clear hcut
   go_cut [] from 23 to 28 (fun wx=>Alo w wx d r ⟨Ai0 30 82 39 f n,Ai0 40 92 49 b n,G⟩)
   case first =>
    go_region_with (first
     |(go_at_call 290;refine(background_any _).mono ?_;rintro e w7 ⟨rfl,hb7⟩;have k7:=(hk4.out _ hb7).att.c1;have kf7:=(hk4.out _ hb7).att.free 1)
     |(go_at_call 289;refine(Bu0 40 92 48 49 b n (by omega) (by omega) _).mono ?_;rintro e w8 ⟨rfl,hb8⟩;have k8:=((hk4.out _ hb7).new hb8).att.c1;have kf8:=((hk4.out _ hb7).new hb8).att.free 1))
    all_goals
     go_wp2
     go_meet
     exact((hk4.out _ hb7).new hb8).set1 _
   case rest =>
    have hE2:=hE.out
    rw[hG.out] at hE2
    clear hE hG c4 hf4 hk4
    have m0:=hcut.att.c0
    have m1:=hcut.att.c1
    have m2:=hcut.att.c2
    replace hcut:=J0 hcut
    generalize Ai0 30 82 39 f n=x at hcut hE2 m0
    generalize Ai0 40 92 49 b n=y at hcut hE2 m1
    go_wp2_with (with_reducible refine J8 4 ?_;go_must (refine Aa3 rfl _ (.tmp 4) (.tmp 29) rfl hcut.out.res.blk _ rfl rfl (by simpa using sizeA) (by simp) (by simp[Value.oneCell']) ?_);intro w9 hr9 ho9)
    have r0:=AIn.c0 (a:=⟨x,y,G⟩) hr9
    have r1:=AIn.c1 (a:=⟨x,y,G⟩) hr9
    have r2:=AIn.c2 (a:=⟨x,y,G⟩) hr9
    simp only at r0 r1 r2
    exact bodyPost_ret (v:=.agg #[.int .u32 x,.int .u32 y,.int .u16 G]) (by simp[results,Tryz.results275,go_sem,r0,r1,r2]) rfl ⟨rfl,Ag3 hcut.out.below ho9 hcut.out.low.2⟩
def Fol (w:World) (B:Nat) (R:Int×List Int) (e:Ending) (w':World):Prop :=
 ∃x y,e=.returned (.tuple #[.int .u32 R.1,.slice x R.2.length y])/\R.2.length<=y/\y<=maxLen/\Nums w B .i64 x R.2/\Below w.heap.size w w'
theorem Bc8 (ad:Addr):ad.add 0=ad:=by simp[Addr.add]
theorem all_one (x:Int):allB [x]=isB x:=by simp[allB]
theorem all_three (x y z:Int):allB [x,y,z]=(isB x && isB y && isB z):=by simp[allB,Bool.and_assoc]
theorem Cn2 {w:World} {B:Nat} {ad:Addr} {l:List Int} {cp:Nat} (h:Nums w B .i64 (some ad) l) (k:Nat) (hl:l.length<=cp):Nums w B .i64 (if cp=k then some ad else some (ad.add k)) (l.drop k):=by
 by_cases e:cp=k
 ·rw[List.drop_of_length_le (by omega)]
  exact Nums.nil _ _ _ _
 ·rw[if_neg e]
  have:=h.piece k l.length
  rwa [List.take_length] at this
theorem An9 {w w':World} {B:Nat} {c c':Int} {t:List Int} {N y:Nat} {x:Option Addr} (hN:t.length=N) (hc:c=c') (h1:N<=y) (h2:y<=maxLen) (h3:Nums w B .i64 x t) (h4:Below w.heap.size w w') :
  Fol w B (c',t) (.returned (.tuple #[.int .u32 c,.slice x N y])) w':=by
 subst hN
 subst hc
 exact⟨x,y,rfl,h1,h2,h3,h4⟩
theorem follow_five (c:Int) (y:Int) (t:List Int) (ao:Option Addr) (cp B:Nat) (hl:t.length+2<=cp) (hm:cp<=maxLen) (w:World) (hn:Nums w B .i64 ao (5::y::t)) (hB:B<=w.heap.size) :
  Calls Tryz.prog 274 #[.int .u32 c,.slice ao ((5::y::t:List Int).length) cp] w (Fol w B (if isB y then y+1 else c,t)):=by
 obtain⟨ad,rfl,hb0,c0⟩:=hn 0 5 rfl
 obtain⟨ad',e',hb1,c1⟩:=hn 1 y rfl
 cases e'
 rw[Bc8] at c0
 rw[show ad.add 1=⟨ad.block,ad.off+1,none⟩ from rfl] at c1
 have hd:=Cn2 hn 2 hl
 rw[show (5::y::t:List Int).drop 2=t from rfl,show ad.add 2=⟨ad.block,ad.off+2,none⟩ from rfl] at hd
 obtain⟨q,hq⟩:∃q,q=(if cp=2 then some ad else some (⟨ad.block,ad.off+2,none⟩:Addr)):=⟨_,rfl⟩
 rw[<- hq] at hd
 replace hd:=J0 hd
 replace hq:=J0 hq
 have hlt:ad.block<w.heap.size:=Nat.lt_of_lt_of_le hb0 hB
 have hby:=J0 (Bb0 [y] (some ⟨w.heap.size,0,none⟩) 1 (w.heap.size+1) (by simp) _ (Nums.lit w 3 .i64 [y]))
 have hbel:=J0 (fun n=>Aa4 (Aa1 w (.cells #[.int .i64 y] 3)) n)
 rw[all_one] at hby
 clear hn
 have hm63:cp<=9223372036854775807:=by simp only[maxLen] at hm;omega
 rw[show (5::y::t:List Int).length=t.length+2 by rfl]
 have hm':=J0 hm
 clear hm
 generalize hN:t.length=N at hl
 have hN':=J0 hN
 clear hN
 rcases hi:isB y with _|_
 ·rw[hi] at hby
  go_enter Tryz.func274,Tryz.ntmps274
  go_wp2_with (go_at_call 284;refine(hby.out).mono ?_;rintro e w' ⟨rfl,rfl⟩)
  go_quiet (fail)
  rw[<- hq.out]
  go_wp2
  go_ret2
  exact An9 hN'.out (by simp) (by omega) (by have:=hm'.out;omega) hd.out (hbel.out _)
 ·rw[hi] at hby
  have h0:0<=y/\y<=255:=by simpa only [isB,decide_eq_true_eq] using hi
  obtain⟨h0,h1⟩:=h0
  have hnum:=J0 (fun w'=>Ap9 y h0 h1 w')
  go_enter Tryz.func274,Tryz.ntmps274
  go_wp2_with (first|(go_at_call 284;refine(hby.out).mono ?_;rintro e w' ⟨rfl,rfl⟩)|(go_at_call 285;refine(hnum.out _).mono ?_;rintro e w' ⟨rfl,rfl⟩))
  go_quiet (fail)
  rw[<- hq.out]
  go_wp2
  go_ret2
  exact An9 hN'.out (by simp) (by omega) (by have:=hm'.out;omega) hd.out (hbel.out _)
theorem Ck4 {i a b:Nat} (hb:b<2 ^ i) (h:2 ^ i*a+b<4294967296):bits .or .u32 ((2 ^ i*a:Nat):Int) ((b:Nat):Int)=((2 ^ i*a+b:Nat):Int):=by
 rw[Nat.two_pow_add_eq_or_of_lt hb]
 have h':=h
 rw[Nat.two_pow_add_eq_or_of_lt hb] at h'
 have hA:2 ^ i*a<4294967296:=by omega
 have hB:b<4294967296:=by omega
 generalize 2 ^ i*a=A at *
 show IntKind.u32.wrap (((BitVec.ofInt 32 (A:Int) ||| BitVec.ofInt 32 (b:Int)).toNat:Nat):Int)=_
 rw[BitVec.ofInt_natCast,BitVec.ofInt_natCast,BitVec.toNat_or,BitVec.toNat_ofNat,BitVec.toNat_ofNat,Nat.mod_eq_of_lt hA,Nat.mod_eq_of_lt hB,IntWalk.u32_in _ (by omega)]
theorem rgb_bits {x y z:Int} (hx:isB x=true) (hy:isB y=true) (hz:isB z=true):bits .or .u32 (bits .or .u32 (bits .or .u32 16777216 (x*65536)) (y*256)) z=rgbF x y z:=by
 simp only[isB,decide_eq_true_eq] at hx hy hz
 obtain⟨x,rfl⟩:∃n:Nat,x=n:=⟨x.toNat,by omega⟩
 obtain⟨y,rfl⟩:∃n:Nat,y=n:=⟨y.toNat,by omega⟩
 obtain⟨z,rfl⟩:∃n:Nat,z=n:=⟨z.toNat,by omega⟩
 have h1:=Ck4 (i:=24) (a:=1) (b:=x*65536) (by omega) (by omega)
 have h2:=Ck4 (i:=16) (a:=256+x) (b:=y*256) (by omega) (by omega)
 have h3:=Ck4 (i:=8) (a:=65536+x*256+y) (b:=z) (by omega) (by omega)
 have e0:(2 ^ 24*1:Nat)=16777216:=by kernel_rfl
 have e1:((2 ^ 24*1:Nat):Int)=16777216:=by rw[e0];rfl
 have e2:((2 ^ 24*1+x*65536:Nat):Int)=((2 ^ 16*(256+x):Nat):Int):=by omega
 have e3:((2 ^ 16*(256+x)+y*256:Nat):Int)=((2 ^ 8*(65536+x*256+y):Nat):Int):=by omega
 have x1:((x*65536:Nat):Int)=(x:Int)*65536:=by simp
 have y1:((y*256:Nat):Int)=(y:Int)*256:=by simp
 rw[e1,e2,x1] at h1
 rw[e3,y1] at h2
 rw[h1,h2,h3]
 unfold rgbF
 omega
theorem follow_two (c:Int) (x y z:Int) (t:List Int) (ao:Option Addr) (cp B:Nat) (hl:t.length+4<=cp) (hm:cp<=maxLen) (w:World) (hn:Nums w B .i64 ao (2::x::y::z::t)) (hB:B<=w.heap.size) :
  Calls Tryz.prog 274 #[.int .u32 c,.slice ao ((2::x::y::z::t:List Int).length) cp] w (Fol w B (if isB x && isB y && isB z then rgbF x y z else c,t)):=by
 obtain⟨ad,rfl,hb0,c0⟩:=hn 0 2 rfl
 obtain⟨ad',e',hb1,c1⟩:=hn 1 x rfl
 cases e'
 obtain⟨ad',e',hb2,c2⟩:=hn 2 y rfl
 cases e'
 obtain⟨ad',e',hb3,c3⟩:=hn 3 z rfl
 cases e'
 rw[Bc8] at c0
 rw[show ad.add 1=⟨ad.block,ad.off+1,none⟩ from rfl] at c1
 rw[show ad.add 2=⟨ad.block,ad.off+2,none⟩ from rfl] at c2
 rw[show ad.add 3=⟨ad.block,ad.off+3,none⟩ from rfl] at c3
 have hd:=Cn2 hn 4 hl
 rw[show (2::x::y::z::t:List Int).drop 4=t from rfl,show ad.add 4=⟨ad.block,ad.off+4,none⟩ from rfl] at hd
 obtain⟨q,hq⟩:∃q,q=(if cp=4 then some ad else some (⟨ad.block,ad.off+4,none⟩:Addr)):=⟨_,rfl⟩
 rw[<- hq] at hd
 replace hd:=J0 hd
 replace hq:=J0 hq
 have hlt:ad.block<w.heap.size:=Nat.lt_of_lt_of_le hb0 hB
 have hby:=J0 (Bb0 [x,y,z] (some ⟨w.drew.heap.size,0,none⟩) 3 (w.drew.heap.size+1) (by simp) _ (Nums.lit w.drew 3 .i64 [x,y,z]))
 have hbel:=J0 (Aa1 w (.cells #[.int .i64 x,.int .i64 y,.int .i64 z] 3))
 rw[all_three] at hby
 clear hn
 have hkeep:=Aa1 w.drew (.cells #[.int .i64 x,.int .i64 y,.int .i64 z] 3)
 have k1:=(hkeep.cell (p:=⟨ad.block,ad.off+1,none⟩) hlt).trans c1
 have k2:=(hkeep.cell (p:=⟨ad.block,ad.off+2,none⟩) hlt).trans c2
 have k3:=(hkeep.cell (p:=⟨ad.block,ad.off+3,none⟩) hlt).trans c3
 clear hkeep
 have hm63:cp<=9223372036854775807:=by simp only[maxLen] at hm;omega
 rw[show (2::x::y::z::t:List Int).length=t.length+4 by rfl]
 have hm':=J0 hm
 clear hm
 generalize hN:t.length=N at hl
 have hN':=J0 hN
 clear hN
 have l1:(1:Int)<(N:Int)+4:=by omega
 have l2:(2:Int)<(N:Int)+4:=by omega
 have l3:(3:Int)<(N:Int)+4:=by omega
 rcases hi:(isB x && isB y && isB z) with _|_
 ·rw[hi] at hby
  go_enter Tryz.func274,Tryz.ntmps274
  go_wp2_with fail
  go_region_held3 (fun w'=>w'.cell? ⟨ad.block,ad.off+1,none⟩=some (.int .i64 x)/\w'.cell? ⟨ad.block,ad.off+2,none⟩=some (.int .i64 y)/\w'.cell? ⟨ad.block,ad.off+3,none⟩=some (.int .i64 z))
   (first|exact⟨c1,c2,c3⟩|exact⟨k1,k2,k3⟩|go_keep)
   (first|(go_at_call 284;refine(hby.out).mono ?_;rintro e w' ⟨rfl,rfl⟩))
  go_wp2_with fail
  go_quiet (fail)
  rw[<- hq.out]
  go_wp2
  go_ret2
  exact An9 hN'.out (by simp) (by omega) (by have:=hm'.out;omega) hd.out (Aa4 hbel.out _)
 ·have hi':=hi
  simp only[Bool.and_eq_true] at hi'
  obtain⟨⟨hx,hy⟩,hz⟩:=hi'
  have hE:=J0 (rgb_bits hx hy hz)
  simp only[isB,decide_eq_true_eq] at hx hy hz
  obtain⟨x0,x1⟩:=hx
  obtain⟨y0,y1⟩:=hy
  obtain⟨z0,z1⟩:=hz
  rw[hi] at hby
  go_enter Tryz.func274,Tryz.ntmps274
  go_wp2_with fail
  go_region_held3 (fun w'=>w'.cell? ⟨ad.block,ad.off+1,none⟩=some (.int .i64 x)/\w'.cell? ⟨ad.block,ad.off+2,none⟩=some (.int .i64 y)/\w'.cell? ⟨ad.block,ad.off+3,none⟩=some (.int .i64 z))
   (first|exact⟨c1,c2,c3⟩|exact⟨k1,k2,k3⟩|go_keep)
   (first|(go_at_call 284;refine(hby.out).mono ?_;rintro e w' ⟨rfl,rfl⟩))
  go_wp2_with fail
  go_quiet (fail)
  go_wp2_with fail
  go_quiet (fail)
  rw[<- hq.out]
  go_wp2
  go_ret2
  exact An9 hN'.out hE.out (by omega) (by have:=hm'.out;omega) hd.out (Aa4 (Aa4 hbel.out _) _)
theorem Bz4 (c y:Int) (t:List Int):folF c (5::y::t)=(if isB y then y+1 else c,t):=by
 unfold folF
 rw[if_pos ⟨by simp,rfl⟩]
 rfl
theorem Ch8 (c x y z:Int) (t:List Int):folF c (2::x::y::z::t)=(if isB x && isB y && isB z then rgbF x y z else c,t):=by
 unfold folF
 rw[if_neg (by simp),if_pos ⟨by simp,rfl⟩]
 rfl
structure Dumb (l:List Int):Prop where
 five:2<=l.length->l.getD 0 0≠5
 two:4<=l.length->l.getD 0 0≠2
theorem Bz3 {l:List Int} (h:Dumb l) (c:Int):folF c l=(c,[]):=by
 unfold folF
 rw[if_neg (fun e=>h.five e.1 e.2),if_neg (fun e=>h.two e.1 e.2)]
theorem Bs2 (l:List Int):(∃y t,l=5::y::t)\/(∃x y z t,l=2::x::y::z::t)\/Dumb l:=by
 rcases l with _|⟨a,_|⟨b,t⟩⟩
 ·exact .inr (.inr ⟨by simp,by simp⟩)
 ·exact .inr (.inr ⟨by simp,by simp⟩)
 ·by_cases h5:a=5
  ·subst h5;exact .inl ⟨b,t,rfl⟩
  rcases t with _|⟨c,_|⟨d,t⟩⟩
  ·exact .inr (.inr ⟨by simpa using h5,by simp⟩)
  ·exact .inr (.inr ⟨by simpa using h5,by simp⟩)
  ·by_cases h2:a=2
   ·subst h2;exact .inr (.inl ⟨b,c,d,t,rfl⟩)
   ·exact .inr (.inr ⟨by simpa using h5,by simpa using h2⟩)
theorem follow_dumb (c:Int) (l:List Int) (h:Dumb l) (ao:Option Addr) (cp B:Nat) (hm:l.length<=maxLen) (w:World) (hn:Nums w B .i64 ao l) :
  Calls Tryz.prog 274 #[.int .u32 c,.slice ao l.length cp] w (Fol w B (c,[])):=by
 have hm63:l.length<=9223372036854775807:=by simp only[maxLen] at hm;omega
 clear hm
 by_cases h2:l.length<2
 ·clear hn h
  generalize l.length=N at hm63 h2
  have h4:N<4:=by omega
  go_enter Tryz.func274,Tryz.ntmps274
  go_wp2
  go_ret2
  exact An9 (x:=none) (y:=0) rfl rfl (by simp) (by simp) (Nums.nil _ _ _ _) (Below.refl _ _)
 obtain⟨ad,rfl,_,c0⟩:=hn.at (i:=0) (by omega)
 rw[Bc8] at c0
 have e0:l.getD 0 0=l[0]:=getD_at (by omega)
 have h5:=h.five (by omega)
 have h42:=h.two
 rw[e0] at h5 h42
 clear hn h e0
 generalize l[0]=x at c0 h5 h42
 generalize l.length=N at hm63 h2 h42
 have h5':(x == 5)=false:=by simpa using h5
 by_cases h4:N<4
 ·go_enter Tryz.func274,Tryz.ntmps274
  go_wp2
  go_ret2
  exact An9 (x:=none) (y:=0) rfl rfl (by simp) (by simp) (Nums.nil _ _ _ _) (Below.refl _ _)
 ·have h2':(x == 2)=false:=by simpa using h42 (by omega)
  go_enter Tryz.func274,Tryz.ntmps274
  go_wp2
  go_ret2
  exact An9 (x:=none) (y:=0) rfl rfl (by simp) (by simp) (Nums.nil _ _ _ _) (Below.refl _ _)
theorem Aq8 (c:Int) (l:List Int) (ao:Option Addr) (cp B:Nat) (hl:l.length<=cp) (hm:cp<=maxLen) (w:World) (hn:Nums w B .i64 ao l) (hB:B<=w.heap.size) :
  Calls Tryz.prog 274 #[.int .u32 c,.slice ao l.length cp] w (Fol w B (folF c l)):=by
 rcases Bs2 l with ⟨y,t,rfl⟩|⟨x,y,z,t,rfl⟩|h
 ·rw[Bz4];exact follow_five c y t ao cp B (by simpa using hl) hm w hn hB
 ·rw[Ch8];exact follow_two c x y z t ao cp B (by simpa using hl) hm w hn hB
 ·rw[Bz3 h];exact follow_dumb c l h ao cp B (by omega) w hn
end Go.Proofs.YtecnpoigegiooaaGreatDoor.Sgr
namespace Go.Proofs.YtecnpoigegiooaaGreatDoor.Com
open Go RowKit Go.ChangeShapes Go.WideShapes
def Fits (k:IntKind) (l:List Int):Prop:=∀n∈l,(Lit.int k n).wf=true
theorem nums_in {H:Type} {enc:TypeId×Value->H} {P:Program} {W:World} {t e:TypeId} {k:IntKind} {a:Option Addr} {len cap:Nat} {d:DataW H} {p:List MemPlace} (ht:P.underlying t=some (.slice e)) (he:P.underlying e=some (.int k)) (hc:P.cellsOf e=1)
  (h:DataW.Trod enc P W 0 (fun _=>true) true t (.slice a len cap) d p):∃l:List Int,l.length=len/\len<=cap/\cap<=maxLen/\Nums W W.heap.size k a l/\Fits k l:=by
 obtain⟨fuel,hf⟩:=h
 rcases open_ints ht he hc hf with ⟨hcs,_⟩|⟨x,l,c,zs,hcs,_,hl,hm,hz,_,hcell,hwz⟩
 ·simp[Value.cells] at hcs
  obtain⟨rfl,rfl,rfl⟩:=hcs
  exact⟨[],rfl,J5 _,by simp[maxLen],Nums.nil _ _ _ _,by simp[Fits]⟩
 ·simp[Value.cells] at hcs
  obtain⟨rfl,rfl,rfl⟩:=hcs
  have hz':zs.length=cap:=by simpa using hz
  refine⟨zs.take len,by simp;omega,hl,hm,fun i y hy=>?_,fun n hn=>hwz n (List.mem_of_mem_take hn)⟩
  rw[List.getElem?_take] at hy
  split at hy
  ·have hi:i<zs.length:=(List.getElem?_eq_some_iff.1 hy).1
   have hg:zs.getD i 0=y:=by simp[List.getD,hy]
   have hcl:=hcell i hi
   rw[hg] at hcl
   have hlt:=World.block_lt_of_cell? _ _ hcl
   rw[Ac5] at hlt
   exact⟨x,rfl,hlt,hcl⟩
  ·cases hy
end Go.Proofs.YtecnpoigegiooaaGreatDoor.Com
namespace Go.Proofs.YtecnpoigegiooaaGreatDoor.Sgr
open Go RowKit Com
def Bd5:Value->Nat
 |.slice _ n _=>n
 |_=>0
theorem Ch7 {c:Int} {l:List Int}:∀x∈(folF c l).2,x∈l:=by
 rcases Bs2 l with ⟨y,t,rfl⟩|⟨x,y,z,t,rfl⟩|h
 ·rw[Bz4];intro x hx;exact List.mem_cons_of_mem _ (List.mem_cons_of_mem _ hx)
 ·rw[Ch8];intro x hx;exact List.mem_cons_of_mem _ (List.mem_cons_of_mem _ (List.mem_cons_of_mem _ (List.mem_cons_of_mem _ hx)))
 ·rw[Bz3 h];intro x hx;cases hx
theorem fits_le {n:Int} {l:List Int} (h:Fits .i64 l) (hn:n∈l):n<=9223372036854775807:=(bounds_i64 (h n hn)).2
structure AppAt (w0 wr:World) (d r:Nat) (A:At) (L:List Int) (x:Option Addr) (y:Nat) (l:List Int) (a:At):Prop where
 alo:Alo w0 wr d r a
 nums:Nums wr w0.heap.size .i64 x l
 fits:Fits .i64 l
 cap:l.length<=y/\y<=maxLen
 eq:runF A L=runF a l
section
variable {w0 wr w' w2:World}{d r y y':Nat}{A a a':At}{L l t:List Int}{x x':Option Addr}{n:Int}
theorem AppAt.one (h:AppAt w0 wr d r A L x y (n::t) a) (h1:n≠38) (h2:n≠48) (hb:Below wr.heap.size wr w2) (hd:AIn w' d (oneF a n)) (ho:Only [d] w2 w') (hn:Nums wr w0.heap.size .i64 x' t) (hy:t.length<=y'/\y'<=maxLen):AppAt w0 w' d r A L x' y' t (oneF a n) :=
 have h':=h.alo.new hb
 ⟨h'.turn hd ho,(hn.below hb h.alo.below.size).only ho (h'.below.size) (by simpa using h'.low.1),fun m hm=>h.fits m (List.mem_cons_of_mem _ hm),hy,h.eq.trans (run_one a t h1 h2)⟩
theorem AppAt.fg {c3:Int} {l3:List Int} (h:AppAt w0 wr d r A L x y (38::t) a) (hR:folF a.f t=(c3,l3)) (hb:Below wr.heap.size wr w2) (hd:AIn w' d ⟨c3,a.b,a.g⟩) (ho:Only [d] w2 w') (hn:Nums wr w0.heap.size .i64 x' l3) (hy:l3.length<=y'/\y'<=maxLen) :
  AppAt w0 w' d r A L x' y' l3 ⟨c3,a.b,a.g⟩ :=
 have h':=h.alo.new hb
 ⟨h'.turn hd ho,(hn.below hb h.alo.below.size).only ho (h'.below.size) (by simpa using h'.low.1),fun m hm=>h.fits m (List.mem_cons_of_mem _ (Ch7 (c:=a.f) m (by rw[hR];exact hm))),hy,h.eq.trans (by rw[run_fg,hR])⟩
theorem AppAt.bg {c3:Int} {l3:List Int} (h:AppAt w0 wr d r A L x y (48::t) a) (hR:folF a.b t=(c3,l3)) (hb:Below wr.heap.size wr w2) (hd:AIn w' d ⟨a.f,c3,a.g⟩) (ho:Only [d] w2 w') (hn:Nums wr w0.heap.size .i64 x' l3) (hy:l3.length<=y'/\y'<=maxLen) :
  AppAt w0 w' d r A L x' y' l3 ⟨a.f,c3,a.g⟩ :=
 have h':=h.alo.new hb
 ⟨h'.turn hd ho,(hn.below hb h.alo.below.size).only ho (h'.below.size) (by simpa using h'.low.1),fun m hm=>h.fits m (List.mem_cons_of_mem _ (Ch7 (c:=a.b) m (by rw[hR];exact hm))),hy,h.eq.trans (by rw[run_bg,hR])⟩
end
theorem tail_nums {w:World} {B:Nat} {ad:Addr} {n:Int} {t:List Int} {y:Nat} (h:Nums w B .i64 (some ad) (n::t)) (hy:t.length+1<=y):Nums w B .i64 (if y=1 then some ad else some ⟨ad.block,ad.off+1,none⟩) t:=Cn2 h 1 hy
theorem apply_cons (a:At) {l:List Int} (h:l≠[]):applyF a l=runF a l:=if_neg h
def attV (a:At):Value:=.agg #[.int .u32 a.f,.int .u32 a.b,.int .u16 a.g]
theorem apply_any (a:At) (l:List Int) (hf:Fits .i64 l) (ao:Option Addr) (cp:Nat) (hl:l.length<=cp) (hm:cp<=maxLen) (w:World) (T:Tab w) (hn:Nums w w.heap.size .i64 ao l) :
  Calls Tryz.prog 251 #[.agg #[.int .u32 a.f,.int .u32 a.b,.int .u16 a.g],.slice ao l.length cp] w fun e w'=>e=.returned (.agg #[.int .u32 (applyF a l).f,.int .u32 (applyF a l).b,.int .u16 (applyF a l).g])/\Below w.heap.size w w':=by
 have hmade:=J0 (Alo.made w a)
 by_cases h0:l=[]
 ·subst h0
  clear hn
  go_enter Tryz.func251,Tryz.ntmps251
  go_wp2_with (with_reducible refine J8 4 ?_;go_must (refine Aa3 rfl _ (.tmp 4) (.tmp 9) rfl hmade.out.res.blk _ rfl rfl (by simpa using sizeA) (by simp) (by simp[Value.oneCell']) ?_);intro w2 hr2 ho2)
  have r0:=AIn.c0 (a:=zero) hr2;have r1:=AIn.c1 (a:=zero) hr2;have r2:=AIn.c2 (a:=zero) hr2
  simp only[zero] at r0 r1 r2
  exact bodyPost_ret (v:=.agg #[.int .u32 0,.int .u32 0,.int .u16 0]) (by simp[results,Tryz.results251,go_sem,r0,r1,r2]) rfl ⟨rfl,Ag3 hmade.out.below ho2 hmade.out.low.2⟩
 have hstart:=hmade.out
 have hnums:=hn.below hstart.below (J5 _)
 have hE:=J0 (apply_cons a h0)
 have hpos:0<l.length:=by rcases l with _|_<;>simp_all
 have hat:AppAt w ((w.alloc (.cells #[.int .u32 a.f,.int .u32 a.b,.int .u16 a.g] 51)).alloc (.cells #[.int .u32 0,.int .u32 0,.int .u16 0] 51)) w.heap.size (w.heap.size+1) a l ao cp l a:=⟨hstart,hnums,hf,⟨hl,hm⟩,rfl⟩
 replace hat:=J0 hat
 clear hstart hnums hmade h0 hf hn
 obtain⟨d,hd⟩:∃d,d=w.heap.size:=⟨_,rfl⟩
 obtain⟨r,hr⟩:∃r,r=w.heap.size+1:=⟨_,rfl⟩
 have hl':=J0 (And.intro hl hm)
 generalize hN:l.length=N at hpos
 have hN':=J0 hN
 have hN0:((N:Int) == 0)=false:=by simp;omega
 clear hl hm hN
 go_enter Tryz.func251,Tryz.ntmps251
 go_wp2_with fail
 rw[<- hr,<- hd] at hat |-
 generalize ((w.alloc (.cells #[.int .u32 a.f,.int .u32 a.b,.int .u16 a.g] 51)).alloc (.cells #[.int .u32 0,.int .u32 0,.int .u16 0] 51))=w1 at hat |-
 clear hd hr
 go_loopw [1] (fun s wr=>∃x y l' a',s=.slice x l'.length y/\Hid (AppAt w wr d r a l x y l' a')) (fun s _=>Bd5 s)
 case atStart=>exact⟨ao,cp,l,a,by rw[hN'.out],hat⟩
 case round =>
  obtain⟨x,y,l',a',rfl,hat'⟩:=hrel
  clear hat
  rename_i wr _
  rcases l' with _|⟨n,t⟩
  ·have hE2:applyF a l=a':=by rw[hE.out,hat'.out.eq,run_nil]
   have m0:=hat'.out.alo.att.c0
   have m1:=hat'.out.alo.att.c1
   have m2:=hat'.out.alo.att.c2
   obtain⟨f,b,g⟩:=a'
   simp only at m0 m1 m2
   go_wp2_with (with_reducible refine J8 4 ?_;go_must (refine Aa3 rfl _ (.tmp 4) (.tmp 42) rfl hat'.out.alo.res.blk _ rfl rfl (by simpa using sizeA) (by simp) (by simp[Value.oneCell']) ?_);intro w9 hr9 ho9)
   have r0:=AIn.c0 (a:=⟨f,b,g⟩) hr9
   have r1:=AIn.c1 (a:=⟨f,b,g⟩) hr9
   have r2:=AIn.c2 (a:=⟨f,b,g⟩) hr9
   simp only at r0 r1 r2
   exact bodyPost_ret (v:=.agg #[.int .u32 f,.int .u32 b,.int .u16 g]) (by simp[results,Tryz.results251,go_sem,r0,r1,r2]) rfl ⟨by rw[hE2],Ag3 hat'.out.alo.below ho9 hat'.out.alo.low.2⟩
  ·obtain⟨ad,rfl,hblk,c0⟩:=hat'.out.nums 0 n rfl
   rw[Bc8] at c0
   have hcap:=hat'.out.cap
   have hnt:=tail_nums hat'.out.nums (by simpa using hcap.1)
   obtain⟨q,hq⟩:∃q,(if y=1 then some ad else some (⟨ad.block,ad.off+1,none⟩:Addr))=q:=⟨_,rfl⟩
   rw[hq] at hnt
   have hcap1:t.length+1<=y:=by simpa using hcap.1
   have hty:t.length<=y - 1/\y - 1<=maxLen:=⟨by omega,by have:=hcap.2;omega⟩
   have hnm:n<=9223372036854775807:=fits_le hat'.out.fits (List.mem_cons_self ..)
   have hbs:=hat'.out.alo.below.size
   have hcap2:y<=9223372036854775807:=by have:=hcap.2;simp only[maxLen] at this;omega
   have hty':=J0 hty
   have hT:=J0 (T.below hat'.out.alo.below)
   have hNt:(n::t).length=t.length+1:=rfl
   rw[hNt]
   clear hcap hNt
   by_cases h38:n=38
   ·subst h38
    have hfol:=Aq8 a'.f t q (y - 1) w.heap.size hty.1 hty.2 wr hnt hbs
    have hlen:=Bn7 a'.f t
    rcases hR:folF a'.f t with ⟨c3,l3⟩
    rw[hR] at hfol hlen
    replace hR:=J0 hR
    replace hfol:=J0 hfol
    simp only at hlen
    have m0:=hat'.out.alo.att.c0
    replace hlen:=J0 hlen
    clear hnt hty hnm hT hbs
    generalize hM:t.length=M at hfol hcap1 hlen
    clear hM
    go_wp2_with (first
     |(go_at_call 274;refine(hfol.out).mono ?_;rintro e w3 ⟨x3,y3,rfl,g1,g2,g3,g4⟩;simp only at g1 g2 g3;replace g3:=J0 g3;have g5:=J0 (hat'.out.alo.new g4))
     |(with_reducible refine J8 31 ?_;go_must (refine Aa5 rfl _ (.tmp 31) (.tmp 29) rfl g5.out.att.blk (.int _ _) rfl rfl (by simp) (by exact Cr4) rfl ?_);intro w4 hd4 ho4))
    go_roundw
    case rel=>exact⟨x3,y3,l3,⟨c3,a'.b,a'.g⟩,rfl,J0 (hat'.out.fg hR.out g4 hd4 ho4 g3.out ⟨g1,g2⟩)⟩
    case measure=>simp only[Bd5];have:=hlen.out;omega
   by_cases h48:n=48
   ·subst h48
    have hfol:=Aq8 a'.b t q (y - 1) w.heap.size hty.1 hty.2 wr hnt hbs
    have hlen:=Bn7 a'.b t
    rcases hR:folF a'.b t with ⟨c3,l3⟩
    rw[hR] at hfol hlen
    replace hR:=J0 hR
    replace hfol:=J0 hfol
    simp only at hlen
    have m1:=hat'.out.alo.att.c1
    replace hlen:=J0 hlen
    clear hnt hty hnm hT hbs
    generalize hM:t.length=M at hfol hcap1 hlen
    clear hM
    go_wp2_with (first
     |(go_at_call 274;refine(hfol.out).mono ?_;rintro e w3 ⟨x3,y3,rfl,g1,g2,g3,g4⟩;simp only at g1 g2 g3;replace g3:=J0 g3;have g5:=J0 (hat'.out.alo.new g4))
     |(with_reducible refine J8 41 ?_;go_must (refine Aa5 rfl _ (.tmp 41) (.tmp 39) rfl g5.out.att.blk (.int _ _) rfl rfl (by simp) (by exact Cr4) rfl ?_);intro w4 hd4 ho4))
    go_roundw
    case rel=>exact⟨x3,y3,l3,⟨a'.f,c3,a'.g⟩,rfl,J0 (hat'.out.bg hR.out g4 hd4 ho4 g3.out ⟨g1,g2⟩)⟩
    case measure=>simp only[Bd5];have:=hlen.out;omega
   ·have b38:(n == 38)=false:=by simpa using h38
    have b48:(n == 48)=false:=by simpa using h48
    have hone:=J0 (Bd7 a' n hnm wr hT.out)
    have hstep:=J0 (fun w2 w4 (hb:Below wr.heap.size wr w2) hd ho=>hat'.out.one (w2:=w2) (w':=w4) h38 h48 hb hd ho hnt hty)
    have m0:=hat'.out.alo.att.c0
    have m1:=hat'.out.alo.att.c1
    have m2:=hat'.out.alo.att.c2
    clear hnt hty hnm hT hbs h38 h48
    generalize hM:t.length=M at hcap1 hty'
    replace hM:=J0 hM
    go_wp2_with (first
     |(go_at_call 275;refine(hone.out).mono ?_;rintro e w3 ⟨rfl,g4⟩;have g5:=J0 (hat'.out.alo.new g4))
     |(with_reducible refine J8 2 ?_;go_must (refine Aa3 rfl _ (.tmp 2) (.tmp 21) rfl g5.out.att.blk _ rfl rfl (by simpa using sizeA) (by simp) (by simp[Value.oneCell']) ?_);intro w4 hd4 ho4;dsimp only [Act.put]))
    go_roundw
    case rel=>exact⟨q,y - 1,t,oneF a' n,by rw[hM.out],J0 (hstep.out _ _ g4 hd4 ho4)⟩
    case measure=>simp only[Bd5];omega
