/- Part 19 of HostKeys. -/
import Derived.StillTailTactics
import Derived.Test.YtecnpoigegiooaaGreatDoorW18
import Derived.ProofKit
import Derived.OpenShut
import Derived.ShutString
import Derived.ChangeOld
import Derived.Shelf.Strconv.Itoa0
import Derived.Shelf.Strconv.Itoa1
import Derived.Shelf.LaysM
import Derived.Shelf.Strconv.Itoa2
import Derived.Shelf.Strconv.AppendUint10
import Derived.Shelf.Strconv.AppendInt10
import Derived.Shelf.Strconv.AppendIntPublic10
set_option maxHeartbeats 16000000
set_option maxRecDepth 100000
namespace Go.Proofs.YtecnpoigegiooaaGreatDoor.Sgr
open Tryz
open Go RowKit Com
def Afe(l:List Int):Bool:=l.all isB
theorem Ckw{n:Int}(h0:¬n<0)(h1:¬255<n):isB n=true:=by simp only[isB,decide_eq_true_eq];omega
theorem Bod{n:Int}(h:n<0\/255<n):isB n=false:=by simp only[isB,decide_eq_false_iff_not];omega
theorem Cdi{l:List Int}{k:Nat}(h:k<l.length):Afe (l.drop k)=(isB l[k]&&Afe (l.drop (k+1))):=by
 unfold Afe
 rw[List.drop_eq_getElem_cons h,List.all_cons]
theorem Bfb(l:List Int)(ao:Option Addr)(c B:Nat)(hl:l.length<=9223372036854775807)(w:World)(hn:A8 w B .i64 ao l) :
  Calls prog 284 #[.slice ao l.length c] w fun e w'=>e=.returned (.bool (Afe l))/\w=w':=by
 go_enter func284,ntmps284
 go_wp2
 go_loop [7] (fun i=>∃k:Nat,k<=l.length/\i=.int .i64 k/\Hid (Afe l=Afe (l.drop k))) (fun i=>l.length-(intOf i).toNat)
 case atStart=>exact⟨0,by omega,rfl,J0 (by simp)⟩
 case round =>
  obtain⟨k,hk,rfl,hs⟩:=hrel
  by_cases hlt:k<l.length
  ·obtain⟨ad,rfl,_,hc⟩:=hn.at hlt
   have hE:=J0 (Cdi hlt)
   clear hn
   generalize l[k]=x at hc hE
   by_cases h0:x<0
   ·have hF:=J0 (Bod (.inl h0))
    go_wp2
    go_ret
    exact⟨G1 (by rw[hs.out,hE.out,hF.out];rfl),rfl⟩
   by_cases h1:255<x
   ·have hF:=J0 (Bod (.inr h1))
    go_wp2
    go_ret
    exact⟨G1 (by rw[hs.out,hE.out,hF.out];rfl),rfl⟩
   ·have hF:=J0 (Ckw h0 h1)
    go_wp2
    go_round
    case rel=>exact⟨k+1,by omega,by go_num,J0 (by rw[hs.out,hE.out,hF.out];rfl)⟩
    case measure=>simp[intOf];omega
  ·have hE:Hid (Afe (l.drop k)=true):=by show _=_;rw[List.drop_of_length_le (by omega)];rfl
   go_wp2
   go_ret
   exact⟨G1 (by rw[hs.out,hE.out]),rfl⟩
def AIn(w:World)(d:Nat)(a:At):Prop:=Block w d 51 #[.int .u32 a.f,.int .u32 a.b,.int .u16 a.g]
section
variable {w w':World}{d:Nat}{a:At}
theorem AIn.blk(h:AIn w d a):Block w d 51 #[.int .u32 a.f,.int .u32 a.b,.int .u16 a.g]:=h
theorem AIn.c0(h:AIn w d a):w.cell? ⟨d,0,none⟩=some (.int .u32 a.f):=Block.cell h 0 rfl
theorem AIn.c1(h:AIn w d a):w.cell? ⟨d,1,none⟩=some (.int .u32 a.b):=Block.cell h 1 rfl
theorem AIn.c2(h:AIn w d a):w.cell? ⟨d,2,none⟩=some (.int .u16 a.g):=Block.cell h 2 rfl
theorem AIn.free(h:AIn w d a)(i:Nat):w.frozen? ⟨d,i,none⟩=false:=Block.free h i
theorem AIn.only{L:List Nat}(h:AIn w d a)(ho:A0 L w w')(hn:d∉L):AIn w' d a:=Block.only h ho hn
theorem AIn.new(h:AIn w d a)(hb:Below w.heap.size w w'):AIn w' d a:=h.only (A0.A1 hb []) (by simp)
theorem AIn.made(w:World)(a:At):AIn (w.alloc (.cells #[.int .u32 a.f,.int .u32 a.b,.int .u16 a.g] 51)) w.heap.size a:=Block.made _ _ _
end
theorem Aof:(prog.info? 51).map (·.size)=some 3:=by kernel_rfl
theorem Bom:(prog.info? 48).map (·.size)=some 1:=by kernel_rfl
structure Alo(w0 w:World)(d r:Nat)(a:At):Prop where
 att:AIn w d a
 res:AIn w r zero
 low:w0.heap.size<=d/\w0.heap.size<=r
 ne:d≠r
 below:Below w0.heap.size w0 w
section
variable {w0 w w':World}{d r:Nat}{a a':At}
theorem Alo.new(h:Alo w0 w d r a)(hb:Below w.heap.size w w'):Alo w0 w' d r a:=⟨h.att.new hb,h.res.new hb,h.low,h.ne,A2 h.below hb⟩
theorem Alo.G9(h:Alo w0 w d r a)(hd:AIn w' d a')(ho:A0 [d] w w'):Alo w0 w' d r a':=⟨hd,h.res.only ho (by simp;exact fun e=>h.ne e.symm),h.low,h.ne,Adp h.below ho h.low.1⟩
theorem Alo.drew(h:Alo w0 w d r a):Alo w0 w.drew d r a:=h.new (C7 (Below.refl _ _) 1)
theorem Alo.made(w:World)(a:At):Alo w ((w.alloc (.cells #[.int .u32 a.f,.int .u32 a.b,.int .u16 a.g] 51)).alloc (.cells #[.int .u32 0,.int .u32 0,.int .u16 0] 51)) w.heap.size (w.heap.size+1) a:=by
 have h1:=AIn.made w a
 have h2:=AIn.made (w.alloc (.cells #[.int .u32 a.f,.int .u32 a.b,.int .u16 a.g] 51)) zero
 rw[World.size_alloc]at h2
 exact⟨h1.new (A3 _ _),h2,⟨by omega,by omega⟩,by omega,A2 (A3 _ _) (A3 _ _)⟩
theorem Alo.Cux{f b g:Int}(h:Alo w0 w d r ⟨f,b,g⟩)(x:Int):Alo w0 (w.setCell ⟨d,0,none⟩ (.int .u32 x)) d r ⟨x,b,g⟩:=h.G9 (Block.set h.att.blk 0 _) (A0.setCell w ⟨d,0,none⟩ _)
theorem Alo.Cuy{f b g:Int}(h:Alo w0 w d r ⟨f,b,g⟩)(x:Int):Alo w0 (w.setCell ⟨d,1,none⟩ (.int .u32 x)) d r ⟨f,x,g⟩:=h.G9 (Block.set h.att.blk 1 _) (A0.setCell w ⟨d,1,none⟩ _)
theorem Alo.Cuz{f b g:Int}(h:Alo w0 w d r ⟨f,b,g⟩)(x:Int):Alo w0 (w.setCell ⟨d,2,none⟩ (.int .u16 x)) d r ⟨f,b,x⟩:=h.G9 (Block.set h.att.blk 2 _) (A0.setCell w ⟨d,2,none⟩ _)
end
theorem Azm(a:At)(n:Int)(hn:n<=9223372036854775807)(w:World)(T:Tab w) :
  Calls prog 275 #[.agg #[.int .u32 a.f,.int .u32 a.b,.int .u16 a.g],.int .i64 n] w fun e w'=>e=.returned (.agg #[.int .u32 (Agv a n).f,.int .u32 (Agv a n).b,.int .u16 (Agv a n).g])/\Below w.heap.size w w':=by
 obtain⟨f,b,g⟩:=a
 have E9:=J0 (Alo.made w ⟨f,b,g⟩)
 by_cases h0:n=0
 ·subst h0
  go_enter func275,ntmps275
  go_wp2_with(with_reducible refine J8 4 ?_;go_must(refine L8 rfl _ (.tmp 4) (.tmp 7) rfl E9.out.res.blk _ rfl rfl (by simpa using Aof) (by simp) (by simp[Value.oneCell']) ?_);intro w2 hr2 ho2)
  have r0:=AIn.c0 (a:=zero) hr2;have r1:=AIn.c1 (a:=zero) hr2;have r2:=AIn.c2 (a:=zero) hr2
  simp only[zero]at r0 r1 r2
  exact bodyPost_ret (v:=.agg #[.int .u32 0,.int .u32 0,.int .u16 0]) (by simp[results,results275,go_sem,r0,r1,r2]) rfl ⟨rfl,Adp E9.out.below ho2 E9.out.low.2⟩
 have hE:Hid (Agv ⟨f,b,g⟩ n=⟨X3 30 82 39 f n,X3 40 92 49 b n,orF (Ayc g (Q0 n)) (Aeb n)⟩):=by show _=_;unfold Agv;rw[if_neg h0]
 have h0':(n==0)=false:=by simpa using h0
 have E3:=J0 (fun w' (hb:Below w.heap.size w w')=>Bzy n hn w' (T.below hb))
 have Bpd:=J0 (fun w' (hb:Below w.heap.size w w')=>Bje n w' (T.below hb))
 clear h0 T
 go_enter func275,ntmps275
 go_wp2
 replace E9:=E9.out
 obtain⟨r,hr⟩:∃r,r=w.heap.size+1:=⟨_,rfl⟩
 rw[<- hr]at E9 |-
 obtain⟨d,hd⟩:∃d,d=w.heap.size:=⟨_,rfl⟩
 have Alh:=J0 E9.drew.below
 have h2:=E9
 rw[<- hd]at h2 |-
 generalize ((w.alloc (.cells #[.int .u32 f,.int .u32 b,.int .u16 g] 51)).alloc (.cells #[.int .u32 0,.int .u32 0,.int .u16 0] 51))=w1 at h2 Alh |-
 have h2':=J0 h2
 have c2:=h2.att.c2
 have hf2:=h2.att.free 2
 have he1:=E3.out _ Alh.out
 have he2:=Bpd.out _ Alh.out
 clear E9 hr hd h2
 go_cut []from 8 to 16 (fun wx=>Alo w wx d r ⟨f,b,orF (Ayc g (Q0 n)) (Aeb n)⟩)
 case first =>
  go_region_with (first
   |(go_at_call 286;refine(he1).mono ?_;rintro e w' ⟨rfl,rfl⟩)
   |(go_at_call 287;refine(he2).mono ?_;rintro e w' ⟨rfl,rfl⟩))
  all_goals
   go_wp2
   go_meet
   exact(h2'.out.Cuz _).drew
 case rest =>
  clear he1 he2 E3 Bpd c2 hf2 Alh h2' hn
  generalize hG:orF (Ayc g (Q0 n)) (Aeb n)=G at hcut
  replace hG:=J0 hG
  go_wp2_with fail
  have h3:=J0 hcut
  have c3:=hcut.att.c0
  have hf3:=hcut.att.free 0
  have hk3:=J0 (fun w' (hb:Below wc.drew.heap.size wc.drew w')=>(hcut.drew.new hb))
  clear hcut
  go_cut []from 17 to 22 (fun wx=>Alo w wx d r ⟨X3 30 82 39 f n,b,G⟩)
  case first =>
   go_region_with (first
    |(go_at_call 288;refine(Bsf _).mono ?_;rintro e w4 ⟨rfl,hb4⟩;have k4:=(hk3.out _ hb4).att.c0;have kf4:=(hk3.out _ hb4).att.free 0)
    |(go_at_call 289;refine(Bih 30 82 38 39 f n (by omega) (by omega) _).mono ?_;rintro e w5 ⟨rfl,hb5⟩;have k5:=((hk3.out _ hb4).new hb5).att.c0;have kf5:=((hk3.out _ hb4).new hb5).att.free 0))
   all_goals
    go_wp2
    go_meet
    exact((hk3.out _ hb4).new hb5).Cux _
  case rest =>
   clear h3 c3 hf3 hk3
   go_wp2_with fail
   have c4:=hcut.att.c1
   have hf4:=hcut.att.free 1
   have hk4:=J0 (fun w' (hb:Below wc.drew.heap.size wc.drew w')=>(hcut.drew.new hb))
   clear hcut
   go_cut []from 23 to 28 (fun wx=>Alo w wx d r ⟨X3 30 82 39 f n,X3 40 92 49 b n,G⟩)
   case first =>
    go_region_with (first
     |(go_at_call 290;refine(Bsc _).mono ?_;rintro e w7 ⟨rfl,hb7⟩;have k7:=(hk4.out _ hb7).att.c1;have kf7:=(hk4.out _ hb7).att.free 1)
     |(go_at_call 289;refine(Bih 40 92 48 49 b n (by omega) (by omega) _).mono ?_;rintro e w8 ⟨rfl,hb8⟩;have k8:=((hk4.out _ hb7).new hb8).att.c1;have kf8:=((hk4.out _ hb7).new hb8).att.free 1))
    all_goals
     go_wp2
     go_meet
     exact((hk4.out _ hb7).new hb8).Cuy _
   case rest =>
    have hE2:=hE.out
    rw[hG.out]at hE2
    clear hE hG c4 hf4 hk4
    have m0:=hcut.att.c0
    have m1:=hcut.att.c1
    have m2:=hcut.att.c2
    replace hcut:=J0 hcut
    generalize X3 30 82 39 f n=x at hcut hE2 m0
    generalize X3 40 92 49 b n=y at hcut hE2 m1
    go_wp2_with(with_reducible refine J8 4 ?_;go_must(refine L8 rfl _ (.tmp 4) (.tmp 29) rfl hcut.out.res.blk _ rfl rfl (by simpa using Aof) (by simp) (by simp[Value.oneCell']) ?_);intro w9 hr9 ho9)
    have r0:=AIn.c0 (a:=⟨x,y,G⟩) hr9
    have r1:=AIn.c1 (a:=⟨x,y,G⟩) hr9
    have r2:=AIn.c2 (a:=⟨x,y,G⟩) hr9
    simp only at r0 r1 r2
    exact bodyPost_ret (v:=.agg #[.int .u32 x,.int .u32 y,.int .u16 G]) (by simp[results,results275,go_sem,r0,r1,r2]) rfl ⟨rfl,Adp hcut.out.below ho9 hcut.out.low.2⟩
def Fol(w:World)(B:Nat)(R:Int×List Int)(e:Ending)(w':World):Prop :=
 ∃x y,e=.returned (.tuple #[.int .u32 R.1,.slice x R.2.length y])/\R.2.length<=y/\y<=maxLen/\A8 w B .i64 x R.2/\Below w.heap.size w w'
theorem Aut(ad:Addr):ad.add 0=ad:=by simp[Addr.add]
theorem Ciu(x:Int):Afe [x]=isB x:=by simp[Afe]
theorem Bzg(x y z:Int):Afe [x,y,z]=(isB x&&isB y&&isB z):=by simp[Afe,Bool.and_assoc]
theorem Ab2{w:World}{B:Nat}{ad:Addr}{l:List Int}{cp:Nat}(h:A8 w B .i64 (some ad) l)(k:Nat)(hl:l.length<=cp):A8 w B .i64 (if cp=k then some ad else some (ad.add k)) (l.drop k):=by
 by_cases e:cp=k
 ·rw[List.drop_of_length_le (by omega)]
  exact A8.nil _ _ _ _
 ·rw[if_neg e]
  have:=h.piece k l.length
  rwa [List.take_length]at this
theorem Akv{w w':World}{B:Nat}{c c':Int}{t:List Int}{N y:Nat}{x:Option Addr}(hN:t.length=N)(hc:c=c')(h1:N<=y)(h2:y<=maxLen)(h3:A8 w B .i64 x t)(h4:Below w.heap.size w w') :
  Fol w B (c',t) (.returned (.tuple #[.int .u32 c,.slice x N y])) w':=by
 subst hN
 subst hc
 exact⟨x,y,rfl,h1,h2,h3,h4⟩
theorem Buu(c:Int)(y:Int)(t:List Int)(ao:Option Addr)(cp B:Nat)(hl:t.length+2<=cp)(hm:cp<=maxLen)(w:World)(hn:A8 w B .i64 ao (5::y::t))(hB:B<=w.heap.size) :
  Calls prog 274 #[.int .u32 c,.slice ao ((5::y::t:List Int).length) cp] w (Fol w B (if isB y then y+1 else c,t)):=by
 obtain⟨ad,rfl,hb0,c0⟩:=hn 0 5 rfl
 obtain⟨ad',e',hb1,c1⟩:=hn 1 y rfl
 cases e'
 rw[Aut]at c0
 rw[show ad.add 1=⟨ad.block,ad.off+1,none⟩from rfl]at c1
 have hd:=Ab2 hn 2 hl
 rw[show(5::y::t:List Int).drop 2=t from rfl,show ad.add 2=⟨ad.block,ad.off+2,none⟩from rfl]at hd
 obtain⟨q,hq⟩:∃q,q=(if cp=2 then some ad else some (⟨ad.block,ad.off+2,none⟩:Addr)):=⟨_,rfl⟩
 rw[<- hq]at hd
 replace hd:=J0 hd
 replace hq:=J0 hq
 have hlt:ad.block<w.heap.size:=Nat.lt_of_lt_of_le hb0 hB
 have hby:=J0 (Bfb [y] (some ⟨w.heap.size,0,none⟩) 1 (w.heap.size+1) (by simp) _ (A8.lit w 3 .i64 [y]))
 have F0:=J0 (fun n=>C7 (A3 w (.cells #[.int .i64 y] 3)) n)
 rw[Ciu]at hby
 clear hn
 have Axq:cp<=9223372036854775807:=by simp only[maxLen]at hm;omega
 rw[show(5::y::t:List Int).length=t.length+2 by rfl]
 have hm':=J0 hm
 clear hm
 generalize hN:t.length=N at hl
 have hN':=J0 hN
 clear hN
 rcases hi:isB y with _|_
 ·rw[hi]at hby
  go_enter func274,ntmps274
  go_wp2_with(go_at_call 284;refine(hby.out).mono ?_;rintro e w' ⟨rfl,rfl⟩)
  go_quiet (fail)
  rw[<- hq.out]
  go_wp2
  go_ret2
  exact Akv hN'.out (by simp) (by omega) (by have:=hm'.out;omega) hd.out (F0.out _)
 ·rw[hi]at hby
  have h0:0<=y/\y<=255:=by simpa only [isB,decide_eq_true_eq]using hi
  obtain⟨h0,h1⟩:=h0
  have Acg:=J0 (fun w'=>Apc y h0 h1 w')
  go_enter func274,ntmps274
  go_wp2_with(first|(go_at_call 284;refine(hby.out).mono ?_;rintro e w' ⟨rfl,rfl⟩)|(go_at_call 285;refine(Acg.out _).mono ?_;rintro e w' ⟨rfl,rfl⟩))
  go_quiet (fail)
  rw[<- hq.out]
  go_wp2
  go_ret2
  exact Akv hN'.out (by simp) (by omega) (by have:=hm'.out;omega) hd.out (F0.out _)
theorem Bcl{i a b:Nat}(hb:b<2^i)(h:2^i*a+b<4294967296):bits .or .u32 ((2^i*a:Nat):Int) ((b:Nat):Int)=((2^i*a+b:Nat):Int):=by
 rw[Nat.two_pow_add_eq_or_of_lt hb]
 have h':=h
 rw[Nat.two_pow_add_eq_or_of_lt hb]at h'
 have hA:2^i*a<4294967296:=by omega
 have hB:b<4294967296:=by omega
 generalize 2^i*a=A at *
 show IntKind.u32.wrap (((BitVec.ofInt 32 (A:Int) ||| BitVec.ofInt 32 (b:Int)).toNat:Nat):Int)=_
 rw[BitVec.ofInt_natCast,BitVec.ofInt_natCast,BitVec.toNat_or,BitVec.toNat_ofNat,BitVec.toNat_ofNat,Nat.mod_eq_of_lt hA,Nat.mod_eq_of_lt hB,IntWalk.u32_in _ (by omega)]
theorem Che{x y z:Int}(hx:isB x=true)(hy:isB y=true)(hz:isB z=true):bits .or .u32 (bits .or .u32 (bits .or .u32 16777216 (x*65536)) (y*256)) z=Atd x y z:=by
 simp only[isB,decide_eq_true_eq]at hx hy hz
 obtain⟨x,rfl⟩:∃n:Nat,x=n:=⟨x.toNat,by omega⟩
 obtain⟨y,rfl⟩:∃n:Nat,y=n:=⟨y.toNat,by omega⟩
 obtain⟨z,rfl⟩:∃n:Nat,z=n:=⟨z.toNat,by omega⟩
 have h1:=Bcl (i:=24) (a:=1) (b:=x*65536) (by omega) (by omega)
 have h2:=Bcl (i:=16) (a:=256+x) (b:=y*256) (by omega) (by omega)
 have h3:=Bcl (i:=8) (a:=65536+x*256+y) (b:=z) (by omega) (by omega)
 have e0:(2^24*1:Nat)=16777216:=by kernel_rfl
 have e1:((2^24*1:Nat):Int)=16777216:=by rw[e0];rfl
 have e2:((2^24*1+x*65536:Nat):Int)=((2^16*(256+x):Nat):Int):=by omega
 have e3:((2^16*(256+x)+y*256:Nat):Int)=((2^8*(65536+x*256+y):Nat):Int):=by omega
 have x1:((x*65536:Nat):Int)=(x:Int)*65536:=by simp
 have y1:((y*256:Nat):Int)=(y:Int)*256:=by simp
 rw[e1,e2,x1]at h1
 rw[e3,y1]at h2
 rw[h1,h2,h3]
 unfold Atd
 omega
theorem Bxl(c:Int)(x y z:Int)(t:List Int)(ao:Option Addr)(cp B:Nat)(hl:t.length+4<=cp)(hm:cp<=maxLen)(w:World)(hn:A8 w B .i64 ao (2::x::y::z::t))(hB:B<=w.heap.size) :
  Calls prog 274 #[.int .u32 c,.slice ao ((2::x::y::z::t:List Int).length) cp] w (Fol w B (if isB x&&isB y&&isB z then Atd x y z else c,t)):=by
 obtain⟨ad,rfl,hb0,c0⟩:=hn 0 2 rfl
 obtain⟨ad',e',hb1,c1⟩:=hn 1 x rfl
 cases e'
 obtain⟨ad',e',hb2,c2⟩:=hn 2 y rfl
 cases e'
 obtain⟨ad',e',hb3,c3⟩:=hn 3 z rfl
 cases e'
 rw[Aut]at c0
 rw[show ad.add 1=⟨ad.block,ad.off+1,none⟩from rfl]at c1
 rw[show ad.add 2=⟨ad.block,ad.off+2,none⟩from rfl]at c2
 rw[show ad.add 3=⟨ad.block,ad.off+3,none⟩from rfl]at c3
 have hd:=Ab2 hn 4 hl
 rw[show(2::x::y::z::t:List Int).drop 4=t from rfl,show ad.add 4=⟨ad.block,ad.off+4,none⟩from rfl]at hd
 obtain⟨q,hq⟩:∃q,q=(if cp=4 then some ad else some (⟨ad.block,ad.off+4,none⟩:Addr)):=⟨_,rfl⟩
 rw[<- hq]at hd
 replace hd:=J0 hd
 replace hq:=J0 hq
 have hlt:ad.block<w.heap.size:=Nat.lt_of_lt_of_le hb0 hB
 have hby:=J0 (Bfb [x,y,z] (some ⟨w.drew.heap.size,0,none⟩) 3 (w.drew.heap.size+1) (by simp) _ (A8.lit w.drew 3 .i64 [x,y,z]))
 have F0:=J0 (A3 w (.cells #[.int .i64 x,.int .i64 y,.int .i64 z] 3))
 rw[Bzg]at hby
 clear hn
 have Y9:=A3 w.drew (.cells #[.int .i64 x,.int .i64 y,.int .i64 z] 3)
 have k1:=(Y9.cell (p:=⟨ad.block,ad.off+1,none⟩) hlt).trans c1
 have k2:=(Y9.cell (p:=⟨ad.block,ad.off+2,none⟩) hlt).trans c2
 have k3:=(Y9.cell (p:=⟨ad.block,ad.off+3,none⟩) hlt).trans c3
 clear Y9
 have Axq:cp<=9223372036854775807:=by simp only[maxLen]at hm;omega
 rw[show(2::x::y::z::t:List Int).length=t.length+4 by rfl]
 have hm':=J0 hm
 clear hm
 generalize hN:t.length=N at hl
 have hN':=J0 hN
 clear hN
 have l1:(1:Int)<(N:Int)+4:=by omega
 have l2:(2:Int)<(N:Int)+4:=by omega
 have l3:(3:Int)<(N:Int)+4:=by omega
 rcases hi:(isB x&&isB y&&isB z)with _|_
 ·rw[hi]at hby
  go_enter func274,ntmps274
  go_wp2_with fail
  go_region_held3 (fun w'=>w'.cell? ⟨ad.block,ad.off+1,none⟩=some (.int .i64 x)/\w'.cell? ⟨ad.block,ad.off+2,none⟩=some (.int .i64 y)/\w'.cell? ⟨ad.block,ad.off+3,none⟩=some (.int .i64 z))
   (first|exact⟨c1,c2,c3⟩|exact⟨k1,k2,k3⟩|go_keep)
   (first|(go_at_call 284;refine(hby.out).mono ?_;rintro e w' ⟨rfl,rfl⟩))
  go_wp2_with fail
  go_quiet (fail)
  rw[<- hq.out]
  go_wp2
  go_ret2
  exact Akv hN'.out (by simp) (by omega) (by have:=hm'.out;omega) hd.out (C7 F0.out _)
 ·have hi':=hi
  simp only[Bool.and_eq_true]at hi'
  obtain⟨⟨hx,hy⟩,hz⟩:=hi'
  have hE:=J0 (Che hx hy hz)
  simp only[isB,decide_eq_true_eq]at hx hy hz
  obtain⟨x0,x1⟩:=hx
  obtain⟨y0,y1⟩:=hy
  obtain⟨z0,z1⟩:=hz
  rw[hi]at hby
  go_enter func274,ntmps274
  go_wp2_with fail
  go_region_held3 (fun w'=>w'.cell? ⟨ad.block,ad.off+1,none⟩=some (.int .i64 x)/\w'.cell? ⟨ad.block,ad.off+2,none⟩=some (.int .i64 y)/\w'.cell? ⟨ad.block,ad.off+3,none⟩=some (.int .i64 z))
   (first|exact⟨c1,c2,c3⟩|exact⟨k1,k2,k3⟩|go_keep)
   (first|(go_at_call 284;refine(hby.out).mono ?_;rintro e w' ⟨rfl,rfl⟩))
  go_wp2_with fail
  go_quiet (fail)
  go_wp2_with fail
  go_quiet (fail)
  rw[<- hq.out]
  go_wp2
  go_ret2
  exact Akv hN'.out hE.out (by omega) (by have:=hm'.out;omega) hd.out (C7 (C7 F0.out _) _)
theorem Bjg(c y:Int)(t:List Int):T8 c (5::y::t)=(if isB y then y+1 else c,t):=by
 unfold T8
 rw[if_pos ⟨by simp,rfl⟩]
 rfl
theorem Bll(c x y z:Int)(t:List Int):T8 c (2::x::y::z::t)=(if isB x&&isB y&&isB z then Atd x y z else c,t):=by
 unfold T8
 rw[if_neg (by simp),if_pos ⟨by simp,rfl⟩]
 rfl
structure Bdm(l:List Int):Prop where
 Bqn:2<=l.length->l.getD 0 0≠5
 two:4<=l.length->l.getD 0 0≠2
theorem Bjf{l:List Int}(h:Bdm l)(c:Int):T8 c l=(c,[]):=by
 unfold T8
 rw[if_neg (fun e=>h.Bqn e.1 e.2),if_neg (fun e=>h.two e.1 e.2)]
theorem Bht(l:List Int):(∃y t,l=5::y::t)\/(∃x y z t,l=2::x::y::z::t)\/Bdm l:=by
 rcases l with _|⟨a,_|⟨b,t⟩⟩
 ·exact .inr (.inr ⟨by simp,by simp⟩)
 ·exact .inr (.inr ⟨by simp,by simp⟩)
 ·by_cases h5:a=5
  ·subst h5;exact .inl ⟨b,t,rfl⟩
  rcases t with _|⟨c,_|⟨d,t⟩⟩
  ·exact .inr (.inr ⟨by simpa using h5,by simp⟩)
  ·exact .inr (.inr ⟨by simpa using h5,by simp⟩)
  ·by_cases h2:a=2
   ·subst h2;exact .inr (.inl ⟨b,c,d,t,rfl⟩)
   ·exact .inr (.inr ⟨by simpa using h5,by simpa using h2⟩)
theorem But(c:Int)(l:List Int)(h:Bdm l)(ao:Option Addr)(cp B:Nat)(hm:l.length<=maxLen)(w:World)(hn:A8 w B .i64 ao l) :
  Calls prog 274 #[.int .u32 c,.slice ao l.length cp] w (Fol w B (c,[])):=by
 have Axq:l.length<=9223372036854775807:=by simp only[maxLen]at hm;omega
 clear hm
 by_cases h2:l.length<2
 ·clear hn h
  generalize l.length=N at Axq h2
  have h4:N<4:=by omega
  go_enter func274,ntmps274
  go_wp2
  go_ret2
  exact Akv (x:=none) (y:=0) rfl rfl (by simp) (by simp) (A8.nil _ _ _ _) (Below.refl _ _)
 obtain⟨ad,rfl,_,c0⟩:=hn.at (i:=0) (by omega)
 rw[Aut]at c0
 have e0:l.getD 0 0=l[0]:=getD_at (by omega)
 have h5:=h.Bqn (by omega)
 have h42:=h.two
 rw[e0]at h5 h42
 clear hn h e0
 generalize l[0]=x at c0 h5 h42
 generalize l.length=N at Axq h2 h42
 have h5':(x==5)=false:=by simpa using h5
 by_cases h4:N<4
 ·go_enter func274,ntmps274
  go_wp2
  go_ret2
  exact Akv (x:=none) (y:=0) rfl rfl (by simp) (by simp) (A8.nil _ _ _ _) (Below.refl _ _)
 ·have h2':(x==2)=false:=by simpa using h42 (by omega)
  go_enter func274,ntmps274
  go_wp2
  go_ret2
  exact Akv (x:=none) (y:=0) rfl rfl (by simp) (by simp) (A8.nil _ _ _ _) (Below.refl _ _)
theorem Att(c:Int)(l:List Int)(ao:Option Addr)(cp B:Nat)(hl:l.length<=cp)(hm:cp<=maxLen)(w:World)(hn:A8 w B .i64 ao l)(hB:B<=w.heap.size) :
  Calls prog 274 #[.int .u32 c,.slice ao l.length cp] w (Fol w B (T8 c l)):=by
 rcases Bht l with⟨y,t,rfl⟩|⟨x,y,z,t,rfl⟩|h
 ·rw[Bjg];exact Buu c y t ao cp B (by simpa using hl) hm w hn hB
 ·rw[Bll];exact Bxl c x y z t ao cp B (by simpa using hl) hm w hn hB
 ·rw[Bjf h];exact But c l h ao cp B (by omega) w hn
end Go.Proofs.YtecnpoigegiooaaGreatDoor.Sgr
namespace Go.Proofs.YtecnpoigegiooaaGreatDoor.Com
open Tryz
open Go RowKit Go.ChangeShapes Go.WideShapes
def Fits(k:IntKind)(l:List Int):Prop:=∀n∈l,(Lit.int k n).wf=true
theorem Bbs{H:Type}{enc:TypeId×Value->H}{P:Program}{W:World}{t e:TypeId}{k:IntKind}{a:Option Addr}{len cap:Nat}{d:DataW H}{p:List MemPlace}(ht:P.underlying t=some (.slice e))(he:P.underlying e=some (.int k))(hc:P.cellsOf e=1)
  (h:DataW.Trod enc P W 0 (fun _=>true) true t (.slice a len cap) d p):∃l:List Int,l.length=len/\len<=cap/\cap<=maxLen/\A8 W W.heap.size k a l/\Fits k l:=by
 obtain⟨fuel,hf⟩:=h
 rcases open_ints ht he hc hf with⟨hcs,_⟩|⟨x,l,c,zs,hcs,_,hl,hm,hz,_,E7,hwz⟩
 ·simp[Value.cells]at hcs
  obtain⟨rfl,rfl,rfl⟩:=hcs
  exact⟨[],rfl,J5 _,by simp[maxLen],A8.nil _ _ _ _,by simp[Fits]⟩
 ·simp[Value.cells]at hcs
  obtain⟨rfl,rfl,rfl⟩:=hcs
  have hz':zs.length=cap:=by simpa using hz
  refine⟨zs.take len,by simp;omega,hl,hm,fun i y hy=>?_,fun n hn=>hwz n (List.mem_of_mem_take hn)⟩
  rw[List.getElem?_take]at hy
  split at hy
  ·have hi:i<zs.length:=(List.getElem?_eq_some_iff.1 hy).1
   have hg:zs.getD i 0=y:=by simp[List.getD,hy]
   have hcl:=E7 i hi
   rw[hg]at hcl
   have hlt:=World.block_lt_of_cell? _ _ hcl
   rw[Aa1]at hlt
   exact⟨x,rfl,hlt,hcl⟩
  ·cases hy
end Go.Proofs.YtecnpoigegiooaaGreatDoor.Com
namespace Go.Proofs.YtecnpoigegiooaaGreatDoor.Sgr
open Tryz
open Go RowKit Com
def Avc:Value->Nat
 |.slice _ n _=>n
 |_=>0
theorem Blk{c:Int}{l:List Int}:∀x∈(T8 c l).2,x∈l:=by
 rcases Bht l with⟨y,t,rfl⟩|⟨x,y,z,t,rfl⟩|h
 ·rw[Bjg];intro x hx;exact List.mem_cons_of_mem _ (List.mem_cons_of_mem _ hx)
 ·rw[Bll];intro x hx;exact List.mem_cons_of_mem _ (List.mem_cons_of_mem _ (List.mem_cons_of_mem _ (List.mem_cons_of_mem _ hx)))
 ·rw[Bjf h];intro x hx;cases hx
theorem Cju{n:Int}{l:List Int}(h:Fits .i64 l)(hn:n∈l):n<=9223372036854775807:=(bounds_i64 (h n hn)).2
structure Aew(w0 wr:World)(d r:Nat)(A:At)(L:List Int)(x:Option Addr)(y:Nat)(l:List Int)(a:At):Prop where
 alo:Alo w0 wr d r a
 Ayd:A8 wr w0.heap.size .i64 x l
 fits:Fits .i64 l
 cap:l.length<=y/\y<=maxLen
 eq:S5 A L=S5 a l
section
variable {w0 wr w' w2:World}{d r y y':Nat}{A a a':At}{L l t:List Int}{x x':Option Addr}{n:Int}
theorem Aew.one(h:Aew w0 wr d r A L x y (n::t) a)(h1:n≠38)(h2:n≠48)(hb:Below wr.heap.size wr w2)(hd:AIn w' d (Agv a n))(ho:A0 [d] w2 w')(hn:A8 wr w0.heap.size .i64 x' t)(hy:t.length<=y'/\y'<=maxLen):Aew w0 w' d r A L x' y' t (Agv a n) :=
 have h':=h.alo.new hb
 ⟨h'.G9 hd ho,(hn.below hb h.alo.below.size).only ho (h'.below.size) (by simpa using h'.low.1),fun m hm=>h.fits m (List.mem_cons_of_mem _ hm),hy,h.eq.trans (Cly a t h1 h2)⟩
theorem Aew.fg{c3:Int}{l3:List Int}(h:Aew w0 wr d r A L x y (38::t) a)(hR:T8 a.f t=(c3,l3))(hb:Below wr.heap.size wr w2)(hd:AIn w' d ⟨c3,a.b,a.g⟩)(ho:A0 [d] w2 w')(hn:A8 wr w0.heap.size .i64 x' l3)(hy:l3.length<=y'/\y'<=maxLen) :
  Aew w0 w' d r A L x' y' l3 ⟨c3,a.b,a.g⟩ :=
 have h':=h.alo.new hb
 ⟨h'.G9 hd ho,(hn.below hb h.alo.below.size).only ho (h'.below.size) (by simpa using h'.low.1),fun m hm=>h.fits m (List.mem_cons_of_mem _ (Blk (c:=a.f) m (by rw[hR];exact hm))),hy,h.eq.trans (by rw[Cpu,hR])⟩
theorem Aew.bg{c3:Int}{l3:List Int}(h:Aew w0 wr d r A L x y (48::t) a)(hR:T8 a.b t=(c3,l3))(hb:Below wr.heap.size wr w2)(hd:AIn w' d ⟨a.f,c3,a.g⟩)(ho:A0 [d] w2 w')(hn:A8 wr w0.heap.size .i64 x' l3)(hy:l3.length<=y'/\y'<=maxLen) :
  Aew w0 w' d r A L x' y' l3 ⟨a.f,c3,a.g⟩ :=
 have h':=h.alo.new hb
 ⟨h'.G9 hd ho,(hn.below hb h.alo.below.size).only ho (h'.below.size) (by simpa using h'.low.1),fun m hm=>h.fits m (List.mem_cons_of_mem _ (Blk (c:=a.b) m (by rw[hR];exact hm))),hy,h.eq.trans (by rw[Cpt,hR])⟩
end
theorem Cco{w:World}{B:Nat}{ad:Addr}{n:Int}{t:List Int}{y:Nat}(h:A8 w B .i64 (some ad) (n::t))(hy:t.length+1<=y):A8 w B .i64 (if y=1 then some ad else some ⟨ad.block,ad.off+1,none⟩) t:=Ab2 h 1 hy
theorem Bvz(a:At){l:List Int}(h:l≠[]):Acp a l=S5 a l:=if_neg h
def R9(a:At):Value:=.agg #[.int .u32 a.f,.int .u32 a.b,.int .u16 a.g]
theorem Bzh(a:At)(l:List Int)(hf:Fits .i64 l)(ao:Option Addr)(cp:Nat)(hl:l.length<=cp)(hm:cp<=maxLen)(w:World)(T:Tab w)(hn:A8 w w.heap.size .i64 ao l) :
  Calls prog 251 #[.agg #[.int .u32 a.f,.int .u32 a.b,.int .u16 a.g],.slice ao l.length cp] w fun e w'=>e=.returned (.agg #[.int .u32 (Acp a l).f,.int .u32 (Acp a l).b,.int .u16 (Acp a l).g])/\Below w.heap.size w w':=by
 have E9:=J0 (Alo.made w a)
 by_cases h0:l=[]
 ·subst h0
  clear hn
  go_enter func251,ntmps251
  go_wp2_with(with_reducible refine J8 4 ?_;go_must(refine L8 rfl _ (.tmp 4) (.tmp 9) rfl E9.out.res.blk _ rfl rfl (by simpa using Aof) (by simp) (by simp[Value.oneCell']) ?_);intro w2 hr2 ho2)
  have r0:=AIn.c0 (a:=zero) hr2;have r1:=AIn.c1 (a:=zero) hr2;have r2:=AIn.c2 (a:=zero) hr2
  simp only[zero]at r0 r1 r2
  exact bodyPost_ret (v:=.agg #[.int .u32 0,.int .u32 0,.int .u16 0]) (by simp[results,results251,go_sem,r0,r1,r2]) rfl ⟨rfl,Adp E9.out.below ho2 E9.out.low.2⟩
 have Bci:=E9.out
 have Afa:=hn.below Bci.below (J5 _)
 have hE:=J0 (Bvz a h0)
 have Aal:0<l.length:=by rcases l with _|_<;>simp_all
 have hat:Aew w ((w.alloc (.cells #[.int .u32 a.f,.int .u32 a.b,.int .u16 a.g] 51)).alloc (.cells #[.int .u32 0,.int .u32 0,.int .u16 0] 51)) w.heap.size (w.heap.size+1) a l ao cp l a:=⟨Bci,Afa,hf,⟨hl,hm⟩,rfl⟩
 replace hat:=J0 hat
 clear Bci Afa E9 h0 hf hn
 obtain⟨d,hd⟩:∃d,d=w.heap.size:=⟨_,rfl⟩
 obtain⟨r,hr⟩:∃r,r=w.heap.size+1:=⟨_,rfl⟩
 have hl':=J0 (And.intro hl hm)
 generalize hN:l.length=N at Aal
 have hN':=J0 hN
 have hN0:((N:Int)==0)=false:=by simp;omega
 clear hl hm hN
 go_enter func251,ntmps251
 go_wp2_with fail
 rw[<- hr,<- hd]at hat |-
 generalize ((w.alloc (.cells #[.int .u32 a.f,.int .u32 a.b,.int .u16 a.g] 51)).alloc (.cells #[.int .u32 0,.int .u32 0,.int .u16 0] 51))=w1 at hat |-
 clear hd hr
 go_loopw [1] (fun s wr=>∃x y l' a',s=.slice x l'.length y/\Hid (Aew w wr d r a l x y l' a')) (fun s _=>Avc s)
 case atStart=>exact⟨ao,cp,l,a,by rw[hN'.out],hat⟩
 case round =>
  obtain⟨x,y,l',a',rfl,hat'⟩:=hrel
  clear hat
  rename_i wr _
  rcases l' with _|⟨n,t⟩
  ·have hE2:Acp a l=a':=by rw[hE.out,hat'.out.eq,Clx]
   have m0:=hat'.out.alo.att.c0
   have m1:=hat'.out.alo.att.c1
   have m2:=hat'.out.alo.att.c2
   obtain⟨f,b,g⟩:=a'
   simp only at m0 m1 m2
   go_wp2_with(with_reducible refine J8 4 ?_;go_must(refine L8 rfl _ (.tmp 4) (.tmp 42) rfl hat'.out.alo.res.blk _ rfl rfl (by simpa using Aof) (by simp) (by simp[Value.oneCell']) ?_);intro w9 hr9 ho9)
   have r0:=AIn.c0 (a:=⟨f,b,g⟩) hr9
   have r1:=AIn.c1 (a:=⟨f,b,g⟩) hr9
   have r2:=AIn.c2 (a:=⟨f,b,g⟩) hr9
   simp only at r0 r1 r2
   exact bodyPost_ret (v:=.agg #[.int .u32 f,.int .u32 b,.int .u16 g]) (by simp[results,results251,go_sem,r0,r1,r2]) rfl ⟨by rw[hE2],Adp hat'.out.alo.below ho9 hat'.out.alo.low.2⟩
  ·obtain⟨ad,rfl,P6,c0⟩:=hat'.out.Ayd 0 n rfl
   rw[Aut]at c0
   have Afh:=hat'.out.cap
   have hnt:=Cco hat'.out.Ayd (by simpa using Afh.1)
   obtain⟨q,hq⟩:∃q,(if y=1 then some ad else some (⟨ad.block,ad.off+1,none⟩:Addr))=q:=⟨_,rfl⟩
   rw[hq]at hnt
   have Bdd:t.length+1<=y:=by simpa using Afh.1
   have hty:t.length<=y-1/\y-1<=maxLen:=⟨by omega,by have:=Afh.2;omega⟩
   have hnm:n<=9223372036854775807:=Cju hat'.out.fits (List.mem_cons_self ..)
   have hbs:=hat'.out.alo.below.size
   have hcap2:y<=9223372036854775807:=by have:=Afh.2;simp only[maxLen]at this;omega
   have hty':=J0 hty
   have hT:=J0 (T.below hat'.out.alo.below)
   have hNt:(n::t).length=t.length+1:=rfl
   rw[hNt]
   clear Afh hNt
   by_cases h38:n=38
   ·subst h38
    have Afj:=Att a'.f t q (y-1) w.heap.size hty.1 hty.2 wr hnt hbs
    have hlen:=Avo a'.f t
    rcases hR:T8 a'.f t with⟨c3,l3⟩
    rw[hR]at Afj hlen
    replace hR:=J0 hR
    replace Afj:=J0 Afj
    simp only at hlen
    have m0:=hat'.out.alo.att.c0
    replace hlen:=J0 hlen
    clear hnt hty hnm hT hbs
    generalize hM:t.length=M at Afj Bdd hlen
    clear hM
    go_wp2_with (first
     |(go_at_call 274;refine(Afj.out).mono ?_;rintro e w3 ⟨x3,y3,rfl,g1,g2,g3,g4⟩;simp only at g1 g2 g3;replace g3:=J0 g3;have g5:=J0 (hat'.out.alo.new g4))
     |(with_reducible refine J8 31 ?_;go_must(refine N9 rfl _ (.tmp 31) (.tmp 29) rfl g5.out.att.blk (.int _ _) rfl rfl (by simp) (by exact Bom) rfl ?_);intro w4 hd4 ho4))
    go_roundw
    case rel=>exact⟨x3,y3,l3,⟨c3,a'.b,a'.g⟩,rfl,J0 (hat'.out.fg hR.out g4 hd4 ho4 g3.out ⟨g1,g2⟩)⟩
    case measure=>simp only[Avc];have:=hlen.out;omega
   by_cases h48:n=48
   ·subst h48
    have Afj:=Att a'.b t q (y-1) w.heap.size hty.1 hty.2 wr hnt hbs
    have hlen:=Avo a'.b t
    rcases hR:T8 a'.b t with⟨c3,l3⟩
    rw[hR]at Afj hlen
    replace hR:=J0 hR
    replace Afj:=J0 Afj
    simp only at hlen
    have m1:=hat'.out.alo.att.c1
    replace hlen:=J0 hlen
    clear hnt hty hnm hT hbs
    generalize hM:t.length=M at Afj Bdd hlen
    clear hM
    go_wp2_with (first
     |(go_at_call 274;refine(Afj.out).mono ?_;rintro e w3 ⟨x3,y3,rfl,g1,g2,g3,g4⟩;simp only at g1 g2 g3;replace g3:=J0 g3;have g5:=J0 (hat'.out.alo.new g4))
     |(with_reducible refine J8 41 ?_;go_must(refine N9 rfl _ (.tmp 41) (.tmp 39) rfl g5.out.att.blk (.int _ _) rfl rfl (by simp) (by exact Bom) rfl ?_);intro w4 hd4 ho4))
    go_roundw
    case rel=>exact⟨x3,y3,l3,⟨a'.f,c3,a'.g⟩,rfl,J0 (hat'.out.bg hR.out g4 hd4 ho4 g3.out ⟨g1,g2⟩)⟩
    case measure=>simp only[Avc];have:=hlen.out;omega
   ·have b38:(n==38)=false:=by simpa using h38
    have b48:(n==48)=false:=by simpa using h48
    have E0:=J0 (Azm a' n hnm wr hT.out)
    have U2:=J0 (fun w2 w4 (hb:Below wr.heap.size wr w2) hd ho=>hat'.out.one (w2:=w2) (w':=w4) h38 h48 hb hd ho hnt hty)
    have m0:=hat'.out.alo.att.c0
    have m1:=hat'.out.alo.att.c1
    have m2:=hat'.out.alo.att.c2
    clear hnt hty hnm hT hbs h38 h48
    generalize hM:t.length=M at Bdd hty'
    replace hM:=J0 hM
    go_wp2_with (first
     |(go_at_call 275;refine(E0.out).mono ?_;rintro e w3 ⟨rfl,g4⟩;have g5:=J0 (hat'.out.alo.new g4))
     |(with_reducible refine J8 2 ?_;go_must(refine L8 rfl _ (.tmp 2) (.tmp 21) rfl g5.out.att.blk _ rfl rfl (by simpa using Aof) (by simp) (by simp[Value.oneCell']) ?_);intro w4 hd4 ho4;dsimp only [Act.put]))
    go_roundw
    case rel=>exact⟨q,y-1,t,Agv a' n,by rw[hM.out],J0 (U2.out _ _ g4 hd4 ho4)⟩
    case measure=>simp only[Avc];omega
end Go.Proofs.YtecnpoigegiooaaGreatDoor.Sgr
namespace Go.Proofs.YtecnpoigegiooaaGreatDoor.Kys
open Tryz
open Go RowKit Go.Shelf
def ren:Go.Shelf.Ren:=⟨fun|176=>66|249=>96|288=>146|283=>209|284=>210|285=>211|286=>212|129=>259|317=>258|318=>260|319=>261|320=>262|337=>281|338=>270|n=>n,fun|37=>22|2=>2|3=>3|53=>58|4=>4|9=>9|171=>248|0=>0|173=>251|212=>274|51=>48|5=>5|20=>20|213=>275|46=>156|232=>309|233=>292|n=>n,fun|17=>2|18=>4|19=>3|n=>n⟩
theorem Bel:Go.Proofs.LaysM.n176 prog ren:={
 mixed:=by kernel_rfl
 f129:=func259.trans (congrArg some (by kernel_rfl))
 f176:=func66.trans (congrArg some (by kernel_rfl))
 f249:=func96.trans (congrArg some (by kernel_rfl))
 f283:=func209.trans (congrArg some (by kernel_rfl))
 f284:=func210.trans (congrArg some (by kernel_rfl))
 f285:=func211.trans (congrArg some (by kernel_rfl))
 f286:=func212.trans (congrArg some (by kernel_rfl))
 f288:=func146.trans (congrArg some (by kernel_rfl))
 f317:=func258.trans (congrArg some (by kernel_rfl))
 f318:=func260.trans (congrArg some (by kernel_rfl))
 f319:=func261.trans (congrArg some (by kernel_rfl))
 f320:=func262.trans (congrArg some (by kernel_rfl))
 f337:=func281.trans (congrArg some (by kernel_rfl))
 f338:=func270.trans (congrArg some (by kernel_rfl))
 t0:=underlying0
 a0:=isAgg0
 z0:=sizeOf0
 v0:=zeroValue0
 t2:=underlying2
 a2:=isAgg2
 z2:=sizeOf2
 v2:=zeroValue2
 t3:=underlying3
 a3:=isAgg3
 z3:=sizeOf3
 v3:=zeroValue3
 t4:=underlying4
 a4:=isAgg4
 z4:=sizeOf4
 v4:=zeroValue4
 t5:=underlying5
 a5:=isAgg5
 z5:=sizeOf5
 v5:=zeroValue5
 t9:=underlying9
 a9:=isAgg9
 z9:=sizeOf9
 v9:=zeroValue9
 t20:=underlying20
 a20:=isAgg20
 z20:=sizeOf20
 v20:=zeroValue20
 t37:=underlying22
 a37:=isAgg22
 z37:=sizeOf22
 v37:=zeroValue22
 t46:=underlying156
 a46:=isAgg156
 z46:=sizeOf156
 v46:=zeroValue156
 t51:=underlying48
 a51:=isAgg48
 z51:=sizeOf48
 v51:=zeroValue48
 t53:=underlying58
 a53:=isAgg58
 z53:=sizeOf58
 v53:=zeroValue58
 t171:=underlying248
 a171:=isAgg248
 z171:=sizeOf248
 v171:=zeroValue248
 t173:=underlying251
 a173:=isAgg251
 z173:=sizeOf251
 v173:=zeroValue251
 t212:=underlying274
 a212:=isAgg274
 z212:=sizeOf274
 v212:=zeroValue274
 t213:=underlying275
 a213:=isAgg275
 z213:=sizeOf275
 t232:=underlying309
 a232:=isAgg309
 z232:=sizeOf309
 v232:=zeroValue309
 t233:=underlying292
 a233:=isAgg292
 z233:=sizeOf292
 v233:=zeroValue292
 g17:=by kernel_rfl
 g18:=by kernel_rfl
 g19:=by kernel_rfl
 i0:=by kernel_rfl
 i2:=by kernel_rfl
 i3:=by kernel_rfl
 i4:=by kernel_rfl
 i5:=by kernel_rfl
 i9:=by kernel_rfl
 i20:=by kernel_rfl
 i37:=by kernel_rfl
 i46:=by kernel_rfl
 i51:=by kernel_rfl
 i53:=by kernel_rfl
 i171:=by kernel_rfl
 i173:=by kernel_rfl
 i212:=by kernel_rfl
 i232:=by kernel_rfl
 i233:=by kernel_rfl
 m17:=by kernel_rfl
 m18:=by kernel_rfl
 m19:=by kernel_rfl }
