/- Part 18 of the proof that the card of HostNone holds. -/
import Derived.Maps.RangeWalk
import Derived.Test.YtbafmljidapmgaaGreatDoorN17
import Derived.Shelf.Strconv.Itoa0
import Derived.Shelf.Strconv.Itoa1
import Derived.Shelf.LaysM
import Derived.Shelf.Strconv.Itoa2
import Derived.Shelf.Strconv.AppendUint10
import Derived.Shelf.Strconv.AppendInt10
import Derived.Shelf.Strconv.AppendIntPublic10
import Derived.Test.YtbafmljidapmgaaGreatDoorProg
import Derived.Lib.AppendStr
import Derived.Laws.IdiomStrings
import Derived.Lib.ItoaNum
set_option maxHeartbeats 16000000
set_option maxRecDepth 100000
namespace Go.Proofs.YtbafmljidapmgaaGreatDoor.Sgr
open Go RowKit Com
def Bc2:Value->Nat
 |.slice _ n _=>n
 |_=>0
theorem Cf2 {c:Int} {l:List Int}:∀ x∈(folF c l).2,x∈l:=by
 rcases Bp3 l with ⟨y,t,rfl⟩|⟨x,y,z,t,rfl⟩|h
 ·rw [Bx1];intro x hx;exact List.mem_cons_of_mem _ (List.mem_cons_of_mem _ hx)
 ·rw [Cf3];intro x hx;exact List.mem_cons_of_mem _ (List.mem_cons_of_mem _ (List.mem_cons_of_mem _ (List.mem_cons_of_mem _ hx)))
 ·rw [Bx0 h];intro x hx;cases hx
theorem fits_le {n:Int} {l:List Int} (h:Fits .i64 l) (hn:n∈l):n<=9223372036854775807:=(bounds_i64 (h n hn)).2
structure AppAt (w0 wr:World) (d r:Nat) (A:At) (L:List Int) (x:Option Addr) (y:Nat) (l:List Int) (a:At):Prop where
 alo:Alo w0 wr d r a
 nums:Nums wr w0.heap.size .i64 x l
 fits:Fits .i64 l
 cap:l.length<=y/\y<=maxLen
 eq:runF A L=runF a l
section
variable {w0 wr w' w2:World} {d r y y':Nat} {A a a':At} {L l t:List Int} {x x':Option Addr} {n:Int}
theorem AppAt.one (h:AppAt w0 wr d r A L x y (n::t) a) (h1:n≠38) (h2:n≠48) (hb:Below wr.heap.size wr w2) (hd:AIn w' d (oneF a n)) (ho:Only [d] w2 w') (hn:Nums wr w0.heap.size .i64 x' t) (hy:t.length<=y'/\y'<=maxLen):AppAt w0 w' d r A L x' y' t (oneF a n) :=
 have h':=h.alo.new hb
 ⟨h'.turn hd ho,(hn.below hb h.alo.below.size).only ho (h'.below.size) (by simpa using h'.low.1),fun m hm=>h.fits m (List.mem_cons_of_mem _ hm),hy,h.eq.trans (run_one a t h1 h2)⟩
theorem AppAt.fg {c3:Int} {l3:List Int} (h:AppAt w0 wr d r A L x y (38::t) a) (hR:folF a.f t=(c3,l3)) (hb:Below wr.heap.size wr w2) (hd:AIn w' d ⟨c3,a.b,a.g⟩) (ho:Only [d] w2 w') (hn:Nums wr w0.heap.size .i64 x' l3) (hy:l3.length<=y'/\y'<=maxLen) :
  AppAt w0 w' d r A L x' y' l3 ⟨c3,a.b,a.g⟩ :=
 have h':=h.alo.new hb
 ⟨h'.turn hd ho,(hn.below hb h.alo.below.size).only ho (h'.below.size) (by simpa using h'.low.1),fun m hm=>h.fits m (List.mem_cons_of_mem _ (Cf2 (c:=a.f) m (by rw [hR];exact hm))),hy,h.eq.trans (by rw [run_fg,hR])⟩
theorem AppAt.bg {c3:Int} {l3:List Int} (h:AppAt w0 wr d r A L x y (48::t) a) (hR:folF a.b t=(c3,l3)) (hb:Below wr.heap.size wr w2) (hd:AIn w' d ⟨a.f,c3,a.g⟩) (ho:Only [d] w2 w') (hn:Nums wr w0.heap.size .i64 x' l3) (hy:l3.length<=y'/\y'<=maxLen) :
  AppAt w0 w' d r A L x' y' l3 ⟨a.f,c3,a.g⟩ :=
 have h':=h.alo.new hb
 ⟨h'.turn hd ho,(hn.below hb h.alo.below.size).only ho (h'.below.size) (by simpa using h'.low.1),fun m hm=>h.fits m (List.mem_cons_of_mem _ (Cf2 (c:=a.b) m (by rw [hR];exact hm))),hy,h.eq.trans (by rw [run_bg,hR])⟩
end
theorem tail_nums {w:World} {B:Nat} {ad:Addr} {n:Int} {t:List Int} {y:Nat} (h:Nums w B .i64 (some ad) (n::t)) (hy:t.length+1<=y):Nums w B .i64 (if y=1 then some ad else some ⟨ad.block,ad.off+1,none⟩) t:=Ck1 h 1 hy
theorem apply_cons (a:At) {l:List Int} (h:l≠[]):applyF a l=runF a l:=if_neg h
def attV (a:At):Value:=.agg #[.int .u32 a.f,.int .u32 a.b,.int .u16 a.g]
theorem apply_any (a:At) (l:List Int) (hf:Fits .i64 l) (ao:Option Addr) (cp:Nat) (hl:l.length<=cp) (hm:cp<=maxLen) (w:World) (T:Tab w) (hn:Nums w w.heap.size .i64 ao l) :
  Calls Tryz.prog 390 #[.agg #[.int .u32 a.f,.int .u32 a.b,.int .u16 a.g],.slice ao l.length cp] w fun e w'=>e=.returned (.agg #[.int .u32 (applyF a l).f,.int .u32 (applyF a l).b,.int .u16 (applyF a l).g])/\Below w.heap.size w w':=by
 have hmade:=J0 (Alo.made w a)
 by_cases h0:l=[]
 ·subst h0
  clear hn
  go_enter Tryz.func390,Tryz.ntmps390
  go_wp2_with (with_reducible show wpList _ _ _ (⟨none,.store _ (.tmp 4) _,_,_,_,_⟩::_) _ _;go_must (refine Aa4 rfl _ (.tmp 4) (.tmp 9) rfl hmade.out.res.blk _ rfl rfl (by simpa using sizeA) (by simp) (by simp [Value.oneCell']) ?_);intro w2 hr2 ho2)
  have r0:=AIn.c0 (a:=zero) hr2;have r1:=AIn.c1 (a:=zero) hr2;have r2:=AIn.c2 (a:=zero) hr2
  simp only [zero] at r0 r1 r2
  exact bodyPost_ret (v:=.agg #[.int .u32 0,.int .u32 0,.int .u16 0]) (by simp [results,Tryz.results390,go_sem,r0,r1,r2]) rfl ⟨rfl,Ag8 hmade.out.below ho2 hmade.out.low.2⟩
 have hstart:=hmade.out
 have hnums:=hn.below hstart.below (J5 _)
 have hE:=J0 (apply_cons a h0)
 have hpos:0<l.length:=by rcases l with _|_<;>simp_all
 have hat:AppAt w ((w.alloc (.cells #[.int .u32 a.f,.int .u32 a.b,.int .u16 a.g] 56)).alloc (.cells #[.int .u32 0,.int .u32 0,.int .u16 0] 56)) w.heap.size (w.heap.size+1) a l ao cp l a:=⟨hstart,hnums,hf,⟨hl,hm⟩,rfl⟩
 replace hat:=J0 hat
 clear hstart hnums hmade h0 hf hn
 obtain ⟨d,hd⟩:∃ d,d=w.heap.size:=⟨_,rfl⟩
 obtain ⟨r,hr⟩:∃ r,r=w.heap.size+1:=⟨_,rfl⟩
 have hl':=J0 (And.intro hl hm)
 generalize hN:l.length=N at hpos
 have hN':=J0 hN
 have hN0:((N:Int) == 0)=false:=by simp;omega
 clear hl hm hN
 go_enter Tryz.func390,Tryz.ntmps390
 go_wp2_with fail
 rw [<- hr,<- hd] at hat |-
 generalize ((w.alloc (.cells #[.int .u32 a.f,.int .u32 a.b,.int .u16 a.g] 56)).alloc (.cells #[.int .u32 0,.int .u32 0,.int .u16 0] 56))=w1 at hat |-
 clear hd hr
 go_loopw [1] (fun s wr=>∃ x y l' a',s=.slice x l'.length y/\Hid (AppAt w wr d r a l x y l' a')) (fun s _=>Bc2 s)
 case atStart=>exact ⟨ao,cp,l,a,by rw [hN'.out],hat⟩
 case round =>
  obtain ⟨x,y,l',a',rfl,hat'⟩:=hrel
  clear hat
  rename_i wr _
  rcases l' with _|⟨n,t⟩
  ·have hE2:applyF a l=a':=by rw [hE.out,hat'.out.eq,run_nil]
   have m0:=hat'.out.alo.att.c0
   have m1:=hat'.out.alo.att.c1
   have m2:=hat'.out.alo.att.c2
   obtain ⟨f,b,g⟩:=a'
   simp only at m0 m1 m2
   go_wp2_with (with_reducible show wpList _ _ _ (⟨none,.store _ (.tmp 4) _,_,_,_,_⟩::_) _ _;go_must (refine Aa4 rfl _ (.tmp 4) (.tmp 42) rfl hat'.out.alo.res.blk _ rfl rfl (by simpa using sizeA) (by simp) (by simp [Value.oneCell']) ?_);intro w9 hr9 ho9)
   have r0:=AIn.c0 (a:=⟨f,b,g⟩) hr9
   have r1:=AIn.c1 (a:=⟨f,b,g⟩) hr9
   have r2:=AIn.c2 (a:=⟨f,b,g⟩) hr9
   simp only at r0 r1 r2
   exact bodyPost_ret (v:=.agg #[.int .u32 f,.int .u32 b,.int .u16 g]) (by simp [results,Tryz.results390,go_sem,r0,r1,r2]) rfl ⟨by rw [hE2],Ag8 hat'.out.alo.below ho9 hat'.out.alo.low.2⟩
  ·obtain ⟨ad,rfl,hblk,c0⟩:=hat'.out.nums 0 n rfl
   rw [Bb4] at c0
   have hcap:=hat'.out.cap
   have hnt:=tail_nums hat'.out.nums (by simpa using hcap.1)
   obtain ⟨q,hq⟩:∃ q,(if y=1 then some ad else some (⟨ad.block,ad.off+1,none⟩:Addr))=q:=⟨_,rfl⟩
   rw [hq] at hnt
   have hcap1:t.length+1<=y:=by simpa using hcap.1
   have hty:t.length<=y - 1/\y - 1<=maxLen:=⟨by omega,by have:=hcap.2;omega⟩
   have hnm:n<=9223372036854775807:=fits_le hat'.out.fits (List.mem_cons_self ..)
   have hbs:=hat'.out.alo.below.size
   have hcap2:y<=9223372036854775807:=by have:=hcap.2;simp only [maxLen] at this;omega
   have hty':=J0 hty
   have hT:=J0 (T.below hat'.out.alo.below)
   have hNt:(n::t).length=t.length+1:=rfl
   rw [hNt]
   clear hcap hNt
   by_cases h38:n=38
   ·subst h38
    have hfol:=Aq6 a'.f t q (y - 1) w.heap.size hty.1 hty.2 wr hnt hbs
    have hlen:=Bl4 a'.f t
    rcases hR:folF a'.f t with ⟨c3,l3⟩
    rw [hR] at hfol hlen
    replace hR:=J0 hR
    replace hfol:=J0 hfol
    simp only at hlen
    have m0:=hat'.out.alo.att.c0
    replace hlen:=J0 hlen
    clear hnt hty hnm hT hbs
    generalize hM:t.length=M at hfol hcap1 hlen
    clear hM
    go_wp2_with (first
     |(go_at_call 415;refine (hfol.out).mono ?_;rintro e w3 ⟨x3,y3,rfl,g1,g2,g3,g4⟩;simp only at g1 g2 g3;replace g3:=J0 g3;have g5:=J0 (hat'.out.alo.new g4))
     |(with_reducible show wpList _ _ _ (⟨none,.store _ (.tmp 31) _,_,_,_,_⟩::_) _ _;go_must (refine Aa6 rfl _ (.tmp 31) (.tmp 29) rfl g5.out.att.blk (.int _ _) rfl rfl (by simp) (by exact Co2) rfl ?_);intro w4 hd4 ho4))
    go_roundw
    case rel=>exact ⟨x3,y3,l3,⟨c3,a'.b,a'.g⟩,rfl,J0 (hat'.out.fg hR.out g4 hd4 ho4 g3.out ⟨g1,g2⟩)⟩
    case measure=>simp only [Bc2];have:=hlen.out;omega
   by_cases h48:n=48
   ·subst h48
    have hfol:=Aq6 a'.b t q (y - 1) w.heap.size hty.1 hty.2 wr hnt hbs
    have hlen:=Bl4 a'.b t
    rcases hR:folF a'.b t with ⟨c3,l3⟩
    rw [hR] at hfol hlen
    replace hR:=J0 hR
    replace hfol:=J0 hfol
    simp only at hlen
    have m1:=hat'.out.alo.att.c1
    replace hlen:=J0 hlen
    clear hnt hty hnm hT hbs
    generalize hM:t.length=M at hfol hcap1 hlen
    clear hM
    go_wp2_with (first
     |(go_at_call 415;refine (hfol.out).mono ?_;rintro e w3 ⟨x3,y3,rfl,g1,g2,g3,g4⟩;simp only at g1 g2 g3;replace g3:=J0 g3;have g5:=J0 (hat'.out.alo.new g4))
     |(with_reducible show wpList _ _ _ (⟨none,.store _ (.tmp 41) _,_,_,_,_⟩::_) _ _;go_must (refine Aa6 rfl _ (.tmp 41) (.tmp 39) rfl g5.out.att.blk (.int _ _) rfl rfl (by simp) (by exact Co2) rfl ?_);intro w4 hd4 ho4))
    go_roundw
    case rel=>exact ⟨x3,y3,l3,⟨a'.f,c3,a'.g⟩,rfl,J0 (hat'.out.bg hR.out g4 hd4 ho4 g3.out ⟨g1,g2⟩)⟩
    case measure=>simp only [Bc2];have:=hlen.out;omega
   ·have b38:(n == 38)=false:=by simpa using h38
    have b48:(n == 48)=false:=by simpa using h48
    have hone:=J0 (Bc7 a' n hnm wr hT.out)
    have hstep:=J0 (fun w2 w4 (hb:Below wr.heap.size wr w2) hd ho=>hat'.out.one (w2:=w2) (w':=w4) h38 h48 hb hd ho hnt hty)
    have m0:=hat'.out.alo.att.c0
    have m1:=hat'.out.alo.att.c1
    have m2:=hat'.out.alo.att.c2
    clear hnt hty hnm hT hbs h38 h48
    generalize hM:t.length=M at hcap1 hty'
    replace hM:=J0 hM
    go_wp2_with (first
     |(go_at_call 416;refine (hone.out).mono ?_;rintro e w3 ⟨rfl,g4⟩;have g5:=J0 (hat'.out.alo.new g4))
     |(with_reducible show wpList _ _ _ (⟨none,.store _ (.tmp 2) _,_,_,_,_⟩::_) _ _;go_must (refine Aa4 rfl _ (.tmp 2) (.tmp 21) rfl g5.out.att.blk _ rfl rfl (by simpa using sizeA) (by simp) (by simp [Value.oneCell']) ?_);intro w4 hd4 ho4;dsimp only [Act.put]))
    go_roundw
    case rel=>exact ⟨q,y - 1,t,oneF a' n,by rw [hM.out],J0 (hstep.out _ _ g4 hd4 ho4)⟩
    case measure=>simp only [Bc2];omega
end Go.Proofs.YtbafmljidapmgaaGreatDoor.Sgr
namespace Go.Proofs.YtbafmljidapmgaaGreatDoor.Kys
open Go RowKit Go.Shelf
def ren:Go.Shelf.Ren:=⟨fun|176=>176|249=>239|288=>292|283=>354|284=>355|285=>356|286=>357|129=>403|317=>402|318=>404|319=>405|320=>406|337=>423|338=>411|n=>n,fun|37=>32|2=>2|3=>3|53=>70|4=>4|9=>9|171=>350|0=>0|173=>353|212=>372|51=>53|5=>5|20=>20|213=>373|46=>247|232=>404|233=>387|n=>n,fun|17=>2|18=>4|19=>3|n=>n⟩
theorem lays:Go.Proofs.LaysM.n176 Tryz.prog ren:={
 mixed:=by kernel_rfl
 f129:=Tryz.func403.trans (congrArg some (by kernel_rfl))
 f176:=Tryz.func176.trans (congrArg some (by kernel_rfl))
 f249:=Tryz.func239.trans (congrArg some (by kernel_rfl))
 f283:=Tryz.func354.trans (congrArg some (by kernel_rfl))
 f284:=Tryz.func355.trans (congrArg some (by kernel_rfl))
 f285:=Tryz.func356.trans (congrArg some (by kernel_rfl))
 f286:=Tryz.func357.trans (congrArg some (by kernel_rfl))
 f288:=Tryz.func292.trans (congrArg some (by kernel_rfl))
 f317:=Tryz.func402.trans (congrArg some (by kernel_rfl))
 f318:=Tryz.func404.trans (congrArg some (by kernel_rfl))
 f319:=Tryz.func405.trans (congrArg some (by kernel_rfl))
 f320:=Tryz.func406.trans (congrArg some (by kernel_rfl))
 f337:=Tryz.func423.trans (congrArg some (by kernel_rfl))
 f338:=Tryz.func411.trans (congrArg some (by kernel_rfl))
 t0:=Tryz.underlying0
 a0:=Tryz.isAgg0
 z0:=Tryz.sizeOf0
 v0:=Tryz.zeroValue0
 t2:=Tryz.underlying2
 a2:=Tryz.isAgg2
 z2:=Tryz.sizeOf2
 v2:=Tryz.zeroValue2
 t3:=Tryz.underlying3
 a3:=Tryz.isAgg3
 z3:=Tryz.sizeOf3
 v3:=Tryz.zeroValue3
 t4:=Tryz.underlying4
 a4:=Tryz.isAgg4
 z4:=Tryz.sizeOf4
 v4:=Tryz.zeroValue4
 t5:=Tryz.underlying5
 a5:=Tryz.isAgg5
 z5:=Tryz.sizeOf5
 v5:=Tryz.zeroValue5
 t9:=Tryz.underlying9
 a9:=Tryz.isAgg9
 z9:=Tryz.sizeOf9
 v9:=Tryz.zeroValue9
 t20:=Tryz.underlying20
 a20:=Tryz.isAgg20
 z20:=Tryz.sizeOf20
 v20:=Tryz.zeroValue20
 t37:=Tryz.underlying32
 a37:=Tryz.isAgg32
 z37:=Tryz.sizeOf32
 v37:=Tryz.zeroValue32
 t46:=Tryz.underlying247
 a46:=Tryz.isAgg247
 z46:=Tryz.sizeOf247
 v46:=Tryz.zeroValue247
 t51:=Tryz.underlying53
 a51:=Tryz.isAgg53
 z51:=Tryz.sizeOf53
 v51:=Tryz.zeroValue53
 t53:=Tryz.underlying70
 a53:=Tryz.isAgg70
 z53:=Tryz.sizeOf70
 v53:=Tryz.zeroValue70
 t171:=Tryz.underlying350
 a171:=Tryz.isAgg350
 z171:=Tryz.sizeOf350
 v171:=Tryz.zeroValue350
 t173:=Tryz.underlying353
 a173:=Tryz.isAgg353
 z173:=Tryz.sizeOf353
 v173:=Tryz.zeroValue353
 t212:=Tryz.underlying372
 a212:=Tryz.isAgg372
 z212:=Tryz.sizeOf372
 v212:=Tryz.zeroValue372
 t213:=Tryz.underlying373
 a213:=Tryz.isAgg373
 z213:=Tryz.sizeOf373
 t232:=Tryz.underlying404
 a232:=Tryz.isAgg404
 z232:=Tryz.sizeOf404
 v232:=Tryz.zeroValue404
 t233:=Tryz.underlying387
 a233:=Tryz.isAgg387
 z233:=Tryz.sizeOf387
 v233:=Tryz.zeroValue387
 g17:=by kernel_rfl
 g18:=by kernel_rfl
 g19:=by kernel_rfl
 i0:=by kernel_rfl
 i2:=by kernel_rfl
 i3:=by kernel_rfl
 i4:=by kernel_rfl
 i5:=by kernel_rfl
 i9:=by kernel_rfl
 i20:=by kernel_rfl
 i37:=by kernel_rfl
 i46:=by kernel_rfl
 i51:=by kernel_rfl
 i53:=by kernel_rfl
 i171:=by kernel_rfl
 i173:=by kernel_rfl
 i212:=by kernel_rfl
 i232:=by kernel_rfl
 i233:=by kernel_rfl
 m17:=by kernel_rfl
 m18:=by kernel_rfl
 m19:=by kernel_rfl }
end Go.Proofs.YtbafmljidapmgaaGreatDoor.Kys
namespace Go.Proofs.YtbafmljidapmgaaGreatDoor.Kys
open Go RowKit Com
def Row (w:World) (B:Nat) (e:TypeId) (v:Value) (l:List Int):Prop :=
 (v=.slice none 0 0/\l=[]) \/
 ∃ g cap cur fz,v=.slice (some ⟨g,0,none⟩) l.length cap/\B<=g/\w.heap[g]?=some (.cells cur e fz)/\(fz.1<fz.2->cur.size<=fz.1)/\l.length<=cap/\cap<=maxLen/\cur.size=cap/\cur.toList.take l.length=l.map (Value.int .u8)
section
variable {w w':World} {B B':Nat} {e:TypeId} {v:Value} {l:List Int}
theorem Row.nil (w:World) (B:Nat) (e:TypeId):Row w B e (.slice none 0 0) []:=.inl ⟨rfl,rfl⟩
theorem Row.own (h:Own w B e .u8 v l):Row w B e v l:=by
 rcases h.2 with ⟨rfl,hn⟩|⟨g,cap,cur,rfl,hb,hg,h1,h2,h3,h4⟩
 ·exact .inl ⟨rfl,List.eq_nil_of_length_eq_zero hn⟩
 ·exact .inr ⟨g,cap,cur,(0,0),rfl,hb,hg,by simp,h1,h2,by simpa using h3,by simpa using h4⟩
theorem Row.lt (h:Row w B e v l):∀ g,v.ownBlock=some g->B<=g/\g<w.heap.size:=by
 intro k hk
 rcases h with ⟨rfl,_⟩|⟨g,cap,cur,fz,rfl,hb,hg,_⟩
 ·simp [Value.ownBlock] at hk
 ·simp [Value.ownBlock] at hk
  subst hk
  exact ⟨hb,Ap7 hg⟩
theorem Row.only {L:List Nat} (h:Row w B e v l) (ho:Only L w w') (hn:∀ g,v.ownBlock=some g->g∉L):Row w' B e v l:=by
 rcases h with h|⟨g,cap,cur,fz,rfl,hb,hg,r⟩
 ·exact .inl h
 ·exact .inr ⟨g,cap,cur,fz,rfl,hb,(ho.block g (Ap7 hg) (hn g rfl)).trans hg,r⟩
theorem Row.below (h:Row w B e v l) (hb:Below w.heap.size w w'):Row w' B e v l:=h.only (Only.of_below hb []) (by simp)
theorem Row.alloc (h:Row w B e v l) (o:Obj):Row (w.alloc o) B e v l:=h.only (Only.alloc [] w o) (by simp)
theorem Row.lower (h:Row w B e v l) (hB:B'<=B):Row w B' e v l:=by
 rcases h with h|⟨g,cap,cur,fz,rfl,hb,r⟩
 ·exact .inl h
 ·exact .inr ⟨g,cap,cur,fz,rfl,by omega,r⟩
theorem Row.cells (h:Row w B e v l) {g:Nat} (hg:v.ownBlock=some g) {i:Nat} {x:Int} (hx:l[i]?=some x):w.cell? ⟨g,i,none⟩=some (.int .u8 x):=by
 rcases h with ⟨rfl,_⟩|⟨k,cap,cur,fz,rfl,_,hh,_,_,_,_,ht⟩
 ·simp [Value.ownBlock] at hg
 ·simp [Value.ownBlock] at hg
  subst hg
  rw [cell_of_row w k i cur e fz hh]
  have h1:(cur.toList.take l.length)[i]?=some (.int .u8 x):=by rw [ht,List.getElem?_map,hx];rfl
  rw [List.getElem?_take] at h1
  split at h1
  ·simpa using h1
  ·cases h1
theorem Row.shape (h:Row w B e v l):∃ ao cap,v=.slice ao l.length cap/\l.length<=cap/\cap<=maxLen/\Nums w w.heap.size .u8 ao l:=by
 have hc:=fun g (hg:v.ownBlock=some g)=>fun i x (hx:l[i]?=some x)=>h.cells hg hx
 rcases h with ⟨rfl,rfl⟩|⟨g,cap,cur,fz,rfl,_,hh,_,hn,hm,_⟩
 ·exact ⟨none,0,rfl,J5 _,by simp [maxLen],Nums.nil _ _ _ _⟩
 ·refine ⟨_,cap,rfl,hn,hm,fun i x hx=>⟨_,rfl,Ap7 hh,?_⟩⟩
  rw [Addr.add_lit,Nat.zero_add]
  exact hc g rfl i x hx
theorem Row.apart (h:Row w B e v l) {g:Nat} {t:TypeId} {cs:Array Value} (hb:Block w g t cs) (ht:e≠t):v.ownBlock≠some g:=by
 intro hv
 rcases h with ⟨rfl,_⟩|⟨k,cap,cur,fz,rfl,_,hh,_⟩
 ·simp [Value.ownBlock] at hv
 ·simp [Value.ownBlock] at hv
  subst hv
  unfold Block at hb
  rw [hb] at hh
  simp only [Option.some.injEq,Obj.cells.injEq] at hh
  exact ht hh.2.1.symm
theorem Ax4 {w0:World} (hb:Below B w0 w) (h:Row w B e v l) (hB:B<=w.heap.size) (ho:Only v.ownBlock.toList w w'):Below B w0 w' :=
 hb.trans (ho.below hB fun k hk=>by
  have:v.ownBlock=some k:=by simpa using hk
  exact (h.lt k this).1)
end
theorem row_store (P:Program) (e:TypeId) (g:Nat) (fz:Nat×Nat):∀ (vs:List Value) (w:World) (o i:Nat) (cur:Array Value),w.heap[g]?=some (.cells cur e fz)->(fz.1<fz.2->cur.size<=fz.1)->o+i+vs.length<=cur.size->(∀ v∈vs,v.oneCell'=true) ->
  ∃ w' cur',(storeCells ⟨g,o,none⟩ vs i).run P w=.ok () w'/\w'.heap[g]?=some (.cells cur' e fz)/\cur'.size=cur.size/\cur'.toList.take (o+i+vs.length)=cur.toList.take (o+i)++vs/\Only [g] w w'
 |[],w,o,i,cur,hg,_,_,_=>⟨w,cur,rfl,hg,rfl,by simp,Only.refl _ _⟩
 |v::vs,w,o,i,cur,hg,hf,hl,h1=>by
  simp only [List.length_cons] at hl
  have hlt:o+i<cur.size:=by omega
  have hfr:w.frozen? ⟨g,o+i,none⟩=false:=by
   simp only [World.frozen?,hg,Bool.and_eq_false_iff,decide_eq_false_iff_not]
   omega
  have hs:(store ((⟨g,o,none⟩:Addr).add i) v).run P w=.ok () (w.setRow g (cur.setIfInBounds (o+i) v)):=by
   rw [Addr.add_lit,run_store P w _ v _ (h1 v (by simp)),cell_of_row w g (o+i) cur e fz hg]
   simp [hlt,hfr,setCell_eq_setRow w g (o+i) cur e fz v hg]
  obtain ⟨w',cur',hr,hg',hs',ht',ho'⟩:=row_store P e g fz vs (w.setRow g (cur.setIfInBounds (o+i) v)) o (i+1) (cur.setIfInBounds (o+i) v) (setRow_heap w g cur _ e _ hg) (by simpa using hf) (by simp;omega) (fun x hx=>h1 x (by simp [hx]))
  refine ⟨w',cur',?_,hg',by simpa using hs',?_,(Ac6 w g _).trans ho'⟩
  ·simp only [storeCells,Sem.run_bind,hs,Result.andThen_ok,hr]
  ·have e1:o+i+(v::vs).length=o+(i+1)+vs.length:=by simp;omega
   rw [e1,ht',Array.toList_setIfInBounds,show o+(i+1)=o+i+1 from rfl,List.take_succ_eq_append_getElem (by simpa using hlt),List.take_set_of_le (J5 _)]
   simp
theorem run_appR {P:Program} {t e:TypeId} (E:Elem P t e .u8 1) (w:World) (ty:TypeId) (B:Nat) (v:Value) (l m:List Int) (ao:Option Addr) (B' c:Nat)
  (h:Row w B e v l) (hm:Nums w B' .u8 ao m) (hB:B<=w.heap.size) (hn:l.length+m.length<=140737488355328) :
  ∃ v' w',(Builtin.append_ #[t,t] ty #[v,.slice ao m.length c]).run P w=.ok v' w'/\Row w' B e v' (l++m)/\Only v.ownBlock.toList w w':=by
 rcases h with ⟨rfl,rfl⟩|⟨g,cap,cur,fz,rfl,hb,hg,hf,h1,h2,h3,h4⟩
 ·obtain ⟨v',w',hr,h2,h3,_⟩:=Bv1 E w ty B (.slice none 0 0) [] m ao B' c (Own.nil w B e .u8) hm hB (by simpa using hn) (by simp [maxLen];simp at hn;omega)
  exact ⟨v',w',hr,Row.own h2,h3⟩
 ·obtain ⟨i,hi,hz,hs,hby⟩:=E.info
  rcases ao with _|ad
  ·have hm0:m=[]:=by
    rcases m with _|⟨x,m⟩
    ·rfl
    ·obtain ⟨ad,h',_⟩:=hm 0 x rfl
     cases h'
   subst hm0
   refine ⟨_,w,?_,.inr ⟨g,cap,cur,fz,by rw [List.append_nil],hb,hg,hf,by simpa using h1,h2,h3,by simpa using h4⟩,Only.refl _ _⟩
   simp [Builtin.append_,run_underlying E.slice,sizeOf,typeInfo,hi,Builtin.lenOf,Builtin.firstCells,h1,storeCells]
  ·have hnews:∀ j u,(m.map (Value.int .u8))[j]?=some u->w.cell? (ad.add j)=some u:=fun j u hu=>by
    rw [List.getElem?_map] at hu
    rcases hx':m[j]? with _|x
    ·rw [hx'] at hu;cases hu
    ·rw [hx'] at hu
     obtain ⟨ad',e',_,hc⟩:=hm j x hx'
     cases e'
     cases hu
     exact hc
   by_cases hroom:l.length+m.length<=cap
   ·have hfc:=run_firstCells_some (P:=P) w i.size m.length ad m.length c (m.map (Value.int .u8)) (by simp [hs]) hnews
    obtain ⟨w',cur',hr,hg',hs',ht',ho'⟩:=row_store P e g fz (m.map (Value.int .u8)) w l.length 0 cur hg hf (by simp;omega) (fun u hu=>by
     obtain ⟨x,_,rfl⟩:=List.mem_map.1 hu
     rfl)
    rw [hs] at hfc
    refine ⟨.slice (some ⟨g,0,none⟩) (l.length+m.length) cap,w',?_,.inr ⟨g,cap,cur',fz,by rw [List.length_append],hb,hg',by rw [hs'];exact hf,by simpa using hroom,h2,hs'.trans h3,?_⟩,ho'⟩
    ·simp [Builtin.append_,run_underlying E.slice,sizeOf,typeInfo,hi,Builtin.lenOf,hroom,hfc,Addr.add_lit,hs,hr]
    ·have:=ht'
     simp only [Nat.add_zero,List.length_map] at this
     rw [List.length_append,this,h4,List.map_append]
   ·have holds:∀ j u,(l.map (Value.int .u8))[j]?=some u->w.cell? ((⟨g,0,none⟩:Addr).add j)=some u:=fun j u hu=>by
     rw [List.getElem?_map] at hu
     rcases hx':l[j]? with _|x
     ·rw [hx'] at hu;cases hu
     ·rw [hx'] at hu
      cases hu
      rw [Addr.add_lit,Nat.zero_add]
      exact (show Row w B e (.slice (some ⟨g,0,none⟩) l.length cap) l from .inr ⟨g,cap,cur,fz,rfl,hb,hg,hf,h1,h2,h3,h4⟩).cells rfl hx'
    have hr:=run_append_grow (P:=P) w t ty e i (.int .u8 0) E.slice hi hz ⟨g,0,none⟩ l.length cap (l.map (Value.int .u8)) (by simp [hs]) holds ad m.length c (m.map (Value.int .u8)) (by simp [hs]) hnews (by omega) (by omega) (by rw [hby];exact growslice_fits (by omega) (by omega))
    have hge:=grownCap_ge w (l.length+m.length) cap e
    have hcm:=grownCap_le_maxLen w (l.length+m.length) cap e (by unfold maxLen;omega)
    have hz1:(Value.int IntKind.u8 0).cells.size=1:=rfl
    refine ⟨_,_,hr,.inr ⟨w.heap.size,_,_,(0,0),by rw [List.length_append],hB,heap_alloc_new w.drew _,by simp,by simpa using hge,hcm,?_,?_⟩,⟨rfl,rfl,rfl,by simp,fun k hk _=>Below.heap_alloc _ _ _ (by simpa using hk)⟩⟩
    ·simp only [Array.size_append,List.size_toArray,List.length_map,size_zeroCells,hz1]
     omega
    ·have e1:(l++m).length=(l.map (Value.int .u8)++m.map (Value.int .u8)).length:=by simp
     rw [e1,List.map_append]
     simp only [Array.toList_append]
     exact List.take_left
theorem Au2 {P:Program} {t e:TypeId} (E:Elem P t e .u8 1) {w:World} {ops:Array Oper} {rest:List Oper} {o:Oper} {a:Act} {Q:Exit->Act->World->Prop} (hgd:Region.wanted o (yielded ops a.tmps)=true) (s x:Operand)
  (ho:o.op=.call { callee:=.builtin .append,args:=#[s,x],argTypes:=#[t,t] })
  (B:Nat) (v:Value) (l m:List Int) (ao:Option Addr) (B' c:Nat) (hs:a.eval s=v) (hxe:a.eval x=.slice ao m.length c)
  (h:Row w B e v l) (hm:Nums w B' .u8 ao m) (hB:B<=w.heap.size) (hn:l.length+m.length<=140737488355328)
  (hK:∀ v' w',Row w' B e v' (l++m)->Only v.ownBlock.toList w w'->wpList P ops Q rest (a.put o.dst v') w'):wpList P ops Q (o::rest) a w :=
 Ad6 hgd fun _ hK'=>by
  obtain ⟨v',w',hr,h2,h3⟩:=run_appR E w o.type B v l m ao B' c h hm hB hn
  unfold Oper.wp execOp
  simp only [ho,resolve,invoke,builtin,Sem.run_bind,Sem.run_pure,Result.andThen_ok,List.map_toArray,List.map_cons,List.map_nil,hs,hxe,hr]
  exact hK' _ _ (hK v' w' h2 h3)
theorem run_appS {P:Program} {t u e:TypeId} (E:Elem P t e .u8 1) (hu:P.underlying u=some .string) (w:World) (ty:TypeId) (B:Nat) (v:Value) (l m:List Int) (s:ByteArray) (hsm:Lib.strCells s=m.map (Value.int .u8))
  (h:Row w B e v l) (hB:B<=w.heap.size) (hn:l.length+m.length<=140737488355328) :
  ∃ v' w',(Builtin.append_ #[t,u] ty #[v,.string s]).run P w=.ok v' w'/\Row w' B e v' (l++m)/\Only v.ownBlock.toList w w':=by
 have hss:s.size=m.length:=by
  have:=congrArg List.length hsm
  rwa [Lib.strCells_length,List.length_map] at this
 obtain ⟨i,hi,hz,hs,hby⟩:=E.info
 rcases h with ⟨rfl,rfl⟩|⟨g,cap,cur,fz,rfl,hb,hg,hf,h1,h2,h3,h4⟩
 ·obtain ⟨v',w',hr,h2,h3,_⟩:=Lib.run_append_own_string (P:=P) w B t u ty e i E.slice hu hi hz hs hby (.slice none 0 0) 0 [] (World.ownsRow_nil _ _ _ _) s (by simp at hn;unfold maxLen;omega) (by simp at hn;omega) hB
  refine ⟨v',w',hr,Row.own ?_,Only.grown h3⟩
  unfold Own
  rw [List.nil_append,Nat.zero_add,hsm,hss] at h2
  simpa using h2
 ·by_cases hroom:l.length+s.size<=cap
  ·have hfc:=Lib.run_firstCells_string (P:=P) w i.size s
   obtain ⟨w',cur',hr,hg',hs',ht',ho'⟩:=row_store P e g fz (m.map (Value.int .u8)) w l.length 0 cur hg hf (by simp;omega) (fun u hu=>by
    obtain ⟨x,_,rfl⟩:=List.mem_map.1 hu
    rfl)
   rw [<- hsm] at hr
   rw [hs] at hfc
   refine ⟨.slice (some ⟨g,0,none⟩) (l.length+s.size) cap,w',?_,.inr ⟨g,cap,cur',fz,by rw [List.length_append,hss],hb,hg',by rw [hs'];exact hf,by simp;omega,h2,hs'.trans h3,?_⟩,ho'⟩
   ·simp [Builtin.append_,run_underlying E.slice,run_underlying hu,sizeOf,typeInfo,hi,Builtin.lenOf,hroom,hfc,Addr.add_lit,hs,hr]
   ·have:=ht'
    simp only [Nat.add_zero,List.length_map] at this
    rw [List.length_append,this,h4,List.map_append]
  ·have holds:∀ j u,(l.map (Value.int .u8))[j]?=some u->w.cell? ((⟨g,0,none⟩:Addr).add j)=some u:=fun j u hu=>by
    rw [List.getElem?_map] at hu
    rcases hx':l[j]? with _|x
    ·rw [hx'] at hu;cases hu
    ·rw [hx'] at hu
     cases hu
     rw [Addr.add_lit,Nat.zero_add]
     exact (show Row w B e (.slice (some ⟨g,0,none⟩) l.length cap) l from .inr ⟨g,cap,cur,fz,rfl,hb,hg,hf,h1,h2,h3,h4⟩).cells rfl hx'
   have hr:=Lib.run_append_grow_string (P:=P) w t u ty e i (.int .u8 0) E.slice hu hi hz ⟨g,0,none⟩ l.length cap (l.map (Value.int .u8)) (by simp [hs]) holds s (by omega) (by omega) (by rw [hby];exact growslice_fits (by omega) (by omega))
   have hge:=grownCap_ge w (l.length+s.size) cap e
   have hcm:=grownCap_le_maxLen w (l.length+s.size) cap e (by unfold maxLen;omega)
   have hz1:(Value.int IntKind.u8 0).cells.size=1:=rfl
   refine ⟨_,_,hr,.inr ⟨w.heap.size,_,_,(0,0),by rw [List.length_append,hss],hB,heap_alloc_new w.drew _,by simp,by simp;omega,hcm,?_,?_⟩,⟨rfl,rfl,rfl,by simp,fun k hk _=>Below.heap_alloc _ _ _ (by simpa using hk)⟩⟩
   ·simp only [Array.size_append,List.size_toArray,List.length_map,size_zeroCells,hz1,hsm]
    omega
   ·have e1:(l++m).length=(l.map (Value.int .u8)++m.map (Value.int .u8)).length:=by simp
    rw [e1,List.map_append,hsm]
    simp only [Array.toList_append]
    exact List.take_left
theorem wpList_appS {P:Program} {t u e:TypeId} (E:Elem P t e .u8 1) (hu:P.underlying u=some .string) {w:World} {ops:Array Oper} {rest:List Oper} {o:Oper} {a:Act} {Q:Exit->Act->World->Prop} (hgd:Region.wanted o (yielded ops a.tmps)=true) (s x:Operand)
  (ho:o.op=.call { callee:=.builtin .append,args:=#[s,x],argTypes:=#[t,u] })
  (B:Nat) (v:Value) (l m:List Int) (b:ByteArray) (hsm:Lib.strCells b=m.map (Value.int .u8)) (hs:a.eval s=v) (hxe:a.eval x=.string b)
  (h:Row w B e v l) (hB:B<=w.heap.size) (hn:l.length+m.length<=140737488355328)
  (hK:∀ v' w',Row w' B e v' (l++m)->Only v.ownBlock.toList w w'->wpList P ops Q rest (a.put o.dst v') w'):wpList P ops Q (o::rest) a w :=
 Ad6 hgd fun _ hK'=>by
  obtain ⟨v',w',hr,h2,h3⟩:=run_appS E hu w o.type B v l m b hsm h hB hn
  unfold Oper.wp execOp
  simp only [ho,resolve,invoke,builtin,Sem.run_bind,Sem.run_pure,Result.andThen_ok,List.map_toArray,List.map_cons,List.map_nil,hs,hxe,hr]
  exact hK' _ _ (hK v' w' h2 h3)
theorem row_made (w:World) (B:Nat) (e:TypeId) (b:ByteArray) (m:List Int) (hsm:Lib.strCells b=m.map (Value.int .u8)) (cap:Nat) (hc:b.size<=cap) (hm:cap<=maxLen) (hB:B<=w.heap.size) :
  Row (w.drew.alloc (.cells (bytesRow b cap) e ((bytesRow b cap).size,(bytesRow b cap).size+1))) B e (.slice (some ⟨w.heap.size,0,none⟩) b.size cap) m:=by
 have hss:b.size=m.length:=by
  have:=congrArg List.length hsm
  rwa [Lib.strCells_length,List.length_map] at this
 have hsz:(bytesRow b cap).size=cap:=by
  have:b.data.size=b.size:=rfl
  unfold bytesRow
  simp only [Array.size_append,Array.size_map,Array.size_replicate]
  omega
 refine .inr ⟨w.heap.size,cap,bytesRow b cap,_,by rw [hss],hB,heap_alloc_new w.drew _,fun _=>J5 _,by omega,hm,hsz,?_⟩
 unfold bytesRow
 have e1:(b.data.map (fun b=>Value.int .u8 b.toNat)).toList=m.map (Value.int .u8):=by
  rw [<- hsm]
  simp [Lib.strCells]
 rw [Array.toList_append,e1]
 have e2:m.length=(m.map (Value.int .u8)).length:=by simp
 rw [e2]
 exact List.take_left
theorem wpList_bytes {P:Program} {src dst e:TypeId} (hs:P.underlying src=some .string) (hd:P.underlying dst=some (.slice e)) (he:P.underlying e=some (.int .u8)) {w:World} {ops:Array Oper} {rest:List Oper} {o:Oper} {a:Act} {Q:Exit->Act->World->Prop} (hgd:Region.wanted o (yielded ops a.tmps)=true)
  (x:Operand) (ho:o.op=.convert src dst x) (B:Nat) (b:ByteArray) (m:List Int) (hsm:Lib.strCells b=m.map (Value.int .u8)) (hxe:a.eval x=.string b) (hB:B<=w.heap.size) (hm:m.length<=140737488355328)
  (hK:∀ v' w',Row w' B e v' m->Below w.heap.size w w'->wpList P ops Q rest (a.put o.dst v') w'):wpList P ops Q (o::rest) a w :=
 Ad6 hgd fun _ hK'=>by
  have hss:b.size=m.length:=by
   have:=congrArg List.length hsm
   rwa [Lib.strCells_length,List.length_map] at this
  have hr:=run_bytes_of_string (P:=P) w src dst e b hs hd he
  unfold Oper.wp execOp
  simp only [ho,hxe,Sem.run_bind,hr,Result.andThen_ok]
  refine hK' _ _ (hK _ _ (row_made w B e b m hsm _ ?_ ?_ hB) ⟨rfl,rfl,rfl,by simp,fun k hk=>Below.heap_alloc _ _ _ (by simpa using hk)⟩)
  ·exact grownCap_ge w b.size 0 e
  ·exact grownCap_le_maxLen w b.size 0 e (by unfold maxLen;omega)
end Go.Proofs.YtbafmljidapmgaaGreatDoor.Kys
namespace Go.Proofs.YtbafmljidapmgaaGreatDoor.Kys
def dgF (n:Int):List Int:=(Go.Lib.decDigits n.toNat).map fun b=>(b.toNat:Int)
theorem dg_small {n:Nat} (h:n<10):dgF (n:Int)=[48+(n:Int)]:=by
 unfold dgF
 rw [Int.toNat_natCast,Go.Lib.decDigits,dif_pos h]
 simp only [List.map_cons,List.map_nil]
 congr 1
 rw [UInt8.toNat_ofNat_of_lt' (by simp [UInt8.size];omega)]
 omega
theorem dg_big {n:Nat} (h:10<=n):dgF (n:Int)=dgF ((n / 10:Nat):Int)++[48+((n % 10:Nat):Int)]:=by
 unfold dgF
 rw [Int.toNat_natCast,Int.toNat_natCast]
 conv=>lhs;rw [Go.Lib.decDigits,dif_neg (by omega)]
 rw [List.map_append]
 congr 1
 simp only [List.map_cons,List.map_nil]
 congr 1
 rw [UInt8.toNat_ofNat_of_lt' (by simp [UInt8.size];omega)]
 omega
def tailF:List Int->List Int
 |[]=>[]
 |n::t=>59::dgF n++tailF t
def numsF:List Int->List Int
 |[]=>[]
 |n::t=>dgF n++tailF t
theorem tail_snoc (l:List Int) (x:Int):tailF (l++[x])=tailF l++(59::dgF x):=by
 induction l with
 |nil=>simp [tailF]
 |cons n t ih=>simp [tailF,ih]
theorem nums_snoc {l:List Int} (h:l≠[]) (x:Int):numsF (l++[x])=numsF l++(59::dgF x):=by
 cases l with
 |nil=>exact absurd rfl h
 |cons n t=>simp [numsF,tail_snoc]
def ctlF (b:List Int) (l:List Int) (f:Int):List Int:=b++numsF l++[f]
structure Ky where
 kd:Int
 r:Int
 n:Int
 md:Int
deriving DecidableEq
structure Ky.Ok (k:Ky):Prop where
 kd:0<=k.kd/\k.kd<=255
 r:-2147483648<=k.r/\k.r<=2147483647
 n:-9223372036854775808<=k.n/\k.n<=9223372036854775807
 md:0<=k.md/\k.md<=255
def mayR (r:Int):Prop:=0<=r/\r<=1114111/\(r<55296\/57343<r)
instance (r:Int):Decidable (mayR r):=by unfold mayR;infer_instance
def Ky.may (k:Ky):Prop :=
 1<=k.kd/\k.kd<=16/\k.md<=7/\(k.kd=1/\mayR k.r/\k.n=0\/k.kd=12/\k.r=0/\1<=k.n/\k.n<=12\/k.kd≠1/\k.kd≠12/\k.r=0/\k.n=0)
instance (k:Ky):Decidable k.may:=by unfold Ky.may;infer_instance
def Cn9 (r:Int):Prop:=r=9\/32<=r/\r<=126\/160<=r/\mayR r
instance (r:Int):Decidable (Cn9 r):=by unfold Cn9;infer_instance
