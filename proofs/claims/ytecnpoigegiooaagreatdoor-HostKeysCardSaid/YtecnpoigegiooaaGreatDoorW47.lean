/- Part 47 of HostKeys. -/
import Derived.Lib.SlBytesConst
import Derived.Test.YtecnpoigegiooaaGreatDoorW46
set_option maxHeartbeats 16000000
set_option maxRecDepth 100000
namespace Go.Proofs.YtecnpoigegiooaaGreatDoor.Hos
open Go.Proofs.Tryz
open Go RowKit Com Rw Lns Emu Scn
section
variable {Z Z' B:Zn}{W w w1 w2 w':World}{h d t:Nat}{p p':HP}{H H':Hst}{X:Tri}{T:Ter}{v sv:Value}{s b l:List Int}{ao:Option Addr}{n cp c:Nat}
theorem HB.re(hB:HB B W w h H)(hb:Below w.heap.size w w'):HB (Hos.re B w w') W w' h H:=by
 obtain⟨Z,p,hx,hs⟩:=hB
 refine⟨_,p,hx.on hb,fun k hk=>?_⟩
 rcases hk with hk|hk
 ·rcases hk with hk|hk
  ·exact .inl ⟨hs k (.inl hk.1),hk.2⟩
  ·exact .inr hk
 ·exact .inl ⟨hs k (.inr hk),(hx.lt k hk).2⟩
theorem Cch(B:Zn)(w:World)(e:TypeId)(fz:Nat×Nat)(k:IntKind)(l:List Int):∀wr,Hf (Hos.re B w (w.alloc (.cells (l.map (Value.int k)).toArray e fz))) (w.alloc (.cells (l.map (Value.int k)).toArray e fz)) wr->Aju wr k (some ⟨w.heap.size,0,none⟩) l:=fun wr hf i x hx=>by
 refine⟨_,rfl,?_⟩
 have hm:=heap_alloc_new w (.cells (l.map (Value.int k)).toArray e fz)
 have hs:(w.alloc (.cells (l.map (Value.int k)).toArray e fz)).heap.size=w.heap.size+1:=by simp
 have h2:=hf.block w.heap.size (by omega) (fun hz=>by
  rcases hz with hz|hz
  ·omega
  ·omega)
 rw[Addr.add_lit,Nat.zero_add]
 rw[cell_of_row wr w.heap.size i _ e fz (h2.trans hm)]
 simp[List.getElem?_map,hx]
structure Gh(c N P S:Nat)(H:Hst):Prop where
 tr:Tr c N 0 0 P H.tri
 B8:H.B8.length<=S
theorem Bwd{b:List Int}(hb:Utf.Bytes b)(k:Nat):Utf.Bytes (b.take k):=fun x hx=>hb x (List.mem_of_mem_take hx)
theorem Gh.bd{N P S:Nat}(h:Gh c N P S H)(hb:Utf.Bytes b)(hn:b.length<=1000)(hN:N<=7000000000)(hP:P<=7000000):∀k,k<=b.length->Bd c (H.tri.hand (b.take k)):=fun k hk=>by
 have h1:=Tr.hand h.tr (Bwd hb k)
 have h2:(b.take k).length<=b.length:=by simp;omega
 exact h1.mono (by omega) (by omega) (by omega) (by omega)
theorem Cpi(h:Ok T):Ok { { T with rp:=[] }with jr:=[] }:=⟨h.fit,h.U6,h.rows,h.cols,h.row,h.col,h.sv,h.svm,h.tn,h.alt⟩
theorem Gh.bytes{N P S:Nat}(h:Gh c N P S H)(hb:Utf.Bytes b)(hn:b.length<=1000):Gh c (N+4000000) (P+4000) (S+80000) (H.bytes b):=by
 have h1:=Tr.hand h.tr hb
 obtain⟨h2,h3,h4,h5,h6,h7,h8,h9,h10⟩:=h1
 refine⟨⟨h2,h3,⟨Cpi h4,h5,h6,by show(H.tri.hand b).T.nx<=_;omega,J5 _,J5 _,by show(H.tri.hand b).T.C5<=_;omega⟩⟩,?_⟩
 show(H.B8++(H.tri.hand b).T.rp).length<=_
 have:=h.B8
 rw[List.length_append]
 omega
theorem Gh.mono{N P S N' P' S':Nat}(h:Gh c N P S H)(h1:N<=N')(h2:P<=P')(h3:S<=S'):Gh c N' P' S' H:=⟨h.tr.mono h1 (J5 _) (J5 _) h2,Nat.le_trans h.B8 h3⟩
theorem Bny(r c b:Nat)(hr1:1<=r)(hr:r<=24)(hc1:1<=c)(hc5:c<=512):Gh c 100 0 0 (Agt r c b):=by
 have hl:(Akk r c b).vis.L.length=r:=Agy _ _ _ _
 refine⟨⟨Utf.Avx,Cmh,Boi r c b hr1 (by omega) hc1 hc5,by show(Akk r c b).vis.L.length<=24;omega,J5 _,?_,J5 _,J5 _,J5 _⟩,J5 _⟩
 show 1+r<=_
 omega
theorem Bbm(hT:Tbl w)(r c b:Int)(hno:¬(Anl r c/\0<=b/\b<=10000)):Calls prog 7 #[.int .i64 r,.int .i64 c,.int .i64 b] w fun e w'=>e=.returned (.tuple #[.pointer none,.int .i64 2])/\Below w.heap.size w w':=by
 have hn:=J0 (Clg hT r c b hno)
 clear hT hno
 go_enter func7,ntmps7
 go_wp2_with((go_at_call 18;(with_reducible refine(hn.out).mono ?_);rintro e w1 ⟨rfl,hb1⟩))
 go_ret2
 exact⟨rfl,hb1⟩
theorem Cds(w:World)(a b:Int):(convert 22 22 (.slice (some ⟨w.heap.size,0,none⟩) 2 2)).run prog (w.alloc (.cells #[.int .u8 a,.int .u8 b] 5))=.ok (.slice (some ⟨w.heap.size,0,none⟩) 2 2) (w.alloc (.cells #[.int .u8 a,.int .u8 b] 5 (2,3))) :=
 Lib.run_convert_bytes_const w 22 5 #[.int .u8 a,.int .u8 b] 2 2 underlying22 underlying5
theorem Bwl(w:World)(a b c:Int):(convert 22 22 (.slice (some ⟨w.heap.size,0,none⟩) 3 3)).run prog (w.alloc (.cells #[.int .u8 a,.int .u8 b,.int .u8 c] 5))=.ok (.slice (some ⟨w.heap.size,0,none⟩) 3 3) (w.alloc (.cells #[.int .u8 a,.int .u8 b,.int .u8 c] 5 (3,4))) :=
 Lib.run_convert_bytes_const w 22 5 #[.int .u8 a,.int .u8 b,.int .u8 c] 3 3 underlying22 underlying5
def kb1:List Int:=[97,195]
def kb2:List Int:=[169,27,91]
def kb3:List Int:=[54,110]
def kh1:Hst:=(Agt 1 4 0).bytes kb1
def kh2:Hst:=kh1.bytes kb2
def kh3:Hst:=kh2.bytes kb3
def kl:List Ln:=[(1,[⟨97,[],0,zeroAt⟩,⟨233,[],0,zeroAt⟩,⟨32,[],0,zeroAt⟩,⟨32,[],0,zeroAt⟩])]
theorem Cft:kh3.B8=[27,91,49,59,51,82]:=by kernel_rfl
theorem Crz:kh3.T.vis.L=kl:=by kernel_rfl
theorem Cfs:kh3.T.vis.cols=4:=by kernel_rfl
theorem Bpp:Utf.Bytes kb1:=by unfold Utf.Bytes Utf.Aer kb1;decide
theorem Bpq:Utf.Bytes kb2:=by unfold Utf.Bytes Utf.Aer kb2;decide
theorem Crx:Utf.Bytes kb3:=by unfold Utf.Bytes Utf.Aer kb3;decide
theorem kg0:Gh 4 100 0 0 (Agt 1 4 0):=Bny 1 4 0 (by omega) (by omega) (by omega) (by omega)
theorem kg1:Gh 4 4000100 4000 80000 kh1:=(kg0.bytes Bpp (by decide)).mono (by omega) (by omega) (by omega)
theorem kg2:Gh 4 8000100 8000 160000 kh2:=(kg1.bytes Bpq (by decide)).mono (by omega) (by omega) (by omega)
theorem Ayy{N P S:Nat}(hB:HB B W w h H)(g:Gh c N P S H)(hN:N<=7000000000)(hP:P<=7000000)(hS:S<=1000000000)(hb:Utf.Bytes b)(hl:b.length<=1000)(hn:b.length=n) :
  Calls prog 8 #[.pointer (some ⟨h,0,none⟩),.slice (some ⟨w.heap.size,0,none⟩) n cp] (w.alloc (.cells (b.map (Value.int .u8)).toArray 5 (n,n+1))) fun e w'=>(∃ao c,e=.returned (.slice ao (H.told b).length c))/\HB (re B w (w.alloc (.cells (b.map (Value.int .u8)).toArray 5 (n,n+1)))) W w' h (H.bytes b) :=
 (Azf (hB.re (A3 w (.cells (b.map (Value.int .u8)).toArray 5 (n,n+1)))) (g.bd hb hl hN hP) (by have:=g.B8;omega) hb (Cch B w _ _ .u8 b) hn (by omega)).mono fun e w' ⟨v,he,hr,hD⟩=>by
  obtain⟨ao,c',e',_⟩:=U0 hr.1
  exact⟨⟨ao,c',e'▸he⟩,hD.hb⟩
theorem Cba(hT:Tbl W):Calls prog 6 #[] W fun e w'=>e=.returned (.bool true)/\Below W.heap.size W w':=by
  have hn1:Hid (Calls prog 7 #[.int .i64 1,.int .i64 4,.int .i64 0] W fun e w'=>∃h,e=.returned (.tuple #[.pointer (some ⟨h,0,none⟩),.int .i64 0])/\HB (fun k=>W.heap.size<=k) W w' h (Agt 1 4 0)/\Below W.heap.size W w'):=J0 (Bat hT (Below.refl _ _) 1 4 0 (by omega) (by omega) (by omega) (by omega) (by omega))
  have hn2:=J0 (fun w1 (hb:Below W.heap.size W w1)=>Bbm (hT.below hb) 0 4 0 (by unfold Anl;omega))
  have hb1:=J0 (fun w1 h (hB:HB (fun k=>W.heap.size<=k) W w1 h (Agt 1 4 0))=>Ayy (cp:=2) hB kg0 (by omega) (by omega) (by omega) Bpp (by decide) (show kb1.length=2 from rfl))
  have hb2:=J0 (fun w1 h B (hB:HB B W w1 h kh1)=>Ayy (cp:=3) hB kg1 (by omega) (by omega) (by omega) Bpq (by decide) (show kb2.length=3 from rfl))
  have hb3:=J0 (fun w1 h B (hB:HB B W w1 h kh2)=>Ayy (cp:=2) hB kg2 (by omega) (by omega) (by omega) Crx (by decide) (show kb3.length=2 from rfl))
  have e1:kh1=(Agt 1 4 0).bytes kb1:=rfl
  have e2:kh2=kh1.bytes kb2:=rfl
  have e3:kh3=kh2.bytes kb3:=rfl
  rw[<- e1]at hb1
  rw[<- e2]at hb2
  rw[<- e3]at hb3
  clear e1 e2 e3 hT
  generalize Agt 1 4 0=h0 at hn1 hb1
  simp only[kb1,kb2,kb3,List.map_cons,List.map_nil]at hb1 hb2 hb3
  have hcv2:=Cds
  have hcv3:=Bwl
  go_enter func6,ntmps6
  go_upto_region 5 with (first
    |(go_at_call 7;(with_reducible refine(hn1.out).mono ?_);rintro e w1 ⟨h,rfl,hB1,Akd⟩)
    |(go_at_call 7;(with_reducible refine(hn2.out _ Akd).mono ?_);rintro e w2 ⟨rfl,Ash⟩))
  have hB2:=hB1.on Ash
  have hq1:=J0 (hb1.out _ _ hB2)
  clear hn1 hn2 hb1 hB1 hB2 Akd Ash
  go_upto_region 6 with((go_at_call 8;(with_reducible refine(hq1.out).mono ?_);rintro e w3 ⟨⟨ao3,cp3,rfl⟩,hB3⟩))
  have hq2:=J0 (hb2.out _ _ _ hB3)
  clear hq1 hB3 hb2
  go_upto_region 7 with((go_at_call 8;(with_reducible refine(hq2.out).mono ?_);rintro e w4 ⟨⟨ao4,cp4,rfl⟩,hB4⟩))
  have hq3:=J0 (hb3.out _ _ _ hB4)
  clear hq2 hB4 hb3
  go_upto_region 8 with((go_at_call 8;(with_reducible refine(hq3.out).mono ?_);rintro e w5 ⟨⟨ao5,cp5,rfl⟩,hB5⟩))
  clear hq3
  generalize re _ _ _=B5 at hB5
  have hgr:=Azx hB5
  rw[Crz,Cfs,show kl.length=1 from rfl]at hgr
  generalize kh3.T.c=cu at hgr
  generalize kh3.T.m.a5=m5 at hgr
  generalize kh3.T.other.isNone=oi at hgr
  generalize kh3.T.vis.top=n2 at hgr
  generalize kh3.T.vis.bot=n3 at hgr
  generalize kh3.T.p.a=pa at hgr
  obtain⟨q0,q1,q2⟩:=cu
  obtain⟨r0,r1,r2⟩:=pa
  simp only at hgr
  replace hgr:=J0 hgr
  go_upto_region 9 with(go_at_call 16;(with_reducible refine(hgr.out).mono ?_);rintro e w6 ⟨g1,c1,g2,c2,rs,rfl,htl,hb6⟩)
  have hB6:=(hB5.on hb6).on (A3 w6 (.cells #[.slice (some ⟨g1,0,none⟩) 1 c1,.slice (some ⟨g2,0,none⟩) 1 c2,.int .i64 q0,.int .i64 q1,.bool q2,.bool (!m5),.bool oi,.int .i64 n2,.int .i64 n3,.int .u32 r0,.int .u32 r1,.int .u16 r2] 53))
  have hbx:=Block.made w6 53 #[.slice (some ⟨g1,0,none⟩) 1 c1,.slice (some ⟨g2,0,none⟩) 1 c2,.int .i64 q0,.int .i64 q1,.bool q2,.bool (!m5),.bool oi,.int .i64 n2,.int .i64 n3,.int .u32 r0,.int .u32 r1,.int .u16 r2]
  have Brl:=htl.below (A3 w6 (.cells #[.slice (some ⟨g1,0,none⟩) 1 c1,.slice (some ⟨g2,0,none⟩) 1 c2,.int .i64 q0,.int .i64 q1,.bool q2,.bool (!m5),.bool oi,.int .i64 n2,.int .i64 n3,.int .u32 r0,.int .u32 r1,.int .u16 r2] 53))
  obtain⟨x,z1,z2,z3⟩:=Brl.row (i:=0) (by omega)
  have z4:=(z3 1 (by omega)).1
  have y0:=hbx.cell 0 (v:=.slice (some ⟨g1,0,none⟩) 1 c1) rfl
  have z5:(w6.alloc (.cells #[.slice (some ⟨g1,0,none⟩) 1 c1,.slice (some ⟨g2,0,none⟩) 1 c2,.int .i64 q0,.int .i64 q1,.bool q2,.bool (!m5),.bool oi,.int .i64 n2,.int .i64 n3,.int .u32 r0,.int .u32 r1,.int .u16 r2] 53)).cell? ⟨x,6,none⟩=some (.int .i32 233):=z4
  clear z4 z2 z3 htl Brl hbx hgr hb6 hB5
  generalize w6.heap.size=bg at y0 |-
  generalize w6.alloc (.cells #[.slice (some ⟨g1,0,none⟩) 1 c1,.slice (some ⟨g2,0,none⟩) 1 c2,.int .i64 q0,.int .i64 q1,.bool q2,.bool (!m5),.bool oi,.int .i64 n2,.int .i64 n3,.int .u32 r0,.int .u32 r1,.int .u16 r2] 53)=w7 at hB6 z1 z5 y0 |-
  have hse:=Azy hB6
  rw[Cft]at hse
  replace hse:=J0 hse
  have hst:strOfNums [27,91,49,59,51,82]={ data:=#[27,91,49,59,51,82] }:=by decide
  have Cuc:=J0 (fun w8 B (hB:HB B W w8 h { kh3 with B8:=[] })=>Azy hB)
  have hpr:=J0 (fun w8 B (hB:HB B W w8 h { kh3 with B8:=[] })=>Ayn hB)
  clear hB6
  go_wp2_with (first
    | (go_at_call 11
       with_reducible refine(hse.out).mono ?_
       rintro e w8 ⟨v8,rfl,hr8,hB8,-,-⟩
       obtain⟨a8,c8,rfl,_⟩:=hr8.shape
       have hcv8:(convert 22 9 (.slice a8 6 c8)).run prog w8=.ok (.string { data:=#[27,91,49,59,51,82] }) w8:=by
         have h9:=Ajl (hr8.lower (Nat.zero_le _))
         rw[hst]at h9
         exact h9
       clear hr8)
    | (go_at_call 11
       with_reducible refine(Cuc.out _ _ hB8).mono ?_
       rintro e w9 ⟨v9,rfl,hr9,hB9,-,-⟩
       obtain⟨a9,c9,rfl,_⟩:=hr9.shape
       clear hr9)
    | (go_at_call 17
       with_reducible refine(hpr.out _ _ hB9).mono ?_
       rintro e w10 ⟨rfl,rfl⟩))
  go_ret
  exact⟨rfl,hB9.below⟩
end
section
variable {N N' B B' B1 B2:Zn}{W w w':World}{h h1 h2:Nat}{H H' H1 H2:Hst}{ao:Option Addr}{l b:List Int}{v:Value}{k:IntKind}{c n cp:Nat}
theorem HB.other(hB:HB B W w h H)(hf:Hf B1 w w')(hd:∀k,k<w.heap.size->B k->¬B1 k)(ho:∀k,k<W.heap.size->¬B1 k):HB (Hos.re B w w') W w' h H:=by
 obtain⟨Z,p,hx,hs⟩:=hB
 refine⟨_,p,hx.other hf (fun k hk hz=>hd k hk (hs k (.inl hz))) (fun k hk=>hd k (hx.lt k hk).2 (hs k (.inr hk))) ho,fun k hk=>?_⟩
 rcases hk with hk|hk
 ·rcases hk with hk|hk
  ·exact .inl ⟨hs k (.inl hk.1),hk.2⟩
  ·exact .inr hk
 ·exact .inl ⟨hs k (.inr hk),(hx.lt k hk).2⟩
def Duo(N:Zn)(W w:World)(h1:Nat)(H1:Hst)(h2:Nat)(H2:Hst):Prop:=∃B1 B2:Zn,HB B1 W w h1 H1/\HB B2 W w h2 H2/\(∀k,k<w.heap.size->B1 k->¬B2 k)/\(∀k,k<W.heap.size->¬B1 k/\¬B2 k)/\∀k,N k->k<w.heap.size/\¬B1 k/\¬B2 k
theorem Duo.swap(hD:Duo N W w h1 H1 h2 H2):Duo N W w h2 H2 h1 H1:=by
 obtain⟨B1,B2,a,b,c,d,e⟩:=hD
 exact⟨B2,B1,b,a,fun k hk h2 h1=>c k hk h1 h2,fun k hk=>(d k hk).symm,fun k hk=>⟨(e k hk).1,(e k hk).2.symm⟩⟩
theorem Duo.left(hD:Duo N W w h1 H1 h2 H2):∃B,HB B W w h1 H1/\(∀k,k<W.heap.size->¬B k)/\(∀k,N k->k<w.heap.size/\¬B k)/\∀w' H' B' N',HB B' W w' h1 H'->Hf B w w'->(∀k,B' k->B k)->(∀k,N' k->k<w'.heap.size/\¬B' k/\(N k\/B k))->Duo N' W w' h1 H' h2 H2:=by
 obtain⟨B1,B2,a,b,c,d,e⟩:=hD
 refine⟨B1,a,fun k hk=>(d k hk).1,fun k hk=>⟨(e k hk).1,(e k hk).2.1⟩,fun w' H' B' N' h3 hf hs hN=>⟨B',re B2 w w',h3,b.other hf (fun k hk h2 h1=>c k hk h1 h2) (fun k hk=>(d k hk).1),fun k hk h4 h5=>?_,fun k hk=>⟨fun h4=>(d k hk).1 (hs k h4),fun h5=>?_⟩,fun k hk=>?_⟩⟩
 ·rcases h5 with h5|h5
  ·exact c k h5.2 (hs k h4) h5.1
  ·omega
 ·rcases h5 with h5|h5
  ·exact(d k hk).2 h5.1
  ·have h6:=hf.size
   have h7:=a.below.size
   omega
 ·obtain⟨h4,h5,h6⟩:=hN k hk
  refine⟨h4,h5,fun h7=>?_⟩
  rcases h7 with h7|h7
  ·rcases h6 with h6|h6
   ·exact(e k h6).2.2 h7.1
   ·exact c k h7.2 h6 h7.1
  ·omega
theorem Duo.did(hD:Duo N W w h1 H1 h2 H2):∃B,HB B W w h1 H1/\(∀k,k<W.heap.size->¬B k)/\(∀k,N k->k<w.heap.size/\¬B k)/\∀w' H',Did B W w h1 H' w'->Duo N W w' h1 H' h2 H2:=by
 obtain⟨B,a,b,c,d⟩:=hD.left
 exact⟨B,a,b,c,fun w' H' hd=>d w' H' B N hd.hb hd.fr (fun _ h=>h) fun k hk=>⟨Nat.lt_of_lt_of_le (c k hk).1 hd.fr.size,(c k hk).2,.inl hk⟩⟩
theorem Duo.on(hD:Duo N W w h1 H1 h2 H2)(hb:Below w.heap.size w w'):Duo N W w' h1 H1 h2 H2:=by
 obtain⟨B,a,b,c,d⟩:=hD.did
 exact d w' H1 (a.did hb)
theorem Duo.fst(hD:Duo N W w h1 H1 h2 H2):∃B,HB B W w h1 H1:=by
 obtain⟨B,a,_⟩:=hD.left
 exact⟨B,a⟩
theorem Duo.below(hD:Duo N W w h1 H1 h2 H2):Below W.heap.size W w:=by
 obtain⟨B,a⟩:=hD.fst
 exact a.below
theorem Duo.made(hB:HB B W w h1 H1)(ho:∀k,k<W.heap.size->¬B k)(hB2:HB (fun k=>w.heap.size<=k) W w' h2 H2)(hb:Below w.heap.size w w')(hN:∀k,N k->k<w.heap.size/\¬B k):Duo N W w' h1 H1 h2 H2:=by
 have hW:=hB.below.size
 refine⟨re B w w',fun k=>w.heap.size<=k,hB.re hb,hB2,fun k hk h3 h4=>?_,fun k hk=>⟨fun h3=>?_,fun h3=>?_⟩,fun k hk=>⟨Nat.lt_of_lt_of_le (hN k hk).1 hb.size,fun h3=>?_,fun h3=>?_⟩⟩
 ·have h4:w.heap.size<=k:=h4
  rcases h3 with h3|h3
  ·omega
  ·omega
 ·rcases h3 with h3|h3
  ·exact ho k hk h3.1
  ·have:=hb.size
   omega
 ·have h3:w.heap.size<=k:=h3
  omega
 ·rcases h3 with h3|h3
  ·exact(hN k hk).2 h3.1
  ·have:=(hN k hk).1
   have:=hb.size
   omega
 ·have h3:w.heap.size<=k:=h3
  have:=(hN k hk).1
  omega
theorem Bki(hn:A8 W W.heap.size k ao l)(hb:Below W.heap.size W w)(ho:∀g,g<W.heap.size->¬B g):∀wr,Hf B w wr->Aju wr k ao l:=fun wr hf i x hx=>by
 obtain⟨ad,e,hlt,hc⟩:=hn i x hx
 refine⟨ad,e,?_⟩
 have h1:w.cell? (ad.add i)=some (.int k x):=(World.cell?_of_block (w:=W) (by rw[Aa1];exact hb.block _ hlt)).trans hc
 exact(World.cell?_of_block (w:=w) (by rw[Aa1];exact hf.block _ (Nat.lt_of_lt_of_le hlt hb.size) (ho _ hlt))).trans h1
def Avy(N:Zn)(W w:World)(h1:Nat)(H1:Hst)(h2:Nat)(H2:Hst)(l:List Ev)(e:Ending)(w':World):Prop:=∃v B2,e=.returned v/\w'.ownsRow 0 73 10 v l.length (fl evL l)/\(∀g,v.ownBlock=some g->g<w'.heap.size/\¬B2 g)/\Duo N W w' h1 H1 h2 H2/\HB B2 W w' h2 H2/\(∀k,k<W.heap.size->¬B2 k)/\(∀w2 H3,Did B2 W w' h2 H3 w2->Duo N W w2 h1 H1 h2 H3)/\∀g,N g->g<w.heap.size/\w'.heap[g]?=w.heap[g]?/\¬B2 g
theorem Duo.bytes{P S M:Nat}(hD:Duo N W w h1 H1 h2 H2)(g:Gh c M P S H1)(hM:M<=7000000000)(hP:P<=7000000)(hS:S<=1000000000)(hn:A8 W W.heap.size .u8 ao b)(hb:Utf.Bytes b)(hl:b.length<=1000)(hbn:b.length=n) :
  Calls prog 8 #[.pointer (some ⟨h1,0,none⟩),.slice ao n cp] w (Avy N W w h1 (H1.bytes b) h2 H2 (H1.told b)):=by
 obtain⟨B1,B2,a,b2,c1,d,e1⟩:=hD
 refine(Azf a (g.bd hb hl hM hP) (by have:=g.B8;omega) hb (Bki hn a.below (fun k hk=>(d k hk).1)) hbn (by omega)).mono fun e w' ⟨v,he,hr,hd⟩=>?_
 have hfr:=hd.fr
 have hsz:=hfr.size
 have hW:=a.below.size
 have hb2:=b2.other hfr (fun k hk h2 h1=>c1 k hk h1 h2) (fun k hk=>(d k hk).1)
 have Akh:∀k,k<W.heap.size->¬Hos.re B2 w w' k:=fun k hk h5=>by
  rcases h5 with h5|h5
  ·exact(d k hk).2 h5.1
  ·omega
 have Aoq:∀k,k<w'.heap.size->B1 k->¬Hos.re B2 w w' k:=fun k hk h4 h5=>by
  rcases h5 with h5|h5
  ·exact c1 k h5.2 h4 h5.1
  ·omega
 have hDuo:Duo N W w' h1 (H1.bytes b) h2 H2:=⟨B1,Hos.re B2 w w',hd.hb,hb2,Aoq,fun k hk=>⟨(d k hk).1,Akh k hk⟩,fun k hk=>⟨Nat.lt_of_lt_of_le (e1 k hk).1 hsz,(e1 k hk).2.1,fun h5=>by
  rcases h5 with h5|h5
  ·exact(e1 k hk).2.2 h5.1
  ·have:=(e1 k hk).1
   omega⟩⟩
 have hlt:=World.ownsRow.lt hr.1
 refine⟨v,Hos.re B2 w w',he,hr.1,fun g hg=>⟨(hlt g hg).2,Aoq g (hlt g hg).2 (hr.2 g hg)⟩,hDuo,hb2,Akh,fun w2 H3 hd2=>?_,fun g hg=>⟨(e1 g hg).1,hfr.block g (e1 g hg).1 (e1 g hg).2.1,fun h5=>by
  rcases h5 with h5|h5
  ·exact(e1 g hg).2.2 h5.1
  ·have:=(e1 g hg).1
   omega⟩⟩
 have hb1:=hd.hb.other hd2.fr Aoq Akh
 have hs2:=hd2.fr.size
 refine⟨Hos.re B1 w' w2,Hos.re B2 w w',hb1,hd2.hb,fun k hk h4 h5=>?_,fun k hk=>⟨fun h4=>?_,Akh k hk⟩,fun k hk=>⟨?_,fun h4=>?_,?_⟩⟩
 ·rcases h4 with h4|h4
  ·exact Aoq k h4.2 h4.1 h5
  ·omega
 ·rcases h4 with h4|h4
  ·exact(d k hk).1 h4.1
  ·omega
 ·have:=(e1 k hk).1
  omega
 ·rcases h4 with h4|h4
  ·exact(e1 k hk).2.1 h4.1
  ·have:=(e1 k hk).1
   omega
 ·intro h5
  rcases h5 with h5|h5
  ·exact(e1 k hk).2.2 h5.1
  ·have:=(e1 k hk).1
   omega
theorem Duo.B8(hD:Duo N W w h1 H1 h2 H2):Calls prog 11 #[.pointer (some ⟨h1,0,none⟩)] w fun e w'=>∃v,e=.returned v/\Kys.Row w' 0 5 v H1.B8/\Duo (fun k=>N k\/v.ownBlock=some k) W w' h1 { H1 with B8:=[] } h2 H2/\∀g,N g->w'.heap[g]?=w.heap[g]?:=by
 obtain⟨B,a,b,c,d⟩:=hD.left
 refine(Azy a).mono fun e w' ⟨v,he,hr,hb',hf,hv⟩=>⟨v,he,hr.lower (Nat.zero_le _),d w' _ _ _ hb' hf (fun k hk=>hk.1) fun k hk=>?_,fun g hg=>hf.block g (c g hg).1 (c g hg).2⟩
 rcases hk with hk|hk
 ·exact⟨Nat.lt_of_lt_of_le (c k hk).1 hf.size,fun h=>(c k hk).2 h.1,.inl hk⟩
 ·exact⟨Nat.lt_of_lt_of_le (hv k hk).2 hf.size,fun h=>h.2 hk,.inr (hv k hk).1⟩
theorem Duo.key(hD:Duo N W w h1 H1 h2 H2)(k:Kys.Ky)(hk:k.Ok)(hl:H1.B8.length+(Aan H1.T.m k).length<=140737488355328):Calls prog 12 #[.pointer (some ⟨h1,0,none⟩),.agg (Kys.kA k)] w fun e w'=>e=.returned (.int .i64 (Aow k))/\Duo N W w' h1 { H1 with B8:=H1.B8++Aan H1.T.m k } h2 H2/\∀g,N g->w'.heap[g]?=w.heap[g]?:=by
 obtain⟨B,a,b,c,d⟩:=hD.did
 exact(Cfg a k hk hl).mono fun e w' ⟨he,hd⟩=>⟨he,d w' _ hd,fun g hg=>hd.fr.block g (c g hg).1 (c g hg).2⟩
theorem Duo.Csh{s:List Int}(hD:Duo N W w h1 H1 h2 H2)(hn:A8 W W.heap.size .i32 ao s)(hn5:s.length<=100000)(hl:H1.B8.length+(Kys.Aaw H1.T.m.a7 s).length<=140737488355328)(hsn:s.length=n):Calls prog 13 #[.pointer (some ⟨h1,0,none⟩),.slice ao n cp] w fun e w'=>e=.returned (.int .i64 0)/\Duo N W w' h1 { H1 with B8:=H1.B8++Kys.Aaw H1.T.m.a7 s } h2 H2/\∀g,N g->w'.heap[g]?=w.heap[g]?:=by
 obtain⟨B,a,b,c,d⟩:=hD.did
 exact(Bxt a ((hn.below a.below (J5 _)).more a.below.size) hn5 hl hsn).mono fun e w' ⟨he,hd⟩=>⟨he,d w' _ hd,fun g hg=>hd.fr.block g (c g hg).1 (c g hg).2⟩
theorem Duo.send(hD:Duo N W w h1 H1 h2 H2)(hn:A8 W W.heap.size .u8 ao b)(hl:H1.B8.length+b.length<=140737488355328)(hbn:b.length=n):Calls prog 14 #[.pointer (some ⟨h1,0,none⟩),.slice ao n cp] w fun e w'=>e=.returned (.int .i64 0)/\Duo N W w' h1 { H1 with B8:=H1.B8++b } h2 H2/\∀g,N g->w'.heap[g]?=w.heap[g]?:=by
 obtain⟨B,a,b',c,d⟩:=hD.did
 exact(Cau a ((hn.below a.below (J5 _)).more a.below.size) hl hbn).mono fun e w' ⟨he,hd⟩=>⟨he,d w' _ hd,fun g hg=>hd.fr.block g (c g hg).1 (c g hg).2⟩
theorem Duo.same(hD:Duo N W w h1 H1 h2 H2)(hT:H2.T=H1.T):Calls prog 10 #[.pointer (some ⟨h1,0,none⟩),.pointer (some ⟨h2,0,none⟩)] w fun e w'=>e=.returned (.bool true)/\Below w.heap.size w w':=by
 obtain⟨B1,B2,a,b,_⟩:=hD
 exact Cbd a b hT
end
end Go.Proofs.YtecnpoigegiooaaGreatDoor.Hos
namespace Go.Proofs.YtecnpoigegiooaaGreatDoor.Hos
open Go.Proofs.Tryz
open Go Kys
theorem Afu{x:Int}(h0:0<=x)(h1:x<1000):(dgF x).length<=20:=by
 obtain⟨u,rfl⟩:=Int.eq_ofNat_of_zero_le h0
 obtain⟨h2,h3⟩:=Ajp (u:=u) (by omega)
 omega
theorem Bbt(p:Bool)(r:Int):(Q3 p r).length<=4:=by
 have:=(Aky r).2
 unfold Q3
 split
 ·split<;>simp
 ·split
  ·simp
  ·split
   ·omega
   ·simp
theorem Apk:∀(l:List Int) (p:Bool),(R6 p l).length<=4*l.length
 |[],_=>by simp[R6]
 |r::t,p=>by
  have h1:=Bbt p r
  have h2:=Apk t (Agr r)
  simp only[R6,List.length_append,List.length_cons]
  omega
theorem Bac(on:Bool)(l:List Int):(Aaw on l).length<=4*l.length+12:=by
 have h:=Apk l false
 unfold Aaw
 split
 ·simp only[List.length_append,Adb,Alu,List.length_cons,List.length_nil]
  omega
 ·omega
theorem Ckz(m:Mds.Md)(k:Ky)(hk:k.Ok):(Aan m k).length<=200:=by
 unfold Aan
 split
 ·next hm =>
  have hmd:=hm.2.2.1
  have hmd0:=hk.md.1
  have hn:0<=I3 k/\I3 k<100:=by
   unfold I3
   have:=hm.2.2.2
   repeat' split
   all_goals omega
  have e1:=Afu (x:=k.md+1) (by omega) (by omega)
  have e2:=Afu hn.1 (show I3 k<1000 by omega)
  have e3:=Afu (x:=1) (by omega) (by omega)
  have e4:=(Aky k.r).2
  unfold Aee
  split
  ·unfold Ack P2
   repeat' split
   all_goals simp[S8,Aby]<;>omega
  ·split
   ·unfold Ahe P2
    repeat' split
    all_goals simp[S8,Aby]<;>omega
   ·unfold Aio X5 V8
    repeat' split
    all_goals simp<;>omega
 ·simp
