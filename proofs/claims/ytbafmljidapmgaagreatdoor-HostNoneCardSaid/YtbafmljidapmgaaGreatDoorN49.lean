/- Part 49 of the proof that the card of HostNone holds. -/
import Derived.Lib.SlBytesConst
import Derived.Test.YtbafmljidapmgaaGreatDoorN48c
import Derived.SevenTiedAt
set_option maxHeartbeats 16000000
set_option maxRecDepth 100000
namespace Go.Proofs.YtbafmljidapmgaaGreatDoor.Hos
open Go RowKit Com Rw Lns Emu Scn
section
variable {Z Z' B:Zn} {W w w1 w2 w':World} {h d t:Nat} {p p':HP} {H H':Hst} {X:Tri} {T:Ter} {v sv:Value} {s b l:List Int} {ao:Option Addr} {n cp c:Nat}
theorem HB.re (hB:HB B W w h H) (hb:Below w.heap.size w w'):HB (Hos.re B w w') W w' h H:=by
 obtain ⟨Z,p,hx,hs⟩:=hB
 refine ⟨_,p,hx.on hb,fun k hk=>?_⟩
 rcases hk with hk|hk
 ·rcases hk with hk|hk
  ·exact .inl ⟨hs k (.inl hk.1),hk.2⟩
  ·exact .inr hk
 ·exact .inl ⟨hs k (.inr hk),(hx.lt k hk).2⟩
theorem shows_lit (B:Zn) (w:World) (e:TypeId) (fz:Nat×Nat) (k:IntKind) (l:List Int):∀ wr,Hf (Hos.re B w (w.alloc (.cells (l.map (Value.int k)).toArray e fz))) (w.alloc (.cells (l.map (Value.int k)).toArray e fz)) wr->Bt2 wr k (some ⟨w.heap.size,0,none⟩) l:=fun wr hf i x hx=>by
 refine ⟨_,rfl,?_⟩
 have hm:=heap_alloc_new w (.cells (l.map (Value.int k)).toArray e fz)
 have hs:(w.alloc (.cells (l.map (Value.int k)).toArray e fz)).heap.size=w.heap.size+1:=by simp
 have h2:=hf.block w.heap.size (by omega) (fun hz=>by
  rcases hz with hz|hz
  ·omega
  ·omega)
 rw [Addr.add_lit,Nat.zero_add]
 rw [cell_of_row wr w.heap.size i _ e fz (h2.trans hm)]
 simp [List.getElem?_map,hx]
structure Gh (c N P S:Nat) (H:Hst):Prop where
 tr:Tr c N 0 0 P H.tri
 sent:H.sent.length<=S
theorem bytes_take {b:List Int} (hb:Utf.Bytes b) (k:Nat):Utf.Bytes (b.take k):=fun x hx=>hb x (List.mem_of_mem_take hx)
theorem Gh.bd {N P S:Nat} (h:Gh c N P S H) (hb:Utf.Bytes b) (hn:b.length<=1000) (hN:N<=7000000000) (hP:P<=7000000):∀ k,k<=b.length->Bd c (H.tri.hand (b.take k)):=fun k hk=>by
 have h1:=Tr.hand h.tr (bytes_take hb k)
 have h2:(b.take k).length<=b.length:=by simp;omega
 exact h1.mono (by omega) (by omega) (by omega) (by omega)
theorem noj_ok (h:Ok T):Ok { { T with rp:=[] } with jr:=[] }:=⟨h.fit,h.fitm,h.rows,h.cols,h.row,h.col,h.sv,h.svm,h.tn,h.alt⟩
theorem Gh.bytes {N P S:Nat} (h:Gh c N P S H) (hb:Utf.Bytes b) (hn:b.length<=1000):Gh c (N+4000000) (P+4000) (S+80000) (H.bytes b):=by
 have h1:=Tr.hand h.tr hb
 obtain ⟨h2,h3,h4,h5,h6,h7,h8,h9,h10⟩:=h1
 refine ⟨⟨h2,h3,⟨noj_ok h4,h5,h6,by show (H.tri.hand b).T.nx<=_;omega,J5 _,J5 _,by show (H.tri.hand b).T.prints<=_;omega⟩⟩,?_⟩
 show (H.sent++(H.tri.hand b).T.rp).length<=_
 have:=h.sent
 rw [List.length_append]
 omega
theorem Gh.mono {N P S N' P' S':Nat} (h:Gh c N P S H) (h1:N<=N') (h2:P<=P') (h3:S<=S'):Gh c N' P' S' H:=⟨h.tr.mono h1 (J5 _) (J5 _) h2,Nat.le_trans h.sent h3⟩
theorem gh_new (r c b:Nat) (hr1:1<=r) (hr:r<=24) (hc1:1<=c) (hc5:c<=512):Gh c 100 0 0 (newH r c b):=by
 have hl:(newT r c b).vis.L.length=r:=Af8 _ _ _ _
 refine ⟨⟨Utf.zero_ok,start_w,Cn8 r c b hr1 (by omega) hc1 hc5,by show (newT r c b).vis.L.length<=24;omega,J5 _,?_,J5 _,J5 _,J5 _⟩,J5 _⟩
 show 1+r<=_
 omega
theorem hnew_no (hT:Tbl w) (r c b:Int) (hno:¬ (Bf4 r c/\0<=b/\b<=10000)):Calls Tryz.prog 9 #[.int .i64 r,.int .i64 c,.int .i64 b] w fun e w'=>e=.returned (.tuple #[.pointer none,.int .i64 2])/\Below w.heap.size w w':=by
 have hn:=J0 (new_not hT r c b hno)
 clear hT hno
 go_enter Tryz.func9,Tryz.ntmps9
 go_wp2_with ((go_at_call 36;(with_reducible refine (hn.out).mono ?_);rintro e w1 ⟨rfl,hb1⟩))
 go_ret2
 exact ⟨rfl,hb1⟩
theorem conv_two (w:World) (a b:Int):(convert 32 32 (.slice (some ⟨w.heap.size,0,none⟩) 2 2)).run Tryz.prog (w.alloc (.cells #[.int .u8 a,.int .u8 b] 5))=.ok (.slice (some ⟨w.heap.size,0,none⟩) 2 2) (w.alloc (.cells #[.int .u8 a,.int .u8 b] 5 (2,3))) :=
 Lib.run_convert_bytes_const w 32 5 #[.int .u8 a,.int .u8 b] 2 2 Tryz.underlying32 Tryz.underlying5
theorem conv_three (w:World) (a b c:Int):(convert 32 32 (.slice (some ⟨w.heap.size,0,none⟩) 3 3)).run Tryz.prog (w.alloc (.cells #[.int .u8 a,.int .u8 b,.int .u8 c] 5))=.ok (.slice (some ⟨w.heap.size,0,none⟩) 3 3) (w.alloc (.cells #[.int .u8 a,.int .u8 b,.int .u8 c] 5 (3,4))) :=
 Lib.run_convert_bytes_const w 32 5 #[.int .u8 a,.int .u8 b,.int .u8 c] 3 3 Tryz.underlying32 Tryz.underlying5
def kb1:List Int:=[97,195]
def kb2:List Int:=[169,27,91]
def kb3:List Int:=[54,110]
def kh1:Hst:=(newH 1 4 0).bytes kb1
def kh2:Hst:=kh1.bytes kb2
def kh3:Hst:=kh2.bytes kb3
def kl:List Ln:=[(1,[⟨97,[],0,zeroAt⟩,⟨233,[],0,zeroAt⟩,⟨32,[],0,zeroAt⟩,⟨32,[],0,zeroAt⟩])]
theorem kh3_sent:kh3.sent=[27,91,49,59,51,82]:=by kernel_rfl
theorem kh3_L:kh3.T.vis.L=kl:=by kernel_rfl
theorem kh3_cols:kh3.T.vis.cols=4:=by kernel_rfl
theorem Cq9:Utf.Bytes kb1:=by unfold Utf.Bytes Utf.IsByte kb1;decide
theorem Cr0:Utf.Bytes kb2:=by unfold Utf.Bytes Utf.IsByte kb2;decide
theorem kb3_b:Utf.Bytes kb3:=by unfold Utf.Bytes Utf.IsByte kb3;decide
theorem kg0:Gh 4 100 0 0 (newH 1 4 0):=gh_new 1 4 0 (by omega) (by omega) (by omega) (by omega)
theorem kg1:Gh 4 4000100 4000 80000 kh1:=(kg0.bytes Cq9 (by decide)).mono (by omega) (by omega) (by omega)
theorem kg2:Gh 4 8000100 8000 160000 kh2:=(kg1.bytes Cr0 (by decide)).mono (by omega) (by omega) (by omega)
theorem Ay4 {N P S:Nat} (hB:HB B W w h H) (g:Gh c N P S H) (hN:N<=7000000000) (hP:P<=7000000) (hS:S<=1000000000) (hb:Utf.Bytes b) (hl:b.length<=1000) (hn:b.length=n) :
  Calls Tryz.prog 12 #[.pointer (some ⟨h,0,none⟩),.slice (some ⟨w.heap.size,0,none⟩) n cp] (w.alloc (.cells (b.map (Value.int .u8)).toArray 5 (n,n+1))) fun e w'=>(∃ ao c,e=.returned (.slice ao (H.told b).length c))/\HB (re B w (w.alloc (.cells (b.map (Value.int .u8)).toArray 5 (n,n+1)))) W w' h (H.bytes b) :=
 (hbytes_any (hB.re (Aa1 w (.cells (b.map (Value.int .u8)).toArray 5 (n,n+1)))) (g.bd hb hl hN hP) (by have:=g.sent;omega) hb (shows_lit B w _ _ .u8 b) hn (by omega)).mono fun e w' ⟨v,he,hr,hD⟩=>by
  obtain ⟨ao,c',e',_⟩:=Ad0 hr.1
  exact ⟨⟨ao,c',e'▸he⟩,hD.hb⟩
theorem known_any (hT:Tbl W):Calls Tryz.prog 8 #[] W fun e w'=>e=.returned (.bool true)/\Below W.heap.size W w':=by
  have hn1:Hid (Calls Tryz.prog 9 #[.int .i64 1,.int .i64 4,.int .i64 0] W fun e w'=>∃ h,e=.returned (.tuple #[.pointer (some ⟨h,0,none⟩),.int .i64 0])/\HB (fun k=>W.heap.size<=k) W w' h (newH 1 4 0)/\Below W.heap.size W w'):=J0 (hnew_yes hT (Below.refl _ _) 1 4 0 (by omega) (by omega) (by omega) (by omega) (by omega))
  have hn2:=J0 (fun w1 (hb:Below W.heap.size W w1)=>hnew_no (hT.below hb) 0 4 0 (by unfold Bf4;omega))
  have hb1:=J0 (fun w1 h (hB:HB (fun k=>W.heap.size<=k) W w1 h (newH 1 4 0))=>Ay4 (cp:=2) hB kg0 (by omega) (by omega) (by omega) Cq9 (by decide) (show kb1.length=2 from rfl))
  have hb2:=J0 (fun w1 h B (hB:HB B W w1 h kh1)=>Ay4 (cp:=3) hB kg1 (by omega) (by omega) (by omega) Cr0 (by decide) (show kb2.length=3 from rfl))
  have hb3:=J0 (fun w1 h B (hB:HB B W w1 h kh2)=>Ay4 (cp:=2) hB kg2 (by omega) (by omega) (by omega) kb3_b (by decide) (show kb3.length=2 from rfl))
  have e1:kh1=(newH 1 4 0).bytes kb1:=rfl
  have e2:kh2=kh1.bytes kb2:=rfl
  have e3:kh3=kh2.bytes kb3:=rfl
  rw [<- e1] at hb1
  rw [<- e2] at hb2
  rw [<- e3] at hb3
  clear e1 e2 e3 hT
  generalize newH 1 4 0=h0 at hn1 hb1
  simp only [kb1,kb2,kb3,List.map_cons,List.map_nil] at hb1 hb2 hb3
  have hcv2:=conv_two
  have hcv3:=conv_three
  go_enter Tryz.func8,Tryz.ntmps8
  go_upto_region 5 with (first
    |(go_at_call 9;(with_reducible refine (hn1.out).mono ?_);rintro e w1 ⟨h,rfl,hB1,hbl1⟩)
    |(go_at_call 9;(with_reducible refine (hn2.out _ hbl1).mono ?_);rintro e w2 ⟨rfl,hbl2⟩))
  have hB2:=hB1.on hbl2
  have hq1:=J0 (hb1.out _ _ hB2)
  clear hn1 hn2 hb1 hB1 hB2 hbl1 hbl2
  go_upto_region 6 with ((go_at_call 12;(with_reducible refine (hq1.out).mono ?_);rintro e w3 ⟨⟨ao3,cp3,rfl⟩,hB3⟩))
  have hq2:=J0 (hb2.out _ _ _ hB3)
  clear hq1 hB3 hb2
  go_upto_region 7 with ((go_at_call 12;(with_reducible refine (hq2.out).mono ?_);rintro e w4 ⟨⟨ao4,cp4,rfl⟩,hB4⟩))
  have hq3:=J0 (hb3.out _ _ _ hB4)
  clear hq2 hB4 hb3
  go_upto_region 8 with ((go_at_call 12;(with_reducible refine (hq3.out).mono ?_);rintro e w5 ⟨⟨ao5,cp5,rfl⟩,hB5⟩))
  clear hq3
  generalize re _ _ _=B5 at hB5
  have hgr:=hgrid_any hB5
  rw [kh3_L,kh3_cols,show kl.length=1 from rfl] at hgr
  generalize kh3.T.c=cu at hgr
  generalize kh3.T.m.a5=m5 at hgr
  generalize kh3.T.other.isNone=oi at hgr
  generalize kh3.T.vis.top=n2 at hgr
  generalize kh3.T.vis.bot=n3 at hgr
  generalize kh3.T.p.a=pa at hgr
  obtain ⟨q0,q1,q2⟩:=cu
  obtain ⟨r0,r1,r2⟩:=pa
  simp only at hgr
  replace hgr:=J0 hgr
  go_upto_region 9 with (go_at_call 23;(with_reducible refine (hgr.out).mono ?_);rintro e w6 ⟨g1,c1,g2,c2,rs,rfl,htl,hb6⟩)
  have hB6:=(hB5.on hb6).on (Aa1 w6 (.cells #[.slice (some ⟨g1,0,none⟩) 1 c1,.slice (some ⟨g2,0,none⟩) 1 c2,.int .i64 q0,.int .i64 q1,.bool q2,.bool (!m5),.bool oi,.int .i64 n2,.int .i64 n3,.int .u32 r0,.int .u32 r1,.int .u16 r2] 58))
  have hbx:=Block.made w6 58 #[.slice (some ⟨g1,0,none⟩) 1 c1,.slice (some ⟨g2,0,none⟩) 1 c2,.int .i64 q0,.int .i64 q1,.bool q2,.bool (!m5),.bool oi,.int .i64 n2,.int .i64 n3,.int .u32 r0,.int .u32 r1,.int .u16 r2]
  have htl7:=htl.below (Aa1 w6 (.cells #[.slice (some ⟨g1,0,none⟩) 1 c1,.slice (some ⟨g2,0,none⟩) 1 c2,.int .i64 q0,.int .i64 q1,.bool q2,.bool (!m5),.bool oi,.int .i64 n2,.int .i64 n3,.int .u32 r0,.int .u32 r1,.int .u16 r2] 58))
  obtain ⟨x,z1,z2,z3⟩:=htl7.row (i:=0) (by omega)
  have z4:=(z3 1 (by omega)).1
  have y0:=hbx.cell 0 (v:=.slice (some ⟨g1,0,none⟩) 1 c1) rfl
  have z5:(w6.alloc (.cells #[.slice (some ⟨g1,0,none⟩) 1 c1,.slice (some ⟨g2,0,none⟩) 1 c2,.int .i64 q0,.int .i64 q1,.bool q2,.bool (!m5),.bool oi,.int .i64 n2,.int .i64 n3,.int .u32 r0,.int .u32 r1,.int .u16 r2] 58)).cell? ⟨x,6,none⟩=some (.int .i32 233):=z4
  clear z4 z2 z3 htl htl7 hbx hgr hb6 hB5
  generalize w6.heap.size=bg at y0 |-
  generalize w6.alloc (.cells #[.slice (some ⟨g1,0,none⟩) 1 c1,.slice (some ⟨g2,0,none⟩) 1 c2,.int .i64 q0,.int .i64 q1,.bool q2,.bool (!m5),.bool oi,.int .i64 n2,.int .i64 n3,.int .u32 r0,.int .u32 r1,.int .u16 r2] 58)=w7 at hB6 z1 z5 y0 |-
  have hse:=Bq2 hB6
  rw [kh3_sent] at hse
  replace hse:=J0 hse
  have hst:strOfNums [27,91,49,59,51,82]={ data:=#[27,91,49,59,51,82] }:=by decide
  have hse2:=J0 (fun w8 B (hB:HB B W w8 h { kh3 with sent:=[] })=>Bq2 hB)
  have hpr:=J0 (fun w8 B (hB:HB B W w8 h { kh3 with sent:=[] })=>hprints_any hB)
  clear hB6
  go_wp2_with (first
    | (go_at_call 21
       with_reducible refine (hse.out).mono ?_
       rintro e w8 ⟨v8,rfl,hr8,hB8,-,-⟩
       obtain ⟨a8,c8,rfl,_⟩:=hr8.shape
       have hcv8:(convert 32 9 (.slice a8 6 c8)).run Tryz.prog w8=.ok (.string { data:=#[27,91,49,59,51,82] }) w8:=by
         have h9:=row_text (hr8.lower (Nat.zero_le _))
         rw [hst] at h9
         exact h9
       clear hr8)
    | (go_at_call 21
       with_reducible refine (hse2.out _ _ hB8).mono ?_
       rintro e w9 ⟨v9,rfl,hr9,hB9,-,-⟩
       obtain ⟨a9,c9,rfl,_⟩:=hr9.shape
       clear hr9)
    | (go_at_call 28
       with_reducible refine (hpr.out _ _ hB9).mono ?_
       rintro e w10 ⟨rfl,rfl⟩))
  go_ret
  exact ⟨rfl,hB9.below⟩
end
end Go.Proofs.YtbafmljidapmgaaGreatDoor.Hos
