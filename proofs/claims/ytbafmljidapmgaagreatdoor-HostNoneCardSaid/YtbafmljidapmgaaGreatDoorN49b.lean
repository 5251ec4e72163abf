/- Part 49 of the proof that the card of HostNone holds. -/
import Derived.Test.YtbafmljidapmgaaGreatDoorN49
set_option maxHeartbeats 16000000
set_option maxRecDepth 100000
namespace Go.Proofs.YtbafmljidapmgaaGreatDoor.Emu
open Go RowKit Com Rw Lns Scn
section
variable {w wr w':World}
theorem Br2 (w:World):(binOp .neq 63 (.agg #[.bool false,.bool false,.bool false,.bool false,.bool false,.bool false,.bool false,.bool false]) (.agg #[.bool false,.bool false,.bool false,.bool false,.bool false,.bool false,.bool false,.bool false])).run Tryz.prog w=.ok (.bool false) w:=by kernel_rfl
end
end Go.Proofs.YtbafmljidapmgaaGreatDoor.Emu
namespace Go.Proofs.YtbafmljidapmgaaGreatDoor.Hos
open Go RowKit Com Emu
section
variable {W w w':World}
theorem Bw8 (w:World):(Instr.field 58 (.agg #[.slice none 0 0,.slice none 0 0,.int .i64 0,.int .i64 0,.bool false,.bool false,.bool false,.int .i64 0,.int .i64 0,.int .u32 0,.int .u32 0,.int .u16 0]) 0).run Tryz.prog w=.ok (.slice none 0 0) w:=by kernel_rfl
theorem Bw9 (w:World):(Instr.field 81 (.agg #[.slice none 0 0,.int .i64 0,.int .i64 0,.int .i64 0]) 0).run Tryz.prog w=.ok (.slice none 0 0) w:=by kernel_rfl
theorem Bw3 (w:World):(eqGuard .neq 63 (.tmp 80) (.tmp 81) (.agg #[.bool false,.bool false,.bool false,.bool false,.bool false,.bool false,.bool false,.bool false]) (.agg #[.bool false,.bool false,.bool false,.bool false,.bool false,.bool false,.bool false,.bool false])).run Tryz.prog w=.ok () w:=by kernel_rfl
theorem none_law (o:Oh) (W:World) (hT:Tbl W):Calls Tryz.prog 6 #[.agg (ohV o).toArray] W fun e w'=>e=.returned (.bool true)/\Below W.heap.size W w':=by
  have hkn:=J0 (fun w1 (hb:Below W.heap.size W w1)=>known_any (hT.below hb))
  have hoh:Cq1 ((W.alloc (.cells (ohV o).toArray 37)).alloc (.cells (ohV o).toArray 37)) (some ⟨W.heap.size+1,0,none⟩) [o]:=fun k hk=>by
    obtain rfl:k=0:=by simp at hk;omega
    refine ⟨_,rfl,fun j v hv=>?_⟩
    have hm:=Block.made (W.alloc (.cells (ohV o).toArray 37)) 37 (ohV o).toArray
    rw [World.size_alloc] at hm
    simp only [Addr.add_lit,Nat.zero_mul,Nat.zero_add]
    exact hm.cell j (by simpa using hv)
  have hgr:=great_any (n:=1) (cp:=1) 1 1 1 hoh rfl
  have hb1:=Aa0 (Aa1 W (.cells (ohV o).toArray 37)) (Aa1 (W.alloc (.cells (ohV o).toArray 37)) (.cells (ohV o).toArray 37))
  have hbx:=(Block.made W 37 (ohV o).toArray).alloc (.cells (ohV o).toArray 37)
  have hbx0:=Block.made W 37 (ohV o).toArray
  clear hoh hT
  generalize Ao8 1 1 1 [o]=y at hgr
  obtain ⟨kd,b,rows,cols,⟨kk,kr,kn,km⟩,text,ba,bc,ta,tc⟩:=o
  simp only [ohV] at hgr hb1 hbx hbx0 |-
  generalize b.length=bl at *
  generalize text.length=tl at *
  have hld:∀ j v,([.int .i64 kd,.slice ba bl bc,.int .i64 rows,.int .i64 cols,.int .u8 kk,.int .i32 kr,.int .i64 kn,.int .u8 km,.slice ta tl tc]:List Value)[j]?=some v->(W.alloc (.cells #[.int .i64 kd,.slice ba bl bc,.int .i64 rows,.int .i64 cols,.int .u8 kk,.int .i32 kr,.int .i64 kn,.int .u8 km,.slice ta tl tc] 37)).cell? ((⟨W.heap.size,0,none⟩:Addr).add j)=some v:=fun j v hv=>by
    rw [Addr.add_lit,Nat.zero_add]
    exact hbx0.cell j (by simpa using hv)
  have hinf:(Tryz.prog.info? 37).map (·.size)=some 9:=by kernel_rfl
  replace hgr:=J0 hgr
  replace hb1:=J0 hb1
  replace hbx:=J0 hbx
  clear hbx0
  cases y with
  |true =>
    go_enter Tryz.func6,Tryz.ntmps6
    go_wp2_with (first
      |(with_reducible show wpList _ _ _ (⟨some 9,.load _ (.tmp 1),_,_,_,_⟩::_) _ _;go_must (refine Rw.wpList_loadAt rfl 37 (.tmp 1) rfl ⟨W.heap.size,0,none⟩ rfl [.int .i64 kd,.slice ba bl bc,.int .i64 rows,.int .i64 cols,.int .u8 kk,.int .i32 kr,.int .i64 kn,.int .u8 km,.slice ta tl tc] _ hld Tryz.underlying37 rfl (by kernel_rfl) ?_))
      |(go_at_call 7;(with_reducible refine (hgr.out).mono ?_);rintro e w1 ⟨rfl,rfl⟩)
      |(go_at_call 8;(with_reducible refine (hkn.out _ hb1.out).mono ?_);rintro e w2 ⟨rfl,hb2⟩))
    go_ret
    exact ⟨rfl,Aa0 hb1.out hb2⟩
  |false =>
    have hbx1:=hbx.out
    have hbb1:=hb1.out
    go_enter Tryz.func6,Tryz.ntmps6
    go_upto_region 5 with (first
      |(with_reducible show wpList _ _ _ (⟨some 9,.load _ (.tmp 1),_,_,_,_⟩::_) _ _;go_must (refine Rw.wpList_loadAt rfl 37 (.tmp 1) rfl ⟨W.heap.size,0,none⟩ rfl [.int .i64 kd,.slice ba bl bc,.int .i64 rows,.int .i64 cols,.int .u8 kk,.int .i32 kr,.int .i64 kn,.int .u8 km,.slice ta tl tc] _ hld Tryz.underlying37 rfl (by kernel_rfl) ?_))
      |(go_at_call 7;(with_reducible refine (hgr.out).mono ?_);rintro e w1 ⟨rfl,rfl⟩))
    clear hgr hb1 hbx hld hinf
    generalize hw2:(W.alloc (.cells #[.int .i64 kd,.slice ba bl bc,.int .i64 rows,.int .i64 cols,.int .u8 kk,.int .i32 kr,.int .i64 kn,.int .u8 km,.slice ta tl tc] 37)).alloc (.cells #[.int .i64 kd,.slice ba bl bc,.int .i64 rows,.int .i64 cols,.int .u8 kk,.int .i32 kr,.int .i64 kn,.int .u8 km,.slice ta tl tc] 37)=w2 at hbx1 hbb1 |-
    have hs2:w2.heap.size=W.heap.size+1+1:=by rw [<- hw2];simp
    obtain ⟨z,hzE⟩:∃ z,z=W.heap.size+1+1:=⟨_,rfl⟩
    have hbz:=Aa0 hbb1 (Aa0 (Aa1 w2 (.cells #[.pointer none] 88)) (Aa1 (w2.alloc (.cells #[.pointer none] 88)) (.cells #[.pointer none,.pointer (some ⟨z,0,none⟩)] 25)))
    have hz:=(Block.made w2 88 #[.pointer none]).alloc (.cells #[.pointer none,.pointer (some ⟨z,0,none⟩)] 25)
    have hp:=Block.made (w2.alloc (.cells #[.pointer none] 88)) 25 #[.pointer none,.pointer (some ⟨z,0,none⟩)]
    have hbx4:=(hbx1.alloc (.cells #[.pointer none] 88)).alloc (.cells #[.pointer none,.pointer (some ⟨z,0,none⟩)] 25)
    rw [World.size_alloc,hs2,<- hzE] at hp
    rw [hs2,<- hzE] at hz
    rw [<- hzE]
    obtain ⟨g,hg⟩:∃ g,g=z+1:=⟨_,rfl⟩
    rw [<- hg] at hp |-
    clear hbb1 hbx1 hw2 hs2
    generalize (w2.alloc (.cells #[.pointer none] 88)).alloc (.cells #[.pointer none,.pointer (some ⟨z,0,none⟩)] 25)=w4 at hbz hz hp hbx4 |-
    replace hzE:=J0 hzE
    replace hg:=J0 hg
    generalize hbe:W.heap.size=bx at hbx4 |-
    replace hbe:=J0 hbe
    have hst:Hid (Below W.heap.size W w4/\Block w4 bx 37 #[.int .i64 kd,.slice ba bl bc,.int .i64 rows,.int .i64 cols,.int .u8 kk,.int .i32 kr,.int .i64 kn,.int .u8 km,.slice ta tl tc]/\Block w4 z 88 #[.pointer none]/\Block w4 g 25 #[.pointer none,.pointer (some ⟨z,0,none⟩)]):=J0 ⟨hbz,hbx4,hz,hp⟩
    clear hbz hbx4 hz hp
    go_wp2
    go_loopw [16] (fun i wr=>∃ j:Nat,j<=2/\i=.int .i64 j/\Hid (Below W.heap.size W wr/\Block wr bx 37 #[.int .i64 kd,.slice ba bl bc,.int .i64 rows,.int .i64 cols,.int .u8 kk,.int .i32 kr,.int .i64 kn,.int .u8 km,.slice ta tl tc]/\Block wr z 88 #[.pointer none]/\Block wr g 25 #[.pointer none,.pointer (some ⟨z,0,none⟩)])) (fun i _=>2 - (intOf i).toNat)
    case atStart=>exact ⟨0,by omega,rfl,hst⟩
    case round =>
      obtain ⟨j,hj,rfl,hR⟩:=hrel
      clear hst
      by_cases hlt:j<2
      · have hj2:j=0\/j=1:=by omega
        rcases hj2 with rfl|rfl
        · obtain ⟨hb,hbx,hz,hp⟩:=hR.out
          have hno:NoH wr (.pointer none):=.inl rfl
          have yp:=hp.cell 0 (v:=.pointer none) rfl
          have y1:=hbx.cell 1 (v:=.slice ba bl bc) rfl
          have y2:=hbx.cell 2 (v:=.int .i64 rows) rfl
          have y3:=hbx.cell 3 (v:=.int .i64 cols) rfl
          have y4:=hbx.cell 4 (v:=.int .u8 kk) rfl
          have y5:=hbx.cell 5 (v:=.int .i32 kr) rfl
          have y6:=hbx.cell 6 (v:=.int .i64 kn) rfl
          have y7:=hbx.cell 7 (v:=.int .u8 km) rfl
          have y8:=hbx.cell 8 (v:=.slice ta tl tc) rfl
          have hn:=J0 (fun w1 (hb:Below wr.heap.size wr w1)=>hno.below hb)
          have hin:=J0 (fun w1 (hb1:Below wr.heap.size wr w1)=>(⟨hb.trans (hb1.mono hb.size),Block.only hbx (Only.of_below hb1 []) (by simp),Block.only hz (Only.of_below hb1 []) (by simp),Block.only hp (Only.of_below hb1 []) (by simp)⟩:(Below W.heap.size W w1/\Block w1 bx 37 #[.int .i64 kd,.slice ba bl bc,.int .i64 rows,.int .i64 cols,.int .u8 kk,.int .i32 kr,.int .i64 kn,.int .u8 km,.slice ta tl tc]/\Block w1 z 88 #[.pointer none]/\Block w1 g 25 #[.pointer none,.pointer (some ⟨z,0,none⟩)])))
          have hb0:=Below.refl wr.heap.size wr
          have hkk:=J0 (fun w1 (hb:Below wr.heap.size wr w1)=>Cf6 (k:=⟨kk,kr,kn,km⟩) (hno.below hb))
          have hnq:=Br2
          have hng:=Bw3
          have hf1:=Bw8
          have hf2:=Bw9
          have hld1:Hid (∀ w1,Below wr.heap.size wr w1->w1.cell? ⟨bx,1,none⟩=some (.slice ba bl bc)/\w1.cell? ⟨bx,8,none⟩=some (.slice ta tl tc)):=J0 fun w1 hb1=>by
            have h1:=Block.only hbx (Only.of_below hb1 []) (by simp)
            exact ⟨h1.cell 1 rfl,h1.cell 8 rfl⟩
          simp only [Kys.kA] at hkk
          clear hno hb hbx hz hp hR
          go_wp2_with (first
            |(go_at_call 14;(with_reducible refine (Cf8 (hn.out _ hb0) rows cols).mono ?_);rintro e w1 ⟨rfl,rfl⟩)
            | (go_at_call 16
               with_reducible refine (hkk.out _ hb0).mono ?_
               rintro e w2 ⟨rfl,hb2⟩
               obtain ⟨u1,u8⟩:=hld1.out _ hb2)
            |(go_at_call 18;(with_reducible refine (Cf7 (hn.out _ hb2)).mono ?_);rintro e w3 ⟨rfl,rfl⟩)
            |(go_at_call 20;(with_reducible refine (By3 (hn.out _ hb2)).mono ?_);rintro e w4 ⟨rfl,rfl⟩)
            |(go_at_call 12;(with_reducible refine (Bq0 (hn.out _ hb2)).mono ?_);rintro e w5 ⟨rfl,rfl⟩)
            |(go_at_call 21;(with_reducible refine (By4 (hn.out _ hb2)).mono ?_);rintro e w6 ⟨rfl,rfl⟩)
            |(go_at_call 30;(with_reducible refine (Bx9 (hn.out _ hb2)).mono ?_);rintro e w7 ⟨rfl,rfl⟩)
            |(go_at_call 23;(with_reducible refine (By0 (hn.out _ hb2)).mono ?_);rintro e w8 ⟨rfl,hb8'⟩;have hb8:=Aa0 hb2 hb8')
            |(go_at_call 32;(with_reducible refine (By5 (hn.out _ hb8)).mono ?_);rintro e w9 ⟨rfl,hb9'⟩;have hb9:=Aa0 hb8 hb9')
            |(go_at_call 27;(with_reducible refine (By1 (hn.out _ hb9)).mono ?_);rintro e w10 ⟨rfl,hb10'⟩;have hb10:=Aa0 hb9 hb10')
            |(go_at_call 28;(with_reducible refine (By2 (hn.out _ hb10)).mono ?_);rintro e w11 ⟨rfl,rfl⟩))
          have hst:=J0 (hin.out _ hb10)
          go_roundw
          case rel=>exact ⟨1,by omega,by go_num,hst⟩
          case measure=>simp [intOf]
        · obtain ⟨hb,hbx,hz,hp⟩:=hR.out
          have hno:NoH wr (.pointer (some ⟨z,0,none⟩)):=.inr ⟨z,rfl,hz⟩
          have yp:=hp.cell 1 (v:=.pointer (some ⟨z,0,none⟩)) rfl
          have y1:=hbx.cell 1 (v:=.slice ba bl bc) rfl
          have y2:=hbx.cell 2 (v:=.int .i64 rows) rfl
          have y3:=hbx.cell 3 (v:=.int .i64 cols) rfl
          have y4:=hbx.cell 4 (v:=.int .u8 kk) rfl
          have y5:=hbx.cell 5 (v:=.int .i32 kr) rfl
          have y6:=hbx.cell 6 (v:=.int .i64 kn) rfl
          have y7:=hbx.cell 7 (v:=.int .u8 km) rfl
          have y8:=hbx.cell 8 (v:=.slice ta tl tc) rfl
          have hn:=J0 (fun w1 (hb:Below wr.heap.size wr w1)=>hno.below hb)
          have hin:=J0 (fun w1 (hb1:Below wr.heap.size wr w1)=>(⟨hb.trans (hb1.mono hb.size),Block.only hbx (Only.of_below hb1 []) (by simp),Block.only hz (Only.of_below hb1 []) (by simp),Block.only hp (Only.of_below hb1 []) (by simp)⟩:(Below W.heap.size W w1/\Block w1 bx 37 #[.int .i64 kd,.slice ba bl bc,.int .i64 rows,.int .i64 cols,.int .u8 kk,.int .i32 kr,.int .i64 kn,.int .u8 km,.slice ta tl tc]/\Block w1 z 88 #[.pointer none]/\Block w1 g 25 #[.pointer none,.pointer (some ⟨z,0,none⟩)])))
          have hb0:=Below.refl wr.heap.size wr
          have hkk:=J0 (fun w1 (hb:Below wr.heap.size wr w1)=>Cf6 (k:=⟨kk,kr,kn,km⟩) (hno.below hb))
          have hnq:=Br2
          have hng:=Bw3
          have hf1:=Bw8
          have hf2:=Bw9
          have hld1:Hid (∀ w1,Below wr.heap.size wr w1->w1.cell? ⟨bx,1,none⟩=some (.slice ba bl bc)/\w1.cell? ⟨bx,8,none⟩=some (.slice ta tl tc)):=J0 fun w1 hb1=>by
            have h1:=Block.only hbx (Only.of_below hb1 []) (by simp)
            exact ⟨h1.cell 1 rfl,h1.cell 8 rfl⟩
          simp only [Kys.kA] at hkk
          clear hno hb hbx hz hp hR
          go_wp2_with (first
            |(go_at_call 14;(with_reducible refine (Cf8 (hn.out _ hb0) rows cols).mono ?_);rintro e w1 ⟨rfl,rfl⟩)
            | (go_at_call 16
               with_reducible refine (hkk.out _ hb0).mono ?_
               rintro e w2 ⟨rfl,hb2⟩
               obtain ⟨u1,u8⟩:=hld1.out _ hb2)
            |(go_at_call 18;(with_reducible refine (Cf7 (hn.out _ hb2)).mono ?_);rintro e w3 ⟨rfl,rfl⟩)
            |(go_at_call 20;(with_reducible refine (By3 (hn.out _ hb2)).mono ?_);rintro e w4 ⟨rfl,rfl⟩)
            |(go_at_call 12;(with_reducible refine (Bq0 (hn.out _ hb2)).mono ?_);rintro e w5 ⟨rfl,rfl⟩)
            |(go_at_call 21;(with_reducible refine (By4 (hn.out _ hb2)).mono ?_);rintro e w6 ⟨rfl,rfl⟩)
            |(go_at_call 30;(with_reducible refine (Bx9 (hn.out _ hb2)).mono ?_);rintro e w7 ⟨rfl,rfl⟩)
            |(go_at_call 23;(with_reducible refine (By0 (hn.out _ hb2)).mono ?_);rintro e w8 ⟨rfl,hb8'⟩;have hb8:=Aa0 hb2 hb8')
            |(go_at_call 32;(with_reducible refine (By5 (hn.out _ hb8)).mono ?_);rintro e w9 ⟨rfl,hb9'⟩;have hb9:=Aa0 hb8 hb9')
            |(go_at_call 27;(with_reducible refine (By1 (hn.out _ hb9)).mono ?_);rintro e w10 ⟨rfl,hb10'⟩;have hb10:=Aa0 hb9 hb10')
            |(go_at_call 28;(with_reducible refine (By2 (hn.out _ hb10)).mono ?_);rintro e w11 ⟨rfl,rfl⟩))
          have hst:=J0 (hin.out _ hb10)
          go_roundw
          case rel=>exact ⟨2,by omega,by go_num,hst⟩
          case measure=>simp [intOf]
      · obtain rfl:j=2:=by omega
        obtain ⟨hb,_,_,_⟩:=hR.out
        go_wp2_with ((go_at_call 8;(with_reducible refine (hkn.out _ hb).mono ?_);rintro e w2 ⟨rfl,hb2⟩))
        go_ret
        exact ⟨rfl,hb.trans (hb2.mono hb.size)⟩
end
end Go.Proofs.YtbafmljidapmgaaGreatDoor.Hos
namespace Go.Proofs.YtbafmljidapmgaaGreatDoor.Hos
open Go RowKit
theorem goes_none {P:Program} (h:P.funcs.toList.any Func.goes=false) (f:FuncId):P.goes f=false:=by
 have hall:∀ fn∈P.funcs.toList,fn.goes=false:=fun fn hfn=>by
  rw [List.any_eq_false] at h
  simpa using h fn hfn
 have h1:P.funcs.any Func.goes=false:=by
  rw [<- Array.any_toList]
  exact h
 unfold Program.goes
 rw [h1,Bool.and_false,Bool.or_false,List.any_eq_false]
 intro g _ hg
 cases hq:P.funcs[g]? with
 |none=>rw [hq] at hg;cases hg
 |some fn =>
  rw [hq] at hg
  have h2:fn∈P.funcs.toList:=by
   have:=Array.mem_of_getElem? hq
   simpa using this
  have h3:=hall fn h2
  simp only [Option.any_some] at hg
  rw [h3] at hg
  cases hg
theorem goes_by {P:Program} (h:P.funcs.toList.any Func.goes=false) {c:OpenClaim} (hs:c.start=.entering):false=c.goesBy P:=by
 unfold OpenClaim.goesBy Program.goesAt Program.goesFrom
 rw [hs]
 simp only [Bool.or_false]
 cases P.funcNamed c.func with
 |none=>rfl
 |some f=>exact (goes_none h f).symm
theorem no_go:Tryz.pinned.checked.prog.funcs.toList.any Func.goes=false:=by kernel_rfl
