/- Part 46 of the proof that the card of EmuAside holds. -/
import Derived.Test.YtkjpjegmanpbfaaGreatDoorPA45
set_option maxHeartbeats 16000000
set_option maxRecDepth 100000
namespace Go.Proofs.YtkjpjegmanpbfaaGreatDoor.Emu
open Go RowKit Com Rw Lns Scn
def Ca5 (r c b:Int) (os:List OpA):Bool:=!(decide (12<r) || (decide (24<c) || (decide (20<b) || decide ((120:Int)<(os.length:Int))))) && os.all Aj4
theorem all_take {os:List OpA} {k:Nat} (hk:k<os.length) (h:(os.take k).all Aj4=true) (h1:Aj4 os[k]=true):(os.take (k+1)).all Aj4=true:=by
 rw [List.take_add_one,List.getElem?_eq_getElem hk,List.all_append,h]
 simp [h1]
theorem all_false {os:List OpA} {k:Nat} (hk:k<os.length) (h1:Aj4 os[k]=false):os.all Aj4=false:=by
 rw [List.all_eq_false]
 exact ⟨_,List.getElem_mem hk,by simp [h1]⟩
section
variable {W wr w':World} {ao:Option Addr} {os:List OpA} {k:Nat}
theorem Bd8 (h:Bi0 W ao os) (hk:k<os.length):∃ ad,ao=some ad/\∀ w',Below W.heap.size W w'->∀ j v,(opV os[k])[j]?=some v->w'.cell? ((ad.add (k*10)).add j)=some v:=by
 obtain ⟨ad,e,hlt,hc⟩:=h k _ (List.getElem?_eq_getElem hk)
 exact ⟨ad,e,fun w' hb j v hj=>(World.cell?_of_block (w:=W) (by rw [block_add,block_add];exact hb.block _ hlt)).trans (hc j v hj)⟩
theorem By8 (r c b:Int) {n cp:Nat} (hW:Bi0 W ao os) (hn:os.length=n) (hb0:Below W.heap.size W wr):Calls Tryz.prog 19 #[.int .i64 r,.int .i64 c,.int .i64 b,.slice ao n cp] wr fun e w'=>e=.returned (.bool (Ca5 r c b os))/\Below wr.heap.size wr w':=by
 have hop:Hid (∀ k (hk:k<os.length),∃ ad,ao=some ad/\∀ w',Below W.heap.size W w'->∀ j v,(opV os[k])[j]?=some v->w'.cell? ((ad.add (k*10)).add j)=some v):=J0 fun k hk=>Bd8 hW hk
 replace hb0:=J0 hb0
 unfold Ca5
 rw [hn]
 have hst:Hid (Below wr.heap.size wr wr/\(os.take 0).all Aj4=true):=J0 ⟨Below.refl _ _,rfl⟩
 have hall:Hid ((os.take n).all Aj4=os.all Aj4):=J0 (by rw [List.take_of_length_le (by omega)])
 replace hn:=J0 hn
 clear hW
 cases h0:decide (12<r) with
 |true =>
  simp only [Bool.true_or,Bool.not_true,Bool.false_and]
  clear hst hall
  go_enter Tryz.func19,Tryz.ntmps19
  go_wp2
  go_ret
  exact ⟨rfl,Below.refl _ _⟩
 |false =>
  cases h1:decide (24<c) with
  |true =>
   simp only [Bool.true_or,Bool.or_true,Bool.not_true,Bool.false_and]
   clear hst hall
   go_enter Tryz.func19,Tryz.ntmps19
   go_wp2
   go_ret
   exact ⟨rfl,Below.refl _ _⟩
  |false =>
   cases h2:decide (20<b) with
   |true =>
    simp only [Bool.true_or,Bool.or_true,Bool.not_true,Bool.false_and]
    clear hst hall
    go_enter Tryz.func19,Tryz.ntmps19
    go_wp2
    go_ret
    exact ⟨rfl,Below.refl _ _⟩
   |false =>
    cases h3:decide ((120:Int)<(n:Int)) with
    |true =>
     simp only [Bool.or_true,Bool.not_true,Bool.false_and]
     clear hst hall
     go_enter Tryz.func19,Tryz.ntmps19
     go_wp2
     go_ret
     exact ⟨rfl,Below.refl _ _⟩
    |false =>
     simp only [Bool.false_or,Bool.not_false,Bool.true_and]
     generalize wr=w0 at *
     go_enter Tryz.func19,Tryz.ntmps19
     go_wp2
     go_loopw [27] (fun i wr=>∃ k:Nat,k<=n/\i=.int .i64 k/\Hid (Below w0.heap.size w0 wr/\(os.take k).all Aj4=true)) (fun i _=>n - (intOf i).toNat)
     case atStart=>exact ⟨0,Nat.zero_le _,rfl,hst⟩
     case round =>
      obtain ⟨k,hk,rfl,hQ⟩:=hrel
      clear hst
      by_cases hlt:k<n
      ·have hkI:(k:Int)<(n:Int):=by omega
       have hko:k<os.length:=by rw [hn.out];exact hlt
       obtain ⟨hb1,hal⟩:=hQ.out
       obtain ⟨ad,rfl,hcl⟩:=hop.out k hko
       have hcw:=hcl wr (Aa0 hb0.out hb1)
       have hyes:=J0 (all_take hko hal)
       have hno:=J0 (fun h=>all_false hko h)
       generalize os[k]=o at hcw hyes hno
       have x0:∀ (j:Nat) (v:Value),([.int .u8 o.x.kind,.int .i32 o.x.r,.int .i32 o.x.priv,.slice o.q.pa o.x.params.length o.q.pc,.slice o.q.ia o.x.inter.length o.q.ic,.int .i32 o.x.fin,.slice o.q.ta o.x.text.length o.q.tc]:List Value)[j]?=some v->wr.cell? ((ad.add (k*10)).add j)=some v:=fun j v hj=>by
        refine hcw j v ?_
        show (acV o.x o.q++_)[j]?=_
        exact (List.getElem?_append_left (List.getElem?_eq_some_iff.1 hj).1).trans hj
       have x7:wr.cell? ⟨(ad.add (k*10)).block,(ad.add (k*10)).off+7,none⟩=some (.bool o.size):=hcw 7 _ rfl
       have x8:wr.cell? ⟨(ad.add (k*10)).block,(ad.add (k*10)).off+8,none⟩=some (.int .i64 o.rows):=hcw 8 _ rfl
       have x9:wr.cell? ⟨(ad.add (k*10)).block,(ad.add (k*10)).off+9,none⟩=some (.int .i64 o.cols):=hcw 9 _ rfl
       have hgr:=J0 (great_any (k:=o.x.kind) (r:=o.x.r) (pr:=o.x.priv) (pa:=o.q.pa) (pn:=o.x.params.length) (pc:=o.q.pc) (ia:=o.q.ia) (im:=o.x.inter.length) (ic:=o.q.ic) (f:=o.x.fin) (ta:=o.q.ta) (tn:=o.x.text.length) (tc:=o.q.tc) wr)
       have htd:Aj4 o = !((o.size && (decide (12<o.rows) || decide (24<o.cols))) || Bc5 o.x.params.length o.x.inter.length o.x.text.length):=rfl
       have hn5:n<=120:=by have:=of_decide_eq_false h3;omega
       clear hcl hcw
       cases hs:o.size with
       |true =>
        rw [hs] at x7
        cases hr:decide (12<o.rows) with
        |true =>
         have hf:os.all Aj4=false:=hno.out (by rw [htd,hs,hr];rfl)
         have hq:=J0 hf
         clear hyes hno htd hf hQ hal hall
         go_wp2
         go_ret
         rw [hq.out]
         exact ⟨rfl,hb1⟩
        |false =>
         cases hc:decide (24<o.cols) with
         |true =>
          have hf:os.all Aj4=false:=hno.out (by rw [htd,hs,hr,hc];rfl)
          have hq:=J0 hf
          clear hyes hno htd hf hQ hal hall
          go_wp2
          go_ret
          rw [hq.out]
          exact ⟨rfl,hb1⟩
         |false =>
          cases hg:Bc5 o.x.params.length o.x.inter.length o.x.text.length with
          |true =>
           have hf:os.all Aj4=false:=hno.out (by rw [htd,hs,hr,hc,hg];rfl)
           have hq:=J0 hf
           clear hyes hno htd hf hQ hal hall
           rw [hg] at hgr
           go_wp2_with (first|(with_reducible show wpList _ _ _ (⟨some 56,.load _ (.tmp 55),_,_,_,_⟩::_) _ _;go_must (refine Rw.wpList_loadAt rfl 25 (.tmp 55) rfl (ad.add (k*10)) rfl [.int .u8 o.x.kind,.int .i32 o.x.r,.int .i32 o.x.priv,.slice o.q.pa o.x.params.length o.q.pc,.slice o.q.ia o.x.inter.length o.q.ic,.int .i32 o.x.fin,.slice o.q.ta o.x.text.length o.q.tc] _ x0 Tryz.underlying25 rfl (by kernel_rfl) ?_))|(go_at_call 7;(with_reducible refine hgr.out.mono ?_);rintro e w5 ⟨rfl,hb5⟩))
           go_ret
           rw [hq.out]
           exact ⟨rfl,Aa0 hb1 hb5⟩
          |false =>
           have hy:=hyes.out (by rw [htd,hs,hr,hc,hg];rfl)
           rw [hg] at hgr
           clear hyes hno htd hQ hal
           go_wp2_with (first|(with_reducible show wpList _ _ _ (⟨some 56,.load _ (.tmp 55),_,_,_,_⟩::_) _ _;go_must (refine Rw.wpList_loadAt rfl 25 (.tmp 55) rfl (ad.add (k*10)) rfl [.int .u8 o.x.kind,.int .i32 o.x.r,.int .i32 o.x.priv,.slice o.q.pa o.x.params.length o.q.pc,.slice o.q.ia o.x.inter.length o.q.ic,.int .i32 o.x.fin,.slice o.q.ta o.x.text.length o.q.tc] _ x0 Tryz.underlying25 rfl (by kernel_rfl) ?_))|(go_at_call 7;(with_reducible refine hgr.out.mono ?_);rintro e w5 ⟨rfl,hb5⟩))
           have hst2:=J0 (And.intro (Aa0 hb1 hb5) hy)
           clear hb5 hy x0 x7 x8 x9 hgr
           go_roundw
           case rel=>exact ⟨k+1,by omega,by go_num,hst2⟩
           case measure=>simp [intOf];omega
       |false =>
        rw [hs] at x7
        cases hg:Bc5 o.x.params.length o.x.inter.length o.x.text.length with
        |true =>
         have hf:os.all Aj4=false:=hno.out (by rw [htd,hs,hg];rfl)
         have hq:=J0 hf
         clear hyes hno htd hf hQ hal hall
         rw [hg] at hgr
         go_wp2_with (first|(with_reducible show wpList _ _ _ (⟨some 56,.load _ (.tmp 55),_,_,_,_⟩::_) _ _;go_must (refine Rw.wpList_loadAt rfl 25 (.tmp 55) rfl (ad.add (k*10)) rfl [.int .u8 o.x.kind,.int .i32 o.x.r,.int .i32 o.x.priv,.slice o.q.pa o.x.params.length o.q.pc,.slice o.q.ia o.x.inter.length o.q.ic,.int .i32 o.x.fin,.slice o.q.ta o.x.text.length o.q.tc] _ x0 Tryz.underlying25 rfl (by kernel_rfl) ?_))|(go_at_call 7;(with_reducible refine hgr.out.mono ?_);rintro e w5 ⟨rfl,hb5⟩))
         go_ret
         rw [hq.out]
         exact ⟨rfl,Aa0 hb1 hb5⟩
        |false =>
         have hy:=hyes.out (by rw [htd,hs,hg];rfl)
         rw [hg] at hgr
         clear hyes hno htd hQ hal
         go_wp2_with (first|(with_reducible show wpList _ _ _ (⟨some 56,.load _ (.tmp 55),_,_,_,_⟩::_) _ _;go_must (refine Rw.wpList_loadAt rfl 25 (.tmp 55) rfl (ad.add (k*10)) rfl [.int .u8 o.x.kind,.int .i32 o.x.r,.int .i32 o.x.priv,.slice o.q.pa o.x.params.length o.q.pc,.slice o.q.ia o.x.inter.length o.q.ic,.int .i32 o.x.fin,.slice o.q.ta o.x.text.length o.q.tc] _ x0 Tryz.underlying25 rfl (by kernel_rfl) ?_))|(go_at_call 7;(with_reducible refine hgr.out.mono ?_);rintro e w5 ⟨rfl,hb5⟩))
         have hst2:=J0 (And.intro (Aa0 hb1 hb5) hy)
         clear hb5 hy x0 x7 x8 x9 hgr
         go_roundw
         case rel=>exact ⟨k+1,by omega,by go_num,hst2⟩
         case measure=>simp [intOf];omega
      ·obtain rfl:k=n:=by omega
       obtain ⟨hb1,hal⟩:=hQ.out
       rw [hall.out] at hal
       have hq:=J0 hal
       clear hal hall hQ
       go_wp2
       go_ret
       rw [hq.out]
       exact ⟨rfl,hb1⟩
end
section
variable {Z:Zn} {W w0 wr w':World} {d t:Nat} {T:Ter} {ao:Option Addr} {os:List OpA} {k m:Nat} {o:OpA}
structure DoSt (Z:Zn) (W w0 wr:World) (d t:Nat) (T:Ter) (m:Nat) (os:List OpA) (k:Nat):Prop where
 tz:TZ Z W wr d t (runT T (os.take k))
 rm:Rm (m+k) (runT T (os.take k))
 fr:Scn.Fr Z TT w0 wr
theorem DoSt.res (h:DoSt Z W w0 wr d t T m os k) (hk:k<os.length) (ht:Aj4 os[k]=true) (hs:os[k].size=true) (h5:m+k<=500) {w1:World} (hb:Below wr.heap.size wr w1) :
  Calls Tryz.prog 10 #[.pointer (some ⟨d,0,none⟩),.int .i64 os[k].rows,.int .i64 os[k].cols] w1 fun e w2=>e=.returned (.int .i64 (if Ag9 os[k].rows os[k].cols then 0 else 2))/\DoSt Z W w0 w2 d t T m os (k+1):=by
 obtain ⟨h1,h2,h3⟩:=h
 have hr:=h2.nx
 have hj:=h2.jr
 refine ((h1.on hb).res os[k].rows os[k].cols (by omega) (by omega)).mono fun e w2 ⟨he,g,gf⟩=>⟨he,?_⟩
 have e1:runT T (os.take (k+1))=resizeT (runT T (os.take k)) os[k].rows os[k].cols:=by rw [Bq3 hk];unfold opT;rw [if_pos hs]
 have h4:=h2.op ht
 unfold opT at h4
 rw [if_pos hs] at h4
 exact ⟨by rw [e1];exact g,by rw [e1];exact h4,(h3.trans (Scn.Fr.of_below hb)).trans gf⟩
theorem DoSt.act (h:DoSt Z W w0 wr d t T m os k) (hk:k<os.length) (hin:OpIn W os[k]) (ht:Aj4 os[k]=true) (hs:os[k].size=false) (h5:m+k<=500) :
  Calls Tryz.prog 9 #[.pointer (some ⟨d,0,none⟩),.agg #[.int .u8 os[k].x.kind,.int .i32 os[k].x.r,.int .i32 os[k].x.priv,.slice os[k].q.pa os[k].x.params.length os[k].q.pc,.slice os[k].q.ia os[k].x.inter.length os[k].q.ic,.int .i32 os[k].x.fin,.slice os[k].q.ta os[k].x.text.length os[k].q.tc]] wr fun e w2=>e=.returned (.int .i64 0)/\DoSt Z W w0 w2 d t T m os (k+1):=by
 obtain ⟨h1,h2,h3⟩:=h
 refine (h1.act hin.act (h2.room h5 ht)).mono fun e w2 ⟨he,g,gf⟩=>⟨he,?_⟩
 have e1:runT T (os.take (k+1))=doT (runT T (os.take k)) os[k].x:=by rw [Bq3 hk];unfold opT;rw [hs];rfl
 have h4:=h2.op ht
 unfold opT at h4
 rw [hs] at h4
 exact ⟨by rw [e1];exact g,by rw [e1];exact h4,h3.trans gf⟩
theorem Ce4 (h:TZ Z W wr d t T) (hR:Rm m T) (hW:Bi0 W ao os) (hin:∀ o∈os,OpIn W o) (ht:os.all Aj4=true) (h5:m+os.length<=500) {n cp:Nat} (hn:os.length=n) :
  Calls Tryz.prog 20 #[.pointer (some ⟨d,0,none⟩),.slice ao n cp] wr fun e w'=>e=.returned (.bool true)/\TZ Z W w' d t (runT T os)/\Rm (m+n) (runT T os)/\Scn.Fr Z TT wr w':=by
 have hop:Hid (∀ k (hk:k<os.length),∃ ad,ao=some ad/\∀ w',Below W.heap.size W w'->∀ j v,(opV os[k])[j]?=some v->w'.cell? ((ad.add (k*10)).add j)=some v):=J0 fun k hk=>Bd8 hW hk
 have hst:Hid (DoSt Z W wr wr d t T m os 0):=J0 ⟨h,hR,Scn.Fr.refl _ _ _⟩
 have hend:Hid (∀ w1,DoSt Z W wr w1 d t T m os n->TZ Z W w1 d t (runT T os)/\Rm (m+n) (runT T os)/\Scn.Fr Z TT wr w1):=J0 fun w1 h1=>by
  have e:os.take n=os:=List.take_of_length_le (by omega)
  obtain ⟨a,b,c⟩:=h1
  rw [e] at a b
  exact ⟨a,b,c⟩
 have h6:n<=500:=by omega
 have h5':Hid (m+n<=500):=J0 (by omega)
 have hin':=J0 (fun k (hk:k<os.length)=>hin _ (List.getElem_mem hk))
 have ht':=J0 (fun k (hk:k<os.length)=>List.all_eq_true.1 ht _ (List.getElem_mem hk))
 generalize hRm:Rm (m+n) (runT T os)=Q1 at hend |-
 generalize hTz:runT T os=T9 at hend |-
 replace hn:=J0 hn
 clear h hR hW hin ht h5 hRm hTz
 generalize wr=w0 at *
 go_enter Tryz.func20,Tryz.ntmps20
 go_wp2
 go_loopw [10] (fun i wr=>∃ k:Nat,k<=n/\i=.int .i64 k/\Hid (DoSt Z W w0 wr d t T m os k)) (fun i _=>n - (intOf i).toNat)
 case atStart=>exact ⟨0,Nat.zero_le _,rfl,hst⟩
 case round =>
  obtain ⟨k,hk,rfl,hQ⟩:=hrel
  clear hst
  by_cases hlt:k<n
  ·have hkI:(k:Int)<(n:Int):=by omega
   have hko:k<os.length:=by rw [hn.out];exact hlt
   have hbW:=hQ.out.tz.below
   obtain ⟨ad,rfl,hcl⟩:=hop.out k hko
   have hti:=ht'.out k hko
   have h5k:m+k<=500:=by have:=h5'.out;omega
   have hrs:=J0 (fun hs w1 (hb:Below wr.heap.size wr w1)=>hQ.out.res hko hti hs h5k hb)
   have hac:=J0 (fun hs=>hQ.out.act hko (hin'.out k hko) hti hs h5k)
   clear hti h5k hop hQ
   generalize os[k]=o at hcl hrs hac
   replace hcl:Hid (∀ w',Below W.heap.size W w'->∀ j v,(opV o)[j]?=some v->w'.cell? ((ad.add (k*10)).add j)=some v):=J0 hcl
   have x7:wr.cell? ⟨(ad.add (k*10)).block,(ad.add (k*10)).off+7,none⟩=some (.bool o.size):=hcl.out wr hbW 7 _ rfl
   have x0:∀ (j:Nat) (v:Value),([.int .u8 o.x.kind,.int .i32 o.x.r,.int .i32 o.x.priv,.slice o.q.pa o.x.params.length o.q.pc,.slice o.q.ia o.x.inter.length o.q.ic,.int .i32 o.x.fin,.slice o.q.ta o.x.text.length o.q.tc]:List Value)[j]?=some v->wr.cell? ((ad.add (k*10)).add j)=some v:=fun j v hj=>by
    refine hcl.out wr hbW j v ?_
    show (acV o.x o.q++_)[j]?=_
    exact (List.getElem?_append_left (List.getElem?_eq_some_iff.1 hj).1).trans hj
   cases hs:o.size with
   |false =>
    rw [hs] at x7
    have hac2:=J0 (hac.out hs)
    clear hs hac hrs hcl
    go_wp2_with (first|(with_reducible show wpList _ _ _ (⟨some 77,.load _ (.tmp 76),_,_,_,_⟩::_) _ _;go_must (refine Rw.wpList_loadAt rfl 25 (.tmp 76) rfl (ad.add (k*10)) rfl [.int .u8 o.x.kind,.int .i32 o.x.r,.int .i32 o.x.priv,.slice o.q.pa o.x.params.length o.q.pc,.slice o.q.ia o.x.inter.length o.q.ic,.int .i32 o.x.fin,.slice o.q.ta o.x.text.length o.q.tc] _ x0 Tryz.underlying25 rfl (by kernel_rfl) ?_))|(go_at_call 9;(with_reducible refine (hac2.out).mono ?_);rintro e w2 ⟨rfl,hQ2⟩))
    replace hQ2:=J0 hQ2
    clear hac2 x0 x7
    go_roundw
    case rel=>exact ⟨k+1,by omega,by go_num,hQ2⟩
    case measure=>simp [intOf];omega
   |true =>
    rw [hs] at x7
    have hrs2:=J0 (hrs.out hs)
    clear hs hac hrs x0
    have hbW2:=J0 hbW
    go_upto_region 5 with (fail)
    clear x7
    refine Eqt.region_until (fun w'=>Below wr.heap.size wr w') (by kernel_rfl) ?_
    have hH:Below wr.heap.size wr wr.drew:=Aa4 (Below.refl wr.heap.size wr) 1
    refine Eqt.K2 0 ⟨some 18,_,_,_,_,_⟩ ?_ rfl (Or.inl ⟨by rfl,?_⟩) (fun _=>hH) ?_
    rotate_left 1
    ·(intro w;go_simp)<;>with_reducible rfl
    try simp only [Act.put,J1,J2,J3]
    refine Eqt.K2 1 ⟨some 19,_,_,_,_,_⟩ ?_ rfl (Or.inl ⟨by rfl,?_⟩) (fun _=>hH) ?_
    rotate_left 1
    ·(intro w;go_simp)<;>with_reducible rfl
    try simp only [Act.put,J1,J2,J3]
    refine Eqt.K2 2 ⟨some 20,_,_,_,_,_⟩ ?_ rfl (Or.inl ⟨by rfl,?_⟩) (fun _=>hH) ?_
    rotate_left 1
    ·(intro w;go_simp)<;>with_reducible rfl
    try simp only [Act.put,J1,J2,J3]
    refine Eqt.K2 3 ⟨some 21,_,_,_,_,_⟩ ?_ rfl (Or.inl ⟨by rfl,?_⟩) (fun _=>hH) ?_
    rotate_left 1
    ·(intro w;go_simp)<;>with_reducible rfl
    try simp only [Act.put,J1,J2,J3]
    refine Eqt.K2 4 ⟨some 22,_,_,_,_,_⟩ ?_ rfl (Or.inl ⟨by rfl,?_⟩) (fun _=>hH) ?_
    rotate_left 1
    ·(intro w;go_simp)<;>with_reducible rfl
    try simp only [Act.put,J1,J2,J3]
    refine Eqt.K2 6 ⟨some 24,_,_,_,_,_⟩ ?_ rfl (Or.inl ⟨by rfl,?_⟩) (fun _=>hH) ?_
    rotate_left 1
    ·(intro w;go_simp)<;>with_reducible rfl
    try simp only [Act.put,J1,J2,J3]
    refine Eqt.K2 7 ⟨some 25,_,_,_,_,_⟩ ?_ rfl (Or.inl ⟨by rfl,?_⟩) (fun _=>hH) ?_
    rotate_left 1
    ·(intro w;go_simp)<;>with_reducible rfl
    try simp only [Act.put,J1,J2,J3]
    refine Eqt.K2 8 ⟨some 26,_,_,_,_,_⟩ ?_ rfl (Or.inl ⟨by rfl,?_⟩) (fun _=>hH) ?_
    rotate_left 1
    ·(intro w;go_simp)<;>with_reducible rfl
    try simp only [Act.put,J1,J2,J3]
    refine Eqt.K2 9 ⟨some 27,_,_,_,_,_⟩ ?_ rfl (Or.inl ⟨by rfl,?_⟩) (fun _=>hH) ?_
    rotate_left 1
    ·(intro w;go_simp)<;>with_reducible rfl
    try simp only [Act.put,J1,J2,J3]
    refine Eqt.K1 5 ⟨some 23,_,_,_,_,_⟩ ?_ rfl (Or.inl ⟨by rfl,?_⟩) hH ?_
    rotate_left 1
    ·(intro w hSw;have x8:w.cell? ⟨(ad.add (k*10)).block,(ad.add (k*10)).off+8,none⟩=some (.int .i64 o.rows):=hcl.out w (Aa0 hbW2.out hSw) 8 _ rfl;go_simp)<;>with_reducible rfl
    try simp only [Act.put,J1,J2,J3]
    refine Eqt.K1 10 ⟨some 28,_,_,_,_,_⟩ ?_ rfl (Or.inl ⟨by rfl,?_⟩) hH ?_
    rotate_left 1
    ·(intro w hSw;have x9:w.cell? ⟨(ad.add (k*10)).block,(ad.add (k*10)).off+9,none⟩=some (.int .i64 o.cols):=hcl.out w (Aa0 hbW2.out hSw) 9 _ rfl;go_simp)<;>with_reducible rfl
    try simp only [Act.put,J1,J2,J3]
    refine Eqt.wpAnyU_one 11 [] (o:=⟨some 29,_,_,_,_,_⟩) (by kernel_rfl) rfl (by kernel_rfl) (fun K hK=>?_)
    go_simp
    go_at_call 10
    with_reducible refine (hrs2.out _ hH).mono ?_
    rintro e w2 ⟨rfl,hQ2⟩
    refine hK.out _ _ (fun h=>absurd rfl h) ?_
    clear hK K
    try simp only [Act.put,J1,J2,J3]
    refine Eqt.K2 12 ⟨some 6,_,_,_,_,_⟩ ?_ rfl (Or.inl ⟨by rfl,?_⟩) (fun h=>absurd rfl h) ?_
    rotate_left 1
    ·(intro w;go_simp)<;>with_reducible rfl
    try simp only [Act.put,J1,J2,J3]
    refine Eqt.wpAnyU_done (by kernel_rfl) ?_ _
    (try dsimp only [Act.put])
    have hbW3:=hQ2.tz.below
    have x8:w2.cell? ⟨(ad.add (k*10)).block,(ad.add (k*10)).off+8,none⟩=some (.int .i64 o.rows):=hcl.out w2 hbW3 8 _ rfl
    have x9:w2.cell? ⟨(ad.add (k*10)).block,(ad.add (k*10)).off+9,none⟩=some (.int .i64 o.cols):=hcl.out w2 hbW3 9 _ rfl
    replace hQ2:=J0 hQ2
    have hms:Hid ((if Ag9 o.rows o.cols then (0:Int) else 2)=if decide (1<=o.rows) && (decide (o.rows<=512) && (decide (1<=o.cols) && decide (o.cols<=512))) then 0 else 2):=J0 (by
     unfold Ag9
     by_cases a1:1<=o.rows<;>by_cases a2:o.rows<=512<;>by_cases a3:1<=o.cols<;>by_cases a4:o.cols<=512<;>simp [a1,a2,a3,a4])
    clear hrs2 hcl hbW3
    rw [hms.out]
    clear hms
    cases a0:decide (1<=o.rows) with
    |false =>
     simp only [Bool.false_and,Bool.false_eq_true,if_false]
     go_wp2
     go_roundw
     case rel=>exact ⟨k+1,by omega,by go_num,hQ2⟩
     case measure=>simp [intOf];omega
    |true =>
     cases a1:decide (o.rows<=512) with
     |false =>
      simp only [Bool.false_and,Bool.and_false,Bool.false_eq_true,if_false]
      go_wp2
      go_roundw
      case rel=>exact ⟨k+1,by omega,by go_num,hQ2⟩
      case measure=>simp [intOf];omega
     |true =>
      cases a2:decide (1<=o.cols) with
      |false =>
       simp only [Bool.false_and,Bool.and_false,Bool.false_eq_true,if_false]
       go_wp2
       go_roundw
       case rel=>exact ⟨k+1,by omega,by go_num,hQ2⟩
       case measure=>simp [intOf];omega
      |true =>
       cases a3:decide (o.cols<=512) with
       |false =>
        simp only [Bool.and_false,Bool.false_eq_true,if_false]
        go_wp2
        go_roundw
        case rel=>exact ⟨k+1,by omega,by go_num,hQ2⟩
        case measure=>simp [intOf];omega
       |true =>
        simp only [Bool.and_self,if_true]
        go_wp2
        go_roundw
        case rel=>exact ⟨k+1,by omega,by go_num,hQ2⟩
        case measure=>simp [intOf];omega
  ·obtain rfl:k=n:=by omega
   have hres:=J0 (hend.out _ hQ.out)
   clear hQ hend
   go_wp2
   go_ret
   exact ⟨rfl,hres.out⟩
end
